/- Walks: the functions that Put and Apply give to replace. -/
import Derived.Test.YtgmcjnhaedfinaaQba
namespace Go.Proofs.Ytgmcjnhaedfinaa
open Go.RowKit Go.Maps
set_option linter.unusedVariables false
set_option linter.unusedSimpArgs false
set_option maxRecDepth 100000

theorem res_cell4_tmp {fn : Func} {s c : Tmp} {tmps : Array Value} {w : World} {g : Nat} {T : TypeId} {cs : Array Value} (hr : fn.results = #[.cell c 24, .tmp s]) (ht : tmps.getD c undef = .pointer (some ⟨g, 0, none⟩)) (hB : Blk w g T cs) (h4 : cs.size = 4) :
    (results fn tmps).run Try.prog w = .ok (.tuple #[.agg cs, tmps.getD s undef]) w := by
  obtain ⟨l⟩ := cs
  obtain ⟨a, b, c', d, rfl⟩ := four_of (show l.length = 4 from h4)
  have d0 := hB.cell 0
  have d1 := hB.cell 1
  have d2 := hB.cell 2
  have d3 := hB.cell 3
  simp only [List.getElem?_toArray, List.getElem?_cons_succ, List.getElem?_cons_zero] at d0 d1 d2 d3
  have ht' : tmps[c]?.getD undef = .pointer (some ⟨g, 0, none⟩) := by rw [← ht]; simp
  simp [results, hr, ht', go_sem, d0, d1, d2, d3]
/-- What a map holds for a key, and what should stand there. -/
def LookOk (W : World) (B : Nat) (look : Option Ty) (v : Option Value) : Prop := match look with
  | some u => ∃ cs : List Value, v = some (.agg cs.toArray) ∧ TyAt W B cs u
  | none => v = none
def CaseOk (W : World) (B : Nat) (look : Option Ty) (ok : Bool) (ds : List Value) : Prop := match look with
  | some u => ok = true ∧ TyAt W B ds u
  | none => ok = false
theorem fnd_subs {W : World} {B : Nat} : ∀ (l : List Sb) (x : Int) (P : List (Lit × List Value)), P.length = l.length → (∀ i (h1 : i < P.length) (h2 : i < l.length), P[i].1 = .int .i64 l[i].n ∧ TyAt W B P[i].2 l[i].t) →
    match lookSb l x with
    | some u => ∃ cs : List Value, fnd P (.int .i64 x) = some (.agg cs.toArray) ∧ TyAt W B cs u
    | none => fnd P (.int .i64 x) = none
  | [], x, P, hl, _ => by
    have : P = [] := List.eq_nil_of_length_eq_zero (by simpa using hl)
    subst this
    simp [lookSb, fnd]
  | s :: l, x, [], hl, _ => by simp at hl
  | s :: l, x, p :: P, hl, hT => by
    have ih := fnd_subs l x P (by simpa using hl) (fun i h1 h2 => hT (i + 1) (by simp; omega) (by simp; omega))
    obtain ⟨e1, e2⟩ := hT 0 (by simp) (by simp)
    have e1' : p.1 = .int .i64 s.n := e1
    have e2' : TyAt W B p.2 s.t := e2
    have e : (Lit.int .i64 x).sameKey p.1 = decide (s.n = x) := by
      rw [e1']
      show decide (IntKind.i64 = IntKind.i64 ∧ x = s.n) = _
      simp [eq_comm]
    simp only [lookSb, fnd, e]
    by_cases hn : s.n = x
    · simp only [hn, decide_true, if_true]
      exact ⟨p.2, rfl, e2'⟩
    · simp only [hn, decide_false, if_false]
      simpa using ih

set_option maxHeartbeats 6400000 in
theorem put1_any (F : Lit → Option Value) (look : Option Ty) (B mb mc n : Nat) (W : World) (hB : B ≤ W.heap.size) (hmc : Blk W mc 64 #[.map (some mb)]) (hm : MapV W 9 mb n F) (t : Ty) (cs : List Value) (hx : TyAt W B cs t)
    (hF : LookOk W B look (F (.string t.nm.data.toList))) (f : Option Ty) (hf : f = if t.k = 1 then look else none) :
    Calls Try.prog 45 #[.agg cs.toArray, .pointer (some ⟨mc, 0, none⟩)] W (OthPost B f W) := by
  obtain ⟨k, nm, n0, A, c, ks, rfl, rfl⟩ := ty_cells hx
  obtain ⟨_, hk, hs, hn, hc, hm9, L0, htys⟩ := ty_open hx _ _ _ _ _ _ _ rfl rfl
  obtain ⟨W1, hW1⟩ : ∃ W1, (W.alloc (.cells #[.int .i64 k, .string nm, .int .i64 n0, .slice A ks.length c] 24)).alloc (.cells zTy 24) = W1 := ⟨_, rfl⟩
  have hg : Below W.heap.size W W1 := by rw [← hW1]; exact ((Below.refl _ _).alloc (Nat.le_refl _) _).alloc (by simp) _
  have hsz : W1.heap.size = W.heap.size + 2 := by rw [← hW1]; simp
  have hbx : Blk W1 W.heap.size 24 #[.int .i64 k, .string nm, .int .i64 n0, .slice A ks.length c] := by rw [← hW1]; exact (Blk.new _ _ _).alloc _
  have hrs : Blk W1 (W.heap.size + 1) 24 zTy := by rw [← hW1]; have := Blk.new (W.alloc (.cells #[.int .i64 k, .string nm, .int .i64 n0, .slice A ks.length c] 24)) 24 zTy; simpa using this
  have hzv : ∀ w : World, (zeroValue 24).run Try.prog w = .ok (.agg zTy) w := fun w => Try.zeroValue24 w
  have hlk := (hm.below hg).look keyed_str Try.underlying64 (hzv W1) (key_str hs)
  have hmc1 := hmc.below hg hmc.lt
  have mc0 := hmc1.cell 0
  simp only [List.getElem?_toArray, List.getElem?_cons_succ, List.getElem?_cons_zero] at mc0
  simp only [Ty.nm, Ty.n] at hF
  -- what the look-up yields
  obtain ⟨d0, d1, d2, d3, ok, hval, hoo, hcase⟩ : ∃ d0 d1 d2 d3 ok, (Instr.lookup 64 (.map (some mb)) (.string nm) true).run Try.prog W1 = .ok (.tuple #[.agg #[d0, d1, d2, d3], .bool ok]) W1 ∧ (∀ u ∈ [d0, d1, d2, d3], u.oneCell' = true) ∧
      CaseOk W B look ok [d0, d1, d2, d3] := by
    cases look with
    | some u =>
      obtain ⟨cs, h1, h2⟩ := hF
      obtain ⟨d0, d1, d2, d3, rfl⟩ := four_of h2.four
      rw [h1] at hlk
      exact ⟨d0, d1, d2, d3, true, hlk, ty_ones h2, rfl, h2⟩
    | none =>
      rw [hF] at hlk
      exact ⟨_, _, _, _, false, hlk, by intro u hu; simp only [List.mem_cons, List.not_mem_nil, or_false] at hu; rcases hu with rfl | rfl | rfl | rfl <;> rfl, rfl⟩
  have sd0 := store_one' d0 (hoo d0 (by simp))
  have sd1 := store_one' d1 (hoo d1 (by simp))
  have sd2 := store_one' d2 (hoo d2 (by simp))
  have sd3 := store_one' d3 (hoo d3 (by simp))
  have hbxA := hbx.alloc (.cells #[d0, d1, d2, d3] 24)
  have hrsA := hrs.alloc (.cells #[d0, d1, d2, d3] 24)
  have hoA := Blk.new W1 24 #[d0, d1, d2, d3]
  have x0 := hbx.cell 0
  have x1 := hbx.cell 1
  have x2 := hbx.cell 2
  have x3 := hbx.cell 3
  simp only [zTy, List.getElem?_toArray, List.getElem?_cons_succ, List.getElem?_cons_zero] at x0 x1 x2 x3
  have xa0 := hbxA.cell 0
  have xa1 := hbxA.cell 1
  have xa2 := hbxA.cell 2
  have xa3 := hbxA.cell 3
  simp only [zTy, List.getElem?_toArray, List.getElem?_cons_succ, List.getElem?_cons_zero] at xa0 xa1 xa2 xa3
  have ra0 := hrsA.cell 0
  have ra1 := hrsA.cell 1
  have ra2 := hrsA.cell 2
  have ra3 := hrsA.cell 3
  simp only [zTy, List.getElem?_toArray, List.getElem?_cons_succ, List.getElem?_cons_zero] at ra0 ra1 ra2 ra3
  have fa0 := hrsA.frozen 0
  have fa1 := hrsA.frozen 1
  have fa2 := hrsA.frozen 2
  have fa3 := hrsA.frozen 3
  have oa0 := hoA.cell 0
  have oa1 := hoA.cell 1
  have oa2 := hoA.cell 2
  have oa3 := hoA.cell 3
  simp only [zTy, List.getElem?_toArray, List.getElem?_cons_succ, List.getElem?_cons_zero] at oa0 oa1 oa2 oa3
  have xd0 := hbxA.drew.cell 0
  have xd1 := hbxA.drew.cell 1
  have xd2 := hbxA.drew.cell 2
  have xd3 := hbxA.drew.cell 3
  simp only [zTy, List.getElem?_toArray, List.getElem?_cons_succ, List.getElem?_cons_zero] at xd0 xd1 xd2 xd3
  have rd0 := hrsA.drew.cell 0
  have rd1 := hrsA.drew.cell 1
  have rd2 := hrsA.drew.cell 2
  have rd3 := hrsA.drew.cell 3
  simp only [zTy, List.getElem?_toArray, List.getElem?_cons_succ, List.getElem?_cons_zero] at rd0 rd1 rd2 rd3
  have fd0 := hrsA.drew.frozen 0
  have fd1 := hrsA.drew.frozen 1
  have fd2 := hrsA.drew.frozen 2
  have fd3 := hrsA.drew.frozen 3
  have od0 := hoA.drew.cell 0
  have od1 := hoA.drew.cell 1
  have od2 := hoA.drew.cell 2
  have od3 := hoA.drew.cell 3
  simp only [zTy, List.getElem?_toArray, List.getElem?_cons_succ, List.getElem?_cons_zero] at od0 od1 od2 od3
  have HW := Lib.hid hW1
  have HG := Lib.hid hg
  have HZ := Lib.hid hsz
  have HRA := Lib.hid (hrsA.put4_ d0 d1 d2 d3).drew
  have HB9 := Lib.hid (show Below W.heap.size W (put4 (W1.alloc (.cells #[d0, d1, d2, d3] 24)) (W.heap.size + 1) d0 d1 d2 d3).drew from (below_put4 (hg.alloc (by omega) _) (by omega) _ _ _ _).drew)
  have HCA := Lib.hid hcase
  have HF := Lib.hid hf
  have HOO := Lib.hid hoo
  have HBB := Lib.hid hB
  clear hx hg hW1 hsz hbx hrs hlk hmc1 hF hcase hf hoo hbxA hrsA hoA htys hk hs hn hc hm9 hB
  cases look with
  | some u =>
    obtain ⟨rfl, hty⟩ := HCA.out
    have HTY := Lib.hid (hty.later (HB9.out.mono HBB.out))
    clear hty
    by_cases h1 : k = 1
    · have d1' : (k == 1) = true := by simpa using h1
      have HK := Lib.hid h1
      clear h1
      go_enter Try.func45, Try.ntmps45
      go_upto_region 1 with fail
      unfold zTy at HW
      rw [HW.out]
      go_upto_region 2 with fail
      go_region
      go_wp2_with fail
      exact bodyPost_ret (v := .tuple #[.agg #[d0, d1, d2, d3], .bool true]) (res_cell4_tmp (s := 4) (c := 3) rfl rfl HRA.out rfl) rfl ⟨HB9.out, by rw [HF.out.trans (if_pos HK.out)]; exact ⟨[d0, d1, d2, d3], rfl, HTY.out⟩⟩
    · have d1' : (k == 1) = false := by simpa using h1
      have HK := Lib.hid h1
      clear h1
      go_enter Try.func45, Try.ntmps45
      go_upto_region 1 with fail
      unfold zTy at HW
      rw [HW.out]
      go_upto_region 2 with fail
      go_region
      go_wp2_with fail
      exact bodyPost_ret (v := .tuple #[.agg #[d0, d1, d2, d3], .bool false]) (res_cell4_tmp (s := 4) (c := 3) rfl rfl HRA.out rfl) rfl ⟨HB9.out, by rw [HF.out.trans (if_neg HK.out)]; exact ⟨d0, d1, d2, d3, HOO.out, rfl⟩⟩
  | none =>
    obtain rfl := HCA.out
    go_enter Try.func45, Try.ntmps45
    go_upto_region 1 with fail
    unfold zTy at HW
    rw [HW.out]
    go_upto_region 2 with fail
    go_region
    go_wp2_with fail
    exact bodyPost_ret (v := .tuple #[.agg #[d0, d1, d2, d3], .bool false]) (res_cell4_tmp (s := 4) (c := 3) rfl rfl HRA.out rfl) rfl ⟨HB9.out, by rw [HF.out.trans (ite_self _)]; exact ⟨d0, d1, d2, d3, HOO.out, rfl⟩⟩

set_option maxHeartbeats 6400000 in
theorem app1_any (F : Lit → Option Value) (look : Option Ty) (B mb mc n : Nat) (W : World) (hB : B ≤ W.heap.size) (hmc : Blk W mc 72 #[.map (some mb)]) (hm : MapV W 3 mb n F) (t : Ty) (cs : List Value) (hx : TyAt W B cs t)
    (hF : LookOk W B look (F (.int .i64 t.n))) (f : Option Ty) (hf : f = if t.k = 2 then look else none) :
    Calls Try.prog 48 #[.agg cs.toArray, .pointer (some ⟨mc, 0, none⟩)] W (OthPost B f W) := by
  obtain ⟨k, nm, n0, A, c, ks, rfl, rfl⟩ := ty_cells hx
  obtain ⟨_, hk, hs, hn, hc, hm9, L0, htys⟩ := ty_open hx _ _ _ _ _ _ _ rfl rfl
  obtain ⟨W1, hW1⟩ : ∃ W1, (W.alloc (.cells #[.int .i64 k, .string nm, .int .i64 n0, .slice A ks.length c] 24)).alloc (.cells zTy 24) = W1 := ⟨_, rfl⟩
  have hg : Below W.heap.size W W1 := by rw [← hW1]; exact ((Below.refl _ _).alloc (Nat.le_refl _) _).alloc (by simp) _
  have hsz : W1.heap.size = W.heap.size + 2 := by rw [← hW1]; simp
  have hbx : Blk W1 W.heap.size 24 #[.int .i64 k, .string nm, .int .i64 n0, .slice A ks.length c] := by rw [← hW1]; exact (Blk.new _ _ _).alloc _
  have hrs : Blk W1 (W.heap.size + 1) 24 zTy := by rw [← hW1]; have := Blk.new (W.alloc (.cells #[.int .i64 k, .string nm, .int .i64 n0, .slice A ks.length c] 24)) 24 zTy; simpa using this
  have hzv : ∀ w : World, (zeroValue 24).run Try.prog w = .ok (.agg zTy) w := fun w => Try.zeroValue24 w
  have hlk := (hm.below hg).look keyed_int Try.underlying72 (hzv W1) (key_int hn)
  have hmc1 := hmc.below hg hmc.lt
  have mc0 := hmc1.cell 0
  simp only [List.getElem?_toArray, List.getElem?_cons_succ, List.getElem?_cons_zero] at mc0
  simp only [Ty.nm, Ty.n] at hF
  -- what the look-up yields
  obtain ⟨d0, d1, d2, d3, ok, hval, hoo, hcase⟩ : ∃ d0 d1 d2 d3 ok, (Instr.lookup 72 (.map (some mb)) (.int .i64 n0) true).run Try.prog W1 = .ok (.tuple #[.agg #[d0, d1, d2, d3], .bool ok]) W1 ∧ (∀ u ∈ [d0, d1, d2, d3], u.oneCell' = true) ∧
      CaseOk W B look ok [d0, d1, d2, d3] := by
    cases look with
    | some u =>
      obtain ⟨cs, h1, h2⟩ := hF
      obtain ⟨d0, d1, d2, d3, rfl⟩ := four_of h2.four
      rw [h1] at hlk
      exact ⟨d0, d1, d2, d3, true, hlk, ty_ones h2, rfl, h2⟩
    | none =>
      rw [hF] at hlk
      exact ⟨_, _, _, _, false, hlk, by intro u hu; simp only [List.mem_cons, List.not_mem_nil, or_false] at hu; rcases hu with rfl | rfl | rfl | rfl <;> rfl, rfl⟩
  have sd0 := store_one' d0 (hoo d0 (by simp))
  have sd1 := store_one' d1 (hoo d1 (by simp))
  have sd2 := store_one' d2 (hoo d2 (by simp))
  have sd3 := store_one' d3 (hoo d3 (by simp))
  have hbxA := hbx.alloc (.cells #[d0, d1, d2, d3] 24)
  have hrsA := hrs.alloc (.cells #[d0, d1, d2, d3] 24)
  have hoA := Blk.new W1 24 #[d0, d1, d2, d3]
  have x0 := hbx.cell 0
  have x1 := hbx.cell 1
  have x2 := hbx.cell 2
  have x3 := hbx.cell 3
  simp only [zTy, List.getElem?_toArray, List.getElem?_cons_succ, List.getElem?_cons_zero] at x0 x1 x2 x3
  have xa0 := hbxA.cell 0
  have xa1 := hbxA.cell 1
  have xa2 := hbxA.cell 2
  have xa3 := hbxA.cell 3
  simp only [zTy, List.getElem?_toArray, List.getElem?_cons_succ, List.getElem?_cons_zero] at xa0 xa1 xa2 xa3
  have ra0 := hrsA.cell 0
  have ra1 := hrsA.cell 1
  have ra2 := hrsA.cell 2
  have ra3 := hrsA.cell 3
  simp only [zTy, List.getElem?_toArray, List.getElem?_cons_succ, List.getElem?_cons_zero] at ra0 ra1 ra2 ra3
  have fa0 := hrsA.frozen 0
  have fa1 := hrsA.frozen 1
  have fa2 := hrsA.frozen 2
  have fa3 := hrsA.frozen 3
  have oa0 := hoA.cell 0
  have oa1 := hoA.cell 1
  have oa2 := hoA.cell 2
  have oa3 := hoA.cell 3
  simp only [zTy, List.getElem?_toArray, List.getElem?_cons_succ, List.getElem?_cons_zero] at oa0 oa1 oa2 oa3
  have xd0 := hbxA.drew.cell 0
  have xd1 := hbxA.drew.cell 1
  have xd2 := hbxA.drew.cell 2
  have xd3 := hbxA.drew.cell 3
  simp only [zTy, List.getElem?_toArray, List.getElem?_cons_succ, List.getElem?_cons_zero] at xd0 xd1 xd2 xd3
  have rd0 := hrsA.drew.cell 0
  have rd1 := hrsA.drew.cell 1
  have rd2 := hrsA.drew.cell 2
  have rd3 := hrsA.drew.cell 3
  simp only [zTy, List.getElem?_toArray, List.getElem?_cons_succ, List.getElem?_cons_zero] at rd0 rd1 rd2 rd3
  have fd0 := hrsA.drew.frozen 0
  have fd1 := hrsA.drew.frozen 1
  have fd2 := hrsA.drew.frozen 2
  have fd3 := hrsA.drew.frozen 3
  have od0 := hoA.drew.cell 0
  have od1 := hoA.drew.cell 1
  have od2 := hoA.drew.cell 2
  have od3 := hoA.drew.cell 3
  simp only [zTy, List.getElem?_toArray, List.getElem?_cons_succ, List.getElem?_cons_zero] at od0 od1 od2 od3
  have HW := Lib.hid hW1
  have HG := Lib.hid hg
  have HZ := Lib.hid hsz
  have HRA := Lib.hid (hrsA.put4_ d0 d1 d2 d3).drew
  have HB9 := Lib.hid (show Below W.heap.size W (put4 (W1.alloc (.cells #[d0, d1, d2, d3] 24)) (W.heap.size + 1) d0 d1 d2 d3).drew from (below_put4 (hg.alloc (by omega) _) (by omega) _ _ _ _).drew)
  have HCA := Lib.hid hcase
  have HF := Lib.hid hf
  have HOO := Lib.hid hoo
  have HBB := Lib.hid hB
  clear hx hg hW1 hsz hbx hrs hlk hmc1 hF hcase hf hoo hbxA hrsA hoA htys hk hs hn hc hm9 hB
  cases look with
  | some u =>
    obtain ⟨rfl, hty⟩ := HCA.out
    have HTY := Lib.hid (hty.later (HB9.out.mono HBB.out))
    clear hty
    by_cases h1 : k = 2
    · have d1' : (k == 2) = true := by simpa using h1
      have HK := Lib.hid h1
      clear h1
      go_enter Try.func48, Try.ntmps48
      go_upto_region 1 with fail
      unfold zTy at HW
      rw [HW.out]
      go_upto_region 2 with fail
      go_region
      go_wp2_with fail
      exact bodyPost_ret (v := .tuple #[.agg #[d0, d1, d2, d3], .bool true]) (res_cell4_tmp (s := 4) (c := 3) rfl rfl HRA.out rfl) rfl ⟨HB9.out, by rw [HF.out.trans (if_pos HK.out)]; exact ⟨[d0, d1, d2, d3], rfl, HTY.out⟩⟩
    · have d1' : (k == 2) = false := by simpa using h1
      have HK := Lib.hid h1
      clear h1
      go_enter Try.func48, Try.ntmps48
      go_upto_region 1 with fail
      unfold zTy at HW
      rw [HW.out]
      go_upto_region 2 with fail
      go_region
      go_wp2_with fail
      exact bodyPost_ret (v := .tuple #[.agg #[d0, d1, d2, d3], .bool false]) (res_cell4_tmp (s := 4) (c := 3) rfl rfl HRA.out rfl) rfl ⟨HB9.out, by rw [HF.out.trans (if_neg HK.out)]; exact ⟨d0, d1, d2, d3, HOO.out, rfl⟩⟩
  | none =>
    obtain rfl := HCA.out
    go_enter Try.func48, Try.ntmps48
    go_upto_region 1 with fail
    unfold zTy at HW
    rw [HW.out]
    go_upto_region 2 with fail
    go_region
    go_wp2_with fail
    exact bodyPost_ret (v := .tuple #[.agg #[d0, d1, d2, d3], .bool false]) (res_cell4_tmp (s := 4) (c := 3) rfl rfl HRA.out rfl) rfl ⟨HB9.out, by rw [HF.out.trans (ite_self _)]; exact ⟨d0, d1, d2, d3, HOO.out, rfl⟩⟩

end Go.Proofs.Ytgmcjnhaedfinaa
