/- Walks: the program's Args. -/
import Derived.Test.YtgmcjnhaedfinaaQaa
namespace Go.Proofs.Ytgmcjnhaedfinaa
open Go.RowKit
set_option linter.unusedVariables false
set_option linter.unusedSimpArgs false
set_option maxRecDepth 100000

def sliceLen' : Value → Nat
  | .slice _ n _ => n
  | _ => 0
theorem own_put4 {w : World} {base size n g : Nat} {e : TypeId} {v : Value} {xs : List Value} (h : w.ownsRow base e size v n xs) (hg : g < base) (y0 y1 y2 y3 : Value) : (put4 w g y0 y1 y2 y3).ownsRow base e size v n xs := by
  refine ⟨h.1, ?_⟩
  rcases h.2 with h0 | ⟨g', cap, cur, hv, hb, hh, hr⟩
  · exact .inl h0
  · exact .inr ⟨g', cap, cur, hv, hb, (heap_put4 w g g' (by omega) y0 y1 y2 y3).trans hh, hr⟩
theorem own_shape4 {w : World} {base size : Nat} {e : TypeId} {v : Value} {n : Nat} {xs : List Value} (h : w.ownsRow base e size v n xs) : ∃ (A : Option Addr) (c : Nat), v = .slice A n c ∧ n ≤ c := by
  rcases h.2 with ⟨rfl, rfl⟩ | ⟨g, cap, cur, rfl, _, _, hn, _⟩
  · exact ⟨none, 0, rfl, Nat.le_refl _⟩
  · exact ⟨_, cap, rfl, hn⟩
theorem ty_open {w : World} {B : Nat} {cs : List Value} {t : Ty} (h : TyAt w B cs t) : ∀ (k : Int) (nm : ByteArray) (n : Int) (ks : List Ty) (A : Option Addr) (l c : Nat), t = .mk k nm n ks → cs = [.int .i64 k, .string nm, .int .i64 n, .slice A l c] →
    l = ks.length ∧ ok64 k ∧ nm.size ≤ maxLen ∧ ok64 n ∧ ks.length ≤ c ∧ c ≤ maxLen ∧ ∃ L, TysAt w B A ks L := by
  cases h with
  | mk hk hs hn hc hm hb hr hks =>
    intro k' nm' n' ks' A' l' c' e1 e2
    injection e1 with e1 e3 e4 e5
    subst e1 e3 e4 e5
    simp only [List.cons.injEq, Value.slice.injEq, and_true, true_and] at e2
    obtain ⟨rfl, rfl, rfl⟩ := e2
    exact ⟨rfl, hk, hs, hn, hc, hm, _, hr, hks⟩
/-- What Args answers. -/
def ArgsPost (B : Nat) (l : List Ty) (x : Ty) (w : World) (e : Ending) (w' : World) : Prop :=
  ∃ v cs L, e = .returned (.tuple #[v, .agg (cs : List Value).toArray]) ∧ w'.ownsRow w.heap.size 24 4 v l.length L.flatten ∧ TsAt w' B l L ∧ TyX (mid B w.heap.size) w' cs x ∧ Below w.heap.size w w'
theorem res_tmp_cell4 {fn : Func} {s c : Tmp} {tmps : Array Value} {w : World} {g : Nat} {T : TypeId} {cs : Array Value} (hr : fn.results = #[.tmp s, .cell c 24]) (ht : tmps.getD c undef = .pointer (some ⟨g, 0, none⟩)) (hB : Blk w g T cs) (h4 : cs.size = 4) :
    (results fn tmps).run Try.prog w = .ok (.tuple #[tmps.getD s undef, .agg cs]) w := by
  obtain ⟨l⟩ := cs
  obtain ⟨a, b, c', d, rfl⟩ := four_of (show l.length = 4 from h4)
  have d0 := hB.cell 0
  have d1 := hB.cell 1
  have d2 := hB.cell 2
  have d3 := hB.cell 3
  simp only [List.getElem?_toArray, List.getElem?_cons_succ, List.getElem?_cons_zero] at d0 d1 d2 d3
  have ht' : tmps[c]?.getD undef = .pointer (some ⟨g, 0, none⟩) := by rw [← ht]; simp
  simp [results, hr, ht', go_sem, d0, d1, d2, d3]
set_option maxHeartbeats 6400000 in
theorem pargs_any {t : Ty} {l : List Ty} {x : Ty} (h : ArgsR t l x) (hl9 : l.length ≤ 4000000) (B : Nat) (w : World) (cs : List Value) (hB : B ≤ w.heap.size) (hx : TyAt w B cs t) :
    Calls Try.prog 9 #[.agg cs.toArray] w (ArgsPost B l x w) := by
  have h4 := hx.four
  have oo := ty_ones hx
  obtain ⟨a0, a1, a2, a3, rfl⟩ := four_of h4
  have sa0 := store_one' a0 (oo a0 (by simp))
  have sa1 := store_one' a1 (oo a1 (by simp))
  have sa2 := store_one' a2 (oo a2 (by simp))
  have sa3 := store_one' a3 (oo a3 (by simp))
  obtain ⟨W1, hW1⟩ : ∃ W1, (w.alloc (.cells #[a0, a1, a2, a3] 24)).alloc (.cells zTy 24) = W1 := ⟨_, rfl⟩
  have hg : Below w.heap.size w W1 := by rw [← hW1]; exact ((Below.refl _ _).alloc (Nat.le_refl _) _).alloc (by simp) _
  have hsz : W1.heap.size = w.heap.size + 2 := by rw [← hW1]; simp
  have hbx : Blk W1 w.heap.size 24 #[a0, a1, a2, a3] := by rw [← hW1]; exact (Blk.new _ _ _).alloc _
  have hrs : Blk W1 (w.heap.size + 1) 24 zTy := by rw [← hW1]; have := Blk.new (w.alloc (.cells #[a0, a1, a2, a3] 24)) 24 zTy; simpa using this
  obtain ⟨i0, hi, hz0, hz1, hz2⟩ := info_parts ty_info
  have HI := Lib.hid hi
  have HZ0 := Lib.hid hz0
  have HZ1 := Lib.hid hz1
  have HZ2 := Lib.hid hz2
  clear hi hz0 hz1 hz2
  have HW := Lib.hid hW1
  have HG := Lib.hid hg
  have HSZ := Lib.hid hsz
  have HBX := Lib.hid hbx
  have HRS := Lib.hid hrs
  have HX := Lib.hid (hx.later (hg.mono hB))
  have HBB := Lib.hid hB
  have HAR := Lib.hid h
  clear hx h4 oo hW1 hg hsz hbx hrs h
  go_enter Try.func9, Try.ntmps9
  go_upto_region 1 with fail
  unfold zTy at HW
  rw [HW.out]
  go_wp2_with fail
  go_loopw [4] (fun v wr => ∃ (cur : Ty) (cl pre : List Ty) (ds : List Value) (L : List (List Value)) (A : Option Addr) (q c : Nat), v = .slice A q c ∧ pre.length = q ∧ pre ++ cl = l ∧ ArgsR cur cl x ∧ TyAt wr B ds cur ∧ Blk wr w.heap.size 24 ds.toArray ∧ Blk wr (w.heap.size + 1) 24 zTy ∧ wr.ownsRow (w.heap.size + 2) 24 4 v pre.length L.flatten ∧ TsAt wr B pre L ∧ Below w.heap.size w wr) (fun v _ => l.length + 1 - sliceLen' v)
  case atStart => exact ⟨t, l, [], [a0, a1, a2, a3], [], none, 0, 0, rfl, rfl, rfl, HAR.out, HX.out, HBX.out, HRS.out, World.ownsRow_nil _ _ _ _, TsAt.nil_ _ _, HG.out⟩
  case round =>
    obtain ⟨cur, cl, pre, ds, L, A, q, c, rfl, hq, hpl, har, hty, hbx, hrs, hown, hts, hbe⟩ := hrel
    rw [hq] at hown
    obtain ⟨k, nm, n, A1, c1, ks, rfl, rfl⟩ := ty_cells hty
    have x0 := hbx.cell 0
    have x1 := hbx.cell 1
    have x2 := hbx.cell 2
    have x3 := hbx.cell 3
    simp only [zTy, List.getElem?_toArray, List.getElem?_cons_succ, List.getElem?_cons_zero] at x0 x1 x2 x3
    have f0 := hbx.frozen 0
    have f1 := hbx.frozen 1
    have f2 := hbx.frozen 2
    have f3 := hbx.frozen 3
    have xd0 := hbx.drew.cell 0
    have xd1 := hbx.drew.cell 1
    have xd2 := hbx.drew.cell 2
    have xd3 := hbx.drew.cell 3
    simp only [zTy, List.getElem?_toArray, List.getElem?_cons_succ, List.getElem?_cons_zero] at xd0 xd1 xd2 xd3
    have r0 := hrs.cell 0
    have r1 := hrs.cell 1
    have r2 := hrs.cell 2
    have r3 := hrs.cell 3
    simp only [zTy, List.getElem?_toArray, List.getElem?_cons_succ, List.getElem?_cons_zero] at r0 r1 r2 r3
    have e0 := hrs.frozen 0
    have e1 := hrs.frozen 1
    have e2 := hrs.frozen 2
    have e3 := hrs.frozen 3
    have rd0 := hrs.drew.cell 0
    have rd1 := hrs.drew.cell 1
    have rd2 := hrs.drew.cell 2
    have rd3 := hrs.drew.cell 3
    simp only [zTy, List.getElem?_toArray, List.getElem?_cons_succ, List.getElem?_cons_zero] at rd0 rd1 rd2 rd3
    have fd0 := hrs.drew.frozen 0
    have fd1 := hrs.drew.frozen 1
    have fd2 := hrs.drew.frozen 2
    have fd3 := hrs.drew.frozen 3
    have HTY := Lib.hid hty
    have HBX := Lib.hid hbx
    have HRS := Lib.hid hrs
    have HOW := Lib.hid hown
    have HTS := Lib.hid hts
    have HBE := Lib.hid hbe
    have HQ := Lib.hid hq
    have HPL := Lib.hid hpl
    clear hbx hrs hown hts hbe hq hpl
    obtain ⟨m, hm⟩ : ∃ m, ks.length = m := ⟨_, rfl⟩
    cases har with
    | stop hf =>
      have HEND := Lib.hid (show ArgsPost B l (.mk k nm n ks) w (.returned (.tuple #[.slice A q c, .agg #[.int .i64 k, .string nm, .int .i64 n, .slice A1 ks.length c1]])) (put4 wr (w.heap.size + 1) (.int .i64 k) (.string nm) (.int .i64 n) (.slice A1 ks.length c1)).drew from by
        have hpre : pre = l := by have := HPL.out; simpa using this
        have hb9 := (below_put4 HBE.out (show w.heap.size ≤ w.heap.size + 1 by omega) (.int .i64 k) (.string nm) (.int .i64 n) (.slice A1 ks.length c1)).drew
        have hb8 := (below_put4 (Below.refl B wr) (show B ≤ w.heap.size + 1 by omega) (.int .i64 k) (.string nm) (.int .i64 n) (.slice A1 ks.length c1)).drew
        refine ⟨_, [.int .i64 k, .string nm, .int .i64 n, .slice A1 ks.length c1], L, rfl, ?_, ?_, ?_, hb9⟩
        · have := own_put4 (w := wr) (g := w.heap.size + 1) HOW.out (by omega) (.int .i64 k) (.string nm) (.int .i64 n) (.slice A1 ks.length c1)
          rw [← hpre, HQ.out]
          exact own_less (base' := w.heap.size) this (by omega)
        · rw [← hpre]; exact HTS.out.later hb8
        · exact TyX.of_old (HTY.out.later hb8) (by have := hb9.size; omega) fun k hk => (mid_iff.1 hk).1)
      have HR9 := Lib.hid ((HRS.out.put4_ (.int .i64 k) (.string nm) (.int .i64 n) (.slice A1 ks.length c1)).drew)
      have HK := Lib.hid hf
      clear hf hty
      rw [hm] at HEND HR9 x3 xd3
      by_cases e1 : k = 3
      · have d1 : (k == 3) = true := by simpa using e1
        cases e2 : nmEq nm sArrow with
        | true =>
          have d2 := arrow_yes e2
          have d3 : ((m : Int) == 2) = false := by
            rw [beq_eq_false_iff_ne]
            intro h
            have h2 : m = 2 := by omega
            have := HK.out
            simp [isFunT, Ty.k, Ty.nm, Ty.ks, e1, e2, hm, h2] at this
          clear e1 e2 hm
          go_wp2_with fail
          go_region
          go_wp2_with fail
          exact bodyPost_ret (v := .tuple #[.slice A q c, .agg #[.int .i64 k, .string nm, .int .i64 n, .slice A1 m c1]]) (res_tmp_cell4 (s := 2) (c := 3) rfl rfl HR9.out rfl) rfl HEND.out
        | false =>
          have d2 := arrow_no e2
          clear e1 e2 hm
          go_wp2_with fail
          go_region
          go_wp2_with fail
          exact bodyPost_ret (v := .tuple #[.slice A q c, .agg #[.int .i64 k, .string nm, .int .i64 n, .slice A1 m c1]]) (res_tmp_cell4 (s := 2) (c := 3) rfl rfl HR9.out rfl) rfl HEND.out
      · have d1 : (k == 3) = false := by simpa using e1
        clear e1 hm
        go_wp2_with fail
        go_region
        go_wp2_with fail
        exact bodyPost_ret (v := .tuple #[.slice A q c, .agg #[.int .i64 k, .string nm, .int .i64 n, .slice A1 m c1]]) (res_tmp_cell4 (s := 2) (c := 3) rfl rfl HR9.out rfl) rfl HEND.out
    | @step _ _ _ a b _ cl' hf hb =>
      obtain ⟨hk3, hnm⟩ : k = 3 ∧ nmEq nm sArrow = true := by
        simp only [isFunT, Ty.k, Ty.nm, Ty.ks, Bool.and_eq_true, beq_iff_eq] at hf
        exact ⟨hf.1, hf.2.1⟩
      have d1 : (k == 3) = true := by simpa using hk3
      have d2 := arrow_yes hnm
      have HB := Lib.hid hb
      obtain ⟨_, hk, hs, hn, hc, hm1, L1, htys⟩ := ty_open hty _ _ _ _ _ _ _ rfl rfl
      obtain ⟨g, o, c0, c1', c2, c3, e0, e1, e2, e3, hA, hgB, k0, k1, k2, k3, hta, q0, q1, q2, q3, htb⟩ := htys.two
      subst hA
      have o1 := ty_ones hta
      have o2 := ty_ones htb
      have sc0 := store_one' c0 (o1 c0 (by simp))
      have sc1' := store_one' c1' (o1 c1' (by simp))
      have sc2 := store_one' c2 (o1 c2 (by simp))
      have sc3 := store_one' c3 (o1 c3 (by simp))
      have se0 := store_one' e0 (o2 e0 (by simp))
      have se1 := store_one' e1 (o2 e1 (by simp))
      have se2 := store_one' e2 (o2 e2 (by simp))
      have se3 := store_one' e3 (o2 e3 (by simp))
      have HTA := Lib.hid hta
      have HTB := Lib.hid htb
      have hz := HBE.out.size
      have hwz : w.heap.size + 2 ≤ wr.heap.size := by have := HRS.out.lt; omega
      have hq9 : q + 1 ≤ l.length := by have := HPL.out; have := HQ.out; rw [← HPL.out, List.length_append, List.length_cons]; omega
      clear hf hb hk3 hnm htys hty hta htb hc hm1 hm o2
      go_wp2_with (at_builtin; refine wpList_append_own _ rfl (.tmp 19) (.tmp 24) 22 rfl (w.heap.size + 2) 24 i0 (.agg #[.int .i64 0, .string ⟨#[]⟩, .int .i64 0, .slice none 0 0]) 4 56 Try.underlying22 HI.out HZ0.out HZ1.out HZ2.out rfl (by decide) _ _ _ rfl (HOW.out.alloc _) ⟨wr.heap.size, 0, none⟩ 1 1 [c0, c1', c2, c3] rfl rfl (new_cells wr [c0, c1', c2, c3]) o1 (by unfold maxLen; omega) (by omega) (by simp; omega) ?_)
      intro v3 w3 hown3 hgrow3 _
      have hb3 : Below (w.heap.size + 2) wr w3 := ((Below.refl _ _).alloc hwz _).grown hgrow3 (by simp; omega) (own_base HOW.out)
      have hbx3 := HBX.out.below hb3 (by omega)
      have hrs3 := HRS.out.below hb3 (by omega)
      have y0 := hbx3.cell 0
      have y1 := hbx3.cell 1
      have y2 := hbx3.cell 2
      have y3 := hbx3.cell 3
      simp only [zTy, List.getElem?_toArray, List.getElem?_cons_succ, List.getElem?_cons_zero] at y0 y1 y2 y3
      have f0 := hbx3.frozen 0
      have f1 := hbx3.frozen 1
      have f2 := hbx3.frozen 2
      have f3 := hbx3.frozen 3
      have z0 := (hb3.cell (p := ⟨g, o + 4, none⟩) (by show g < _; omega)).trans q0
      have z1 := (hb3.cell (p := ⟨g, o + 4 + 1, none⟩) (by show g < _; omega)).trans q1
      have z2 := (hb3.cell (p := ⟨g, o + 4 + 2, none⟩) (by show g < _; omega)).trans q2
      have z3 := (hb3.cell (p := ⟨g, o + 4 + 3, none⟩) (by show g < _; omega)).trans q3
      obtain ⟨A3, cp3, rfl, _⟩ := own_shape4 hown3
      have hb9 := below_put4 (B := w.heap.size) (hb3.mono (by omega)) (Nat.le_refl _) e0 e1 e2 e3
      have HINV := Lib.hid (show ((pre ++ [a]).length = q + 1 ∧ (pre ++ [a]) ++ cl' = l) ∧ TyAt (put4 w3 w.heap.size e0 e1 e2 e3) B [e0, e1, e2, e3] b ∧ Blk (put4 w3 w.heap.size e0 e1 e2 e3) w.heap.size 24 #[e0, e1, e2, e3] ∧ Blk (put4 w3 w.heap.size e0 e1 e2 e3) (w.heap.size + 1) 24 zTy ∧
          (put4 w3 w.heap.size e0 e1 e2 e3).ownsRow (w.heap.size + 2) 24 4 (.slice A3 (q + 1) cp3) (pre ++ [a]).length (L ++ [[c0, c1', c2, c3]]).flatten ∧ TsAt (put4 w3 w.heap.size e0 e1 e2 e3) B (pre ++ [a]) (L ++ [[c0, c1', c2, c3]]) ∧ Below w.heap.size w (put4 w3 w.heap.size e0 e1 e2 e3) from
        ⟨⟨by simp [HQ.out], by rw [← HPL.out]; simp⟩, HTB.out.later (hb9.mono HBB.out), hbx3.put4_ _ _ _ _, hrs3.put4_far (by omega) _ _ _ _, by
          have := own_put4 (g := w.heap.size) hown3 (by omega) e0 e1 e2 e3
          rw [List.length_append, HQ.out, List.flatten_append]
          simpa using this, (HTS.out.app (TsAt.one HTA.out)).later (hb9.mono HBB.out), HBE.out.trans hb9⟩)
      clear hown3 hgrow3 hb3 hbx3 hrs3 hb9 k0 k1 k2 k3 q0 q1 q2 q3 o1
      go_wp2_with fail
      go_roundw
      case rel => exact ⟨b, cl', pre ++ [a], [e0, e1, e2, e3], L ++ [[c0, c1', c2, c3]], A3, q + 1, cp3, rfl, HINV.out.1.1, HINV.out.1.2, HB.out, HINV.out.2.1, HINV.out.2.2.1, HINV.out.2.2.2.1, HINV.out.2.2.2.2.1, HINV.out.2.2.2.2.2.1, HINV.out.2.2.2.2.2.2⟩
      case measure => simp [sliceLen']; omega

end Go.Proofs.Ytgmcjnhaedfinaa
