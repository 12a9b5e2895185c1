/- Walks: what Metas gathers with. -/
import Derived.Test.YtgmcjnhaedfinaaQco
namespace Go.Proofs.Ytgmcjnhaedfinaa
open Go.RowKit Go.Maps
set_option linter.unusedVariables false
set_option linter.unusedSimpArgs false
set_option maxRecDepth 100000

set_option maxHeartbeats 800000 in
theorem keyI_any (t : Ty) (cs : List Value) (B : Nat) (w : World) (hx : TyAt w B cs t) :
    Calls Try.prog 40 #[.agg cs.toArray] w fun e w' => e = .returned (.int .i64 t.n) ∧ Below w.heap.size w w' := by
  obtain ⟨k, nm, n, A, c, ks, rfl, rfl⟩ := ty_cells hx
  have HG := Lib.hid ((Below.refl w.heap.size w).alloc (Nat.le_refl _) (.cells #[.int .i64 k, .string nm, .int .i64 n, .slice A ks.length c] 24))
  clear hx
  go_enter Try.func40, Try.ntmps40
  go_wp2_with fail
  go_ret
  exact ⟨rfl, HG.out⟩
/-- The map of what has been seen. -/
def seenI (acc : List Int) : Lit → Option Value
  | .int q s => if q = .i64 ∧ hasI acc s = true then some (.agg #[]) else none
  | _ => none
theorem seenI_has (acc : List Int) (x : Int) : seenI acc (.int .i64 x) = if hasI acc x then some (.agg #[]) else none := by simp [seenI]
theorem seenI_put (acc : List Int) (x : Int) : updV (seenI acc) (.int .i64 x) (.agg #[]) = seenI (acc ++ [x]) := by
  funext s
  cases s with
  | int q s =>
    by_cases hq : q = .i64
    · subst hq
      by_cases h : s = x
      · subst h; simp [updV, Lit.sameKey, seenI, hasI]
      · have h2 : ¬ x = s := fun e => h e.symm
        simp [updV, Lit.sameKey, seenI, hasI, h, h2]
    · simp [updV, Lit.sameKey, seenI, hq]
  | _ => rfl
/-- The closure's variables, and what has been gathered. -/
structure CStI (b : Nat) (W : World) (acc : List Int) : Prop where
  kind : Blk W (b + 1) 3 #[.int .i64 2]
  key : Blk W (b + 2) 39 #[.func (.func 40) #[] #[]]
  keys : ∃ v, Blk W (b + 3) 37 #[v] ∧ W.ownsRow (b + 7) 3 1 v acc.length (intVals acc)
  map : MapV W 3 (b + 4) acc.length (seenI acc)
  seen : Blk W (b + 5) 83 #[.map (some (b + 4))]
  vis : Blk W (b + 6) 80 #[.func (.func 57) #[] #[.pointer (some ⟨b + 1, 0, none⟩), .pointer (some ⟨b + 2, 0, none⟩), .pointer (some ⟨b + 5, 0, none⟩), .pointer (some ⟨b + 3, 0, none⟩), .pointer (some ⟨b + 6, 0, none⟩)]]
theorem CStI.below {b : Nat} {W W' : World} {acc : List Int} (h : CStI b W acc) (hb : Below W.heap.size W W') : CStI b W' acc := by
  obtain ⟨v, h1, h2⟩ := h.keys
  exact ⟨h.kind.below hb h.kind.lt, h.key.below hb h.key.lt, ⟨v, h1.below hb h1.lt, own_kept h2 hb⟩, h.map.below hb, h.seen.below hb h.seen.lt, h.vis.below hb h.vis.lt⟩
theorem CStI.step {b : Nat} {Wa w3 w4 : World} {acc : List Int} {x : Int} {v0 v4 : Value} {o : Obj} (h : CStI b Wa acc) (hg3 : Wa.grownBy w3 (some (b + 4))) (hm : MapV w3 3 (b + 4) (acc.length + 1) (updV (seenI acc) (.int .i64 x) (.agg #[])))
    (hown0 : Wa.ownsRow (b + 7) 3 1 v0 acc.length (intVals acc)) (hg4 : (w3.alloc o).grownBy w4 v0.ownBlock) (hown4 : w4.ownsRow (b + 7) 3 1 v4 (acc.length + 1) (intVals acc ++ [.int .i64 x])) : CStI b (w4.setCell ⟨b + 3, 0, none⟩ v4) (acc ++ [x]) := by
  have hz : b + 6 < Wa.heap.size := h.vis.lt
  have hz3 := hg3.size
  have hne : ∀ k, k < b + 7 → some k ≠ v0.ownBlock := fun k hk e => by have := own_base hown0 k e.symm; omega
  have turn : ∀ {t : TypeId} {cs : Array Value} (k : Nat), k ≠ b + 3 → k ≠ b + 4 → k < b + 7 → Blk Wa k t cs → Blk (w4.setCell ⟨b + 3, 0, none⟩ v4) k t cs := fun k h3 h4 h7 hk =>
    (((hk.grown hg3 (by intro e; injection e with e; omega)).alloc o).grown hg4 (hne k h7)).far (by exact h3) v4
  refine ⟨turn _ (by omega) (by omega) (by omega) h.kind, turn _ (by omega) (by omega) (by omega) h.key, ⟨v4, ?_, ?_⟩, ?_, turn _ (by omega) (by omega) (by omega) h.seen, turn _ (by omega) (by omega) (by omega) h.vis⟩
  · obtain ⟨v, hv, _⟩ := h.keys
    have := (((hv.grown hg3 (by intro e; injection e with e; omega)).alloc o).grown hg4 (hne _ (by omega))).set_ 0 v4
    simpa using this
  · refine own_at (w := w4) ?_ fun g hg => Below.heap_setCell _ _ _ _ (by have := own_base hown4 g hg; show g ≠ b + 3; omega)
    simpa using hown4
  · rw [List.length_append, ← seenI_put]
    refine hm.blk ?_
    rw [Below.heap_setCell _ _ _ _ (by show b + 4 ≠ b + 3; omega), hg4.block (b + 4) (by simp; omega) (hne _ (by omega)), Below.heap_alloc _ _ _ (by omega)]
set_option maxHeartbeats 12800000 in
theorem visI_any (b B : Nat) (hBb : B ≤ b) (N : Nat) : ∀ (t : Ty), t.nodes ≤ N → N ≤ 4000000 → ∀ (acc : List Int) (W : World) (cs : List Value), acc.length + t.nodes ≤ 8000000 → TyAt W B cs t → CStI b W acc →
    Calls Try.prog 57 #[.agg cs.toArray, .pointer (some ⟨b + 1, 0, none⟩), .pointer (some ⟨b + 2, 0, none⟩), .pointer (some ⟨b + 5, 0, none⟩), .pointer (some ⟨b + 3, 0, none⟩), .pointer (some ⟨b + 6, 0, none⟩)] W
      fun e W' => e = .returned (.tuple #[]) ∧ CStI b W' (joinI acc (metL t.all)) ∧ Below b W W' := by
  induction N with
  | zero => intro t h; cases t; unfold Ty.nodes at h; omega
  | succ N ih =>
    intro t hN hN2 acc W cs hac hx hst
    have hx0 := hx
    cases hx with
    | @mk k n nm A c ks L hk hs hn hc hm hbb hr hks =>
    unfold Ty.nodes at hN hac
    obtain ⟨l, hl⟩ : ∃ l, ks.length = l := ⟨_, rfl⟩
    have hln := tysNodes_len ks
    rw [hl] at hx0 ⊢
    obtain ⟨W1, hW1⟩ : ∃ W1, W.alloc (.cells #[.int .i64 k, .string nm, .int .i64 n, .slice A l c] 24) = W1 := ⟨_, rfl⟩
    have hg : Below W.heap.size W W1 := by rw [← hW1]; exact (Below.refl _ _).alloc (Nat.le_refl _) _
    have hsz : W1.heap.size = W.heap.size + 1 := by rw [← hW1]; simp
    have hbx : Blk W1 W.heap.size 24 #[.int .i64 k, .string nm, .int .i64 n, .slice A l c] := by rw [← hW1]; exact Blk.new _ _ _
    have hbW : b + 6 < W.heap.size := hst.vis.lt
    have hst1 := hst.below hg
    obtain ⟨v0, hq00, hown00⟩ := hst.keys
    have HQ00 := Lib.hid hq00
    have HO00 := Lib.hid hown00
    have HLT0 := Lib.hid (show ∀ g, v0.ownBlock = some g → g < W.heap.size from fun g hg => own_lt hown00 hg)
    clear hq00 hown00
    obtain ⟨i0, hi, hz0, hz1, hz2⟩ := info_parts int_info
    have HI := Lib.hid hi
    have HZ0 := Lib.hid hz0
    have HZ1 := Lib.hid hz1
    have HZ2 := Lib.hid hz2
    clear hi hz0 hz1 hz2
    have HW := Lib.hid hW1
    have HG := Lib.hid hg
    have HZ := Lib.hid hsz
    have HBX := Lib.hid hbx
    have HA := Lib.hid (TysAt.mk hr hks)
    have HX := Lib.hid (hx0.later (hg.mono (by omega)))
    have HL := Lib.hid hl
    have HND := Lib.hid (show tysNodes ks ≤ N by omega)
    have HIH := Lib.hid (fun (t : Ty) (ht : t ∈ ks) => ih t (by have := tys_mem ks t ht; omega) (by omega))
    have HN2 := Lib.hid hN2
    have HAC := Lib.hid hac
    have HST := Lib.hid hst1
    have hl9 : l ≤ 4000000 := by omega
    have hn9 := hn
    have hz81 : ∀ w : World, (zeroValue 81).run Try.prog w = .ok (.agg #[]) w := fun w => Try.zeroValue81 w
    clear hx0 hg hr hks ih hc hm hN hbb hW1 hsz hl hN2 hln hac hst hst1
    obtain ⟨a1, ha1⟩ : ∃ a1, joinI acc (if k = 2 then [n] else []) = a1 := ⟨_, rfl⟩
    have HA1 := Lib.hid ha1
    have HLEN := Lib.hid (show a1.length ≤ acc.length + 1 by
      have := joinI_len (if k = 2 then [n] else []) acc
      rw [ha1] at this
      by_cases h : k = 2
      · rw [if_pos h] at this; simpa using this
      · rw [if_neg h] at this; simp at this; omega)
    have x0 := HBX.out.cell 0
    have x1 := HBX.out.cell 1
    have x2 := HBX.out.cell 2
    have x3 := HBX.out.cell 3
    simp only [zTy, List.getElem?_toArray, List.getElem?_cons_succ, List.getElem?_cons_zero] at x0 x1 x2 x3
    have kc := HST.out.kind.cell 0
    have fc := HST.out.key.cell 0
    have vc := HST.out.vis.cell 0
    have sc := HST.out.seen.cell 0
    simp only [List.getElem?_toArray, List.getElem?_cons_succ, List.getElem?_cons_zero] at kc fc vc sc
    by_cases hk1 : k = 2
    · have d1 : (k == 2) = true := by simpa using hk1
      have HE1 := Lib.hid (show a1 = if hasI acc n then acc else acc ++ [n] by rw [← ha1, if_pos hk1, joinI_one])
      have CK := Lib.hid (show Calls Try.prog 40 #[.agg #[.int .i64 k, .string nm, .int .i64 n, .slice A l c]] W1 (fun e w' => e = .returned (.int .i64 n) ∧ Below W1.heap.size W1 w') from keyI_any _ _ B W1 HX.out)
      clear hk1 ha1
      cases hu : hasI acc n with
      | true =>
        have HE2 := Lib.hid (show a1 = acc by rw [HE1.out, hu]; simp)
        have HLK := Lib.hid (fun (w : World) (h : CStI b w acc) => h.map.look keyed_int Try.underlying83 (hz81 w) (key_int hn9))
        rw [seenI_has, hu] at HLK
        clear hu
        go_enter Try.func57, Try.ntmps57
        go_upto_region 1 with fail
        rw [HW.out]
        go_wp2_with (go_at_call 40; (with_reducible refine CK.out.mono ?_); rintro e w2 ⟨rfl, hb2⟩; (have hst2 := HST.out.below hb2); (have hlk := HLK.out w2 hst2); (have sc2 := hst2.seen.cell 0); (simp only [List.getElem?_toArray, List.getElem?_cons_succ, List.getElem?_cons_zero] at sc2); (have hB2 := HBX.out.below hb2 HBX.out.lt); (have hB2a := hB2.alloc (.cells #[] 81)); (have y0 := hB2a.cell 0); (have y1 := hB2a.cell 1); (have y2 := hB2a.cell 2); (have y3 := hB2a.cell 3); (simp only [zTy, List.getElem?_toArray, List.getElem?_cons_succ, List.getElem?_cons_zero] at y0 y1 y2 y3))
        have HSTA := Lib.hid (hst2.below ((Below.refl _ _).alloc (Nat.le_refl _) (.cells #[] 81)))
        have HBA := Lib.hid (((HG.out.mono (show b ≤ W.heap.size by omega)).trans (hb2.mono (by have := HZ.out; omega))).alloc (by have := hb2.size; have := HZ.out; omega) (.cells #[] 81))
        rw [← HE2.out] at HSTA
        go_loopw [37] (fun i wr => ∃ (j : Nat), i = .int .i64 j ∧ j ≤ l ∧ CStI b wr (joinI a1 (metL (tysAll (ks.take j)))) ∧ Below b W wr) (fun i _ => l - (intOf i).toNat)
        case atStart => exact ⟨0, rfl, Nat.zero_le _, HSTA.out, HBA.out⟩
        case round =>
          obtain ⟨j, rfl, hj, hstr, hbe⟩ := hrel
          have hzr := hbe.size
          have HBE := Lib.hid hbe
          have HSR := Lib.hid hstr
          clear hbe hstr
          by_cases hlt : j < l
          · have hkx : j < ks.length := by rw [HL.out]; exact hlt
            obtain ⟨g, o, a0, b1, a2, a3, rfl, hba, ca0, ca1, ca2, ca3, hta⟩ := (HA.out.later (HBE.out.mono hBb)).at_ hkx
            have oo := ty_ones hta
            have sa0 := store_one' a0 (oo a0 (by simp))
            have sb1 := store_one' b1 (oo b1 (by simp))
            have sa2 := store_one' a2 (oo a2 (by simp))
            have sa3 := store_one' a3 (oo a3 (by simp))
            have hb2 : Below wr.heap.size wr (wr.alloc (.cells #[a0, b1, a2, a3] 24)) := (Below.refl _ _).alloc (Nat.le_refl _) _
            have hst2 := HSR.out.below hb2
            have vc2 := hst2.vis.cell 0
            simp only [List.getElem?_toArray, List.getElem?_cons_succ, List.getElem?_cons_zero] at vc2
            have HST2 := Lib.hid hst2
            have C := HIH.out ks[j] (List.getElem_mem hkx) (joinI a1 (metL (tysAll (ks.take j)))) (wr.alloc (.cells #[a0, b1, a2, a3] 24)) [a0, b1, a2, a3] (by
              have h1 := joinI_len (metL (tysAll (ks.take j))) a1
              have h2 := metL_len (tysAll (ks.take j))
              rw [tysAll_len] at h2
              have h3 := tysNodes_app (ks.take j) (ks.drop j)
              rw [List.take_append_drop] at h3
              have h4 := tys_mem (ks.drop j) ks[j] (by rw [List.drop_eq_getElem_cons hkx]; exact List.mem_cons_self)
              have := HAC.out
              have := HLEN.out
              omega) (hta.later (hb2.mono (by omega))) hst2
            have HSN := Lib.hid (show joinI (joinI a1 (metL (tysAll (ks.take j)))) (metL ks[j].all) = joinI a1 (metL (tysAll (ks.take (j + 1)))) by rw [take_snoc hkx, tysAll_app, metL_app, joinI_app]; simp [tysAll])
            rw [HSN.out] at C
            have HC := Lib.hid C
            have HB2 := Lib.hid (HBE.out.trans (hb2.mono (by omega)))
            clear hta C hb2 oo hst2
            go_wp2_with (go_at_call 57; (with_reducible refine HC.out.mono ?_); rintro e w3 ⟨rfl, hst3, hb3⟩)


            go_wp2_with fail
            go_roundw
            case rel => exact ⟨j + 1, by go_num, by omega, hst3, HB2.out.trans hb3⟩
            case measure => simp [intOf]; omega
          · have HEND := Lib.hid (show CStI b wr (joinI acc (metL (Ty.all (.mk k nm n ks)))) by
              have h := HSR.out
              rw [List.take_of_length_le (by rw [HL.out]; omega)] at h
              have e : metL (Ty.all (.mk k nm n ks)) = (if k = 2 then [n] else []) ++ metL (tysAll ks) := rfl
              rw [e, joinI_app, HA1.out]
              exact h)
            go_wp2_with fail
            exact bodyPost_end (results_none rfl _ _ _) rfl ⟨rfl, HEND.out, HBE.out⟩
      | false =>
        have HE2 := Lib.hid (show a1 = acc ++ [n] by rw [HE1.out, hu]; simp)
        have HLK := Lib.hid (fun (w : World) (h : CStI b w acc) => h.map.look keyed_int Try.underlying83 (hz81 w) (key_int hn9))
        rw [seenI_has, hu] at HLK
        clear hu
        go_enter Try.func57, Try.ntmps57
        go_upto_region 1 with fail
        rw [HW.out]
        go_wp2_with (first | (go_at_call 40; (with_reducible refine CK.out.mono ?_); rintro e w2 ⟨rfl, hb2⟩; (have hst2 := HST.out.below hb2); (have hlk := HLK.out w2 hst2); (have sc2 := hst2.seen.cell 0); (have hz2 := hb2.size); (have hsta := hst2.below ((Below.refl _ _).alloc (Nat.le_refl _) (.cells #[] 81))); (have sca := hsta.seen.cell 0); (simp only [List.getElem?_toArray, List.getElem?_cons_succ, List.getElem?_cons_zero] at sc2 sca); (have hbA := (HG.out.trans (hb2.mono (by have := HZ.out; omega))).alloc (show W.heap.size ≤ w2.heap.size by have := HZ.out; omega) (.cells #[] 81)); (have hq0 := HQ00.out.below hbA HQ00.out.lt); (have hown0 := own_kept HO00.out hbA); (have hB2 := HBX.out.below hb2 HBX.out.lt); (have hB2a := hB2.alloc (.cells #[] 81)); (have y0 := hB2a.cell 0); (have y1 := hB2a.cell 1); (have y2 := hB2a.cell 2); (have y3 := hB2a.cell 3); (simp only [zTy, List.getElem?_toArray, List.getElem?_cons_succ, List.getElem?_cons_zero] at y0 y1 y2 y3)) | (at_mapUpdate; refine wpList_mapPut rfl (.tmp 27) (.tmp 28) (.tmp 29) 83 rfl hsta.map (by unfold maxLen; have := HAC.out; omega) keyed_int Try.underlying83 rfl (.int .i64 n) (.agg #[]) (.int .i64 n) rfl rfl (key_int hn9) (lit_int _) ?_))
        intro w3 hm3 hg3
        have hz3 := hg3.size
        have hq3 := hq0.grown hg3 (by intro e; injection e with e; omega)
        have qc3 := hq3.cell 0
        simp only [List.getElem?_toArray, List.getElem?_cons_succ, List.getElem?_cons_zero] at qc3
        have hown3 := own_grown hown0 hg3 (fun k e => by injection e with e; omega)
        have hB3 := hB2a.grown hg3 (by intro e; injection e with e; omega)
        have HSA := Lib.hid hsta
        have HOW := Lib.hid hown3
        have HOW0 := Lib.hid hown0
        have HM3 := Lib.hid hm3
        have HG3 := Lib.hid hg3
        have HB2 := Lib.hid hb2
        have hzz : b + 7 ≤ w3.heap.size := by have := HZ.out; simp at hz3; omega
        have hac9 : acc.length ≤ 8000000 := by have := HAC.out; omega
        have hW1z : W.heap.size < W1.heap.size := by have := HZ.out; omega
        clear hsta hm3 hg3 hown3 hown0 hst2 hlk hb2 hB2 hB2a hq0 y0 y1 y2 y3 x0 x1 x2 x3 sc2 sca
        go_wp2_with (at_builtin; refine wpList_append_own _ rfl (.tmp 30) (.tmp 32) 37 rfl (b + 7) 3 i0 (.int .i64 0) 1 8 Try.underlying37 HI.out HZ0.out HZ1.out HZ2.out rfl (by decide) _ _ _ rfl (HOW.out.alloc _) ⟨w3.heap.size, 0, none⟩ 1 1 [.int .i64 n] rfl rfl (one_new _ _ _) (one_is rfl) (by unfold maxLen; omega) (by omega) (by simp; omega) ?_)
        intro v4 w4 hown4 hg4 _
        have hne : ∀ k, k < b + 7 → some k ≠ _ := fun k hk e => by have := own_base HOW0.out k e.symm; omega
        have hq4 := (hq3.alloc (.cells #[.int .i64 n] 3)).grown hg4 (hne _ (by omega))
        have qc4 := hq4.cell 0
        have qf4 := hq4.frozen 0
        simp only [List.getElem?_toArray, List.getElem?_cons_succ, List.getElem?_cons_zero] at qc4
        obtain ⟨A4, c4, rfl, _⟩ := own_shape4 hown4
        have hB4 := (hB3.alloc (.cells #[.int .i64 n] 3)).grown hg4 (fun e => by have := HLT0.out _ e.symm; omega)
        have y0 := hB4.cell 0
        have y1 := hB4.cell 1
        have y2 := hB4.cell 2
        have y3 := hB4.cell 3
        simp only [zTy, List.getElem?_toArray, List.getElem?_cons_succ, List.getElem?_cons_zero] at y0 y1 y2 y3
        have hB5 := hB4.far (p := ⟨b + 3, 0, none⟩) (by show W.heap.size ≠ b + 3; omega) (.slice A4 (acc.length + 1) c4)
        have x0 := hB5.cell 0
        have x1 := hB5.cell 1
        have x2 := hB5.cell 2
        have x3 := hB5.cell 3
        simp only [zTy, List.getElem?_toArray, List.getElem?_cons_succ, List.getElem?_cons_zero] at x0 x1 x2 x3
        have HSTA := Lib.hid (HSA.out.step (v4 := .slice A4 (acc.length + 1) c4) HG3.out HM3.out HOW0.out hg4 (by simpa using hown4))
        have HBA := Lib.hid (show Below b W (w4.setCell ⟨b + 3, 0, none⟩ (.slice A4 (acc.length + 1) c4)) from below_set (((((HG.out.mono (show b ≤ W.heap.size by omega)).trans (HB2.out.mono (by omega))).alloc (show b ≤ w2.heap.size by omega) (.cells #[] 81)).grown HG3.out (by simp; omega) (fun k e => by injection e with e; omega)).alloc (by omega) (.cells #[.int .i64 n] 3) |>.grown hg4 (by simp; omega) (fun k e => by have := own_base HOW0.out k e; omega)) (by show b ≤ b + 3; omega) _)
        rw [← HE2.out] at HSTA
        clear hown4 hg4 hne hq4 hB4 hB5
        go_wp2_with fail
        go_loopw [37] (fun i wr => ∃ (j : Nat), i = .int .i64 j ∧ j ≤ l ∧ CStI b wr (joinI a1 (metL (tysAll (ks.take j)))) ∧ Below b W wr) (fun i _ => l - (intOf i).toNat)
        case atStart => exact ⟨0, rfl, Nat.zero_le _, HSTA.out, HBA.out⟩
        case round =>
          obtain ⟨j, rfl, hj, hstr, hbe⟩ := hrel
          have hzr := hbe.size
          have HBE := Lib.hid hbe
          have HSR := Lib.hid hstr
          clear hbe hstr
          by_cases hlt : j < l
          · have hkx : j < ks.length := by rw [HL.out]; exact hlt
            obtain ⟨g, o, a0, b1, a2, a3, rfl, hba, ca0, ca1, ca2, ca3, hta⟩ := (HA.out.later (HBE.out.mono hBb)).at_ hkx
            have oo := ty_ones hta
            have sa0 := store_one' a0 (oo a0 (by simp))
            have sb1 := store_one' b1 (oo b1 (by simp))
            have sa2 := store_one' a2 (oo a2 (by simp))
            have sa3 := store_one' a3 (oo a3 (by simp))
            have hb2 : Below wr.heap.size wr (wr.alloc (.cells #[a0, b1, a2, a3] 24)) := (Below.refl _ _).alloc (Nat.le_refl _) _
            have hst2 := HSR.out.below hb2
            have vc2 := hst2.vis.cell 0
            simp only [List.getElem?_toArray, List.getElem?_cons_succ, List.getElem?_cons_zero] at vc2
            have HST2 := Lib.hid hst2
            have C := HIH.out ks[j] (List.getElem_mem hkx) (joinI a1 (metL (tysAll (ks.take j)))) (wr.alloc (.cells #[a0, b1, a2, a3] 24)) [a0, b1, a2, a3] (by
              have h1 := joinI_len (metL (tysAll (ks.take j))) a1
              have h2 := metL_len (tysAll (ks.take j))
              rw [tysAll_len] at h2
              have h3 := tysNodes_app (ks.take j) (ks.drop j)
              rw [List.take_append_drop] at h3
              have h4 := tys_mem (ks.drop j) ks[j] (by rw [List.drop_eq_getElem_cons hkx]; exact List.mem_cons_self)
              have := HAC.out
              have := HLEN.out
              omega) (hta.later (hb2.mono (by omega))) hst2
            have HSN := Lib.hid (show joinI (joinI a1 (metL (tysAll (ks.take j)))) (metL ks[j].all) = joinI a1 (metL (tysAll (ks.take (j + 1)))) by rw [take_snoc hkx, tysAll_app, metL_app, joinI_app]; simp [tysAll])
            rw [HSN.out] at C
            have HC := Lib.hid C
            have HB2 := Lib.hid (HBE.out.trans (hb2.mono (by omega)))
            clear hta C hb2 oo hst2
            go_wp2_with (go_at_call 57; (with_reducible refine HC.out.mono ?_); rintro e w3 ⟨rfl, hst3, hb3⟩)


            go_wp2_with fail
            go_roundw
            case rel => exact ⟨j + 1, by go_num, by omega, hst3, HB2.out.trans hb3⟩
            case measure => simp [intOf]; omega
          · have HEND := Lib.hid (show CStI b wr (joinI acc (metL (Ty.all (.mk k nm n ks)))) by
              have h := HSR.out
              rw [List.take_of_length_le (by rw [HL.out]; omega)] at h
              have e : metL (Ty.all (.mk k nm n ks)) = (if k = 2 then [n] else []) ++ metL (tysAll ks) := rfl
              rw [e, joinI_app, HA1.out]
              exact h)
            go_wp2_with fail
            exact bodyPost_end (results_none rfl _ _ _) rfl ⟨rfl, HEND.out, HBE.out⟩
    · have d1 : (k == 2) = false := by simpa using hk1
      have HE2 := Lib.hid (show a1 = acc by rw [← ha1, if_neg hk1]; rfl)
      clear hk1 ha1
      go_enter Try.func57, Try.ntmps57
      go_upto_region 1 with fail
      rw [HW.out]
      go_wp2_with fail
      have HSTA := Lib.hid HST.out
      have HBA := Lib.hid (HG.out.mono (show b ≤ W.heap.size by omega))
      rw [← HE2.out] at HSTA
      go_loopw [37] (fun i wr => ∃ (j : Nat), i = .int .i64 j ∧ j ≤ l ∧ CStI b wr (joinI a1 (metL (tysAll (ks.take j)))) ∧ Below b W wr) (fun i _ => l - (intOf i).toNat)
      case atStart => exact ⟨0, rfl, Nat.zero_le _, HSTA.out, HBA.out⟩
      case round =>
        obtain ⟨j, rfl, hj, hstr, hbe⟩ := hrel
        have hzr := hbe.size
        have HBE := Lib.hid hbe
        have HSR := Lib.hid hstr
        clear hbe hstr
        by_cases hlt : j < l
        · have hkx : j < ks.length := by rw [HL.out]; exact hlt
          obtain ⟨g, o, a0, b1, a2, a3, rfl, hba, ca0, ca1, ca2, ca3, hta⟩ := (HA.out.later (HBE.out.mono hBb)).at_ hkx
          have oo := ty_ones hta
          have sa0 := store_one' a0 (oo a0 (by simp))
          have sb1 := store_one' b1 (oo b1 (by simp))
          have sa2 := store_one' a2 (oo a2 (by simp))
          have sa3 := store_one' a3 (oo a3 (by simp))
          have hb2 : Below wr.heap.size wr (wr.alloc (.cells #[a0, b1, a2, a3] 24)) := (Below.refl _ _).alloc (Nat.le_refl _) _
          have hst2 := HSR.out.below hb2
          have vc2 := hst2.vis.cell 0
          simp only [List.getElem?_toArray, List.getElem?_cons_succ, List.getElem?_cons_zero] at vc2
          have HST2 := Lib.hid hst2
          have C := HIH.out ks[j] (List.getElem_mem hkx) (joinI a1 (metL (tysAll (ks.take j)))) (wr.alloc (.cells #[a0, b1, a2, a3] 24)) [a0, b1, a2, a3] (by
            have h1 := joinI_len (metL (tysAll (ks.take j))) a1
            have h2 := metL_len (tysAll (ks.take j))
            rw [tysAll_len] at h2
            have h3 := tysNodes_app (ks.take j) (ks.drop j)
            rw [List.take_append_drop] at h3
            have h4 := tys_mem (ks.drop j) ks[j] (by rw [List.drop_eq_getElem_cons hkx]; exact List.mem_cons_self)
            have := HAC.out
            have := HLEN.out
            omega) (hta.later (hb2.mono (by omega))) hst2
          have HSN := Lib.hid (show joinI (joinI a1 (metL (tysAll (ks.take j)))) (metL ks[j].all) = joinI a1 (metL (tysAll (ks.take (j + 1)))) by rw [take_snoc hkx, tysAll_app, metL_app, joinI_app]; simp [tysAll])
          rw [HSN.out] at C
          have HC := Lib.hid C
          have HB2 := Lib.hid (HBE.out.trans (hb2.mono (by omega)))
          clear hta C hb2 oo hst2
          go_wp2_with (go_at_call 57; (with_reducible refine HC.out.mono ?_); rintro e w3 ⟨rfl, hst3, hb3⟩)


          go_wp2_with fail
          go_roundw
          case rel => exact ⟨j + 1, by go_num, by omega, hst3, HB2.out.trans hb3⟩
          case measure => simp [intOf]; omega
        · have HEND := Lib.hid (show CStI b wr (joinI acc (metL (Ty.all (.mk k nm n ks)))) by
            have h := HSR.out
            rw [List.take_of_length_le (by rw [HL.out]; omega)] at h
            have e : metL (Ty.all (.mk k nm n ks)) = (if k = 2 then [n] else []) ++ metL (tysAll ks) := rfl
            rw [e, joinI_app, HA1.out]
            exact h)
          go_wp2_with fail
          exact bodyPost_end (results_none rfl _ _ _) rfl ⟨rfl, HEND.out, HBE.out⟩

end Go.Proofs.Ytgmcjnhaedfinaa
