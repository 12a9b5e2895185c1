/- Walks: what the program calls a syntactic value. -/
import Derived.Test.YtglamoiimmahgaaValue
namespace Go.Proofs.Ytglamoiimmahgaa
open Go.RowKit
set_option linter.unusedVariables false
set_option linter.unusedSimpArgs false
set_option maxRecDepth 100000

/-- Begins an application that is a value. -/
def Ex.bld (e : Ex) : Bool := e.kind == 4 || (e.kind == 5 && e.value)
set_option maxHeartbeats 3200000 in
theorem pbuilds_any (e : Ex) (B : Nat) (w : World) (cs : List Value) (hB : B ≤ w.heap.size) (hx : ExAt w B cs e)
    (ih : ∀ (w : World) (cs : List Value), B ≤ w.heap.size → ExAt w B cs e → Calls Try.prog 28 #[.agg cs.toArray] w fun e' w' => e' = .returned (.bool e.value) ∧ Below w.heap.size w w') :
    Calls Try.prog 57 #[.agg cs.toArray] w fun e' w' => e' = .returned (.bool e.bld) ∧ Below w.heap.size w w' := by
  obtain ⟨c0, c1, c2, c3, c4, c5, c6, c7, c8, c9, c10, rfl⟩ := eleven_of hx.eleven
  have hk := ex_kind_cell hx
  subst hk
  have hbW : Below w.heap.size w (w.alloc (.cells #[.int .i64 e.kind, c1, c2, c3, c4, c5, c6, c7, c8, c9, c10] 29)) := (Below.refl _ _).alloc (Nat.le_refl _) _
  have HC := Lib.hid (ih (w.alloc (.cells #[.int .i64 e.kind, c1, c2, c3, c4, c5, c6, c7, c8, c9, c10] 29)) [.int .i64 e.kind, c1, c2, c3, c4, c5, c6, c7, c8, c9, c10] (Nat.le_trans hB hbW.size) (hx.later (hbW.mono hB)))
  have HBW := Lib.hid hbW
  obtain ⟨r, hr⟩ : ∃ r, e.bld = r := ⟨_, rfl⟩
  obtain ⟨v, hv⟩ : ∃ v, e.value = v := ⟨_, rfl⟩
  obtain ⟨k, hk⟩ : ∃ k, e.kind = k := ⟨_, rfl⟩
  rw [hv, hk] at HC
  rw [hk] at HBW ⊢
  rw [hr]
  have hrv : r = (k == 4 || (k == 5 && v)) := by rw [← hr, ← hv, ← hk]; rfl
  clear hx ih hbW hr hv hk
  by_cases h4 : k = 4
  · subst h4
    have HE := Lib.hid (show r = true by rw [hrv]; rfl)
    clear hrv
    go_enter Try.func57, Try.ntmps57
    go_wp2_with fail
    go_ret
    exact ⟨ret_bool HE.out.symm, HBW.out⟩
  · have d4 : (k == 4) = false := by simpa using h4
    by_cases h5 : k = 5
    · subst h5
      have HE := Lib.hid (show r = v by rw [hrv]; rfl)
      clear hrv h4
      go_enter Try.func57, Try.ntmps57
      go_wp2_with fail
      refine HC.out.mono ?_
      rintro e2 w2 ⟨rfl, hb2⟩
      go_wp2_with fail
      go_ret
      exact ⟨ret_bool HE.out.symm, HBW.out.trans (hb2.mono (by simp))⟩
    · have d5 : (k == 5) = false := by simpa using h5
      have HE := Lib.hid (show r = false by rw [hrv, d4, d5]; rfl)
      clear hrv h4 h5
      go_enter Try.func57, Try.ntmps57
      go_wp2_with fail
      go_ret
      exact ⟨ret_bool HE.out.symm, HBW.out⟩

theorem value_two {ks : List Ex} (h : 1 < ks.length) (h2 : ks.length = 2) : exsTwo ks = (ks[0].bld && ks[1].value) := by
  match ks, h2 with
  | [a, b], _ => simp [exsTwo, exsOne, Ex.bld]
theorem value_not_two {ks : List Ex} (h2 : ks.length ≠ 2) : exsTwo ks = false := by
  match ks with
  | [] => rfl
  | [a] => simp [exsTwo, exsOne]
  | [a, b] => exact absurd rfl h2
  | a :: b :: c :: r => simp [exsTwo, exsOne]
theorem value_one {ks : List Ex} (h : 0 < ks.length) (h2 : ks.length = 1) : exsOne ks = ks[0].value := by
  match ks, h2 with
  | [a], _ => simp [exsOne]
theorem value_not_one {ks : List Ex} (h2 : ks.length ≠ 1) : exsOne ks = false := by
  match ks with
  | [] => rfl
  | [a] => exact absurd rfl h2
  | a :: b :: r => simp [exsOne]

set_option maxHeartbeats 6400000 in
theorem pvalue_any (N : Nat) : ∀ (e : Ex), e.nodes ≤ N → ∀ (B : Nat) (w : World) (cs : List Value), B ≤ w.heap.size → ExAt w B cs e →
    Calls Try.prog 28 #[.agg cs.toArray] w fun e' w' => e' = .returned (.bool e.value) ∧ Below w.heap.size w w' := by
  induction N with
  | zero => intro e h; cases e; unfold Ex.nodes at h; omega
  | succ N ih =>
    intro e hN B w cs hB hx
    cases hx with
    | @mk k n q nm t T A Aa Ab c ca cb ks als bs L La Lb _ _ _ _ ht _ _ _ _ _ _ hb hba hbb hr hks hra hals hrb hbs =>
    cases ht with
    | @mk tk tn tnm tA tc tks tL h1 h2 h3 h4 h5 h6 htr htks =>
    have hnodes : (Ex.mk k nm n (.mk tk tnm tn tks) ks als bs q).nodes = 1 + exsNodes ks + alsNodes als + bdsNodes bs := rfl
    rw [hnodes] at hN
    obtain ⟨al, hal⟩ : ∃ x, als.length = x := ⟨_, rfl⟩
    obtain ⟨bl, hbl⟩ : ∃ x, bs.length = x := ⟨_, rfl⟩
    obtain ⟨tl, htl⟩ : ∃ x, tks.length = x := ⟨_, rfl⟩
    obtain ⟨kl, hkl⟩ : ∃ x, ks.length = x := ⟨_, rfl⟩
    obtain ⟨V, hV⟩ : ∃ v, Ex.value (.mk k nm n (.mk tk tnm tn tks) ks als bs q) = v := ⟨_, rfl⟩
    rw [hV]
    simp only [List.cons_append, List.nil_append]
    rw [hal, hbl, htl, hkl]
    have hb0 := Blk.new w 29 #[.int .i64 k, .string nm, .int .i64 n, .int .i64 tk, .string tnm, .int .i64 tn, .slice tA tl tc, .slice A kl c, .slice Aa al ca, .slice Ab bl cb, .int .i64 q]
    obtain ⟨W1, hW1⟩ : ∃ W1, w.alloc (.cells #[.int .i64 k, .string nm, .int .i64 n, .int .i64 tk, .string tnm, .int .i64 tn, .slice tA tl tc, .slice A kl c, .slice Aa al ca, .slice Ab bl cb, .int .i64 q] 29) = W1 := ⟨_, rfl⟩
    have hbW : Below w.heap.size w W1 := by rw [← hW1]; exact (Below.refl _ _).alloc (Nat.le_refl _) _
    have hzW : W1.heap.size = w.heap.size + 1 := by rw [← hW1]; simp
    rw [hW1] at hb0
    have HW := Lib.hid hW1
    have HBW := Lib.hid hbW
    have HZ := Lib.hid hzW
    have HBX := Lib.hid hb0
    have HRK := Lib.hid (hr.later (hbW.mono hB))
    have HEK := Lib.hid (fun i h1 h2 => (hks i h1 h2).later (hbW.mono hB))
    have HIH := Lib.hid (fun (i : Nat) (hi : i < ks.length) => ih ks[i] (by have := exs_mem ks i hi; omega))
    have HK := Lib.hid hkl
    have HV := Lib.hid hV
    rw [hkl] at HRK
    have hBW1 : B ≤ W1.heap.size := by omega
    have x0 := hb0.cell 0
    have x7 := hb0.cell 7
    simp only [List.getElem?_toArray, List.getElem?_cons_succ, List.getElem?_cons_zero] at x0 x7
    clear ih hnodes hN hal hbl htl hkl hV hb0 hW1 hbW hzW hr hks hra hals hrb hbs htr htks hb hba hbb
    by_cases a1 : k = 2 ∨ k = 3 ∨ k = 4 ∨ k = 6
    · have HE := Lib.hid (show V = true by rw [← HV.out, value_eq, if_pos a1])
      rcases a1 with a1 | a1 | a1 | a1
      all_goals
        subst a1
        go_enter Try.func28, Try.ntmps28
        go_wp2_with fail
        rw [HW.out]
        go_ret
        exact ⟨ret_bool HE.out.symm, HBW.out⟩
    · have n2 : (k == 2) = false := by simp; omega
      have n3 : (k == 3) = false := by simp; omega
      have n4 : (k == 4) = false := by simp; omega
      have n6 : (k == 6) = false := by simp; omega
      by_cases a3 : k = 5
      · have n12 : (k == 12) = false := by simp; omega
        have HE0 := Lib.hid (show V = exsTwo ks by rw [← HV.out, value_eq, if_neg a1, if_neg (by omega), if_pos a3])
        have d5 : (k == 5) = true := by simpa using a3
        clear a1 a3
        by_cases l1 : kl = 2
        · subst l1
          have hk0 : 0 < ks.length := by rw [HK.out]; omega
          have hk1 : 1 < ks.length := by rw [HK.out]; omega
          obtain ⟨g, o, c0, c1, c2, c3, c4, c5, c6, c7, c8, c9, c10, rfl, hg0, ⟨hl0, hL0⟩, k0, k1, k2, k3, k4, k5, k6, k7, k8, k9, k10⟩ := ex_cells HRK.out (i := 0) (by omega)
          obtain ⟨g', o', d0, d1, d2, d3, d4, d5', d6, d7, d8, d9, d10, EA, hg1, ⟨hl1, hL1⟩, j0, j1, j2, j3, j4, j5, j6, j7, j8, j9, j10⟩ := ex_cells HRK.out (i := 1) (by omega)
          injection EA with EA
          injection EA with EA1 EA2
          subst EA1; subst EA2
          have he0 := HEK.out 0 hl0 hk0
          have he1 := HEK.out 1 hl1 hk1
          rw [hL0] at he0
          rw [hL1] at he1
          have m0 : W1.cell? ⟨g, o, none⟩ = some c0 := by simpa using k0
          have m1 : W1.cell? ⟨g, o + 1, none⟩ = some c1 := by simpa using k1
          have m2 : W1.cell? ⟨g, o + 2, none⟩ = some c2 := by simpa using k2
          have m3 : W1.cell? ⟨g, o + 3, none⟩ = some c3 := by simpa using k3
          have m4 : W1.cell? ⟨g, o + 4, none⟩ = some c4 := by simpa using k4
          have m5 : W1.cell? ⟨g, o + 5, none⟩ = some c5 := by simpa using k5
          have m6 : W1.cell? ⟨g, o + 6, none⟩ = some c6 := by simpa using k6
          have m7 : W1.cell? ⟨g, o + 7, none⟩ = some c7 := by simpa using k7
          have m8 : W1.cell? ⟨g, o + 8, none⟩ = some c8 := by simpa using k8
          have m9 : W1.cell? ⟨g, o + 9, none⟩ = some c9 := by simpa using k9
          have m10 : W1.cell? ⟨g, o + 10, none⟩ = some c10 := by simpa using k10
          have hgw1 : g < W1.heap.size := by omega
          have HC1 := Lib.hid (pbuilds_any ks[0] B W1 [c0, c1, c2, c3, c4, c5, c6, c7, c8, c9, c10] hBW1 he0 (fun w cs h1 h2 => HIH.out 0 hk0 B w cs h1 h2))
          obtain ⟨b0, hb0⟩ : ∃ b, ks[0].bld = b := ⟨_, rfl⟩
          obtain ⟨v1, hv1⟩ : ∃ v, ks[1].value = v := ⟨_, rfl⟩
          rw [hb0] at HC1
          have HE := Lib.hid (show V = (b0 && v1) by rw [HE0.out, value_two hk1 HK.out, hb0, hv1])
          have HE1 := Lib.hid he1
          have HV1 := Lib.hid hv1
          have hwW : w.heap.size < W1.heap.size := by have := HZ.out; omega
          clear hL0 hL1 he0 he1 hb0 hv1 k0 k1 k2 k3 k4 k5 k6 k7 k8 k9 k10
          cases b0 with
          | false =>
            go_enter Try.func28, Try.ntmps28
            rw [← HW.out] at m0 m1 m2 m3 m4 m5 m6 m7 m8 m9 m10 x0 x7
            go_wp2_with fail
            rw [HW.out]
            refine HC1.out.mono ?_
            rintro e2 w2 ⟨rfl, hb2⟩
            go_wp2_with fail
            go_ret
            exact ⟨ret_bool (show false = V from HE.out.symm), HBW.out.trans (hb2.mono (by omega))⟩
          | true =>
            go_enter Try.func28, Try.ntmps28
            rw [← HW.out] at m0 m1 m2 m3 m4 m5 m6 m7 m8 m9 m10 x0 x7
            go_wp2_with fail
            rw [HW.out]
            refine HC1.out.mono ?_
            rintro e2 w2 ⟨rfl, hb2⟩
            have y7 : w2.cell? ⟨w.heap.size, 7, none⟩ = some (.slice (some ⟨g, o, none⟩) 2 c) := (hb2.cell (p := ⟨w.heap.size, 7, none⟩) hwW).trans (by rw [HW.out] at x7; exact x7)
            have z0 : w2.cell? ⟨g, o + 11, none⟩ = some d0 := (hb2.cell (p := ⟨g, _, none⟩) hgw1).trans (by simpa using j0)
            have z1 : w2.cell? ⟨g, o + 11 + 1, none⟩ = some d1 := (hb2.cell (p := ⟨g, _, none⟩) hgw1).trans (by simpa using j1)
            have z2 : w2.cell? ⟨g, o + 11 + 2, none⟩ = some d2 := (hb2.cell (p := ⟨g, _, none⟩) hgw1).trans (by simpa using j2)
            have z3 : w2.cell? ⟨g, o + 11 + 3, none⟩ = some d3 := (hb2.cell (p := ⟨g, _, none⟩) hgw1).trans (by simpa using j3)
            have z4 : w2.cell? ⟨g, o + 11 + 4, none⟩ = some d4 := (hb2.cell (p := ⟨g, _, none⟩) hgw1).trans (by simpa using j4)
            have z5 : w2.cell? ⟨g, o + 11 + 5, none⟩ = some d5' := (hb2.cell (p := ⟨g, _, none⟩) hgw1).trans (by simpa using j5)
            have z6 : w2.cell? ⟨g, o + 11 + 6, none⟩ = some d6 := (hb2.cell (p := ⟨g, _, none⟩) hgw1).trans (by simpa using j6)
            have z7 : w2.cell? ⟨g, o + 11 + 7, none⟩ = some d7 := (hb2.cell (p := ⟨g, _, none⟩) hgw1).trans (by simpa using j7)
            have z8 : w2.cell? ⟨g, o + 11 + 8, none⟩ = some d8 := (hb2.cell (p := ⟨g, _, none⟩) hgw1).trans (by simpa using j8)
            have z9 : w2.cell? ⟨g, o + 11 + 9, none⟩ = some d9 := (hb2.cell (p := ⟨g, _, none⟩) hgw1).trans (by simpa using j9)
            have z10 : w2.cell? ⟨g, o + 11 + 10, none⟩ = some d10 := (hb2.cell (p := ⟨g, _, none⟩) hgw1).trans (by simpa using j10)
            have HC2 := Lib.hid (HIH.out 1 hk1 B w2 [d0, d1, d2, d3, d4, d5', d6, d7, d8, d9, d10] (Nat.le_trans hBW1 hb2.size) (HE1.out.later (hb2.mono hBW1)))
            rw [HV1.out] at HC2
            have HB2 := Lib.hid (HBW.out.trans (hb2.mono (by omega)))
            have hz2 := hb2.size
            clear hb2
            go_wp2_with fail
            refine HC2.out.mono ?_
            rintro e3 w3 ⟨rfl, hb3⟩
            go_wp2_with fail
            go_ret
            exact ⟨ret_bool (show v1 = V from HE.out.symm), HB2.out.trans (hb3.mono (by omega))⟩
        · have dl : ((kl : Int) == 2) = false := by simp; omega
          have HE := Lib.hid (show V = false by rw [HE0.out]; exact value_not_two (by rw [HK.out]; exact l1))
          clear l1
          go_enter Try.func28, Try.ntmps28
          go_wp2_with fail
          rw [HW.out]
          go_ret
          exact ⟨ret_bool HE.out.symm, HBW.out⟩
      · have n5 : (k == 5) = false := by simpa using a3
        by_cases a2 : k = 12
        · have HE0 := Lib.hid (show V = exsOne ks by rw [← HV.out, value_eq, if_neg a1, if_pos a2])
          have d12 : (k == 12) = true := by simpa using a2
          clear a1 a2 a3
          by_cases l1 : kl = 1
          · subst l1
            have hk0 : 0 < ks.length := by rw [HK.out]; omega
            obtain ⟨g, o, c0, c1, c2, c3, c4, c5, c6, c7, c8, c9, c10, rfl, hg0, ⟨hl0, hL0⟩, k0, k1, k2, k3, k4, k5, k6, k7, k8, k9, k10⟩ := ex_cells HRK.out (i := 0) (by omega)
            have he0 := HEK.out 0 hl0 hk0
            rw [hL0] at he0
            have m0 : W1.cell? ⟨g, o, none⟩ = some c0 := by simpa using k0
            have m1 : W1.cell? ⟨g, o + 1, none⟩ = some c1 := by simpa using k1
            have m2 : W1.cell? ⟨g, o + 2, none⟩ = some c2 := by simpa using k2
            have m3 : W1.cell? ⟨g, o + 3, none⟩ = some c3 := by simpa using k3
            have m4 : W1.cell? ⟨g, o + 4, none⟩ = some c4 := by simpa using k4
            have m5 : W1.cell? ⟨g, o + 5, none⟩ = some c5 := by simpa using k5
            have m6 : W1.cell? ⟨g, o + 6, none⟩ = some c6 := by simpa using k6
            have m7 : W1.cell? ⟨g, o + 7, none⟩ = some c7 := by simpa using k7
            have m8 : W1.cell? ⟨g, o + 8, none⟩ = some c8 := by simpa using k8
            have m9 : W1.cell? ⟨g, o + 9, none⟩ = some c9 := by simpa using k9
            have m10 : W1.cell? ⟨g, o + 10, none⟩ = some c10 := by simpa using k10
            have hgw1 : g < W1.heap.size := by omega
            have HC1 := Lib.hid (HIH.out 0 hk0 B W1 [c0, c1, c2, c3, c4, c5, c6, c7, c8, c9, c10] hBW1 he0)
            have HE := Lib.hid (show V = ks[0].value by rw [HE0.out, value_one hk0 HK.out])
            clear hL0 he0 k0 k1 k2 k3 k4 k5 k6 k7 k8 k9 k10
            go_enter Try.func28, Try.ntmps28
            rw [← HW.out] at m0 m1 m2 m3 m4 m5 m6 m7 m8 m9 m10 x0 x7
            go_wp2_with fail
            rw [HW.out]
            refine HC1.out.mono ?_
            rintro e2 w2 ⟨rfl, hb2⟩
            go_wp2_with fail
            go_ret
            exact ⟨ret_bool HE.out.symm, HBW.out.trans (hb2.mono (by have := HZ.out; omega))⟩
          · have dl : ((kl : Int) == 1) = false := by simp; omega
            have HE := Lib.hid (show V = false by rw [HE0.out]; exact value_not_one (by rw [HK.out]; exact l1))
            clear l1
            go_enter Try.func28, Try.ntmps28
            go_wp2_with fail
            rw [HW.out]
            go_ret
            exact ⟨ret_bool HE.out.symm, HBW.out⟩
        · have n12 : (k == 12) = false := by simpa using a2
          have HE := Lib.hid (show V = false by rw [← HV.out, value_eq, if_neg a1, if_neg a2, if_neg a3])
          clear a1 a2 a3
          go_enter Try.func28, Try.ntmps28
          go_wp2_with fail
          rw [HW.out]
          go_ret
          exact ⟨ret_bool HE.out.symm, HBW.out⟩

end Go.Proofs.Ytglamoiimmahgaa
