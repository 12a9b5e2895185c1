/- Walks: what the document calls a syntactic value. -/
import Derived.Test.YtglamoiimmahgaaParts
namespace Go.Proofs.Ytglamoiimmahgaa
open Go.RowKit
set_option linter.unusedVariables false

def Ex.kind : Ex → Int
  | .mk k _ _ _ _ _ _ _ => k
mutual
/-- A syntactic value. -/
def Ex.value : Ex → Bool
  | .mk k _ _ _ ks _ _ _ => if k = 2 ∨ k = 3 ∨ k = 4 ∨ k = 6 then true else if k = 12 then exsOne ks else if k = 5 then exsTwo ks else false
def exsOne : List Ex → Bool
  | [] => false
  | a :: r => a.value && r.isEmpty
def exsTwo : List Ex → Bool
  | [] => false
  | f :: r => (f.kind == 4 || (f.kind == 5 && f.value)) && exsOne r
end
theorem value_eq (k : Int) (nm : ByteArray) (n : Int) (t : Ty) (ks : List Ex) (als : List Al) (bs : List Bd) (q : Int) : Ex.value (.mk k nm n t ks als bs q) = (if k = 2 ∨ k = 3 ∨ k = 4 ∨ k = 6 then true else if k = 12 then exsOne ks else if k = 5 then exsTwo ks else false) := by
  unfold Ex.value; rfl
theorem ex_shape {w : World} {B : Nat} {c0 c1 c2 c3 c4 c5 c6 c7 c8 c9 c10 : Value} {e : Ex} (h : ExAt w B [c0, c1, c2, c3, c4, c5, c6, c7, c8, c9, c10] e) :
    ∃ (n tk tn q : Int) (nm tnm : ByteArray) (tA A Aa Ab : Option Addr) (tl tc kl c al ca bl cb : Nat), c0 = .int .i64 e.kind ∧ c1 = .string nm ∧ c2 = .int .i64 n ∧ c3 = .int .i64 tk ∧ c4 = .string tnm ∧ c5 = .int .i64 tn ∧ c6 = .slice tA tl tc ∧ c7 = .slice A kl c ∧ c8 = .slice Aa al ca ∧ c9 = .slice Ab bl cb ∧ c10 = .int .i64 q := by
  generalize hl : [c0, c1, c2, c3, c4, c5, c6, c7, c8, c9, c10] = l at h
  cases h with
  | mk _ _ _ _ ht =>
    cases ht
    simp only [List.cons_append, List.nil_append, List.cons.injEq, and_true] at hl
    obtain ⟨h0, h1, h2, h3, h4, h5, h6, h7, h8, h9, h10⟩ := hl
    exact ⟨_, _, _, _, _, _, _, _, _, _, _, _, _, _, _, _, _, _, h0, h1, h2, h3, h4, h5, h6, h7, h8, h9, h10⟩
theorem ex_kind_cell {w : World} {B : Nat} {c0 c1 c2 c3 c4 c5 c6 c7 c8 c9 c10 : Value} {e : Ex} (h : ExAt w B [c0, c1, c2, c3, c4, c5, c6, c7, c8, c9, c10] e) : c0 = .int .i64 e.kind := by
  generalize hl : [c0, c1, c2, c3, c4, c5, c6, c7, c8, c9, c10] = l at h
  cases h with
  | mk _ _ _ _ ht =>
    cases ht
    simp only [List.cons_append, List.nil_append, List.cons.injEq] at hl
    exact hl.1

set_option maxRecDepth 100000 in
set_option maxHeartbeats 6400000 in
theorem rvalue_any (N : Nat) : ∀ (e : Ex), e.nodes ≤ N → ∀ (B : Nat) (w : World) (cs : List Value), B ≤ w.heap.size → ExAt w B cs e →
    Calls Try.prog 29 #[.agg cs.toArray] w fun e' w' => e' = .returned (.bool e.value) ∧ Below w.heap.size w w' := by
  induction N with
  | zero => intro e h; cases e; unfold Ex.nodes at h; omega
  | succ N ih =>
    intro e hN B w cs hB hx
    cases hx with
    | @mk k n q nm t T A Aa Ab c ca cb ks als bs L La Lb _ _ _ _ ht _ _ _ _ _ _ hb hba hbb hr hks hra hals hrb hbs =>
    cases ht with
    | @mk tk tn tnm tA tc tks tL h1 h2 h3 h4 h5 h6 htr htks =>
    have hnodes : (Ex.mk k nm n (.mk tk tnm tn tks) ks als bs q).nodes = 1 + exsNodes ks + alsNodes als + bdsNodes bs := rfl
    rw [hnodes] at hN
    obtain ⟨al, hal⟩ : ∃ x, als.length = x := ⟨_, rfl⟩
    obtain ⟨bl, hbl⟩ : ∃ x, bs.length = x := ⟨_, rfl⟩
    obtain ⟨tl, htl⟩ : ∃ x, tks.length = x := ⟨_, rfl⟩
    obtain ⟨kl, hkl⟩ : ∃ x, ks.length = x := ⟨_, rfl⟩
    have hkl9 : kl ≤ 1000000000000 := by rw [← hkl]; omega
    obtain ⟨V, hV⟩ : ∃ v, Ex.value (.mk k nm n (.mk tk tnm tn tks) ks als bs q) = v := ⟨_, rfl⟩
    rw [hV]
    simp only [List.cons_append, List.nil_append]
    rw [hal, hbl, htl, hkl]
    have hb0 := Blk.new w 29 #[.int .i64 k, .string nm, .int .i64 n, .int .i64 tk, .string tnm, .int .i64 tn, .slice tA tl tc, .slice A kl c, .slice Aa al ca, .slice Ab bl cb, .int .i64 q]
    obtain ⟨W1, hW1⟩ : ∃ W1, w.alloc (.cells #[.int .i64 k, .string nm, .int .i64 n, .int .i64 tk, .string tnm, .int .i64 tn, .slice tA tl tc, .slice A kl c, .slice Aa al ca, .slice Ab bl cb, .int .i64 q] 29) = W1 := ⟨_, rfl⟩
    have hbW : Below w.heap.size w W1 := by rw [← hW1]; exact (Below.refl _ _).alloc (Nat.le_refl _) _
    have hzW : W1.heap.size = w.heap.size + 1 := by rw [← hW1]; simp
    rw [hW1] at hb0
    have HW := Lib.hid hW1
    have HBW := Lib.hid hbW
    have HZ := Lib.hid hzW
    have HBX := Lib.hid hb0
    have HRK := Lib.hid hr
    have HEK := Lib.hid (fun i h1 h2 => hks i h1 h2)
    have HIH := Lib.hid (fun (i : Nat) (hi : i < ks.length) => ih ks[i] (by have := exs_mem ks i hi; omega))
    have HK := Lib.hid hkl
    have HV := Lib.hid hV
    clear ih hnodes hN hal hbl htl hkl hV hb0 hW1 hbW hzW hr hks hra hals hrb hbs htr htks hb hba hbb
    by_cases a1 : k = 2 ∨ k = 3 ∨ k = 4 ∨ k = 6
    · have HE := Lib.hid (show V = true by rw [← HV.out, value_eq, if_pos a1])
      rcases a1 with a1 | a1 | a1 | a1
      all_goals
        subst a1
        go_enter Try.func29, Try.ntmps29
        go_wp2_with fail
        rw [HW.out]
        go_ret
        exact ⟨ret_bool HE.out.symm, HBW.out⟩
    · have n2 : (k == 2) = false := by simp; omega
      have n3 : (k == 3) = false := by simp; omega
      have n4 : (k == 4) = false := by simp; omega
      have n6 : (k == 6) = false := by simp; omega
      by_cases a2 : k = 12
      · have HE0 := Lib.hid (show V = exsOne ks by rw [← HV.out, value_eq, if_neg a1, if_pos a2])
        have d12 : (k == 12) = true := by simpa using a2
        clear a1 a2
        by_cases l1 : kl = 1
        · skip
          subst l1
          have hk0 : 0 < ks.length := by rw [HK.out]; omega
          obtain ⟨g, o, c0, c1, c2, c3, c4, c5, c6, c7, c8, c9, c10, rfl, hg0, ⟨hl0, hL0⟩, k0, k1, k2, k3, k4, k5, k6, k7, k8, k9, k10⟩ := ex_cells HRK.out (i := 0) (by omega)
          have k0' : w.cell? ⟨g, o, none⟩ = some c0 := by simpa using k0
          have k1' : w.cell? ⟨g, o + 1, none⟩ = some c1 := by simpa using k1
          have k2' : w.cell? ⟨g, o + 2, none⟩ = some c2 := by simpa using k2
          have k3' : w.cell? ⟨g, o + 3, none⟩ = some c3 := by simpa using k3
          have k4' : w.cell? ⟨g, o + 4, none⟩ = some c4 := by simpa using k4
          have k5' : w.cell? ⟨g, o + 5, none⟩ = some c5 := by simpa using k5
          have k6' : w.cell? ⟨g, o + 6, none⟩ = some c6 := by simpa using k6
          have k7' : w.cell? ⟨g, o + 7, none⟩ = some c7 := by simpa using k7
          have k8' : w.cell? ⟨g, o + 8, none⟩ = some c8 := by simpa using k8
          have k9' : w.cell? ⟨g, o + 9, none⟩ = some c9 := by simpa using k9
          have k10' : w.cell? ⟨g, o + 10, none⟩ = some c10 := by simpa using k10
          have hgw0 : g < w.heap.size := by omega
          have he0 := HEK.out 0 hl0 hk0
          rw [hL0] at he0
          clear hL0 k0 k1 k2 k3 k4 k5 k6 k7 k8 k9 k10
          obtain ⟨v, hv⟩ : ∃ v, ks[0].value = v := ⟨_, rfl⟩
          have hE : V = v := by
            rw [HE0.out, ← hv]
            match ks, HK.out, hk0 with
            | [a], _, _ => simp [exsOne]
          have C1 := HIH.out 0 hk0 B W1 [c0, c1, c2, c3, c4, c5, c6, c7, c8, c9, c10] (by have := HZ.out; omega) (he0.later (HBW.out.mono hB))
          rw [hv] at C1
          have HC := Lib.hid C1
          have HE := Lib.hid hE
          clear C1 hv hE he0
          go_enter Try.func29, Try.ntmps29
          go_wp2_with fail
          rw [HW.out]
          refine HC.out.mono ?_
          rintro e w2 ⟨rfl, hb2⟩
          go_wp2_with fail
          go_ret
          exact ⟨ret_bool HE.out.symm, HBW.out.trans (hb2.mono (by have := HZ.out; omega))⟩
        · have dl : ((kl : Int) == 1) = false := by simp; omega
          have HE := Lib.hid (show V = false by
            rw [HE0.out]
            match ks, HK.out with
            | [], _ => rfl
            | [a], h => exact absurd h.symm l1
            | a :: b :: r, _ => simp [exsOne])
          clear l1
          go_enter Try.func29, Try.ntmps29
          go_wp2_with fail
          rw [HW.out]
          go_ret
          exact ⟨ret_bool HE.out.symm, HBW.out⟩
      · skip
        have n12 : (k == 12) = false := by simpa using a2
        by_cases a3 : k = 5
        · have HE0 := Lib.hid (show V = exsTwo ks by rw [← HV.out, value_eq, if_neg a1, if_neg a2, if_pos a3])
          have d5 : (k != 5) = false := by simpa using a3
          clear a1 a2 a3
          by_cases l1 : kl = 2
          · subst l1
            have hk1 : 1 < ks.length := by rw [HK.out]; omega
            obtain ⟨g, o, d0, d1, d2, d3, d4, d5, d6, d7, d8, d9, d10, rfl, hg1, ⟨hl1, hL1⟩, j0, j1, j2, j3, j4, j5, j6, j7, j8, j9, j10⟩ := ex_cells HRK.out (i := 1) (by omega)
            have j0' : w.cell? ⟨g, o + 11, none⟩ = some d0 := by simpa using j0
            have j1' : w.cell? ⟨g, o + 11 + 1, none⟩ = some d1 := by simpa using j1
            have j2' : w.cell? ⟨g, o + 11 + 2, none⟩ = some d2 := by simpa using j2
            have j3' : w.cell? ⟨g, o + 11 + 3, none⟩ = some d3 := by simpa using j3
            have j4' : w.cell? ⟨g, o + 11 + 4, none⟩ = some d4 := by simpa using j4
            have j5' : w.cell? ⟨g, o + 11 + 5, none⟩ = some d5 := by simpa using j5
            have j6' : w.cell? ⟨g, o + 11 + 6, none⟩ = some d6 := by simpa using j6
            have j7' : w.cell? ⟨g, o + 11 + 7, none⟩ = some d7 := by simpa using j7
            have j8' : w.cell? ⟨g, o + 11 + 8, none⟩ = some d8 := by simpa using j8
            have j9' : w.cell? ⟨g, o + 11 + 9, none⟩ = some d9 := by simpa using j9
            have j10' : w.cell? ⟨g, o + 11 + 10, none⟩ = some d10 := by simpa using j10
            have hgw1 : g < w.heap.size := by omega
            have he1 := HEK.out 1 hl1 hk1
            rw [hL1] at he1
            clear hL1 j0 j1 j2 j3 j4 j5 j6 j7 j8 j9 j10
            have hk0 : 0 < ks.length := by omega
            obtain ⟨g', o', c0, c1, c2, c3, c4, c5, c6, c7, c8, c9, c10, EA, hg0, ⟨hl0, hL0⟩, k0, k1, k2, k3, k4, k5, k6, k7, k8, k9, k10⟩ := ex_cells HRK.out (i := 0) (by omega)
            injection EA with EA
            injection EA with EA1 EA2
            subst EA1; subst EA2
            have k0' : w.cell? ⟨g, o, none⟩ = some c0 := by simpa using k0
            have k1' : w.cell? ⟨g, o + 1, none⟩ = some c1 := by simpa using k1
            have k2' : w.cell? ⟨g, o + 2, none⟩ = some c2 := by simpa using k2
            have k3' : w.cell? ⟨g, o + 3, none⟩ = some c3 := by simpa using k3
            have k4' : w.cell? ⟨g, o + 4, none⟩ = some c4 := by simpa using k4
            have k5' : w.cell? ⟨g, o + 5, none⟩ = some c5 := by simpa using k5
            have k6' : w.cell? ⟨g, o + 6, none⟩ = some c6 := by simpa using k6
            have k7' : w.cell? ⟨g, o + 7, none⟩ = some c7 := by simpa using k7
            have k8' : w.cell? ⟨g, o + 8, none⟩ = some c8 := by simpa using k8
            have k9' : w.cell? ⟨g, o + 9, none⟩ = some c9 := by simpa using k9
            have k10' : w.cell? ⟨g, o + 10, none⟩ = some c10 := by simpa using k10
            have he0 := HEK.out 0 hl0 hk0
            rw [hL0] at he0
            clear hL0 k0 k1 k2 k3 k4 k5 k6 k7 k8 k9 k10
            obtain ⟨f, hf⟩ : ∃ f, ks[0] = f := ⟨_, rfl⟩
            obtain ⟨b, hb⟩ : ∃ b, ks[1] = b := ⟨_, rfl⟩
            have hE : V = ((f.kind == 4 || (f.kind == 5 && f.value)) && b.value) := by
              rw [HE0.out, ← hf, ← hb]
              match ks, HK.out, hk0, hk1 with
              | [x, y], _, _, _ => simp [exsTwo, exsOne]
            rw [hf] at he0
            rw [hb] at he1
            obtain ⟨fn, ftk, ftn, fq, fnm, ftnm, ftA, fA, fAa, fAb, ftl, ftc, fkl, fc, fal, fca, fbl, fcb, rfl, rfl, rfl, rfl, rfl, rfl, rfl, rfl, rfl, rfl, rfl⟩ := ex_shape he0
            obtain ⟨vb, hvb⟩ : ∃ v, b.value = v := ⟨_, rfl⟩
            have C1 := HIH.out 1 hk1 B W1 [d0, d1, d2, d3, d4, d5, d6, d7, d8, d9, d10] (by have := HZ.out; omega) (by rw [hb]; exact he1.later (HBW.out.mono hB))
            rw [hb, hvb] at C1
            have HC := Lib.hid C1
            have HE := Lib.hid hE
            have HVB := Lib.hid hvb
            have HC2 := Lib.hid (fun W (hW : Below w.heap.size w W) => (by have := HIH.out 0 hk0 B W [.int .i64 f.kind, .string fnm, .int .i64 fn, .int .i64 ftk, .string ftnm, .int .i64 ftn, .slice ftA ftl ftc, .slice fA fkl fc, .slice fAa fal fca, .slice fAb fbl fcb, .int .i64 fq] (by have := hW.size; omega) (by rw [hf]; exact he0.later (hW.mono hB)); rw [hf] at this; exact this : Calls Try.prog 29 #[.agg #[.int .i64 f.kind, .string fnm, .int .i64 fn, .int .i64 ftk, .string ftnm, .int .i64 ftn, .slice ftA ftl ftc, .slice fA fkl fc, .slice fAa fal fca, .slice fAb fbl fcb, .int .i64 fq]] W fun e' w' => e' = .returned (.bool f.value) ∧ Below W.heap.size W w'))
            clear C1 hE hvb he0 he1 hf hb
            cases vb with
            | false =>
              have HF := Lib.hid (show V = false by rw [HE.out, HVB.out]; simp)
              go_enter Try.func29, Try.ntmps29
              go_wp2_with fail
              rw [HW.out]
              refine HC.out.mono ?_
              rintro e w2 ⟨rfl, hb2⟩
              go_wp2_with fail
              go_ret
              exact ⟨ret_bool HF.out.symm, HBW.out.trans (hb2.mono (by have := HZ.out; omega))⟩
            | true =>
              go_enter Try.func29, Try.ntmps29
              go_wp2_with fail
              rw [HW.out]
              refine HC.out.mono ?_
              rintro e w2 ⟨rfl, hb2⟩
              have hw2 : Below w.heap.size w w2 := HBW.out.trans (hb2.mono (by have := HZ.out; omega))
              have hcf := (hb2.cell (p := ⟨w.heap.size, 7, none⟩) (by have := HZ.out; show w.heap.size < _; omega)).trans (HBX.out.cell 7)
              simp only [List.getElem?_toArray, List.getElem?_cons_succ, List.getElem?_cons_zero] at hcf
              have m0 := (hw2.cell (p := ⟨g, o, none⟩) hgw1).trans k0'
              have m1 := (hw2.cell (p := ⟨g, o + 1, none⟩) hgw1).trans k1'
              have m2 := (hw2.cell (p := ⟨g, o + 2, none⟩) hgw1).trans k2'
              have m3 := (hw2.cell (p := ⟨g, o + 3, none⟩) hgw1).trans k3'
              have m4 := (hw2.cell (p := ⟨g, o + 4, none⟩) hgw1).trans k4'
              have m5 := (hw2.cell (p := ⟨g, o + 5, none⟩) hgw1).trans k5'
              have m6 := (hw2.cell (p := ⟨g, o + 6, none⟩) hgw1).trans k6'
              have m7 := (hw2.cell (p := ⟨g, o + 7, none⟩) hgw1).trans k7'
              have m8 := (hw2.cell (p := ⟨g, o + 8, none⟩) hgw1).trans k8'
              have m9 := (hw2.cell (p := ⟨g, o + 9, none⟩) hgw1).trans k9'
              have m10 := (hw2.cell (p := ⟨g, o + 10, none⟩) hgw1).trans k10'
              have HW2 := Lib.hid hw2
              clear hw2 hb2
              have hzz := HZ.out
              by_cases f4 : f.kind = 4
              · have e4 : (f.kind == 4) = true := by simpa using f4
                have HF := Lib.hid (show V = true by rw [HE.out, HVB.out, e4]; rfl)
                clear f4
                go_wp2_with fail
                go_ret
                exact ⟨ret_bool HF.out.symm, HW2.out.alloc HW2.out.size _⟩
              · have e4 : (f.kind == 4) = false := by simpa using f4
                clear f4
                by_cases f5 : f.kind = 5
                · have e5 : (f.kind == 5) = true := by simpa using f5
                  have HF := Lib.hid (show V = f.value by rw [HE.out, HVB.out, e4, e5]; simp)
                  clear f5
                  go_wp2_with fail
                  have hal := HW2.out.alloc HW2.out.size (.cells #[.int .i64 f.kind, .string fnm, .int .i64 fn, .int .i64 ftk, .string ftnm, .int .i64 ftn, .slice ftA ftl ftc, .slice fA fkl fc, .slice fAa fal fca, .slice fAb fbl fcb, .int .i64 fq] 29)
                  refine (HC2.out _ hal).mono ?_
                  rintro e w3 ⟨rfl, hb3⟩
                  go_wp2_with fail
                  go_ret
                  exact ⟨ret_bool HF.out.symm, hal.trans (hb3.mono hal.size)⟩
                · have e5 : (f.kind == 5) = false := by simpa using f5
                  have HF := Lib.hid (show V = false by rw [HE.out, e4, e5]; simp)
                  clear f5
                  go_wp2_with fail
                  go_ret
                  exact ⟨ret_bool HF.out.symm, HW2.out.alloc HW2.out.size _⟩
          · have dl : ((kl : Int) != 2) = true := by simp; omega
            have HE := Lib.hid (show V = false by
              rw [HE0.out]
              match ks, HK.out with
              | [], _ => rfl
              | [a], _ => simp [exsTwo, exsOne]
              | [a, b], h => exact absurd h.symm l1
              | a :: b :: c :: r, _ => simp [exsTwo, exsOne])
            clear l1
            go_enter Try.func29, Try.ntmps29
            go_wp2_with fail
            rw [HW.out]
            go_ret
            exact ⟨ret_bool HE.out.symm, HBW.out⟩
        · have HE := Lib.hid (show V = false by rw [← HV.out, value_eq, if_neg a1, if_neg a2, if_neg a3])
          have d5 : (k != 5) = true := by simpa using a3
          clear a1 a2 a3
          go_enter Try.func29, Try.ntmps29
          go_wp2_with fail
          rw [HW.out]
          go_ret
          exact ⟨ret_bool HE.out.symm, HBW.out⟩

end Go.Proofs.Ytglamoiimmahgaa
