/- What was made is opened as it was: the plain facts. -/
import Derived.Test.YthicbajnfhidhaaAwake02
namespace Go.Proofs.Ythicbajnfhidhaa
open Go.RowKit

theorem int_back (n : Int) : oddB (2 * (n % 9223372036854775808) + 1) = true := odd_yes (by omega)
theorem int_value (n : Int) : toIntV (2 * (n % 9223372036854775808) + 1) = w63 n := by
  unfold toIntV; rw [int_back]; unfold w63; simp; omega
theorem head_opens (k t z : Int) (h : headB k t z = true) : Opens (headV k t z) = .returned (.tuple #[.int .i64 k, .int .i64 t, .int .i64 z, .bool true]) := by
  have e : headV k t z = 1048576 * z + 16 * t + 2 * k + 1 := by unfold headV; rw [h]; rfl
  have g : 0 ≤ k ∧ k ≤ 3 ∧ 0 ≤ t ∧ t ≤ 65535 ∧ 0 ≤ z ∧ z ≤ 16777216 := by unfold headB at h; exact of_decide_eq_true h
  rw [e, opens_yes (open_yes (by omega) (by omega) (by omega)), show (1048576 * z + 16 * t + 2 * k + 1) / 2 % 8 = k by omega, show (1048576 * z + 16 * t + 2 * k + 1) / 16 % 65536 = t by omega, show (1048576 * z + 16 * t + 2 * k + 1) / 1048576 = z by omega]
theorem head_in (k t z : Int) : 0 ≤ headV k t z ∧ headV k t z < 18446744073709551616 := by
  unfold headV
  by_cases h : headB k t z = true
  · have g : 0 ≤ k ∧ k ≤ 3 ∧ 0 ≤ t ∧ t ≤ 65535 ∧ 0 ≤ z ∧ z ≤ 16777216 := by unfold headB at h; exact of_decide_eq_true h
    rw [if_pos h]; omega
  · rw [if_neg h]; omega
theorem ptr_in (n : Int) : 0 ≤ ptrV n ∧ ptrV n < 18446744073709551616 := by
  unfold ptrV
  by_cases h : ptrB n = true
  · have g : 0 ≤ n ∧ n ≤ 4294967296 := by unfold ptrB at h; exact of_decide_eq_true h
    rw [if_pos h]; omega
  · rw [if_neg h]; omega
theorem ptr_back (n : Int) (h : ptrB n = true) : atV (ptrV n) = n ∧ atB (ptrV n) = true ∧ oddB (ptrV n) = false ∧ openB (ptrV n) = false := by
  have e : ptrV n = 2 * n := by unfold ptrV; rw [h]; rfl
  have g : 0 ≤ n ∧ n ≤ 4294967296 := by unfold ptrB at h; exact of_decide_eq_true h
  have hb : atB (2 * n) = true := by unfold atB; simp; omega
  rw [e]
  refine ⟨?_, hb, odd_no (by omega), open_no (.inl (by omega))⟩
  unfold atV
  rw [hb]
  simp

end Go.Proofs.Ythicbajnfhidhaa
