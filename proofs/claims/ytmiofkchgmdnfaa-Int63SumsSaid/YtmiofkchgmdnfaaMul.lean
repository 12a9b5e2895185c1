/- The document's product, by doubling: its loop keeps the sum and the product's rest together, modulo 2^63. -/
import Derived.Test.YtmiofkchgmdnfaaInt
namespace Go.Proofs.Ytmiofkchgmdnfaa
open Go.RowKit

theorem mul_odd (A S X q : Int) (h : (S + X * (2 * q + 1)) % 9223372036854775808 = A % 9223372036854775808) :
    ((S + X) % 9223372036854775808 + (2 * X) % 9223372036854775808 * q) % 9223372036854775808 = A % 9223372036854775808 := by
  rw [← h]
  have e : S + X * (2 * q + 1) = (S + X) + 2 * X * q := by rw [Int.mul_add, Int.mul_one, ← Int.mul_assoc, Int.mul_comm X 2]; omega
  rw [e, Int.add_emod, Int.add_emod (S + X)]
  simp [Int.mul_emod]
theorem mul_even (A S X q : Int) (h : (S + X * (2 * q)) % 9223372036854775808 = A % 9223372036854775808) :
    (S + (2 * X) % 9223372036854775808 * q) % 9223372036854775808 = A % 9223372036854775808 := by
  rw [← h]
  have e : S + X * (2 * q) = S + 2 * X * q := by rw [← Int.mul_assoc, Int.mul_comm X 2]
  rw [e, Int.add_emod, Int.add_emod S]
  simp [Int.mul_emod]

/-- What holds at the head of each round. -/
def MulAt (A : Int) (x y s : Value) : Prop := ∃ X Y S : Int, x = .int .u64 X ∧ y = .int .u64 Y ∧ s = .int .u64 S ∧ 0 ≤ X ∧ X ≤ 9223372036854775807 ∧ 0 ≤ Y ∧ Y ≤ 9223372036854775807 ∧ 0 ≤ S ∧ S ≤ 9223372036854775807 ∧ (S + X * Y) % 9223372036854775808 = A % 9223372036854775808

set_option maxHeartbeats 400000 in
theorem rmul_any (a b : Int) (w : World) :
    Calls Try.prog 17 #[.int .i64 a, .int .i64 b] w fun e w' => e = .returned (.int .i64 (w63 (a * b))) ∧ w = w' := by
  go_enter Try.func17, Try.ntmps17
  go_wp2_with (go_at_call 24; refine (rmod_any _ _).mono ?_; rintro e w' ⟨rfl, rfl⟩)
  go_loop [5, 6, 7] (fun x y s => MulAt (a * b) x y s) (fun _ y _ => (intOf y).toNat)
  case atStart => exact ⟨_, _, _, rfl, rfl, rfl, mod_ge a, mod_le a, mod_ge b, mod_le b, by omega, by omega, by simp [Int.mul_emod]⟩
  case round =>
    obtain ⟨X, Y, S, rfl, rfl, rfl, x1, x2, y1, y2, s1, s2, h⟩ := hrel
    by_cases hy : 0 < Y
    · have d1 : 0 ≤ Y / 2 := by omega
      have d2 : Y / 2 ≤ 9223372036854775807 := by omega
      have n1 := mod_ge (S + X)
      have n2 := mod_le (S + X)
      have m1 := mod_ge (2 * X)
      have m2 := mod_le (2 * X)
      by_cases ho : Y % 2 = 1
      · have hq : Y = 2 * (Y / 2) + 1 := by omega
        have H := Lib.hid (mul_odd (a * b) S X (Y / 2) (by rw [← hq]; exact h))
        have t : (Y % 2 == 1) = true := by simp [ho]
        clear h ho hq
        go_wp2
        go_round
        case rel => exact ⟨_, _, _, rfl, rfl, rfl, by omega, by omega, by omega, by omega, by omega, by omega, H.out⟩
        case measure => simp [intOf]; omega
      · have hq : Y = 2 * (Y / 2) := by omega
        have H := Lib.hid (mul_even (a * b) S X (Y / 2) (by rw [← hq]; exact h))
        have t : (Y % 2 == 1) = false := by simp [ho]
        clear h ho hq
        go_wp2
        go_round
        case rel => exact ⟨_, _, _, rfl, rfl, rfl, by omega, by omega, by omega, by omega, by omega, by omega, H.out⟩
        case measure => simp [intOf]; omega
    · have y0 : Y = 0 := by omega
      have H : Hid (w63 S = w63 (a * b)) := Lib.hid (w63_of (by rw [← h, y0]; simp))
      subst y0
      clear h
      go_wp2_with (go_at_call 23; refine (rmean_any _ _ (by omega) (by omega)).mono ?_; rintro e w' ⟨rfl, rfl⟩)
      go_ret
      exact ⟨ret_int H.out, rfl⟩

end Go.Proofs.Ytmiofkchgmdnfaa
