/- The laws of the integers, and what is told of one is read again. -/
import Derived.Test.YtmiofkchgmdnfaaAwake01
import Derived.Test.YtmiofkchgmdnfaaRound
namespace Go.Proofs.Ytmiofkchgmdnfaa
open Go.RowKit

theorem w63_ex (n : Int) : ∃ k, w63 n = n + 9223372036854775808 * k := ⟨-((n + 4611686018427387904) / 9223372036854775808), by unfold w63; omega⟩
theorem w63_shift (n k : Int) : w63 (n + 9223372036854775808 * k) = w63 n := by unfold w63; omega
theorem sub_add_back (a b : Int) : w63 (w63 (a + b) - b) = w63 a := by
  obtain ⟨k, hk⟩ := w63_ex (a + b)
  rw [hk, show a + b + 9223372036854775808 * k - b = a + 9223372036854775808 * k by omega, w63_shift]
theorem mul_shares (a b c : Int) : w63 (a * w63 (b + c)) = w63 (w63 (a * b) + w63 (a * c)) := by
  obtain ⟨k, hk⟩ := w63_ex (b + c)
  obtain ⟨l, hl⟩ := w63_ex (a * b)
  obtain ⟨m, hm⟩ := w63_ex (a * c)
  rw [hk, hl, hm, Int.mul_add, show a * (9223372036854775808 * k) = 9223372036854775808 * (a * k) by rw [← Int.mul_assoc, Int.mul_comm a, Int.mul_assoc], w63_shift, Int.mul_add]
  rw [show a * b + 9223372036854775808 * l + (a * c + 9223372036854775808 * m) = a * b + a * c + 9223372036854775808 * (l + m) by omega, w63_shift]
theorem mul_swaps (a b : Int) : w63 (b * a) = w63 (a * b) := by rw [Int.mul_comm]
theorem quo_back (a b : Int) : w63 (w63 (w63 ((w63 a).tdiv (w63 b)) * b) + (w63 a).tmod (w63 b)) = w63 a := by
  have e := Int.mul_tdiv_add_tmod (w63 a) (w63 b)
  obtain ⟨k, hk⟩ := w63_ex ((w63 a).tdiv (w63 b))
  obtain ⟨j, hj⟩ := w63_ex b
  obtain ⟨l, hl⟩ := w63_ex (w63 ((w63 a).tdiv (w63 b)) * b)
  rw [hl, hk]
  generalize (w63 a).tdiv (w63 b) = q at *
  generalize (w63 a).tmod (w63 b) = r at *
  have hb : b = w63 b + 9223372036854775808 * (-j) := by omega
  have e2 : (q + 9223372036854775808 * k) * b + 9223372036854775808 * l + r = w63 a + 9223372036854775808 * (k * b + l + q * (-j)) := by
    have e3 : (q + 9223372036854775808 * k) * b = q * w63 b + 9223372036854775808 * (q * (-j)) + 9223372036854775808 * (k * b) := by
      rw [Int.add_mul, Int.mul_assoc]
      congr 1
      rw [← Int.mul_assoc, Int.mul_comm 9223372036854775808 q, Int.mul_assoc, ← Int.mul_add, ← hb]
    have e4 : q * w63 b = w63 b * q := Int.mul_comm _ _
    have e5 : 9223372036854775808 * (k * b + l + q * (-j)) = 9223372036854775808 * (k * b) + 9223372036854775808 * l + 9223372036854775808 * (q * (-j)) := by rw [Int.mul_add, Int.mul_add]
    omega
  rw [e2, w63_shift, w63_w63]

theorem dec_short (m : Nat) : (dec m).length ≤ m + 1 := by
  induction m using Nat.strongRecOn with
  | ind m ih =>
    by_cases h : m < 10
    · rw [dec_small m h]; simp
    · rw [dec_great m h]; have := ih (m / 10) (by omega); simp; omega
theorem parse_told (a : Int) (w : World) :
    Calls Try.prog 21 #[.string ⟨(intText (w63 a)).toArray⟩] w fun e w' => e = .returned (.tuple #[.int .i64 (w63 a), .int .i64 0]) ∧ w = w' := by
  have h1 := w63_ge a
  have h2 := w63_le a
  have hl : (⟨(intText (w63 a)).toArray⟩ : ByteArray).size ≤ maxLen := by
    show (intText (w63 a)).toArray.size ≤ maxLen
    simp only [List.size_toArray]
    unfold intText maxLen
    split
    · have := dec_short (-w63 a).toNat; simp; omega
    · have := dec_short (w63 a).toNat; omega
  have := parse_any _ w hl
  rw [show (⟨(intText (w63 a)).toArray⟩ : ByteArray).data.toList = intText (w63 a) from rfl, parse_text (w63 a) h1 h2] at this
  exact this

end Go.Proofs.Ytmiofkchgmdnfaa
