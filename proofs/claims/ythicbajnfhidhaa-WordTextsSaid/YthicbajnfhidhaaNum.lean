/- Bytes as numbers, eight in a word: the plain mathematics of packing. -/
import Derived.Test.YthicbajnfhidhaaWrap
namespace Go.Proofs.Ythicbajnfhidhaa
open Go.RowKit

/-- The number whose bytes these are, the first one the least. -/
def num : List UInt8 → Nat
  | [] => 0
  | c :: l => c.toNat + 256 * num l
theorem num_lt (l : List UInt8) : num l < 256 ^ l.length := by
  induction l with
  | nil => simp [num]
  | cons c l ih =>
    have hc : c.toNat < 256 := c.toNat_lt
    simp only [num, List.length_cons, Nat.pow_succ]
    omega
theorem num_snoc (l : List UInt8) (c : UInt8) : num (l ++ [c]) = num l + 256 ^ l.length * c.toNat := by
  induction l with
  | nil => simp [num]
  | cons d l ih =>
    simp only [List.cons_append, num, ih, List.length_cons, Nat.pow_succ]
    have : 256 ^ l.length * 256 * c.toNat = 256 * (256 ^ l.length * c.toNat) := by rw [Nat.mul_comm (256 ^ l.length) 256, Nat.mul_assoc]
    omega
/-- The word of number j. -/
def wordOf (l : List UInt8) (j : Nat) : Nat := num ((l.drop (8 * j)).take 8)
theorem wordOf_lt (l : List UInt8) (j : Nat) : wordOf l j < 18446744073709551616 := by
  unfold wordOf
  have h := num_lt ((l.drop (8 * j)).take 8)
  have hl : ((l.drop (8 * j)).take 8).length ≤ 8 := List.length_take_le _ _
  have : 256 ^ ((l.drop (8 * j)).take 8).length ≤ 256 ^ 8 := Nat.pow_le_pow_right (by omega) hl
  omega
/-- The words of a text. -/
def packL (l : List UInt8) : List Nat := (List.range ((l.length + 7) / 8)).map (wordOf l)
theorem packL_len (l : List UInt8) : (packL l).length = (l.length + 7) / 8 := by simp [packL]
theorem packL_at (l : List UInt8) (j : Nat) (h : j < (l.length + 7) / 8) : (packL l)[j]? = some (wordOf l j) := by
  simp [packL, List.getElem?_map, List.getElem?_range h]

/-- One byte more: another word stays. -/
theorem word_stays (l : List UInt8) (k j : Nat) (hj : j ≠ k / 8) : wordOf (l.take (k + 1)) j = wordOf (l.take k) j := by
  unfold wordOf
  congr 1
  by_cases h : j < k / 8
  · rw [List.drop_take, List.drop_take, List.take_take, List.take_take]
    rw [show min 8 (k + 1 - 8 * j) = 8 by omega, show min 8 (k - 8 * j) = 8 by omega]
  · rw [List.drop_eq_nil_of_le (by simp; omega), List.drop_eq_nil_of_le (by simp; omega)]
theorem part_lt (l : List UInt8) (k : Nat) : wordOf (l.take k) (k / 8) < 256 ^ (k % 8) := by
  unfold wordOf
  have h := num_lt (((l.take k).drop (8 * (k / 8))).take 8)
  have hl : (((l.take k).drop (8 * (k / 8))).take 8).length ≤ k % 8 := by simp; omega
  exact Nat.lt_of_lt_of_le h (Nat.pow_le_pow_right (by omega) hl)
/-- One byte more: the word that it falls into. -/
theorem word_grows (l : List UInt8) (k : Nat) (hk : k < l.length) : wordOf (l.take (k + 1)) (k / 8) = wordOf (l.take k) (k / 8) + 256 ^ (k % 8) * (l[k]).toNat := by
  unfold wordOf
  have e1 : (((l.take (k + 1)).drop (8 * (k / 8))).take 8) = (l.drop (8 * (k / 8))).take (k % 8 + 1) := by
    rw [List.drop_take, List.take_take]; congr 1; omega
  have e2 : (((l.take k).drop (8 * (k / 8))).take 8) = (l.drop (8 * (k / 8))).take (k % 8) := by
    rw [List.drop_take, List.take_take]; congr 1; omega
  have hl : k % 8 < (l.drop (8 * (k / 8))).length := by simp; omega
  rw [e1, e2, List.take_succ_eq_append_getElem hl, num_snoc]
  rw [List.getElem_drop, List.length_take_of_le (by omega)]
  simp only [show 8 * (k / 8) + k % 8 = k by omega]
theorem word_none (l : List UInt8) (j : Nat) : wordOf (l.take 0) j = 0 := by simp [wordOf, num]
theorem pow_bits (r : Nat) : (256 : Nat) ^ r = 2 ^ (r * 8) := by rw [show (256 : Nat) = 2 ^ 8 from rfl, ← Nat.pow_mul, Nat.mul_comm]

/-- The same in the words of the machine. -/
theorem or_byte (x c r : Nat) (hr : r < 8) (hx : x < 256 ^ r) (hc : c < 256) : bits .or .u64 (x : Int) (IntKind.u64.wrap ((c : Int) * 2 ^ (r * 8))) = ((x + 256 ^ r * c : Nat) : Int) := by
  have hb : 256 ^ r * c + 256 ^ r ≤ 256 ^ 8 := by
    have h1 : 256 ^ r * c + 256 ^ r ≤ 256 ^ r * 256 := by rw [← Nat.mul_succ]; exact Nat.mul_le_mul_left _ (by omega)
    have h2 : 256 ^ r * 256 ≤ 256 ^ 8 := by rw [← Nat.pow_succ]; exact Nat.pow_le_pow_right (by omega) (by omega)
    omega
  have hp : 0 < 256 ^ r := Nat.pow_pos (by omega)
  have e : (c : Int) * 2 ^ (r * 8) = ((256 ^ r * c : Nat) : Int) := by
    rw [pow_bits, Nat.mul_comm]; simp [Int.mul_comm]
  rw [e, u64_in _ (by omega) (by omega), u64_or_nat _ _ (by omega) (by omega), pow_bits, Nat.or_comm, ← Nat.two_pow_add_eq_or_of_lt (by rw [← pow_bits]; exact hx), Nat.add_comm]

end Go.Proofs.Ythicbajnfhidhaa
