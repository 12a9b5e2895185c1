/- Unpacking: the plain mathematics. -/
import Derived.Test.YthicbajnfhidhaaRpack
namespace Go.Proofs.Ythicbajnfhidhaa
open Go.RowKit

/-- Byte r of a word. -/
def byteOf (z : Int) (r : Nat) : UInt8 := UInt8.ofNat (z.toNat / 256 ^ r % 256)
theorem byteOf_nat (z : Int) (r : Nat) : (byteOf z r).toNat = z.toNat / 256 ^ r % 256 := by
  simp [byteOf]
/-- Byte i of many words. -/
def byteAt (zs : List Int) (i : Nat) : UInt8 := byteOf (zs.getD (i / 8) 0) (i % 8)
def bytesOf (zs : List Int) (n : Nat) : List UInt8 := (List.range n).map (byteAt zs)
theorem bytesOf_len (zs : List Int) (n : Nat) : (bytesOf zs n).length = n := by simp [bytesOf]
theorem bytesOf_succ (zs : List Int) (n : Nat) : bytesOf zs (n + 1) = bytesOf zs n ++ [byteAt zs n] := by simp [bytesOf, List.range_succ]

theorem num_bytes (z : Int) (r : Nat) : num ((List.range r).map (byteOf z)) = z.toNat % 256 ^ r := by
  induction r with
  | zero => simp [num, Nat.mod_one]
  | succ r ih =>
    rw [List.range_succ, List.map_append, List.map_cons, List.map_nil, num_snoc, ih, byteOf_nat, List.length_map, List.length_range, Nat.mod_pow_succ]
theorem word_bytes (zs : List Int) (n j : Nat) : wordOf (bytesOf zs n) j = (zs.getD j 0).toNat % 256 ^ (min 8 (n - 8 * j)) := by
  unfold wordOf
  rw [← num_bytes]
  congr 1
  apply List.ext_getElem
  · simp [bytesOf]
  · intro i h1 h2
    simp at h2
    simp [bytesOf, byteAt, show (8 * j + i) / 8 = j by omega, show i % 8 = i by omega]

/-- Are only zero bytes behind the n bytes in the last word? -/
def padB (zs : List Int) (n : Nat) : Bool := decide (n % 8 = 0 ∨ (zs.getD (zs.length - 1) 0).toNat / 256 ^ (n % 8) = 0)
/-- Do these words hold a text of n bytes? -/
def validB (zs : List Int) (n : Int) : Bool := decide (0 ≤ n ∧ zs.length = (n.toNat + 7) / 8) && padB zs n.toNat

theorem getD_lt {zs : List Int} (hz : ∀ z ∈ zs, 0 ≤ z ∧ z < 18446744073709551616) (j : Nat) : 0 ≤ zs.getD j 0 ∧ zs.getD j 0 < 18446744073709551616 := by
  by_cases h : j < zs.length
  · have e : zs.getD j 0 = zs[j] := by simp [List.getD, List.getElem?_eq_getElem h]
    rw [e]
    exact hz _ (List.getElem_mem h)
  · have e : zs.getD j 0 = 0 := by simp [List.getD, List.getElem?_eq_none (show zs.length ≤ j by omega)]
    rw [e]
    omega

theorem same_valid (zs : List Int) (n : Nat) (hz : ∀ z ∈ zs, 0 ≤ z ∧ z < 18446744073709551616) : sameB (packTo (bytesOf zs n) ((n + 7) / 8)) zs = validB zs n := by
  unfold sameB validB
  rw [show ((n : Int).toNat) = n by simp]
  by_cases hl : zs.length = (n + 7) / 8
  · have hall : ∀ j, j < (n + 7) / 8 → j ≠ n / 8 → wordOf (bytesOf zs n) j = (zs.getD j 0).toNat := by
      intro j hj hne
      rw [word_bytes zs n j, show min 8 (n - 8 * j) = 8 by omega]
      have := getD_lt hz j
      exact Nat.mod_eq_of_lt (by omega)
    have hlast : n % 8 ≠ 0 → wordOf (bytesOf zs n) (n / 8) = (zs.getD (n / 8) 0).toNat % 256 ^ (n % 8) := by
      intro h
      rw [word_bytes zs n (n / 8), show min 8 (n - 8 * (n / 8)) = n % 8 by omega]
    have key : packTo (bytesOf zs n) ((n + 7) / 8) = zs ↔ padB zs n = true := by
      unfold padB
      rw [decide_eq_true_iff]
      constructor
      · intro e
        by_cases h : n % 8 = 0
        · exact .inl h
        · right
          have hj : n / 8 < (n + 7) / 8 := by omega
          have e2 : (packTo (bytesOf zs n) ((n + 7) / 8))[n / 8]? = some ((wordOf (bytesOf zs n) (n / 8) : Nat) : Int) := by simp [packTo, hj]
          rw [e, hlast h] at e2
          obtain ⟨z, hzz⟩ : ∃ z, z = zs.getD (n / 8) 0 := ⟨_, rfl⟩
          rw [← hzz] at e2
          have e3 : z = ((z.toNat % 256 ^ (n % 8) : Nat) : Int) := by
            have e4 : zs.getD (n / 8) 0 = ((z.toNat % 256 ^ (n % 8) : Nat) : Int) := by rw [List.getD_eq_getElem?_getD, e2]; rfl
            rw [← e4, hzz]
          rw [show zs.length - 1 = n / 8 by omega, ← hzz]
          have hp : 0 < 256 ^ (n % 8) := Nat.pow_pos (by omega)
          apply Nat.div_eq_of_lt
          have := Nat.mod_lt z.toNat hp
          omega
      · intro h
        apply List.ext_getElem
        · rw [packTo_len, hl]
        · intro j h1 h2
          have hj : j < (n + 7) / 8 := by rw [packTo_len] at h1; exact h1
          have e1 : zs.getD j 0 = zs[j] := by simp [List.getD, List.getElem?_eq_getElem h2]
          have hb := getD_lt hz j
          have e2 : wordOf (bytesOf zs n) j = (zs.getD j 0).toNat := by
            by_cases hne : j = n / 8
            · subst hne
              by_cases h0 : n % 8 = 0
              · omega
              · rw [hlast h0]
                rcases h with h | h
                · exact absurd h h0
                · rw [show zs.length - 1 = n / 8 by omega] at h
                  exact Nat.mod_eq_of_lt ((Nat.div_eq_zero_iff_lt (Nat.pow_pos (by omega))).1 h)
            · exact hall j hj hne
          simp only [packTo, List.getElem_map, List.getElem_range, e2]
          rw [e1] at hb ⊢
          omega
    rw [Bool.eq_iff_iff]
    simp [key, hl]
  · have : packTo (bytesOf zs n) ((n + 7) / 8) ≠ zs := fun e => hl (by rw [← e, packTo_len])
    simp [this, hl]

theorem num_byte : ∀ (ls : List UInt8) (r : Nat) (h : r < ls.length), num ls / 256 ^ r % 256 = (ls[r]).toNat
  | c :: ls, 0, _ => by
    have := c.toNat_lt
    simp [num]
  | c :: ls, r + 1, h => by
    have hc := c.toNat_lt
    have e : num (c :: ls) / 256 ^ (r + 1) = num ls / 256 ^ r := by
      rw [Nat.pow_succ, Nat.mul_comm, ← Nat.div_div_eq_div_mul]
      congr 1
      simp only [num]
      omega
    rw [e]
    simpa using num_byte ls r (by simpa using h)
/-- What is packed is unpacked. -/
theorem back_bytes (l : List UInt8) : bytesOf (packTo l ((l.length + 7) / 8)) l.length = l := by
  apply List.ext_getElem
  · simp [bytesOf]
  · intro i h1 h2
    have hj : i / 8 < (l.length + 7) / 8 := by omega
    have e : (packTo l ((l.length + 7) / 8)).getD (i / 8) 0 = (wordOf l (i / 8) : Int) := by simp [packTo, hj]
    apply UInt8.toNat_inj.1
    simp only [bytesOf, List.getElem_map, List.getElem_range, byteAt]
    rw [e, byteOf_nat]
    unfold wordOf
    have hr : i % 8 < ((l.drop (8 * (i / 8))).take 8).length := by simp; omega
    rw [Int.toNat_natCast, num_byte _ _ hr, List.getElem_take, List.getElem_drop]
    simp only [show 8 * (i / 8) + i % 8 = i by omega]
theorem back_valid (l : List UInt8) : validB (packTo l ((l.length + 7) / 8)) l.length = true := by
  unfold validB padB
  rw [packTo_len, show ((l.length : Int).toNat) = l.length by simp]
  by_cases h : l.length % 8 = 0
  · simp [h]
  · have e : (packTo l ((l.length + 7) / 8)).getD ((l.length + 7) / 8 - 1) 0 = (wordOf l (l.length / 8) : Int) := by
      rw [show (l.length + 7) / 8 - 1 = l.length / 8 by omega]
      simp [packTo, show l.length / 8 < (l.length + 7) / 8 by omega]
    have hp := part_lt l l.length
    rw [List.take_of_length_le (Nat.le_refl _)] at hp
    have hd := Nat.div_eq_of_lt hp
    rw [e]
    simp only [Int.toNat_natCast, hd, or_true, decide_true, Bool.and_true]
    simp

end Go.Proofs.Ythicbajnfhidhaa
