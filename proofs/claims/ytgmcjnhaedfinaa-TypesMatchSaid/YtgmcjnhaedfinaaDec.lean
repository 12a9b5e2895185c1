/- Whole numbers in decimal digits: plain lists of bytes, no program. -/
import Derived.WalkKit
import Derived.WalkSpells
import Derived.WalkLawsBesides
import Derived.Laws.BytesArg
namespace Go.Proofs.Ytgmcjnhaedfinaa
open Go.RowKit

/-- The digits of a whole number. -/
def dec (m : Nat) : List UInt8 := if m < 10 then [UInt8.ofNat (48 + m)] else dec (m / 10) ++ [UInt8.ofNat (48 + m % 10)]
termination_by m
decreasing_by omega
theorem dec_small (m : Nat) (h : m < 10) : dec m = [UInt8.ofNat (48 + m)] := by rw [dec, if_pos h]
theorem dec_great (m : Nat) (h : ¬ m < 10) : dec m = dec (m / 10) ++ [UInt8.ofNat (48 + m % 10)] := by rw [dec, if_neg h]

theorem pow_step (R k : Nat) (h : R < 10 ^ (k - 1)) (hk : 2 ≤ k) (hr : ¬ R < 10) : 3 ≤ k ∧ R / 10 < 10 ^ (k - 1 - 1) := by
  obtain ⟨j, rfl⟩ : ∃ j, k = j + 2 := ⟨k - 2, by omega⟩
  have e : (10 : Nat) ^ (j + 2 - 1) = 10 * 10 ^ j := by rw [show j + 2 - 1 = j + 1 from rfl, Nat.pow_succ]; omega
  have e2 : (10 : Nat) ^ (j + 2 - 1 - 1) = 10 ^ j := rfl
  rw [e] at h; rw [e2]
  refine ⟨?_, by omega⟩
  rcases Nat.eq_zero_or_pos j with rfl | hj
  · simp at h; omega
  · omega

/-- The digits that are written so far: the cells from k on are xs, and with the digits of R before them they are those of m. -/
def TextAt (m k R : Nat) (C : Array Value) : Prop := C.size = 20 ∧ 2 ≤ k ∧ R < 10 ^ (k - 1) ∧ ∃ xs : List UInt8, xs.length + k = 20 ∧ (∀ j, j < xs.length → C[k + j]? = some (.int .u8 ((xs.getD j 0).toNat : Int))) ∧ dec m = dec R ++ xs

/-- Cells that hold a list of bytes at their end. -/
def Tail (C : Array Value) (k : Nat) (xs : List UInt8) : Prop := C.size = 20 ∧ xs.length + k = 20 ∧ ∀ j, j < xs.length → C[k + j]? = some (.int .u8 ((xs.getD j 0).toNat : Int))

theorem tail_put {C : Array Value} {k : Nat} {xs : List UInt8} (u : UInt8) (h : Tail C k xs) (hk : 1 ≤ k) : Tail (C.setIfInBounds (k - 1) (.int .u8 (u.toNat : Int))) (k - 1) (u :: xs) := by
  obtain ⟨h1, h2, h3⟩ := h
  refine ⟨by simpa using h1, by simp; omega, ?_⟩
  intro j hj
  cases j with
  | zero => simp [Array.getElem?_setIfInBounds, h1]; omega
  | succ j =>
    have e : k - 1 + (j + 1) = k + j := by omega
    rw [e, Array.getElem?_setIfInBounds, if_neg (by omega)]
    simpa using h3 j (by simpa using hj)

theorem text_more {m k R : Nat} {C : Array Value} (h : TextAt m k R C) (hr : ¬ R < 10) : TextAt m (k - 1) (R / 10) (C.setIfInBounds (k - 1) (.int .u8 ((UInt8.ofNat (48 + R % 10)).toNat : Int))) := by
  obtain ⟨h1, h2, h3, xs, h4, h5, h6⟩ := h
  obtain ⟨p1, p2⟩ := pow_step R k h3 h2 hr
  obtain ⟨t1, t2, t3⟩ := tail_put (UInt8.ofNat (48 + R % 10)) (show Tail C k xs from ⟨h1, h4, h5⟩) (by omega)
  exact ⟨t1, by omega, p2, _, t2, t3, by rw [h6, dec_great R hr]; simp⟩
theorem text_last {m k R : Nat} {C : Array Value} (h : TextAt m k R C) (hr : R < 10) : Tail (C.setIfInBounds (k - 1) (.int .u8 ((UInt8.ofNat (48 + R % 10)).toNat : Int))) (k - 1) (dec m) := by
  obtain ⟨h1, h2, h3, xs, h4, h5, h6⟩ := h
  have := tail_put (UInt8.ofNat (48 + R % 10)) (show Tail C k xs from ⟨h1, h4, h5⟩) (by omega)
  rw [h6, dec_small R hr]
  rwa [Nat.mod_eq_of_lt hr] at this ⊢
theorem digit_byte (R : Nat) : ((UInt8.ofNat (48 + R % 10)).toNat : Int) = 48 + (R : Int) % 10 := by
  simp; omega
theorem text_start (m : Nat) (C : Array Value) (hC : C.size = 20) (hm : m ≤ 4611686018427387904) : TextAt m 20 m C :=
  ⟨hC, by omega, by simp; omega, [], rfl, fun j hj => by simp at hj, by simp⟩

/-- The text of an integer. -/
def intText (n : Int) : List UInt8 := if n < 0 then 45 :: dec (-n).toNat else dec n.toNat

end Go.Proofs.Ytgmcjnhaedfinaa
