/- What is told of an integer is read again: plain lists of bytes, no program. -/
import Derived.Test.YtmiofkchgmdnfaaParse
namespace Go.Proofs.Ytmiofkchgmdnfaa
open Go.RowKit

theorem digit_nat (m : Nat) (h : m < 10) : (UInt8.ofNat (48 + m)).toNat = 48 + m := by
  simp; omega
theorem isDig_digit (m : Nat) (h : m < 10) : isDig (UInt8.ofNat (48 + m)) = true := by
  simp only [isDig, digit_nat m h, Bool.and_eq_true, decide_eq_true_eq]; omega
theorem dec_all (m : Nat) : (dec m).all isDig = true := by
  induction m using Nat.strongRecOn with
  | ind m ih =>
    by_cases h : m < 10
    · rw [dec_small m h]; simp only [List.all_cons, List.all_nil, isDig_digit m h]; rfl
    · rw [dec_great m h, List.all_append, ih (m / 10) (by omega)]
      simp only [List.all_cons, List.all_nil, isDig_digit (m % 10) (by omega)]; rfl
theorem dec_val (m : Nat) : natVal (dec m) = m := by
  induction m using Nat.strongRecOn with
  | ind m ih =>
    by_cases h : m < 10
    · rw [dec_small m h]; simp only [natVal, List.foldl_cons, List.foldl_nil, digit_nat m h]; omega
    · rw [dec_great m h]
      have e : natVal (dec (m / 10) ++ [UInt8.ofNat (48 + m % 10)]) = natVal (dec (m / 10)) * 10 + ((UInt8.ofNat (48 + m % 10)).toNat - 48) := by simp only [natVal, List.foldl_append, List.foldl_cons, List.foldl_nil]
      rw [e, ih (m / 10) (by omega), digit_nat _ (by omega)]; omega
theorem dec_ne (m : Nat) : dec m ≠ [] := by
  by_cases h : m < 10
  · rw [dec_small m h]; simp
  · rw [dec_great m h]; simp
theorem dec_head (m : Nat) (h0 : 1 ≤ m) : ∃ d, 1 ≤ d ∧ d < 10 ∧ (dec m).head? = some (UInt8.ofNat (48 + d)) := by
  induction m using Nat.strongRecOn with
  | ind m ih =>
    by_cases h : m < 10
    · exact ⟨m, h0, h, by rw [dec_small m h]; rfl⟩
    · obtain ⟨d, d1, d2, d3⟩ := ih (m / 10) (by omega) (by omega)
      exact ⟨d, d1, d2, by rw [dec_great m h, List.head?_append, d3]; rfl⟩
theorem dec_nat (m : Nat) : isNat (dec m) = true := by
  by_cases h0 : m = 0
  · subst h0; rw [dec_small 0 (by omega)]; decide
  · obtain ⟨d, d1, d2, d3⟩ := dec_head m (by omega)
    have hne : (some (UInt8.ofNat (48 + d)) != some 48) = true := by
      simp only [bne_iff_ne, ne_eq, Option.some.injEq]
      intro h
      have := congrArg UInt8.toNat h
      rw [digit_nat d d2] at this
      have e : (48 : UInt8).toNat = 48 := rfl
      omega
    simp only [isNat, dec_all m, d3, hne, Bool.true_and, Bool.and_true]
    simp [dec_ne m]
theorem dec_not_48 (m : Nat) (h0 : 1 ≤ m) : (dec m == [48]) = false := by
  rw [beq_eq_false_iff_ne]
  intro h
  have e := dec_val m
  rw [h] at e
  simp [natVal] at e
  omega
theorem parse_text (n : Int) (h1 : -4611686018427387904 ≤ n) (h2 : n ≤ 4611686018427387903) : parse (intText n) = (n, 0) := by
  unfold intText
  by_cases h : n < 0
  · rw [if_pos h]
    show parseWith true 4611686018427387904 (dec (-n).toNat) = (n, 0)
    rw [with_ok true _ _ (dec_nat _) (by rw [dec_not_48 _ (by omega)]; rfl) (by rw [dec_val]; omega), dec_val]
    simp; omega
  · rw [if_neg h]
    have hp : parse (dec n.toNat) = parseWith false 4611686018427387903 (dec n.toNat) := by
      have ha := dec_all n.toNat
      unfold parse; split
      · rename_i r heq; rw [heq] at ha; simp [isDig] at ha
      · rfl
    rw [hp, with_ok false _ _ (dec_nat _) rfl (by rw [dec_val]; omega), dec_val]
    simp; omega

end Go.Proofs.Ytmiofkchgmdnfaa
