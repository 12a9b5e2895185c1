/- Walks: Letter. -/
import Derived.Test.YtgmcjnhaedfinaaQte
import Derived.Test.YtgmcjnhaedfinaaQco
import Derived.Laws.Concat
namespace Go.Proofs.Ytgmcjnhaedfinaa
open Go.RowKit
set_option linter.unusedVariables false
set_option linter.unusedSimpArgs false
set_option maxRecDepth 100000

theorem enc_all : (List.range 26).all (fun r => (Utf8.encode (97 + (r : Int))).data.toList == [UInt8.ofNat (97 + r)]) = true := by kernel_rfl
theorem bytes_ext : ∀ {a b : ByteArray}, a.data.toList = b.data.toList → a = b := by
  rintro ⟨⟨x⟩⟩ ⟨⟨y⟩⟩ h
  simp only at h
  subst h; rfl
theorem enc_letter (r : Nat) (h : r < 26) : Utf8.encode (97 + (r : Int)) = ⟨#[UInt8.ofNat (97 + r)]⟩ := by
  have h1 := List.all_eq_true.1 enc_all r (List.mem_range.2 h)
  rw [beq_iff_eq] at h1
  exact bytes_ext h1
theorem dec_len : ∀ (k m : Nat), m < 10 ^ (k + 1) → (dec m).length ≤ k + 1
  | 0, m, h => by rw [dec_small m (by simpa using h)]; simp
  | k + 1, m, h => by
    rw [dec]
    split
    · simp
    · rw [List.length_append]
      have := dec_len k (m / 10) (by rw [Nat.pow_succ] at h; omega)
      simp; omega
theorem intText_len (n : Int) (h : 0 ≤ n) (h2 : n < 1000000000000000000000) : (intText n).length ≤ 21 := by
  unfold intText
  rw [if_neg (by omega)]
  exact dec_len 20 n.toNat (by omega)
/-- The name of a number. -/
def letterL (n : Int) : List UInt8 := if n < 0 then [] else UInt8.ofNat (97 + (n % 26).toNat) :: (if n < 26 then [] else intText (n / 26))
set_option maxHeartbeats 1600000 in
theorem letter_any (n : Int) (hn : ok64 n) (w : World) :
    Calls Try.prog 32 #[.int .i64 n] w fun e w' => e = .returned (.string ⟨(letterL n).toArray⟩) ∧ Below w.heap.size w w' := by
  have hw := wf_is_i64 hn
  by_cases h0 : n < 0
  · have d0 : decide (n < 0) = true := by simpa using h0
    have HE := Lib.hid (show letterL n = [] by unfold letterL; rw [if_pos h0])
    go_enter Try.func32, Try.ntmps32
    go_wp2_with fail
    go_ret
    exact ⟨by rw [HE.out]; rfl, Below.refl _ _⟩
  · obtain ⟨m, rfl⟩ : ∃ m : Nat, n = m := ⟨n.toNat, by omega⟩
    have d0 : decide ((m : Int) < 0) = false := by simp
    obtain ⟨r, hr⟩ : ∃ r : Nat, m % 26 = r := ⟨_, rfl⟩
    have hr2 : (m : Int) % 26 = (r : Int) := by omega
    have HEN := Lib.hid (enc_letter r (by omega))
    by_cases h1 : m < 26
    · have d1 : decide ((m : Int) < 26) = true := by simp; omega
      have HE := Lib.hid (show letterL m = [UInt8.ofNat (97 + r)] by
        unfold letterL
        rw [if_neg h0, if_pos (by omega), hr2]; simp)
      have HR2 := Lib.hid hr2
      clear hr2
      go_enter Try.func32, Try.ntmps32
      go_wp2_with fail
      go_ret
      exact ⟨by rw [HE.out]; show Ending.returned (.string (Utf8.encode (97 + (m : Int) % 26))) = _; rw [HR2.out, HEN.out], Below.refl _ _⟩
    · have d1 : decide ((m : Int) < 26) = false := by simp; omega
      have hq : w63 ((m : Int) / 26) = (m : Int) / 26 := w63_in _ (by omega) (by omega)
      have HE := Lib.hid (show letterL m = UInt8.ofNat (97 + r) :: intText ((m : Int) / 26) by
        unfold letterL
        rw [if_neg h0, if_neg (by omega), hr2]; simp)
      have C := Lib.hid (text_any ((m : Int) / 26) w)
      rw [hq] at C
      have hfin : Utf8.encode (97 + (m : Int) % 26) ++ (⟨(intText ((m : Int) / 26)).toArray⟩ : ByteArray) = ⟨(letterL m).toArray⟩ := by
        rw [hr2, HEN.out, HE.out]
        apply bytes_ext
        simp [ByteArray.data_append]
      obtain ⟨S2, hS2⟩ : ∃ S2 : ByteArray, (⟨(intText ((m : Int) / 26)).toArray⟩ : ByteArray) = S2 := ⟨_, rfl⟩
      obtain ⟨S1, hS1⟩ : ∃ S1 : ByteArray, Utf8.encode (97 + (m : Int) % 26) = S1 := ⟨_, rfl⟩
      rw [hS2] at C hfin
      rw [hS1] at hfin
      obtain ⟨S3, hS3⟩ : ∃ S3 : ByteArray, (⟨(letterL m).toArray⟩ : ByteArray) = S3 := ⟨_, rfl⟩
      rw [hS3] at hfin ⊢
      have hsz : S1.size + S2.size ≤ 9223372036854775807 := by
        have h1 : S1.size = 1 := by rw [← hS1, hr2, HEN.out]; rfl
        have h2 : S2.size ≤ 21 := by rw [← hS2]; exact intText_len ((m : Int) / 26) (by omega) (by omega)
        omega
      have hadd : ∀ w : World, (Op.stringOp .add S1 S2).run Try.prog w = .ok (.string S3) w := fun w => by rw [← hfin]; exact run_string_add_sum w S1 S2 hsz
      have hadd2 : ∀ (w : World) (t : TypeId), (binOp .add t (.string S1) (.string S2)).run Try.prog w = .ok (.string S3) w := fun w t => by rw [binOp_string_add]; exact hadd w
      have HS1 := Lib.hid hS1
      clear hr2 hq hr h1 h0 hn hS2 hS1 hfin hS3 hsz
      go_enter Try.func32, Try.ntmps32
      go_wp2_with fail
      rw [HS1.out]
      refine C.out.mono ?_
      rintro e w2 ⟨rfl, hb2⟩
      go_wp2_with fail
      go_ret
      exact ⟨rfl, hb2⟩

end Go.Proofs.Ytgmcjnhaedfinaa
