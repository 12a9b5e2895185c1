/- Walks: the document's Letter, its text of an integer. -/
import Derived.Test.YtgmcjnhaedfinaaQle
namespace Go.Proofs.Ytgmcjnhaedfinaa
open Go.RowKit
set_option linter.unusedVariables false
set_option linter.unusedSimpArgs false
set_option maxRecDepth 100000

set_option maxHeartbeats 400000 in
theorem rwrap_any (n : Int) (w : World) :
    Calls Try.prog 62 #[.int .i64 n] w fun e w' => e = .returned (.int .i64 (w63 (n % 9223372036854775808))) ∧ w = w' := by
  go_enter Try.func62, Try.ntmps62
  go_wp2_with (first | (go_at_call 66; refine (rmod_any _ _).mono ?_; rintro e w' ⟨rfl, rfl⟩) | (go_at_call 65; refine (rmean_any _ _ (by omega) (by omega)).mono ?_; rintro e w' ⟨rfl, rfl⟩))
  go_ret
  exact ⟨rfl, rfl⟩
theorem w63_mod (n : Int) (h1 : 0 ≤ n) (h2 : n ≤ 4611686018427387903) : w63 (n % 9223372036854775808) = n := by unfold w63; omega
set_option maxHeartbeats 400000 in
theorem rsize_pos (n : Int) (w : World) (h1 : 0 ≤ n) (h2 : n ≤ 4611686018427387903) :
    Calls Try.prog 64 #[.int .i64 n] w fun e w' => e = .returned (.int .u64 n) ∧ w = w' := by
  have d : decide (n < 0) = false := by simpa using h1
  go_enter Try.func64, Try.ntmps64
  go_wp2
  go_ret
  exact ⟨rfl, rfl⟩

set_option maxHeartbeats 1600000 in
theorem rdigits_any (m : Nat) (hm : m ≤ 4611686018427387903) (w : World) :
    Calls Try.prog 63 #[.int .u64 m] w fun e w' => e = .returned (.string ⟨(dec m).toArray⟩) ∧ Below w.heap.size w w' := by
  have HLEN := Lib.hid (dec_len 19 m (by omega))
  go_enter Try.func63, Try.ntmps63
  go_wp2_with fail
  go_loopw [0, 3] (fun u s wr => ∃ (R : Nat) (xs : List UInt8), u = .int .u64 R ∧ s = .string ⟨xs.toArray⟩ ∧ R ≤ 4611686018427387903 ∧ dec m = dec R ++ xs ∧ Below w.heap.size w wr) (fun u _ _ => (intOf u).toNat)
  case atStart => exact ⟨m, [], rfl, rfl, hm, by simp, Below.refl _ _⟩
  case round =>
    obtain ⟨R, xs, rfl, rfl, hR, hd, hb⟩ := hrel
    have hzr := hb.size
    have HB := Lib.hid hb
    have HD := Lib.hid hd
    have HX := Lib.hid (show xs.length ≤ 20 by have := HLEN.out; rw [hd, List.length_append] at this; omega)
    have hconv := run_convert_bytes_arg (P := Try.prog) (wr.alloc (.cells #[.int .u8 (48 + (R : Int) % 10)] 5)) 88 5 Try.underlying88 Try.underlying5 wr.heap.size 0 1 1 [48 + (R : Int) % 10] (by simp) (fun i hi => by
      obtain rfl : i = 0 := by simp at hi; omega
      rw [World.cell?_alloc_at _ _ _ _ rfl]; rfl) 9 Try.underlying9
    have hstr : strOfNums [48 + (R : Int) % 10] = ⟨[UInt8.ofNat (48 + R % 10)].toArray⟩ := by
      have := text_out [UInt8.ofNat (48 + R % 10)]
      simp only [List.map_cons, List.map_nil, digit_byte] at this
      exact this
    obtain ⟨S1, hS1⟩ : ∃ S1 : ByteArray, (⟨xs.toArray⟩ : ByteArray) = S1 := ⟨_, rfl⟩
    obtain ⟨S2, hS2⟩ : ∃ S2 : ByteArray, strOfNums [48 + (R : Int) % 10] = S2 := ⟨_, rfl⟩
    obtain ⟨S3, hS3⟩ : ∃ S3 : ByteArray, (⟨(UInt8.ofNat (48 + R % 10) :: xs).toArray⟩ : ByteArray) = S3 := ⟨_, rfl⟩
    have hsum : S2 ++ S1 = S3 := by
      rw [← hS1, ← hS2, ← hS3, hstr]
      apply bytes_ext
      simp [ByteArray.data_append]
    have hsz : S2.size + S1.size ≤ 9223372036854775807 := by
      have h1 : S1.size ≤ 20 := by rw [← hS1]; exact HX.out
      have h2 : S2.size = 1 := by rw [← hS2, hstr]; rfl
      omega
    have hadd : ∀ w : World, (Op.stringOp .add S2 S1).run Try.prog w = .ok (.string S3) w := fun w => by rw [← hsum]; exact run_string_add_sum w S2 S1 hsz
    have hadd2 : ∀ (w : World) (t : TypeId), (binOp .add t (.string S2) (.string S1)).run Try.prog w = .ok (.string S3) w := fun w t => by rw [binOp_string_add]; exact hadd w
    have HS3 := Lib.hid hS3
    rw [hS2] at hconv
    rw [hS1]
    clear hstr hS1 hS2 hS3 hsum hsz hb hd
    by_cases h : R < 10
    · have d1 : decide ((9 : Int) < (R : Int)) = false := by simp; omega
      have hmod : (R : Int) % 10 = (R : Int) := by omega
      have HF := Lib.hid (show (⟨(dec m).toArray⟩ : ByteArray) = S3 by rw [← HS3.out, HD.out, dec_small R h, show R % 10 = R by omega]; rfl)
      rw [hmod] at hconv
      clear hmod
      go_wp2
      go_ret
      exact ⟨by rw [HF.out]; rfl, by repeat (first | exact HB.out | refine Below.drew ?_ | refine Below.alloc ?_ (by omega) _)⟩
    · have d1 : decide ((9 : Int) < (R : Int)) = true := by simp; omega
      have HN := Lib.hid (show dec m = dec (R / 10) ++ (UInt8.ofNat (48 + R % 10) :: xs) by rw [HD.out, dec_great R h]; simp)
      go_wp2
      go_roundw
      case rel => exact ⟨R / 10, _, by simp, by rw [HS3.out], by omega, HN.out, by repeat (first | exact HB.out | refine Below.drew ?_ | refine Below.alloc ?_ (by omega) _)⟩
      case measure => simp [intOf]; omega

set_option maxHeartbeats 1600000 in
theorem rtext_any (n : Int) (w : World) (h1 : 0 ≤ n) (h2 : n ≤ 4611686018427387903) :
    Calls Try.prog 55 #[.int .i64 n] w fun e w' => e = .returned (.string ⟨(intText n).toArray⟩) ∧ Below w.heap.size w w' := by
  obtain ⟨m, rfl⟩ : ∃ m : Nat, n = m := ⟨n.toNat, by omega⟩
  have CW := Lib.hid (rwrap_any (m : Int) w)
  rw [w63_mod _ h1 h2] at CW
  have CS := Lib.hid (rsize_pos (m : Int) w h1 h2)
  have CD := Lib.hid (rdigits_any m (by omega) w)
  have HT := Lib.hid (show intText (m : Int) = dec m by unfold intText; rw [if_neg (by omega)]; rfl)
  have d : decide ((m : Int) < 0) = false := by simp
  go_enter Try.func55, Try.ntmps55
  go_wp2_with (first | (go_at_call 62; (with_reducible refine CW.out.mono ?_); rintro e w' ⟨rfl, rfl⟩) | (go_at_call 64; (with_reducible refine CS.out.mono ?_); rintro e w' ⟨rfl, rfl⟩) | (go_at_call 63; (with_reducible refine CD.out.mono ?_); rintro e w' ⟨rfl, hb⟩))
  go_ret
  exact ⟨by rw [HT.out]; rfl, hb⟩
theorem cut_all : (List.range 26).all (fun r => ((⟨#[97, 98, 99, 100, 101, 102, 103, 104, 105, 106, 107, 108, 109, 110, 111, 112, 113, 114, 115, 116, 117, 118, 119, 120, 121, 122]⟩ : ByteArray).extract r (r + 1)).data.toList == [UInt8.ofNat (97 + r)]) = true := by kernel_rfl
theorem cut_letter (r : Nat) (h : r < 26) : (⟨#[97, 98, 99, 100, 101, 102, 103, 104, 105, 106, 107, 108, 109, 110, 111, 112, 113, 114, 115, 116, 117, 118, 119, 120, 121, 122]⟩ : ByteArray).extract r (r + 1) = ⟨#[UInt8.ofNat (97 + r)]⟩ := by
  have h1 := List.all_eq_true.1 cut_all r (List.mem_range.2 h)
  rw [beq_iff_eq] at h1
  exact bytes_ext h1
set_option maxHeartbeats 1600000 in
theorem rletter_any (n : Int) (hn : ok64 n) (w : World) :
    Calls Try.prog 33 #[.int .i64 n] w fun e w' => e = .returned (.string ⟨(letterL n).toArray⟩) ∧ Below w.heap.size w w' := by
  have hw := wf_is_i64 hn
  by_cases h0 : n < 0
  · have d0 : decide (n < 0) = true := by simpa using h0
    have HE := Lib.hid (show letterL n = [] by unfold letterL; rw [if_pos h0])
    go_enter Try.func33, Try.ntmps33
    go_wp2_with fail
    go_ret
    exact ⟨by rw [HE.out]; rfl, Below.refl _ _⟩
  · obtain ⟨m, rfl⟩ : ∃ m : Nat, n = m := ⟨n.toNat, by omega⟩
    have d0 : decide ((m : Int) < 0) = false := by simp
    obtain ⟨r, hr⟩ : ∃ r : Nat, m % 26 = r := ⟨_, rfl⟩
    have hr2 : (m : Int) % 26 = (r : Int) := by omega
    have HEN := Lib.hid (cut_letter r (by omega))
    by_cases h1 : m < 26
    · have d1 : decide ((m : Int) < 26) = true := by simp; omega
      have HE := Lib.hid (show letterL m = [UInt8.ofNat (97 + r)] by
        unfold letterL
        rw [if_neg h0, if_pos (by omega), hr2]; simp)
      have hrl : r < 26 := by omega
      clear h0 hn hr
      go_enter Try.func33, Try.ntmps33
      go_wp2_with fail
      go_ret
      exact ⟨by rw [HE.out]; exact congrArg (fun s => Ending.returned (Value.string s)) HEN.out, Below.refl _ _⟩
    · have d1 : decide ((m : Int) < 26) = false := by simp; omega
      have HE := Lib.hid (show letterL m = UInt8.ofNat (97 + r) :: intText ((m : Int) / 26) by
        unfold letterL
        rw [if_neg h0, if_neg (by omega), hr2]; simp)
      have C := Lib.hid (rtext_any ((m : Int) / 26) w (by omega) (by omega))
      have hfin : (⟨#[UInt8.ofNat (97 + r)]⟩ : ByteArray) ++ (⟨(intText ((m : Int) / 26)).toArray⟩ : ByteArray) = ⟨(letterL m).toArray⟩ := by
        rw [HE.out]
        apply bytes_ext
        simp [ByteArray.data_append]
      obtain ⟨S2, hS2⟩ : ∃ S2 : ByteArray, (⟨(intText ((m : Int) / 26)).toArray⟩ : ByteArray) = S2 := ⟨_, rfl⟩
      obtain ⟨S1, hS1⟩ : ∃ S1 : ByteArray, (⟨#[97, 98, 99, 100, 101, 102, 103, 104, 105, 106, 107, 108, 109, 110, 111, 112, 113, 114, 115, 116, 117, 118, 119, 120, 121, 122]⟩ : ByteArray).extract r (r + 1) = S1 := ⟨_, rfl⟩
      rw [hS2] at C hfin
      rw [← HEN.out, hS1] at hfin
      obtain ⟨S3, hS3⟩ : ∃ S3 : ByteArray, (⟨(letterL m).toArray⟩ : ByteArray) = S3 := ⟨_, rfl⟩
      rw [hS3] at hfin ⊢
      have hsz : S1.size + S2.size ≤ 9223372036854775807 := by
        have h1 : S1.size = 1 := by rw [← hS1, HEN.out]; rfl
        have h2 : S2.size ≤ 21 := by rw [← hS2]; exact intText_len ((m : Int) / 26) (by omega) (by omega)
        omega
      have hadd : ∀ w : World, (Op.stringOp .add S1 S2).run Try.prog w = .ok (.string S3) w := fun w => by rw [← hfin]; exact run_string_add_sum w S1 S2 hsz
      have hadd2 : ∀ (w : World) (t : TypeId), (binOp .add t (.string S1) (.string S2)).run Try.prog w = .ok (.string S3) w := fun w t => by rw [binOp_string_add]; exact hadd w
      have HS1 := Lib.hid hS1
      have hrl : r < 26 := by omega
      clear hr h1 h0 hn hS2 hS1 hfin hS3 hsz
      go_enter Try.func33, Try.ntmps33
      go_wp2_with fail
      rw [HS1.out]
      refine C.out.mono ?_
      rintro e w2 ⟨rfl, hb2⟩
      go_wp2_with fail
      go_ret
      exact ⟨rfl, hb2⟩
end Go.Proofs.Ytgmcjnhaedfinaa
