/- The text of an integer. -/
import Derived.Test.YtgmcjnhaedfinaaWrap
import Derived.Test.YtgmcjnhaedfinaaDec
import Derived.Deep.LoopGhost
namespace Go.Proofs.Ytgmcjnhaedfinaa
open Go.RowKit

theorem slice_text (W : World) (b k : Nat) (h1 : 1 ≤ k) (h2 : k ≤ 20) : (Instr.sliceAt 87 (.pointer (some ⟨b, 0, none⟩)) (some (.int .i64 ((k : Int) - 1))) none none).run Try.prog W = .ok (.slice (some ⟨b, k - 1, none⟩) (20 - (k - 1)) (20 - (k - 1))) W := by
  have e : Try.prog.arrayLen 87 = 20 := by kernel_rfl
  have e2 : (sizeOf (Try.prog.elem 87)).run Try.prog W = .ok 1 W := by kernel_rfl
  rw [run_sliceAt_array_l W 87 _ (by rw [e]; exact Try.underlying87) .i64 _ (by omega) (by rw [e]; omega), e2, e]
  simp [Result.andThen, slicedAt, Addr.add, show ((k : Int) - 1).toNat = k - 1 by omega, show ¬ (20 = k - 1) by omega]
  omega

set_option maxHeartbeats 400000 in
theorem text_pos (n : Int) (w : World) (hn : 0 ≤ w63 n) :
    Calls Try.prog 54 #[.int .i64 n] w fun e w' => e = .returned (.string ⟨(intText (w63 n)).toArray⟩) ∧ Below w.heap.size w w' := by
  have h1 := w63_ge n
  have h2 := w63_le n
  obtain ⟨m, hm⟩ : ∃ m : Nat, w63 n = m := ⟨(w63 n).toNat, by omega⟩
  have hn0 : ¬ w63 n < 0 := by omega
  have HM : Hid (w63 n = m) := Lib.hid hm
  clear hm
  go_enter Try.func54, Try.ntmps54
  go_wp2_with (go_at_call 61; refine (wrap_any _ _).mono ?_; rintro e w' ⟨rfl, rfl⟩)
  go_loopw [4, 5] (fun a r wr => ∃ (k R : Nat) (C : Array Value), a = .int .i64 k ∧ r = .int .i64 R ∧ wr = w.alloc (.cells C 87) ∧ k ≤ 20 ∧ R ≤ 4611686018427387904 ∧ TextAt m k R C) (fun a _ _ => (intOf a).toNat)
  case atStart => exact ⟨20, m, _, rfl, by rw [HM.out], rfl, by omega, by have := HM.out; omega, text_start m _ rfl (by have := HM.out; omega)⟩
  case round =>
    obtain ⟨k, R, C, rfl, rfl, rfl, hk, hR, hT⟩ := hrel
    have hk2 : 2 ≤ k := hT.2.1
    have hC : C.size = 20 := hT.1
    have hd := digit_byte R
    obtain ⟨vo, hvo⟩ : ∃ v, C[k - 1]? = some v := ⟨_, Array.getElem?_eq_getElem (by omega)⟩
    by_cases hr : R < 10
    · have HT := text_last hT hr
      rw [hd] at HT
      have hq : ((R : Int) / 10 == 0) = true := by rw [beq_iff_eq]; omega
      obtain ⟨z1, z2, z3⟩ := HT
      have hconv := run_convert_bytes_arg (P := Try.prog) (w.alloc (.cells (C.setIfInBounds (k - 1) (.int .u8 (48 + (R : Int) % 10))) 87)) 88 5 Try.underlying88 Try.underlying5 w.heap.size (k - 1) (20 - (k - 1)) (20 - (k - 1)) ((dec m).map fun u => (u.toNat : Int)) (by simp; omega) (fun i hi => by rw [World.cell?_alloc_at _ _ _ _ rfl, z3 i (by omega)]; simp [List.getD, List.getElem?_eq_getElem (show i < (dec m).length by omega)]) 9 Try.underlying9
      have hsl : ∀ W, (Instr.sliceAt 87 (.pointer (some ⟨w.heap.size, 0, none⟩)) (some (.int .i64 ((k : Int) - 1))) none none).run Try.prog W = .ok (.slice (some ⟨w.heap.size, k - 1, none⟩) (20 - (k - 1)) (20 - (k - 1))) W := fun W => slice_text W _ k (by omega) hk
      have e1 : (dec m).map (fun u => (u.toNat : Int)) = (dec m).map (fun u => (u.toNat : Int)) := rfl
      clear hT hd z3 e1
      go_wp2
      go_ret
      exact ⟨by rw [text_out]; unfold intText; rw [if_neg (by omega), HM.out]; rfl, by repeat (first | exact Below.refl _ _ | refine Below.drew ?_ | refine Below.alloc ?_ (by simp) _)⟩
    · have HT := text_more hT hr
      rw [hd] at HT
      have hq : ((R : Int) / 10 == 0) = false := by rw [beq_eq_false_iff_ne]; omega
      have HH := Lib.hid HT
      clear hT hd HT
      go_wp2
      go_roundw
      case rel => exact ⟨k - 1, R / 10, _, by rw [show ((k - 1 : Nat) : Int) = (k : Int) - 1 by omega], by simp, rfl, by omega, by omega, HH.out⟩
      case measure => simp [intOf]; omega

set_option maxHeartbeats 400000 in
theorem text_neg (n : Int) (w : World) (hn : w63 n < 0) :
    Calls Try.prog 54 #[.int .i64 n] w fun e w' => e = .returned (.string ⟨(intText (w63 n)).toArray⟩) ∧ Below w.heap.size w w' := by
  have h1 := w63_ge n
  have h2 := w63_le n
  obtain ⟨m, hm⟩ : ∃ m : Nat, -w63 n = m := ⟨(-w63 n).toNat, by omega⟩
  have HM : Hid (-w63 n = m) := Lib.hid hm
  clear hm
  go_enter Try.func54, Try.ntmps54
  go_wp2_with (go_at_call 61; refine (wrap_any _ _).mono ?_; rintro e w' ⟨rfl, rfl⟩)
  go_loopw [4, 5] (fun a r wr => ∃ (k R : Nat) (C : Array Value), a = .int .i64 k ∧ r = .int .i64 R ∧ wr = w.alloc (.cells C 87) ∧ k ≤ 20 ∧ R ≤ 4611686018427387904 ∧ TextAt m k R C) (fun a _ _ => (intOf a).toNat)
  case atStart => exact ⟨20, m, _, rfl, by rw [HM.out], rfl, by omega, by have := HM.out; omega, text_start m _ rfl (by have := HM.out; omega)⟩
  case round =>
    obtain ⟨k, R, C, rfl, rfl, rfl, hk, hR, hT⟩ := hrel
    have hk2 : 2 ≤ k := hT.2.1
    have hC : C.size = 20 := hT.1
    have hd := digit_byte R
    obtain ⟨vo, hvo⟩ : ∃ v, C[k - 1]? = some v := ⟨_, Array.getElem?_eq_getElem (by omega)⟩
    by_cases hr : R < 10
    · obtain ⟨vp, hvp⟩ : ∃ v, C[k - 1 - 1]? = some v := ⟨_, Array.getElem?_eq_getElem (by omega)⟩
      have HT := tail_put 45 (text_last hT hr) (by omega)
      rw [hd] at HT
      have hq : ((R : Int) / 10 == 0) = true := by rw [beq_iff_eq]; omega
      have hvq : (C.setIfInBounds (k - 1) (.int .u8 (48 + (R : Int) % 10)))[k - 1 - 1]? = some vp := by rw [Array.getElem?_setIfInBounds, if_neg (by omega)]; exact hvp
      rw [show (((45 : UInt8).toNat : Nat) : Int) = 45 from rfl] at HT
      obtain ⟨z1, z2, z3⟩ := HT
      have z4 : (dec m).length + 1 + (k - 1 - 1) = 20 := by simpa using z2
      have hconv := run_convert_bytes_arg (P := Try.prog) (w.alloc (.cells ((C.setIfInBounds (k - 1) (.int .u8 (48 + (R : Int) % 10))).setIfInBounds (k - 1 - 1) (.int .u8 45)) 87)) 88 5 Try.underlying88 Try.underlying5 w.heap.size (k - 1 - 1) (20 - (k - 1 - 1)) (20 - (k - 1 - 1)) ((45 :: dec m).map fun u => (u.toNat : Int)) (by simp; omega) (fun i hi => by rw [World.cell?_alloc_at _ _ _ _ rfl]; rw [z3 i (by simp; omega), map_at _ _ (by simp; omega)]) 9 Try.underlying9
      have hsl : ∀ W, (Instr.sliceAt 87 (.pointer (some ⟨w.heap.size, 0, none⟩)) (some (.int .i64 ((k : Int) - 1 - 1))) none none).run Try.prog W = .ok (.slice (some ⟨w.heap.size, k - 1 - 1, none⟩) (20 - (k - 1 - 1)) (20 - (k - 1 - 1))) W := fun W => by
        have := slice_text W w.heap.size (k - 1) (by omega) (by omega)
        rw [← this, show ((k - 1 : Nat) : Int) - 1 = (k : Int) - 1 - 1 by omega]
      clear hT hd z3 z2
      go_wp2
      go_ret
      exact ⟨by show Ending.returned (.string (strOfNums ((45 :: dec m).map fun u => (u.toNat : Int)))) = _; rw [text_out]; unfold intText; rw [if_pos hn, HM.out]; rfl, by repeat (first | exact Below.refl _ _ | refine Below.drew ?_ | refine Below.alloc ?_ (by simp) _)⟩
    · have HT := text_more hT hr
      rw [hd] at HT
      have hq : ((R : Int) / 10 == 0) = false := by rw [beq_eq_false_iff_ne]; omega
      have HH := Lib.hid HT
      clear hT hd HT
      go_wp2
      go_roundw
      case rel => exact ⟨k - 1, R / 10, _, by rw [show ((k - 1 : Nat) : Int) = (k : Int) - 1 by omega], by simp, rfl, by omega, by omega, HH.out⟩
      case measure => simp [intOf]; omega

theorem text_any (n : Int) (w : World) :
    Calls Try.prog 54 #[.int .i64 n] w fun e w' => e = .returned (.string ⟨(intText (w63 n)).toArray⟩) ∧ Below w.heap.size w w' := by
  by_cases h : w63 n < 0
  · exact text_neg n w h
  · exact text_pos n w (by omega)

end Go.Proofs.Ytgmcjnhaedfinaa
