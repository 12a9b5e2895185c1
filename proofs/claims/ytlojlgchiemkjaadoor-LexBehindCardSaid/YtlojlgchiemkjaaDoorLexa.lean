/- Walks: the class of a byte, the end of a span, blanks and comments. -/
import Derived.Test.YtlojlgchiemkjaaDoorLexdef
import Derived.Test.YtlojlgchiemkjaaDoorReads
import Derived.Test.YtlojlgchiemkjaaDoorShelf
import Derived.Lib.IndexAny
namespace Go.Proofs.YtlojlgchiemkjaaDoor
open Go.RowKit

theorem u8_back (c : UInt8) : ((c.toNat : Int)).toNat.toUInt8 = c := by simp

set_option maxHeartbeats 400000 in
theorem has_any (S : ByteArray) (c : UInt8) (w : World) :
    Calls Tryd.prog 31 #[.string S, .int .u8 c.toNat] w fun e w' => e = .returned (.bool (S.data.toList.contains c)) ∧ w = w' := by
  have H := Lib.hid (Lib.contains_iff_indexByte S.data.toList c)
  go_enter Tryd.func31, Tryd.ntmps31
  go_wp2_with (go_at_call 39; refine (Tryd.strings_IndexByte _ _ _).mono ?_; rw [u8_back]; rintro e w' ⟨rfl, rfl⟩)
  go_ret
  exact ⟨ret_bool (by rw [H.out]), rfl⟩

set_option maxHeartbeats 400000 in
theorem inline_any (c : UInt8) (w : World) :
    Calls Tryd.prog 35 #[.int .u8 c.toNat] w fun e w' => e = .returned (.bool (c != 10)) ∧ w = w' := by
  go_enter Tryd.func35, Tryd.ntmps35
  go_wp2
  go_ret
  exact ⟨ret_bool (by rw [show (10 : Int) = (((10 : UInt8).toNat : Nat) : Int) from rfl, u8_eq]), rfl⟩

theorem span_hit (p : UInt8 → Bool) (s : ByteArray) (k : Nat) (h : k < s.size) (hp : p s[k] = true) : spanL p (s.data.toList.drop k) = spanL p (s.data.toList.drop (k + 1)) + 1 := by
  rw [List.drop_eq_getElem_cons (by rw [data_len]; exact h), data_get s k h]
  simp [spanL, hp]
theorem span_miss (p : UInt8 → Bool) (s : ByteArray) (k : Nat) (h : k < s.size) (hp : p s[k] = false) : spanL p (s.data.toList.drop k) = 0 := by
  rw [List.drop_eq_getElem_cons (by rw [data_len]; exact h), data_get s k h]
  simp [spanL, hp]
theorem span_end (p : UInt8 → Bool) (s : ByteArray) (k : Nat) (h : s.size ≤ k) : spanL p (s.data.toList.drop k) = 0 := by
  rw [List.drop_eq_nil_of_le (by rw [data_len]; exact h)]; rfl


theorem k_eq {a b : Nat} (h : a = b) : (Value.int .i64 (a : Int)) = .int .i64 (b : Int) := by rw [h]

set_option maxHeartbeats 400000 in
theorem endof_has (S s : ByteArray) (k0 : Nat) (w : World) (hs : s.size ≤ maxLen) (hk0 : k0 ≤ s.size) (G : Nat) (hG : Hid (k0 + spanL S.data.toList.contains (s.data.toList.drop k0) = G)) :
    Calls Tryd.prog 30 #[.string s, .int .i64 k0, .func (.func 31) #[.string S] #[]] w fun e w' => e = .returned (.int .i64 G) ∧ w = w' := by
  unfold maxLen at hs
  go_enter Tryd.func30, Tryd.ntmps30
  go_wp2
  go_loop [1] (fun i => ∃ k : Nat, i = .int .i64 k ∧ k ≤ s.size ∧ k + spanL S.data.toList.contains (s.data.toList.drop k) = G) (fun i => s.size - (intOf i).toNat)
  case atStart => exact ⟨k0, rfl, hk0, hG.out⟩
  case round =>
    obtain ⟨k, rfl, hk, he⟩ := hrel
    have HE := Lib.hid he
    clear he
    by_cases hlt : k < s.size
    · cases hp : S.data.toList.contains s[k]
      · have HM := Lib.hid (span_miss S.data.toList.contains s k hlt hp)
        go_wp2_with (go_at_call 31; refine (has_any S s[k] _).mono ?_; rw [hp]; rintro e w' ⟨rfl, rfl⟩)
        go_ret
        exact ⟨ret_int (by rw [← HE.out, HM.out, Nat.add_zero]), rfl⟩
      · have HM := Lib.hid (span_hit S.data.toList.contains s k hlt hp)
        go_wp2_with (go_at_call 31; refine (has_any S s[k] _).mono ?_; rw [hp]; rintro e w' ⟨rfl, rfl⟩)
        go_round
        case rel => exact ⟨k + 1, by go_num, by omega, by rw [← HE.out, HM.out]; omega⟩
        case measure => simp [intOf]; omega
    · have HM := Lib.hid (span_end S.data.toList.contains s k (by omega))
      go_wp2
      go_ret
      exact ⟨ret_int (by rw [← HE.out, HM.out, Nat.add_zero]), rfl⟩

set_option maxHeartbeats 400000 in
theorem endof_line (s : ByteArray) (k0 : Nat) (w : World) (hs : s.size ≤ maxLen) (hk0 : k0 ≤ s.size) (G : Nat) (hG : Hid (k0 + spanL (· != 10) (s.data.toList.drop k0) = G)) :
    Calls Tryd.prog 30 #[.string s, .int .i64 k0, .func (.func 35) #[] #[]] w fun e w' => e = .returned (.int .i64 G) ∧ w = w' := by
  unfold maxLen at hs
  go_enter Tryd.func30, Tryd.ntmps30
  go_wp2
  go_loop [1] (fun i => ∃ k : Nat, i = .int .i64 k ∧ k ≤ s.size ∧ k + spanL (· != 10) (s.data.toList.drop k) = G) (fun i => s.size - (intOf i).toNat)
  case atStart => exact ⟨k0, rfl, hk0, hG.out⟩
  case round =>
    obtain ⟨k, rfl, hk, he⟩ := hrel
    have HE := Lib.hid he
    clear he
    by_cases hlt : k < s.size
    · cases hp : (s[k] != 10)
      · have HM := Lib.hid (span_miss (· != 10) s k hlt hp)
        go_wp2_with (go_at_call 35; refine (inline_any s[k] _).mono ?_; rw [hp]; rintro e w' ⟨rfl, rfl⟩)
        go_ret
        exact ⟨ret_int (by rw [← HE.out, HM.out, Nat.add_zero]), rfl⟩
      · have HM := Lib.hid (span_hit (· != 10) s k hlt hp)
        go_wp2_with (go_at_call 35; refine (inline_any s[k] _).mono ?_; rw [hp]; rintro e w' ⟨rfl, rfl⟩)
        go_round
        case rel => exact ⟨k + 1, by go_num, by omega, by rw [← HE.out, HM.out]; omega⟩
        case measure => simp [intOf]; omega
    · have HM := Lib.hid (span_end (· != 10) s k (by omega))
      go_wp2
      go_ret
      exact ⟨ret_int (by rw [← HE.out, HM.out, Nat.add_zero]), rfl⟩

end Go.Proofs.YtlojlgchiemkjaaDoor
