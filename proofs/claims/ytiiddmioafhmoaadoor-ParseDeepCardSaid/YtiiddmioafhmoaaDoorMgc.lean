/- Joined: Lexa Lexb. -/
import Derived.Test.YtiiddmioafhmoaaDoorLexdef
import Derived.Test.YtiiddmioafhmoaaDoorReads
import Derived.Test.YtiiddmioafhmoaaDoorMgb
import Derived.Lib.IndexAny

section
namespace Go.Proofs.YtiiddmioafhmoaaDoor
open Go.RowKit

theorem u8_back (c : UInt8) : ((c.toNat : Int)).toNat.toUInt8 = c := by simp

set_option maxHeartbeats 400000 in
theorem has_any (S : ByteArray) (c : UInt8) (w : World) :
    Calls Tryd.prog 23 #[.string S, .int .u8 c.toNat] w fun e w' => e = .returned (.bool (S.data.toList.contains c)) ∧ w = w' := by
  have H := Lib.hid (Lib.contains_iff_indexByte S.data.toList c)
  go_enter Tryd.func23, Tryd.ntmps23
  go_wp2_with (go_at_call 38; refine (Tryd.strings_IndexByte _ _ _).mono ?_; rw [u8_back]; rintro e w' ⟨rfl, rfl⟩)
  go_ret
  exact ⟨ret_bool (by rw [H.out]), rfl⟩

set_option maxHeartbeats 400000 in
theorem inline_any (c : UInt8) (w : World) :
    Calls Tryd.prog 24 #[.int .u8 c.toNat] w fun e w' => e = .returned (.bool (c != 10)) ∧ w = w' := by
  go_enter Tryd.func24, Tryd.ntmps24
  go_wp2
  go_ret
  exact ⟨ret_bool (by rw [show (10 : Int) = (((10 : UInt8).toNat : Nat) : Int) from rfl, u8_eq]), rfl⟩

theorem span_hit (p : UInt8 → Bool) (s : ByteArray) (k : Nat) (h : k < s.size) (hp : p s[k] = true) : spanL p (s.data.toList.drop k) = spanL p (s.data.toList.drop (k + 1)) + 1 := by
  rw [List.drop_eq_getElem_cons (by rw [data_len]; exact h), data_get s k h]
  simp [spanL, hp]
theorem span_miss (p : UInt8 → Bool) (s : ByteArray) (k : Nat) (h : k < s.size) (hp : p s[k] = false) : spanL p (s.data.toList.drop k) = 0 := by
  rw [List.drop_eq_getElem_cons (by rw [data_len]; exact h), data_get s k h]
  simp [spanL, hp]
theorem span_end (p : UInt8 → Bool) (s : ByteArray) (k : Nat) (h : s.size ≤ k) : spanL p (s.data.toList.drop k) = 0 := by
  rw [List.drop_eq_nil_of_le (by rw [data_len]; exact h)]; rfl


theorem k_eq {a b : Nat} (h : a = b) : (Value.int .i64 (a : Int)) = .int .i64 (b : Int) := by rw [h]

set_option maxHeartbeats 400000 in
theorem endof_has (S s : ByteArray) (k0 : Nat) (w : World) (hs : s.size ≤ maxLen) (hk0 : k0 ≤ s.size) (G : Nat) (hG : Hid (k0 + spanL S.data.toList.contains (s.data.toList.drop k0) = G)) :
    Calls Tryd.prog 22 #[.string s, .int .i64 k0, .func (.func 23) #[.string S] #[]] w fun e w' => e = .returned (.int .i64 G) ∧ w = w' := by
  unfold maxLen at hs
  go_enter Tryd.func22, Tryd.ntmps22
  go_wp2
  go_loop [1] (fun i => ∃ k : Nat, i = .int .i64 k ∧ k ≤ s.size ∧ k + spanL S.data.toList.contains (s.data.toList.drop k) = G) (fun i => s.size - (intOf i).toNat)
  case atStart => exact ⟨k0, rfl, hk0, hG.out⟩
  case round =>
    obtain ⟨k, rfl, hk, he⟩ := hrel
    have HE := Lib.hid he
    clear he
    by_cases hlt : k < s.size
    · cases hp : S.data.toList.contains s[k]
      · have HM := Lib.hid (span_miss S.data.toList.contains s k hlt hp)
        go_wp2_with (go_at_call 23; refine (has_any S s[k] _).mono ?_; rw [hp]; rintro e w' ⟨rfl, rfl⟩)
        go_ret
        exact ⟨ret_int (by rw [← HE.out, HM.out, Nat.add_zero]), rfl⟩
      · have HM := Lib.hid (span_hit S.data.toList.contains s k hlt hp)
        go_wp2_with (go_at_call 23; refine (has_any S s[k] _).mono ?_; rw [hp]; rintro e w' ⟨rfl, rfl⟩)
        go_round
        case rel => exact ⟨k + 1, by go_num, by omega, by rw [← HE.out, HM.out]; omega⟩
        case measure => simp [intOf]; omega
    · have HM := Lib.hid (span_end S.data.toList.contains s k (by omega))
      go_wp2
      go_ret
      exact ⟨ret_int (by rw [← HE.out, HM.out, Nat.add_zero]), rfl⟩

set_option maxHeartbeats 400000 in
theorem endof_line (s : ByteArray) (k0 : Nat) (w : World) (hs : s.size ≤ maxLen) (hk0 : k0 ≤ s.size) (G : Nat) (hG : Hid (k0 + spanL (· != 10) (s.data.toList.drop k0) = G)) :
    Calls Tryd.prog 22 #[.string s, .int .i64 k0, .func (.func 24) #[] #[]] w fun e w' => e = .returned (.int .i64 G) ∧ w = w' := by
  unfold maxLen at hs
  go_enter Tryd.func22, Tryd.ntmps22
  go_wp2
  go_loop [1] (fun i => ∃ k : Nat, i = .int .i64 k ∧ k ≤ s.size ∧ k + spanL (· != 10) (s.data.toList.drop k) = G) (fun i => s.size - (intOf i).toNat)
  case atStart => exact ⟨k0, rfl, hk0, hG.out⟩
  case round =>
    obtain ⟨k, rfl, hk, he⟩ := hrel
    have HE := Lib.hid he
    clear he
    by_cases hlt : k < s.size
    · cases hp : (s[k] != 10)
      · have HM := Lib.hid (span_miss (· != 10) s k hlt hp)
        go_wp2_with (go_at_call 24; refine (inline_any s[k] _).mono ?_; rw [hp]; rintro e w' ⟨rfl, rfl⟩)
        go_ret
        exact ⟨ret_int (by rw [← HE.out, HM.out, Nat.add_zero]), rfl⟩
      · have HM := Lib.hid (span_hit (· != 10) s k hlt hp)
        go_wp2_with (go_at_call 24; refine (inline_any s[k] _).mono ?_; rw [hp]; rintro e w' ⟨rfl, rfl⟩)
        go_round
        case rel => exact ⟨k + 1, by go_num, by omega, by rw [← HE.out, HM.out]; omega⟩
        case measure => simp [intOf]; omega
    · have HM := Lib.hid (span_end (· != 10) s k (by omega))
      go_wp2
      go_ret
      exact ⟨ret_int (by rw [← HE.out, HM.out, Nat.add_zero]), rfl⟩

end Go.Proofs.YtiiddmioafhmoaaDoor
end

section
namespace Go.Proofs.YtiiddmioafhmoaaDoor
open Go.RowKit

theorem span_le (p : UInt8 → Bool) (r : List UInt8) : spanL p r ≤ r.length := by
  unfold spanL; exact (List.takeWhile_sublist p).length_le
theorem span_cons_t (p : UInt8 → Bool) (c : UInt8) (r : List UInt8) (h : p c = true) : spanL p (c :: r) = spanL p r + 1 := by simp [spanL, h]
theorem span_cons_f (p : UInt8 → Bool) (c : UInt8) (r : List UInt8) (h : p c = false) : spanL p (c :: r) = 0 := by simp [spanL, h]

theorem skip_span (r : List UInt8) : skipL false r = spanL blankS.contains r + skipL false (r.drop (spanL blankS.contains r)) := by
  induction r with
  | nil => rfl
  | cons c r ih =>
    cases h : blankS.contains c
    · rw [span_cons_f _ _ _ h]; simp
    · rw [span_cons_t _ _ _ h, skipL, if_pos h, ih, List.drop_succ_cons, ← ih]; omega
theorem skip_in (r : List UInt8) : skipL true r = spanL (· != 10) r + skipL false (r.drop (spanL (· != 10) r)) := by
  induction r with
  | nil => rfl
  | cons c r ih =>
    cases h : c != 10
    · rw [span_cons_f (· != 10) _ _ h, skipL, h]
      have : c = 10 := by simpa using h
      subst this
      simp [skipL]
    · rw [span_cons_t (· != 10) _ _ h, skipL, h, ih, List.drop_succ_cons, ← ih]; omega
theorem skip_note (t : List UInt8) : skipL false (35 :: t) = spanL (· != 10) (35 :: t) + skipL false ((35 :: t).drop (spanL (· != 10) (35 :: t))) := by
  rw [span_cons_t (· != 10) _ _ (by decide), skipL, if_neg (by decide), if_pos rfl, skip_in, List.drop_succ_cons]; omega
theorem span_stop (p : UInt8 → Bool) (s : ByteArray) (k : Nat) (h : k + spanL p (s.data.toList.drop k) < s.size) : p s[k + spanL p (s.data.toList.drop k)] = false := by
  have hh : ∀ (r : List UInt8) (h : spanL p r < r.length), p r[spanL p r] = false := by
    intro r
    induction r with
    | nil => intro h; simp at h
    | cons c r ih =>
      intro h
      cases hc : p c
      · simp [span_cons_f p c r hc, hc]
      · simp only [span_cons_t p c r hc] at h ⊢
        exact ih (by simpa using h)
  have h2 := hh (s.data.toList.drop k) (by rw [List.length_drop, data_len]; omega)
  rw [List.getElem_drop] at h2
  exact h2
theorem drop_at (s : ByteArray) (k : Nat) (h : k < s.size) : s.data.toList.drop k = s[k] :: s.data.toList.drop (k + 1) := by
  rw [List.drop_eq_getElem_cons (by rw [data_len]; exact h), data_get s k h]

theorem skip_at_end (s : ByteArray) (k : Nat) (h : k + spanL blankS.contains (s.data.toList.drop k) = s.size) : skipL false (s.data.toList.drop k) = spanL blankS.contains (s.data.toList.drop k) := by
  have e : s.data.toList.drop s.size = [] := List.drop_eq_nil_of_le (by rw [data_len]; exact Nat.le_refl _)
  rw [skip_span, List.drop_drop, h, e]; rfl
theorem skip_at_other (s : ByteArray) (k : Nat) (h : k + spanL blankS.contains (s.data.toList.drop k) < s.size) (hc : s[k + spanL blankS.contains (s.data.toList.drop k)] ≠ 35) : skipL false (s.data.toList.drop k) = spanL blankS.contains (s.data.toList.drop k) := by
  rw [skip_span, List.drop_drop, drop_at s _ h, skipL, if_neg (by rw [span_stop blankS.contains s k h]; decide), if_neg hc]; rfl
theorem skip_at_note (s : ByteArray) (k : Nat) (h : k + spanL blankS.contains (s.data.toList.drop k) < s.size) (hc : s[k + spanL blankS.contains (s.data.toList.drop k)] = 35) :
    skipL false (s.data.toList.drop k) = spanL blankS.contains (s.data.toList.drop k) + spanL (· != 10) (s.data.toList.drop (k + spanL blankS.contains (s.data.toList.drop k))) + skipL false (s.data.toList.drop (k + spanL blankS.contains (s.data.toList.drop k) + spanL (· != 10) (s.data.toList.drop (k + spanL blankS.contains (s.data.toList.drop k))))) := by
  rw [skip_span, List.drop_drop]
  generalize k + spanL blankS.contains (s.data.toList.drop k) = j at *
  have e := drop_at s j h
  rw [hc] at e
  have := skip_note (s.data.toList.drop (j + 1))
  rw [← e, List.drop_drop] at this
  omega
theorem note_pos (s : ByteArray) (j : Nat) (h : j < s.size) (hc : s[j] = 35) : 1 ≤ spanL (· != 10) (s.data.toList.drop j) := by
  rw [drop_at s j h, hc, span_cons_t (· != 10) _ _ (by decide)]; omega
theorem span_room (p : UInt8 → Bool) (s : ByteArray) (k : Nat) (h : k ≤ s.size) : k + spanL p (s.data.toList.drop k) ≤ s.size := by
  have := span_le p (s.data.toList.drop k); rw [List.length_drop, data_len] at this; omega

set_option maxHeartbeats 400000 in
theorem lskip_any (s : ByteArray) (k0 : Nat) (w : World) (hs : s.size ≤ maxLen) (hk0 : k0 ≤ s.size) (G : Nat) (hG : Hid (k0 + skipL false (s.data.toList.drop k0) = G)) :
    Calls Tryd.prog 14 #[.string s, .int .i64 k0] w fun e w' => e = .returned (.int .i64 G) ∧ w = w' := by
  have hs2 := hs
  unfold maxLen at hs
  have hmf : ∀ (fn : Fn) (first cap : Array Value) (w : World), (Instr.makeFunc fn first cap).run Tryd.prog w = .ok (.func fn first cap) w := fun _ _ _ _ => rfl
  go_enter Tryd.func14, Tryd.ntmps14
  go_wp2
  go_loop [1] (fun i => ∃ k : Nat, i = .int .i64 k ∧ k ≤ s.size ∧ k + skipL false (s.data.toList.drop k) = G) (fun i => s.size - (intOf i).toNat)
  case atStart => exact ⟨k0, rfl, hk0, hG.out⟩
  case round =>
    obtain ⟨k, rfl, hk, he⟩ := hrel
    have HE := Lib.hid he
    clear he
    obtain ⟨j, hj⟩ : ∃ j, k + spanL blankS.contains (s.data.toList.drop k) = j := ⟨_, rfl⟩
    have hjs : j ≤ s.size := by rw [← hj]; exact span_room _ _ _ hk
    by_cases hlt : j < s.size
    · by_cases hc : s[j] = 35
      · obtain ⟨m, hm⟩ : ∃ m, j + spanL (· != 10) (s.data.toList.drop j) = m := ⟨_, rfl⟩
        have hms : m ≤ s.size := by rw [← hm]; exact span_room _ _ _ hjs
        have hjm : j < m := by have := note_pos s j hlt hc; omega
        have hkj : k ≤ j := by omega
        have HT := Lib.hid (show m + skipL false (s.data.toList.drop m) = G by
          subst hj
          have := skip_at_note s k hlt hc
          rw [hm] at this
          have := HE.out
          omega)
        have b1 : ((s[j].toNat : Int) == 35) = true := by rw [hc]; rfl
        have b2 : ((s[j].toNat : Int) != 35) = false := by rw [hc]; rfl
        have C1 := Lib.hid (fun w => endof_has ⟨#[32, 9, 10, 13]⟩ s k w hs2 hk j (Lib.hid hj))
        have C2 := Lib.hid (fun w => endof_line s j w hs2 hjs m (Lib.hid hm))
        clear hj hm hc
        go_wp2_with (first | (go_at_call 22; (with_reducible refine (C1.out _).mono ?_); rintro e w' ⟨rfl, rfl⟩) | (go_at_call 22; (with_reducible refine (C2.out _).mono ?_); rintro e w' ⟨rfl, rfl⟩))
        go_round
        case rel => exact ⟨m, rfl, hms, HT.out⟩
        case measure => simp [intOf]; omega
      · have HT := Lib.hid (show j = G by
          subst hj
          have := skip_at_other s k hlt hc
          have := HE.out
          omega)
        have b2 : ((s[j].toNat : Int) != 35) = true := by
          rw [show (35 : Int) = (((35 : UInt8).toNat : Nat) : Int) from rfl, u8_eq]; simpa using hc
        have C1 := Lib.hid (fun w => endof_has ⟨#[32, 9, 10, 13]⟩ s k w hs2 hk j (Lib.hid hj))
        clear hj hc
        go_wp2_with (first | (go_at_call 22; (with_reducible refine (C1.out _).mono ?_); rintro e w' ⟨rfl, rfl⟩))
        go_ret
        exact ⟨ret_int (by rw [HT.out]), rfl⟩
    · have hje : j = s.size := by omega
      have HT := Lib.hid (show j = G by
        subst hj
        have := skip_at_end s k hje
        have := HE.out
        omega)
      have C1 := Lib.hid (fun w => endof_has ⟨#[32, 9, 10, 13]⟩ s k w hs2 hk j (Lib.hid hj))
      clear hj
      have b1 : decide ((j : Int) = (s.size : Int)) = true := by rw [hje]; simp
      have HS := Lib.hid hje
      clear hje
      go_wp2_with (first | (go_at_call 22; (with_reducible refine (C1.out _).mono ?_); rintro e w' ⟨rfl, rfl⟩))
      go_ret
      exact ⟨ret_int (by rw [← HT.out, HS.out]), rfl⟩

end Go.Proofs.YtiiddmioafhmoaaDoor
end
