/- Walks: the document's classes of bytes and of texts. -/
import Derived.Test.YtlojlgchiemkjaaDoorLexc
namespace Go.Proofs.YtlojlgchiemkjaaDoor
open Go.RowKit
set_option linter.unusedVariables false

theorem all256 (p : UInt8 → Bool) (h : (List.range 256).all (fun n => p n.toUInt8) = true) (c : UInt8) : p c = true := by
  rw [List.all_eq_true] at h
  have := h c.toNat (List.mem_range.2 c.toNat_lt)
  simpa using this
theorem eq256 (p q : UInt8 → Bool) (h : (List.range 256).all (fun n => p n.toUInt8 == q n.toUInt8) = true) (c : UInt8) : p c = q c := by
  have := all256 (fun c => p c == q c) h c
  simpa using this

set_option maxHeartbeats 400000 in
theorem small_any (c : UInt8) (u : Bool) (hu : Hid (lowS.contains c = u)) (w : World) :
    Calls Tryd.prog 21 #[.int .u8 c.toNat] w fun e w' => e = .returned (.bool u) ∧ w = w' := by
  have H := Lib.hid (eq256 lowS.contains (fun c => decide ((97 : Int) ≤ c.toNat) && decide ((c.toNat : Int) ≤ 122) || ((c.toNat : Int) == 95)) (by kernel_rfl) c)
  go_enter Tryd.func21, Tryd.ntmps21
  go_wp2
  all_goals
    go_ret
    refine ⟨ret_bool ?_, rfl⟩
    rw [← hu.out, H.out]
    first | (simp [*]; done) | (simp [*]; omega)

set_option maxHeartbeats 400000 in
theorem great_any (c : UInt8) (u : Bool) (hu : Hid (upperS.contains c = u)) (w : World) :
    Calls Tryd.prog 23 #[.int .u8 c.toNat] w fun e w' => e = .returned (.bool u) ∧ w = w' := by
  have H := Lib.hid (eq256 upperS.contains (fun c => decide ((65 : Int) ≤ c.toNat) && decide ((c.toNat : Int) ≤ 90)) (by kernel_rfl) c)
  go_enter Tryd.func23, Tryd.ntmps23
  go_wp2
  all_goals
    go_ret
    refine ⟨ret_bool ?_, rfl⟩
    rw [← hu.out, H.out]
    first | (simp [*]; done) | (simp [*]; omega)

set_option maxHeartbeats 400000 in
theorem digit_any (c : UInt8) (u : Bool) (hu : Hid (digitS.contains c = u)) (w : World) :
    Calls Tryd.prog 40 #[.int .u8 c.toNat] w fun e w' => e = .returned (.bool u) ∧ w = w' := by
  have H := Lib.hid (eq256 digitS.contains (fun c => decide ((48 : Int) ≤ c.toNat) && decide ((c.toNat : Int) ≤ 57)) (by kernel_rfl) c)
  go_enter Tryd.func40, Tryd.ntmps40
  go_wp2
  all_goals
    go_ret
    refine ⟨ret_bool ?_, rfl⟩
    rw [← hu.out, H.out]
    first | (simp [*]; done) | (simp [*]; omega)

set_option maxHeartbeats 400000 in
theorem name_any (c : UInt8) (u : Bool) (hu : Hid (inNameS.contains c = u)) (w : World) :
    Calls Tryd.prog 32 #[.int .u8 c.toNat] w fun e w' => e = .returned (.bool u) ∧ w = w' := by
  have H := Lib.hid (eq256 inNameS.contains (fun c => lowS.contains c || upperS.contains c || digitS.contains c || ((c.toNat : Int) == 39)) (by kernel_rfl) c)
  obtain ⟨u1, h1⟩ : ∃ u1, lowS.contains c = u1 := ⟨_, rfl⟩
  obtain ⟨u2, h2⟩ : ∃ u2, upperS.contains c = u2 := ⟨_, rfl⟩
  obtain ⟨u3, h3⟩ : ∃ u3, digitS.contains c = u3 := ⟨_, rfl⟩
  rw [h1, h2, h3] at H
  have C1 := Lib.hid (fun w => small_any c u1 (Lib.hid h1) w)
  have C2 := Lib.hid (fun w => great_any c u2 (Lib.hid h2) w)
  have C3 := Lib.hid (fun w => digit_any c u3 (Lib.hid h3) w)
  clear h1 h2 h3
  go_enter Tryd.func32, Tryd.ntmps32
  go_wp2_with (first | (go_at_call 21; (with_reducible refine (C1.out _).mono ?_); rintro e w' ⟨rfl, rfl⟩) | (go_at_call 23; (with_reducible refine (C2.out _).mono ?_); rintro e w' ⟨rfl, rfl⟩) | (go_at_call 40; (with_reducible refine (C3.out _).mono ?_); rintro e w' ⟨rfl, rfl⟩))
  all_goals
    go_ret
    refine ⟨ret_bool ?_, rfl⟩
    rw [← hu.out, H.out]
    simp [*]

theorem u8_is' (a b : UInt8) : ((a.toNat : Int) == (b.toNat : Int)) = (a == b) := by
  rw [Bool.eq_iff_iff]; simp [← UInt8.toNat_inj]; omega
theorem any_take_hit (s : ByteArray) (k : Nat) (c : UInt8) (h : k < s.size) (hc : s[k] = c) : s.data.toList.contains c = true := by
  rw [List.contains_iff_mem, ← hc, ← data_get s k h]; exact List.getElem_mem _
theorem any_take_miss (s : ByteArray) (k : Nat) (c : UInt8) (h : k < s.size) (hc : s[k] ≠ c) (ht : (s.data.toList.take k).contains c = false) : (s.data.toList.take (k + 1)).contains c = false := by
  rw [List.take_succ_eq_append_getElem (by rw [data_len]; exact h), data_get, List.contains_eq_mem] at *
  simp only [decide_eq_false_iff_not, List.mem_append, List.mem_singleton] at *
  rintro (h1 | h1)
  · exact ht h1
  · exact hc h1.symm

set_option maxHeartbeats 400000 in
theorem in_any (s : ByteArray) (c : UInt8) (u : Bool) (hu : Hid (s.data.toList.contains c = u)) (w : World) (hs : s.size ≤ maxLen) :
    Calls Tryd.prog 41 #[.string s, .int .u8 c.toNat] w fun e w' => e = .returned (.bool u) ∧ w = w' := by
  unfold maxLen at hs
  go_enter Tryd.func41, Tryd.ntmps41
  go_wp2
  go_loop [5] (fun i => ∃ k : Nat, i = .int .i64 k ∧ k ≤ s.size ∧ (s.data.toList.take k).contains c = false) (fun i => s.size - (intOf i).toNat)
  case atStart => exact ⟨0, rfl, by omega, rfl⟩
  case round =>
    obtain ⟨k, rfl, hk, ht⟩ := hrel
    have HT := Lib.hid ht
    clear ht
    by_cases hlt : k < s.size
    · by_cases hc : s[k] = c
      · have HH := Lib.hid (any_take_hit s k c hlt hc)
        have b1 : ((s[k].toNat : Int) == (c.toNat : Int)) = true := by rw [hc]; simp
        clear hc
        go_wp2
        go_ret
        exact ⟨ret_bool (by rw [← hu.out, HH.out]), rfl⟩
      · have HH := Lib.hid (any_take_miss s k c hlt hc HT.out)
        have b1 : ((s[k].toNat : Int) == (c.toNat : Int)) = false := by rw [u8_is']; simpa using hc
        clear hc
        go_wp2
        go_round
        case rel => exact ⟨k + 1, by go_num, by omega, HH.out⟩
        case measure => simp [intOf]; omega
    · have HH := Lib.hid (show s.data.toList.contains c = false by rw [← HT.out, List.take_of_length_le (by rw [data_len]; omega)])
      go_wp2
      go_ret
      exact ⟨ret_bool (by rw [← hu.out, HH.out]), rfl⟩

set_option maxHeartbeats 400000 in
theorem sign_any (c : UInt8) (u : Bool) (hu : Hid (opS.contains c = u)) (w : World) :
    Calls Tryd.prog 33 #[.int .u8 c.toNat] w fun e w' => e = .returned (.bool u) ∧ w = w' := by
  have C1 := Lib.hid (fun w => in_any ⟨opS.toArray⟩ c u hu w (by decide))
  go_enter Tryd.func33, Tryd.ntmps33
  go_wp2_with (go_at_call 41; (with_reducible refine (C1.out _).mono ?_); rintro e w' ⟨rfl, rfl⟩)
  go_ret
  exact ⟨rfl, rfl⟩

theorem all_miss (p : UInt8 → Bool) (s : ByteArray) (k : Nat) (h : k < s.size) (hp : p s[k] = false) : s.data.toList.all p = false := by
  rw [List.all_eq_false]
  exact ⟨s[k], by rw [← data_get s k h]; exact List.getElem_mem _, by rw [hp]; decide⟩
theorem all_hit (p : UInt8 → Bool) (s : ByteArray) (k : Nat) (h : k < s.size) (hp : p s[k] = true) (ha : (s.data.toList.take k).all p = true) : (s.data.toList.take (k + 1)).all p = true := by
  rw [List.take_succ_eq_append_getElem (by rw [data_len]; exact h), List.all_append, ha, data_get]
  simp [hp]

set_option maxHeartbeats 400000 in
theorem names_any (s : ByteArray) (u : Bool) (hu : Hid (s.data.toList.all inNameS.contains = u)) (w : World) (hs : s.size ≤ maxLen) :
    Calls Tryd.prog 22 #[.string s] w fun e w' => e = .returned (.bool u) ∧ w = w' := by
  unfold maxLen at hs
  go_enter Tryd.func22, Tryd.ntmps22
  go_wp2
  go_loop [3] (fun i => ∃ k : Nat, i = .int .i64 k ∧ k ≤ s.size ∧ (s.data.toList.take k).all inNameS.contains = true) (fun i => s.size - (intOf i).toNat)
  case atStart => exact ⟨0, rfl, by omega, rfl⟩
  case round =>
    obtain ⟨k, rfl, hk, ht⟩ := hrel
    have HT := Lib.hid ht
    clear ht
    by_cases hlt : k < s.size
    · cases hc : inNameS.contains s[k]
      · have HH := Lib.hid (all_miss inNameS.contains s k hlt hc)
        have C1 := Lib.hid (fun w => name_any s[k] false (Lib.hid hc) w)
        clear hc
        go_wp2_with (go_at_call 32; (with_reducible refine (C1.out _).mono ?_); rintro e w' ⟨rfl, rfl⟩)
        go_ret
        exact ⟨ret_bool (by rw [← hu.out, HH.out]), rfl⟩
      · have HH := Lib.hid (all_hit inNameS.contains s k hlt hc HT.out)
        have C1 := Lib.hid (fun w => name_any s[k] true (Lib.hid hc) w)
        clear hc
        go_wp2_with (go_at_call 32; (with_reducible refine (C1.out _).mono ?_); rintro e w' ⟨rfl, rfl⟩)
        go_round
        case rel => exact ⟨k + 1, by go_num, by omega, HH.out⟩
        case measure => simp [intOf]; omega
    · have HH := Lib.hid (show s.data.toList.all inNameS.contains = true by rw [← HT.out, List.take_of_length_le (by rw [data_len]; omega)])
      go_wp2
      go_ret
      exact ⟨ret_bool (by rw [← hu.out, HH.out]), rfl⟩

set_option maxHeartbeats 400000 in
theorem signs_any (s : ByteArray) (u : Bool) (hu : Hid (s.data.toList.all opS.contains = u)) (w : World) (hs : s.size ≤ maxLen) :
    Calls Tryd.prog 24 #[.string s] w fun e w' => e = .returned (.bool u) ∧ w = w' := by
  unfold maxLen at hs
  go_enter Tryd.func24, Tryd.ntmps24
  go_wp2
  go_loop [3] (fun i => ∃ k : Nat, i = .int .i64 k ∧ k ≤ s.size ∧ (s.data.toList.take k).all opS.contains = true) (fun i => s.size - (intOf i).toNat)
  case atStart => exact ⟨0, rfl, by omega, rfl⟩
  case round =>
    obtain ⟨k, rfl, hk, ht⟩ := hrel
    have HT := Lib.hid ht
    clear ht
    by_cases hlt : k < s.size
    · cases hc : opS.contains s[k]
      · have HH := Lib.hid (all_miss opS.contains s k hlt hc)
        have C1 := Lib.hid (fun w => sign_any s[k] false (Lib.hid hc) w)
        clear hc
        go_wp2_with (go_at_call 33; (with_reducible refine (C1.out _).mono ?_); rintro e w' ⟨rfl, rfl⟩)
        go_ret
        exact ⟨ret_bool (by rw [← hu.out, HH.out]), rfl⟩
      · have HH := Lib.hid (all_hit opS.contains s k hlt hc HT.out)
        have C1 := Lib.hid (fun w => sign_any s[k] true (Lib.hid hc) w)
        clear hc
        go_wp2_with (go_at_call 33; (with_reducible refine (C1.out _).mono ?_); rintro e w' ⟨rfl, rfl⟩)
        go_round
        case rel => exact ⟨k + 1, by go_num, by omega, HH.out⟩
        case measure => simp [intOf]; omega
    · have HH := Lib.hid (show s.data.toList.all opS.contains = true by rw [← HT.out, List.take_of_length_le (by rw [data_len]; omega)])
      go_wp2
      go_ret
      exact ⟨ret_bool (by rw [← hu.out, HH.out]), rfl⟩

end Go.Proofs.YtlojlgchiemkjaaDoor
