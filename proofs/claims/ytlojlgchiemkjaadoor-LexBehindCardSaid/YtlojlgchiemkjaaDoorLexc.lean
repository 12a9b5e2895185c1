/- Walks: keywords, marks, which kind a text alone is. -/
import Derived.Test.YtlojlgchiemkjaaDoorLexb
namespace Go.Proofs.YtlojlgchiemkjaaDoor
open Go.RowKit

theorem iskey_or (s : ByteArray) : isKeyL s.data.toList = (s.toList == [100, 97, 116, 97] || s.toList == [99, 108, 97, 115, 115] || s.toList == [105, 110, 115, 116, 97, 110, 99, 101] || s.toList == [102, 114, 111, 109] || s.toList == [119, 104, 101, 114, 101] || s.toList == [101, 110, 100] || s.toList == [100, 101, 114, 105, 118, 105, 110, 103] || s.toList == [100, 101, 102] || s.toList == [108, 101, 116] || s.toList == [114, 101, 99] || s.toList == [97, 110, 100] || s.toList == [105, 110] || s.toList == [99, 97, 115, 101] || s.toList == [111, 102] || s.toList == [105, 102] || s.toList == [116, 104, 101, 110] || s.toList == [101, 108, 115, 101]) := by
  rw [ByteArray.toList_eq]
  unfold isKeyL
  simp only [keyS, List.contains_cons, List.contains_nil, Bool.or_false, Bool.or_assoc]
theorem ismark_or (s : ByteArray) : isMarkL s.data.toList = (s.toList == [40] || s.toList == [41] || s.toList == [44] || s.toList == [59] || s.toList == [92] || s.toList == [95] || s.toList == [61] || s.toList == [45, 62] || s.toList == [124] || s.toList == [58]) := by
  rw [ByteArray.toList_eq]
  unfold isMarkL
  simp only [markS, List.contains_cons, List.contains_nil, Bool.or_false, Bool.or_assoc]

set_option maxHeartbeats 1600000 in
theorem iskey_any (s : ByteArray) (w : World) :
    Calls Tryd.prog 28 #[.string s] w fun e w' => e = .returned (.bool (isKeyL s.data.toList)) ∧ w = w' := by
  have HK := Lib.hid (iskey_or s)
  go_enter Tryd.func28, Tryd.ntmps28
  go_wp2
  all_goals
    go_ret
    refine ⟨ret_bool ?_, rfl⟩
    first | (rw [HK.out]; simp [*]; done) | (exfalso; rename_i a b; rw [a] at b; cases b)

set_option maxHeartbeats 1600000 in
theorem ismark_any (s : ByteArray) (w : World) :
    Calls Tryd.prog 29 #[.string s] w fun e w' => e = .returned (.bool (isMarkL s.data.toList)) ∧ w = w' := by
  have HK := Lib.hid (ismark_or s)
  go_enter Tryd.func29, Tryd.ntmps29
  go_wp2
  all_goals
    go_ret
    refine ⟨ret_bool ?_, rfl⟩
    first | (rw [HK.out]; simp [*]; done) | (exfalso; rename_i a b; rw [a] at b; cases b)


theorem word_kind_none (s : ByteArray) (h : s.data.toList = [] ∨ 40 < s.data.toList.length) : kindL s.data.toList = 0 := by unfold kindL; rw [if_pos h]
theorem word_kind_key (s : ByteArray) (h : ¬ (s.data.toList = [] ∨ 40 < s.data.toList.length)) (h1 : isKeyL s.data.toList = true) : kindL s.data.toList = 6 := by unfold kindL; rw [if_neg h, if_pos h1]
theorem word_kind_mark (s : ByteArray) (h : ¬ (s.data.toList = [] ∨ 40 < s.data.toList.length)) (h1 : isKeyL s.data.toList = false) (h2 : isMarkL s.data.toList = true) : kindL s.data.toList = 7 := by
  unfold kindL; rw [if_neg h, if_neg (by rw [h1]; decide), if_pos h2]
theorem word_kind_rest (s : ByteArray) (h : ¬ (s.data.toList = [] ∨ 40 < s.data.toList.length)) (h1 : isKeyL s.data.toList = false) (h2 : isMarkL s.data.toList = false) :
    kindL s.data.toList = if spanL opS.contains s.data.toList = s.data.toList.length then 5 else if spanL inNameS.contains s.data.toList < s.data.toList.length then 0 else if upperS.contains (s.data.toList.headD 0) = true then 2 else if lowS.contains (s.data.toList.headD 0) = true then 1 else 0 := by
  unfold kindL; rw [if_neg h, if_neg (by rw [h1]; decide), if_neg (by rw [h2]; decide)]
theorem head_at (s : ByteArray) (h : 0 < s.size) : s.data.toList.headD 0 = s[0] := by
  have := drop_at s 0 h
  rw [List.drop_zero] at this
  rw [this]; rfl

theorem has_as (S : ByteArray) (c : UInt8) (u : Bool) (hu : S.data.toList.contains c = u) (w : World) :
    Calls Tryd.prog 31 #[.string S, .int .u8 c.toNat] w fun e w' => e = .returned (.bool u) ∧ w = w' := by
  rw [← hu]; exact has_any S c w
theorem kind_ifs (x y n : Nat) (u v : Bool) : (if ((x : Int) == (n : Int)) = true then (5 : Int) else if y < n then 0 else if u = true then 2 else if v = true then 1 else 0) = (if x = n then 5 else if y < n then 0 else if u = true then 2 else if v = true then 1 else 0) := by
  by_cases h : x = n
  · subst h; simp
  · rw [if_neg h, if_neg (by simp; omega)]
theorem endof0 (S s : ByteArray) (w : World) (hs : s.size ≤ maxLen) (G : Nat) (hG : spanL S.data.toList.contains s.data.toList = G) :
    Calls Tryd.prog 30 #[.string s, .int .i64 0, .func (.func 31) #[.string S] #[]] w fun e w' => e = .returned (.int .i64 G) ∧ w = w' :=
  endof_has S s 0 w hs (Nat.zero_le _) G (Lib.hid (by rw [List.drop_zero, Nat.zero_add]; exact hG))

set_option maxHeartbeats 1600000 in
theorem kindof_any (s : ByteArray) (w : World) (hs : s.size ≤ maxLen) :
    Calls Tryd.prog 19 #[.string s] w fun e w' => e = .returned (.int .i64 (kindL s.data.toList)) ∧ w = w' := by
  have hs2 := hs
  unfold maxLen at hs
  have hmf : ∀ (fn : Fn) (first cap : Array Value) (w : World), (Instr.makeFunc fn first cap).run Tryd.prog w = .ok (.func fn first cap) w := fun _ _ _ _ => rfl
  by_cases h0 : s.data.toList = []
  · have HK := Lib.hid (word_kind_none s (Or.inl h0))
    have b0 : s.toList = [] := by rw [ByteArray.toList_eq]; exact h0
    clear h0
    go_enter Tryd.func19, Tryd.ntmps19
    go_wp2
    go_ret
    exact ⟨ret_int (by rw [HK.out]), rfl⟩
  · have hpos : 0 < s.size := by
      rcases Nat.eq_zero_or_pos s.size with h | h
      · exact absurd (List.length_eq_zero_iff.1 (by rw [data_len]; exact h)) h0
      · exact h
    have b0 : ¬ s.toList = [] := by rw [ByteArray.toList_eq]; exact h0
    have e0 : s.toList.isEmpty = false := by rw [List.isEmpty_eq_false_iff]; exact b0
    by_cases h40 : 40 < s.size
    · have HK := Lib.hid (word_kind_none s (Or.inr (by rw [data_len]; exact h40)))
      clear h0
      go_enter Tryd.func19, Tryd.ntmps19
      go_wp2
      go_ret
      exact ⟨ret_int (by rw [HK.out]), rfl⟩
    · have d40 : decide ((40 : Int) < (s.size : Int)) = false := by simp; omega
      have hn : ¬ (s.data.toList = [] ∨ 40 < s.data.toList.length) := by rw [data_len]; rintro (h | h); exact h0 h; exact h40 h
      have C1 := Lib.hid (fun w => iskey_any s w)
      have C2 := Lib.hid (fun w => ismark_any s w)
      cases hk : isKeyL s.data.toList
      · cases hm : isMarkL s.data.toList
        · have HK := Lib.hid (word_kind_rest s hn hk hm)
          rw [hk] at C1
          rw [hm] at C2
          obtain ⟨x, hx⟩ : ∃ x, spanL opS.contains s.data.toList = x := ⟨_, rfl⟩
          obtain ⟨y, hy⟩ : ∃ y, spanL inNameS.contains s.data.toList = y := ⟨_, rfl⟩
          obtain ⟨u, hu⟩ : ∃ u, upperS.contains s[0] = u := ⟨_, rfl⟩
          obtain ⟨v, hv⟩ : ∃ v, lowS.contains s[0] = v := ⟨_, rfl⟩
          rw [hx, hy, data_len, head_at s hpos, hu, hv, ← kind_ifs] at HK
          have hxl := span_le opS.contains s.data.toList
          have hyl := span_le inNameS.contains s.data.toList
          rw [hx, data_len] at hxl
          rw [hy, data_len] at hyl
          have C3 := Lib.hid (fun w => endof0 ⟨opS.toArray⟩ s w hs2 x hx)
          have C4 := Lib.hid (fun w => endof0 ⟨inNameS.toArray⟩ s w hs2 y hy)
          have C5 := Lib.hid (fun w => has_as ⟨upperS.toArray⟩ s[0] u hu w)
          have C6 := Lib.hid (fun w => has_as ⟨lowS.toArray⟩ s[0] v hv w)
          clear hx hy hu hv hk hm h0 hn
          go_enter Tryd.func19, Tryd.ntmps19
          go_wp2_with (first | (go_at_call 28; (with_reducible refine (C1.out _).mono ?_); rintro e w' ⟨rfl, rfl⟩) | (go_at_call 29; (with_reducible refine (C2.out _).mono ?_); rintro e w' ⟨rfl, rfl⟩) | (go_at_call 30; (with_reducible refine (C3.out _).mono ?_); rintro e w' ⟨rfl, rfl⟩) | (go_at_call 30; (with_reducible refine (C4.out _).mono ?_); rintro e w' ⟨rfl, rfl⟩) | (go_at_call 31; (with_reducible refine (C5.out _).mono ?_); rintro e w' ⟨rfl, rfl⟩) | (go_at_call 31; (with_reducible refine (C6.out _).mono ?_); rintro e w' ⟨rfl, rfl⟩))
          all_goals
            go_ret
            refine ⟨ret_int ?_, rfl⟩
            rw [HK.out]
            simp [*]
        · have HK := Lib.hid (word_kind_mark s hn hk hm)
          rw [hk] at C1
          rw [hm] at C2
          clear hk hm h0 hn
          go_enter Tryd.func19, Tryd.ntmps19
          go_wp2_with (first | (go_at_call 28; (with_reducible refine (C1.out _).mono ?_); rintro e w' ⟨rfl, rfl⟩) | (go_at_call 29; (with_reducible refine (C2.out _).mono ?_); rintro e w' ⟨rfl, rfl⟩))
          go_ret
          exact ⟨ret_int (by rw [HK.out]), rfl⟩
      · have HK := Lib.hid (word_kind_key s hn hk)
        rw [hk] at C1
        clear hk h0 hn
        go_enter Tryd.func19, Tryd.ntmps19
        go_wp2_with (first | (go_at_call 28; (with_reducible refine (C1.out _).mono ?_); rintro e w' ⟨rfl, rfl⟩))
        go_ret
        exact ⟨ret_int (by rw [HK.out]), rfl⟩

end Go.Proofs.YtlojlgchiemkjaaDoor
