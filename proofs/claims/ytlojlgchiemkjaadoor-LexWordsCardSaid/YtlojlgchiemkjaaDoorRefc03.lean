/- Walks: what a text alone is, by the program and by the document. -/
import Derived.Test.YtlojlgchiemkjaaDoorRefb03
namespace Go.Proofs.YtlojlgchiemkjaaDoor
open Go.RowKit
set_option linter.unusedVariables false

def rLow (l : List UInt8) : Bool := !l.isEmpty && decide (l.length ≤ 40) && lowS.contains (l.headD 0) && l.all inNameS.contains && !isKeyL l && !(l == [95])
def rUp (l : List UInt8) : Bool := !l.isEmpty && decide (l.length ≤ 40) && upperS.contains (l.headD 0) && l.all inNameS.contains
def rOp (l : List UInt8) : Bool := !l.isEmpty && decide (l.length ≤ 40) && l.all opS.contains && !isMarkL l

theorem span_all (p : UInt8 → Bool) (l : List UInt8) : (spanL p l = l.length) ↔ l.all p = true := by
  induction l with
  | nil => simp [spanL]
  | cons c l ih =>
    cases h : p c
    · rw [span_cons_f p c l h]; simp [h]
    · rw [span_cons_t p c l h]; simp [h]; simpa using ih
theorem span_lt (p : UInt8 → Bool) (l : List UInt8) : (spanL p l < l.length) ↔ l.all p = false := by
  have h1 := span_all p l
  have h2 := span_le p l
  cases h : l.all p
  · rw [h] at h1; simp at h1 ⊢; omega
  · rw [h] at h1; simp at h1 ⊢; omega
theorem all_head (p : UInt8 → Bool) (l : List UInt8) (hl : l ≠ []) (h : l.all p = true) : p (l.headD 0) = true := by
  cases l with
  | nil => exact absurd rfl hl
  | cons c l => simp at h; exact h.1
theorem key_facts (l : List UInt8) (h : isKeyL l = true) : l ≠ [] ∧ l.length ≤ 40 ∧ lowS.contains (l.headD 0) = true ∧ l.all inNameS.contains = true ∧ isMarkL l = false := by
  have hall : keyS.all (fun l => decide (l ≠ []) && decide (l.length ≤ 40) && lowS.contains (l.headD 0) && l.all inNameS.contains && !isMarkL l) = true := by kernel_rfl
  rw [List.all_eq_true] at hall
  have := hall l (by unfold isKeyL at h; exact List.contains_iff_mem.1 h)
  simp only [Bool.and_eq_true, decide_eq_true_eq, Bool.not_eq_true'] at this
  exact ⟨this.1.1.1.1, this.1.1.1.2, this.1.1.2, this.1.2, this.2⟩
theorem mark_facts (l : List UInt8) (h : isMarkL l = true) : l ≠ [] ∧ l.length ≤ 40 ∧ (lowS.contains (l.headD 0) = true → l = [95]) ∧ upperS.contains (l.headD 0) = false := by
  have hall : markS.all (fun l => decide (l ≠ []) && decide (l.length ≤ 40) && (!lowS.contains (l.headD 0) || l == [95]) && !upperS.contains (l.headD 0)) = true := by kernel_rfl
  rw [List.all_eq_true] at hall
  have := hall l (by unfold isMarkL at h; exact List.contains_iff_mem.1 h)
  simp only [Bool.and_eq_true, decide_eq_true_eq, Bool.not_eq_true', Bool.or_eq_true, beq_iff_eq] at this
  refine ⟨this.1.1.1, this.1.1.2, fun hl => ?_, this.2⟩
  rcases this.1.2 with h1 | h1
  · rw [hl] at h1; cases h1
  · exact h1
theorem low_op (c : UInt8) (h : opS.contains c = true) : lowS.contains c = false ∧ upperS.contains c = false := by
  have := all256 (fun c => !opS.contains c || (!lowS.contains c && !upperS.contains c)) (by kernel_rfl) c
  simp only [Bool.or_eq_true, Bool.and_eq_true, Bool.not_eq_true'] at this
  rcases this with h1 | h1
  · rw [h] at h1; cases h1
  · exact h1
theorem up_low (c : UInt8) (h : upperS.contains c = true) : lowS.contains c = false := by
  have := all256 (fun c => !upperS.contains c || !lowS.contains c) (by kernel_rfl) c
  simp only [Bool.or_eq_true, Bool.not_eq_true'] at this
  rcases this with h1 | h1
  · rw [h] at h1; cases h1
  · exact h1

/-- Which kind, by tests. -/
def kf (e k m o n u v : Bool) : Int := if e = true then 0 else if k = true then 6 else if m = true then 7 else if o = true then 5 else if n = false then 0 else if u = true then 2 else if v = true then 1 else 0
theorem kf_all : ∀ e k m o n u v q : Bool, (k = true → e = false ∧ v = true ∧ n = true ∧ m = false) → (m = true → e = false ∧ (v = true → q = true) ∧ u = false) → (o = true → e = false → v = false ∧ u = false) → (u = true → v = false) → (q = true → m = true) →
    (kf e k m o n u v == 6) = k ∧ (kf e k m o n u v == 7) = m ∧ (kf e k m o n u v == 1) = (!e && v && n && !k && !q) ∧ (kf e k m o n u v == 2) = (!e && u && n) ∧ (kf e k m o n u v == 5) = (!e && o && !m) := by
  intro e k m o n u v q
  cases e <;> cases k <;> cases m <;> cases o <;> cases n <;> cases u <;> cases v <;> cases q <;> simp [kf]
theorem kind_by (l : List UInt8) : kindL l = kf (!(!l.isEmpty && decide (l.length ≤ 40))) (isKeyL l) (isMarkL l) (l.all opS.contains) (l.all inNameS.contains) (upperS.contains (l.headD 0)) (lowS.contains (l.headD 0)) := by
  unfold kindL kf
  have he : (l = [] ∨ 40 < l.length) = ((!(!l.isEmpty && decide (l.length ≤ 40))) = true) := by
    apply propext
    cases l with
    | nil => simp
    | cons c l => simp only [Bool.not_eq_true', Bool.and_eq_false_iff, decide_eq_false_iff_not, List.isEmpty_cons, Bool.not_false]; simp; omega
  simp only [he, span_all, span_lt]
theorem kind_five (l : List UInt8) : (kindL l == 6) = isKeyL l ∧ (kindL l == 7) = isMarkL l ∧ (kindL l == 1) = rLow l ∧ (kindL l == 2) = rUp l ∧ (kindL l == 5) = rOp l := by
  rw [kind_by]
  have h := kf_all (!(!l.isEmpty && decide (l.length ≤ 40))) (isKeyL l) (isMarkL l) (l.all opS.contains) (l.all inNameS.contains) (upperS.contains (l.headD 0)) (lowS.contains (l.headD 0)) (l == [95]) ?_ ?_ ?_ ?_ ?_
  · unfold rLow rUp rOp
    simp only [Bool.not_not] at h
    refine ⟨h.1, h.2.1, h.2.2.1, ?_, h.2.2.2.2⟩
    exact h.2.2.2.1
  · intro hk
    have k := key_facts l hk
    refine ⟨?_, k.2.2⟩
    have h1 := k.1; have h2 := k.2.1
    cases l with
    | nil => exact absurd rfl h1
    | cons c l => simp only [Bool.not_eq_false', List.isEmpty_cons, Bool.not_false, Bool.true_and, decide_eq_true_eq]; exact h2
  · intro hm
    have k := mark_facts l hm
    have h1 := k.1; have h2 := k.2.1
    refine ⟨?_, fun hv => by rw [beq_iff_eq]; exact k.2.2.1 hv, k.2.2.2⟩
    cases l with
    | nil => exact absurd rfl h1
    | cons c l => simp only [Bool.not_eq_false', List.isEmpty_cons, Bool.not_false, Bool.true_and, decide_eq_true_eq]; exact h2
  · intro ho he
    have hne : l ≠ [] := by rintro rfl; simp at he
    exact low_op _ (all_head _ l hne ho)
  · exact up_low _
  · intro hq
    rw [beq_iff_eq] at hq
    subst hq; decide
theorem kind_key (l : List UInt8) : (kindL l == 6) = isKeyL l := (kind_five l).1
theorem kind_mark (l : List UInt8) : (kindL l == 7) = isMarkL l := (kind_five l).2.1
theorem kind_low (l : List UInt8) : (kindL l == 1) = rLow l := (kind_five l).2.2.1
theorem kind_up (l : List UInt8) : (kindL l == 2) = rUp l := (kind_five l).2.2.2.1
theorem kind_op (l : List UInt8) : (kindL l == 5) = rOp l := (kind_five l).2.2.2.2

set_option maxHeartbeats 400000 in
theorem lkey_any (s : ByteArray) (u : Bool) (hu : Hid (isKeyL s.data.toList = u)) (w : World) (hs : s.size ≤ maxLen) :
    Calls Tryd.prog 6 #[.string s] w fun e w' => e = .returned (.bool u) ∧ w = w' := by
  have C1 := Lib.hid (fun w => kindof_any s w hs)
  have H := Lib.hid (kind_key s.data.toList)
  go_enter Tryd.func6, Tryd.ntmps6
  go_wp2_with (go_at_call 19; (with_reducible refine (C1.out _).mono ?_); rintro e w' ⟨rfl, rfl⟩)
  go_ret
  exact ⟨ret_bool (by rw [← hu.out, ← H.out]), rfl⟩

set_option maxHeartbeats 400000 in
theorem lmark_any (s : ByteArray) (u : Bool) (hu : Hid (isMarkL s.data.toList = u)) (w : World) (hs : s.size ≤ maxLen) :
    Calls Tryd.prog 8 #[.string s] w fun e w' => e = .returned (.bool u) ∧ w = w' := by
  have C1 := Lib.hid (fun w => kindof_any s w hs)
  have H := Lib.hid (kind_mark s.data.toList)
  go_enter Tryd.func8, Tryd.ntmps8
  go_wp2_with (go_at_call 19; (with_reducible refine (C1.out _).mono ?_); rintro e w' ⟨rfl, rfl⟩)
  go_ret
  exact ⟨ret_bool (by rw [← hu.out, ← H.out]), rfl⟩

set_option maxHeartbeats 400000 in
theorem llow_any (s : ByteArray) (u : Bool) (hu : Hid (rLow s.data.toList = u)) (w : World) (hs : s.size ≤ maxLen) :
    Calls Tryd.prog 10 #[.string s] w fun e w' => e = .returned (.bool u) ∧ w = w' := by
  have C1 := Lib.hid (fun w => kindof_any s w hs)
  have H := Lib.hid (kind_low s.data.toList)
  go_enter Tryd.func10, Tryd.ntmps10
  go_wp2_with (go_at_call 19; (with_reducible refine (C1.out _).mono ?_); rintro e w' ⟨rfl, rfl⟩)
  go_ret
  exact ⟨ret_bool (by rw [← hu.out, ← H.out]), rfl⟩

set_option maxHeartbeats 400000 in
theorem lup_any (s : ByteArray) (u : Bool) (hu : Hid (rUp s.data.toList = u)) (w : World) (hs : s.size ≤ maxLen) :
    Calls Tryd.prog 12 #[.string s] w fun e w' => e = .returned (.bool u) ∧ w = w' := by
  have C1 := Lib.hid (fun w => kindof_any s w hs)
  have H := Lib.hid (kind_up s.data.toList)
  go_enter Tryd.func12, Tryd.ntmps12
  go_wp2_with (go_at_call 19; (with_reducible refine (C1.out _).mono ?_); rintro e w' ⟨rfl, rfl⟩)
  go_ret
  exact ⟨ret_bool (by rw [← hu.out, ← H.out]), rfl⟩

set_option maxHeartbeats 400000 in
theorem lop_any (s : ByteArray) (u : Bool) (hu : Hid (rOp s.data.toList = u)) (w : World) (hs : s.size ≤ maxLen) :
    Calls Tryd.prog 14 #[.string s] w fun e w' => e = .returned (.bool u) ∧ w = w' := by
  have C1 := Lib.hid (fun w => kindof_any s w hs)
  have H := Lib.hid (kind_op s.data.toList)
  go_enter Tryd.func14, Tryd.ntmps14
  go_wp2_with (go_at_call 19; (with_reducible refine (C1.out _).mono ?_); rintro e w' ⟨rfl, rfl⟩)
  go_ret
  exact ⟨ret_bool (by rw [← hu.out, ← H.out]), rfl⟩

theorem dec40 (s : ByteArray) : decide (s.data.toList.length ≤ 40) = decide ((s.size : Int) ≤ 40) := by
  rw [data_len]; apply Bool.eq_iff_iff.2; simp; omega

set_option maxHeartbeats 1600000 in
theorem rlow_any (s : ByteArray) (u : Bool) (hu : Hid (rLow s.data.toList = u)) (w : World) (hs : s.size ≤ maxLen) :
    Calls Tryd.prog 11 #[.string s] w fun e w' => e = .returned (.bool u) ∧ Below w.heap.size w w' := by
  have hs2 := hs
  unfold maxLen at hs2
  by_cases h0 : s.data.toList = []
  · have HU := Lib.hid (show u = false by rw [← hu.out, h0]; rfl)
    have b0 : s.toList = [] := by rw [ByteArray.toList_eq]; exact h0
    have e0 : s.toList.isEmpty = true := by rw [b0]; rfl
    clear h0
    go_enter Tryd.func11, Tryd.ntmps11
    go_wp2
    go_ret
    exact ⟨ret_bool (by rw [HU.out]), Below.refl _ _⟩
  · have hpos : 0 < s.size := by
      rcases Nat.eq_zero_or_pos s.size with h | h
      · exact absurd (List.length_eq_zero_iff.1 (by rw [data_len]; exact h)) h0
      · exact h
    have b0 : ¬ s.toList = [] := by rw [ByteArray.toList_eq]; exact h0
    have e0 : s.toList.isEmpty = false := by rw [List.isEmpty_eq_false_iff]; exact b0
    have em : s.data.toList.isEmpty = false := by rw [List.isEmpty_eq_false_iff]; exact h0
    obtain ⟨u1, h1⟩ : ∃ u1, lowS.contains s[0] = u1 := ⟨_, rfl⟩
    obtain ⟨u2, h2⟩ : ∃ u2, s.data.toList.all inNameS.contains = u2 := ⟨_, rfl⟩
    obtain ⟨u3, h3⟩ : ∃ u3, isKeyL s.data.toList = u3 := ⟨_, rfl⟩
    have HU := Lib.hid (show u = (decide ((s.size : Int) ≤ 40) && u1 && u2 && !u3 && !(s.toList == [95])) by
      rw [← hu.out]; unfold rLow; rw [head_at s hpos, h1, h2, h3, dec40, ByteArray.toList_eq, em]; rfl)
    have C1 := Lib.hid (fun w => small_any s[0] u1 (Lib.hid h1) w)
    have C2 := Lib.hid (fun w => names_any s u2 (Lib.hid h2) w hs)
    have C3 := Lib.hid (fun w => rkey_any s u3 (Lib.hid h3) w)
    clear h0 h1 h2 h3 em
    go_enter Tryd.func11, Tryd.ntmps11
    go_wp2_with (first | (go_at_call 21; (with_reducible refine (C1.out _).mono ?_); rintro e w' ⟨rfl, rfl⟩) | (go_at_call 22; (with_reducible refine (C2.out _).mono ?_); rintro e w' ⟨rfl, rfl⟩) | (go_at_call 7; (with_reducible refine (C3.out _).mono ?_); rintro e w' ⟨rfl, hbk⟩))
    all_goals
      go_ret
      refine ⟨ret_bool ?_, ?_⟩
      · rw [HU.out]
        first | (simp [*]; done) | (simp [*]; omega)
      · first | exact Below.refl _ _ | exact hbk

set_option maxHeartbeats 1600000 in
theorem rup_any (s : ByteArray) (u : Bool) (hu : Hid (rUp s.data.toList = u)) (w : World) (hs : s.size ≤ maxLen) :
    Calls Tryd.prog 13 #[.string s] w fun e w' => e = .returned (.bool u) ∧ Below w.heap.size w w' := by
  have hs2 := hs
  unfold maxLen at hs2
  by_cases h0 : s.data.toList = []
  · have HU := Lib.hid (show u = false by rw [← hu.out, h0]; rfl)
    have b0 : s.toList = [] := by rw [ByteArray.toList_eq]; exact h0
    have e0 : s.toList.isEmpty = true := by rw [b0]; rfl
    clear h0
    go_enter Tryd.func13, Tryd.ntmps13
    go_wp2
    go_ret
    exact ⟨ret_bool (by rw [HU.out]), Below.refl _ _⟩
  · have hpos : 0 < s.size := by
      rcases Nat.eq_zero_or_pos s.size with h | h
      · exact absurd (List.length_eq_zero_iff.1 (by rw [data_len]; exact h)) h0
      · exact h
    have b0 : ¬ s.toList = [] := by rw [ByteArray.toList_eq]; exact h0
    have e0 : s.toList.isEmpty = false := by rw [List.isEmpty_eq_false_iff]; exact b0
    have em : s.data.toList.isEmpty = false := by rw [List.isEmpty_eq_false_iff]; exact h0
    obtain ⟨u1, h1⟩ : ∃ u1, upperS.contains s[0] = u1 := ⟨_, rfl⟩
    obtain ⟨u2, h2⟩ : ∃ u2, s.data.toList.all inNameS.contains = u2 := ⟨_, rfl⟩
    have HU := Lib.hid (show u = (decide ((s.size : Int) ≤ 40) && u1 && u2) by
      rw [← hu.out]; unfold rUp; rw [head_at s hpos, h1, h2, dec40, em]; rfl)
    have C1 := Lib.hid (fun w => great_any s[0] u1 (Lib.hid h1) w)
    have C2 := Lib.hid (fun w => names_any s u2 (Lib.hid h2) w hs)
    clear h0 h1 h2 em
    go_enter Tryd.func13, Tryd.ntmps13
    go_wp2_with (first | (go_at_call 23; (with_reducible refine (C1.out _).mono ?_); rintro e w' ⟨rfl, rfl⟩) | (go_at_call 22; (with_reducible refine (C2.out _).mono ?_); rintro e w' ⟨rfl, rfl⟩))
    all_goals
      go_ret
      refine ⟨ret_bool ?_, ?_⟩
      · rw [HU.out]
        first | (simp [*]; done) | (simp [*]; omega)
      · first | exact Below.refl _ _ | exact hbk

set_option maxHeartbeats 1600000 in
theorem rop_any (s : ByteArray) (u : Bool) (hu : Hid (rOp s.data.toList = u)) (w : World) (hs : s.size ≤ maxLen) :
    Calls Tryd.prog 15 #[.string s] w fun e w' => e = .returned (.bool u) ∧ Below w.heap.size w w' := by
  have hs2 := hs
  unfold maxLen at hs2
  by_cases h0 : s.data.toList = []
  · have HU := Lib.hid (show u = false by rw [← hu.out, h0]; rfl)
    have b0 : s.toList = [] := by rw [ByteArray.toList_eq]; exact h0
    have e0 : s.toList.isEmpty = true := by rw [b0]; rfl
    clear h0
    go_enter Tryd.func15, Tryd.ntmps15
    go_wp2
    go_ret
    exact ⟨ret_bool (by rw [HU.out]), Below.refl _ _⟩
  · have hpos : 0 < s.size := by
      rcases Nat.eq_zero_or_pos s.size with h | h
      · exact absurd (List.length_eq_zero_iff.1 (by rw [data_len]; exact h)) h0
      · exact h
    have b0 : ¬ s.toList = [] := by rw [ByteArray.toList_eq]; exact h0
    have e0 : s.toList.isEmpty = false := by rw [List.isEmpty_eq_false_iff]; exact b0
    have em : s.data.toList.isEmpty = false := by rw [List.isEmpty_eq_false_iff]; exact h0
    obtain ⟨u2, h2⟩ : ∃ u2, s.data.toList.all opS.contains = u2 := ⟨_, rfl⟩
    obtain ⟨u3, h3⟩ : ∃ u3, isMarkL s.data.toList = u3 := ⟨_, rfl⟩
    have HU := Lib.hid (show u = (decide ((s.size : Int) ≤ 40) && u2 && !u3) by
      rw [← hu.out]; unfold rOp; rw [h2, h3, dec40, em]; rfl)
    have C2 := Lib.hid (fun w => signs_any s u2 (Lib.hid h2) w hs)
    have C3 := Lib.hid (fun w => rmark_any s u3 (Lib.hid h3) w)
    clear h0 h2 h3 em
    go_enter Tryd.func15, Tryd.ntmps15
    go_wp2_with (first | (go_at_call 24; (with_reducible refine (C2.out _).mono ?_); rintro e w' ⟨rfl, rfl⟩) | (go_at_call 9; (with_reducible refine (C3.out _).mono ?_); rintro e w' ⟨rfl, hbk⟩))
    all_goals
      go_ret
      refine ⟨ret_bool ?_, ?_⟩
      · rw [HU.out]
        first | (simp [*]; done) | (simp [*]; omega)
      · first | exact Below.refl _ _ | exact hbk

end Go.Proofs.YtlojlgchiemkjaaDoor
