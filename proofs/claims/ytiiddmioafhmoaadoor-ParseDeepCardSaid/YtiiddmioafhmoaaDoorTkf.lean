/- Plain: the tokens of a source are such as a parser may have before it. -/
import Derived.Test.YtiiddmioafhmoaaDoorBack03
import Derived.Test.YtiiddmioafhmoaaDoorMgf
namespace Go.Proofs.YtiiddmioafhmoaaDoor
set_option linter.unusedVariables false

theorem textL_text : ∀ (n : Nat) (r : List UInt8), r.length ≤ n → ∀ x, textL r = some x → x.1.length ≤ r.length := by
  intro n
  induction n with
  | zero => intro r h x hx; have hr : r = [] := List.length_eq_zero_iff.1 (by omega)
            rw [hr] at hx; cases hx
  | succ n ih =>
    intro r h x hx
    cases r with
    | nil => cases hx
    | cons c r =>
      rw [textL_cons] at hx
      simp only [List.length_cons] at h ⊢
      by_cases h1 : c = 34
      · rw [if_pos h1] at hx; injection hx with hx; subst hx; simp
      rw [if_neg h1] at hx
      by_cases h2 : c = 10
      · rw [if_pos h2] at hx; cases hx
      rw [if_neg h2] at hx
      by_cases h3 : c = 92
      · rw [if_pos h3] at hx
        cases r with
        | nil => cases hx
        | cons d r' =>
          simp only at hx
          cases hd : decodedL d with
          | none => rw [hd] at hx; cases hx
          | some b =>
            rw [hd] at hx
            obtain ⟨y, hy, rfl⟩ := Option.map_eq_some_iff.1 hx
            have := ih r' (by simp at h; omega) y hy
            simp; omega
      · rw [if_neg h3] at hx
        obtain ⟨y, hy, rfl⟩ := Option.map_eq_some_iff.1 hx
        have := ih r (by omega) y hy
        simp; omega
theorem with_small (neg : Bool) (lim : Nat) (l : List UInt8) (h : lim ≤ 4611686018427387904) : ok64 (parseWith neg lim l).1 := by
  by_cases h1 : isNat l = true
  · by_cases h2 : (neg && l == [48]) = false
    · by_cases h3 : natVal l ≤ lim
      · rw [with_ok neg lim l h1 h2 h3]
        cases neg <;> exact ok_lit _ (by first | (simp; done) | (simp; omega)) (by first | (simp; done) | (simp; omega))
      · rw [with_high neg lim l h1 h2 (by omega)]
        exact ok_lit _ (by decide) (by decide)
    · unfold parseWith
      simp only [Bool.not_eq_false] at h2
      simp [h1, h2]
      exact ok_lit _ (by decide) (by decide)
  · rw [with_bad neg lim l (by simpa using h1)]
    exact ok_lit _ (by decide) (by decide)
theorem parse_small (l : List UInt8) : ok64 (parse l).1 := by
  unfold parse
  split
  · exact with_small _ _ _ (by decide)
  · exact with_small _ _ _ (by decide)
theorem span_all (p : UInt8 → Bool) : ∀ s : List UInt8, s.all p = true → spanL p s = s.length := by
  intro s
  unfold spanL
  induction s with
  | nil => intro _; rfl
  | cons c s ih =>
    intro h
    simp only [List.all_cons, Bool.and_eq_true] at h
    rw [List.takeWhile_cons, if_pos h.1, List.length_cons, ih h.2, List.length_cons]
theorem take_spanP (p : UInt8 → Bool) : ∀ r : List UInt8, r.take (spanL p r) = r.takeWhile p := by
  intro r
  unfold spanL
  induction r with
  | nil => rfl
  | cons c r ih =>
    by_cases h : p c = true
    · rw [List.takeWhile_cons, if_pos h, List.length_cons, List.take_succ_cons, ih]
    · rw [List.takeWhile_cons, if_neg h]; rfl
theorem tw_len (p : UInt8 → Bool) : ∀ r : List UInt8, (r.takeWhile p).length ≤ r.length := by
  intro r
  induction r with
  | nil => simp
  | cons c r ih => rw [List.takeWhile_cons]; split <;> simp <;> omega
theorem all_span (p : UInt8 → Bool) : ∀ r : List UInt8, (r.takeWhile p).all p = true := by
  intro r
  induction r with
  | nil => rfl
  | cons c r ih =>
    by_cases h : p c = true
    · rw [List.takeWhile_cons, if_pos h]; simp [h]
    · rw [List.takeWhile_cons, if_neg h]; rfl
theorem name_case (c : UInt8) (h : nameS.contains c = true) : upperS.contains c = true ∨ lowS.contains c = true := by
  rw [List.contains_iff_mem] at h
  have : nameS = lowS ++ upperS := rfl
  rw [this, List.mem_append] at h
  rcases h with h | h
  · right; rw [List.contains_iff_mem]; exact h
  · left; rw [List.contains_iff_mem]; exact h
theorem kind_word (s : List UInt8) (h0 : s ≠ []) (h40 : s.length ≤ 40) (h : s.all opS.contains = true ∨ (s.all inNameS.contains = true ∧ nameS.contains (s.headD 0) = true) ∨ isMarkL s = true) : kindL s ≠ 0 := by
  unfold kindL
  rw [if_neg (by rintro (h | h); exact h0 h; omega)]
  split
  · decide
  split
  · decide
  split
  · decide
  · rename_i h1 h2 h3
    rcases h with h | ⟨ha, hn⟩ | h
    · exact absurd (span_all _ s h) h3
    · rw [if_neg (by rw [span_all _ s ha]; omega)]
      rcases name_case _ hn with hu | hl
      · rw [if_pos hu]; decide
      · split
        · decide
        · first | decide | (rw [if_pos hl]; decide)
    · exact absurd h h2
/-- What a piece is. -/
theorem piece_fine (c : UInt8) (r : List UInt8) (h : (pieceL (c :: r)).code = 0) : (pieceL (c :: r)).kind ≠ 0 ∧ (pieceL (c :: r)).text.length ≤ r.length + 1 ∧ ok64 (pieceL (c :: r)).num := by
  change (pieceC c r).code = 0 at h
  change (pieceC c r).kind ≠ 0 ∧ (pieceC c r).text.length ≤ r.length + 1 ∧ ok64 (pieceC c r).num
  have hz : ok64 0 := ok_lit _ (by decide) (by decide)
  have word : ∀ n, 1 ≤ n → ((c :: r).take n).all opS.contains = true ∨ (((c :: r).take n).all inNameS.contains = true ∧ nameS.contains (((c :: r).take n).headD 0) = true) ∨ isMarkL ((c :: r).take n) = true → (wordL (c :: r) n).code = 0 → (wordL (c :: r) n).kind ≠ 0 ∧ (wordL (c :: r) n).text.length ≤ r.length + 1 ∧ ok64 (wordL (c :: r) n).num := by
    intro n hn hh hc
    unfold wordL at hc ⊢
    split at hc
    · simp [Piece.bad] at hc
    · rename_i h40
      rw [if_neg h40]
      refine ⟨kind_word _ ?_ (by omega) hh, ?_, hz⟩
      · intro e
        have := congrArg List.length e
        rw [List.length_take] at this
        simp at this; omega
      · simp only [List.length_take, List.length_cons]; omega
  unfold pieceC at h ⊢
  split at h
  · rename_i hd
    rw [if_pos hd]
    unfold numberL at h ⊢
    split at h
    · rename_i hp
      rw [if_pos hp]
      refine ⟨by show (3 : Int) ≠ 0; decide, ?_, parse_small _⟩
      unfold shownL
      split
      · simp
      · have h1 := tw_len digitS.contains (c :: r)
        have h2 : ∀ l : List UInt8, (l.dropWhile (· == 48)).length ≤ l.length := fun l => by
          induction l with
          | nil => simp
          | cons a l ih => rw [List.dropWhile_cons]; split <;> simp; omega
        have h3 := h2 ((c :: r).takeWhile digitS.contains)
        simp only [List.length_cons] at h1
        show (List.dropWhile _ _).length ≤ _
        omega
    · simp [Piece.bad] at h
  · rename_i hd
    rw [if_neg hd]
    split at h
    · rename_i h34
      rw [if_pos h34]
      unfold stringL at h ⊢
      cases hx : textL r with
      | none => rw [hx] at h; simp [Piece.bad] at h
      | some x =>
        simp only
        have := textL_text _ r (Nat.le_refl _) x hx
        exact ⟨by show (4 : Int) ≠ 0; decide, by omega, hz⟩
    · rename_i h34
      rw [if_neg h34]
      split at h
      · rename_i hn
        rw [if_pos hn]
        refine word _ (span_one _ c r (name_in c hn)) (.inr (.inl ⟨?_, ?_⟩)) h
        · rw [take_spanP]; exact all_span _ _
        · have := span_one _ c r (name_in c hn)
          obtain ⟨m, hm⟩ : ∃ m, spanL inNameS.contains (c :: r) = m + 1 := ⟨_, (Nat.sub_add_cancel this).symm⟩
          rw [hm]; exact hn
      · rename_i hn
        rw [if_neg hn]
        split at h
        · rename_i hop
          rw [if_pos hop]
          refine word _ (span_one _ c r hop) (.inl ?_) h
          rw [take_spanP]; exact all_span _ _
        · rename_i hop
          rw [if_neg hop]
          split at h
          · rename_i hs
            rw [if_pos hs]
            refine word 1 (Nat.le_refl _) (.inr (.inr ?_)) h
            show isMarkL [c] = true
            rw [List.contains_iff_mem] at hs
            simp only [List.mem_cons, List.not_mem_nil, or_false] at hs
            rcases hs with rfl | rfl | rfl | rfl | rfl <;> decide
          · simp [Piece.bad] at h
/-- What the tokens are. -/
theorem toksF_fine : ∀ (f k : Nat) (r : List UInt8), r.length < f → (toksF f k r).2.1 = 0 → ∃ l e, (toksF f k r).1 = l ++ [e] ∧ e.kind = 0 ∧ e.text = [] ∧ e.num = 0 ∧ e.pos ≤ k + r.length ∧ l.length ≤ r.length ∧
    ∀ t ∈ l, t.kind ≠ 0 ∧ t.text.length ≤ r.length ∧ ok64 t.num ∧ t.pos ≤ k + r.length := by
  intro f
  induction f with
  | zero => intro k r h; omega
  | succ f ih =>
    intro k r h h0
    cases r with
    | nil => exact ⟨[], ⟨0, [], 0, k⟩, rfl, rfl, rfl, rfl, by simp, by simp, fun t ht => by simp at ht⟩
    | cons c r =>
      rw [toksF_cons] at h0 ⊢
      by_cases hc : (pieceL (c :: r)).code = 0
      · rw [if_pos hc] at h0 ⊢
        have hw := piece_width c r hc
        obtain ⟨p1, p2, p3⟩ := piece_fine c r hc
        generalize (pieceL (c :: r)).width = w at *
        have hsk := skip_le ((c :: r).drop w) false
        generalize skipL false ((c :: r).drop w) = s at *
        rw [List.length_drop, List.length_cons] at hsk
        simp only [List.length_cons] at h
        by_cases hy : (toksF f (k + w + s) ((c :: r).drop (w + s))).2.1 = 0
        · rw [if_pos hy]
          obtain ⟨l, e, e1, e2, e3, e4, e5, e6, e7⟩ := ih (k + w + s) ((c :: r).drop (w + s)) (by rw [List.length_drop, List.length_cons]; omega) hy
          rw [List.length_drop, List.length_cons] at e5 e6
          refine ⟨⟨(pieceL (c :: r)).kind, (pieceL (c :: r)).text, (pieceL (c :: r)).num, k⟩ :: l, e, by rw [e1]; rfl, e2, e3, e4, by rw [List.length_cons]; omega, by simp only [List.length_cons]; omega, fun t ht => ?_⟩
          rw [List.length_cons]
          rcases List.mem_cons.1 ht with rfl | ht
          · exact ⟨p1, p2, p3, by simp only; omega⟩
          · obtain ⟨q1, q2, q3, q4⟩ := e7 t ht
            rw [List.length_drop, List.length_cons] at q2 q4
            exact ⟨q1, by omega, q3, by omega⟩
        · rw [if_neg hy] at h0
          exact absurd h0 hy
      · rw [if_neg hc] at h0
        exact absurd h0 hc
theorem scan_fine (l : List UInt8) (h0 : (scanL l).2.1 = 0) : Fine (scanL l).1 := by
  unfold scanL at h0 ⊢
  split at h0
  · simp at h0
  · rename_i hl
    rw [if_neg hl]
    cases hb : badL l with
    | some i => rw [hb] at h0; simp at h0
    | none =>
      rw [hb] at h0
      simp only at h0 ⊢
      have hs := skip_le l false
      have hd : (l.drop (skipL false l)).length = l.length - skipL false l := List.length_drop
      obtain ⟨l', e, e1, e2, e3, e4, e5, e6, e7⟩ := toksF_fine (l.length + 1) (skipL false l) (l.drop (skipL false l)) (by omega) h0
      rw [e1]
      rw [hd] at e5 e6
      refine ⟨fun t ht => ?_, by simp; omega, l', e, rfl, e2, fun t ht => (e7 t ht).1⟩
      rcases List.mem_append.1 ht with ht | ht
      · obtain ⟨_, q2, q3, q4⟩ := e7 t ht
        rw [hd] at q2 q4
        exact ⟨by omega, q3, by omega⟩
      · simp only [List.mem_cons, List.not_mem_nil, or_false] at ht
        subst ht
        exact ⟨by rw [e3]; simp, by rw [e4]; exact ok_lit _ (by decide) (by decide), by omega⟩
/-- The errors of a scan have a number and a place. -/
theorem piece_code (c : UInt8) (r : List UInt8) : 0 ≤ (pieceL (c :: r)).code ∧ (pieceL (c :: r)).code ≤ 1000 := by
  change 0 ≤ (pieceC c r).code ∧ (pieceC c r).code ≤ 1000
  unfold pieceC numberL stringL wordL Piece.bad
  repeat' split
  all_goals simp

end Go.Proofs.YtiiddmioafhmoaaDoor
