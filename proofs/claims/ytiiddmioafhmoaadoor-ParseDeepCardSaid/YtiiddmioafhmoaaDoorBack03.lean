/- Plain: the tokens of two sources with a line feed between. -/
import Derived.Test.YtiiddmioafhmoaaDoorMge
namespace Go.Proofs.YtiiddmioafhmoaaDoor
set_option linter.unusedVariables false

theorem tw_app (p : UInt8 → Bool) (h : p 10 = false) (r b : List UInt8) : (r ++ 10 :: b).takeWhile p = r.takeWhile p := by
  induction r with
  | nil => simp [h]
  | cons c r ih =>
    cases hc : p c
    · simp [hc]
    · simp [hc, ih]
theorem span_app (p : UInt8 → Bool) (h : p 10 = false) (r b : List UInt8) : spanL p (r ++ 10 :: b) = spanL p r := by
  unfold spanL; rw [tw_app p h]
theorem textL_app (b : List UInt8) : ∀ (n : Nat) (r : List UInt8), r.length ≤ n → textL (r ++ 10 :: b) = textL r := by
  have h0 : textL (10 :: b) = none := by rw [textL_cons]; simp
  intro n
  induction n with
  | zero =>
    intro r h
    have hr : r = [] := List.length_eq_zero_iff.1 (by omega)
    subst hr; exact h0
  | succ n ih =>
    intro r h
    cases r with
    | nil => exact h0
    | cons c r =>
      rw [List.cons_append, textL_cons, textL_cons]
      simp only [List.length_cons] at h
      cases r with
      | nil =>
        by_cases h1 : c = 34
        · rw [if_pos h1, if_pos h1]
        rw [if_neg h1, if_neg h1]
        by_cases h2 : c = 10
        · rw [if_pos h2, if_pos h2]
        rw [if_neg h2, if_neg h2]
        by_cases h3 : c = 92
        · rw [if_pos h3, if_pos h3]; rfl
        · rw [if_neg h3, if_neg h3, ih [] (by simp)]
      | cons d r' =>
        have e1 := ih (d :: r') (by simpa using h)
        have e2 := ih r' (by simp at h; omega)
        rw [e1]
        simp only [List.cons_append, e2]
theorem wordL_app (r b : List UInt8) (n : Nat) (h : n ≤ r.length) : wordL (r ++ 10 :: b) n = wordL r n := by
  unfold wordL; rw [List.take_append_of_le_length h]
theorem piece_app (c : UInt8) (r b : List UInt8) : pieceL (c :: r ++ 10 :: b) = pieceL (c :: r) := by
  have hl : ∀ p, spanL p (c :: r) ≤ (c :: r).length := fun p => span_le p _
  show pieceC c (r ++ 10 :: b) = pieceC c r
  unfold pieceC
  have e1 : numberL (c :: (r ++ 10 :: b)) = numberL (c :: r) := by
    unfold numberL
    rw [← List.cons_append, tw_app digitS.contains (by decide), span_app digitS.contains (by decide)]
  have e2 : stringL (r ++ 10 :: b) = stringL r := by unfold stringL; rw [textL_app b _ r (Nat.le_refl _)]
  have e3 : spanL inNameS.contains (c :: (r ++ 10 :: b)) = spanL inNameS.contains (c :: r) := by rw [← List.cons_append, span_app inNameS.contains (by decide)]
  have e4 : spanL opS.contains (c :: (r ++ 10 :: b)) = spanL opS.contains (c :: r) := by rw [← List.cons_append, span_app opS.contains (by decide)]
  rw [e1, e2, e3, e4, ← List.cons_append, wordL_app _ _ _ (hl _), wordL_app _ _ _ (hl _), wordL_app _ _ 1 (by simp)]
theorem skip_app (b : List UInt8) : ∀ (r : List UInt8) (s : Bool), skipL s (r ++ 10 :: b) = if skipL s r = r.length then r.length + 1 + skipL false b else skipL s r := by
  intro r
  induction r with
  | nil =>
    intro s
    have e1 : skipL false (10 :: b) = 1 + skipL false b := by
      have h10 : blankS.contains 10 = true := by decide
      conv => lhs; rw [skipL]
      rw [if_pos h10]
    have e2 : skipL true (10 :: b) = 1 + skipL false b := by
      conv => lhs; rw [skipL]
      rfl
    cases s
    · show skipL false (10 :: b) = if (0 : Nat) = 0 then 0 + 1 + skipL false b else 0
      rw [e1, if_pos rfl]
    · show skipL true (10 :: b) = if (0 : Nat) = 0 then 0 + 1 + skipL false b else 0
      rw [e2, if_pos rfl]
  | cons c r ih =>
    intro s
    have h1 := ih false
    have h2 := ih true
    have l1 := skip_le r false
    have l2 := skip_le r true
    rw [List.cons_append]
    cases s
    · rw [skipL, skipL]
      by_cases hb : blankS.contains c = true
      · rw [if_pos hb, if_pos hb, h1]
        simp only [List.length_cons]
        by_cases e : skipL false r = r.length
        · rw [if_pos e, if_pos (by omega)]; omega
        · rw [if_neg e, if_neg (by omega)]
      · rw [if_neg hb, if_neg hb]
        by_cases hc : c = 35
        · rw [if_pos hc, if_pos hc, h2]
          simp only [List.length_cons]
          by_cases e : skipL true r = r.length
          · rw [if_pos e, if_pos (by omega)]; omega
          · rw [if_neg e, if_neg (by omega)]
        · rw [if_neg hc, if_neg hc, if_neg (by simp)]
    · rw [skipL, skipL, ih (c != 10)]
      have l3 := skip_le r (c != 10)
      simp only [List.length_cons]
      by_cases e : skipL (c != 10) r = r.length
      · rw [if_pos e, if_pos (by omega)]; omega
      · rw [if_neg e, if_neg (by omega)]

theorem toks_fuel : ∀ (f g : Nat) (r : List UInt8) (k : Nat), r.length < f → r.length < g → toksF f k r = toksF g k r := by
  intro f
  induction f with
  | zero => intro g r k h; omega
  | succ f ih =>
    intro g r k h1 h2
    cases g with
    | zero => omega
    | succ g =>
      cases r with
      | nil => rfl
      | cons c r =>
        rw [toksF_cons, toksF_cons]
        by_cases hc : (pieceL (c :: r)).code = 0
        · rw [if_pos hc, if_pos hc]
          have hw := piece_width c r hc
          simp only [List.length_cons] at h1 h2
          have := ih g ((c :: r).drop ((pieceL (c :: r)).width + skipL false ((c :: r).drop (pieceL (c :: r)).width))) (k + (pieceL (c :: r)).width + skipL false ((c :: r).drop (pieceL (c :: r)).width)) (by rw [List.length_drop]; simp only [List.length_cons]; omega) (by rw [List.length_drop]; simp only [List.length_cons]; omega)
          rw [this]
        · rw [if_neg hc, if_neg hc]

/-- The tokens from a position on. -/
def tok (k : Nat) (r : List UInt8) : List Tk × Int × Nat := toksF (r.length + 1) k r
theorem tok_nil (k : Nat) : tok k [] = ([⟨0, [], 0, k⟩], 0, 0) := rfl
theorem tok_bad (k : Nat) (c : UInt8) (r : List UInt8) (hc : (pieceL (c :: r)).code ≠ 0) : tok k (c :: r) = ([], (pieceL (c :: r)).code, k) := by
  unfold tok; rw [toksF_cons, if_neg hc]
theorem tok_step (k : Nat) (c : UInt8) (r : List UInt8) (w : Nat) (hc : (pieceL (c :: r)).code = 0) (hw : (pieceL (c :: r)).width = w) (s : Nat) (hs : skipL false ((c :: r).drop w) = s) :
    Joined [⟨(pieceL (c :: r)).kind, (pieceL (c :: r)).text, (pieceL (c :: r)).num, k⟩] (tok (k + w + s) ((c :: r).drop (w + s))) (tok k (c :: r)) := by
  have h1 := piece_width c r hc
  rw [hw] at h1
  have e : toksF (r.length + 1) (k + w + s) ((c :: r).drop (w + s)) = tok (k + w + s) ((c :: r).drop (w + s)) := by
    unfold tok; exact toks_fuel _ _ _ _ (by rw [List.length_drop]; simp only [List.length_cons]; omega) (by omega)
  have hz := toks_zero (((c :: r).drop (w + s)).length + 1) (k + w + s) ((c :: r).drop (w + s))
  unfold Joined
  have e2 : tok k (c :: r) = toksF (r.length + 1 + 1) k (c :: r) := rfl
  rw [e2, toksF_cons, if_pos hc, hw, hs, e]
  change ((tok (k + w + s) ((c :: r).drop (w + s))).2.1 = 0 → (tok (k + w + s) ((c :: r).drop (w + s))).2 = (0, 0)) ∧ _ at hz
  by_cases hy : (tok (k + w + s) ((c :: r).drop (w + s))).2.1 = 0
  · rw [if_pos hy, if_pos hy, hz.1 hy]; rfl
  · rw [if_neg hy, if_neg hy]
theorem tok_zero (k : Nat) (r : List UInt8) : ((tok k r).2.1 = 0 → (tok k r).2 = (0, 0)) ∧ ((tok k r).2.1 ≠ 0 → (tok k r).1 = []) := toks_zero _ _ _

theorem joined_zero {acc : List Tk} {Y X : List Tk × Int × Nat} (h : Joined acc Y X) (hy : Y.2.1 = 0) : X.1 = acc ++ Y.1 ∧ X.2 = Y.2 := by
  unfold Joined at h; rw [h, if_pos hy]; exact ⟨rfl, rfl⟩
theorem joined_err {acc : List Tk} {Y X : List Tk × Int × Nat} (h : Joined acc Y X) (hy : Y.2.1 ≠ 0) : X.1 = [] ∧ X.2 = Y.2 := by
  unfold Joined at h; rw [h, if_neg hy]; exact ⟨rfl, rfl⟩

/-- What stands behind a rest of the first source. -/
def comb (b : List UInt8) (k : Nat) (r : List UInt8) : List Tk × Int × Nat :=
  if r = [] then tok (k + 1 + skipL false b) (b.drop (skipL false b)) else tok k (r ++ 10 :: b)

theorem tok_last (b : List UInt8) : ∀ (n : Nat) (r : List UInt8) (k : Nat), r.length ≤ n →
    ((tok k r).2.1 ≠ 0 → comb b k r = tok k r) ∧
    ((tok k r).2.1 = 0 → (tok k r).1 ≠ [] ∧ Joined (tok k r).1.dropLast (tok (k + r.length + 1 + skipL false b) (b.drop (skipL false b))) (comb b k r)) := by
  intro n
  induction n with
  | zero =>
    intro r k h
    have hr : r = [] := List.length_eq_zero_iff.1 (by omega)
    subst hr
    refine ⟨fun h => absurd rfl h, fun _ => ⟨by rw [tok_nil]; simp, ?_⟩⟩
    unfold comb; rw [if_pos rfl, tok_nil]; exact joined_start _ _ _
  | succ n ih =>
    intro r k h
    cases r with
    | nil =>
      refine ⟨fun h => absurd rfl h, fun _ => ⟨by rw [tok_nil]; simp, ?_⟩⟩
      unfold comb; rw [if_pos rfl, tok_nil]; exact joined_start _ _ _
    | cons c r =>
      have hcomb : comb b k (c :: r) = tok k (c :: (r ++ 10 :: b)) := by unfold comb; rw [if_neg (by simp)]; rfl
      have hp : pieceL (c :: (r ++ 10 :: b)) = pieceL (c :: r) := piece_app c r b
      by_cases hc : (pieceL (c :: r)).code = 0
      · have hwd := piece_width c r hc
        obtain ⟨w, hw⟩ : ∃ w, (pieceL (c :: r)).width = w := ⟨_, rfl⟩
        rw [hw] at hwd
        obtain ⟨s, hs⟩ : ∃ s, skipL false ((c :: r).drop w) = s := ⟨_, rfl⟩
        have hsl : s ≤ (c :: r).length - w := by rw [← hs, ← List.length_drop]; exact skip_le _ _
        simp only [List.length_cons] at hsl
        have J1 := tok_step k c r w hc hw s hs
        have hd : (c :: (r ++ 10 :: b)).drop w = (c :: r).drop w ++ 10 :: b := by
          rw [← List.cons_append, List.drop_append_of_le_length (by simp; omega)]
        have hsk := skip_app b ((c :: r).drop w) false
        rw [hs, List.length_drop] at hsk
        simp only [List.length_cons] at hsk
        obtain ⟨s', hs'⟩ : ∃ s', skipL false ((c :: (r ++ 10 :: b)).drop w) = s' := ⟨_, rfl⟩
        have J2 := tok_step k c (r ++ 10 :: b) w (by rw [hp]; exact hc) (by rw [hp]; exact hw) s' hs'
        rw [hp] at J2
        have hrec : tok (k + w + s') ((c :: (r ++ 10 :: b)).drop (w + s')) = comb b (k + w + s) ((c :: r).drop (w + s)) := by
          rw [hd, hsk] at hs'
          unfold comb
          by_cases e : s = r.length + 1 - w
          · rw [if_pos e] at hs'
            have hnil : (c :: r).drop (w + s) = [] := List.drop_eq_nil_of_le (by simp only [List.length_cons]; omega)
            rw [if_pos hnil, ← List.drop_drop, hd, List.drop_append, List.drop_eq_nil_of_le (by rw [List.length_drop]; simp only [List.length_cons]; omega), List.length_drop, List.nil_append]
            simp only [List.length_cons]
            rw [show s' - (r.length + 1 - w) = skipL false b + 1 by omega, List.drop_succ_cons, show k + w + s' = k + w + s + 1 + skipL false b by omega]
          · rw [if_neg e] at hs'
            have hne : (c :: r).drop (w + s) ≠ [] := by
              intro h0
              have := congrArg List.length h0
              rw [List.length_drop] at this
              simp only [List.length_cons, List.length_nil] at this
              omega
            rw [if_neg hne, ← hs', ← List.drop_drop, hd, List.drop_append_of_le_length (by rw [List.length_drop]; simp only [List.length_cons]; omega), List.drop_drop]
        rw [hrec, ← hcomb] at J2
        have hih := ih ((c :: r).drop (w + s)) (k + w + s) (by rw [List.length_drop]; simp only [List.length_cons] at h ⊢; omega)
        have hlen : k + w + s + ((c :: r).drop (w + s)).length = k + (c :: r).length := by rw [List.length_drop]; simp only [List.length_cons]; omega
        rw [hlen] at hih
        generalize tok (k + w + s) ((c :: r).drop (w + s)) = A2 at *
        generalize comb b (k + w + s) ((c :: r).drop (w + s)) = C2 at *
        generalize tok (k + (c :: r).length + 1 + skipL false b) (b.drop (skipL false b)) = B at *
        by_cases ha : A2.2.1 = 0
        · obtain ⟨x1, x2⟩ := joined_zero J1 ha
          obtain ⟨hne, J3⟩ := hih.2 ha
          refine ⟨fun h => absurd (by rw [x2]; exact ha) h, fun _ => ⟨by rw [x1]; simp, ?_⟩⟩
          rw [x1, List.dropLast_append_of_ne_nil hne]
          unfold Joined at J2 J3 ⊢
          rw [J2, J3]
          by_cases hb : B.2.1 = 0
          · simp [hb]
          · simp [hb]
        · obtain ⟨x1, x2⟩ := joined_err J1 ha
          have hce := hih.1 ha
          refine ⟨fun _ => ?_, fun h => absurd (by rw [← x2]; exact h) ha⟩
          rw [hce] at J2
          obtain ⟨y1, y2⟩ := joined_err J2 ha
          exact Prod.ext (by rw [y1, x1]) (by rw [y2, x2])
      · rw [hcomb, tok_bad k c r hc, tok_bad k c (r ++ 10 :: b) (by rw [hp]; exact hc), hp]
        exact ⟨fun _ => rfl, fun h => absurd h hc⟩

/-- Every position moved. -/
def moveT (d : Nat) (l : List Tk) : List Tk := l.map fun t => ⟨t.kind, t.text, t.num, t.pos + d⟩
theorem tok_move (d : Nat) : ∀ (n : Nat) (r : List UInt8) (k : Nat), r.length ≤ n → tok (k + d) r = (moveT d (tok k r).1, (tok k r).2.1, if (tok k r).2.1 = 0 then 0 else (tok k r).2.2 + d) := by
  intro n
  induction n with
  | zero =>
    intro r k h
    have hr : r = [] := List.length_eq_zero_iff.1 (by omega)
    subst hr
    rw [tok_nil, tok_nil]; simp [moveT]
  | succ n ih =>
    intro r k h
    cases r with
    | nil => rw [tok_nil, tok_nil]; simp [moveT]
    | cons c r =>
      by_cases hc : (pieceL (c :: r)).code = 0
      · have hwd := piece_width c r hc
        obtain ⟨w, hw⟩ : ∃ w, (pieceL (c :: r)).width = w := ⟨_, rfl⟩
        rw [hw] at hwd
        obtain ⟨s, hs⟩ : ∃ s, skipL false ((c :: r).drop w) = s := ⟨_, rfl⟩
        have J1 := tok_step k c r w hc hw s hs
        have J2 := tok_step (k + d) c r w hc hw s hs
        have hih := ih ((c :: r).drop (w + s)) (k + w + s) (by rw [List.length_drop]; simp only [List.length_cons] at h ⊢; omega)
        rw [show k + d + w + s = k + w + s + d by omega, hih] at J2
        generalize tok (k + w + s) ((c :: r).drop (w + s)) = A at *
        by_cases ha : A.2.1 = 0
        · obtain ⟨x1, x2⟩ := joined_zero J1 ha
          obtain ⟨y1, y2⟩ := joined_zero J2 (by exact ha)
          refine Prod.ext ?_ ?_
          · rw [y1, x1]; simp [moveT]
          · rw [y2, x2]
        · obtain ⟨x1, x2⟩ := joined_err J1 ha
          obtain ⟨y1, y2⟩ := joined_err J2 (by exact ha)
          refine Prod.ext ?_ ?_
          · rw [y1, x1]; rfl
          · rw [y2, x2]
      · rw [tok_bad _ c r hc, tok_bad _ c r hc]
        simp [moveT, hc]

theorem piece_codes (c : UInt8) (r : List UInt8) : (pieceL (c :: r)).code ≠ 100 := by
  show (pieceC c r).code ≠ 100
  have hw : ∀ l n, (wordL l n).code ≠ 100 := by
    intro l n; unfold wordL
    split <;> simp [Piece.bad]
  unfold pieceC
  repeat' split
  · unfold numberL; split <;> simp [Piece.bad]
  · unfold stringL; split <;> simp [Piece.bad]
  · exact hw _ _
  · exact hw _ _
  · exact hw _ _
  · simp [Piece.bad]
theorem toks_codes : ∀ (f k : Nat) (r : List UInt8), (toksF f k r).2.1 ≠ 100 := by
  intro f
  induction f with
  | zero => intro k r; simp [toksF]
  | succ f ih =>
    intro k r
    cases r with
    | nil => simp [toksF]
    | cons c r =>
      rw [toksF_cons]
      split
      · split
        · simp
        · exact ih _ _
      · exact piece_codes c r

/-! Characters. -/
theorem dec_app (c : UInt8) (r b : List UInt8) : decL (c :: r ++ 10 :: b) = decL (c :: r) := by
  unfold decL Lib.decodeN
  match r with
  | [] => simp
  | [d] => simp
  | [d, e] => simp
  | d :: e :: g :: r => simp
theorem prefix_app (c : UInt8) (r b : List UInt8) : Lib.hasPrefix (c :: r ++ 10 :: b) [239, 191, 189] = Lib.hasPrefix (c :: r) [239, 191, 189] := by
  unfold Lib.hasPrefix
  match r with
  | [] => simp [List.isPrefixOf]
  | [d] => simp [List.isPrefixOf]
  | d :: e :: r => simp [List.isPrefixOf]
theorem dec_line (b : List UInt8) : decL (10 :: b) = (10, 1) := by unfold decL Lib.decodeN; simp
theorem bad_cons (f k : Nat) (c : UInt8) (r : List UInt8) : badF (f + 1) k (c :: r) = if (decL (c :: r)).1 = 65533 ∧ Lib.hasPrefix (c :: r) [239, 191, 189] = false then some k else badF f (k + (decL (c :: r)).2) ((c :: r).drop (decL (c :: r)).2) := by rw [badF]
theorem bad_fuel : ∀ (f g : Nat) (r : List UInt8) (k : Nat), r.length < f → r.length < g → badF f k r = badF g k r := by
  intro f
  induction f with
  | zero => intro g r k h; omega
  | succ f ih =>
    intro g r k h1 h2
    cases g with
    | zero => omega
    | succ g =>
      cases r with
      | nil => rfl
      | cons c r =>
        rw [bad_cons, bad_cons]
        have hp := dec_pos (c :: r)
        simp only [List.length_cons] at h1 h2
        rw [ih g ((c :: r).drop (decL (c :: r)).2) (k + (decL (c :: r)).2) (by rw [List.length_drop]; simp only [List.length_cons]; omega) (by rw [List.length_drop]; simp only [List.length_cons]; omega)]
theorem bad_move (d : Nat) : ∀ (f : Nat) (r : List UInt8) (k : Nat), badF f (k + d) r = (badF f k r).map (· + d) := by
  intro f
  induction f with
  | zero => intro r k; rfl
  | succ f ih =>
    intro r k
    cases r with
    | nil => rfl
    | cons c r =>
      rw [bad_cons, bad_cons]
      split
      · rfl
      · rw [show k + d + (decL (c :: r)).2 = k + (decL (c :: r)).2 + d by omega, ih]
theorem bad_app (b : List UInt8) : ∀ (n : Nat) (r : List UInt8) (k f g h : Nat), r.length ≤ n → r.length < f → r.length + 1 + b.length < g → b.length < h →
    badF g k (r ++ 10 :: b) = match badF f k r with | some i => some i | none => badF h (k + r.length + 1) b := by
  intro n
  induction n with
  | zero =>
    intro r k f g h hr hf hg hh
    have h0 : r = [] := List.length_eq_zero_iff.1 (by omega)
    subst h0
    cases g with
    | zero => omega
    | succ g =>
      cases f with
      | zero => omega
      | succ f =>
        rw [List.nil_append, bad_cons, dec_line, if_neg (by simp)]
        simp only [List.length_nil, List.drop_succ_cons, List.drop_zero, Nat.add_zero]
        show badF g (k + 1) b = badF h (k + 1) b
        exact bad_fuel _ _ _ _ (by simp only [List.length_nil] at hg; omega) hh
  | succ n ih =>
    intro r k f g h hr hf hg hh
    cases g with
    | zero => omega
    | succ g =>
      cases f with
      | zero => omega
      | succ f =>
        cases r with
        | nil =>
          rw [List.nil_append, bad_cons, dec_line, if_neg (by simp)]
          simp only [List.length_nil, List.drop_succ_cons, List.drop_zero, Nat.add_zero]
          show badF g (k + 1) b = badF h (k + 1) b
          exact bad_fuel _ _ _ _ (by simp only [List.length_nil] at hg; omega) hh
        | cons c r =>
          rw [List.cons_append, bad_cons, bad_cons]
          have e1 := dec_app c r b
          have e2 := prefix_app c r b
          rw [List.cons_append] at e1 e2
          rw [e1, e2]
          by_cases hb : (decL (c :: r)).1 = 65533 ∧ Lib.hasPrefix (c :: r) [239, 191, 189] = false
          · rw [if_pos hb, if_pos hb]
          · rw [if_neg hb, if_neg hb]
            have hp := dec_pos (c :: r)
            have hl := dec_le c r
            simp only [List.length_cons] at hr hf hg
            obtain ⟨w, hw⟩ : ∃ w, (decL (c :: r)).2 = w := ⟨_, rfl⟩
            rw [hw] at hp hl ⊢
            rw [← List.cons_append, List.drop_append_of_le_length (by simp only [List.length_cons]; omega)]
            have := ih ((c :: r).drop w) (k + w) f g h (by rw [List.length_drop]; simp only [List.length_cons]; omega) (by rw [List.length_drop]; simp only [List.length_cons]; omega) (by rw [List.length_drop]; simp only [List.length_cons]; omega) hh
            rw [this, List.length_drop]
            simp only [List.length_cons]
            rw [show k + w + (r.length + 1 - w) + 1 = k + (r.length + 1) + 1 by omega]
theorem badL_app (a b : List UInt8) : badL (a ++ 10 :: b) = match badL a with | some i => some i | none => (badL b).map (· + (a.length + 1)) := by
  unfold badL
  rw [bad_app b a.length a 0 (a.length + 1) _ (b.length + 1) (Nat.le_refl _) (by omega) (by simp; omega) (by omega), ← bad_move, show 0 + a.length + 1 = 0 + (a.length + 1) by omega]

theorem scan_bad (l : List UInt8) (h : l.length ≤ 60000) (i : Nat) (hb : badL l = some i) : scanL l = ([], 100, i) := by
  unfold scanL; rw [if_neg (by omega), hb]
theorem scan_tok (l : List UInt8) (h : l.length ≤ 60000) (hb : badL l = none) : scanL l = tok (skipL false l) (l.drop (skipL false l)) := by
  unfold scanL; rw [if_neg (by omega), hb]
  have := skip_le l false
  exact toks_fuel _ _ _ _ (by rw [List.length_drop]; omega) (by omega)

/-- The two sources, and both. -/
theorem scan_behind (a b : List UInt8) (ha : a.length ≤ 2000) (hb : b.length ≤ 2000) :
    ((scanL a).2.1 = 100 → (scanL (a ++ 10 :: b)).2 = (scanL a).2) ∧
    ((scanL a).2.1 ≠ 100 → (scanL b).2.1 = 100 → (scanL (a ++ 10 :: b)).2.1 = 100 ∧ (scanL (a ++ 10 :: b)).2.2 = (scanL b).2.2 + (a.length + 1)) ∧
    ((scanL a).2.1 ≠ 100 → (scanL b).2.1 ≠ 100 →
      ((scanL a).2.1 ≠ 0 → (scanL (a ++ 10 :: b)).2 = (scanL a).2) ∧
      ((scanL a).2.1 = 0 → (scanL a).1 ≠ [] ∧
        ((scanL b).2.1 ≠ 0 → (scanL (a ++ 10 :: b)).2.1 = (scanL b).2.1 ∧ (scanL (a ++ 10 :: b)).2.2 = (scanL b).2.2 + (a.length + 1)) ∧
        ((scanL b).2.1 = 0 → (scanL (a ++ 10 :: b)).2.1 = 0 ∧ (scanL (a ++ 10 :: b)).1 = (scanL a).1.dropLast ++ moveT (a.length + 1) (scanL b).1))) := by
  have hl : (a ++ 10 :: b).length ≤ 60000 := by simp; omega
  have happ := badL_app a b
  cases hba : badL a with
  | some i =>
    rw [hba] at happ
    rw [scan_bad a (by omega) i hba, scan_bad _ hl i happ]
    exact ⟨fun _ => rfl, fun h => absurd rfl h, fun h => absurd rfl h⟩
  | none =>
    rw [hba] at happ
    have hsa := scan_tok a (by omega) hba
    have hca : (scanL a).2.1 ≠ 100 := by rw [hsa]; exact toks_codes _ _ _
    refine ⟨fun h => absurd h hca, fun _ => ?_, fun _ => ?_⟩
    · intro hcb
      cases hbb : badL b with
      | none => exact absurd hcb (by rw [scan_tok b (by omega) hbb]; exact toks_codes _ _ _)
      | some j =>
        rw [hbb] at happ
        rw [scan_bad b (by omega) j hbb, scan_bad _ hl _ happ]
        exact ⟨rfl, rfl⟩
    · intro hcb
      cases hbb : badL b with
      | some j => exact absurd (by rw [scan_bad b (by omega) j hbb]) hcb
      | none =>
        rw [hbb] at happ
        have hsb := scan_tok b (by omega) hbb
        have hsc := scan_tok _ hl happ
        have hsk := skip_app b a false
        have hla := skip_le a false
        have hcomb : scanL (a ++ 10 :: b) = comb b (skipL false a) (a.drop (skipL false a)) := by
          rw [hsc, hsk]
          unfold comb
          by_cases e : skipL false a = a.length
          · rw [if_pos e, e, List.drop_length, if_pos rfl, show a.length + 1 + skipL false b = a.length + (skipL false b + 1) by omega, ← List.drop_drop, List.drop_left, List.drop_succ_cons]
          · rw [if_neg e]
            have hne : a.drop (skipL false a) ≠ [] := by
              intro h0
              have := congrArg List.length h0
              rw [List.length_drop, List.length_nil] at this
              omega
            rw [if_neg hne, List.drop_append_of_le_length hla]
        have hlast := tok_last b _ (a.drop (skipL false a)) (skipL false a) (Nat.le_refl _)
        rw [← hcomb, ← hsa] at hlast
        have hmv := tok_move (a.length + 1) _ (b.drop (skipL false b)) (skipL false b) (Nat.le_refl _)
        rw [← hsb, show skipL false b + (a.length + 1) = skipL false a + (a.drop (skipL false a)).length + 1 + skipL false b by rw [List.length_drop]; omega] at hmv
        rw [hmv] at hlast
        refine ⟨fun h => by rw [hlast.1 h], fun h => ?_⟩
        obtain ⟨hne, J⟩ := hlast.2 h
        refine ⟨hne, fun h2 => ?_, fun h2 => ?_⟩
        · obtain ⟨x1, x2⟩ := joined_err J h2
          rw [x2]
          exact ⟨rfl, by simp only; rw [if_neg h2]⟩
        · obtain ⟨x1, x2⟩ := joined_zero J h2
          exact ⟨by rw [x2]; exact h2, x1⟩

end Go.Proofs.YtiiddmioafhmoaaDoor
