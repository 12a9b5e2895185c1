/- Plain: how many bytes a token takes; the list of tokens, step by step. -/
import Derived.Test.YtlojlgchiemkjaaDoorLexg
namespace Go.Proofs.YtlojlgchiemkjaaDoor
open Go.RowKit
set_option linter.unusedVariables false

theorem span_one (p : UInt8 → Bool) (c : UInt8) (r : List UInt8) (h : p c = true) : 1 ≤ spanL p (c :: r) := by rw [span_cons_t p c r h]; omega
theorem name_in (c : UInt8) (h : nameS.contains c = true) : inNameS.contains c = true := by
  rw [List.contains_iff_mem] at h ⊢
  have : inNameS = nameS ++ (digitS ++ [39]) := rfl
  rw [this]; exact List.mem_append_left _ h
theorem textL_le : ∀ (n : Nat) (r : List UInt8), r.length ≤ n → ∀ x, textL r = some x → x.2 ≤ r.length := by
  intro n
  induction n with
  | zero => intro r h x hx; have hr : r = [] := List.length_eq_zero_iff.1 (by omega)
            rw [hr] at hx; cases hx
  | succ n ih =>
    intro r h x hx
    cases r with
    | nil => cases hx
    | cons c r =>
      rw [textL_cons] at hx
      simp only [List.length_cons] at h ⊢
      by_cases h1 : c = 34
      · rw [if_pos h1] at hx; injection hx with hx; subst hx; simp
      rw [if_neg h1] at hx
      by_cases h2 : c = 10
      · rw [if_pos h2] at hx; cases hx
      rw [if_neg h2] at hx
      by_cases h3 : c = 92
      · rw [if_pos h3] at hx
        cases r with
        | nil => cases hx
        | cons d r' =>
          simp only at hx
          cases hd : decodedL d with
          | none => rw [hd] at hx; cases hx
          | some b =>
            rw [hd] at hx
            obtain ⟨y, hy, rfl⟩ := Option.map_eq_some_iff.1 hx
            have := ih r' (by simp at h; omega) y hy
            simp; omega
      · rw [if_neg h3] at hx
        obtain ⟨y, hy, rfl⟩ := Option.map_eq_some_iff.1 hx
        have := ih r (by omega) y hy
        simp; omega
theorem wordL_code (r : List UInt8) (n : Nat) (h : (wordL r n).code = 0) : (wordL r n).width = n := by
  unfold wordL at h ⊢
  split at h
  · cases h
  · rw [if_neg (by assumption)]
theorem piece_width (c : UInt8) (r : List UInt8) (h : (pieceL (c :: r)).code = 0) : 1 ≤ (pieceL (c :: r)).width ∧ (pieceL (c :: r)).width ≤ r.length + 1 := by
  have hl : ∀ p, spanL p (c :: r) ≤ r.length + 1 := fun p => by simpa using span_le p (c :: r)
  cases h1 : digitS.contains c
  · by_cases h2 : c = 34
    · rw [piece_text c r h1 h2] at h ⊢
      unfold stringL at h ⊢
      cases ht : textL r with
      | none => rw [ht] at h; cases h
      | some x =>
        have := textL_le r.length r (Nat.le_refl _) x ht
        simp only; omega
    · cases h3 : nameS.contains c
      · cases h4 : opS.contains c
        · cases h5 : singleS.contains c
          · rw [piece_byte c r h1 h2 h3 h4 h5] at h; cases h
          · rw [piece_single c r h1 h2 h3 h4 h5] at h ⊢
            rw [wordL_code _ _ h]; omega
        · rw [piece_op c r h1 h2 h3 h4] at h ⊢
          rw [wordL_code _ _ h]; exact ⟨span_one _ c r h4, hl _⟩
      · rw [piece_name c r h1 h2 h3] at h ⊢
        rw [wordL_code _ _ h]; exact ⟨span_one _ c r (name_in c h3), hl _⟩
  · rw [piece_digit c r h1] at h ⊢
    unfold numberL at h ⊢
    split at h
    · rw [if_pos (by assumption)]; exact ⟨span_one _ c r h1, hl _⟩
    · cases h

theorem skip_le : ∀ (r : List UInt8) (b : Bool), skipL b r ≤ r.length := by
  intro r
  induction r with
  | nil => intro b; cases b <;> simp [skipL]
  | cons c r ih =>
    intro b
    cases b
    · rw [skipL]
      have h1 := ih false
      have h2 := ih true
      simp only [List.length_cons]
      split
      · omega
      · split <;> omega
    · rw [skipL]
      have := ih (c != 10)
      simp only [List.length_cons]; omega

theorem toksF_cons (f k : Nat) (c : UInt8) (r : List UInt8) : toksF (f + 1) k (c :: r) = if (pieceL (c :: r)).code = 0 then
      (if (toksF f (k + (pieceL (c :: r)).width + skipL false ((c :: r).drop (pieceL (c :: r)).width)) ((c :: r).drop ((pieceL (c :: r)).width + skipL false ((c :: r).drop (pieceL (c :: r)).width)))).2.1 = 0
       then (⟨(pieceL (c :: r)).kind, (pieceL (c :: r)).text, (pieceL (c :: r)).num, k⟩ :: (toksF f (k + (pieceL (c :: r)).width + skipL false ((c :: r).drop (pieceL (c :: r)).width)) ((c :: r).drop ((pieceL (c :: r)).width + skipL false ((c :: r).drop (pieceL (c :: r)).width)))).1, 0, 0)
       else ([], (toksF f (k + (pieceL (c :: r)).width + skipL false ((c :: r).drop (pieceL (c :: r)).width)) ((c :: r).drop ((pieceL (c :: r)).width + skipL false ((c :: r).drop (pieceL (c :: r)).width)))).2))
    else ([], (pieceL (c :: r)).code, k) := by
  rw [toksF]
theorem toks_zero (f k : Nat) (r : List UInt8) : ((toksF f k r).2.1 = 0 → (toksF f k r).2 = (0, 0)) ∧ ((toksF f k r).2.1 ≠ 0 → (toksF f k r).1 = []) := by
  cases f with
  | zero => simp [toksF]
  | succ f =>
    cases r with
    | nil => simp [toksF]
    | cons c r =>
      rw [toksF_cons]
      split
      · split
        · simp
        · exact ⟨fun h => absurd h (by assumption), fun _ => rfl⟩
      · exact ⟨fun h => absurd h (by assumption), fun _ => rfl⟩

/-- The tokens read so far, those to come, and all. -/
def Joined (acc : List Tk) (Y X : List Tk × Int × Nat) : Prop := X = (if Y.2.1 = 0 then acc ++ Y.1 else [], Y.2)
theorem joined_start (f k : Nat) (r : List UInt8) : Joined [] (toksF f k r) (toksF f k r) := by
  unfold Joined
  have h := toks_zero f k r
  split
  · simp
  · rw [← h.2 (by assumption)]
theorem joined_end {f k : Nat} {acc : List Tk} {X : List Tk × Int × Nat} (h : Joined acc (toksF (f + 1) k []) X) : X = (acc ++ [⟨0, [], 0, k⟩], 0, 0) := by
  unfold Joined at h; rw [h]; simp [toksF]
theorem joined_bad {f k : Nat} {c : UInt8} {r : List UInt8} {acc : List Tk} {X : List Tk × Int × Nat} (h : Joined acc (toksF (f + 1) k (c :: r)) X) (hc : (pieceL (c :: r)).code ≠ 0) : X = ([], (pieceL (c :: r)).code, k) := by
  unfold Joined at h; rw [h, toksF_cons, if_neg hc]; simp [hc]
theorem joined_step {f k : Nat} {c : UInt8} {r : List UInt8} {acc : List Tk} {X : List Tk × Int × Nat} (h : Joined acc (toksF (f + 1) k (c :: r)) X) (hc : (pieceL (c :: r)).code = 0) :
    Joined (acc ++ [⟨(pieceL (c :: r)).kind, (pieceL (c :: r)).text, (pieceL (c :: r)).num, k⟩]) (toksF f (k + (pieceL (c :: r)).width + skipL false ((c :: r).drop (pieceL (c :: r)).width)) ((c :: r).drop ((pieceL (c :: r)).width + skipL false ((c :: r).drop (pieceL (c :: r)).width)))) X := by
  unfold Joined at h ⊢
  rw [h, toksF_cons, if_pos hc]
  have hz := toks_zero f (k + (pieceL (c :: r)).width + skipL false ((c :: r).drop (pieceL (c :: r)).width)) ((c :: r).drop ((pieceL (c :: r)).width + skipL false ((c :: r).drop (pieceL (c :: r)).width)))
  generalize toksF f (k + (pieceL (c :: r)).width + skipL false ((c :: r).drop (pieceL (c :: r)).width)) ((c :: r).drop ((pieceL (c :: r)).width + skipL false ((c :: r).drop (pieceL (c :: r)).width))) = Y at *
  by_cases hy : Y.2.1 = 0
  · rw [if_pos hy, if_pos hy, hz.1 hy]; simp
  · rw [if_neg hy, if_neg hy]; simp [hy]

/-- A token's cells. -/
def tkCells (t : Tk) : List Value := [.int .i64 t.kind, .string ⟨t.text.toArray⟩, .int .i64 t.num, .int .i64 t.pos]
def tksCells (l : List Tk) : List Value := l.flatMap tkCells
theorem tks_len (l : List Tk) : (tksCells l).length = l.length * 4 := by
  induction l with
  | nil => rfl
  | cons t l ih =>
    have : tksCells (t :: l) = tkCells t ++ tksCells l := by simp [tksCells]
    rw [this, List.length_append, ih]; simp [tkCells]; omega
theorem tks_snoc (l : List Tk) (t : Tk) : tksCells l ++ tkCells t = tksCells (l ++ [t]) := by simp [tksCells]
theorem tks_get (l : List Tk) : ∀ (i : Nat) (h : i < l.length), (tksCells l)[i * 4]? = some (.int .i64 l[i].kind) ∧ (tksCells l)[i * 4 + 1]? = some (.string ⟨l[i].text.toArray⟩) ∧ (tksCells l)[i * 4 + 2]? = some (.int .i64 l[i].num) ∧ (tksCells l)[i * 4 + 3]? = some (.int .i64 l[i].pos) := by
  induction l with
  | nil => intro i h; simp at h
  | cons t l ih =>
    intro i h
    have e : tksCells (t :: l) = .int .i64 t.kind :: .string ⟨t.text.toArray⟩ :: .int .i64 t.num :: .int .i64 t.pos :: tksCells l := by simp [tksCells, tkCells]
    rw [e]
    cases i with
    | zero => simp
    | succ i =>
      have := ih i (by simpa using h)
      have e0 : (i + 1) * 4 = i * 4 + 4 := by omega
      rw [e0]
      simpa using this

end Go.Proofs.YtlojlgchiemkjaaDoor
