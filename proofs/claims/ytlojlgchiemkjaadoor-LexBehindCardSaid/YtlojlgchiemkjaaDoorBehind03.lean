/- Two sources: what the law's walk asks. -/
import Derived.Test.YtlojlgchiemkjaaDoorSame03
import Derived.Test.YtlojlgchiemkjaaDoorBack03
namespace Go.Proofs.YtlojlgchiemkjaaDoor
open Go.RowKit
set_option linter.unusedVariables false

theorem TkRow.drewN {w : World} {B : Nat} {A : Option Addr} {l : List Tk} (h : TkRow w B A l) (q : Nat) : TkRow (w.drewN q) B A l := h
theorem scan_as (s : ByteArray) (w : World) (hm : s.size ≤ maxLen) (l : List Tk) (c : Int) (p n : Nat) (h : scanL s.data.toList = (l, c, p)) (hn : l.length = n) :
    Calls Tryd.prog 16 #[.string s] w fun e w' => (∃ (A : Option Addr) (cap : Nat), e = .returned (.tuple #[.slice A n cap, .agg #[.int .i64 c, .int .i64 p]]) ∧ TkRow w' w'.heap.size A l ∧ n ≤ cap ∧ cap ≤ maxLen) ∧ Below w.heap.size w w' :=
  (scan_any s w hm).mono fun e w' ⟨hs, hb⟩ => by
    refine ⟨?_, hb⟩
    unfold ScanSays at hs
    rw [h] at hs
    obtain ⟨A, cap, he, hr, h1, h2⟩ := hs
    simp only at he hr h1
    rw [hn] at he h1
    exact ⟨A, cap, he, hr, h1, h2⟩
theorem row_add (g o k : Nat) : (some (⟨g, o, none⟩ : Addr)).map (·.add k) = some ⟨g, o + k, none⟩ := by
  show some ((⟨g, o, none⟩ : Addr).add k) = _
  unfold Addr.add
  by_cases h : k = 0
  · subst h; rfl
  · rw [if_neg h]
theorem two_list (a b : ByteArray) : (a ++ ⟨#[10]⟩ ++ b).data.toList = a.data.toList ++ 10 :: b.data.toList := by
  rw [ByteArray.data_append, ByteArray.data_append]; simp

theorem move_len (d : Nat) (l : List Tk) : (moveT d l).length = l.length := by simp [moveT]
theorem one_refl (l : List Tk) : OneL l l := ⟨rfl, fun i h h' => ⟨rfl, rfl, rfl⟩⟩
theorem one_move (d : Nat) (l : List Tk) : OneL (moveT d l) l := ⟨move_len d l, fun i h h' => by simp [moveT]⟩
theorem at_move (d : Nat) (l : List Tk) : AtL (moveT d l) l d := ⟨by rw [move_len]; exact Nat.le_refl _, fun i h h' => by simp [moveT]⟩
theorem at_take (l : List Tk) (m : Nat) : AtL (l.take m) l 0 := ⟨by rw [List.length_take]; omega, fun i h h' => by simp⟩
theorem take_both (la lb : List Tk) (m d : Nat) (hm : la.length = m + 1) : (la.dropLast ++ moveT d lb).take m = la.take m ∧ (la.dropLast ++ moveT d lb).drop m = moveT d lb := by
  have hl : la.dropLast.length = m := by rw [List.length_dropLast]; omega
  constructor
  · rw [List.take_append_of_le_length (by omega), List.take_of_length_le (by omega), List.dropLast_eq_take, hm]; rfl
  · rw [List.drop_append_of_le_length (by omega), List.drop_eq_nil_of_le (by omega), List.nil_append]

/-- Positions stay within the source. -/
theorem tok_pos : ∀ (n : Nat) (r : List UInt8) (k : Nat), r.length ≤ n → ∀ t ∈ (tok k r).1, t.pos ≤ k + r.length := by
  intro n
  induction n with
  | zero =>
    intro r k h t ht
    have hr : r = [] := List.length_eq_zero_iff.1 (by omega)
    subst hr
    rw [tok_nil] at ht; simp at ht; subst ht; simp
  | succ n ih =>
    intro r k h t ht
    cases r with
    | nil => rw [tok_nil] at ht; simp at ht; subst ht; simp
    | cons c r =>
      by_cases hc : (pieceL (c :: r)).code = 0
      · have hwd := piece_width c r hc
        obtain ⟨w, hw⟩ : ∃ w, (pieceL (c :: r)).width = w := ⟨_, rfl⟩
        rw [hw] at hwd
        obtain ⟨s, hs⟩ : ∃ s, skipL false ((c :: r).drop w) = s := ⟨_, rfl⟩
        have hsl : s ≤ (c :: r).length - w := by rw [← hs, ← List.length_drop]; exact skip_le _ _
        have J1 := tok_step k c r w hc hw s hs
        have hih := ih ((c :: r).drop (w + s)) (k + w + s) (by rw [List.length_drop]; simp only [List.length_cons] at h ⊢; omega)
        rw [List.length_drop] at hih
        simp only [List.length_cons] at hih hsl ⊢
        by_cases ha : (tok (k + w + s) ((c :: r).drop (w + s))).2.1 = 0
        · obtain ⟨x1, x2⟩ := joined_zero J1 ha
          rw [x1] at ht
          rcases List.mem_append.1 ht with h1 | h1
          · simp at h1; subst h1; simp
          · have := hih t h1; omega
        · obtain ⟨x1, x2⟩ := joined_err J1 ha
          rw [x1] at ht; cases ht
      · rw [tok_bad _ c r hc] at ht; cases ht
theorem scan_pos (l : List UInt8) (hl : l.length ≤ 60000) (i : Nat) (h : i < (scanL l).1.length) : (scanL l).1[i].pos ≤ 1099511627776 := by
  have hm := List.getElem_mem h
  cases hb : badL l with
  | some j => rw [scan_bad l hl j hb] at h; simp at h
  | none =>
    have hk := skip_le l false
    have e := scan_tok l hl hb
    have := tok_pos _ (l.drop (skipL false l)) (skipL false l) (Nat.le_refl _) _ (by rw [← e]; exact hm)
    rw [List.length_drop] at this
    omega
/-- A fault lies within the source. -/
theorem tok_end : ∀ (n : Nat) (r : List UInt8) (k : Nat), r.length ≤ n → (tok k r).2.2 ≤ k + r.length := by
  intro n
  induction n with
  | zero =>
    intro r k h
    have hr : r = [] := List.length_eq_zero_iff.1 (by omega)
    subst hr
    rw [tok_nil]; simp
  | succ n ih =>
    intro r k h
    cases r with
    | nil => rw [tok_nil]; simp
    | cons c r =>
      by_cases hc : (pieceL (c :: r)).code = 0
      · have hwd := piece_width c r hc
        obtain ⟨w, hw⟩ : ∃ w, (pieceL (c :: r)).width = w := ⟨_, rfl⟩
        rw [hw] at hwd
        obtain ⟨s, hs⟩ : ∃ s, skipL false ((c :: r).drop w) = s := ⟨_, rfl⟩
        have hsl : s ≤ (c :: r).length - w := by rw [← hs, ← List.length_drop]; exact skip_le _ _
        have J1 := tok_step k c r w hc hw s hs
        have hih := ih ((c :: r).drop (w + s)) (k + w + s) (by rw [List.length_drop]; simp only [List.length_cons] at h ⊢; omega)
        rw [List.length_drop] at hih
        simp only [List.length_cons] at hih hsl ⊢
        by_cases ha : (tok (k + w + s) ((c :: r).drop (w + s))).2.1 = 0
        · obtain ⟨x1, x2⟩ := joined_zero J1 ha
          rw [x2]; omega
        · obtain ⟨x1, x2⟩ := joined_err J1 ha
          rw [x2]; omega
      · rw [tok_bad _ c r hc]; simp
theorem bad_end : ∀ (f : Nat) (r : List UInt8) (k i : Nat), badF f k r = some i → i ≤ k + r.length := by
  intro f
  induction f with
  | zero => intro r k i h; cases h
  | succ f ih =>
    intro r k i h
    cases r with
    | nil => cases h
    | cons c r =>
      rw [bad_cons] at h
      by_cases hb : (decL (c :: r)).1 = 65533 ∧ Lib.hasPrefix (c :: r) [239, 191, 189] = false
      · rw [if_pos hb] at h; injection h with h; omega
      · rw [if_neg hb] at h
        have := ih _ _ _ h
        have hl := dec_le c r
        rw [List.length_drop] at this
        simp only [List.length_cons] at this ⊢; omega
theorem scan_end (l : List UInt8) (hl : l.length ≤ 60000) : (scanL l).2.2 ≤ l.length := by
  cases hb : badL l with
  | some j =>
    rw [scan_bad l hl j hb]
    have := bad_end _ _ _ _ hb
    simp only; omega
  | none =>
    have hk := skip_le l false
    rw [scan_tok l hl hb]
    have := tok_end _ (l.drop (skipL false l)) (skipL false l) (Nat.le_refl _)
    rw [List.length_drop] at this
    omega
/-- Tokens are no more than bytes. -/
theorem tok_count : ∀ (n : Nat) (r : List UInt8) (k : Nat), r.length ≤ n → (tok k r).1.length ≤ r.length + 1 := by
  intro n
  induction n with
  | zero =>
    intro r k h
    have hr : r = [] := List.length_eq_zero_iff.1 (by omega)
    subst hr
    rw [tok_nil]; simp
  | succ n ih =>
    intro r k h
    cases r with
    | nil => rw [tok_nil]; simp
    | cons c r =>
      by_cases hc : (pieceL (c :: r)).code = 0
      · have hwd := piece_width c r hc
        obtain ⟨w, hw⟩ : ∃ w, (pieceL (c :: r)).width = w := ⟨_, rfl⟩
        rw [hw] at hwd
        obtain ⟨s, hs⟩ : ∃ s, skipL false ((c :: r).drop w) = s := ⟨_, rfl⟩
        have hsl : s ≤ (c :: r).length - w := by rw [← hs, ← List.length_drop]; exact skip_le _ _
        have J1 := tok_step k c r w hc hw s hs
        have hih := ih ((c :: r).drop (w + s)) (k + w + s) (by rw [List.length_drop]; simp only [List.length_cons] at h ⊢; omega)
        rw [List.length_drop] at hih
        simp only [List.length_cons] at hih hsl ⊢
        by_cases ha : (tok (k + w + s) ((c :: r).drop (w + s))).2.1 = 0
        · obtain ⟨x1, x2⟩ := joined_zero J1 ha
          rw [x1, List.length_append, List.length_singleton]; omega
        · obtain ⟨x1, x2⟩ := joined_err J1 ha
          rw [x1]; simp
      · rw [tok_bad _ c r hc]; simp
theorem scan_count (l : List UInt8) (hl : l.length ≤ 60000) : (scanL l).1.length ≤ l.length + 1 := by
  cases hb : badL l with
  | some j => rw [scan_bad l hl j hb]; simp
  | none =>
    have e := scan_tok l hl hb
    have hk := skip_le l false
    have := tok_count _ (l.drop (skipL false l)) (skipL false l) (Nat.le_refl _)
    rw [← e, List.length_drop] at this
    omega

/-- The two sources and both: all that the law's walk asks. -/
theorem behind_sum (a0 a1 : ByteArray) (h1 : a0.size ≤ 2000) (h2 : a1.size ≤ 2000) :
    ∃ (la lb lz : List Tk) (dc ec fc : Int) (dp ep fp : Nat), scanL a0.data.toList = (la, dc, dp) ∧ scanL a1.data.toList = (lb, ec, ep) ∧ scanL (a0 ++ ⟨#[10]⟩ ++ a1).data.toList = (lz, fc, fp) ∧
      la.length ≤ 5000 ∧ lb.length ≤ 5000 ∧ lz.length ≤ 5000 ∧ dp ≤ 100000 ∧ ep ≤ 100000 ∧ (∀ (i : Nat) (h : i < la.length), la[i].pos ≤ 1099511627776) ∧ (∀ (i : Nat) (h : i < lb.length), lb[i].pos ≤ 1099511627776) ∧
      ((dc = 100 ∧ fc = dc ∧ fp = dp) ∨ (dc ≠ 100 ∧ ec = 100 ∧ fc = ec ∧ fp = ep + (a0.size + 1)) ∨ (dc ≠ 100 ∧ ec ≠ 100 ∧ dc ≠ 0 ∧ fc = dc ∧ fp = dp) ∨ (dc = 0 ∧ ec ≠ 100 ∧ ec ≠ 0 ∧ fc = ec ∧ fp = ep + (a0.size + 1)) ∨
        (dc = 0 ∧ ec = 0 ∧ fc = 0 ∧ ∃ m, la.length = m + 1 ∧ 0 < lb.length ∧ lz.length = m + lb.length ∧ lz.take m = la.take m ∧ lz.drop m = moveT (a0.size + 1) lb)) := by
  have l1 : a0.data.toList.length ≤ 2000 := by rw [data_len]; exact h1
  have l2 : a1.data.toList.length ≤ 2000 := by rw [data_len]; exact h2
  have l3 : (a0.data.toList ++ 10 :: a1.data.toList).length ≤ 4001 := by rw [List.length_append, List.length_cons]; omega
  have hsb := scan_behind a0.data.toList a1.data.toList l1 l2
  rw [← two_list] at hsb l3
  have cz := scan_count (a0 ++ ⟨#[10]⟩ ++ a1).data.toList (by omega)
  have ca := scan_count a0.data.toList (by omega)
  have cb := scan_count a1.data.toList (by omega)
  have pa := scan_pos a0.data.toList (by omega)
  have pb := scan_pos a1.data.toList (by omega)
  have ea := scan_end a0.data.toList (by omega)
  have eb := scan_end a1.data.toList (by omega)
  have hbne := (scan_behind a1.data.toList [] l2 (by simp)).2.2
  have hnil : (scanL []).2.1 ≠ 100 := by decide
  rw [data_len] at hsb
  generalize scanL a0.data.toList = X at *
  generalize scanL a1.data.toList = Y at *
  generalize scanL (a0 ++ ⟨#[10]⟩ ++ a1).data.toList = Z at *
  obtain ⟨la, dc, dp⟩ := X
  obtain ⟨lb, ec, ep⟩ := Y
  obtain ⟨lz, fc, fp⟩ := Z
  simp only at hsb cz ca cb pa pb ea eb hbne
  refine ⟨la, lb, lz, dc, ec, fc, dp, ep, fp, rfl, rfl, rfl, by omega, by omega, by omega, by omega, by omega, pa, pb, ?_⟩
  by_cases hdc : dc = 100
  · have := hsb.1 hdc
    simp only [Prod.mk.injEq] at this
    exact Or.inl ⟨hdc, this⟩
  by_cases hec : ec = 100
  · have := hsb.2.1 hdc hec
    exact Or.inr (Or.inl ⟨hdc, hec, by rw [this.1, hec], this.2⟩)
  have h3 := hsb.2.2 hdc hec
  by_cases hd0 : dc = 0
  · obtain ⟨hne, h4, h5⟩ := h3.2 hd0
    by_cases he0 : ec = 0
    · obtain ⟨hf, hlz⟩ := h5 he0
      have hbn := ((hbne hec hnil).2 he0).1
      have hm : la.length = (la.length - 1) + 1 := by
        have : la.length ≠ 0 := fun h => hne (List.length_eq_zero_iff.1 h)
        omega
      have htb := take_both la lb (la.length - 1) (a0.size + 1) hm
      rw [← hlz] at htb
      refine Or.inr (Or.inr (Or.inr (Or.inr ⟨hd0, he0, hf, la.length - 1, hm, ?_, ?_, htb.1, htb.2⟩)))
      · rcases Nat.eq_zero_or_pos lb.length with h | h
        · exact absurd (List.length_eq_zero_iff.1 h) hbn
        · exact h
      · rw [hlz, List.length_append, List.length_dropLast, move_len]
    · exact Or.inr (Or.inr (Or.inr (Or.inl ⟨hd0, hec, he0, h4 he0⟩)))
  · have := h3.1 hd0
    simp only [Prod.mk.injEq] at this
    exact Or.inr (Or.inr (Or.inl ⟨hdc, hec, hd0, this⟩))

end Go.Proofs.YtlojlgchiemkjaaDoor
