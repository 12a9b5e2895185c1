/- Operators: levels, sides, the order in which they are applied, clashes; the stack that finds that order. Plain. -/
import Derived.Lib.Hide
namespace Go.Proofs.YtiiddmioafhmoaaDoor
set_option linter.unusedVariables false

abbrev opsS : List (List (List UInt8)) := [[[58, 61]], [[124, 124]], [[38, 38]], [[61, 61], [47, 61], [60], [60, 61], [62], [62, 61]], [[58, 58], [94]], [[43], [45]], [[42], [47], [37]]]
/-- The level of an operator. -/
def lvL (s : List UInt8) : Nat := 1 + opsS.findIdx (·.contains s)
/-- The side of a level. -/
def sdN (n : Nat) : Nat := if n = 4 then 0 else if n < 6 then 2 else 1
/-- Must an operand of level b stand in brackets under level a? -/
def ndB (a b : Nat) (r : Bool) : Bool := decide (b < a) || (b == a && sdN a != (if r then 2 else 1))

theorem lv_at (s : List UInt8) (i : Nat) (h : i < opsS.length) (hb : ∀ j (hj : j < i), (opsS[j]'(by omega)).contains s = false) (hc : opsS[i].contains s = true) : lvL s = i + 1 := by
  have : opsS.findIdx (·.contains s) = i := by
    rw [List.findIdx_eq h]
    exact ⟨hc, hb⟩
  unfold lvL; rw [this]; omega
theorem lv_out (s : List UInt8) (hb : ∀ j (hj : j < opsS.length), (opsS[j]).contains s = false) : lvL s = 8 := by
  have : opsS.findIdx (·.contains s) = opsS.length := by
    rw [List.findIdx_eq_length]
    intro x hx
    obtain ⟨j, hj, rfl⟩ := List.getElem_of_mem hx
    exact hb j hj
  unfold lvL; rw [this]; rfl
theorem lv_ge (s : List UInt8) : 1 ≤ lvL s := by unfold lvL; omega
theorem lv_le (s : List UInt8) : lvL s ≤ 8 := by
  have := List.findIdx_le_length (p := (·.contains s)) (xs := opsS)
  have e : opsS.length = 7 := rfl
  unfold lvL; omega

/-- An operator of level t, waiting, is applied when one of level c comes. -/
def Pops (t c : Nat) : Prop := c < t ∨ (t = c ∧ 6 ≤ c)
/-- An operator of level c stands in the right operand of one of level t. -/
def Stays (t c : Nat) : Prop := t < c ∨ (t = c ∧ c < 6 ∧ c ≠ 4)
instance (t c : Nat) : Decidable (Pops t c) := by unfold Pops; infer_instance
instance (t c : Nat) : Decidable (Stays t c) := by unfold Stays; infer_instance
theorem pops_iff (t c : Nat) : ndB c t false = false ↔ Pops t c := by
  unfold ndB Pops sdN
  by_cases h4 : c = 4
  · subst h4; simp; omega
  · by_cases h6 : c < 6 <;> simp [h4, h6] <;> omega
theorem stays_iff (t c : Nat) : ndB t c true = false ↔ Stays t c := by
  unfold ndB Stays sdN
  by_cases h4 : t = 4
  · subst h4; simp; omega
  · by_cases h6 : t < 6 <;> simp [h4, h6] <;> omega

/-- The operator that is applied last among those from fr on, below i. -/
def pickF (f : Nat → Nat) : Nat → Nat → Nat → Nat
  | 0, a, _ => a
  | k + 1, a, i => pickF f k (if Pops (f a) (f i) then i else a) (i + 1)
def IsRoot (f : Nat → Nat) (fr to m : Nat) : Prop := fr ≤ m ∧ m < to ∧ (∀ j, fr ≤ j → j < m → Pops (f j) (f m)) ∧ ∀ j, m < j → j < to → ¬ Pops (f m) (f j)
theorem root_step {f : Nat → Nat} {fr i a : Nat} (h : IsRoot f fr i a) : IsRoot f fr (i + 1) (if Pops (f a) (f i) then i else a) := by
  obtain ⟨h1, h2, h3, h4⟩ := h
  by_cases hp : Pops (f a) (f i)
  · rw [if_pos hp]
    refine ⟨by omega, by omega, fun j hj hi => ?_, fun j hj hi => by omega⟩
    rcases Nat.lt_trichotomy j a with hja | rfl | hja
    · have := h3 j hj hja
      unfold Pops at *; omega
    · exact hp
    · have := h4 j hja hi
      unfold Pops at *; omega
  · rw [if_neg hp]
    refine ⟨h1, by omega, h3, fun j hj hi => ?_⟩
    rcases Nat.lt_or_ge j i with hl | hg
    · exact h4 j hj hl
    · have : j = i := by omega
      subst this; exact hp
theorem root_pickF {f : Nat → Nat} {fr : Nat} (k : Nat) : ∀ {a i : Nat}, IsRoot f fr i a → IsRoot f fr (i + k) (pickF f k a i) := by
  induction k with
  | zero => intro a i h; exact h
  | succ k ih =>
    intro a i h
    have := ih (root_step h)
    rw [show i + (k + 1) = i + 1 + k by omega]
    exact this
def pick (f : Nat → Nat) (fr to : Nat) : Nat := pickF f (to - fr - 1) fr (fr + 1)
theorem root_pick (f : Nat → Nat) {fr to : Nat} (h : fr < to) : IsRoot f fr to (pick f fr to) := by
  have : IsRoot f fr (fr + 1) fr := ⟨by omega, by omega, fun j h1 h2 => by omega, fun j h1 h2 => by omega⟩
  have := root_pickF (to - fr - 1) this
  rw [show fr + 1 + (to - fr - 1) = to by omega] at this
  exact this
theorem root_one {f : Nat → Nat} {fr to a b : Nat} (ha : IsRoot f fr to a) (hb : IsRoot f fr to b) : a = b := by
  obtain ⟨a1, a2, a3, a4⟩ := ha
  obtain ⟨b1, b2, b3, b4⟩ := hb
  rcases Nat.lt_trichotomy a b with h | h | h
  · exact absurd (b3 a a1 h) (a4 b h b2)
  · exact h
  · exact absurd (a3 b b1 h) (b4 a h a2)

/-- The order in which the operators from fr on, below to, are applied. -/
def ordL (f : Nat → Nat) (fr to : Nat) : List Nat :=
  if h : fr < to then
    have h1 := root_pick f h
    ordL f fr (pick f fr to) ++ ordL f (pick f fr to + 1) to ++ [pick f fr to]
  else []
termination_by to - fr
decreasing_by
  · have := h1.1; have := h1.2.1; omega
  · have := h1.1; have := h1.2.1; omega
theorem ord_nil (f : Nat → Nat) {fr to : Nat} (h : to ≤ fr) : ordL f fr to = [] := by
  rw [ordL, dif_neg (by omega)]
theorem ord_root {f : Nat → Nat} {fr to m : Nat} (h : IsRoot f fr to m) : ordL f fr to = ordL f fr m ++ ordL f (m + 1) to ++ [m] := by
  have hlt : fr < to := by have := h.1; have := h.2.1; omega
  have e : pick f fr to = m := root_one (root_pick f hlt) h
  subst e
  rw [ordL, dif_pos hlt]
theorem ord_len (f : Nat → Nat) (n : Nat) : ∀ fr to, to - fr = n → (ordL f fr to).length = n := by
  induction n using Nat.strongRecOn with
  | ind n ih =>
    intro fr to h
    by_cases hlt : fr < to
    · have hr := root_pick f hlt
      have h1 := hr.1; have h2 := hr.2.1
      rw [ord_root hr, List.length_append, List.length_append, ih _ (by omega) fr _ rfl, ih _ (by omega) _ to rfl]
      simp only [List.length_cons, List.length_nil]
      omega
    · rw [ord_nil f (by omega)]; simp; omega
theorem ord_mem (f : Nat → Nat) (n : Nat) : ∀ fr to, to - fr = n → ∀ x ∈ ordL f fr to, fr ≤ x ∧ x < to := by
  induction n using Nat.strongRecOn with
  | ind n ih =>
    intro fr to h x hx
    by_cases hlt : fr < to
    · have hr := root_pick f hlt
      have h1 := hr.1; have h2 := hr.2.1
      rw [ord_root hr, List.mem_append, List.mem_append] at hx
      rcases hx with (hx | hx) | hx
      · have := ih _ (by omega) fr _ rfl x hx; omega
      · have := ih _ (by omega) _ to rfl x hx; omega
      · simp at hx; omega
    · rw [ord_nil f (by omega)] at hx; simp at hx

/-- A clash. -/
def ClashAt (f : Nat → Nat) (k : Nat) : Prop := f k = 4 ∧ ∃ s, s < k ∧ f s = 4 ∧ ∀ m, s < m → m < k → 4 < f m
def NoC (f : Nat → Nat) (n : Nat) : Prop := ∀ j, j < n → ¬ ClashAt f j
theorem noc_zero (f : Nat → Nat) : NoC f 0 := fun j h => by omega
theorem noc_succ {f : Nat → Nat} {n : Nat} (h : NoC f n) (h1 : ¬ ClashAt f n) : NoC f (n + 1) := fun j hj => by
  rcases Nat.lt_or_ge j n with hl | hg
  · exact h j hl
  · have : j = n := by omega
    subst this; exact h1
/-- Either there is a first clash, or none. -/
theorem clash_or (f : Nat → Nat) (n : Nat) : (∃ k, k < n ∧ ClashAt f k ∧ NoC f k) ∨ NoC f n := by
  induction n with
  | zero => exact .inr (noc_zero f)
  | succ n ih =>
    rcases ih with ⟨k, h1, h2, h3⟩ | h
    · exact .inl ⟨k, by omega, h2, h3⟩
    · by_cases hc : ClashAt f n
      · exact .inl ⟨n, by omega, hc, h⟩
      · exact .inr (noc_succ h hc)

/-- Where the gap above a stack begins. -/
def lo : List Nat → Nat
  | [] => 0
  | s :: _ => s + 1
theorem lo_nil : lo [] = 0 := rfl
theorem lo_cons (s : Nat) (st : List Nat) : lo (s :: st) = s + 1 := rfl
/-- What a stack (its top first) of waiting operators keeps, those below i having been met. -/
def Inv (f : Nat → Nat) : List Nat → Nat → Prop
  | [], _ => True
  | s :: st, i => s < i ∧ lo st ≤ s ∧ Inv f st (s + 1) ∧ (∀ m, lo st ≤ m → m < s → Pops (f m) (f s)) ∧ ∀ m, s < m → m < i → Stays (f s) (f m)
/-- What has been applied. -/
def gaps (f : Nat → Nat) : List Nat → Nat → List Nat
  | [], i => ordL f 0 i
  | s :: st, i => gaps f st s ++ ordL f (s + 1) i
theorem gaps_lo (f : Nat → Nat) (st : List Nat) (i j : Nat) (h : lo st ≤ i) : ∃ o, gaps f st i = o ++ ordL f (lo st) i ∧ gaps f st j = o ++ ordL f (lo st) j := by
  cases st with
  | nil => exact ⟨[], rfl, rfl⟩
  | cons s st => exact ⟨gaps f st s, rfl, rfl⟩
theorem inv_root {f : Nat → Nat} {s : Nat} {st : List Nat} {i : Nat} (h : Inv f (s :: st) i) : IsRoot f (lo st) i s := by
  obtain ⟨h1, h2, h3, h4, h5⟩ := h
  refine ⟨h2, h1, h4, fun j hj hi => ?_⟩
  have := h5 j hj hi
  unfold Stays at this
  unfold Pops
  omega
theorem inv_pop {f : Nat → Nat} {s : Nat} {st : List Nat} {i : Nat} (h : Inv f (s :: st) i) : Inv f st i := by
  obtain ⟨h1, h2, h3, h4, h5⟩ := h
  cases st with
  | nil => trivial
  | cons t st =>
    obtain ⟨k1, k2, k3, k4, k5⟩ := h3
    refine ⟨by omega, k2, k3, k4, fun m hm hi => ?_⟩
    rcases Nat.lt_or_ge m (s + 1) with hl | hg
    · exact k5 m hm hl
    · have e1 := k5 s (by rw [lo_cons] at h2; omega) (by omega)
      have e2 := h5 m (by omega) hi
      unfold Stays at *; omega
theorem gap_pop {f : Nat → Nat} {s : Nat} {st : List Nat} {i : Nat} (h : Inv f (s :: st) i) : gaps f st i = gaps f (s :: st) i ++ [s] := by
  have hr := inv_root h
  obtain ⟨o, e1, e2⟩ := gaps_lo f st s i h.2.1
  show _ = (gaps f st s ++ ordL f (s + 1) i) ++ [s]
  rw [e1, e2, ord_root hr]
  simp
/-- What the loop over the waiting ones keeps of the operator that came. -/
def Over (f : Nat → Nat) (st : List Nat) (i : Nat) : Prop := ∀ m, lo st ≤ m → m < i → Pops (f m) (f i)
theorem over_start {f : Nat → Nat} {st : List Nat} {i : Nat} (h : lo st = i) : Over f st i := fun m h1 h2 => by omega
theorem over_pop {f : Nat → Nat} {s : Nat} {st : List Nat} {i : Nat} (h : Inv f (s :: st) i) (ho : Over f (s :: st) i) (hp : Pops (f s) (f i)) : Over f st i := by
  intro m h1 h2
  rcases Nat.lt_trichotomy m s with hl | rfl | hg
  · have := h.2.2.2.1 m h1 hl
    unfold Pops at *; omega
  · exact hp
  · exact ho m (by rw [lo_cons]; omega) h2
theorem push_nil {f : Nat → Nat} {i : Nat} (ho : Over f [] i) : Inv f [i] (i + 1) ∧ gaps f [i] (i + 1) = gaps f [] i ∧ ¬ ClashAt f i := by
  refine ⟨⟨by omega, by rw [lo_nil]; omega, trivial, ho, fun m h1 h2 => by omega⟩, ?_, ?_⟩
  · show ordL f 0 i ++ ordL f (i + 1) (i + 1) = ordL f 0 i
    rw [ord_nil f (Nat.le_refl (i + 1))]; simp
  · rintro ⟨h4, s, hs, hf, hm⟩
    have := ho s (by rw [lo_nil]; omega) hs
    unfold Pops at this; omega
theorem push_cons {f : Nat → Nat} {s : Nat} {st : List Nat} {i : Nat} (h : Inv f (s :: st) i) (ho : Over f (s :: st) i) (hs : Stays (f s) (f i)) :
    Inv f (i :: s :: st) (i + 1) ∧ gaps f (i :: s :: st) (i + 1) = gaps f (s :: st) i ∧ ¬ ClashAt f i := by
  obtain ⟨h1, h2, h3, h4, h5⟩ := h
  refine ⟨⟨by omega, by rw [lo_cons]; omega, ⟨by omega, h2, h3, h4, fun m k1 k2 => ?_⟩, ho, fun m k1 k2 => by omega⟩, ?_, ?_⟩
  · rcases Nat.lt_or_ge m i with hl | hg
    · exact h5 m k1 hl
    · have : m = i := by omega
      subst this; exact hs
  · show gaps f (s :: st) i ++ ordL f (i + 1) (i + 1) = _
    rw [ord_nil f (Nat.le_refl (i + 1))]; simp
  · rintro ⟨k4, t, ht, hf, hm⟩
    rcases Nat.lt_trichotomy t s with hl | rfl | hg
    · have := hm s hl h1
      unfold Stays at hs; omega
    · unfold Stays at hs; omega
    · have := ho t (by rw [lo_cons]; omega) ht
      unfold Pops at this; omega
theorem clash_here {f : Nat → Nat} {s : Nat} {st : List Nat} {i : Nat} (h : Inv f (s :: st) i) (ho : Over f (s :: st) i) (hp : ¬ Pops (f s) (f i)) (hs : ¬ Stays (f s) (f i)) : ClashAt f i := by
  have h4 : f i = 4 ∧ f s = 4 := by unfold Pops at hp; unfold Stays at hs; omega
  refine ⟨h4.1, s, h.1, h4.2, fun m h1 h2 => ?_⟩
  have := ho m (by rw [lo_cons]; omega) h2
  unfold Pops at this; omega

end Go.Proofs.YtiiddmioafhmoaaDoor
