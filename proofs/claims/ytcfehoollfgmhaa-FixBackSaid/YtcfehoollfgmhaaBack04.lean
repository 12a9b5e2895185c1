/- Plain: applying the operators in the document's order, each to what stands beside it. -/
import Derived.Test.YtcfehoollfgmhaaFixdef
namespace Go.Proofs.Ytcfehoollfgmhaa
set_option linter.unusedVariables false

def upd (h : Nat → Int) (a : Nat) (v : Int) : Nat → Int := fun k => if k = a then v else h k
def fill (h : Nat → Int) (a en : Nat) : Nat → Int := fun k => if k = a then (en : Int) else if a < k ∧ k ≤ en then (a : Int) else h k
/-- What one step finds: the operand on the left begins at a, the one on the right ends at en. -/
def Rnd (f : Nat → Nat) (n : Nat) (tp ls : Nat → Int) (i a en : Nat) : Prop :=
  i < n ∧ a ≤ i ∧ (a < i → ls i = (a : Int)) ∧ ls a = (i : Int) ∧
  (tp a = -1 ∨ ∃ r : Nat, r < n ∧ r ≠ i ∧ tp a = (r : Int) ∧ Pops (f r) (f i)) ∧
  (tp (i + 1) = -1 ∨ ∃ r : Nat, r < n ∧ tp (i + 1) = (r : Int) ∧ Stays (f i) (f r)) ∧
  ls (i + 1) = (en : Int) ∧ i + 1 ≤ en ∧ en ≤ n
def Steps (f : Nat → Nat) (n : Nat) : (Nat → Int) → (Nat → Int) → List Nat → (Nat → Int) → (Nat → Int) → Prop
  | tp, ls, [], tp', ls' => tp' = tp ∧ ls' = ls
  | tp, ls, i :: l, tp', ls' => ∃ a en, Rnd f n tp ls i a en ∧ Steps f n (upd tp a i) (fill ls a en) l tp' ls'
theorem steps_app {f : Nat → Nat} {n : Nat} (l1 : List Nat) : ∀ {tp ls tp1 ls1 : Nat → Int} {l2 : List Nat} {tp2 ls2 : Nat → Int}, Steps f n tp ls l1 tp1 ls1 → Steps f n tp1 ls1 l2 tp2 ls2 → Steps f n tp ls (l1 ++ l2) tp2 ls2 := by
  induction l1 with
  | nil =>
    intro tp ls tp1 ls1 l2 tp2 ls2 h1 h2
    obtain ⟨rfl, rfl⟩ := h1
    exact h2
  | cons i l ih =>
    intro tp ls tp1 ls1 l2 tp2 ls2 h1 h2
    obtain ⟨a, en, hr, hs⟩ := h1
    exact ⟨a, en, hr, ih hs h2⟩

theorem steps_ord {f : Nat → Nat} {n : Nat} (hn : NoC f n) (m : Nat) : ∀ (fr to : Nat), to - fr = m → fr ≤ to → to ≤ n → ∀ (tp ls : Nat → Int), (∀ k, fr ≤ k → k ≤ to → tp k = -1 ∧ ls k = (k : Int)) →
    ∃ tp' ls', Steps f n tp ls (ordL f fr to) tp' ls' ∧ (fr = to → tp' fr = -1) ∧ (fr < to → tp' fr = (pick f fr to : Nat)) ∧ ls' fr = (to : Int) ∧ (∀ k, fr < k → k ≤ to → ls' k = (fr : Int)) ∧ ∀ k, (k < fr ∨ to < k) → tp' k = tp k ∧ ls' k = ls k := by
  induction m using Nat.strongRecOn with
  | ind m ih =>
    intro fr to hm hft htn tp ls h0
    by_cases hlt : fr < to
    · obtain ⟨s, hs⟩ : ∃ s, pick f fr to = s := ⟨_, rfl⟩
      have hr := root_pick f hlt
      rw [hs] at hr
      obtain ⟨r1, r2, r3, r4⟩ := hr
      have hr : IsRoot f fr to s := ⟨r1, r2, r3, r4⟩
      obtain ⟨tp1, ls1, s1, a1, b1, c1, d1, e1⟩ := ih (s - fr) (by omega) fr s rfl r1 (by omega) tp ls (fun k h1 h2 => h0 k h1 (by omega))
      obtain ⟨tp2, ls2, s2, a2, b2, c2, d2, e2⟩ := ih (to - (s + 1)) (by omega) (s + 1) to rfl (by omega) htn tp1 ls1 (fun k h1 h2 => by
        have := e1 k (.inr (by omega))
        rw [this.1, this.2]
        exact h0 k (by omega) h2)
      have hrnd : Rnd f n tp2 ls2 s fr to := by
        refine ⟨by omega, r1, fun h => ?_, ?_, ?_, ?_, c2, by omega, htn⟩
        · rw [(e2 s (.inl (by omega))).2]
          exact d1 s h (Nat.le_refl _)
        · rw [(e2 fr (.inl (by omega))).2]; exact c1
        · rw [(e2 fr (.inl (by omega))).1]
          rcases Nat.eq_or_lt_of_le r1 with h | h
          · exact .inl (a1 h)
          · have hp := root_pick f h
            exact .inr ⟨_, by have := hp.2.1; omega, by have := hp.2.1; omega, b1 h, r3 _ hp.1 hp.2.1⟩
        · rcases Nat.eq_or_lt_of_le (show s + 1 ≤ to by omega) with h | h
          · exact .inl (a2 h)
          · have hp := root_pick f h
            obtain ⟨p1, p2, p3, p4⟩ := hp
            refine .inr ⟨_, by omega, b2 h, ?_⟩
            have h5 := r4 _ (by omega) p2
            by_cases hst : Stays (f s) (f (pick f (s + 1) to))
            · exact hst
            · exfalso
              have h6 : f s = 4 ∧ f (pick f (s + 1) to) = 4 := by unfold Pops at h5; unfold Stays at hst; omega
              refine hn (pick f (s + 1) to) (by omega) ⟨h6.2, s, by omega, h6.1, fun j h7 h8 => ?_⟩
              have := p3 j (by omega) h8
              unfold Pops at this; omega
      refine ⟨upd tp2 fr s, fill ls2 fr to, ?_, fun h => by omega, fun _ => ?_, ?_, fun k h1 h2 => ?_, fun k h1 => ?_⟩
      · rw [ord_root hr]
        exact steps_app _ (steps_app _ s1 s2) ⟨fr, to, hrnd, rfl, rfl⟩
      · rw [hs]; simp [upd]
      · simp [fill]
      · unfold fill; rw [if_neg (by omega), if_pos ⟨h1, h2⟩]
      · have k1 := e1 k (by omega)
        have k2 := e2 k (by omega)
        unfold upd fill
        rw [if_neg (by omega), if_neg (by omega), if_neg (by omega), k2.1, k2.2]
        exact k1
    · obtain rfl : fr = to := by omega
      refine ⟨tp, ls, ?_, fun _ => (h0 fr (Nat.le_refl _) (Nat.le_refl _)).1, fun h => by omega, (h0 fr (Nat.le_refl _) (Nat.le_refl _)).2, fun k h1 h2 => by omega, fun k _ => ⟨rfl, rfl⟩⟩
      rw [ord_nil f (Nat.le_refl _)]
      exact ⟨rfl, rfl⟩

/-- All of them, from operands that no operator has made. -/
theorem steps_all {f : Nat → Nat} {n : Nat} (hn : NoC f n) : ∃ tp' ls', Steps f n (fun _ => -1) (fun k => (k : Int)) (ordL f 0 n) tp' ls' ∧ ls' 0 = (n : Int) := by
  obtain ⟨tp', ls', h1, _, _, h2, _⟩ := steps_ord hn n 0 n (by omega) (Nat.zero_le _) (Nat.le_refl _) (fun _ => -1) (fun k => (k : Int)) (fun k _ _ => ⟨rfl, rfl⟩)
  exact ⟨tp', ls', h1, h2⟩

/-- The last operand's mark while it is laid cell by cell. -/
def fillTo (h : Nat → Int) (a en k : Nat) : Nat → Int := fun x => if x = a then (en : Int) else if a < x ∧ x < k then (a : Int) else h x
theorem fillTo_start (h : Nat → Int) (a en : Nat) : upd h a en = fillTo h a en (a + 1) := by
  funext x
  unfold upd fillTo
  by_cases hx : x = a
  · rw [if_pos hx, if_pos hx]
  · rw [if_neg hx, if_neg hx, if_neg (by omega)]
theorem fillTo_step (h : Nat → Int) (a en k : Nat) (hk : a < k) : upd (fillTo h a en k) k a = fillTo h a en (k + 1) := by
  funext x
  unfold upd fillTo
  by_cases hx : x = k
  · rw [if_pos hx, if_neg (by omega), if_pos (by omega)]
  · rw [if_neg hx]
    by_cases h1 : x = a
    · rw [if_pos h1, if_pos h1]
    · rw [if_neg h1, if_neg h1]
      by_cases h2 : a < x ∧ x < k
      · rw [if_pos h2, if_pos (by omega)]
      · rw [if_neg h2, if_neg (by omega)]
theorem fillTo_end (h : Nat → Int) (a en : Nat) : fillTo h a en (en + 1) = fill h a en := by
  funext x
  unfold fillTo fill
  by_cases h1 : x = a
  · rw [if_pos h1, if_pos h1]
  · rw [if_neg h1, if_neg h1]
    by_cases h2 : a < x ∧ x ≤ en
    · rw [if_pos h2, if_pos (by omega)]
    · rw [if_neg h2, if_neg (by omega)]

end Go.Proofs.Ytcfehoollfgmhaa
