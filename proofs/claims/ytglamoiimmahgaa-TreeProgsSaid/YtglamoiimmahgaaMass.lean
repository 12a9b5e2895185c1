/- Plain: how much an expression holds, patterns too; its scopes (names that are bound in neighbouring parts). -/
import Derived.Test.YtglamoiimmahgaaNames
import Derived.Test.YtglamoiimmahgaaSize
namespace Go.Proofs.Ytglamoiimmahgaa
open Go.RowKit
set_option linter.unusedVariables false

def Al.pat : Al → Pt
  | .mk p _ => p
mutual
def Ex.mass : Ex → Nat
  | .mk _ _ _ _ ks als bs _ => 1 + exsMass ks + alsMass als + bdsMass bs
def exsMass : List Ex → Nat
  | [] => 0
  | t :: ts => Ex.mass t + exsMass ts
def Al.mass : Al → Nat
  | .mk p e => 1 + p.nodes + Ex.mass e
def alsMass : List Al → Nat
  | [] => 0
  | t :: ts => Al.mass t + alsMass ts
def Bd.mass : Bd → Nat
  | .mk _ e _ => 1 + Ex.mass e
def bdsMass : List Bd → Nat
  | [] => 0
  | t :: ts => Bd.mass t + bdsMass ts
end
/-- The scopes ahead of the alternatives. -/
def scHead (k : Int) (nm : ByteArray) (n : Int) (ks : List Ex) (bs : List Bd) : List (List ByteArray × List Ex) :=
  if k = 7 then (if n = 1 then [(bs.map Bd.name, bs.map Bd.exp ++ ks)] else [([], bs.map Bd.exp), (bs.map Bd.name, ks)]) else if k = 6 then [([nm], ks), ([], bs.map Bd.exp)] else [([], ks), ([], bs.map Bd.exp)]
/-- What binds what: the names, and the parts in which they are bound, in order. -/
def Ex.scL : Ex → List (List ByteArray × List Ex)
  | .mk k nm n _ ks als bs _ => scHead k nm n ks bs ++ als.map fun a => (ptNames a.pat, [a.exp])

theorem mass_pos (e : Ex) : 1 ≤ e.mass := by cases e; unfold Ex.mass; omega
theorem exs_len_mass (l : List Ex) : l.length ≤ exsMass l := by
  induction l with
  | nil => simp
  | cons a l ih => have := mass_pos a; simp only [List.length_cons, exsMass]; omega
theorem als_len_mass (l : List Al) : l.length ≤ alsMass l := by
  induction l with
  | nil => simp
  | cons a l ih => cases a; simp only [List.length_cons, alsMass, Al.mass]; omega
theorem bds_len_mass (l : List Bd) : l.length ≤ bdsMass l := by
  induction l with
  | nil => simp
  | cons a l ih => cases a; simp only [List.length_cons, bdsMass, Bd.mass]; omega
theorem exs_mem_mass : ∀ (l : List Ex) (x : Ex), x ∈ l → x.mass ≤ exsMass l
  | a :: l, x, h => by
    rw [List.mem_cons] at h
    rcases h with rfl | h
    · simp only [exsMass]; omega
    · have := exs_mem_mass l x h; simp only [exsMass]; omega
theorem als_mem_mass : ∀ (l : List Al) (a : Al), a ∈ l → 1 + a.pat.nodes + a.exp.mass ≤ alsMass l
  | b :: l, x, h => by
    rw [List.mem_cons] at h
    rcases h with rfl | h
    · cases x; simp only [alsMass, Al.mass, Al.pat, Al.exp]; omega
    · have := als_mem_mass l x h; simp only [alsMass]; omega
theorem bds_mem_mass : ∀ (l : List Bd) (a : Bd), a ∈ l → 1 + a.exp.mass ≤ bdsMass l
  | b :: l, x, h => by
    rw [List.mem_cons] at h
    rcases h with rfl | h
    · cases x; simp only [bdsMass, Bd.mass, Bd.exp]; omega
    · have := bds_mem_mass l x h; simp only [bdsMass]; omega
theorem exsMass_app : ∀ a b : List Ex, exsMass (a ++ b) = exsMass a + exsMass b
  | [], b => by simp [exsMass]
  | x :: a, b => by simp only [List.cons_append, exsMass, exsMass_app a b]; omega
theorem exsMass_bds : ∀ bs : List Bd, exsMass (bs.map Bd.exp) + bs.length = bdsMass bs
  | [] => rfl
  | .mk nm e q :: bs => by have := exsMass_bds bs; simp only [List.map_cons, exsMass, List.length_cons, bdsMass, Bd.mass, Bd.exp]; omega
theorem exsMass_als : ∀ als : List Al, exsMass (als.map Al.exp) ≤ alsMass als
  | [] => Nat.le_refl _
  | .mk p e :: bs => by have := exsMass_als bs; simp only [List.map_cons, exsMass, alsMass, Al.mass, Al.exp]; omega
theorem part_mass (e x : Ex) (h : x ∈ e.parts) : x.mass < e.mass := by
  cases e with
  | mk k nm n t ks als bs q =>
    unfold Ex.parts at h
    show x.mass < 1 + exsMass ks + alsMass als + bdsMass bs
    simp only [List.mem_append] at h
    have h2 : ∀ x ∈ bs.map Bd.exp, x.mass ≤ bdsMass bs := by
      intro x hx
      obtain ⟨b, hb, rfl⟩ := List.mem_map.1 hx
      have := bds_mem_mass bs b hb; omega
    have h3 : ∀ x ∈ als.map Al.exp, x.mass ≤ alsMass als := by
      intro x hx
      obtain ⟨b, hb, rfl⟩ := List.mem_map.1 hx
      have := als_mem_mass als b hb; omega
    rcases h with ((h | h) | h) | h
    · by_cases h7 : k = 7
      · simp [h7] at h
      · simp only [h7, if_false] at h; have := exs_mem_mass ks x h; omega
    · have := h2 x h; omega
    · by_cases h7 : k = 7
      · simp only [h7, if_true] at h; have := exs_mem_mass ks x h; omega
      · simp [h7] at h
    · have := h3 x h; omega
theorem nodes_le_mass (N : Nat) : ∀ e : Ex, e.nodes ≤ N → e.nodes ≤ e.mass := by
  induction N with
  | zero => intro e h; cases e; unfold Ex.nodes at h; omega
  | succ N ih =>
    have h1 : ∀ l : List Ex, exsNodes l ≤ N → exsNodes l ≤ exsMass l := by
      intro l; induction l with
      | nil => intro _; exact Nat.le_refl _
      | cons a l ihl => intro hl; unfold exsNodes at hl; have := ih a (by omega); have := ihl (by omega); unfold exsNodes exsMass; omega
    have h2 : ∀ l : List Bd, bdsNodes l ≤ N → bdsNodes l ≤ bdsMass l := by
      intro l; induction l with
      | nil => intro _; exact Nat.le_refl _
      | cons a l ihl => intro hl; cases a with
        | mk nm e q => unfold bdsNodes Bd.nodes at hl; have := ih e (by omega); have := ihl (by omega); unfold bdsNodes bdsMass Bd.nodes Bd.mass; omega
    have h3 : ∀ l : List Al, alsNodes l ≤ N → alsNodes l ≤ alsMass l := by
      intro l; induction l with
      | nil => intro _; exact Nat.le_refl _
      | cons a l ihl => intro hl; cases a with
        | mk p e => unfold alsNodes Al.nodes at hl; have := ih e (by omega); have := ihl (by omega); unfold alsNodes alsMass Al.nodes Al.mass; omega
    intro e h
    cases e with
    | mk k nm n t ks als bs q =>
      unfold Ex.nodes at h
      have := h1 ks (by omega); have := h2 bs (by omega); have := h3 als (by omega)
      unfold Ex.nodes Ex.mass; omega
theorem scL_parts (e : Ex) : (e.scL.map (·.2)).flatten = e.parts := by
  cases e with
  | mk k nm n t ks als bs q =>
    have h3 : ∀ l : List Al, ((l.map fun a => (ptNames a.pat, [a.exp])).map (·.2)).flatten = l.map Al.exp := by
      intro l; induction l with
      | nil => rfl
      | cons a l ih => simp only [List.map_cons, List.flatten_cons, ih]; rfl
    unfold Ex.scL Ex.parts scHead
    rw [List.map_append, List.flatten_append, h3]
    by_cases h7 : k = 7
    · by_cases h1 : n = 1 <;> simp [h7, h1]
    · by_cases h6 : k = 6 <;> simp [h7, h6]

end Go.Proofs.Ytglamoiimmahgaa
