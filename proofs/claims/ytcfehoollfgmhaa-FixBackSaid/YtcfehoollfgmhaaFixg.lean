/- Rows of numbers as whole blocks, for the law on brackets. -/
import Derived.Test.YtcfehoollfgmhaaFixf
import Derived.Test.YtcfehoollfgmhaaBack04
namespace Go.Proofs.Ytcfehoollfgmhaa
open Go.RowKit
set_option linter.unusedVariables false

def rowC (h : Nat → Int) (n : Nat) : Array Value := ((List.range (n + 1)).map fun k => Value.int .i64 (h k)).toArray
theorem rowC_size (h : Nat → Int) (n : Nat) : (rowC h n).size = n + 1 := by simp [rowC]
theorem rowC_at (h : Nat → Int) (n k : Nat) (hk : k ≤ n) : (rowC h n)[k]? = some (.int .i64 (h k)) := by
  simp [rowC, show k < n + 1 by omega]
theorem rowC_congr {h h' : Nat → Int} {n : Nat} (e : ∀ k, k ≤ n → h k = h' k) : rowC h n = rowC h' n := by
  apply Array.ext_getElem?
  intro j
  by_cases hj : j ≤ n
  · rw [rowC_at _ _ _ hj, rowC_at _ _ _ hj, e j hj]
  · rw [Array.getElem?_eq_none (by rw [rowC_size]; omega), Array.getElem?_eq_none (by rw [rowC_size]; omega)]
theorem rowC_set (h : Nat → Int) (n k : Nat) (v : Int) : (rowC h n).setIfInBounds k (.int .i64 v) = rowC (upd h k v) n := by
  apply Array.ext_getElem?
  intro j
  rw [Array.getElem?_setIfInBounds, rowC_size]
  by_cases hj : j ≤ n
  · rw [rowC_at _ _ _ hj, rowC_at _ _ _ hj]
    by_cases e : k = j
    · subst e; rw [if_pos rfl, if_pos (by omega)]; simp [upd]
    · rw [if_neg e]; unfold upd; rw [if_neg (fun x => e x.symm)]
  · rw [Array.getElem?_eq_none (by rw [rowC_size]; omega), Array.getElem?_eq_none (by rw [rowC_size]; omega)]
    by_cases e : k = j
    · subst e; rw [if_pos rfl, if_neg (by omega)]
    · rw [if_neg e]
theorem rowC_made (n : Nat) : madeCells #[.int .i64 0] (n + 1) = rowC (fun _ => 0) n := by
  apply Array.ext_getElem?
  intro j
  by_cases h : j ≤ n
  · rw [rowC_at _ _ _ h, Array.getElem?_eq_getElem (by rw [size_madeCells]; omega)]
    simp [madeCells, Nat.mod_one]
  · rw [Array.getElem?_eq_none (by rw [size_madeCells]; omega), Array.getElem?_eq_none (by rw [rowC_size]; omega)]

/-- The two rows of the law: of each operand what made it, and where it ends. -/
def Two (w : World) (g d n : Nat) (tp ls : Nat → Int) : Prop := Blk w g 3 (rowC tp n) ∧ Blk w d 3 (rowC ls n) ∧ g ≠ d
section
variable {w w' : World} {g d n : Nat} {tp ls : Nat → Int}
theorem Two.top (h : Two w g d n tp ls) {k : Nat} (hk : k ≤ n) : w.cell? ⟨g, k, none⟩ = some (.int .i64 (tp k)) := (h.1.cell k).trans (rowC_at _ _ _ hk)
theorem Two.last (h : Two w g d n tp ls) {k : Nat} (hk : k ≤ n) : w.cell? ⟨d, k, none⟩ = some (.int .i64 (ls k)) := (h.2.1.cell k).trans (rowC_at _ _ _ hk)
theorem Two.setTop (h : Two w g d n tp ls) (k : Nat) (v : Int) : Two (w.setCell ⟨g, k, none⟩ (.int .i64 v)) g d n (upd tp k v) ls :=
  ⟨by have := h.1.set_ k (.int .i64 v); rwa [rowC_set] at this, h.2.1.far (fun e => h.2.2 e.symm) _, h.2.2⟩
theorem Two.setLast (h : Two w g d n tp ls) (k : Nat) (v : Int) : Two (w.setCell ⟨d, k, none⟩ (.int .i64 v)) g d n tp (upd ls k v) :=
  ⟨h.1.far h.2.2 _, by have := h.2.1.set_ k (.int .i64 v); rwa [rowC_set] at this, h.2.2⟩
theorem Two.congr {tp' ls' : Nat → Int} (h : Two w g d n tp ls) (h1 : ∀ k, k ≤ n → tp k = tp' k) (h2 : ∀ k, k ≤ n → ls k = ls' k) : Two w g d n tp' ls' := by
  obtain ⟨a, b, c⟩ := h
  exact ⟨rowC_congr h1 ▸ a, rowC_congr h2 ▸ b, c⟩
theorem Two.drewN (h : Two w g d n tp ls) (k : Nat) : Two (w.drewN k) g d n tp ls := h
theorem Two.drew (h : Two w g d n tp ls) : Two w.drew g d n tp ls := h
theorem two_made {w : World} {n : Nat} : Two ((w.alloc (.cells (madeCells #[.int .i64 0] (n + 1)) 3)).alloc (.cells (madeCells #[.int .i64 0] (n + 1)) 3)) w.heap.size (w.heap.size + 1) n (fun _ => 0) (fun _ => 0) := by
  rw [rowC_made]
  refine ⟨(Blk.new w _ _).alloc _, ?_, by omega⟩
  have := Blk.new (w.alloc (.cells (rowC (fun _ => 0) n) 3)) 3 (rowC (fun _ => 0) n)
  simpa using this
end
theorem steps_at {f : Nat → Nat} {n j : Nat} {tp ls tpF lsF : Nat → Int} {l : List Nat} (hj : j < l.length) (h : Steps f n tp ls (l.drop j) tpF lsF) :
    ∃ i a en, l.getD j 0 = i ∧ Rnd f n tp ls i a en ∧ Steps f n (upd tp a i) (fill ls a en) (l.drop (j + 1)) tpF lsF := by
  rw [List.drop_eq_getElem_cons hj] at h
  obtain ⟨a, en, h1, h2⟩ := h
  exact ⟨_, a, en, by simp [hj], h1, h2⟩
theorem steps_done {f : Nat → Nat} {n j : Nat} {tp ls tpF lsF : Nat → Int} {l : List Nat} (hj : l.length ≤ j) (h : Steps f n tp ls (l.drop j) tpF lsF) : ls = lsF := by
  rw [List.drop_eq_nil_of_le hj] at h
  exact h.2.symm
/-- The rows while they are first laid. -/
def inT (k : Nat) : Nat → Int := fun x => if x < k then -1 else 0
def inL (k : Nat) : Nat → Int := fun x => if x < k then (x : Int) else 0
theorem inT_step (k : Nat) : upd (inT k) k (-1) = inT (k + 1) := by
  funext x
  unfold upd inT
  by_cases h : x = k
  · rw [if_pos h, if_pos (by omega)]
  · rw [if_neg h]
    by_cases h1 : x < k
    · rw [if_pos h1, if_pos (by omega)]
    · rw [if_neg h1, if_neg (by omega)]
theorem inL_step (k : Nat) : upd (inL k) k (k : Int) = inL (k + 1) := by
  funext x
  unfold upd inL
  by_cases h : x = k
  · rw [if_pos h, if_pos (by omega)]; omega
  · rw [if_neg h]
    by_cases h1 : x < k
    · rw [if_pos h1, if_pos (by omega)]
    · rw [if_neg h1, if_neg (by omega)]

end Go.Proofs.Ytcfehoollfgmhaa
