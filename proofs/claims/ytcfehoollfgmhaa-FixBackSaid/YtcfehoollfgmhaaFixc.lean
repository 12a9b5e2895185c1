/- Walks: the document's level, sides and brackets. -/
import Derived.Test.YtcfehoollfgmhaaFixb
namespace Go.Proofs.Ytcfehoollfgmhaa
open Go.RowKit
set_option linter.unusedVariables false

/-- The document's rows lie in memory. -/
def RowsAt (W : World) (H : Nat) : Prop := ∀ (i : Nat) (hi : i < opsS.length), ∃ b, W.cell? ⟨H, i, none⟩ = some (.slice (some ⟨b, 0, none⟩) opsS[i].length opsS[i].length) ∧
  ∀ (k : Nat) (hk : k < opsS[i].length), W.cell? ⟨b, k, none⟩ = some (.string ⟨opsS[i][k].toArray⟩)
theorem rows_cell {W : World} {b : Nat} {l : List (List UInt8)} (h : ∃ cs, Blk W b 9 cs ∧ cs = (l.map fun x => Value.string ⟨x.toArray⟩).toArray) (k : Nat) (hk : k < l.length) : W.cell? ⟨b, k, none⟩ = some (.string ⟨l[k].toArray⟩) := by
  obtain ⟨cs, h, rfl⟩ := h
  rw [h.cell k]
  simp [hk]

theorem row_le (k : Nat) (h : k < opsS.length) : opsS[k].length ≤ 6 := by
  match k, h with
  | 0, _ => show 1 ≤ 6; omega
  | 1, _ => show 1 ≤ 6; omega
  | 2, _ => show 1 ≤ 6; omega
  | 3, _ => show 6 ≤ 6; omega
  | 4, _ => show 2 ≤ 6; omega
  | 5, _ => show 2 ≤ 6; omega
  | 6, _ => show 3 ≤ 6; omega
/-- No row below k has it; no element below q of a row has it. -/
def NoRow (s : List UInt8) (k : Nat) : Prop := ∀ j (hj : j < opsS.length), j < k → (opsS[j]).contains s = false
def NoEl (s : List UInt8) (l : List (List UInt8)) (q : Nat) : Prop := ∀ j (hj : j < l.length), j < q → l[j] ≠ s
theorem norow_succ {s : List UInt8} {k : Nat} (hk : k < opsS.length) (h : NoRow s k) (h1 : NoEl s opsS[k] opsS[k].length) : NoRow s (k + 1) := fun j hj hl => by
  rcases Nat.lt_or_ge j k with h2 | h2
  · exact h j hj h2
  · have : j = k := by omega
    subst this
    rw [List.contains_eq_mem]
    simp only [decide_eq_false_iff_not]
    intro hm
    obtain ⟨q, hq, e⟩ := List.getElem_of_mem hm
    exact h1 q hq hq e
theorem noel_succ {s : List UInt8} {l : List (List UInt8)} {q : Nat} (hq : q < l.length) (h : NoEl s l q) (h1 : l[q] ≠ s) : NoEl s l (q + 1) := fun j hj hl => by
  rcases Nat.lt_or_ge j q with h2 | h2
  · exact h j hj h2
  · have : j = q := by omega
    subst this; exact h1
theorem lv_hit {s : List UInt8} {k q : Nat} (hk : k < opsS.length) (h : NoRow s k) (hq : q < opsS[k].length) (e : opsS[k][q] = s) : lvL s = k + 1 :=
  lv_at s k hk (fun j hj => h j (by omega) hj) (by rw [List.contains_iff_mem, ← e]; exact List.getElem_mem _)
theorem lv_miss {s : List UInt8} (h : NoRow s opsS.length) : lvL s = 8 := lv_out s fun j hj => h j hj hj

theorem str_same (a : List UInt8) (s : ByteArray) (h : a = s.data.toList) : (a == s.toList) = true := by
  rw [ByteArray.toList_eq, h]; simp
theorem str_other (a : List UInt8) (s : ByteArray) (h : a ≠ s.data.toList) : (a == s.toList) = false := by
  rw [ByteArray.toList_eq]; simpa using h

theorem blk_at {w : World} {n : Nat} (h : w.heap.size = n) (t : TypeId) (cs : Array Value) : Blk (w.alloc (.cells cs t)) n t cs := h ▸ Blk.new w t cs
theorem rows_laid (w : World) (W : World) (hW : W = (((((((w.alloc (.cells #[.string ⟨#[58, 61]⟩] 9)).alloc (.cells #[.string ⟨#[124, 124]⟩] 9)).alloc (.cells #[.string ⟨#[38, 38]⟩] 9)).alloc
      (.cells #[.string ⟨#[61, 61]⟩, .string ⟨#[47, 61]⟩, .string ⟨#[60]⟩, .string ⟨#[60, 61]⟩, .string ⟨#[62]⟩, .string ⟨#[62, 61]⟩] 9)).alloc (.cells #[.string ⟨#[58, 58]⟩, .string ⟨#[94]⟩] 9)).alloc (.cells #[.string ⟨#[43]⟩, .string ⟨#[45]⟩] 9)).alloc
      (.cells #[.string ⟨#[42]⟩, .string ⟨#[47]⟩, .string ⟨#[37]⟩] 9)).alloc
      (.cells #[.slice (some ⟨w.heap.size, 0, none⟩) 1 1, .slice (some ⟨w.heap.size + 1, 0, none⟩) 1 1, .slice (some ⟨w.heap.size + 1 + 1, 0, none⟩) 1 1, .slice (some ⟨w.heap.size + 1 + 1 + 1, 0, none⟩) 6 6,
        .slice (some ⟨w.heap.size + 1 + 1 + 1 + 1, 0, none⟩) 2 2, .slice (some ⟨w.heap.size + 1 + 1 + 1 + 1 + 1, 0, none⟩) 2 2, .slice (some ⟨w.heap.size + 1 + 1 + 1 + 1 + 1 + 1, 0, none⟩) 3 3] 28)) :
    RowsAt W (w.heap.size + 1 + 1 + 1 + 1 + 1 + 1 + 1) ∧ Below w.heap.size w W := by
  subst hW
  have b0 : Blk ((((((((w.alloc (.cells #[.string ⟨#[58, 61]⟩] 9)).alloc (.cells #[.string ⟨#[124, 124]⟩] 9)).alloc (.cells #[.string ⟨#[38, 38]⟩] 9)).alloc (.cells #[.string ⟨#[61, 61]⟩, .string ⟨#[47, 61]⟩, .string ⟨#[60]⟩, .string ⟨#[60, 61]⟩, .string ⟨#[62]⟩, .string ⟨#[62, 61]⟩] 9)).alloc (.cells #[.string ⟨#[58, 58]⟩, .string ⟨#[94]⟩] 9)).alloc (.cells #[.string ⟨#[43]⟩, .string ⟨#[45]⟩] 9)).alloc (.cells #[.string ⟨#[42]⟩, .string ⟨#[47]⟩, .string ⟨#[37]⟩] 9)).alloc (.cells #[.slice (some ⟨w.heap.size, 0, none⟩) 1 1, .slice (some ⟨w.heap.size + 1, 0, none⟩) 1 1, .slice (some ⟨w.heap.size + 1 + 1, 0, none⟩) 1 1, .slice (some ⟨w.heap.size + 1 + 1 + 1, 0, none⟩) 6 6, .slice (some ⟨w.heap.size + 1 + 1 + 1 + 1, 0, none⟩) 2 2, .slice (some ⟨w.heap.size + 1 + 1 + 1 + 1 + 1, 0, none⟩) 2 2, .slice (some ⟨w.heap.size + 1 + 1 + 1 + 1 + 1 + 1, 0, none⟩) 3 3] 28)) (w.heap.size) 9 #[.string ⟨#[58, 61]⟩] := (((((((blk_at (w := w) rfl _ _).alloc _).alloc _).alloc _).alloc _).alloc _).alloc _).alloc _
  have b1 : Blk ((((((((w.alloc (.cells #[.string ⟨#[58, 61]⟩] 9)).alloc (.cells #[.string ⟨#[124, 124]⟩] 9)).alloc (.cells #[.string ⟨#[38, 38]⟩] 9)).alloc (.cells #[.string ⟨#[61, 61]⟩, .string ⟨#[47, 61]⟩, .string ⟨#[60]⟩, .string ⟨#[60, 61]⟩, .string ⟨#[62]⟩, .string ⟨#[62, 61]⟩] 9)).alloc (.cells #[.string ⟨#[58, 58]⟩, .string ⟨#[94]⟩] 9)).alloc (.cells #[.string ⟨#[43]⟩, .string ⟨#[45]⟩] 9)).alloc (.cells #[.string ⟨#[42]⟩, .string ⟨#[47]⟩, .string ⟨#[37]⟩] 9)).alloc (.cells #[.slice (some ⟨w.heap.size, 0, none⟩) 1 1, .slice (some ⟨w.heap.size + 1, 0, none⟩) 1 1, .slice (some ⟨w.heap.size + 1 + 1, 0, none⟩) 1 1, .slice (some ⟨w.heap.size + 1 + 1 + 1, 0, none⟩) 6 6, .slice (some ⟨w.heap.size + 1 + 1 + 1 + 1, 0, none⟩) 2 2, .slice (some ⟨w.heap.size + 1 + 1 + 1 + 1 + 1, 0, none⟩) 2 2, .slice (some ⟨w.heap.size + 1 + 1 + 1 + 1 + 1 + 1, 0, none⟩) 3 3] 28)) (w.heap.size + 1) 9 #[.string ⟨#[124, 124]⟩] := ((((((blk_at (w := (w.alloc (.cells #[.string ⟨#[58, 61]⟩] 9))) (by simp) _ _).alloc _).alloc _).alloc _).alloc _).alloc _).alloc _
  have b2 : Blk ((((((((w.alloc (.cells #[.string ⟨#[58, 61]⟩] 9)).alloc (.cells #[.string ⟨#[124, 124]⟩] 9)).alloc (.cells #[.string ⟨#[38, 38]⟩] 9)).alloc (.cells #[.string ⟨#[61, 61]⟩, .string ⟨#[47, 61]⟩, .string ⟨#[60]⟩, .string ⟨#[60, 61]⟩, .string ⟨#[62]⟩, .string ⟨#[62, 61]⟩] 9)).alloc (.cells #[.string ⟨#[58, 58]⟩, .string ⟨#[94]⟩] 9)).alloc (.cells #[.string ⟨#[43]⟩, .string ⟨#[45]⟩] 9)).alloc (.cells #[.string ⟨#[42]⟩, .string ⟨#[47]⟩, .string ⟨#[37]⟩] 9)).alloc (.cells #[.slice (some ⟨w.heap.size, 0, none⟩) 1 1, .slice (some ⟨w.heap.size + 1, 0, none⟩) 1 1, .slice (some ⟨w.heap.size + 1 + 1, 0, none⟩) 1 1, .slice (some ⟨w.heap.size + 1 + 1 + 1, 0, none⟩) 6 6, .slice (some ⟨w.heap.size + 1 + 1 + 1 + 1, 0, none⟩) 2 2, .slice (some ⟨w.heap.size + 1 + 1 + 1 + 1 + 1, 0, none⟩) 2 2, .slice (some ⟨w.heap.size + 1 + 1 + 1 + 1 + 1 + 1, 0, none⟩) 3 3] 28)) (w.heap.size + 1 + 1) 9 #[.string ⟨#[38, 38]⟩] := (((((blk_at (w := ((w.alloc (.cells #[.string ⟨#[58, 61]⟩] 9)).alloc (.cells #[.string ⟨#[124, 124]⟩] 9))) (by simp) _ _).alloc _).alloc _).alloc _).alloc _).alloc _
  have b3 : Blk ((((((((w.alloc (.cells #[.string ⟨#[58, 61]⟩] 9)).alloc (.cells #[.string ⟨#[124, 124]⟩] 9)).alloc (.cells #[.string ⟨#[38, 38]⟩] 9)).alloc (.cells #[.string ⟨#[61, 61]⟩, .string ⟨#[47, 61]⟩, .string ⟨#[60]⟩, .string ⟨#[60, 61]⟩, .string ⟨#[62]⟩, .string ⟨#[62, 61]⟩] 9)).alloc (.cells #[.string ⟨#[58, 58]⟩, .string ⟨#[94]⟩] 9)).alloc (.cells #[.string ⟨#[43]⟩, .string ⟨#[45]⟩] 9)).alloc (.cells #[.string ⟨#[42]⟩, .string ⟨#[47]⟩, .string ⟨#[37]⟩] 9)).alloc (.cells #[.slice (some ⟨w.heap.size, 0, none⟩) 1 1, .slice (some ⟨w.heap.size + 1, 0, none⟩) 1 1, .slice (some ⟨w.heap.size + 1 + 1, 0, none⟩) 1 1, .slice (some ⟨w.heap.size + 1 + 1 + 1, 0, none⟩) 6 6, .slice (some ⟨w.heap.size + 1 + 1 + 1 + 1, 0, none⟩) 2 2, .slice (some ⟨w.heap.size + 1 + 1 + 1 + 1 + 1, 0, none⟩) 2 2, .slice (some ⟨w.heap.size + 1 + 1 + 1 + 1 + 1 + 1, 0, none⟩) 3 3] 28)) (w.heap.size + 1 + 1 + 1) 9 #[.string ⟨#[61, 61]⟩, .string ⟨#[47, 61]⟩, .string ⟨#[60]⟩, .string ⟨#[60, 61]⟩, .string ⟨#[62]⟩, .string ⟨#[62, 61]⟩] := ((((blk_at (w := (((w.alloc (.cells #[.string ⟨#[58, 61]⟩] 9)).alloc (.cells #[.string ⟨#[124, 124]⟩] 9)).alloc (.cells #[.string ⟨#[38, 38]⟩] 9))) (by simp) _ _).alloc _).alloc _).alloc _).alloc _
  have b4 : Blk ((((((((w.alloc (.cells #[.string ⟨#[58, 61]⟩] 9)).alloc (.cells #[.string ⟨#[124, 124]⟩] 9)).alloc (.cells #[.string ⟨#[38, 38]⟩] 9)).alloc (.cells #[.string ⟨#[61, 61]⟩, .string ⟨#[47, 61]⟩, .string ⟨#[60]⟩, .string ⟨#[60, 61]⟩, .string ⟨#[62]⟩, .string ⟨#[62, 61]⟩] 9)).alloc (.cells #[.string ⟨#[58, 58]⟩, .string ⟨#[94]⟩] 9)).alloc (.cells #[.string ⟨#[43]⟩, .string ⟨#[45]⟩] 9)).alloc (.cells #[.string ⟨#[42]⟩, .string ⟨#[47]⟩, .string ⟨#[37]⟩] 9)).alloc (.cells #[.slice (some ⟨w.heap.size, 0, none⟩) 1 1, .slice (some ⟨w.heap.size + 1, 0, none⟩) 1 1, .slice (some ⟨w.heap.size + 1 + 1, 0, none⟩) 1 1, .slice (some ⟨w.heap.size + 1 + 1 + 1, 0, none⟩) 6 6, .slice (some ⟨w.heap.size + 1 + 1 + 1 + 1, 0, none⟩) 2 2, .slice (some ⟨w.heap.size + 1 + 1 + 1 + 1 + 1, 0, none⟩) 2 2, .slice (some ⟨w.heap.size + 1 + 1 + 1 + 1 + 1 + 1, 0, none⟩) 3 3] 28)) (w.heap.size + 1 + 1 + 1 + 1) 9 #[.string ⟨#[58, 58]⟩, .string ⟨#[94]⟩] := (((blk_at (w := ((((w.alloc (.cells #[.string ⟨#[58, 61]⟩] 9)).alloc (.cells #[.string ⟨#[124, 124]⟩] 9)).alloc (.cells #[.string ⟨#[38, 38]⟩] 9)).alloc (.cells #[.string ⟨#[61, 61]⟩, .string ⟨#[47, 61]⟩, .string ⟨#[60]⟩, .string ⟨#[60, 61]⟩, .string ⟨#[62]⟩, .string ⟨#[62, 61]⟩] 9))) (by simp) _ _).alloc _).alloc _).alloc _
  have b5 : Blk ((((((((w.alloc (.cells #[.string ⟨#[58, 61]⟩] 9)).alloc (.cells #[.string ⟨#[124, 124]⟩] 9)).alloc (.cells #[.string ⟨#[38, 38]⟩] 9)).alloc (.cells #[.string ⟨#[61, 61]⟩, .string ⟨#[47, 61]⟩, .string ⟨#[60]⟩, .string ⟨#[60, 61]⟩, .string ⟨#[62]⟩, .string ⟨#[62, 61]⟩] 9)).alloc (.cells #[.string ⟨#[58, 58]⟩, .string ⟨#[94]⟩] 9)).alloc (.cells #[.string ⟨#[43]⟩, .string ⟨#[45]⟩] 9)).alloc (.cells #[.string ⟨#[42]⟩, .string ⟨#[47]⟩, .string ⟨#[37]⟩] 9)).alloc (.cells #[.slice (some ⟨w.heap.size, 0, none⟩) 1 1, .slice (some ⟨w.heap.size + 1, 0, none⟩) 1 1, .slice (some ⟨w.heap.size + 1 + 1, 0, none⟩) 1 1, .slice (some ⟨w.heap.size + 1 + 1 + 1, 0, none⟩) 6 6, .slice (some ⟨w.heap.size + 1 + 1 + 1 + 1, 0, none⟩) 2 2, .slice (some ⟨w.heap.size + 1 + 1 + 1 + 1 + 1, 0, none⟩) 2 2, .slice (some ⟨w.heap.size + 1 + 1 + 1 + 1 + 1 + 1, 0, none⟩) 3 3] 28)) (w.heap.size + 1 + 1 + 1 + 1 + 1) 9 #[.string ⟨#[43]⟩, .string ⟨#[45]⟩] := ((blk_at (w := (((((w.alloc (.cells #[.string ⟨#[58, 61]⟩] 9)).alloc (.cells #[.string ⟨#[124, 124]⟩] 9)).alloc (.cells #[.string ⟨#[38, 38]⟩] 9)).alloc (.cells #[.string ⟨#[61, 61]⟩, .string ⟨#[47, 61]⟩, .string ⟨#[60]⟩, .string ⟨#[60, 61]⟩, .string ⟨#[62]⟩, .string ⟨#[62, 61]⟩] 9)).alloc (.cells #[.string ⟨#[58, 58]⟩, .string ⟨#[94]⟩] 9))) (by simp) _ _).alloc _).alloc _
  have b6 : Blk ((((((((w.alloc (.cells #[.string ⟨#[58, 61]⟩] 9)).alloc (.cells #[.string ⟨#[124, 124]⟩] 9)).alloc (.cells #[.string ⟨#[38, 38]⟩] 9)).alloc (.cells #[.string ⟨#[61, 61]⟩, .string ⟨#[47, 61]⟩, .string ⟨#[60]⟩, .string ⟨#[60, 61]⟩, .string ⟨#[62]⟩, .string ⟨#[62, 61]⟩] 9)).alloc (.cells #[.string ⟨#[58, 58]⟩, .string ⟨#[94]⟩] 9)).alloc (.cells #[.string ⟨#[43]⟩, .string ⟨#[45]⟩] 9)).alloc (.cells #[.string ⟨#[42]⟩, .string ⟨#[47]⟩, .string ⟨#[37]⟩] 9)).alloc (.cells #[.slice (some ⟨w.heap.size, 0, none⟩) 1 1, .slice (some ⟨w.heap.size + 1, 0, none⟩) 1 1, .slice (some ⟨w.heap.size + 1 + 1, 0, none⟩) 1 1, .slice (some ⟨w.heap.size + 1 + 1 + 1, 0, none⟩) 6 6, .slice (some ⟨w.heap.size + 1 + 1 + 1 + 1, 0, none⟩) 2 2, .slice (some ⟨w.heap.size + 1 + 1 + 1 + 1 + 1, 0, none⟩) 2 2, .slice (some ⟨w.heap.size + 1 + 1 + 1 + 1 + 1 + 1, 0, none⟩) 3 3] 28)) (w.heap.size + 1 + 1 + 1 + 1 + 1 + 1) 9 #[.string ⟨#[42]⟩, .string ⟨#[47]⟩, .string ⟨#[37]⟩] := (blk_at (w := ((((((w.alloc (.cells #[.string ⟨#[58, 61]⟩] 9)).alloc (.cells #[.string ⟨#[124, 124]⟩] 9)).alloc (.cells #[.string ⟨#[38, 38]⟩] 9)).alloc (.cells #[.string ⟨#[61, 61]⟩, .string ⟨#[47, 61]⟩, .string ⟨#[60]⟩, .string ⟨#[60, 61]⟩, .string ⟨#[62]⟩, .string ⟨#[62, 61]⟩] 9)).alloc (.cells #[.string ⟨#[58, 58]⟩, .string ⟨#[94]⟩] 9)).alloc (.cells #[.string ⟨#[43]⟩, .string ⟨#[45]⟩] 9))) (by simp) _ _).alloc _
  have b7 : Blk ((((((((w.alloc (.cells #[.string ⟨#[58, 61]⟩] 9)).alloc (.cells #[.string ⟨#[124, 124]⟩] 9)).alloc (.cells #[.string ⟨#[38, 38]⟩] 9)).alloc (.cells #[.string ⟨#[61, 61]⟩, .string ⟨#[47, 61]⟩, .string ⟨#[60]⟩, .string ⟨#[60, 61]⟩, .string ⟨#[62]⟩, .string ⟨#[62, 61]⟩] 9)).alloc (.cells #[.string ⟨#[58, 58]⟩, .string ⟨#[94]⟩] 9)).alloc (.cells #[.string ⟨#[43]⟩, .string ⟨#[45]⟩] 9)).alloc (.cells #[.string ⟨#[42]⟩, .string ⟨#[47]⟩, .string ⟨#[37]⟩] 9)).alloc (.cells #[.slice (some ⟨w.heap.size, 0, none⟩) 1 1, .slice (some ⟨w.heap.size + 1, 0, none⟩) 1 1, .slice (some ⟨w.heap.size + 1 + 1, 0, none⟩) 1 1, .slice (some ⟨w.heap.size + 1 + 1 + 1, 0, none⟩) 6 6, .slice (some ⟨w.heap.size + 1 + 1 + 1 + 1, 0, none⟩) 2 2, .slice (some ⟨w.heap.size + 1 + 1 + 1 + 1 + 1, 0, none⟩) 2 2, .slice (some ⟨w.heap.size + 1 + 1 + 1 + 1 + 1 + 1, 0, none⟩) 3 3] 28)) (w.heap.size + 1 + 1 + 1 + 1 + 1 + 1 + 1) 28 #[.slice (some ⟨w.heap.size, 0, none⟩) 1 1, .slice (some ⟨w.heap.size + 1, 0, none⟩) 1 1, .slice (some ⟨w.heap.size + 1 + 1, 0, none⟩) 1 1, .slice (some ⟨w.heap.size + 1 + 1 + 1, 0, none⟩) 6 6, .slice (some ⟨w.heap.size + 1 + 1 + 1 + 1, 0, none⟩) 2 2, .slice (some ⟨w.heap.size + 1 + 1 + 1 + 1 + 1, 0, none⟩) 2 2, .slice (some ⟨w.heap.size + 1 + 1 + 1 + 1 + 1 + 1, 0, none⟩) 3 3] := blk_at (w := (((((((w.alloc (.cells #[.string ⟨#[58, 61]⟩] 9)).alloc (.cells #[.string ⟨#[124, 124]⟩] 9)).alloc (.cells #[.string ⟨#[38, 38]⟩] 9)).alloc (.cells #[.string ⟨#[61, 61]⟩, .string ⟨#[47, 61]⟩, .string ⟨#[60]⟩, .string ⟨#[60, 61]⟩, .string ⟨#[62]⟩, .string ⟨#[62, 61]⟩] 9)).alloc (.cells #[.string ⟨#[58, 58]⟩, .string ⟨#[94]⟩] 9)).alloc (.cells #[.string ⟨#[43]⟩, .string ⟨#[45]⟩] 9)).alloc (.cells #[.string ⟨#[42]⟩, .string ⟨#[47]⟩, .string ⟨#[37]⟩] 9))) (by simp) _ _
  refine ⟨?_, ((((((((Below.refl _ _).alloc (Nat.le_refl _) _).alloc (by simp) _).alloc (by simp; omega) _).alloc (by simp; omega) _).alloc (by simp; omega) _).alloc (by simp; omega) _).alloc (by simp; omega) _).alloc (by simp; omega) _⟩
  intro i hi
  match i, hi with
  | 0, _ => exact ⟨w.heap.size, (b7.cell 0).trans rfl, rows_cell ⟨_, b0, rfl⟩⟩
  | 1, _ => exact ⟨w.heap.size + 1, (b7.cell 1).trans rfl, rows_cell ⟨_, b1, rfl⟩⟩
  | 2, _ => exact ⟨w.heap.size + 1 + 1, (b7.cell 2).trans rfl, rows_cell ⟨_, b2, rfl⟩⟩
  | 3, _ => exact ⟨w.heap.size + 1 + 1 + 1, (b7.cell 3).trans rfl, rows_cell ⟨_, b3, rfl⟩⟩
  | 4, _ => exact ⟨w.heap.size + 1 + 1 + 1 + 1, (b7.cell 4).trans rfl, rows_cell ⟨_, b4, rfl⟩⟩
  | 5, _ => exact ⟨w.heap.size + 1 + 1 + 1 + 1 + 1, (b7.cell 5).trans rfl, rows_cell ⟨_, b5, rfl⟩⟩
  | 6, _ => exact ⟨w.heap.size + 1 + 1 + 1 + 1 + 1 + 1, (b7.cell 6).trans rfl, rows_cell ⟨_, b6, rfl⟩⟩

set_option maxHeartbeats 800000 in
theorem rlevel_any (s : ByteArray) (w : World) (G : Nat) (hG : Hid (lvL s.data.toList = G)) :
    Calls Try.prog 8 #[.string s] w fun e w' => e = .returned (.int .i64 G) ∧ Below w.heap.size w w' := by
  have hX := rows_laid w _ rfl
  revert hX
  generalize hW : (((((((w.alloc (.cells #[.string ⟨#[58, 61]⟩] 9)).alloc (.cells #[.string ⟨#[124, 124]⟩] 9)).alloc (.cells #[.string ⟨#[38, 38]⟩] 9)).alloc
      (.cells #[.string ⟨#[61, 61]⟩, .string ⟨#[47, 61]⟩, .string ⟨#[60]⟩, .string ⟨#[60, 61]⟩, .string ⟨#[62]⟩, .string ⟨#[62, 61]⟩] 9)).alloc (.cells #[.string ⟨#[58, 58]⟩, .string ⟨#[94]⟩] 9)).alloc (.cells #[.string ⟨#[43]⟩, .string ⟨#[45]⟩] 9)).alloc
      (.cells #[.string ⟨#[42]⟩, .string ⟨#[47]⟩, .string ⟨#[37]⟩] 9)).alloc
      (.cells #[.slice (some ⟨w.heap.size, 0, none⟩) 1 1, .slice (some ⟨w.heap.size + 1, 0, none⟩) 1 1, .slice (some ⟨w.heap.size + 1 + 1, 0, none⟩) 1 1, .slice (some ⟨w.heap.size + 1 + 1 + 1, 0, none⟩) 6 6,
        .slice (some ⟨w.heap.size + 1 + 1 + 1 + 1, 0, none⟩) 2 2, .slice (some ⟨w.heap.size + 1 + 1 + 1 + 1 + 1, 0, none⟩) 2 2, .slice (some ⟨w.heap.size + 1 + 1 + 1 + 1 + 1 + 1, 0, none⟩) 3 3] 28) = W8
  rintro ⟨hR, hbel⟩
  have HW := Lib.hid hW
  have HR := Lib.hid hR
  clear hW hR
  go_enter Try.func8, Try.ntmps8
  go_wp2
  rw [HW.out]
  obtain ⟨B8, hB8⟩ : ∃ B8, w.heap.size + 1 + 1 + 1 + 1 + 1 + 1 + 1 = B8 := ⟨_, rfl⟩
  rw [hB8] at HR
  go_loop [4, 5] (fun i _ => ∃ k : Nat, k ≤ 7 ∧ i = .int .i64 k ∧ NoRow s.data.toList k) (fun i _ => 7 - (intOf i).toNat)
  case atStart => exact ⟨0, by omega, rfl, fun j _ h => by omega⟩
  case round =>
    obtain ⟨k, hk, rfl, hno⟩ := hrel
    have HNO := Lib.hid hno
    clear hno
    by_cases hlt : k < 7
    · obtain ⟨b, hc, hel⟩ := HR.out k hlt
      rw [← hB8] at hc
      obtain ⟨L, hL⟩ : ∃ L, opsS[k].length = L := ⟨_, rfl⟩
      rw [hL] at hc
      have hLm : L ≤ 6 := by rw [← hL]; exact row_le k hlt
      have HL := Lib.hid hL
      have HE := Lib.hid hel
      clear hL hel hB8
      go_wp2
      go_loop [5] (fun j => ∃ q : Nat, q ≤ L ∧ j = .int .i64 q ∧ NoEl s.data.toList opsS[k] q) (fun j => L - (intOf j).toNat)
      case atStart => exact ⟨0, by omega, rfl, fun j _ h => by omega⟩
      case round =>
        obtain ⟨q, hq, rfl, hne⟩ := hrel
        have HNE := Lib.hid hne
        clear hne
        by_cases hql : q < L
        · have hql' : q < opsS[k].length := by rw [HL.out]; exact hql
          have hc2 := HE.out q hql'
          obtain ⟨c, hcc⟩ : ∃ c, opsS[k][q] = c := ⟨_, rfl⟩
          rw [hcc] at hc2
          by_cases he : c = s.data.toList
          · have b1 := str_same c s he
            have HH := Lib.hid (show (k + 1 = G) by rw [← hG.out, ← he, ← hcc]; exact (lv_hit hlt (by rw [hcc, he]; exact HNO.out) hql' rfl).symm)
            clear he hcc hql'
            go_wp2
            go_ret
            exact ⟨ret_int (by have := HH.out; omega), hbel⟩
          · have b1 := str_other c s he
            have HH := Lib.hid (noel_succ hql' HNE.out (by rw [hcc]; exact he))
            clear he hcc hql'
            go_wp2
            go_round
            case rel => exact ⟨q + 1, by omega, by go_num, HH.out⟩
            case measure => simp [intOf]; omega
        · have HH := Lib.hid (norow_succ hlt HNO.out (fun j hj _ => HNE.out j hj (by have := HL.out; omega)))
          go_wp2
          go_round
          case rel => exact ⟨k + 1, by omega, by go_num, HH.out⟩
          case measure => simp [intOf]; omega
    · have HH := Lib.hid (show (8 = G) by rw [← hG.out]; exact (lv_miss (fun j hj _ => HNO.out j hj (by have : opsS.length = 7 := rfl; omega))).symm)
      go_wp2
      go_ret
      exact ⟨ret_int (by have := HH.out; omega), hbel⟩

theorem rnd_lt (ga gb : Nat) (r : Bool) (h : gb < ga) : ndB ga gb r = true := by simp [ndB, h]
theorem rnd_gt (ga gb : Nat) (r : Bool) (h : ga < gb) : ndB ga gb r = false := by simp [ndB]; omega
theorem rnd_r (g : Nat) : ndB g g true = ((sdN g : Int) != 2) := by
  simp [ndB]; rw [Bool.eq_iff_iff]; simp; omega
theorem rnd_l (g : Nat) : ndB g g false = ((sdN g : Int) != 1) := by
  simp [ndB]; rw [Bool.eq_iff_iff]; simp; omega

set_option maxHeartbeats 800000 in
theorem rneeds_any (a b : ByteArray) (r : Bool) (w : World) (ga gb : Nat) (ha : Hid (lvL a.data.toList = ga)) (hb : Hid (lvL b.data.toList = gb)) (u : Bool) (hu : Hid (ndB ga gb r = u)) :
    Calls Try.prog 11 #[.string a, .string b, .bool r] w fun e w' => e = .returned (.bool u) ∧ Below w.heap.size w w' := by
  have C1 := Lib.hid (fun w => rlevel_any a w ga ha)
  have C2 := Lib.hid (fun w => rlevel_any b w gb hb)
  have hga : ga ≤ 8 := by rw [← ha.out]; exact lv_le _
  rcases Nat.lt_trichotomy gb ga with h | h | h
  · have d0 : decide (gb < ga) = true := by simpa using h
    have H := Lib.hid (rnd_lt ga gb r h)
    clear h hga
    cases r
    all_goals
      go_enter Try.func11, Try.ntmps11
      go_wp2_with (first | (go_at_call 8; (with_reducible refine (C1.out _).mono ?_); rintro e w1 ⟨rfl, hb1⟩) | (go_at_call 8; (with_reducible refine (C2.out _).mono ?_); rintro e w2 ⟨rfl, hb2⟩))
      go_ret
      exact ⟨ret_bool (by rw [← hu.out, H.out]), hb1.trans (hb2.mono hb1.size)⟩
  · subst h
    have C3 := Lib.hid (fun w => rside_any (gb : Int) gb rfl hga w)
    obtain ⟨sd, hsd⟩ : ∃ sd, sdN gb = sd := ⟨_, rfl⟩
    rw [hsd] at C3
    have d0 : decide (gb < gb) = false := by simp
    have d1 : ((gb : Int) == (gb : Int)) = true := by simp
    have H1 := Lib.hid (rnd_r gb)
    have H2 := Lib.hid (rnd_l gb)
    rw [hsd] at H1 H2
    clear hsd hga
    cases r
    all_goals
      go_enter Try.func11, Try.ntmps11
      go_wp2_with (first | (go_at_call 8; (with_reducible refine (C1.out _).mono ?_); rintro e w1 ⟨rfl, hb1⟩) | (go_at_call 8; (with_reducible refine (C2.out _).mono ?_); rintro e w2 ⟨rfl, hb2⟩) | (go_at_call 9; (with_reducible refine (C3.out _).mono ?_); rintro e w' ⟨rfl, rfl⟩))
      go_ret
      exact ⟨ret_bool (by rw [← hu.out]; first | exact H1.out.symm | exact H2.out.symm), hb1.trans (hb2.mono hb1.size)⟩
  · have d0 : decide (gb < ga) = false := by simp; omega
    have d1 : ((gb : Int) == (ga : Int)) = false := by simp; omega
    have H := Lib.hid (rnd_gt ga gb r h)
    clear h hga
    cases r
    all_goals
      go_enter Try.func11, Try.ntmps11
      go_wp2_with (first | (go_at_call 8; (with_reducible refine (C1.out _).mono ?_); rintro e w1 ⟨rfl, hb1⟩) | (go_at_call 8; (with_reducible refine (C2.out _).mono ?_); rintro e w2 ⟨rfl, hb2⟩))
      go_ret
      exact ⟨ret_bool (by rw [← hu.out, H.out]), hb1.trans (hb2.mono hb1.size)⟩

end Go.Proofs.Ytcfehoollfgmhaa
