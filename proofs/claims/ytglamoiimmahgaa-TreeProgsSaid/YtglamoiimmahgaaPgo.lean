/- What came in, read as declarations and programs. -/
import Derived.Test.YtglamoiimmahgaaPgt
import Derived.Test.YtglamoiimmahgaaOpen
namespace Go.Proofs.Ytglamoiimmahgaa
open Go.RowKit Go.ChangeShapes Go.WideShapes
set_option linter.unusedVariables false
set_option maxRecDepth 100000

section
variable {H : Type} {enc : TypeId × Value → H} {w : World} {base : Nat} {spare : Nat → Bool} {held : Bool}
theorem flat_strs : ∀ (L : List (List Value)) (ss : List ByteArray), ss.length = L.length → (∀ i (h1 : i < L.length) (h2 : i < ss.length), L[i] = [Value.string ss[i]]) → L.flatten = nmVals ss
  | [], [], _, _ => rfl
  | [], s :: ss, h, _ => by simp at h
  | l :: L, [], h, _ => by simp at h
  | l :: L, s :: ss, h, hi => by
    have h0 : l = [Value.string s] := hi 0 (by simp) (by simp)
    rw [List.flatten_cons, h0, flat_strs L ss (by simpa using h) (fun i h1 h2 => hi (i + 1) (by simp; omega) (by simp; omega))]; rfl
theorem open_strs {fuel : Nat} {cs : List Value} {x : DataW H × List MemPlace} (h : DataW.trod enc Try.prog w base spare held fuel 50 cs = some x) (hw : Fits Try.prog 50 x.1) :
    ∃ (A : Option Addr) (cap : Nat) (ss : List ByteArray), cs = [.slice A ss.length cap] ∧ ss.length ≤ maxLen ∧ Reads w w.heap.size 1 A ss.length (nmVals ss) := by
  obtain ⟨A, len, cap, L, e3, hc, hm, hb, hr, hq⟩ := open_row (Q := fun l => ∃ s, l = [Value.string s]) Try.underlying50 (show Try.prog.cellsOf 9 = 1 by kernel_rfl) (by omega) rfl (fun n' h' cs x hx hf => by
    obtain ⟨nm, e1, _, w1⟩ := DataW.trod_string Try.underlying9 hx
    exact ⟨nm, e1⟩) h hw
  obtain ⟨ss, hsl, hss⟩ := each_of (R := fun l s => l = [Value.string s]) L hq
  have hn : ss.length = len := by rw [hsl, hr.len]
  have hf := flat_strs L ss hsl hss
  subst hn
  exact ⟨A, cap, ss, e3, Nat.le_trans hc hm, by rw [← hf]; exact hr.reads⟩
theorem open_rows {α : Type} {R : World → Nat → List Value → α → Prop} {t e : TypeId} {size fuel : Nat} {cs : List Value} {x : DataW H × List MemPlace} (ht : Try.prog.underlying t = some (.slice e)) (hC : Try.prog.cellsOf e = size) (hs : 0 < size)
    (hq : ∀ n, n < fuel → ∀ cs x, DataW.trod enc Try.prog w base spare held n e cs = some x → Fits Try.prog e x.1 → ∃ k, R w w.heap.size cs k) (h : DataW.trod enc Try.prog w base spare held fuel t cs = some x) (hw : Fits Try.prog t x.1) :
    ∃ (A : Option Addr) (cap : Nat) (ks : List α), cs = [.slice A ks.length cap] ∧ ks.length ≤ cap ∧ cap ≤ maxLen ∧ RowOf w w.heap.size size (R w w.heap.size) A ks := by
  obtain ⟨A, len, cap, L, e3, hc, hm, hb, hr, hq⟩ := open_row (Q := fun l => ∃ k, R w w.heap.size l k) ht hC hs rfl hq h hw
  obtain ⟨ks, hsl, hss⟩ := each_of L hq
  have hn : ks.length = len := by rw [hsl, hr.len]
  subst hn
  exact ⟨A, cap, ks, e3, hc, hm, ⟨L, hr, hss⟩⟩
theorem open_bd (fuel : Nat) (cs : List Value) (x : DataW H × List MemPlace) (h : DataW.trod enc Try.prog w base spare held fuel 54 cs = some x) (hw : Fits Try.prog 54 x.1) : ∃ t, BdAt w w.heap.size cs t := by
  obtain ⟨xs, n, hn, hx, hlen, hxl, hf⟩ := DataW.trod_struct Try.underlying54 h
  rw [show Try.prog.cellsOf 54 = 13 by kernel_rfl] at hlen
  have f0 : DataW.trod enc Try.prog w base spare held n 9 ((cs.drop 0).take (Try.prog.cellsOf 9)) = xs[0]? := hf 0 _ rfl
  rw [show Try.prog.cellsOf 9 = 1 by kernel_rfl] at f0
  have f1 : DataW.trod enc Try.prog w base spare held n 29 ((cs.drop 1).take (Try.prog.cellsOf 29)) = xs[1]? := hf 1 _ rfl
  rw [show Try.prog.cellsOf 29 = 11 by kernel_rfl] at f1
  have f2 : DataW.trod enc Try.prog w base spare held n 3 ((cs.drop 12).take (Try.prog.cellsOf 3)) = xs[2]? := hf 2 _ rfl
  rw [show Try.prog.cellsOf 3 = 1 by kernel_rfl] at f2
  have hl : xs.length = 3 := hxl
  subst hx
  have hw1 := fits_field (j := 1) Try.underlying54 hw rfl (List.getElem?_eq_getElem (by omega))
  rw [List.getElem?_eq_getElem (by omega)] at f0 f1 f2
  obtain ⟨c0, c1, c2, c3, c4, c5, c6, c7, c8, c9, c10, c11, c12, rfl⟩ := thirteen_of hlen
  simp only [List.drop_zero, List.drop_succ_cons, List.take_succ_cons, List.take_zero] at f0 f1 f2
  obtain ⟨n0, e0, _, w0⟩ := DataW.trod_string Try.underlying9 f0
  obtain ⟨t1, y1⟩ := open_ex _ _ _ f1 hw1
  obtain ⟨k2, e2, _, w2⟩ := DataW.trod_int Try.underlying3 f2
  injection e0 with e0; injection e2 with e2
  subst e0; subst e2
  exact ⟨_, .mk w0 y1 w2⟩
theorem open_co (fuel : Nat) (cs : List Value) (x : DataW H × List MemPlace) (h : DataW.trod enc Try.prog w base spare held fuel 101 cs = some x) (hw : Fits Try.prog 101 x.1) : ∃ t, CoAt w w.heap.size cs t := by
  obtain ⟨xs, n, hn, hx, hlen, hxl, hf⟩ := DataW.trod_struct Try.underlying101 h
  rw [show Try.prog.cellsOf 101 = 3 by kernel_rfl] at hlen
  have f0 : DataW.trod enc Try.prog w base spare held n 9 ((cs.drop 0).take (Try.prog.cellsOf 9)) = xs[0]? := hf 0 _ rfl
  rw [show Try.prog.cellsOf 9 = 1 by kernel_rfl] at f0
  have f1 : DataW.trod enc Try.prog w base spare held n 22 ((cs.drop 1).take (Try.prog.cellsOf 22)) = xs[1]? := hf 1 _ rfl
  rw [show Try.prog.cellsOf 22 = 1 by kernel_rfl] at f1
  have f2 : DataW.trod enc Try.prog w base spare held n 3 ((cs.drop 2).take (Try.prog.cellsOf 3)) = xs[2]? := hf 2 _ rfl
  rw [show Try.prog.cellsOf 3 = 1 by kernel_rfl] at f2
  have hl : xs.length = 3 := hxl
  subst hx
  have hw1 := fits_field (j := 1) Try.underlying101 hw rfl (List.getElem?_eq_getElem (by omega))
  rw [List.getElem?_eq_getElem (by omega)] at f0 f1 f2
  obtain ⟨c0, c1, c2, rfl⟩ := three_of hlen
  simp only [List.drop_zero, List.drop_succ_cons, List.take_succ_cons, List.take_zero] at f0 f1 f2
  obtain ⟨n0, e0, _, w0⟩ := DataW.trod_string Try.underlying9 f0
  obtain ⟨A1, p1, s1, e1, c1', m1, r1⟩ := open_rows (R := fun w B => TyAt w B) Try.underlying22 (show Try.prog.cellsOf 24 = 4 by kernel_rfl) (by omega) (fun n' _ cs x hx hf => open_ty n' cs x hx hf) f1 hw1
  obtain ⟨k2, e2, _, w2⟩ := DataW.trod_int Try.underlying3 f2
  injection e0 with e0; injection e1 with e1; injection e2 with e2
  subst e0; subst e1; subst e2
  exact ⟨_, .mk c1' m1 r1⟩
theorem open_me (fuel : Nat) (cs : List Value) (x : DataW H × List MemPlace) (h : DataW.trod enc Try.prog w base spare held fuel 105 cs = some x) (hw : Fits Try.prog 105 x.1) : ∃ t, MeAt w w.heap.size cs t := by
  obtain ⟨xs, n, hn, hx, hlen, hxl, hf⟩ := DataW.trod_struct Try.underlying105 h
  rw [show Try.prog.cellsOf 105 = 6 by kernel_rfl] at hlen
  have f0 : DataW.trod enc Try.prog w base spare held n 9 ((cs.drop 0).take (Try.prog.cellsOf 9)) = xs[0]? := hf 0 _ rfl
  rw [show Try.prog.cellsOf 9 = 1 by kernel_rfl] at f0
  have f1 : DataW.trod enc Try.prog w base spare held n 24 ((cs.drop 1).take (Try.prog.cellsOf 24)) = xs[1]? := hf 1 _ rfl
  rw [show Try.prog.cellsOf 24 = 4 by kernel_rfl] at f1
  have f2 : DataW.trod enc Try.prog w base spare held n 3 ((cs.drop 5).take (Try.prog.cellsOf 3)) = xs[2]? := hf 2 _ rfl
  rw [show Try.prog.cellsOf 3 = 1 by kernel_rfl] at f2
  have hl : xs.length = 3 := hxl
  subst hx
  have hw1 := fits_field (j := 1) Try.underlying105 hw rfl (List.getElem?_eq_getElem (by omega))
  rw [List.getElem?_eq_getElem (by omega)] at f0 f1 f2
  obtain ⟨c0, c1, c2, c3, c4, c5, rfl⟩ := six_of hlen
  simp only [List.drop_zero, List.drop_succ_cons, List.take_succ_cons, List.take_zero] at f0 f1 f2
  obtain ⟨n0, e0, _, w0⟩ := DataW.trod_string Try.underlying9 f0
  obtain ⟨t1, y1⟩ := open_ty _ _ _ f1 hw1
  obtain ⟨k2, e2, _, w2⟩ := DataW.trod_int Try.underlying3 f2
  injection e0 with e0; injection e2 with e2
  subst e0; subst e2
  exact ⟨_, MeAt.mk (T := [c1, c2, c3, c4]) y1⟩
theorem open_pr (fuel : Nat) (cs : List Value) (x : DataW H × List MemPlace) (h : DataW.trod enc Try.prog w base spare held fuel 109 cs = some x) (hw : Fits Try.prog 109 x.1) : ∃ t, PrAt w w.heap.size cs t := by
  obtain ⟨xs, n, hn, hx, hlen, hxl, hf⟩ := DataW.trod_struct Try.underlying109 h
  rw [show Try.prog.cellsOf 109 = 5 by kernel_rfl] at hlen
  have f0 : DataW.trod enc Try.prog w base spare held n 9 ((cs.drop 0).take (Try.prog.cellsOf 9)) = xs[0]? := hf 0 _ rfl
  rw [show Try.prog.cellsOf 9 = 1 by kernel_rfl] at f0
  have f1 : DataW.trod enc Try.prog w base spare held n 24 ((cs.drop 1).take (Try.prog.cellsOf 24)) = xs[1]? := hf 1 _ rfl
  rw [show Try.prog.cellsOf 24 = 4 by kernel_rfl] at f1
  have hl : xs.length = 2 := hxl
  subst hx
  have hw1 := fits_field (j := 1) Try.underlying109 hw rfl (List.getElem?_eq_getElem (by omega))
  rw [List.getElem?_eq_getElem (by omega)] at f0 f1
  obtain ⟨c0, c1, c2, c3, c4, rfl⟩ := five_of hlen
  simp only [List.drop_zero, List.drop_succ_cons, List.take_succ_cons, List.take_zero] at f0 f1
  obtain ⟨n0, e0, _, w0⟩ := DataW.trod_string Try.underlying9 f0
  obtain ⟨t1, y1⟩ := open_ty _ _ _ f1 hw1
  injection e0 with e0
  subst e0
  exact ⟨_, PrAt.mk (T := [c1, c2, c3, c4]) y1⟩
theorem open_da (fuel : Nat) (cs : List Value) (x : DataW H × List MemPlace) (h : DataW.trod enc Try.prog w base spare held fuel 79 cs = some x) (hw : Fits Try.prog 79 x.1) : ∃ t, DaAt w w.heap.size cs t := by
  obtain ⟨xs, n, hn, hx, hlen, hxl, hf⟩ := DataW.trod_struct Try.underlying79 h
  rw [show Try.prog.cellsOf 79 = 5 by kernel_rfl] at hlen
  have f0 : DataW.trod enc Try.prog w base spare held n 9 ((cs.drop 0).take (Try.prog.cellsOf 9)) = xs[0]? := hf 0 _ rfl
  rw [show Try.prog.cellsOf 9 = 1 by kernel_rfl] at f0
  have f1 : DataW.trod enc Try.prog w base spare held n 50 ((cs.drop 1).take (Try.prog.cellsOf 50)) = xs[1]? := hf 1 _ rfl
  rw [show Try.prog.cellsOf 50 = 1 by kernel_rfl] at f1
  have f2 : DataW.trod enc Try.prog w base spare held n 77 ((cs.drop 2).take (Try.prog.cellsOf 77)) = xs[2]? := hf 2 _ rfl
  rw [show Try.prog.cellsOf 77 = 1 by kernel_rfl] at f2
  have f3 : DataW.trod enc Try.prog w base spare held n 50 ((cs.drop 3).take (Try.prog.cellsOf 50)) = xs[3]? := hf 3 _ rfl
  rw [show Try.prog.cellsOf 50 = 1 by kernel_rfl] at f3
  have f4 : DataW.trod enc Try.prog w base spare held n 3 ((cs.drop 4).take (Try.prog.cellsOf 3)) = xs[4]? := hf 4 _ rfl
  rw [show Try.prog.cellsOf 3 = 1 by kernel_rfl] at f4
  have hl : xs.length = 5 := hxl
  subst hx
  have hw1 := fits_field (j := 1) Try.underlying79 hw rfl (List.getElem?_eq_getElem (by omega))
  have hw2 := fits_field (j := 2) Try.underlying79 hw rfl (List.getElem?_eq_getElem (by omega))
  have hw3 := fits_field (j := 3) Try.underlying79 hw rfl (List.getElem?_eq_getElem (by omega))
  rw [List.getElem?_eq_getElem (by omega)] at f0 f1 f2 f3 f4
  obtain ⟨c0, c1, c2, c3, c4, rfl⟩ := five_of hlen
  simp only [List.drop_zero, List.drop_succ_cons, List.take_succ_cons, List.take_zero] at f0 f1 f2 f3 f4
  obtain ⟨n0, e0, _, w0⟩ := DataW.trod_string Try.underlying9 f0
  obtain ⟨A1, p1, s1, e1, m1, r1⟩ := open_strs f1 hw1
  obtain ⟨A2, p2, s2, e2, c2', m2, r2⟩ := open_rows (R := fun w B => CoAt w B) Try.underlying77 (show Try.prog.cellsOf 101 = 3 by kernel_rfl) (by omega) (fun n' _ cs x hx hf => open_co n' cs x hx hf) f2 hw2
  obtain ⟨A3, p3, s3, e3, m3, r3⟩ := open_strs f3 hw3
  obtain ⟨k4, e4, _, w4⟩ := DataW.trod_int Try.underlying3 f4
  injection e0 with e0; injection e1 with e1; injection e2 with e2; injection e3 with e3; injection e4 with e4
  subst e0; subst e1; subst e2; subst e3; subst e4
  exact ⟨_, .mk m1 (Nat.le_trans c2' m2) m3 r1 r2 r3⟩
theorem open_cl (fuel : Nat) (cs : List Value) (x : DataW H × List MemPlace) (h : DataW.trod enc Try.prog w base spare held fuel 73 cs = some x) (hw : Fits Try.prog 73 x.1) : ∃ t, ClAt w w.heap.size cs t := by
  obtain ⟨xs, n, hn, hx, hlen, hxl, hf⟩ := DataW.trod_struct Try.underlying73 h
  rw [show Try.prog.cellsOf 73 = 6 by kernel_rfl] at hlen
  have f0 : DataW.trod enc Try.prog w base spare held n 9 ((cs.drop 0).take (Try.prog.cellsOf 9)) = xs[0]? := hf 0 _ rfl
  rw [show Try.prog.cellsOf 9 = 1 by kernel_rfl] at f0
  have f1 : DataW.trod enc Try.prog w base spare held n 9 ((cs.drop 1).take (Try.prog.cellsOf 9)) = xs[1]? := hf 1 _ rfl
  rw [show Try.prog.cellsOf 9 = 1 by kernel_rfl] at f1
  have f2 : DataW.trod enc Try.prog w base spare held n 50 ((cs.drop 2).take (Try.prog.cellsOf 50)) = xs[2]? := hf 2 _ rfl
  rw [show Try.prog.cellsOf 50 = 1 by kernel_rfl] at f2
  have f3 : DataW.trod enc Try.prog w base spare held n 71 ((cs.drop 3).take (Try.prog.cellsOf 71)) = xs[3]? := hf 3 _ rfl
  rw [show Try.prog.cellsOf 71 = 1 by kernel_rfl] at f3
  have f4 : DataW.trod enc Try.prog w base spare held n 27 ((cs.drop 4).take (Try.prog.cellsOf 27)) = xs[4]? := hf 4 _ rfl
  rw [show Try.prog.cellsOf 27 = 1 by kernel_rfl] at f4
  have f5 : DataW.trod enc Try.prog w base spare held n 3 ((cs.drop 5).take (Try.prog.cellsOf 3)) = xs[5]? := hf 5 _ rfl
  rw [show Try.prog.cellsOf 3 = 1 by kernel_rfl] at f5
  have hl : xs.length = 6 := hxl
  subst hx
  have hw2 := fits_field (j := 2) Try.underlying73 hw rfl (List.getElem?_eq_getElem (by omega))
  have hw3 := fits_field (j := 3) Try.underlying73 hw rfl (List.getElem?_eq_getElem (by omega))
  have hw4 := fits_field (j := 4) Try.underlying73 hw rfl (List.getElem?_eq_getElem (by omega))
  rw [List.getElem?_eq_getElem (by omega)] at f0 f1 f2 f3 f4 f5
  obtain ⟨c0, c1, c2, c3, c4, c5, rfl⟩ := six_of hlen
  simp only [List.drop_zero, List.drop_succ_cons, List.take_succ_cons, List.take_zero] at f0 f1 f2 f3 f4 f5
  obtain ⟨n0, e0, _, w0⟩ := DataW.trod_string Try.underlying9 f0
  obtain ⟨n1, e1, _, w1⟩ := DataW.trod_string Try.underlying9 f1
  obtain ⟨A2, p2, s2, e2, m2, r2⟩ := open_strs f2 hw2
  obtain ⟨A3, p3, s3, e3, c3', m3, r3⟩ := open_rows (R := fun w B => MeAt w B) Try.underlying71 (show Try.prog.cellsOf 105 = 6 by kernel_rfl) (by omega) (fun n' _ cs x hx hf => open_me n' cs x hx hf) f3 hw3
  obtain ⟨A4, p4, s4, e4, c4', m4, r4⟩ := open_rows (R := fun w B => BdAt w B) Try.underlying27 (show Try.prog.cellsOf 54 = 13 by kernel_rfl) (by omega) (fun n' _ cs x hx hf => open_bd n' cs x hx hf) f4 hw4
  obtain ⟨k5, e5, _, w5⟩ := DataW.trod_int Try.underlying3 f5
  injection e0 with e0; injection e1 with e1; injection e2 with e2; injection e3 with e3; injection e4 with e4; injection e5 with e5
  subst e0; subst e1; subst e2; subst e3; subst e4; subst e5
  exact ⟨_, .mk m2 (Nat.le_trans c3' m3) (Nat.le_trans c4' m4) r2 r3 r4⟩
theorem open_in (fuel : Nat) (cs : List Value) (x : DataW H × List MemPlace) (h : DataW.trod enc Try.prog w base spare held fuel 76 cs = some x) (hw : Fits Try.prog 76 x.1) : ∃ t, InAt w w.heap.size cs t := by
  obtain ⟨xs, n, hn, hx, hlen, hxl, hf⟩ := DataW.trod_struct Try.underlying76 h
  rw [show Try.prog.cellsOf 76 = 8 by kernel_rfl] at hlen
  have f0 : DataW.trod enc Try.prog w base spare held n 9 ((cs.drop 0).take (Try.prog.cellsOf 9)) = xs[0]? := hf 0 _ rfl
  rw [show Try.prog.cellsOf 9 = 1 by kernel_rfl] at f0
  have f1 : DataW.trod enc Try.prog w base spare held n 24 ((cs.drop 1).take (Try.prog.cellsOf 24)) = xs[1]? := hf 1 _ rfl
  rw [show Try.prog.cellsOf 24 = 4 by kernel_rfl] at f1
  have f2 : DataW.trod enc Try.prog w base spare held n 74 ((cs.drop 5).take (Try.prog.cellsOf 74)) = xs[2]? := hf 2 _ rfl
  rw [show Try.prog.cellsOf 74 = 1 by kernel_rfl] at f2
  have f3 : DataW.trod enc Try.prog w base spare held n 27 ((cs.drop 6).take (Try.prog.cellsOf 27)) = xs[3]? := hf 3 _ rfl
  rw [show Try.prog.cellsOf 27 = 1 by kernel_rfl] at f3
  have f4 : DataW.trod enc Try.prog w base spare held n 3 ((cs.drop 7).take (Try.prog.cellsOf 3)) = xs[4]? := hf 4 _ rfl
  rw [show Try.prog.cellsOf 3 = 1 by kernel_rfl] at f4
  have hl : xs.length = 5 := hxl
  subst hx
  have hw1 := fits_field (j := 1) Try.underlying76 hw rfl (List.getElem?_eq_getElem (by omega))
  have hw2 := fits_field (j := 2) Try.underlying76 hw rfl (List.getElem?_eq_getElem (by omega))
  have hw3 := fits_field (j := 3) Try.underlying76 hw rfl (List.getElem?_eq_getElem (by omega))
  rw [List.getElem?_eq_getElem (by omega)] at f0 f1 f2 f3 f4
  obtain ⟨c0, c1, c2, c3, c4, c5, c6, c7, rfl⟩ := eight_of hlen
  simp only [List.drop_zero, List.drop_succ_cons, List.take_succ_cons, List.take_zero] at f0 f1 f2 f3 f4
  obtain ⟨n0, e0, _, w0⟩ := DataW.trod_string Try.underlying9 f0
  obtain ⟨t1, y1⟩ := open_ty _ _ _ f1 hw1
  obtain ⟨A2, p2, s2, e2, c2', m2, r2⟩ := open_rows (R := fun w B => PrAt w B) Try.underlying74 (show Try.prog.cellsOf 109 = 5 by kernel_rfl) (by omega) (fun n' _ cs x hx hf => open_pr n' cs x hx hf) f2 hw2
  obtain ⟨A3, p3, s3, e3, c3', m3, r3⟩ := open_rows (R := fun w B => BdAt w B) Try.underlying27 (show Try.prog.cellsOf 54 = 13 by kernel_rfl) (by omega) (fun n' _ cs x hx hf => open_bd n' cs x hx hf) f3 hw3
  obtain ⟨k4, e4, _, w4⟩ := DataW.trod_int Try.underlying3 f4
  injection e0 with e0; injection e2 with e2; injection e3 with e3; injection e4 with e4
  subst e0; subst e2; subst e3; subst e4
  exact ⟨_, InAt.mk (T := [c1, c2, c3, c4]) (Nat.le_trans c2' m2) (Nat.le_trans c3' m3) y1 r2 r3⟩
theorem open_pg (fuel : Nat) (cs : List Value) (x : DataW H × List MemPlace) (h : DataW.trod enc Try.prog w base spare held fuel 46 cs = some x) (hw : Fits Try.prog 46 x.1) : ∃ t, PgAt w w.heap.size cs t := by
  obtain ⟨xs, n, hn, hx, hlen, hxl, hf⟩ := DataW.trod_struct Try.underlying46 h
  rw [show Try.prog.cellsOf 46 = 4 by kernel_rfl] at hlen
  have f0 : DataW.trod enc Try.prog w base spare held n 42 ((cs.drop 0).take (Try.prog.cellsOf 42)) = xs[0]? := hf 0 _ rfl
  rw [show Try.prog.cellsOf 42 = 1 by kernel_rfl] at f0
  have f1 : DataW.trod enc Try.prog w base spare held n 43 ((cs.drop 1).take (Try.prog.cellsOf 43)) = xs[1]? := hf 1 _ rfl
  rw [show Try.prog.cellsOf 43 = 1 by kernel_rfl] at f1
  have f2 : DataW.trod enc Try.prog w base spare held n 44 ((cs.drop 2).take (Try.prog.cellsOf 44)) = xs[2]? := hf 2 _ rfl
  rw [show Try.prog.cellsOf 44 = 1 by kernel_rfl] at f2
  have f3 : DataW.trod enc Try.prog w base spare held n 27 ((cs.drop 3).take (Try.prog.cellsOf 27)) = xs[3]? := hf 3 _ rfl
  rw [show Try.prog.cellsOf 27 = 1 by kernel_rfl] at f3
  have hl : xs.length = 4 := hxl
  subst hx
  have hw0 := fits_field (j := 0) Try.underlying46 hw rfl (List.getElem?_eq_getElem (by omega))
  have hw1 := fits_field (j := 1) Try.underlying46 hw rfl (List.getElem?_eq_getElem (by omega))
  have hw2 := fits_field (j := 2) Try.underlying46 hw rfl (List.getElem?_eq_getElem (by omega))
  have hw3 := fits_field (j := 3) Try.underlying46 hw rfl (List.getElem?_eq_getElem (by omega))
  rw [List.getElem?_eq_getElem (by omega)] at f0 f1 f2 f3
  obtain ⟨c0, c1, c2, c3, rfl⟩ := four_of hlen
  simp only [List.drop_zero, List.drop_succ_cons, List.take_succ_cons, List.take_zero] at f0 f1 f2 f3
  obtain ⟨A0, p0, s0, e0, c0', m0, r0⟩ := open_rows (R := fun w B => DaAt w B) Try.underlying42 (show Try.prog.cellsOf 79 = 5 by kernel_rfl) (by omega) (fun n' _ cs x hx hf => open_da n' cs x hx hf) f0 hw0
  obtain ⟨A1, p1, s1, e1, c1', m1, r1⟩ := open_rows (R := fun w B => ClAt w B) Try.underlying43 (show Try.prog.cellsOf 73 = 6 by kernel_rfl) (by omega) (fun n' _ cs x hx hf => open_cl n' cs x hx hf) f1 hw1
  obtain ⟨A2, p2, s2, e2, c2', m2, r2⟩ := open_rows (R := fun w B => InAt w B) Try.underlying44 (show Try.prog.cellsOf 76 = 8 by kernel_rfl) (by omega) (fun n' _ cs x hx hf => open_in n' cs x hx hf) f2 hw2
  obtain ⟨A3, p3, s3, e3, c3', m3, r3⟩ := open_rows (R := fun w B => BdAt w B) Try.underlying27 (show Try.prog.cellsOf 54 = 13 by kernel_rfl) (by omega) (fun n' _ cs x hx hf => open_bd n' cs x hx hf) f3 hw3
  injection e0 with e0; injection e1 with e1; injection e2 with e2; injection e3 with e3
  subst e0; subst e1; subst e2; subst e3
  exact ⟨_, .mk (Nat.le_trans c0' m0) (Nat.le_trans c1' m1) (Nat.le_trans c2' m2) (Nat.le_trans c3' m3) r0 r1 r2 r3⟩
end

end Go.Proofs.Ytglamoiimmahgaa
