/- What came in, read: names, types and substitutions. -/
import Derived.Test.YtihdhdmpmmlfcaaQop
import Derived.Test.YtihdhdmpmmlfcaaQbd
namespace Go.Proofs.Ytihdhdmpmmlfcaa
open Go.RowKit Go.ChangeShapes Go.WideShapes
set_option linter.unusedVariables false

structure Tn where
  names : List ByteArray
  ts : List Ty
  subs : List Sb
/-- A struct of three slices. -/
def TnAt (w : World) (B : Nat) (cs : List Value) (t : Tn) : Prop :=
  ∃ (A A' A'' : Option Addr) (c c' c'' : Nat) (L L' : List (List Value)), cs = [.slice A t.names.length c, .slice A' t.ts.length c', .slice A'' t.subs.length c''] ∧
    (t.names.length ≤ c ∧ c ≤ maxLen ∧ Reads w B 1 A t.names.length (nmVals t.names) ∧ ∀ s ∈ t.names, s.size ≤ maxLen) ∧ (t.ts.length ≤ c' ∧ c' ≤ maxLen ∧ TysAt w B A' t.ts L) ∧ (t.subs.length ≤ c'' ∧ c'' ≤ maxLen ∧ SbsAt w B A'' t.subs L')
theorem bytes_sub : Try.prog.bytesOf 47 = 64 := by kernel_rfl
theorem cells_sub : Try.prog.cellsOf 47 = 5 := by kernel_rfl
theorem bytes_str : Try.prog.bytesOf 9 = 16 := by kernel_rfl
theorem cells_str : Try.prog.cellsOf 9 = 1 := by kernel_rfl
theorem cells_turn : Try.prog.cellsOf 44 = 3 := by kernel_rfl
theorem cells_rows : Try.prog.cellsOf 34 = 1 ∧ Try.prog.cellsOf 22 = 1 ∧ Try.prog.cellsOf 42 = 1 ∧ Try.prog.cellsOf 3 = 1 := ⟨by kernel_rfl, by kernel_rfl, by kernel_rfl, by kernel_rfl⟩
theorem flat_one : ∀ (L : List (List Value)) (ks : List ByteArray), ks.length = L.length → (∀ i (h1 : i < L.length) (h2 : i < ks.length), L[i] = [.string ks[i]]) → L.flatten = nmVals ks
  | [], [], _, _ => rfl
  | [], k :: ks, h, _ => by simp at h
  | l :: L, [], h, _ => by simp at h
  | l :: L, k :: ks, h, hi => by
    have h0 : l = [.string k] := hi 0 (by simp) (by simp)
    rw [List.flatten_cons, flat_one L ks (by simpa using h) (fun i h1 h2 => hi (i + 1) (by simp; omega) (by simp; omega)), h0]
    rfl
section
variable {H : Type} {enc : TypeId × Value → H} {w : World} {base : Nat} {spare : Nat → Bool} {held : Bool}
theorem open_sub (fuel : Nat) (cs : List Value) (x : DataW H × List MemPlace) (h : DataW.trod enc Try.prog w base spare held fuel 47 cs = some x) (hw : Fits Try.prog 47 x.1) :
    ∃ s : Sb, ∃ ct : List Value, cs = .int .i64 s.n :: ct ∧ ok64 s.n ∧ TyAt w w.heap.size ct s.t := by
  obtain ⟨xs, n, hn, hx, hlen, hxl, hf⟩ := DataW.trod_struct Try.underlying47 h
  rw [cells_sub] at hlen
  have f0 : DataW.trod enc Try.prog w base spare held n 3 ((cs.drop 0).take (Try.prog.cellsOf 3)) = xs[0]? := hf 0 _ rfl
  have f1 : DataW.trod enc Try.prog w base spare held n 24 ((cs.drop 1).take (Try.prog.cellsOf 24)) = xs[1]? := hf 1 _ rfl
  rw [cells_rows.2.2.2] at f0
  rw [cells_ty] at f1
  have hl : xs.length = 2 := hxl
  subst hx
  have hw1 := fits_field (j := 1) Try.underlying47 hw rfl (List.getElem?_eq_getElem (by omega))
  rw [List.getElem?_eq_getElem (by omega)] at f0 f1
  obtain ⟨c0, c1, c2, c3, c4, rfl⟩ := five_of hlen
  simp only [List.drop_zero, List.drop_succ_cons, List.take_succ_cons, List.take_zero] at f0 f1
  obtain ⟨k, e0, _, w0⟩ := DataW.trod_int Try.underlying3 f0
  obtain ⟨t, ht⟩ := open_ty n _ _ f1 hw1
  injection e0 with e0
  subst e0
  exact ⟨⟨k, t⟩, _, rfl, w0, ht⟩
theorem open_tn (fuel : Nat) (cs : List Value) (x : DataW H × List MemPlace) (h : DataW.trod enc Try.prog w base spare held fuel 44 cs = some x) (hw : Fits Try.prog 44 x.1) : ∃ t, TnAt w w.heap.size cs t := by
  obtain ⟨xs, n, hn, hx, hlen, hxl, hf⟩ := DataW.trod_struct Try.underlying44 h
  rw [cells_turn] at hlen
  obtain ⟨o1, o2, o3, _⟩ := cells_rows
  have f0 : DataW.trod enc Try.prog w base spare held n 34 ((cs.drop 0).take (Try.prog.cellsOf 34)) = xs[0]? := hf 0 _ rfl
  have f1 : DataW.trod enc Try.prog w base spare held n 22 ((cs.drop 1).take (Try.prog.cellsOf 22)) = xs[1]? := hf 1 _ rfl
  have f2 : DataW.trod enc Try.prog w base spare held n 42 ((cs.drop 2).take (Try.prog.cellsOf 42)) = xs[2]? := hf 2 _ rfl
  rw [o1] at f0
  rw [o2] at f1
  rw [o3] at f2
  have hl : xs.length = 3 := hxl
  subst hx
  have hw0 := fits_field (j := 0) Try.underlying44 hw rfl (List.getElem?_eq_getElem (by omega))
  have hw1 := fits_field (j := 1) Try.underlying44 hw rfl (List.getElem?_eq_getElem (by omega))
  have hw2 := fits_field (j := 2) Try.underlying44 hw rfl (List.getElem?_eq_getElem (by omega))
  rw [List.getElem?_eq_getElem (by omega)] at f0 f1 f2
  obtain ⟨c0, c1, c2, rfl⟩ : ∃ c0 c1 c2, cs = [c0, c1, c2] := by
    match cs, hlen with
    | [c0, c1, c2], _ => exact ⟨c0, c1, c2, rfl⟩
  simp only [List.drop_zero, List.drop_succ_cons, List.take_succ_cons, List.take_zero] at f0 f1 f2
  obtain ⟨A, n1, c, L1, e0, hc, hm, hb, hr, hq⟩ := open_row (Q := fun l => ∃ s : ByteArray, l = [.string s] ∧ s.size ≤ maxLen) Try.underlying34 cells_str (by omega) bytes_str (fun n' h' cs x hx hf => by
    obtain ⟨s, es, _, ws⟩ := DataW.trod_string Try.underlying9 hx
    exact ⟨s, es, ws⟩) f0 hw0
  obtain ⟨A', n2, c', L2, e1, hc', hm', hb', hr', hq'⟩ := open_row (Q := fun l => ∃ t, TyAt w w.heap.size l t) Try.underlying22 cells_ty (by omega) bytes_ty (fun n' h' cs x hx hf => open_ty n' cs x hx hf) f1 hw1
  obtain ⟨A'', n3, c'', L3, e2, hc'', hm'', hb'', hr'', hq''⟩ := open_row (Q := fun l => ∃ s : Sb, ∃ ct : List Value, l = .int .i64 s.n :: ct ∧ ok64 s.n ∧ TyAt w w.heap.size ct s.t) Try.underlying42 cells_sub (by omega) bytes_sub (fun n' h' cs x hx hf => open_sub n' cs x hx hf) f2 hw2
  injection e0 with e0; injection e1 with e1; injection e2 with e2
  subst e0; subst e1; subst e2
  obtain ⟨ks, hkl, hks⟩ := each_of (R := fun l (s : ByteArray) => l = [.string s] ∧ s.size ≤ maxLen) L1 hq
  obtain ⟨ts, htl, hts⟩ := each_of L2 hq'
  obtain ⟨sb, hsl, hsb⟩ := each_of (R := fun l (s : Sb) => ∃ ct : List Value, l = .int .i64 s.n :: ct ∧ ok64 s.n ∧ TyAt w w.heap.size ct s.t) L3 hq''
  have e1 : ks.length = n1 := by rw [hkl, hr.len]
  have e2 : ts.length = n2 := by rw [htl, hr'.len]
  have e3 : sb.length = n3 := by rw [hsl, hr''.len]
  subst e1 e2 e3
  refine ⟨⟨ks, ts, sb⟩, A, A', A'', c, c', c'', L2, L3, rfl, ⟨hc, hm, ?_, fun s hs => ?_⟩, ⟨hc', hm', hr', hts⟩, ⟨hc'', hm'', hr'', hsb⟩⟩
  · have := hr.reads
    rw [flat_one L1 ks hkl (fun i h1 h2 => (hks i h1 h2).1)] at this
    exact this
  · obtain ⟨i, hi, rfl⟩ := List.getElem_of_mem hs
    exact (hks i (by rw [← hkl]; exact hi) hi).2
end

end Go.Proofs.Ytihdhdmpmmlfcaa
