/- What came in, read as trees. -/
import Derived.Test.YtgmcjnhaedfinaaTrees
import Derived.OpenShut
import Derived.DataReads
import Derived.Deep.Slices
import Derived.SizedLaws
namespace Go.Proofs.Ytgmcjnhaedfinaa
open Go.RowKit Go.ChangeShapes Go.WideShapes
set_option linter.unusedVariables false

theorem flat_inv {size : Nat} (hs : 0 < size) : ∀ (L : List (List Value)), (∀ l ∈ L, l.length = size) → ∀ j u, L.flatten[j]? = some u → ∃ hi : j / size < L.length, L[j / size][j % size]? = some u
  | [], _, j, u, h => by simp at h
  | l :: L, hl, j, u, h => by
    have e := hl l (by simp)
    simp only [List.flatten_cons] at h
    by_cases hj : j < size
    · rw [List.getElem?_append_left (by omega)] at h
      have h0 : j / size = 0 := Nat.div_eq_of_lt hj
      have h1 : j % size = j := Nat.mod_eq_of_lt hj
      refine ⟨by rw [h0]; simp, ?_⟩
      simp only [h0, h1]
      exact h
    · rw [List.getElem?_append_right (by omega), e] at h
      obtain ⟨hi, hu⟩ := flat_inv hs L (fun l' h' => hl l' (by simp [h'])) (j - size) u h
      have h0 : j / size = (j - size) / size + 1 := by rw [Nat.div_eq_sub_div hs (by omega)]
      have h1 : j % size = (j - size) % size := by rw [Nat.mod_eq_sub_mod (by omega)]
      refine ⟨by rw [h0]; simpa using hi, ?_⟩
      simp only [h0, h1, List.getElem_cons_succ]
      exact hu
theorem flat_len {size : Nat} : ∀ (L : List (List Value)), (∀ l ∈ L, l.length = size) → L.flatten.length = L.length * size
  | [], _ => by simp
  | l :: L, hl => by
    simp only [List.flatten_cons, List.length_append, List.length_cons]
    rw [flat_len L (fun l' h' => hl l' (by simp [h'])), hl l (by simp), Nat.succ_mul]; omega

/-- No slice and no string within is greater than the form's reach. -/
def Fits {H : Type} (P : Program) (t : TypeId) (d : DataW H) : Prop := ∀ m ∈ DataW.weights P t d, m ≤ reachBytes
theorem fits_param {H : Type} {P : Program} {ts : List TypeId} {ds : List (DataW H)} (h : (DataW.weightsEach P ts ds).all (· ≤ reachBytes) = true) {j : Nat} {t : TypeId} {d : DataW H} (ht : ts[j]? = some t) (hd : ds[j]? = some d) : Fits P t d := fun m hm => by
  have := List.all_eq_true.1 h m (DataW.weights_mem_each ht hd m hm)
  simpa using this
theorem weights_all {H : Type} {P : Program} {e : TypeId} {d : DataW H} {m : Nat} : ∀ {l : List (DataW H)}, d ∈ l → m ∈ DataW.weights P e d → m ∈ DataW.weightsAll P e l
  | [], h, _ => by simp at h
  | d' :: l, h, hm => by
    simp only [DataW.weightsAll, List.mem_append]
    rw [List.mem_cons] at h
    rcases h with rfl | h
    · exact .inl hm
    · exact .inr (weights_all h hm)
theorem fits_field {H : Type} {P : Program} {t : TypeId} {fs : Array Field} {xs : List (DataW H × List MemPlace)} {j : Nat} {f : Field} {y : DataW H × List MemPlace} (ht : P.underlying t = some (.struct fs)) (hw : Fits P t (.agg (xs.map (·.1)))) (hf : fs[j]? = some f) (hy : xs[j]? = some y) : Fits P f.type y.1 := fun m hm => by
  refine hw m ?_
  simp only [DataW.weights, ht]
  exact DataW.weights_mem_each (j := j) (t := f.type) (d := y.1) (by simp [hf]) (by simp [hy]) m hm

section
variable {H : Type} {enc : TypeId × Value → H} {P : Program} {w : World} {base : Nat} {spare : Nat → Bool} {held : Bool}
theorem open_row {t e : TypeId} {size by_ : Nat} {Q : List Value → Prop} {fuel : Nat} {cs : List Value} {x : DataW H × List MemPlace} (ht : P.underlying t = some (.slice e)) (hC : P.cellsOf e = size) (hs : 0 < size)
    (hby : P.bytesOf e = by_) (hq : ∀ n, n < fuel → ∀ cs x, DataW.trod enc P w base spare held n e cs = some x → Fits P e x.1 → Q cs) (h : DataW.trod enc P w base spare held fuel t cs = some x) (hw : Fits P t x.1) :
    ∃ (A : Option Addr) (len cap : Nat) (L : List (List Value)), cs = [.slice A len cap] ∧ len ≤ cap ∧ cap ≤ maxLen ∧ len * by_ ≤ 140737488351232 ∧ Row w w.heap.size size A len L ∧ ∀ l ∈ L, Q l := by
  rcases DataW.trod_slice ht h with ⟨hcs, _⟩ | ⟨a, len, cap, elems, rest, n, hf, hcs, hx, hb, hl, hm, hlen, hel, _, _⟩
  · exact ⟨none, 0, 0, [], hcs, Nat.le_refl _, Nat.zero_le _, by simp, ⟨rfl, fun l h => by simp at h, Reads.none_⟩, fun l h => by simp at h⟩
  · rw [hC] at hel
    subst hx
    have hwl : len * by_ ≤ 140737488351232 := by
      have := hw ((elems.length + rest.length) * P.bytesOf e) (by simp [DataW.weights, ht])
      rw [hby, hlen, Nat.add_mul] at this
      unfold reachBytes at this
      omega
    have hex : ∀ i, i < len → ∃ l : List Value, l.length = size ∧ (∀ j, j < size → w.cell? ((a.add (i * size)).add j) = l[j]?) ∧ Q l := by
      intro i hi
      have h1 := hel i hi
      rw [List.getElem?_eq_getElem (by omega)] at h1
      obtain ⟨l, hc, ht2⟩ := Option.bind_eq_some_iff.1 h1
      obtain ⟨_, h2, h3⟩ := World.cells?_some hc
      exact ⟨l, h2, h3, hq n (by omega) l _ ht2 (fun m hm => hw m (by
        simp only [DataW.weights, ht, List.mem_cons, List.mem_append]
        exact .inr (.inl (weights_all (List.mem_map.2 ⟨elems[i], List.getElem_mem _, rfl⟩) hm))))⟩
    obtain ⟨f, hf⟩ := Go.Deep.choose_lt hex
    have hlens : ∀ l ∈ (List.range len).map f, l.length = size := by
      intro l hl
      obtain ⟨i, hi, rfl⟩ := List.mem_map.1 hl
      exact (hf i (List.mem_range.1 hi)).1
    refine ⟨some a, len, cap, (List.range len).map f, hcs, hl, hm, hwl, ⟨by simp, hlens, ⟨by rw [flat_len _ hlens]; simp, fun hn => ⟨a, rfl, ?_, fun j u hu => ?_⟩⟩⟩, fun l hl => ?_⟩
    · have h0 := (hf 0 hn).2.1 0 hs
      rw [List.getElem?_eq_getElem (by rw [(hf 0 hn).1]; exact hs)] at h0
      have := World.block_lt_of_cell? w _ h0
      rwa [block_of_add, block_of_add] at this
    · obtain ⟨hi, hu2⟩ := flat_inv hs _ hlens j u hu
      have hi2 : j / size < len := by simpa using hi
      simp only [List.getElem_map, List.getElem_range] at hu2
      have := (hf (j / size) hi2).2.1 (j % size) (Nat.mod_lt _ hs)
      rw [hu2, add_of_add, Nat.div_add_mod'] at this
      exact this
    · obtain ⟨i, hi, rfl⟩ := List.mem_map.1 hl
      exact (hf i (List.mem_range.1 hi)).2.2
end

section
variable {H : Type} {enc : TypeId × Value → H} {w : World} {base : Nat} {spare : Nat → Bool} {held : Bool}
theorem each_of {α : Type} {R : List Value → α → Prop} : ∀ (L : List (List Value)), (∀ l ∈ L, ∃ t, R l t) → ∃ ks : List α, ks.length = L.length ∧ ∀ i (h1 : i < L.length) (h2 : i < ks.length), R L[i] ks[i]
  | [], _ => ⟨[], rfl, fun i h => by simp at h⟩
  | l :: L, h => by
    obtain ⟨t, ht⟩ := h l (by simp)
    obtain ⟨ks, hk, hr⟩ := each_of L (fun l' h' => h l' (by simp [h']))
    refine ⟨t :: ks, by simp [hk], fun i h1 h2 => ?_⟩
    cases i with
    | zero => exact ht
    | succ i => exact hr i (by simpa using h1) (by simpa using h2)
theorem bytes_ty : Try.prog.bytesOf 24 = 56 := by kernel_rfl
theorem cells_ty : Try.prog.cellsOf 24 = 4 := by kernel_rfl
theorem cells_one : Try.prog.cellsOf 3 = 1 ∧ Try.prog.cellsOf 9 = 1 ∧ Try.prog.cellsOf 2 = 1 ∧ Try.prog.cellsOf 22 = 1 ∧ True := ⟨by kernel_rfl, by kernel_rfl, by kernel_rfl, by kernel_rfl, trivial⟩
theorem open_ty (fuel : Nat) : ∀ (cs : List Value) (x : DataW H × List MemPlace), DataW.trod enc Try.prog w base spare held fuel 24 cs = some x → Fits Try.prog 24 x.1 → ∃ t, TyAt w w.heap.size cs t := by
  induction fuel using Nat.strongRecOn with
  | ind fuel ih =>
    intro cs x h hw
    obtain ⟨xs, n, hn, hx, hlen, hxl, hf⟩ := DataW.trod_struct Try.underlying24 h
    rw [cells_ty] at hlen
    obtain ⟨o1, o2, o3, o4, _⟩ := cells_one
    have f0 : DataW.trod enc Try.prog w base spare held n 3 ((cs.drop 0).take (Try.prog.cellsOf 3)) = xs[0]? := hf 0 _ rfl
    have f1 : DataW.trod enc Try.prog w base spare held n 9 ((cs.drop 1).take (Try.prog.cellsOf 9)) = xs[1]? := hf 1 _ rfl
    have f2 : DataW.trod enc Try.prog w base spare held n 3 ((cs.drop 2).take (Try.prog.cellsOf 3)) = xs[2]? := hf 2 _ rfl
    have f3 : DataW.trod enc Try.prog w base spare held n 22 ((cs.drop 3).take (Try.prog.cellsOf 22)) = xs[3]? := hf 3 _ rfl
    rw [o1] at f0 f2
    rw [o2] at f1
    rw [o4] at f3
    have hl : xs.length = 4 := hxl
    subst hx
    have hw3 := fits_field (j := 3) Try.underlying24 hw rfl (List.getElem?_eq_getElem (by omega))
    rw [List.getElem?_eq_getElem (by omega)] at f0 f1 f2 f3
    obtain ⟨c0, c1, c2, c3, rfl⟩ := four_of hlen
    simp only [List.drop_zero, List.drop_succ_cons, List.take_succ_cons, List.take_zero] at f0 f1 f2 f3
    obtain ⟨k, e0, _, w0⟩ := DataW.trod_int Try.underlying3 f0
    obtain ⟨nm, e1, _, w1⟩ := DataW.trod_string Try.underlying9 f1
    obtain ⟨m, e2, _, w2⟩ := DataW.trod_int Try.underlying3 f2
    obtain ⟨A, len, cap, L, e3, hc, hm, hb, hr, hq⟩ := open_row (Q := fun l => ∃ t, TyAt w w.heap.size l t) Try.underlying22 cells_ty (by omega) bytes_ty (fun n' h' cs x hx hf => ih n' (by omega) cs x hx hf) f3 hw3
    injection e0 with e0; injection e1 with e1; injection e2 with e2; injection e3 with e3
    subst e0; subst e1; subst e2; subst e3
    obtain ⟨ks, hkl, hks⟩ := each_of L hq
    have hkn : ks.length = len := by rw [hkl, hr.len]
    subst hkn
    exact ⟨.mk k nm m ks, .mk w0 w1 w2 hc hm hb hr hks⟩
end

end Go.Proofs.Ytgmcjnhaedfinaa
