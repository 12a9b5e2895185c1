/- Memory: the results of operators that have been applied: a row of its own, and beside it what its elements hold. -/
import Derived.Test.YtiiddmioafhmoaaDoorPapa
import Derived.WalkSmall
namespace Go.Proofs.YtiiddmioafhmoaaDoor
open Go.RowKit
set_option linter.unusedVariables false
set_option linter.unusedSimpArgs false
set_option maxRecDepth 100000

structure StkAt (X : Nat → Bool) (B : Nat) (W : World) (g c : Nat) (l : List Ex) : Prop where
  ex : ∃ L : List (List Value), W.ownsRow B 32 11 (.slice (some ⟨g, 0, none⟩) l.length c) l.length L.flatten ∧ L.length = l.length ∧ (∀ x ∈ L, x.length = 11) ∧ ∀ i (h1 : i < L.length) (h2 : i < l.length), rEx.M (exX X g) W L[i] l[i]
section
variable {X : Nat → Bool} {B : Nat} {W W' : World} {g c : Nat} {l : List Ex}
theorem own_lt {e : TypeId} {size n : Nat} {ys : List Value} (h : W.ownsRow B e size (.slice (some ⟨g, 0, none⟩) n c) n ys) : B ≤ g ∧ g < W.heap.size ∧ n ≤ c ∧ c ≤ maxLen := by
  rcases h.2 with ⟨h0, _⟩ | ⟨g', cap, cur, hv, hg, hh, hn, hm, _⟩
  · cases h0
  · cases hv; exact ⟨hg, (Array.getElem?_eq_some_iff.1 hh).1, hn, hm⟩
theorem StkAt.bnd (h : StkAt X B W g c l) : B ≤ g ∧ g < W.heap.size ∧ l.length ≤ c ∧ c ≤ maxLen := by
  obtain ⟨L, h1, _⟩ := h.ex
  exact own_lt h1
theorem own_belowS {e : TypeId} {size n : Nat} {v : Value} {ys : List Value} (h : W.ownsRow B e size v n ys) (hb : Below W.heap.size W W') : W'.ownsRow B e size v n ys := by
  refine ⟨h.1, ?_⟩
  rcases h.2 with h0 | ⟨g, cap, cur, hv, hg, hh, hr⟩
  · exact Or.inl h0
  · exact Or.inr ⟨g, cap, cur, hv, hg, (hb.block g (Array.getElem?_eq_some_iff.1 hh).1).trans hh, hr⟩
theorem StkAt.below (h : StkAt X B W g c l) (hb : Below W.heap.size W W') : StkAt X B W' g c l := by
  obtain ⟨L, h1, h2, h3, h4⟩ := h.ex
  exact ⟨L, own_belowS h1 hb, h2, h3, fun i k1 k2 => (h4 i k1 k2).later (Low.of_below hb)⟩
theorem StkAt.one {x : Ex} {es : List Value} (w : World) (hx : rEx.M X w es x) (hB : B ≤ w.heap.size) : StkAt X B (w.alloc (.cells es.toArray 32)) w.heap.size 1 [x] := by
  have hlen := ex_len' hx
  refine ⟨[es], by simpa using World.ownsRow_lit (base := B) (e := 32) (size := 11) w es.toArray 1 hB (by simp [maxLen]) (by simp [hlen]), rfl, fun x hx => by simp only [List.mem_cons, List.not_mem_nil, or_false] at hx; subst hx; exact hlen, fun i k1 k2 => ?_⟩
  match i, k1 with
  | 0, _ => exact (hx.to_exX (Nat.le_refl _)).later (Low.of_below (below_new' _ _))
theorem StkAt.add {g' c' : Nat} {a : Ex} {E : List Value} {L : List (List Value)} (h2 : L.length = l.length) (h3 : ∀ x ∈ L, x.length = 11) (h4 : ∀ i (h1 : i < L.length) (h2 : i < l.length), rEx.M (exX X g) W L[i] l[i])
    (ha : rEx.M (exX X g) W E a) (hown : W'.ownsRow B 32 11 (.slice (some ⟨g', 0, none⟩) (l.length + 1) c') (l.length + 1) (L.flatten ++ E)) (hg : W.grownBy W' (some g)) (hlies : g = g' ∨ W.heap.size ≤ g') :
    StkAt X B W' g' c' (l ++ [a]) := by
  have turn : ∀ (cs : List Value) (x : Ex), rEx.M (exX X g) W cs x → rEx.M (exX X g') W' cs x := by
    intro cs x hx
    refine rEx.more (B := W.heap.size) (rEx.imp hx fun p u hb hc => ?_) hg.size
    cases hX : exX X g p.block with
    | true => exact (mask_none hX hc).elim
    | false =>
      rw [mask_cell hX] at hc
      unfold exX at hX
      simp only [Bool.or_eq_false_iff, beq_eq_false_iff_ne, ne_eq] at hX
      rw [mask_cell]
      · rw [World.cell?_of_block (w := W) (hg.block _ hb (fun e => hX.2 (Option.some.inj e)))]; exact hc
      · exact exX_no hX.1 (fun e => by
          rcases hlies with h5 | h5
          · exact hX.2 (by omega)
          · omega)
  refine ⟨L ++ [E], by rw [List.length_append, List.flatten_append]; simpa using hown, by simp [h2], fun x hx => ?_, fun i k1 k2 => ?_⟩
  · rcases List.mem_append.1 hx with hx | hx
    · exact h3 x hx
    · simp at hx; rw [hx]; exact ex_len' ha
  · by_cases hi : i < L.length
    · rw [List.getElem_append_left hi, List.getElem_append_left (by omega)]
      exact turn _ _ (h4 i hi (by omega))
    · have hi2 : i = L.length := by simp at k1; omega
      subst hi2
      rw [List.getElem_append_right (by omega)]
      simp only [Nat.sub_self, List.getElem_cons_zero]
      have : (l ++ [a])[L.length] = a := by simp [h2]
      rw [this]
      exact turn _ _ ha
/-- An element's cells. -/
theorem StkAt.at_ (h : StkAt X B W g c l) {i : Nat} (hi : i < l.length) : ∃ es : List Value, rEx.M (exX X g) W es l[i] ∧ ∀ j u, es[j]? = some u → W.cell? ⟨g, i * 11 + j, none⟩ = some u := by
  obtain ⟨L, h1, h2, h3, h4⟩ := h.ex
  have hL : i < L.length := by omega
  refine ⟨L[i], h4 i hL hi, fun j u hu => ?_⟩
  have hf := flat_at L h3 i j u hL hu
  have hlt : i * 11 + j < L.flatten.length := (List.getElem?_eq_some_iff.1 hf).1
  have hj := (List.getElem?_eq_some_iff.1 hu).1
  rw [h3 _ (List.getElem_mem hL)] at hj
  rw [h1.cellAt _ (by omega), ← hf]
theorem StkAt.frozen (h : StkAt X B W g c l) (i : Nat) : W.frozen? ⟨g, i, none⟩ = false := by
  obtain ⟨L, h1, _⟩ := h.ex
  rcases h1.2 with ⟨h0, _⟩ | ⟨g', cap, cur, hv, hg, hh, _⟩
  · cases h0
  · cases hv; exact Blk.frozen (cs := cur) hh i
theorem own_set {e : TypeId} {size n : Nat} {ys : List Value} (h : W.ownsRow B e size (.slice (some ⟨g, 0, none⟩) n c) n ys) (i : Nat) (u : Value) (hi : i < ys.length) : (W.setCell ⟨g, i, none⟩ u).ownsRow B e size (.slice (some ⟨g, 0, none⟩) n c) n (ys.set i u) := by
  rcases h with ⟨h0, ⟨h1, _⟩ | ⟨g', cap, cur, hv, hg, hh, hn, hm, hs, ht⟩⟩
  · cases h1
  · cases hv
    refine ⟨by rw [List.length_set]; exact h0, .inr ⟨g, c, cur.setIfInBounds i u, rfl, hg, Blk.set_ (cs := cur) hh i u, hn, hm, by simpa using hs, ?_⟩⟩
    rw [Array.toList_setIfInBounds, ← ht, List.take_set]
theorem below_set11o {B o : Nat} {W w : World} {g : Nat} (h : Below B W w) (hg : B ≤ g) (z0 z1 z2 z3 z4 z5 z6 z7 z8 z9 z10 : Value) : Below B W ((((((((((((w).setCell ⟨g, o, none⟩ z0).setCell ⟨g, o + 1, none⟩ z1).setCell ⟨g, o + 2, none⟩ z2).setCell ⟨g, o + 3, none⟩ z3).setCell ⟨g, o + 4, none⟩ z4).setCell ⟨g, o + 5, none⟩ z5).setCell ⟨g, o + 6, none⟩ z6).setCell ⟨g, o + 7, none⟩ z7).setCell ⟨g, o + 8, none⟩ z8).setCell ⟨g, o + 9, none⟩ z9).setCell ⟨g, o + 10, none⟩ z10) := (((((((((((h).setCell (p := ⟨g, o, none⟩) hg z0).setCell (p := ⟨g, o + 1, none⟩) hg z1).setCell (p := ⟨g, o + 2, none⟩) hg z2).setCell (p := ⟨g, o + 3, none⟩) hg z3).setCell (p := ⟨g, o + 4, none⟩) hg z4).setCell (p := ⟨g, o + 5, none⟩) hg z5).setCell (p := ⟨g, o + 6, none⟩) hg z6).setCell (p := ⟨g, o + 7, none⟩) hg z7).setCell (p := ⟨g, o + 8, none⟩) hg z8).setCell (p := ⟨g, o + 9, none⟩) hg z9).setCell (p := ⟨g, o + 10, none⟩) hg z10
theorem setF {F R : List Value} {o : Nat} (h : F.length = o) (j : Nat) (u : Value) : (F ++ R).set (o + j) u = F ++ R.set j u := by
  subst h
  rw [List.set_append_right _ _ (by omega), show F.length + j - F.length = j by omega]
theorem setF0 {F R : List Value} {o : Nat} (h : F.length = o) (u : Value) : (F ++ R).set o u = F ++ R.set 0 u := setF h 0 u
/-- The two last results make one. -/
theorem StkAt.put {w : World} {l : List Ex} {a b e : Ex} {ZS : List Value} (h : StkAt X B w g c (l ++ [a, b])) (he : rEx.M (exX X g) w ZS e) (o : Nat) (ho : l.length * 11 = o) (z0 z1 z2 z3 z4 z5 z6 z7 z8 z9 z10 : Value) (hz : ZS = [z0, z1, z2, z3, z4, z5, z6, z7, z8, z9, z10]) :
    StkAt X B ((((((((((((w).setCell ⟨g, o, none⟩ z0).setCell ⟨g, o + 1, none⟩ z1).setCell ⟨g, o + 2, none⟩ z2).setCell ⟨g, o + 3, none⟩ z3).setCell ⟨g, o + 4, none⟩ z4).setCell ⟨g, o + 5, none⟩ z5).setCell ⟨g, o + 6, none⟩ z6).setCell ⟨g, o + 7, none⟩ z7).setCell ⟨g, o + 8, none⟩ z8).setCell ⟨g, o + 9, none⟩ z9).setCell ⟨g, o + 10, none⟩ z10) g c (l ++ [e]) := by
  subst hz
  obtain ⟨L, h1, h2, h3, h4⟩ := h.ex
  have hlow : Low (exX X g) w ((((((((((((w).setCell ⟨g, o, none⟩ z0).setCell ⟨g, o + 1, none⟩ z1).setCell ⟨g, o + 2, none⟩ z2).setCell ⟨g, o + 3, none⟩ z3).setCell ⟨g, o + 4, none⟩ z4).setCell ⟨g, o + 5, none⟩ z5).setCell ⟨g, o + 6, none⟩ z6).setCell ⟨g, o + 7, none⟩ z7).setCell ⟨g, o + 8, none⟩ z8).setCell ⟨g, o + 9, none⟩ z9).setCell ⟨g, o + 10, none⟩ z10) := Low.set_ (p := ⟨g, o + 10, none⟩) (Low.set_ (p := ⟨g, o + 9, none⟩) (Low.set_ (p := ⟨g, o + 8, none⟩) (Low.set_ (p := ⟨g, o + 7, none⟩) (Low.set_ (p := ⟨g, o + 6, none⟩) (Low.set_ (p := ⟨g, o + 5, none⟩) (Low.set_ (p := ⟨g, o + 4, none⟩) (Low.set_ (p := ⟨g, o + 3, none⟩) (Low.set_ (p := ⟨g, o + 2, none⟩) (Low.set_ (p := ⟨g, o + 1, none⟩) (Low.set_ (p := ⟨g, o, none⟩) ((Chg.refl _ _)) (.inl (exX_self X g)) z0) (.inl (exX_self X g)) z1) (.inl (exX_self X g)) z2) (.inl (exX_self X g)) z3) (.inl (exX_self X g)) z4) (.inl (exX_self X g)) z5) (.inl (exX_self X g)) z6) (.inl (exX_self X g)) z7) (.inl (exX_self X g)) z8) (.inl (exX_self X g)) z9) (.inl (exX_self X g)) z10
  have hl2 : L.length = l.length + 2 := by simpa using h2
  have hsplit : L = L.take l.length ++ [L[l.length], L[l.length + 1]] := by
    conv => lhs; rw [← List.take_append_drop l.length L]
    rw [List.drop_eq_getElem_cons (by omega), List.drop_eq_getElem_cons (by omega), List.drop_eq_nil_of_le (by omega)]
  have hA := h3 _ (List.getElem_mem (show l.length < L.length by omega))
  have hB := h3 _ (List.getElem_mem (show l.length + 1 < L.length by omega))
  generalize L[l.length] = as1 at hsplit hA
  generalize L[l.length + 1] = bs1 at hsplit hB
  obtain ⟨a0, a1, a2, a3, a4, a5, a6, a7, a8, a9, a10, rfl⟩ := eleven_of hA
  obtain ⟨T, hT⟩ : ∃ T, L.take l.length = T := ⟨_, rfl⟩
  have hTl : T.length = l.length := by rw [← hT, List.length_take]; omega
  have hT3 : ∀ x ∈ T, x.length = 11 := fun x hx => h3 x (by rw [← hT] at hx; exact List.mem_of_mem_take hx)
  have hTf : T.flatten.length = o := by
    have : ∀ T : List (List Value), (∀ x ∈ T, x.length = 11) → T.flatten.length = T.length * 11 := by
      intro T
      induction T with
      | nil => intro _; rfl
      | cons a T ih => intro h; rw [List.flatten_cons, List.length_append, ih (fun x hx => h x (by simp [hx])), h a (by simp), List.length_cons]; omega
    rw [this T hT3, hTl, ho]
  have hfl : L.flatten = T.flatten ++ ([a0, a1, a2, a3, a4, a5, a6, a7, a8, a9, a10] ++ bs1) := by rw [hsplit, hT, List.flatten_append]; simp
  have hlen : (l ++ [a, b]).length = l.length + 2 := by simp
  rw [hfl, hlen] at h1
  have hsz : (T.flatten ++ ([a0, a1, a2, a3, a4, a5, a6, a7, a8, a9, a10] ++ bs1)).length = o + 22 := by rw [List.length_append, hTf, List.length_append, hB]; rfl
  have h1 := own_set h1 (o) z0 (by simp only [List.length_set, hsz]; omega)
  have h1 := own_set h1 (o + 1) z1 (by simp only [List.length_set, hsz]; omega)
  have h1 := own_set h1 (o + 2) z2 (by simp only [List.length_set, hsz]; omega)
  have h1 := own_set h1 (o + 3) z3 (by simp only [List.length_set, hsz]; omega)
  have h1 := own_set h1 (o + 4) z4 (by simp only [List.length_set, hsz]; omega)
  have h1 := own_set h1 (o + 5) z5 (by simp only [List.length_set, hsz]; omega)
  have h1 := own_set h1 (o + 6) z6 (by simp only [List.length_set, hsz]; omega)
  have h1 := own_set h1 (o + 7) z7 (by simp only [List.length_set, hsz]; omega)
  have h1 := own_set h1 (o + 8) z8 (by simp only [List.length_set, hsz]; omega)
  have h1 := own_set h1 (o + 9) z9 (by simp only [List.length_set, hsz]; omega)
  have h1 := own_set h1 (o + 10) z10 (by simp only [List.length_set, hsz]; omega)
  have hpop := ownsRow_pop (size := 11) (n := l.length + 1) (xs := (T ++ [[z0, z1, z2, z3, z4, z5, z6, z7, z8, z9, z10]]).flatten) (last := bs1) (by
    rw [List.flatten_append, List.length_append, hTf, show ([[z0, z1, z2, z3, z4, z5, z6, z7, z8, z9, z10]] : List (List Value)).flatten.length = 11 from rfl]; omega) (by
    rw [List.flatten_append]
    have e1 : T.flatten ++ [[z0, z1, z2, z3, z4, z5, z6, z7, z8, z9, z10]].flatten ++ bs1 = ((((((((((((T.flatten ++ ([a0, a1, a2, a3, a4, a5, a6, a7, a8, a9, a10] ++ bs1)).set (o) z0).set (o + 1) z1).set (o + 2) z2).set (o + 3) z3).set (o + 4) z4).set (o + 5) z5).set (o + 6) z6).set (o + 7) z7).set (o + 8) z8).set (o + 9) z9).set (o + 10) z10) := by
      rw [setF0 hTf, setF hTf, setF hTf, setF hTf, setF hTf, setF hTf, setF hTf, setF hTf, setF hTf, setF hTf, setF hTf, List.append_assoc]
      refine congrArg (fun t => T.flatten ++ t) ?_
      rfl
    rw [e1]; exact h1)
  refine ⟨T ++ [[z0, z1, z2, z3, z4, z5, z6, z7, z8, z9, z10]], by simpa using hpop, by simp [hTl], fun x hx => ?_, fun i k1 k2 => ?_⟩
  · rcases List.mem_append.1 hx with hx | hx
    · exact hT3 x hx
    · simp only [List.mem_cons, List.not_mem_nil, or_false] at hx; subst hx; rfl
  · by_cases hi : i < T.length
    · rw [List.getElem_append_left hi, List.getElem_append_left (by omega)]
      have hiL : i < L.length := by omega
      have := (h4 i hiL (by rw [hlen]; omega)).later hlow
      rw [List.getElem_append_left (by omega)] at this
      have e2 : L[i] = T[i] := by subst hT; rw [List.getElem_take]
      rw [← e2]; exact this
    · have hi2 : i = T.length := by simp at k1; omega
      subst hi2
      rw [List.getElem_append_right (by omega)]
      simp only [Nat.sub_self, List.getElem_cons_zero]
      have e3 : (l ++ [e])[T.length] = e := by simp [hTl]
      rw [e3]
      exact he.later hlow
end

end Go.Proofs.YtiiddmioafhmoaaDoor
