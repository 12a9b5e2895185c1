/- Memory: types that are made, read beside what may still change; a row of types that grows, or is stored to. -/
import Derived.Test.YtgmcjnhaedfinaaQtx
import Derived.Test.YtgmcjnhaedfinaaRng
import Derived.Deep.AppendLies
import Derived.OneCell
namespace Go.Proofs.Ytgmcjnhaedfinaa
open Go.RowKit
set_option linter.unusedVariables false
set_option linter.unusedSimpArgs false
set_option maxRecDepth 100000

/-- The world without the blocks of X. -/
def mask (X : Nat → Bool) (W : World) : World := { W with heap := W.heap.mapIdx fun i o => if X i then .cells #[] 0 else o }
theorem mask_size (X : Nat → Bool) (W : World) : (mask X W).heap.size = W.heap.size := by simp [mask]
theorem mask_heap {X : Nat → Bool} {k : Nat} (W : World) (h : X k = false) : (mask X W).heap[k]? = W.heap[k]? := by
  unfold mask
  simp only [Array.getElem?_mapIdx]
  cases W.heap[k]? with
  | none => rfl
  | some o => simp [h]
theorem mask_dead {X : Nat → Bool} {k : Nat} (W : World) (h : X k = true) (hk : k < W.heap.size) : (mask X W).heap[k]? = some (.cells #[] 0) := by
  unfold mask
  simp only [Array.getElem?_mapIdx]
  rw [Array.getElem?_eq_getElem hk]
  simp [h]
theorem mask_cell {X : Nat → Bool} {W : World} {p : Addr} (h : X p.block = false) : (mask X W).cell? p = W.cell? p := World.cell?_of_block (w := W) (mask_heap W h)
theorem mask_none {X : Nat → Bool} {W : World} {p : Addr} {u : Value} (hX : X p.block = true) (h : (mask X W).cell? p = some u) : False := by
  rcases Nat.lt_or_ge p.block W.heap.size with hk | hk
  · simp [World.cell?, mask_dead W hX hk] at h
  · rw [World.cell?, Array.getElem?_eq_none (by rw [mask_size]; exact hk)] at h; cases h
theorem mask_lt {X : Nat → Bool} {W : World} {p : Addr} {u : Value} (h : (mask X W).cell? p = some u) : p.block < W.heap.size := by
  have := World.block_lt_of_cell? _ _ h
  rwa [mask_size] at this
theorem Reads.imp {w w' : World} {B size n : Nat} {A : Option Addr} {xs : List Value} (h : Reads w B size A n xs) (hk : ∀ p u, p.block < B → w.cell? p = some u → w'.cell? p = some u) : Reads w' B size A n xs :=
  ⟨h.1, fun hn => by obtain ⟨ad, e, hb, hc⟩ := h.2 hn; exact ⟨ad, e, hb, fun j u hu => hk _ _ (by rw [block_of_add]; exact hb) (hc j u hu)⟩⟩
theorem Row.imp {w w' : World} {B size n : Nat} {A : Option Addr} {L : List (List Value)} (h : Row w B size A n L) (hk : ∀ p u, p.block < B → w.cell? p = some u → w'.cell? p = some u) : Row w' B size A n L := ⟨h.len, h.each, h.reads.imp hk⟩
theorem TyAt.imp {w w' : World} {B : Nat} {cs : List Value} {t : Ty} (h : TyAt w B cs t) (hk : ∀ p u, p.block < B → w.cell? p = some u → w'.cell? p = some u) : TyAt w' B cs t := by
  induction h with
  | mk a b c d e g hr _ ih => exact .mk a b c d e g (hr.imp hk) ih
theorem ty_ones {w : World} {B : Nat} {cs : List Value} {t : Ty} (h : TyAt w B cs t) : ∀ u ∈ cs, u.oneCell' = true := by
  cases h with
  | mk => intro u hu; simp only [List.mem_cons, List.not_mem_nil, or_false] at hu; rcases hu with rfl | rfl | rfl | rfl <;> rfl
theorem TyAt.four {w : World} {B : Nat} {cs : List Value} {t : Ty} (h : TyAt w B cs t) : cs.length = 4 := by cases h; rfl

/-- A type that reads beside the blocks of X. -/
def TyX (X : Nat → Bool) (W : World) (cs : List Value) (t : Ty) : Prop := TyAt (mask X W) W.heap.size cs t
/-- The blocks from B up to H. -/
def mid (B H : Nat) : Nat → Bool := fun k => decide (B ≤ k) && decide (k < H)
theorem mid_iff {B H k : Nat} : mid B H k = true ↔ B ≤ k ∧ k < H := by simp [mid]
/-- .. and a value's own block. -/
def midV (B H : Nat) (v : Value) : Nat → Bool := fun k => mid B H k || (some k == v.ownBlock)
theorem midV_iff {B H k : Nat} {v : Value} : midV B H v k = true ↔ (B ≤ k ∧ k < H) ∨ v.ownBlock = some k := by
  unfold midV; rw [Bool.or_eq_true, mid_iff]; constructor
  · rintro (h | h)
    · exact .inl h
    · exact .inr (beq_iff_eq.1 h).symm
  · rintro (h | h)
    · exact .inl h
    · exact .inr (by simp [h])
theorem TyX.weaken {X Y : Nat → Bool} {W : World} {cs : List Value} {t : Ty} (h : TyX X W cs t) (hY : ∀ k, k < W.heap.size → Y k = true → X k = true) : TyX Y W cs t :=
  TyAt.imp h fun p u hb hc => by
    cases hX : X p.block with
    | true => exact (mask_none hX hc).elim
    | false =>
      rw [mask_cell hX] at hc
      rw [mask_cell (by cases hy : Y p.block with
        | true => rw [hY _ hb hy] at hX; cases hX
        | false => rfl)]; exact hc
theorem TyX.plain {X : Nat → Bool} {W : World} {cs : List Value} {t : Ty} (h : TyX X W cs t) : TyAt W W.heap.size cs t :=
  TyAt.imp h fun p u hb hc => by
    cases hX : X p.block with
    | true => exact (mask_none hX hc).elim
    | false => rw [mask_cell hX] at hc; exact hc
theorem TyX.of_old {X : Nat → Bool} {B : Nat} {W : World} {cs : List Value} {t : Ty} (h : TyAt W B cs t) (hB : B ≤ W.heap.size) (hX : ∀ k, X k = true → B ≤ k) : TyX X W cs t := by
  refine (TyAt.imp h fun p u hb hc => ?_).more hB
  rw [mask_cell]
  · exact hc
  · cases hx : X p.block with
    | false => rfl
    | true => have := hX _ hx; omega
theorem TyX.later {X : Nat → Bool} {W W' : World} {cs : List Value} {t : Ty} (h : TyX X W cs t) (hc : Chg (fun k => X k = true) W W') : TyX X W' cs t := by
  refine (TyAt.imp h fun p u hb hc' => ?_).more hc.size
  cases hX : X p.block with
  | true => exact (mask_none hX hc').elim
  | false =>
    rw [mask_cell hX] at hc'
    rw [mask_cell hX, hc.cell hb (by rw [hX]; simp)]; exact hc'
theorem TyX.below {X : Nat → Bool} {W W' : World} {cs : List Value} {t : Ty} (h : TyX X W cs t) (hb : Below W.heap.size W W') : TyX X W' cs t := h.later (Chg.of_old hb)

theorem ty_info : (Try.prog.info? 24).map (fun i => (i.zero, i.size, i.bytes)) = some (some (.agg #[.int .i64 0, .string ⟨#[]⟩, .int .i64 0, .slice none 0 0]), 4, 56) := by kernel_rfl
theorem new_cells (w : World) (cs : List Value) {t : TypeId} : ∀ (j : Nat) (u : Value), cs[j]? = some u → (w.alloc (.cells cs.toArray t)).cell? ((⟨w.heap.size, 0, none⟩ : Addr).add j) = some u := by
  intro j u hj
  rw [add_flat, Nat.zero_add, (Blk.new w _ _).cell j]
  simpa using hj
theorem own_kept {w w' : World} {base size n : Nat} {e : TypeId} {v : Value} {xs : List Value} (h : w.ownsRow base e size v n xs) (hb : Below w.heap.size w w') : w'.ownsRow base e size v n xs := by
  refine ⟨h.1, ?_⟩
  rcases h.2 with h0 | ⟨g, cap, cur, hv, hg, hh, hr⟩
  · exact .inl h0
  · refine .inr ⟨g, cap, cur, hv, hg, ?_, hr⟩
    rw [hb.block g]; exact hh
    rcases Nat.lt_or_ge g w.heap.size with hlt | hge
    · exact hlt
    · rw [Array.getElem?_eq_none hge] at hh; cases hh

/-- A row of types that is the call's own, v; they read beside the blocks from B up to H and beside v's own. -/
structure TyRow (B H base : Nat) (W : World) (v : Value) (l : List Ty) : Prop where
  ex : ∃ L : List (List Value), W.ownsRow base 24 4 v l.length L.flatten ∧ L.length = l.length ∧ (∀ x ∈ L, x.length = 4) ∧ ∀ i (h1 : i < L.length) (h2 : i < l.length), TyX (midV B H v) W L[i] l[i]
section
variable {B H base : Nat} {W W' : World} {v : Value} {l : List Ty}
theorem TyRow.nil_ : TyRow B H base W (.slice none 0 0) [] := ⟨[], World.ownsRow_nil _ _ _ _, rfl, fun x h => by simp at h, fun i h => by simp at h⟩
theorem TyRow.below (h : TyRow B H base W v l) (hb : Below W.heap.size W W') : TyRow B H base W' v l := by
  obtain ⟨L, h1, h2, h3, h4⟩ := h.ex
  exact ⟨L, own_kept h1 hb, h2, h3, fun i k1 k2 => (h4 i k1 k2).below hb⟩
theorem TyRow.add {g cap m : Nat} {a : Ty} {E : List Value} {L : List (List Value)} (h2 : L.length = l.length) (h3 : ∀ x ∈ L, x.length = 4) (h4 : ∀ i (h1 : i < L.length) (h2 : i < l.length), TyX (midV B H v) W L[i] l[i])
    (ha : TyX (midV B H v) W E a) (hown : W'.ownsRow base 24 4 (.slice (some ⟨g, 0, none⟩) m cap) (l.length + 1) (L.flatten ++ E)) (hg : W.grownBy W' v.ownBlock) (hlies : v.ownBlock = some g ∨ W.heap.size ≤ g) :
    TyRow B H base W' (.slice (some ⟨g, 0, none⟩) m cap) (l ++ [a]) := by
  have turn : ∀ (cs : List Value) (x : Ty), TyX (midV B H v) W cs x → TyX (midV B H (.slice (some ⟨g, 0, none⟩) m cap)) W' cs x := by
    intro cs x hx
    refine (TyAt.imp hx fun p u hb hc => ?_).more hg.size
    cases hX : midV B H v p.block with
    | true => exact (mask_none hX hc).elim
    | false =>
      rw [mask_cell hX] at hc
      have hX' : ¬ midV B H v p.block = true := by rw [hX]; simp
      rw [midV_iff] at hX'
      rw [mask_cell]
      · rw [World.cell?_of_block (w := W) (hg.block _ hb (fun e => hX' (.inr e.symm)))]; exact hc
      · cases hY : midV B H (.slice (some ⟨g, 0, none⟩) m cap) p.block with
        | false => rfl
        | true =>
          exfalso
          rcases midV_iff.1 hY with h5 | h5
          · exact hX' (.inl h5)
          · simp only [Value.ownBlock, Option.some.injEq] at h5
            rcases hlies with h6 | h6
            · exact hX' (.inr (by rw [h6, h5]))
            · omega
  refine ⟨L ++ [E], by rw [List.length_append, List.flatten_append]; simpa using hown, by simp [h2], fun x hx => ?_, fun i k1 k2 => ?_⟩
  · rcases List.mem_append.1 hx with hx | hx
    · exact h3 x hx
    · simp at hx; rw [hx]; exact TyAt.four ha
  · by_cases hi : i < L.length
    · rw [List.getElem_append_left hi, List.getElem_append_left (by omega)]
      exact turn _ _ (h4 i hi (by omega))
    · have hi2 : i = L.length := by simp at k1; omega
      subst hi2
      rw [List.getElem_append_right (by omega)]
      simp only [Nat.sub_self, List.getElem_cons_zero]
      have : (l ++ [a])[L.length] = a := by simp [h2]
      rw [this]
      exact turn _ _ ha
/-- The row as a slice that reads beside the blocks from B up to H. -/
theorem TyRow.row (h : TyRow B H base W v l) (hb : H ≤ base) : ∃ A c L, v = .slice A l.length c ∧ l.length ≤ c ∧ c ≤ maxLen ∧ Row (mask (mid B H) W) W.heap.size 4 A l.length L ∧ ∀ i (h1 : i < L.length) (h2 : i < l.length), TyX (mid B H) W L[i] l[i] := by
  obtain ⟨L, h1, h2, h3, h4⟩ := h.ex
  have h4' : ∀ i (k1 : i < L.length) (k2 : i < l.length), TyX (mid B H) W L[i] l[i] := fun i k1 k2 => (h4 i k1 k2).weaken fun k _ hk => midV_iff.2 (.inl (mid_iff.1 hk))
  rcases h1.2 with ⟨rfl, h0⟩ | ⟨g, cap, cur, hv, hg, hh, hn, hm, hr⟩
  · have : l = [] := List.eq_nil_of_length_eq_zero h0
    subst this
    obtain rfl : L = [] := List.eq_nil_of_length_eq_zero (by simpa using h2)
    exact ⟨none, 0, [], rfl, by simp, by simp [maxLen], ⟨rfl, fun x h => by simp at h, Reads.none_⟩, fun i h => by simp at h⟩
  · refine ⟨some ⟨g, 0, none⟩, cap, L, hv, hn, hm, ⟨h2, h3, ?_⟩, h4'⟩
    subst hv
    have hr := Reads.of_own h1
    refine ⟨hr.1, fun hn0 => ?_⟩
    obtain ⟨ad, e1, hb', hc⟩ := hr.2 hn0
    refine ⟨ad, e1, hb', fun j u hu => ?_⟩
    have e2 : ad = ⟨g, 0, none⟩ := by injection e1 with e1; exact e1.symm
    subst e2
    rw [mask_cell]
    · exact hc j u hu
    · rw [block_of_add]
      cases hx : mid B H g with
      | false => rfl
      | true => have := mid_iff.1 hx; omega
/-- .. and plainly. -/
theorem TyRow.tys (h : TyRow B H base W v l) : ∃ A c L, v = .slice A l.length c ∧ l.length ≤ c ∧ c ≤ maxLen ∧ TysAt W W.heap.size A l L := by
  obtain ⟨L, h1, h2, h3, h4⟩ := h.ex
  have h4' : ∀ i (k1 : i < L.length) (k2 : i < l.length), TyAt W W.heap.size L[i] l[i] := fun i k1 k2 => (h4 i k1 k2).plain
  rcases h1.2 with ⟨rfl, h0⟩ | ⟨g, cap, cur, hv, hg, hh, hn, hm, hr⟩
  · have : l = [] := List.eq_nil_of_length_eq_zero h0
    subst this
    obtain rfl : L = [] := List.eq_nil_of_length_eq_zero (by simpa using h2)
    exact ⟨none, 0, [], rfl, by simp, by simp [maxLen], ⟨rfl, fun x h => by simp at h, Reads.none_⟩, fun i h => by simp at h⟩
  · subst hv
    exact ⟨some ⟨g, 0, none⟩, cap, L, rfl, hn, hm, ⟨h2, h3, Reads.of_own h1⟩, h4'⟩
end
/-- A type of a row of parts. -/
theorem TyX.mk_ {X : Nat → Bool} {W : World} {k n : Int} {nm : ByteArray} {A : Option Addr} {c : Nat} {ks : List Ty} {L : List (List Value)} (hk : ok64 k) (hs : nm.size ≤ maxLen) (hn : ok64 n) (hc : ks.length ≤ c) (hm : c ≤ maxLen) (hb : ks.length ≤ 4000000)
    (hr : Row (mask X W) W.heap.size 4 A ks.length L) (he : ∀ i (h1 : i < L.length) (h2 : i < ks.length), TyX X W L[i] ks[i]) : TyX X W [.int .i64 k, .string nm, .int .i64 n, .slice A ks.length c] (.mk k nm n ks) :=
  TyAt.mk hk hs hn hc hm (by omega) hr he

/-- A row of types' cells, each read as one, all old. -/
structure TsAt (w : World) (B : Nat) (es : List Ty) (L : List (List Value)) : Prop where
  len : L.length = es.length
  each : ∀ l ∈ L, l.length = 4
  ty : ∀ i (h1 : i < L.length) (h2 : i < es.length), TyAt w B L[i] es[i]
theorem TsAt.nil_ (w : World) (B : Nat) : TsAt w B [] [] := ⟨rfl, fun l h => by simp at h, fun i h => by simp at h⟩
theorem TsAt.later {w w' : World} {B : Nat} {es : List Ty} {L : List (List Value)} (h : TsAt w B es L) (hb : Below B w w') : TsAt w' B es L := ⟨h.len, h.each, fun i h1 h2 => (h.ty i h1 h2).later hb⟩
theorem TsAt.app {w : World} {B : Nat} {es fs : List Ty} {L K : List (List Value)} (h : TsAt w B es L) (k : TsAt w B fs K) : TsAt w B (es ++ fs) (L ++ K) := by
  refine ⟨by simp [h.len, k.len], fun l hl => ?_, fun i h1 h2 => ?_⟩
  · rw [List.mem_append] at hl
    exact hl.elim (h.each l) (k.each l)
  · by_cases hi : i < L.length
    · have hi2 : i < es.length := by rw [← h.len]; exact hi
      rw [List.getElem_append_left hi, List.getElem_append_left hi2]
      exact h.ty i hi hi2
    · have hi2 : ¬ i < es.length := by rw [← h.len]; exact hi
      rw [List.getElem_append_right (by omega), List.getElem_append_right (by omega)]
      have e : i - es.length = i - L.length := by rw [h.len]
      simp only [e]
      exact k.ty _ (by simp at h1; omega) (by simp at h2; omega)
theorem TsAt.one {w : World} {B : Nat} {e : Ty} {E : List Value} (h : TyAt w B E e) : TsAt w B [e] [E] :=
  ⟨rfl, fun l hl => by simp at hl; subst hl; exact h.four, fun i h1 h2 => by
    have : i = 0 := by simpa using h1
    subst this; exact h⟩
theorem ts_ones {w : World} {B : Nat} {es : List Ty} {L : List (List Value)} (h : TsAt w B es L) : ∀ u ∈ L.flatten, u.oneCell' = true := by
  intro u hu
  obtain ⟨l, hl, hu⟩ := List.mem_flatten.1 hu
  obtain ⟨i, hi, rfl⟩ := List.getElem_of_mem hl
  exact ty_ones (h.ty i hi (by rw [← h.len]; exact hi)) u hu
theorem own_tys {w : World} {base B : Nat} {v : Value} {l : List Ty} {L : List (List Value)} (h : w.ownsRow base 24 4 v l.length L.flatten) (hx : TsAt w B l L) (hB : B ≤ w.heap.size) : ∃ A c, v = .slice A l.length c ∧ l.length ≤ c ∧ c ≤ maxLen ∧ TysAt w w.heap.size A l L := by
  rcases h.2 with ⟨rfl, h0⟩ | ⟨g, cap, cur, hv, hg, hh, hn, hm, hr⟩
  · have : l = [] := List.eq_nil_of_length_eq_zero h0
    subst this
    obtain rfl : L = [] := List.eq_nil_of_length_eq_zero (by simpa using hx.len)
    exact ⟨none, 0, rfl, by simp, by simp [maxLen], ⟨rfl, fun x h => by simp at h, Reads.none_⟩, fun i h => by simp at h⟩
  · subst hv
    exact ⟨some ⟨g, 0, none⟩, cap, rfl, hn, hm, ⟨hx.len, hx.each, Reads.of_own h⟩, fun i h1 h2 => (hx.ty i h1 h2).more hB⟩

end Go.Proofs.Ytgmcjnhaedfinaa
