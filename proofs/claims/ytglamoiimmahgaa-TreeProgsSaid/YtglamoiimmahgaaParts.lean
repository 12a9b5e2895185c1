/- Walks: small expressions; an expression's parts. -/
import Derived.Test.YtglamoiimmahgaaCnt
namespace Go.Proofs.Ytglamoiimmahgaa
open Go.RowKit
set_option linter.unusedVariables false

/-- What Small answers. -/
def SmallSays (m : Int) (nodes : Nat) (w : World) (e : Ending) (w' : World) : Prop := ∃ b : Bool, e = .returned (.bool b) ∧ (b = true → (nodes : Int) ≤ m) ∧ Below w.heap.size w w'
set_option maxHeartbeats 1600000 in
theorem small_any (e : Ex) (m : Int) (B : Nat) (w : World) (cs : List Value) (hm1 : 1 ≤ m) (hm2 : m ≤ 100000) (hB : B ≤ w.heap.size) (hx : ExAt w B cs e) :
    Calls Try.prog 9 #[.agg cs.toArray, .int .i64 m] w (SmallSays m e.nodes w) := by
  obtain ⟨c0, c1, c2, c3, c4, c5, c6, c7, c8, c9, c10, rfl⟩ := eleven_of hx.eleven
  have hbel : Below w.heap.size w (w.alloc (.cells #[c0, c1, c2, c3, c4, c5, c6, c7, c8, c9, c10] 29)) := (Below.refl _ _).alloc (Nat.le_refl _) _
  have HB := Lib.hid hbel
  have C := Lib.hid (count_any e.nodes e (Nat.le_refl _) (m + 1) B _ [c0, c1, c2, c3, c4, c5, c6, c7, c8, c9, c10] (by omega) (by omega) (Nat.le_trans hB hbel.size) (hx.later (hbel.mono hB)))
  clear hbel hx
  go_enter Try.func9, Try.ntmps9
  go_wp2_with fail
  refine C.out.mono ?_
  rintro e w2 ⟨r, rfl, hr1, hr2, hr3, hb2⟩
  have HR := Lib.hid hr3
  have HB2 := Lib.hid hb2
  clear hr3 hb2 hr2
  go_wp2_with fail
  go_ret
  exact ⟨_, rfl, fun h => by have := HR.out (by simp at h; omega); simp at h; omega, HB.out.trans (HB2.out.mono HB.out.size)⟩

def Bd.exp : Bd → Ex
  | .mk _ e _ => e
def Al.exp : Al → Ex
  | .mk _ e => e
/-- An expression's parts, in the document's order. -/
def Ex.parts : Ex → List Ex
  | .mk k _ _ _ ks als bs _ => (if k = 7 then [] else ks) ++ bs.map Bd.exp ++ (if k = 7 then ks else []) ++ als.map Al.exp

/-- A row of expressions' cells, each read as one. -/
structure ExsAt (w : World) (B : Nat) (es : List Ex) (L : List (List Value)) : Prop where
  len : L.length = es.length
  each : ∀ l ∈ L, l.length = 11
  exp : ∀ i (h1 : i < L.length) (h2 : i < es.length), ExAt w B L[i] es[i]
theorem ExsAt.nil_ (w : World) (B : Nat) : ExsAt w B [] [] := ⟨rfl, fun l h => by simp at h, fun i h => by simp at h⟩
theorem ExsAt.later {w w' : World} {B : Nat} {es : List Ex} {L : List (List Value)} (h : ExsAt w B es L) (hb : Below B w w') : ExsAt w' B es L := ⟨h.len, h.each, fun i h1 h2 => (h.exp i h1 h2).later hb⟩
theorem ExsAt.app {w : World} {B : Nat} {es fs : List Ex} {L K : List (List Value)} (h : ExsAt w B es L) (k : ExsAt w B fs K) : ExsAt w B (es ++ fs) (L ++ K) := by
  refine ⟨by simp [h.len, k.len], fun l hl => ?_, fun i h1 h2 => ?_⟩
  · rw [List.mem_append] at hl
    exact hl.elim (h.each l) (k.each l)
  · by_cases hi : i < L.length
    · have hi2 : i < es.length := by rw [← h.len]; exact hi
      rw [List.getElem_append_left hi, List.getElem_append_left hi2]
      exact h.exp i hi hi2
    · have hi2 : ¬ i < es.length := by rw [← h.len]; exact hi
      rw [List.getElem_append_right (by omega), List.getElem_append_right (by omega)]
      have e : i - es.length = i - L.length := by rw [h.len]
      simp only [e]
      exact k.exp _ (by simp at h1; omega) (by simp at h2; omega)
theorem ExsAt.one {w : World} {B : Nat} {e : Ex} {E : List Value} (h : ExAt w B E e) : ExsAt w B [e] [E] :=
  ⟨rfl, fun l hl => by simp at hl; subst hl; exact h.eleven, fun i h1 h2 => by
    have : i = 0 := by simpa using h1
    subst this; exact h⟩

/-- Eleven cells that are values of one cell. -/
theorem ex_oneCell {w : World} {B : Nat} {cs : List Value} {e : Ex} (h : ExAt w B cs e) : ∀ u ∈ cs, u.oneCell' = true := by
  cases h with
  | mk _ _ _ _ ht =>
    cases ht
    intro u hu
    simp only [List.cons_append, List.nil_append, List.mem_cons, List.not_mem_nil, or_false] at hu
    rcases hu with rfl | rfl | rfl | rfl | rfl | rfl | rfl | rfl | rfl | rfl | rfl <;> rfl
theorem exs_oneCell {w : World} {B : Nat} {es : List Ex} {L : List (List Value)} (h : ExsAt w B es L) : ∀ u ∈ L.flatten, u.oneCell' = true := by
  intro u hu
  obtain ⟨l, hl, hu⟩ := List.mem_flatten.1 hu
  obtain ⟨i, hi, rfl⟩ := List.getElem_of_mem hl
  exact ex_oneCell (h.exp i hi (by rw [← h.len]; exact hi)) u hu

/-- What has been gathered: a row of the call's own. -/
def Got (W1 : World) (B base : Nat) (es : List Ex) (v : Value) (wr : World) : Prop := ∃ L, ExsAt wr B es L ∧ wr.ownsRow base 29 11 v es.length L.flatten ∧ Below base W1 wr
theorem got_app {W1 wr w2 : World} {B base m : Nat} {es fs : List Ex} {K : List (List Value)} {v v' : Value} {ob : List Obj} {L : List (List Value)} (hL : ExsAt wr B es L) (hown : wr.ownsRow base 29 11 v es.length L.flatten) (hbel : Below base W1 wr) (hB : B ≤ base) (hz : base ≤ wr.heap.size)
    (hK : ExsAt wr B fs K) (hm : m = fs.length) (hown' : w2.ownsRow base 29 11 v' (es.length + m) (L.flatten ++ K.flatten)) (hg : wr.grownBy w2 v.ownBlock) : Got W1 B base (es ++ fs) v' w2 := by
  subst hm
  have hb2 : Below base wr w2 := (Below.refl _ _).grown hg hz (fun k hk => (hown.lt k hk).1)
  refine ⟨L ++ K, (hL.later (hb2.mono hB)).app (hK.later (hb2.mono hB)), ?_, hbel.trans hb2⟩
  rw [List.length_append, List.flatten_append]
  exact hown'
theorem eleven_new (w : World) (cs : List Value) : ∀ (j : Nat) (u : Value), cs[j]? = some u → (w.alloc (.cells cs.toArray 29)).cell? ((⟨w.heap.size, 0, none⟩ : Addr).add j) = some u := by
  intro j u hj
  rw [add_flat, Nat.zero_add, (Blk.new w _ _).cell j]
  simpa using hj
theorem grown_new {a b : World} {o : Obj} {row : Option Nat} (h : (a.alloc o).grownBy b row) : a.grownBy b row :=
  ⟨h.os, h.tape, h.output, Nat.le_trans (by simp) h.size, fun i hi hne => (h.block i (by simp; omega) hne).trans (Below.heap_alloc a o i hi)⟩
theorem ex_info : (Try.prog.info? 29).map (fun i => (i.zero, i.size, i.bytes)) = some (some (.agg #[.int .i64 0, .string ⟨#[]⟩, .int .i64 0, .int .i64 0, .string ⟨#[]⟩, .int .i64 0, .slice none 0 0, .slice none 0 0, .slice none 0 0, .slice none 0 0, .int .i64 0]), 11, 168) := by kernel_rfl

end Go.Proofs.Ytglamoiimmahgaa
