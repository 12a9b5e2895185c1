/- The chapter's examples hold. -/
import Derived.Test.YtglamoiimmahgaaPse
import Derived.Test.YtglamoiimmahgaaPfree
namespace Go.Proofs.Ytglamoiimmahgaa
open Go.RowKit
set_option linter.unusedVariables false
set_option maxRecDepth 100000

def tyZero : Ty := .mk 0 ⟨#[]⟩ 0 []
def evX : Ex := .mk 3 ⟨#[120]⟩ 0 tyZero [] [] [] 0
def evF : Ex := .mk 3 ⟨#[102]⟩ 0 tyZero [] [] [] 0
def exCall : Ex := .mk 5 ⟨#[]⟩ 0 tyZero [evF, evX] [] [] 0
def exLam : Ex := .mk 6 ⟨#[120]⟩ 0 tyZero [exCall] [] [] 0
theorem row_none (w : World) (B size : Nat) : Row w B size none 0 [] := ⟨rfl, fun l h => by simp at h, Reads.none_⟩
theorem ok_small (n : Int) (h : 0 ≤ n) (h2 : n ≤ 100) : ok64 n := by
  unfold ok64; simp [Lit.wf, IntKind.min, IntKind.max, IntKind.signed, IntKind.bits]; omega
theorem ty_zero (w : World) (B : Nat) : TyAt w B [.int .i64 0, .string ⟨#[]⟩, .int .i64 0, .slice none 0 0] tyZero :=
  TyAt.mk (ks := []) (L := []) (ok_small _ (by omega) (by omega)) (by simp [ByteArray.size, maxLen]) (ok_small _ (by omega) (by omega)) (by simp) (by simp [maxLen]) (by simp) (row_none _ _ _) (fun i h => by simp at h)
theorem ex_leaf (w : World) (B : Nat) (b : UInt8) : ExAt w B [.int .i64 3, .string ⟨#[b]⟩, .int .i64 0, .int .i64 0, .string ⟨#[]⟩, .int .i64 0, .slice none 0 0, .slice none 0 0, .slice none 0 0, .slice none 0 0, .int .i64 0] (.mk 3 ⟨#[b]⟩ 0 tyZero [] [] [] 0) :=
  ExAt.mk (T := [.int .i64 0, .string ⟨#[]⟩, .int .i64 0, .slice none 0 0]) (ks := []) (als := []) (bs := []) (L := []) (La := []) (Lb := []) (ok_small _ (by omega) (by omega)) (by simp [ByteArray.size, maxLen]) (ok_small _ (by omega) (by omega)) (ok_small _ (by omega) (by omega)) (ty_zero w B)
    (by simp) (by simp [maxLen]) (by simp) (by simp [maxLen]) (by simp) (by simp [maxLen]) (by simp) (by simp) (by simp) (row_none _ _ _) (fun i h => by simp at h) (row_none _ _ _) (fun i h => by simp at h) (row_none _ _ _) (fun i h => by simp at h)
/-- A node with a row of kids and nothing else. -/
theorem ex_kids {w : World} {B : Nat} (k : Int) (nm : ByteArray) (A : Option Addr) (ks : List Ex) (c : Nat) (L : List (List Value)) (h0 : 0 ≤ k) (h1 : k ≤ 100) (hn : nm.size ≤ maxLen) (hc : ks.length ≤ c) (hc1 : c ≤ 100) (hr : Row w B 11 A ks.length L) (hks : ∀ i (h1 : i < L.length) (h2 : i < ks.length), ExAt w B L[i] ks[i]) :
    ExAt w B [.int .i64 k, .string nm, .int .i64 0, .int .i64 0, .string ⟨#[]⟩, .int .i64 0, .slice none 0 0, .slice A ks.length c, .slice none 0 0, .slice none 0 0, .int .i64 0] (.mk k nm 0 tyZero ks [] [] 0) :=
  ExAt.mk (T := [.int .i64 0, .string ⟨#[]⟩, .int .i64 0, .slice none 0 0]) (als := []) (bs := []) (La := []) (Lb := []) (ok_small _ h0 h1) hn (ok_small _ (by omega) (by omega)) (ok_small _ (by omega) (by omega)) (ty_zero w B)
    hc (by unfold maxLen; omega) (by simp) (by simp [maxLen]) (by simp) (by simp [maxLen]) (by omega) (by simp) (by simp) hr hks (row_none _ _ _) (fun i h => by simp at h) (row_none _ _ _) (fun i h => by simp at h)
theorem row_blk {w : World} {g B n : Nat} {t : TypeId} {L : List (List Value)} (hb : Blk w g t L.flatten.toArray) (hg : g < B) (hl : L.length = n) (he : ∀ l ∈ L, l.length = 11) : Row w B 11 (some ⟨g, 0, none⟩) n L := by
  refine ⟨hl, he, ?_, fun _ => ⟨_, rfl, hg, fun j u hu => ?_⟩⟩
  · have : ∀ (L : List (List Value)), (∀ l ∈ L, l.length = 11) → L.flatten.length = L.length * 11 := by
      intro L
      induction L with
      | nil => intro _; rfl
      | cons a L ih => intro h; rw [List.flatten_cons, List.length_append, ih (fun l hl => h l (by simp [hl])), h a (by simp), List.length_cons]; omega
    rw [this L he, hl]
  · have : (⟨g, 0, none⟩ : Addr).add j = ⟨g, j, none⟩ := by unfold Addr.add; split <;> simp_all
    rw [this, hb.cell j]
    simpa using hu
theorem lam_size : exLam.size = 4 := by decide +kernel
theorem lam_deep : exLam.deep = 3 := by decide +kernel
theorem lam_mass : exLam.mass ≤ 4000000 := by decide +kernel
theorem lam_value : exLam.value = true := by decide +kernel
theorem call_value : exCall.value = false := by decide +kernel
theorem lam_same : exSame exLam exLam = true := by decide +kernel
theorem lam_occ : ddS (exLam.occ []) = [⟨#[102]⟩] := by decide +kernel
theorem own_one {w : World} {base : Nat} {v : Value} {s : ByteArray} (h : w.ownsRow base 9 1 v 1 [.string s]) : ∃ g c, v = .slice (some ⟨g, 0, none⟩) 1 c ∧ w.cell? ⟨g, 0, none⟩ = some (.string s) := by
  rcases h.2 with ⟨_, h0⟩ | ⟨g, cap, cur, rfl, _, hh, _, _, _, ht⟩
  · cases h0
  · refine ⟨g, cap, rfl, ?_⟩
    have hr := Reads.of_own h
    obtain ⟨ad, e, _, hc⟩ := hr.2 (by omega)
    cases e
    have := hc 0 (.string s) rfl
    simpa [Addr.add] using this

/-- What memory holds of the example: the two rows, and the two boxes. -/
structure AwAt (W : World) (a b x y : Nat) : Prop where
  rowA : Blk W a 29 #[.int .i64 3, .string ⟨#[102]⟩, .int .i64 0, .int .i64 0, .string ⟨#[]⟩, .int .i64 0, .slice none 0 0, .slice none 0 0, .slice none 0 0, .slice none 0 0, .int .i64 0, .int .i64 3, .string ⟨#[120]⟩, .int .i64 0, .int .i64 0, .string ⟨#[]⟩, .int .i64 0, .slice none 0 0, .slice none 0 0, .slice none 0 0, .slice none 0 0, .int .i64 0]
  rowB : Blk W b 29 #[.int .i64 5, .string ⟨#[]⟩, .int .i64 0, .int .i64 0, .string ⟨#[]⟩, .int .i64 0, .slice none 0 0, .slice (some ⟨a, 0, none⟩) 2 2, .slice none 0 0, .slice none 0 0, .int .i64 0]
  boxC : Blk W x 29 #[.int .i64 5, .string ⟨#[]⟩, .int .i64 0, .int .i64 0, .string ⟨#[]⟩, .int .i64 0, .slice none 0 0, .slice (some ⟨a, 0, none⟩) 2 2, .slice none 0 0, .slice none 0 0, .int .i64 0]
  boxL : Blk W y 29 #[.int .i64 6, .string ⟨#[120]⟩, .int .i64 0, .int .i64 0, .string ⟨#[]⟩, .int .i64 0, .slice none 0 0, .slice (some ⟨b, 0, none⟩) 1 1, .slice none 0 0, .slice none 0 0, .int .i64 0]
theorem AwAt.later {W W' : World} {a b x y : Nat} (h : AwAt W a b x y) (hb : Below W.heap.size W W') : AwAt W' a b x y :=
  ⟨h.rowA.below hb h.rowA.lt, h.rowB.below hb h.rowB.lt, h.boxC.below hb h.boxC.lt, h.boxL.below hb h.boxL.lt⟩
theorem AwAt.call {W : World} {a b x y : Nat} (h : AwAt W a b x y) : ExAt W W.heap.size [.int .i64 5, .string ⟨#[]⟩, .int .i64 0, .int .i64 0, .string ⟨#[]⟩, .int .i64 0, .slice none 0 0, .slice (some ⟨a, 0, none⟩) 2 2, .slice none 0 0, .slice none 0 0, .int .i64 0] exCall :=
  ex_kids 5 ⟨#[]⟩ (some ⟨a, 0, none⟩) [evF, evX] 2 [[.int .i64 3, .string ⟨#[102]⟩, .int .i64 0, .int .i64 0, .string ⟨#[]⟩, .int .i64 0, .slice none 0 0, .slice none 0 0, .slice none 0 0, .slice none 0 0, .int .i64 0], [.int .i64 3, .string ⟨#[120]⟩, .int .i64 0, .int .i64 0, .string ⟨#[]⟩, .int .i64 0, .slice none 0 0, .slice none 0 0, .slice none 0 0, .slice none 0 0, .int .i64 0]] (by omega) (by omega) (by simp [ByteArray.size, maxLen]) (by simp) (by omega)
    (row_blk (L := [[.int .i64 3, .string ⟨#[102]⟩, .int .i64 0, .int .i64 0, .string ⟨#[]⟩, .int .i64 0, .slice none 0 0, .slice none 0 0, .slice none 0 0, .slice none 0 0, .int .i64 0], [.int .i64 3, .string ⟨#[120]⟩, .int .i64 0, .int .i64 0, .string ⟨#[]⟩, .int .i64 0, .slice none 0 0, .slice none 0 0, .slice none 0 0, .slice none 0 0, .int .i64 0]]) h.rowA h.rowA.lt rfl (fun l hl => by simp only [List.mem_cons, List.not_mem_nil, or_false] at hl; rcases hl with rfl | rfl <;> rfl))
    (fun i h1 h2 => by
      match i, h2 with
      | 0, _ => exact ex_leaf W _ 102
      | 1, _ => exact ex_leaf W _ 120)
theorem AwAt.lam {W : World} {a b x y : Nat} (h : AwAt W a b x y) : ExAt W W.heap.size [.int .i64 6, .string ⟨#[120]⟩, .int .i64 0, .int .i64 0, .string ⟨#[]⟩, .int .i64 0, .slice none 0 0, .slice (some ⟨b, 0, none⟩) 1 1, .slice none 0 0, .slice none 0 0, .int .i64 0] exLam :=
  ex_kids 6 ⟨#[120]⟩ (some ⟨b, 0, none⟩) [exCall] 1 [[.int .i64 5, .string ⟨#[]⟩, .int .i64 0, .int .i64 0, .string ⟨#[]⟩, .int .i64 0, .slice none 0 0, .slice (some ⟨a, 0, none⟩) 2 2, .slice none 0 0, .slice none 0 0, .int .i64 0]] (by omega) (by omega) (by simp [ByteArray.size, maxLen]) (by simp) (by omega)
    (row_blk (L := [[.int .i64 5, .string ⟨#[]⟩, .int .i64 0, .int .i64 0, .string ⟨#[]⟩, .int .i64 0, .slice none 0 0, .slice (some ⟨a, 0, none⟩) 2 2, .slice none 0 0, .slice none 0 0, .int .i64 0]]) h.rowB h.rowB.lt rfl (fun l hl => by simp only [List.mem_cons, List.not_mem_nil, or_false] at hl; subst hl; rfl))
    (fun i h1 h2 => by
      match i, h2 with
      | 0, _ => exact h.call)
theorem aw_vl {W W' : World} {a b x y : Nat} (h : AwAt W a b x y) (hb : Below W.heap.size W W') : Calls Try.prog 28 #[.agg #[.int .i64 6, .string ⟨#[120]⟩, .int .i64 0, .int .i64 0, .string ⟨#[]⟩, .int .i64 0, .slice none 0 0, .slice (some ⟨b, 0, none⟩) 1 1, .slice none 0 0, .slice none 0 0, .int .i64 0]] W' fun e w2 => e = .returned (.bool true) ∧ Below W'.heap.size W' w2 := by
  have := pvalue_any exLam.nodes exLam (Nat.le_refl _) _ W' _ hb.size (h.lam.later hb)
  rw [lam_value] at this
  exact this
theorem aw_vc {W W' : World} {a b x y : Nat} (h : AwAt W a b x y) (hb : Below W.heap.size W W') : Calls Try.prog 28 #[.agg #[.int .i64 5, .string ⟨#[]⟩, .int .i64 0, .int .i64 0, .string ⟨#[]⟩, .int .i64 0, .slice none 0 0, .slice (some ⟨a, 0, none⟩) 2 2, .slice none 0 0, .slice none 0 0, .int .i64 0]] W' fun e w2 => e = .returned (.bool false) ∧ Below W'.heap.size W' w2 := by
  have := pvalue_any exCall.nodes exCall (Nat.le_refl _) _ W' _ hb.size (h.call.later hb)
  rw [call_value] at this
  exact this
theorem aw_sz {W W' : World} {a b x y : Nat} (h : AwAt W a b x y) (hb : Below W.heap.size W W') : Calls Try.prog 10 #[.agg #[.int .i64 6, .string ⟨#[120]⟩, .int .i64 0, .int .i64 0, .string ⟨#[]⟩, .int .i64 0, .slice none 0 0, .slice (some ⟨b, 0, none⟩) 1 1, .slice none 0 0, .slice none 0 0, .int .i64 0]] W' fun e w2 => e = .returned (.int .i64 4) ∧ Below W'.heap.size W' w2 := by
  have := psize_any exLam.mass exLam (Nat.le_refl _) lam_mass _ W' _ hb.size (h.lam.later hb)
  rw [lam_size] at this
  exact this
theorem aw_dp {W W' : World} {a b x y : Nat} (h : AwAt W a b x y) (hb : Below W.heap.size W W') : Calls Try.prog 12 #[.agg #[.int .i64 6, .string ⟨#[120]⟩, .int .i64 0, .int .i64 0, .string ⟨#[]⟩, .int .i64 0, .slice none 0 0, .slice (some ⟨b, 0, none⟩) 1 1, .slice none 0 0, .slice none 0 0, .int .i64 0]] W' fun e w2 => e = .returned (.int .i64 3) ∧ Below W'.heap.size W' w2 := by
  have := pdeep_any exLam.mass exLam (Nat.le_refl _) lam_mass _ W' _ hb.size (h.lam.later hb)
  rw [lam_deep] at this
  exact this
theorem aw_sm {W W' : World} {a b x y : Nat} (h : AwAt W a b x y) (hb : Below W.heap.size W W') : Calls Try.prog 14 #[.agg #[.int .i64 6, .string ⟨#[120]⟩, .int .i64 0, .int .i64 0, .string ⟨#[]⟩, .int .i64 0, .slice none 0 0, .slice (some ⟨b, 0, none⟩) 1 1, .slice none 0 0, .slice none 0 0, .int .i64 0], .agg #[.int .i64 6, .string ⟨#[120]⟩, .int .i64 0, .int .i64 0, .string ⟨#[]⟩, .int .i64 0, .slice none 0 0, .slice (some ⟨b, 0, none⟩) 1 1, .slice none 0 0, .slice none 0 0, .int .i64 0]] W' fun e w2 => e = .returned (.bool true) ∧ Below W'.heap.size W' w2 := by
  have := psame_any exLam.nodes exLam exLam (Nat.le_refl _) _ W' _ _ hb.size (h.lam.later hb) (h.lam.later hb)
  rw [lam_same] at this
  exact this
theorem aw_fr {W : World} {a b x y : Nat} (h : AwAt W a b x y) : Calls Try.prog 26 #[.agg #[.int .i64 6, .string ⟨#[120]⟩, .int .i64 0, .int .i64 0, .string ⟨#[]⟩, .int .i64 0, .slice none 0 0, .slice (some ⟨b, 0, none⟩) 1 1, .slice none 0 0, .slice none 0 0, .int .i64 0]] W fun e w2 => ∃ g c, e = .returned (.slice (some ⟨g, 0, none⟩) 1 c) ∧ w2.cell? ⟨g, 0, none⟩ = some (.string ⟨#[102]⟩) ∧ Below W.heap.size W w2 := by
  have h2 := pfree_any exLam _ W _ lam_mass (Nat.le_refl _) h.lam
  rw [lam_occ] at h2
  refine h2.mono fun e w2 h3 => ?_
  obtain ⟨v, he, ho, hb⟩ := h3
  obtain ⟨g, c, rfl, hc⟩ := own_one ho
  exact ⟨g, c, he, hc, hb⟩

set_option maxHeartbeats 6400000 in
theorem awake05_any (w : World) :
    Calls Try.prog 8 #[] w fun e w' => e = .returned (.bool true) ∧ Below w.heap.size w w' := by
  obtain ⟨W0, hW0⟩ : ∃ W0, (((((w.alloc (.cells #[.int .i64 3, .string ⟨#[120]⟩, .int .i64 0, .int .i64 0, .string ⟨#[]⟩, .int .i64 0, .slice none 0 0, .slice none 0 0, .slice none 0 0, .slice none 0 0, .int .i64 0] 29)).alloc (.cells #[.int .i64 3, .string ⟨#[102]⟩, .int .i64 0, .int .i64 0, .string ⟨#[]⟩, .int .i64 0, .slice none 0 0, .slice none 0 0, .slice none 0 0, .slice none 0 0, .int .i64 0] 29)).alloc (.cells #[.int .i64 3, .string ⟨#[102]⟩, .int .i64 0, .int .i64 0, .string ⟨#[]⟩, .int .i64 0, .slice none 0 0, .slice none 0 0, .slice none 0 0, .slice none 0 0, .int .i64 0, .int .i64 3, .string ⟨#[120]⟩, .int .i64 0, .int .i64 0, .string ⟨#[]⟩, .int .i64 0, .slice none 0 0, .slice none 0 0, .slice none 0 0, .slice none 0 0, .int .i64 0] 29)).alloc (.cells #[.int .i64 5, .string ⟨#[]⟩, .int .i64 0, .int .i64 0, .string ⟨#[]⟩, .int .i64 0, .slice none 0 0, .slice (some ⟨w.heap.size + 1 + 1, 0, none⟩) 2 2, .slice none 0 0, .slice none 0 0, .int .i64 0] 29)).alloc (.cells #[.int .i64 5, .string ⟨#[]⟩, .int .i64 0, .int .i64 0, .string ⟨#[]⟩, .int .i64 0, .slice none 0 0, .slice (some ⟨w.heap.size + 1 + 1, 0, none⟩) 2 2, .slice none 0 0, .slice none 0 0, .int .i64 0] 29)).alloc (.cells #[.int .i64 6, .string ⟨#[120]⟩, .int .i64 0, .int .i64 0, .string ⟨#[]⟩, .int .i64 0, .slice none 0 0, .slice (some ⟨w.heap.size + 1 + 1 + 1 + 1, 0, none⟩) 1 1, .slice none 0 0, .slice none 0 0, .int .i64 0] 29) = W0 := ⟨_, rfl⟩
  have ha : AwAt W0 (w.heap.size + 1 + 1) (w.heap.size + 1 + 1 + 1 + 1) (w.heap.size + 1 + 1 + 1) (w.heap.size + 1 + 1 + 1 + 1 + 1) := by
    rw [← hW0]
    refine ⟨?_, ?_, ?_, ?_⟩
    · have h := (((Blk.new ((w.alloc (.cells #[.int .i64 3, .string ⟨#[120]⟩, .int .i64 0, .int .i64 0, .string ⟨#[]⟩, .int .i64 0, .slice none 0 0, .slice none 0 0, .slice none 0 0, .slice none 0 0, .int .i64 0] 29)).alloc (.cells #[.int .i64 3, .string ⟨#[102]⟩, .int .i64 0, .int .i64 0, .string ⟨#[]⟩, .int .i64 0, .slice none 0 0, .slice none 0 0, .slice none 0 0, .slice none 0 0, .int .i64 0] 29)) 29 #[.int .i64 3, .string ⟨#[102]⟩, .int .i64 0, .int .i64 0, .string ⟨#[]⟩, .int .i64 0, .slice none 0 0, .slice none 0 0, .slice none 0 0, .slice none 0 0, .int .i64 0, .int .i64 3, .string ⟨#[120]⟩, .int .i64 0, .int .i64 0, .string ⟨#[]⟩, .int .i64 0, .slice none 0 0, .slice none 0 0, .slice none 0 0, .slice none 0 0, .int .i64 0]).alloc (.cells #[.int .i64 5, .string ⟨#[]⟩, .int .i64 0, .int .i64 0, .string ⟨#[]⟩, .int .i64 0, .slice none 0 0, .slice (some ⟨w.heap.size + 1 + 1, 0, none⟩) 2 2, .slice none 0 0, .slice none 0 0, .int .i64 0] 29)).alloc (.cells #[.int .i64 5, .string ⟨#[]⟩, .int .i64 0, .int .i64 0, .string ⟨#[]⟩, .int .i64 0, .slice none 0 0, .slice (some ⟨w.heap.size + 1 + 1, 0, none⟩) 2 2, .slice none 0 0, .slice none 0 0, .int .i64 0] 29)).alloc (.cells #[.int .i64 6, .string ⟨#[120]⟩, .int .i64 0, .int .i64 0, .string ⟨#[]⟩, .int .i64 0, .slice none 0 0, .slice (some ⟨w.heap.size + 1 + 1 + 1 + 1, 0, none⟩) 1 1, .slice none 0 0, .slice none 0 0, .int .i64 0] 29)
      rw [World.size_alloc, World.size_alloc] at h
      exact h
    · have h := (Blk.new ((((w.alloc (.cells #[.int .i64 3, .string ⟨#[120]⟩, .int .i64 0, .int .i64 0, .string ⟨#[]⟩, .int .i64 0, .slice none 0 0, .slice none 0 0, .slice none 0 0, .slice none 0 0, .int .i64 0] 29)).alloc (.cells #[.int .i64 3, .string ⟨#[102]⟩, .int .i64 0, .int .i64 0, .string ⟨#[]⟩, .int .i64 0, .slice none 0 0, .slice none 0 0, .slice none 0 0, .slice none 0 0, .int .i64 0] 29)).alloc (.cells #[.int .i64 3, .string ⟨#[102]⟩, .int .i64 0, .int .i64 0, .string ⟨#[]⟩, .int .i64 0, .slice none 0 0, .slice none 0 0, .slice none 0 0, .slice none 0 0, .int .i64 0, .int .i64 3, .string ⟨#[120]⟩, .int .i64 0, .int .i64 0, .string ⟨#[]⟩, .int .i64 0, .slice none 0 0, .slice none 0 0, .slice none 0 0, .slice none 0 0, .int .i64 0] 29)).alloc (.cells #[.int .i64 5, .string ⟨#[]⟩, .int .i64 0, .int .i64 0, .string ⟨#[]⟩, .int .i64 0, .slice none 0 0, .slice (some ⟨w.heap.size + 1 + 1, 0, none⟩) 2 2, .slice none 0 0, .slice none 0 0, .int .i64 0] 29)) 29 #[.int .i64 5, .string ⟨#[]⟩, .int .i64 0, .int .i64 0, .string ⟨#[]⟩, .int .i64 0, .slice none 0 0, .slice (some ⟨w.heap.size + 1 + 1, 0, none⟩) 2 2, .slice none 0 0, .slice none 0 0, .int .i64 0]).alloc (.cells #[.int .i64 6, .string ⟨#[120]⟩, .int .i64 0, .int .i64 0, .string ⟨#[]⟩, .int .i64 0, .slice none 0 0, .slice (some ⟨w.heap.size + 1 + 1 + 1 + 1, 0, none⟩) 1 1, .slice none 0 0, .slice none 0 0, .int .i64 0] 29)
      rw [World.size_alloc, World.size_alloc, World.size_alloc, World.size_alloc] at h
      exact h
    · have h := ((Blk.new (((w.alloc (.cells #[.int .i64 3, .string ⟨#[120]⟩, .int .i64 0, .int .i64 0, .string ⟨#[]⟩, .int .i64 0, .slice none 0 0, .slice none 0 0, .slice none 0 0, .slice none 0 0, .int .i64 0] 29)).alloc (.cells #[.int .i64 3, .string ⟨#[102]⟩, .int .i64 0, .int .i64 0, .string ⟨#[]⟩, .int .i64 0, .slice none 0 0, .slice none 0 0, .slice none 0 0, .slice none 0 0, .int .i64 0] 29)).alloc (.cells #[.int .i64 3, .string ⟨#[102]⟩, .int .i64 0, .int .i64 0, .string ⟨#[]⟩, .int .i64 0, .slice none 0 0, .slice none 0 0, .slice none 0 0, .slice none 0 0, .int .i64 0, .int .i64 3, .string ⟨#[120]⟩, .int .i64 0, .int .i64 0, .string ⟨#[]⟩, .int .i64 0, .slice none 0 0, .slice none 0 0, .slice none 0 0, .slice none 0 0, .int .i64 0] 29)) 29 #[.int .i64 5, .string ⟨#[]⟩, .int .i64 0, .int .i64 0, .string ⟨#[]⟩, .int .i64 0, .slice none 0 0, .slice (some ⟨w.heap.size + 1 + 1, 0, none⟩) 2 2, .slice none 0 0, .slice none 0 0, .int .i64 0]).alloc (.cells #[.int .i64 5, .string ⟨#[]⟩, .int .i64 0, .int .i64 0, .string ⟨#[]⟩, .int .i64 0, .slice none 0 0, .slice (some ⟨w.heap.size + 1 + 1, 0, none⟩) 2 2, .slice none 0 0, .slice none 0 0, .int .i64 0] 29)).alloc (.cells #[.int .i64 6, .string ⟨#[120]⟩, .int .i64 0, .int .i64 0, .string ⟨#[]⟩, .int .i64 0, .slice none 0 0, .slice (some ⟨w.heap.size + 1 + 1 + 1 + 1, 0, none⟩) 1 1, .slice none 0 0, .slice none 0 0, .int .i64 0] 29)
      rw [World.size_alloc, World.size_alloc, World.size_alloc] at h
      exact h
    · have h := Blk.new (((((w.alloc (.cells #[.int .i64 3, .string ⟨#[120]⟩, .int .i64 0, .int .i64 0, .string ⟨#[]⟩, .int .i64 0, .slice none 0 0, .slice none 0 0, .slice none 0 0, .slice none 0 0, .int .i64 0] 29)).alloc (.cells #[.int .i64 3, .string ⟨#[102]⟩, .int .i64 0, .int .i64 0, .string ⟨#[]⟩, .int .i64 0, .slice none 0 0, .slice none 0 0, .slice none 0 0, .slice none 0 0, .int .i64 0] 29)).alloc (.cells #[.int .i64 3, .string ⟨#[102]⟩, .int .i64 0, .int .i64 0, .string ⟨#[]⟩, .int .i64 0, .slice none 0 0, .slice none 0 0, .slice none 0 0, .slice none 0 0, .int .i64 0, .int .i64 3, .string ⟨#[120]⟩, .int .i64 0, .int .i64 0, .string ⟨#[]⟩, .int .i64 0, .slice none 0 0, .slice none 0 0, .slice none 0 0, .slice none 0 0, .int .i64 0] 29)).alloc (.cells #[.int .i64 5, .string ⟨#[]⟩, .int .i64 0, .int .i64 0, .string ⟨#[]⟩, .int .i64 0, .slice none 0 0, .slice (some ⟨w.heap.size + 1 + 1, 0, none⟩) 2 2, .slice none 0 0, .slice none 0 0, .int .i64 0] 29)).alloc (.cells #[.int .i64 5, .string ⟨#[]⟩, .int .i64 0, .int .i64 0, .string ⟨#[]⟩, .int .i64 0, .slice none 0 0, .slice (some ⟨w.heap.size + 1 + 1, 0, none⟩) 2 2, .slice none 0 0, .slice none 0 0, .int .i64 0] 29)) 29 #[.int .i64 6, .string ⟨#[120]⟩, .int .i64 0, .int .i64 0, .string ⟨#[]⟩, .int .i64 0, .slice none 0 0, .slice (some ⟨w.heap.size + 1 + 1 + 1 + 1, 0, none⟩) 1 1, .slice none 0 0, .slice none 0 0, .int .i64 0]
      rw [World.size_alloc, World.size_alloc, World.size_alloc, World.size_alloc, World.size_alloc] at h
      exact h
  have hz : Below w.heap.size w W0 := by
    rw [← hW0]
    exact ((((((Below.refl _ _).alloc (Nat.le_refl _) _).alloc (by simp) _).alloc (by simp; omega) _).alloc (by simp; omega) _).alloc (by simp; omega) _).alloc (by simp; omega) _
  have HW := Lib.hid hW0
  have HZ := Lib.hid hz
  have HA := Lib.hid ha
  have C1 := Lib.hid (aw_fr ha)
  have C2 := Lib.hid (fun W hb => aw_vl (W' := W) ha hb)
  have C3 := Lib.hid (fun W hb => aw_vc (W' := W) ha hb)
  have C4 := Lib.hid (fun W hb => aw_sz (W' := W) ha hb)
  have C5 := Lib.hid (fun W hb => aw_dp (W' := W) ha hb)
  have C6 := Lib.hid (fun W hb => aw_sm (W' := W) ha hb)
  clear ha hz hW0
  go_enter Try.func8, Try.ntmps8
  go_wp2_with fail
  rw [HW.out]
  go_wp2_with (go_at_call 26; (with_reducible refine C1.out.mono ?_); rintro e w1 ⟨g, c, rfl, hfc, hk1⟩; (have HA1 := HA.out.later hk1); (have z0 := HA1.boxL.cell 0); (have z1 := HA1.boxL.cell 1); (have z2 := HA1.boxL.cell 2); (have z3 := HA1.boxL.cell 3); (have z4 := HA1.boxL.cell 4); (have z5 := HA1.boxL.cell 5); (have z6 := HA1.boxL.cell 6); (have z7 := HA1.boxL.cell 7); (have z8 := HA1.boxL.cell 8); (have z9 := HA1.boxL.cell 9); (have z10 := HA1.boxL.cell 10); (simp only [List.getElem?_toArray, List.getElem?_cons_succ, List.getElem?_cons_zero] at z0 z1 z2 z3 z4 z5 z6 z7 z8 z9 z10))
  go_wp2_with (go_at_call 28; (with_reducible refine (C2.out _ hk1).mono ?_); rintro e w2 ⟨rfl, hb2⟩; (have hk2 : Below W0.heap.size W0 w2 := hk1.trans (hb2.mono hk1.size)); (have HA2 := HA.out.later hk2); (have d0 := HA2.boxC.cell 0); (have d1 := HA2.boxC.cell 1); (have d2 := HA2.boxC.cell 2); (have d3 := HA2.boxC.cell 3); (have d4 := HA2.boxC.cell 4); (have d5 := HA2.boxC.cell 5); (have d6 := HA2.boxC.cell 6); (have d7 := HA2.boxC.cell 7); (have d8 := HA2.boxC.cell 8); (have d9 := HA2.boxC.cell 9); (have d10 := HA2.boxC.cell 10); simp only [List.getElem?_toArray, List.getElem?_cons_succ, List.getElem?_cons_zero] at d0 d1 d2 d3 d4 d5 d6 d7 d8 d9 d10)
  go_wp2_with (go_at_call 28; (with_reducible refine (C3.out _ hk2).mono ?_); rintro e w3 ⟨rfl, hb3⟩; (have hk3 : Below W0.heap.size W0 w3 := hk2.trans (hb3.mono hk2.size)); (have HA3 := HA.out.later hk3); (have e0 := HA3.boxL.cell 0); (have e1 := HA3.boxL.cell 1); (have e2 := HA3.boxL.cell 2); (have e3 := HA3.boxL.cell 3); (have e4 := HA3.boxL.cell 4); (have e5 := HA3.boxL.cell 5); (have e6 := HA3.boxL.cell 6); (have e7 := HA3.boxL.cell 7); (have e8 := HA3.boxL.cell 8); (have e9 := HA3.boxL.cell 9); (have e10 := HA3.boxL.cell 10); simp only [List.getElem?_toArray, List.getElem?_cons_succ, List.getElem?_cons_zero] at e0 e1 e2 e3 e4 e5 e6 e7 e8 e9 e10)
  go_wp2_with (go_at_call 10; (with_reducible refine (C4.out _ hk3).mono ?_); rintro e w4 ⟨rfl, hb4⟩; (have hk4 : Below W0.heap.size W0 w4 := hk3.trans (hb4.mono hk3.size)); (have HA4 := HA.out.later hk4); (have f0 := HA4.boxL.cell 0); (have f1 := HA4.boxL.cell 1); (have f2 := HA4.boxL.cell 2); (have f3 := HA4.boxL.cell 3); (have f4 := HA4.boxL.cell 4); (have f5 := HA4.boxL.cell 5); (have f6 := HA4.boxL.cell 6); (have f7 := HA4.boxL.cell 7); (have f8 := HA4.boxL.cell 8); (have f9 := HA4.boxL.cell 9); (have f10 := HA4.boxL.cell 10); simp only [List.getElem?_toArray, List.getElem?_cons_succ, List.getElem?_cons_zero] at f0 f1 f2 f3 f4 f5 f6 f7 f8 f9 f10)
  go_wp2_with (go_at_call 12; (with_reducible refine (C5.out _ hk4).mono ?_); rintro e w5 ⟨rfl, hb5⟩; (have hk5 : Below W0.heap.size W0 w5 := hk4.trans (hb5.mono hk4.size)); (have HA5 := HA.out.later hk5); (have g0 := HA5.boxL.cell 0); (have g1 := HA5.boxL.cell 1); (have g2 := HA5.boxL.cell 2); (have g3 := HA5.boxL.cell 3); (have g4 := HA5.boxL.cell 4); (have g5 := HA5.boxL.cell 5); (have g6 := HA5.boxL.cell 6); (have g7 := HA5.boxL.cell 7); (have g8 := HA5.boxL.cell 8); (have g9 := HA5.boxL.cell 9); (have g10 := HA5.boxL.cell 10); simp only [List.getElem?_toArray, List.getElem?_cons_succ, List.getElem?_cons_zero] at g0 g1 g2 g3 g4 g5 g6 g7 g8 g9 g10)
  go_wp2_with (go_at_call 14; (with_reducible refine (C6.out _ hk5).mono ?_); rintro e w6 ⟨rfl, hb6⟩; (have hk6 : Below W0.heap.size W0 w6 := hk5.trans (hb6.mono hk5.size)))
  go_ret
  exact ⟨rfl, HZ.out.trans (hk6.mono HZ.out.size)⟩

end Go.Proofs.Ytglamoiimmahgaa
