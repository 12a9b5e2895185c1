/- Walks: the program's lists of names, said as the document's; two equal lists. -/
import Derived.Test.YtglamoiimmahgaaRfree
import Derived.Test.YtglamoiimmahgaaPval
import Derived.Test.YtglamoiimmahgaaValue
namespace Go.Proofs.Ytglamoiimmahgaa
open Go.RowKit
set_option linter.unusedVariables false

theorem texts_self : ∀ l : List ByteArray, textsS l l = true
  | [] => rfl
  | a :: l => by simp only [textsS]; rw [nmEq_rfl, texts_self l]; rfl
theorem own_post {l : List ByteArray} {W W0 : World} (hb : Below W0.heap.size W0 W) (hl : l.length ≤ 4000000) {e : Ending} {w2 : World} (h : NmOwn l W e w2) : NmPost l W W0 e w2 := by
  obtain ⟨v, h1, h2, h3⟩ := h
  obtain ⟨A, c, rfl, hr⟩ := own_shape h2
  exact ⟨A, l.length, c, h1, hl, ⟨rfl, hl, hr⟩, h3, hb.trans (h3.mono hb.size)⟩
theorem pfreeP {W0 W : World} {e : Ex} {B : Nat} {cs : List Value} (hb : Below W0.heap.size W0 W) (hN : e.mass ≤ 4000000) (hB : B ≤ W.heap.size) (hx : ExAt W B cs e) :
    Calls Try.prog 26 #[.agg cs.toArray] W (NmPost (ddS (e.occ [])) W W0) :=
  (pfree_any e B W cs hN hB hx).mono fun _ _ h => own_post hb (Nat.le_trans (dd_len _) (Nat.le_trans (occ_len _ _) hN)) h
theorem rfreeP {W0 W : World} {e : Ex} {B : Nat} {cs : List Value} (hb : Below W0.heap.size W0 W) (hN : e.mass ≤ 4000000) (hB : B ≤ W.heap.size) (hx : ExAt W B cs e) :
    Calls Try.prog 27 #[.agg cs.toArray] W (NmPost (ddS (e.occ [])) W W0) :=
  (rfree_any _ e (Nat.le_refl _) hN B W cs hB hx).mono fun _ _ h => post_of hb (Nat.le_trans (dd_len _) (Nat.le_trans (occ_len _ _) hN)) h
theorem pnamesP {W0 W : World} {p : Pt} {B : Nat} {cs : List Value} (hb : Below W0.heap.size W0 W) (hN : p.nodes ≤ 4000000) (hB : B ≤ W.heap.size) (hx : PtAt W B cs p) :
    Calls Try.prog 24 #[.agg cs.toArray] W (NmPost (ptNames p) W W0) :=
  (pnames_any p B W cs hN hB hx).mono fun _ _ h => own_post hb (Nat.le_trans (ptNames_le _ _ (Nat.le_refl _)) hN) h
theorem rnamesP {W0 W : World} {p : Pt} {B : Nat} {cs : List Value} (hb : Below W0.heap.size W0 W) (hN : p.nodes ≤ 4000000) (hB : B ≤ W.heap.size) (hx : PtAt W B cs p) :
    Calls Try.prog 25 #[.agg cs.toArray] W (NmPost (ptNames p) W W0) :=
  (rnames_any _ p (Nat.le_refl _) hN B W cs hB hx).mono fun _ _ h => post_of hb (Nat.le_trans (ptNames_le _ _ (Nat.le_refl _)) hN) h
theorem textsP {W0 W : World} {l : List ByteArray} {A A' : Option Addr} {n n' c c' : Nat} (hb : Below W0.heap.size W0 W) (h1 : NmR W A n l) (h2 : NmR W A' n' l) :
    Calls Try.prog 23 #[.slice A n c, .slice A' n' c'] W (fun e w2 => e = .returned (.bool true) ∧ Below W.heap.size W w2 ∧ Below W0.heap.size W0 w2) :=
  (rtexts_any l l A A' n n' c c' W.heap.size W (by have := h1.2.1; omega) h1.2.2 h2.2.2).mono fun _ _ h => by
    obtain ⟨h3, k, rfl⟩ := h
    rw [texts_self] at h3
    exact ⟨h3, below_drewN (Below.refl _ _) k, below_drewN hb k⟩
theorem valueP {W0 W : World} {e : Ex} {B : Nat} {cs : List Value} {v : Bool} (hb : Below W0.heap.size W0 W) (hv : e.value = v) (hB : B ≤ W.heap.size) (hx : ExAt W B cs e) :
    Calls Try.prog 28 #[.agg cs.toArray] W (fun e' w2 => e' = .returned (.bool v) ∧ Below W.heap.size W w2 ∧ Below W0.heap.size W0 w2) :=
  (pvalue_any _ e (Nat.le_refl _) B W cs hB hx).mono fun _ _ h => by rw [hv] at h; exact ⟨h.1, h.2, hb.trans (h.2.mono hb.size)⟩
theorem rvalueP {W0 W : World} {e : Ex} {B : Nat} {cs : List Value} {v : Bool} (hb : Below W0.heap.size W0 W) (hv : e.value = v) (hB : B ≤ W.heap.size) (hx : ExAt W B cs e) :
    Calls Try.prog 29 #[.agg cs.toArray] W (fun e' w2 => e' = .returned (.bool v) ∧ Below W.heap.size W w2 ∧ Below W0.heap.size W0 w2) :=
  (rvalue_any _ e (Nat.le_refl _) B W cs hB hx).mono fun _ _ h => by rw [hv] at h; exact ⟨h.1, h.2, hb.trans (h.2.mono hb.size)⟩

end Go.Proofs.Ytglamoiimmahgaa
