/- Walks: the document's free names: of a list. -/
import Derived.Test.YtglamoiimmahgaaPfree
import Derived.Test.YtglamoiimmahgaaPartw
import Derived.Deep.RegionHeld3
namespace Go.Proofs.Ytglamoiimmahgaa
open Go.RowKit
set_option linter.unusedVariables false
set_option linter.unusedSimpArgs false

/-- A slice of names, read. -/
def NmR (W : World) (A : Option Addr) (q : Nat) (l : List ByteArray) : Prop := l.length = q ∧ q ≤ 4000000 ∧ Reads W W.heap.size 1 A q (nmVals l)
theorem NmR.later {W W' : World} {A : Option Addr} {q : Nat} {l : List ByteArray} (h : NmR W A q l) (hb : Below W.heap.size W W') : NmR W' A q l := ⟨h.1, h.2.1, (h.2.2.below hb).more hb.size⟩
theorem NmR.nil_ (W : World) : NmR W none 0 [] := ⟨rfl, by omega, Reads.none_⟩
/-- What is answered: a slice of names; what lay below two places lies still. -/
def NmPost (l : List ByteArray) (W W0 : World) (e : Ending) (w2 : World) : Prop := ∃ A q c, e = .returned (.slice A q c) ∧ q ≤ 4000000 ∧ NmR w2 A q l ∧ Below W.heap.size W w2 ∧ Below W0.heap.size W0 w2
theorem post_of {l : List ByteArray} {W W0 : World} (hb : Below W0.heap.size W0 W) (hl : l.length ≤ 4000000) {e : Ending} {w2 : World} (h : NamesSays l W e w2) : NmPost l W W0 e w2 := by
  obtain ⟨A, c, h1, h2, h3⟩ := h
  exact ⟨A, l.length, c, h1, hl, ⟨rfl, hl, h2⟩, h3, hb.trans (h3.mono hb.size)⟩
theorem joinP {W0 W : World} {l m : List ByteArray} {A A' : Option Addr} {n n' c c' : Nat} (hb : Below W0.heap.size W0 W) (h1 : NmR W A n l) (h2 : NmR W A' n' m) (hl : (joinS l m).length ≤ 4000000) :
    Calls Try.prog 30 #[.slice A n c, .slice A' n' c'] W (NmPost (joinS l m) W W0) :=
  (rjoin_any l m A A' n n' c c' W.heap.size W (Nat.le_refl _) h1.2.1 h2.2.1 h1.2.2 h2.2.2).mono fun _ _ h => post_of hb hl h
theorem withoutP {W0 W : World} {l m : List ByteArray} {A A' : Option Addr} {n n' c c' : Nat} (hb : Below W0.heap.size W0 W) (h1 : NmR W A n l) (h2 : NmR W A' n' m) :
    Calls Try.prog 56 #[.slice A n c, .slice A' n' c'] W (NmPost (withoutS l m) W W0) :=
  (rwithout_any l m A A' n n' c c' W.heap.size W (Nat.le_refl _) h1.2.1 (by have := h2.2.1; omega) h1.2.2 h2.2.2).mono fun _ _ h => post_of hb (Nat.le_trans (List.length_filter_le _ _) (by have := h1.1; have := h1.2.1; omega)) h
theorem below_new (W : World) (o : Obj) : Below W.heap.size W (W.alloc o) := (Below.refl _ _).alloc (Nat.le_refl _) o
theorem nm_new (W : World) (s : ByteArray) : NmR (W.alloc (.cells #[.string s] 9)) (some ⟨W.heap.size, 0, none⟩) 1 [s] :=
  ⟨rfl, by omega, rfl, fun _ => ⟨_, rfl, by simp, fun j u hu => by
    rw [add_flat, Nat.zero_add, (Blk.new W _ _).cell j]; simpa using hu⟩⟩
theorem below_keep_new {W0 wr : World} {o : Obj} (h : Below W0.heap.size W0 wr) : Below W0.heap.size W0 (wr.alloc o) := h.trans ((below_new _ _).mono h.size)
theorem keep_new {W0 wr : World} {o : Obj} {b off : Nat} {v : Value} (h : Below W0.heap.size W0 wr) (hb : b < W0.heap.size) (hc : W0.cell? ⟨b, off, none⟩ = some v) : (wr.alloc o).cell? ⟨b, off, none⟩ = some v := cell_kept (below_keep_new h) hb hc
theorem nm_new_drew (W : World) (s : ByteArray) : NmR (W.alloc (.cells #[.string s] 9)).drew (some ⟨W.heap.size, 0, none⟩) 1 [s] := nm_new W s
/-- What Free is to answer of an expression, wherever it lies. -/
def FreeIs (x : Ex) : Prop := ∀ (B : Nat) (w : World) (cs : List Value), B ≤ w.heap.size → ExAt w B cs x → Calls Try.prog 27 #[.agg cs.toArray] w (NamesSays (ddS (x.occ [])) w)
theorem exsOcc_len : ∀ (l : List Ex) (bl : List ByteArray), (exsOcc l bl).length ≤ exsMass l
  | [], bl => by simp [exsOcc]
  | x :: l, bl => by
    have := occ_len x bl
    have := exsOcc_len l bl
    simp only [exsOcc, exsMass, List.length_append]; omega

theorem ExsAt.more {w : World} {B B' : Nat} {es : List Ex} {L : List (List Value)} (h : ExsAt w B es L) (hB : B ≤ B') : ExsAt w B' es L := ⟨h.len, h.each, fun i h1 h2 => (h.exp i h1 h2).more hB⟩

set_option maxRecDepth 100000 in
set_option maxHeartbeats 6400000 in
theorem rfrees_any (es : List Ex) (A : Option Addr) (L : List (List Value)) (c B n : Nat) (w w0 : World) (hB : B ≤ w.heap.size) (hn : es.length = n) (hm : exsMass es ≤ 4000000) (hr : Row w B 11 A n L) (hx : ExsAt w B es L) (hb0 : Below w0.heap.size w0 w) (IH : ∀ x ∈ es, FreeIs x) :
    Calls Try.prog 55 #[.slice A n c] w (NmPost (ddS (exsOcc es [])) w w0) := by
  have hn9 : n ≤ 4000000 := by have := exs_len_mass es; omega
  have HB := Lib.hid hB
  have HN := Lib.hid hn
  have HM := Lib.hid hm
  have HR := Lib.hid hr
  have HX := Lib.hid hx
  have HB0 := Lib.hid hb0
  have HI := Lib.hid IH
  clear hB hn hm hr hx hb0 IH
  go_enter Try.func55, Try.ntmps55
  go_wp2_with fail
  go_loopw [3, 4] (fun v i wr => ∃ (j : Nat) (A' : Option Addr) (q c' : Nat), i = .int .i64 j ∧ j ≤ n ∧ v = .slice A' q c' ∧ q ≤ 4000000 ∧ NmR wr A' q (ddS (exsOcc (es.take j) [])) ∧ Below w.heap.size w wr) (fun _ i _ => n - (intOf i).toNat)
  case atStart => exact ⟨0, none, 0, 0, rfl, Nat.zero_le _, rfl, by omega, NmR.nil_ _, Below.refl _ _⟩
  case round =>
    obtain ⟨j, A', q, c', rfl, hj, rfl, hq, hnm, hbe⟩ := hrel
    have HNM := Lib.hid hnm
    have HBE := Lib.hid hbe
    clear hnm hbe
    by_cases hlt : j < n
    · have hjk : j < es.length := by rw [HN.out]; exact hlt
      have hbw := HBE.out.mono HB.out
      obtain ⟨g, o, c0, c1, c2, c3, c4, c5, c6, c7, c8, c9, c10, rfl, hg, ⟨hlx, hLx⟩, k0, k1, k2, k3, k4, k5, k6, k7, k8, k9, k10⟩ := ex_cells (HR.out.later hbw) hlt
      have he := (HX.out.exp j hlx hjk).later hbw
      rw [hLx] at he
      have hBr : B ≤ wr.heap.size := Nat.le_trans HB.out HBE.out.size
      have ho : (es[j].occ []).length ≤ 4000000 := Nat.le_trans (occ_len _ _) (Nat.le_trans (exs_mem_mass es _ (List.getElem_mem hjk)) HM.out)
      have HF := Lib.hid ((HI.out es[j] (List.getElem_mem hjk) B wr [c0, c1, c2, c3, c4, c5, c6, c7, c8, c9, c10] hBr he).mono fun _ _ h => post_of (Below.refl _ _) (Nat.le_trans (dd_len _) ho) h)
      have hst : joinS (ddS (exsOcc (es.take j) [])) (ddS (es[j].occ [])) = ddS (exsOcc (es.take (j + 1)) []) := by
        rw [join_dd, exsOcc_take [] hjk]; unfold ddS; rw [join_app]
      have hl1 : (ddS (exsOcc (es.take (j + 1)) [])).length ≤ 4000000 := Nat.le_trans (dd_len _) (Nat.le_trans (exsOcc_len _ _) (Nat.le_trans (exsMass_take_le _ _) HM.out))
      have HJ := Lib.hid (fun (W : World) (A2 : Option Addr) (q2 c2' : Nat) (hb : Below wr.heap.size wr W) (h2 : NmR W A2 q2 (ddS (es[j].occ []))) =>
        show Calls Try.prog 30 #[.slice A' q c', .slice A2 q2 c2'] W (NmPost (ddS (exsOcc (es.take (j + 1)) [])) W wr) from by
          have h := joinP (c := c') (c' := c2') hb (HNM.out.later hb) h2 (by rw [hst]; exact hl1)
          rw [hst] at h; exact h)
      clear hbw he hLx ho hst hl1
      go_wp2_with (first | (go_at_call 27; (with_reducible refine HF.out.mono ?_); rintro e w2 ⟨A2, q2, c2', rfl, hq2, hr2, hb2, -⟩) | (go_at_call 30; (with_reducible refine (HJ.out _ _ _ _ hb2 hr2).mono ?_); rintro e w3 ⟨A3, q3, c3', rfl, hq3, hr3, hb3, hb3'⟩))
      have HR3 := Lib.hid hr3
      have HB3 := Lib.hid (HBE.out.trans (hb3'.mono HBE.out.size))
      clear hr3 hb3 hb3' hb2 hr2
      go_roundw
      case rel => exact ⟨j + 1, A3, q3, c3', by go_num, by omega, rfl, hq3, HR3.out, HB3.out⟩
      case measure => simp [intOf]; omega
    · have HE := Lib.hid (show NmR wr A' q (ddS (exsOcc es [])) by have := HNM.out; rw [List.take_of_length_le (by rw [HN.out]; omega)] at this; exact this)
      go_wp2_with fail
      go_ret
      exact ⟨A', q, c', rfl, hq, HE.out, HBE.out, HB0.out.trans (HBE.out.mono HB0.out.size)⟩

end Go.Proofs.Ytglamoiimmahgaa
