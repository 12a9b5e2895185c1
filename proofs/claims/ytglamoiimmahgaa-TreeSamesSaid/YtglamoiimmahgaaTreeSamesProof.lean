/-
  The law 'TreeSames' of the document's layer returns true for every input, and leaves what it was given as it was. No condition.
-/
import Derived.Test.YtglamoiimmahgaaRows
import Derived.WalkKit
import Derived.ProofKit
import Derived.OpenShut
import Derived.ShutString
import Derived.ChangeOld
import Derived.Below
import Derived.Carry
import Derived.Lib.SmallJoins
import Derived.SliceStrings
import Derived.Test.YtglamoiimmahgaaOpen
import Derived.Test.YtglamoiimmahgaaAwake05
import Derived.Test.YtglamoiimmahgaaSamew
import Derived.Test.YtglamoiimmahgaaParts
namespace Go.Proofs.Ytglamoiimmahgaa.treeSames
open Go.Proofs.Ytglamoiimmahgaa
open Go.ChangeShapes Go.WideShapes Go.ChangeAt Go.RowKit Go.Joins
open Go.ChangeMaps (open_string shut_string)
set_option linter.unusedVariables false

theorem own : ownKnob Try.prog.godebug = none := by kernel_rfl
theorem laidOut : laidOutB Try.prog = true := by kernel_rfl

/-- Every expression is the same as itself. -/
theorem tySame_self (N : Nat) : ∀ t : Ty, t.nodes ≤ N → tySame t t = true := by
  induction N with
  | zero => intro t h; cases t; unfold Ty.nodes at h; omega
  | succ N ih =>
    intro t h
    cases t with
    | mk k nm n ks =>
    unfold Ty.nodes at h
    have := tys_yes ks ks rfl (fun j h1 h2 => ih _ (by have := tys_mem ks ks[j] (List.getElem_mem h1); omega))
    rw [tySame, this]; simp
theorem ptSame_self (N : Nat) : ∀ t : Pt, t.nodes ≤ N → ptSame t t = true := by
  induction N with
  | zero => intro t h; cases t; unfold Pt.nodes at h; omega
  | succ N ih =>
    intro t h
    cases t with
    | mk k nm n ks q =>
    unfold Pt.nodes at h
    have := pts_yes ks ks rfl (fun j h1 h2 => ih _ (by have := pts_mem ks ks[j] (List.getElem_mem h1); omega))
    rw [ptSame, this]; simp
theorem exSame_selfN (N : Nat) : ∀ t : Ex, t.nodes ≤ N → exSame t t = true := by
  induction N with
  | zero => intro t h; cases t; unfold Ex.nodes at h; omega
  | succ N ih =>
    intro t h
    cases t with
    | mk k nm n ty ks als bs q =>
    unfold Ex.nodes at h
    have e1 := exs_yes ks ks rfl (fun j h1 h2 => ih _ (by have := exs_mem ks j h1; omega))
    have e2 := als_yes als als rfl (fun j h1 h2 => by
      have h9 := als_mem als j h1
      revert h9
      cases als[j] with
      | mk p e => intro h9; rw [al_nodes] at h9; unfold alSame; rw [ptSame_self _ p (Nat.le_refl _), ih e (by omega)]; rfl)
    have e3 := bds_yes bs bs rfl (fun j h1 h2 => by
      have h9 := bds_mem bs j h1
      revert h9
      cases bs[j] with
      | mk nm e q => intro h9; rw [bd_nodes] at h9; unfold bdSame; rw [ih e (by omega)]; simp)
    rw [exSame, e1, e2, e3, tySame_self _ ty (Nat.le_refl _)]; simp
theorem exSame_self {t : Ex} : exSame t t = true := exSame_selfN _ t (Nat.le_refl _)
/-- What stays true of the two boxes from world to world. -/
theorem boxes_keep {W1 wr w2 : World} {a b : Nat} {c0 : Value} {c1 : Value} {c2 : Value} {c3 : Value} {c4 : Value} {c5 : Value} {c6 : Value} {c7 : Value} {c8 : Value} {c9 : Value} {c10 : Value} {c11 : Value} {c12 : Value} {c13 : Value} {c14 : Value} {c15 : Value} {c16 : Value} {c17 : Value} {c18 : Value} {c19 : Value} {c20 : Value} {c21 : Value} (hb : Below wr.heap.size wr w2) (h : Below W1.heap.size W1 wr ∧ wr.cell? ⟨a, 0, none⟩ = some c0 ∧ wr.cell? ⟨a, 1, none⟩ = some c1 ∧ wr.cell? ⟨a, 2, none⟩ = some c2 ∧ wr.cell? ⟨a, 3, none⟩ = some c3 ∧ wr.cell? ⟨a, 4, none⟩ = some c4 ∧ wr.cell? ⟨a, 5, none⟩ = some c5 ∧ wr.cell? ⟨a, 6, none⟩ = some c6 ∧ wr.cell? ⟨a, 7, none⟩ = some c7 ∧ wr.cell? ⟨a, 8, none⟩ = some c8 ∧ wr.cell? ⟨a, 9, none⟩ = some c9 ∧ wr.cell? ⟨a, 10, none⟩ = some c10 ∧ wr.cell? ⟨b, 0, none⟩ = some c11 ∧ wr.cell? ⟨b, 1, none⟩ = some c12 ∧ wr.cell? ⟨b, 2, none⟩ = some c13 ∧ wr.cell? ⟨b, 3, none⟩ = some c14 ∧ wr.cell? ⟨b, 4, none⟩ = some c15 ∧ wr.cell? ⟨b, 5, none⟩ = some c16 ∧ wr.cell? ⟨b, 6, none⟩ = some c17 ∧ wr.cell? ⟨b, 7, none⟩ = some c18 ∧ wr.cell? ⟨b, 8, none⟩ = some c19 ∧ wr.cell? ⟨b, 9, none⟩ = some c20 ∧ wr.cell? ⟨b, 10, none⟩ = some c21) (hl1 : a < W1.heap.size) (hl2 : b < W1.heap.size) : Below W1.heap.size W1 w2 ∧ w2.cell? ⟨a, 0, none⟩ = some c0 ∧ w2.cell? ⟨a, 1, none⟩ = some c1 ∧ w2.cell? ⟨a, 2, none⟩ = some c2 ∧ w2.cell? ⟨a, 3, none⟩ = some c3 ∧ w2.cell? ⟨a, 4, none⟩ = some c4 ∧ w2.cell? ⟨a, 5, none⟩ = some c5 ∧ w2.cell? ⟨a, 6, none⟩ = some c6 ∧ w2.cell? ⟨a, 7, none⟩ = some c7 ∧ w2.cell? ⟨a, 8, none⟩ = some c8 ∧ w2.cell? ⟨a, 9, none⟩ = some c9 ∧ w2.cell? ⟨a, 10, none⟩ = some c10 ∧ w2.cell? ⟨b, 0, none⟩ = some c11 ∧ w2.cell? ⟨b, 1, none⟩ = some c12 ∧ w2.cell? ⟨b, 2, none⟩ = some c13 ∧ w2.cell? ⟨b, 3, none⟩ = some c14 ∧ w2.cell? ⟨b, 4, none⟩ = some c15 ∧ w2.cell? ⟨b, 5, none⟩ = some c16 ∧ w2.cell? ⟨b, 6, none⟩ = some c17 ∧ w2.cell? ⟨b, 7, none⟩ = some c18 ∧ w2.cell? ⟨b, 8, none⟩ = some c19 ∧ w2.cell? ⟨b, 9, none⟩ = some c20 ∧ w2.cell? ⟨b, 10, none⟩ = some c21 := by
  obtain ⟨h0, h1, h2, h3, h4, h5, h6, h7, h8, h9, h10, h11, h12, h13, h14, h15, h16, h17, h18, h19, h20, h21, h22⟩ := h
  have hz1 : a < wr.heap.size := Nat.lt_of_lt_of_le hl1 h0.size
  have hz2 : b < wr.heap.size := Nat.lt_of_lt_of_le hl2 h0.size
  exact ⟨h0.trans (hb.mono h0.size), cell_kept hb hz1 h1, cell_kept hb hz1 h2, cell_kept hb hz1 h3, cell_kept hb hz1 h4, cell_kept hb hz1 h5, cell_kept hb hz1 h6, cell_kept hb hz1 h7, cell_kept hb hz1 h8, cell_kept hb hz1 h9, cell_kept hb hz1 h10, cell_kept hb hz1 h11, cell_kept hb hz2 h12, cell_kept hb hz2 h13, cell_kept hb hz2 h14, cell_kept hb hz2 h15, cell_kept hb hz2 h16, cell_kept hb hz2 h17, cell_kept hb hz2 h18, cell_kept hb hz2 h19, cell_kept hb hz2 h20, cell_kept hb hz2 h21, cell_kept hb hz2 h22⟩
set_option maxRecDepth 100000 in
set_option maxHeartbeats 12800000 in
theorem walk (x0 : List Value) (t0 : Ex) (x1 : List Value) (t1 : Ex) (w : World) (w0 : ExAt w w.heap.size x0 t0) (w1 : ExAt w w.heap.size x1 t1) :
    Calls Try.prog 4 #[.agg x0.toArray, .agg x1.toArray] w fun e w' => e = .returned (.bool true) ∧ Below w.heap.size w w' := by
  have X0 := w0
  have X1 := w1
  cases w0 with
  | @mk k n q nm t T A Aa Ab c ca cb ks als bs L La Lb _ _ _ _ ht _ _ _ _ _ _ hb hba hbb hr hks hra hals hrb hbs =>
  cases ht with
  | @mk tk tn tnm tA tc tks tL h1 h2 h3 h4 h5 h6 htr htks =>
  cases w1 with
  | @mk k' n' q' nm' t' T' A' Aa' Ab' c' ca' cb' ks' als' bs' L' La' Lb' _ _ _ _ ht' _ _ _ _ _ _ hb' hba' hbb' hr' hks' hra' hals' hrb' hbs' =>
  cases ht' with
  | @mk tk' tn' tnm' tA' tc' tks' tL' h1' h2' h3' h4' h5' h6' htr' htks' =>
  have htyx : TyAt w w.heap.size [.int .i64 tk, .string tnm, .int .i64 tn, .slice tA tks.length tc] (.mk tk tnm tn tks) := .mk h1 h2 h3 h4 h5 h6 htr htks
  have htyy : TyAt w w.heap.size [.int .i64 tk', .string tnm', .int .i64 tn', .slice tA' tks'.length tc'] (.mk tk' tnm' tn' tks') := .mk h1' h2' h3' h4' h5' h6' htr' htks'
  obtain ⟨ta, hta⟩ : ∃ ta, Ex.mk k nm n (.mk tk tnm tn tks) ks als bs q = ta := ⟨_, rfl⟩
  obtain ⟨tb, htb⟩ : ∃ tb, Ex.mk k' nm' n' (.mk tk' tnm' tn' tks') ks' als' bs' q' = tb := ⟨_, rfl⟩
  obtain ⟨tx, htx⟩ : ∃ tx, Ty.mk tk tnm tn tks = tx := ⟨_, rfl⟩
  obtain ⟨ty, hty⟩ : ∃ ty, Ty.mk tk' tnm' tn' tks' = ty := ⟨_, rfl⟩
  rw [hta] at X0
  rw [htb] at X1
  rw [htx] at htyx
  rw [hty] at htyy
  simp only [List.cons_append, List.nil_append] at X0 X1 ⊢
  obtain ⟨v, hv⟩ : ∃ v, exSame ta tb = v := ⟨_, rfl⟩
  obtain ⟨vt, hvt⟩ : ∃ v, tySame tx ty = v := ⟨_, rfl⟩
  have hla9 : als.length ≤ 1000000000000 := by omega
  have hla9' : als'.length ≤ 1000000000000 := by omega
  obtain ⟨W2, hW2⟩ : ∃ W2, (w.alloc (.cells #[.int .i64 k, .string nm, .int .i64 n, .int .i64 tk, .string tnm, .int .i64 tn, .slice tA tks.length tc, .slice A ks.length c, .slice Aa als.length ca, .slice Ab bs.length cb, .int .i64 q] 29)).alloc (.cells #[.int .i64 k', .string nm', .int .i64 n', .int .i64 tk', .string tnm', .int .i64 tn', .slice tA' tks'.length tc', .slice A' ks'.length c', .slice Aa' als'.length ca', .slice Ab' bs'.length cb', .int .i64 q'] 29) = W2 := ⟨_, rfl⟩
  have b1 := (Blk.new w 29 #[.int .i64 k, .string nm, .int .i64 n, .int .i64 tk, .string tnm, .int .i64 tn, .slice tA tks.length tc, .slice A ks.length c, .slice Aa als.length ca, .slice Ab bs.length cb, .int .i64 q]).alloc (.cells #[.int .i64 k', .string nm', .int .i64 n', .int .i64 tk', .string tnm', .int .i64 tn', .slice tA' tks'.length tc', .slice A' ks'.length c', .slice Aa' als'.length ca', .slice Ab' bs'.length cb', .int .i64 q'] 29)
  have b2 := Blk.new (w.alloc (.cells #[.int .i64 k, .string nm, .int .i64 n, .int .i64 tk, .string tnm, .int .i64 tn, .slice tA tks.length tc, .slice A ks.length c, .slice Aa als.length ca, .slice Ab bs.length cb, .int .i64 q] 29)) 29 #[.int .i64 k', .string nm', .int .i64 n', .int .i64 tk', .string tnm', .int .i64 tn', .slice tA' tks'.length tc', .slice A' ks'.length c', .slice Aa' als'.length ca', .slice Ab' bs'.length cb', .int .i64 q']
  have hbW : Below w.heap.size w W2 := by rw [← hW2]; exact ((Below.refl _ _).alloc (Nat.le_refl _) _).alloc (by simp) _
  have hzW : W2.heap.size = w.heap.size + 1 + 1 := by rw [← hW2]; simp
  rw [hW2] at b1 b2
  rw [World.size_alloc] at b2
  have HW := Lib.hid hW2
  have HBW := Lib.hid hbW
  have HZ := Lib.hid hzW
  have HX := Lib.hid X0
  have HY := Lib.hid X1
  have HTX := Lib.hid htyx
  have HTY := Lib.hid htyy
  have HB1 := Lib.hid b1
  have HB2 := Lib.hid b2
  have HRA := Lib.hid hra
  have HRA' := Lib.hid hra'
  have HEA := Lib.hid hals
  have HEA' := Lib.hid hals'
  have box1 := Lib.hid (fun (W : World) (hW : Below W2.heap.size W2 W) (i : Nat) => (hW.cell (p := ⟨w.heap.size, i, none⟩) (by show w.heap.size < _; omega)).trans (b1.cell i))
  have box2 := Lib.hid (fun (W : World) (hW : Below W2.heap.size W2 W) (i : Nat) => (hW.cell (p := ⟨w.heap.size + 1, i, none⟩) (by show w.heap.size + 1 < _; omega)).trans (b2.cell i))
  have HV := Lib.hid hv
  have HVT := Lib.hid hvt
  have HM := Lib.hid (fun W (hb : Below W2.heap.size W2 W) => (⟨Nat.le_trans HBW.out.size hb.size, HBW.out.trans (hb.mono HBW.out.size)⟩ : w.heap.size ≤ W.heap.size ∧ Below w.heap.size w W))
  clear hv hvt b1 b2 hzW hbW hW2 htyx htyy X0 X1 hta htb htx hty hr hr' hks hks' hra hra' hals hals' hrb hrb' hbs hbs' htr htks htr' htks' h1 h2 h3 h4 h5 h6 h1' h2' h3' h4' h5' h6' hb hba hbb hb' hba' hbb'
  have CA := Lib.hid (fun W => awake05_any W)
  have CS1 := Lib.hid (fun W (hb : Below W2.heap.size W2 W) => small_any ta 500 w.heap.size W [.int .i64 k, .string nm, .int .i64 n, .int .i64 tk, .string tnm, .int .i64 tn, .slice tA tks.length tc, .slice A ks.length c, .slice Aa als.length ca, .slice Ab bs.length cb, .int .i64 q] (by omega) (by omega) (HM.out W hb).1 (HX.out.later (HM.out W hb).2))
  have CS2 := Lib.hid (fun W (hb : Below W2.heap.size W2 W) => small_any tb 500 w.heap.size W [.int .i64 k', .string nm', .int .i64 n', .int .i64 tk', .string tnm', .int .i64 tn', .slice tA' tks'.length tc', .slice A' ks'.length c', .slice Aa' als'.length ca', .slice Ab' bs'.length cb', .int .i64 q'] (by omega) (by omega) (HM.out W hb).1 (HY.out.later (HM.out W hb).2))
  have C1 := Lib.hid (fun W (hb : Below W2.heap.size W2 W) => show Calls Try.prog 14 #[.agg #[.int .i64 k, .string nm, .int .i64 n, .int .i64 tk, .string tnm, .int .i64 tn, .slice tA tks.length tc, .slice A ks.length c, .slice Aa als.length ca, .slice Ab bs.length cb, .int .i64 q], .agg #[.int .i64 k', .string nm', .int .i64 n', .int .i64 tk', .string tnm', .int .i64 tn', .slice tA' tks'.length tc', .slice A' ks'.length c', .slice Aa' als'.length ca', .slice Ab' bs'.length cb', .int .i64 q']] W (fun e w' => e = .returned (.bool v) ∧ Below W.heap.size W w') from by have h := psame_any ta.nodes ta tb (Nat.le_refl _) w.heap.size W [.int .i64 k, .string nm, .int .i64 n, .int .i64 tk, .string tnm, .int .i64 tn, .slice tA tks.length tc, .slice A ks.length c, .slice Aa als.length ca, .slice Ab bs.length cb, .int .i64 q] [.int .i64 k', .string nm', .int .i64 n', .int .i64 tk', .string tnm', .int .i64 tn', .slice tA' tks'.length tc', .slice A' ks'.length c', .slice Aa' als'.length ca', .slice Ab' bs'.length cb', .int .i64 q'] (HM.out W hb).1 (HX.out.later (HM.out W hb).2) (HY.out.later (HM.out W hb).2); rw [HV.out] at h; exact h)
  have C2 := Lib.hid (fun W (hb : Below W2.heap.size W2 W) => show Calls Try.prog 15 #[.agg #[.int .i64 k, .string nm, .int .i64 n, .int .i64 tk, .string tnm, .int .i64 tn, .slice tA tks.length tc, .slice A ks.length c, .slice Aa als.length ca, .slice Ab bs.length cb, .int .i64 q], .agg #[.int .i64 k', .string nm', .int .i64 n', .int .i64 tk', .string tnm', .int .i64 tn', .slice tA' tks'.length tc', .slice A' ks'.length c', .slice Aa' als'.length ca', .slice Ab' bs'.length cb', .int .i64 q']] W (fun e w' => e = .returned (.bool v) ∧ Below W.heap.size W w') from by have h := rsame_any ta.nodes ta tb (Nat.le_refl _) w.heap.size W [.int .i64 k, .string nm, .int .i64 n, .int .i64 tk, .string tnm, .int .i64 tn, .slice tA tks.length tc, .slice A ks.length c, .slice Aa als.length ca, .slice Ab bs.length cb, .int .i64 q] [.int .i64 k', .string nm', .int .i64 n', .int .i64 tk', .string tnm', .int .i64 tn', .slice tA' tks'.length tc', .slice A' ks'.length c', .slice Aa' als'.length ca', .slice Ab' bs'.length cb', .int .i64 q'] (HM.out W hb).1 (HX.out.later (HM.out W hb).2) (HY.out.later (HM.out W hb).2); rw [HV.out] at h; exact h)
  have C3 := Lib.hid (fun W (hb : Below W2.heap.size W2 W) => show Calls Try.prog 14 #[.agg #[.int .i64 k, .string nm, .int .i64 n, .int .i64 tk, .string tnm, .int .i64 tn, .slice tA tks.length tc, .slice A ks.length c, .slice Aa als.length ca, .slice Ab bs.length cb, .int .i64 q], .agg #[.int .i64 k, .string nm, .int .i64 n, .int .i64 tk, .string tnm, .int .i64 tn, .slice tA tks.length tc, .slice A ks.length c, .slice Aa als.length ca, .slice Ab bs.length cb, .int .i64 q]] W (fun e w' => e = .returned (.bool true) ∧ Below W.heap.size W w') from by have h := psame_any ta.nodes ta ta (Nat.le_refl _) w.heap.size W [.int .i64 k, .string nm, .int .i64 n, .int .i64 tk, .string tnm, .int .i64 tn, .slice tA tks.length tc, .slice A ks.length c, .slice Aa als.length ca, .slice Ab bs.length cb, .int .i64 q] [.int .i64 k, .string nm, .int .i64 n, .int .i64 tk, .string tnm, .int .i64 tn, .slice tA tks.length tc, .slice A ks.length c, .slice Aa als.length ca, .slice Ab bs.length cb, .int .i64 q] (HM.out W hb).1 (HX.out.later (HM.out W hb).2) (HX.out.later (HM.out W hb).2); rw [exSame_self] at h; exact h)
  have C4 := Lib.hid (fun W (hb : Below W2.heap.size W2 W) => show Calls Try.prog 16 #[.agg #[.int .i64 tk, .string tnm, .int .i64 tn, .slice tA tks.length tc], .agg #[.int .i64 tk', .string tnm', .int .i64 tn', .slice tA' tks'.length tc']] W (fun e w' => e = .returned (.bool vt) ∧ Below W.heap.size W w') from by have h := psametype_any tx.nodes tx ty (Nat.le_refl _) w.heap.size W [.int .i64 tk, .string tnm, .int .i64 tn, .slice tA tks.length tc] [.int .i64 tk', .string tnm', .int .i64 tn', .slice tA' tks'.length tc'] (HM.out W hb).1 (HTX.out.later (HM.out W hb).2) (HTY.out.later (HM.out W hb).2); rw [HVT.out] at h; exact h)
  have C5 := Lib.hid (fun W (hb : Below W2.heap.size W2 W) => show Calls Try.prog 17 #[.agg #[.int .i64 tk, .string tnm, .int .i64 tn, .slice tA tks.length tc], .agg #[.int .i64 tk', .string tnm', .int .i64 tn', .slice tA' tks'.length tc']] W (fun e w' => e = .returned (.bool vt) ∧ Below W.heap.size W w') from by have h := rsametype_any tx.nodes tx ty (Nat.le_refl _) w.heap.size W [.int .i64 tk, .string tnm, .int .i64 tn, .slice tA tks.length tc] [.int .i64 tk', .string tnm', .int .i64 tn', .slice tA' tks'.length tc'] (HM.out W hb).1 (HTX.out.later (HM.out W hb).2) (HTY.out.later (HM.out W hb).2); rw [HVT.out] at h; exact h)
  go_enter Try.func4, Try.ntmps4
  go_wp2_with fail
  rw [HW.out]
  go_wp2_with (go_at_call 8; (with_reducible refine (CA.out _).mono ?_))
  rintro e w2 ⟨rfl, hk2⟩
  have ax0 := box1.out w2 hk2 0
  have ay0 := box2.out w2 hk2 0
  have ax1 := box1.out w2 hk2 1
  have ay1 := box2.out w2 hk2 1
  have ax2 := box1.out w2 hk2 2
  have ay2 := box2.out w2 hk2 2
  have ax3 := box1.out w2 hk2 3
  have ay3 := box2.out w2 hk2 3
  have ax4 := box1.out w2 hk2 4
  have ay4 := box2.out w2 hk2 4
  have ax5 := box1.out w2 hk2 5
  have ay5 := box2.out w2 hk2 5
  have ax6 := box1.out w2 hk2 6
  have ay6 := box2.out w2 hk2 6
  have ax7 := box1.out w2 hk2 7
  have ay7 := box2.out w2 hk2 7
  have ax8 := box1.out w2 hk2 8
  have ay8 := box2.out w2 hk2 8
  have ax9 := box1.out w2 hk2 9
  have ay9 := box2.out w2 hk2 9
  have ax10 := box1.out w2 hk2 10
  have ay10 := box2.out w2 hk2 10
  simp only [List.getElem?_toArray, List.getElem?_cons_succ, List.getElem?_cons_zero] at ax0 ay0 ax1 ay1 ax2 ay2 ax3 ay3 ax4 ay4 ax5 ay5 ax6 ay6 ax7 ay7 ax8 ay8 ax9 ay9 ax10 ay10
  go_wp2_with (go_at_call 9; (with_reducible refine (CS1.out _ hk2).mono ?_))
  rintro e w3 ⟨b, rfl, -, hb3⟩
  have hk3 : Below W2.heap.size W2 w3 := hk2.trans (hb3.mono hk2.size)
  clear ax0 ay0 ax1 ay1 ax2 ay2 ax3 ay3 ax4 ay4 ax5 ay5 ax6 ay6 ax7 ay7 ax8 ay8 ax9 ay9 ax10 ay10
  have bx0 := box1.out w3 hk3 0
  have by0 := box2.out w3 hk3 0
  have bx1 := box1.out w3 hk3 1
  have by1 := box2.out w3 hk3 1
  have bx2 := box1.out w3 hk3 2
  have by2 := box2.out w3 hk3 2
  have bx3 := box1.out w3 hk3 3
  have by3 := box2.out w3 hk3 3
  have bx4 := box1.out w3 hk3 4
  have by4 := box2.out w3 hk3 4
  have bx5 := box1.out w3 hk3 5
  have by5 := box2.out w3 hk3 5
  have bx6 := box1.out w3 hk3 6
  have by6 := box2.out w3 hk3 6
  have bx7 := box1.out w3 hk3 7
  have by7 := box2.out w3 hk3 7
  have bx8 := box1.out w3 hk3 8
  have by8 := box2.out w3 hk3 8
  have bx9 := box1.out w3 hk3 9
  have by9 := box2.out w3 hk3 9
  have bx10 := box1.out w3 hk3 10
  have by10 := box2.out w3 hk3 10
  simp only [List.getElem?_toArray, List.getElem?_cons_succ, List.getElem?_cons_zero] at bx0 by0 bx1 by1 bx2 by2 bx3 by3 bx4 by4 bx5 by5 bx6 by6 bx7 by7 bx8 by8 bx9 by9 bx10 by10
  have HK3 := Lib.hid hk3
  clear hk2 hb3
  cases b with
  | false =>
    go_wp2_with fail
    go_ret
    exact ⟨rfl, HBW.out.trans (HK3.out.mono HBW.out.size)⟩
  | true =>
    go_wp2_with (go_at_call 9; (with_reducible refine (CS2.out _ hk3).mono ?_))
    rintro e w4 ⟨b, rfl, -, hb4⟩
    have hk4 : Below W2.heap.size W2 w4 := HK3.out.trans (hb4.mono HK3.out.size)
    clear bx0 by0 bx1 by1 bx2 by2 bx3 by3 bx4 by4 bx5 by5 bx6 by6 bx7 by7 bx8 by8 bx9 by9 bx10 by10
    have dx0 := box1.out w4 hk4 0
    have dy0 := box2.out w4 hk4 0
    have dx1 := box1.out w4 hk4 1
    have dy1 := box2.out w4 hk4 1
    have dx2 := box1.out w4 hk4 2
    have dy2 := box2.out w4 hk4 2
    have dx3 := box1.out w4 hk4 3
    have dy3 := box2.out w4 hk4 3
    have dx4 := box1.out w4 hk4 4
    have dy4 := box2.out w4 hk4 4
    have dx5 := box1.out w4 hk4 5
    have dy5 := box2.out w4 hk4 5
    have dx6 := box1.out w4 hk4 6
    have dy6 := box2.out w4 hk4 6
    have dx7 := box1.out w4 hk4 7
    have dy7 := box2.out w4 hk4 7
    have dx8 := box1.out w4 hk4 8
    have dy8 := box2.out w4 hk4 8
    have dx9 := box1.out w4 hk4 9
    have dy9 := box2.out w4 hk4 9
    have dx10 := box1.out w4 hk4 10
    have dy10 := box2.out w4 hk4 10
    simp only [List.getElem?_toArray, List.getElem?_cons_succ, List.getElem?_cons_zero] at dx0 dy0 dx1 dy1 dx2 dy2 dx3 dy3 dx4 dy4 dx5 dy5 dx6 dy6 dx7 dy7 dx8 dy8 dx9 dy9 dx10 dy10
    have HK4 := Lib.hid hk4
    clear hk3 hb4
    cases b with
    | false =>
      go_wp2_with fail
      go_ret
      exact ⟨rfl, HBW.out.trans (HK4.out.mono HBW.out.size)⟩
    | true =>
      go_wp2_with fail
      have hlt1 : w.heap.size < W2.heap.size := by have := HZ.out; omega
      have hlt2 : w.heap.size + 1 < W2.heap.size := by have := HZ.out; omega
      have hS0 : Below W2.heap.size W2 w4.drew ∧ w4.drew.cell? ⟨w.heap.size, 0, none⟩ = some (.int .i64 k) ∧ w4.drew.cell? ⟨w.heap.size, 1, none⟩ = some (.string nm) ∧ w4.drew.cell? ⟨w.heap.size, 2, none⟩ = some (.int .i64 n) ∧ w4.drew.cell? ⟨w.heap.size, 3, none⟩ = some (.int .i64 tk) ∧ w4.drew.cell? ⟨w.heap.size, 4, none⟩ = some (.string tnm) ∧ w4.drew.cell? ⟨w.heap.size, 5, none⟩ = some (.int .i64 tn) ∧ w4.drew.cell? ⟨w.heap.size, 6, none⟩ = some (.slice tA tks.length tc) ∧ w4.drew.cell? ⟨w.heap.size, 7, none⟩ = some (.slice A ks.length c) ∧ w4.drew.cell? ⟨w.heap.size, 8, none⟩ = some (.slice Aa als.length ca) ∧ w4.drew.cell? ⟨w.heap.size, 9, none⟩ = some (.slice Ab bs.length cb) ∧ w4.drew.cell? ⟨w.heap.size, 10, none⟩ = some (.int .i64 q) ∧ w4.drew.cell? ⟨w.heap.size + 1, 0, none⟩ = some (.int .i64 k') ∧ w4.drew.cell? ⟨w.heap.size + 1, 1, none⟩ = some (.string nm') ∧ w4.drew.cell? ⟨w.heap.size + 1, 2, none⟩ = some (.int .i64 n') ∧ w4.drew.cell? ⟨w.heap.size + 1, 3, none⟩ = some (.int .i64 tk') ∧ w4.drew.cell? ⟨w.heap.size + 1, 4, none⟩ = some (.string tnm') ∧ w4.drew.cell? ⟨w.heap.size + 1, 5, none⟩ = some (.int .i64 tn') ∧ w4.drew.cell? ⟨w.heap.size + 1, 6, none⟩ = some (.slice tA' tks'.length tc') ∧ w4.drew.cell? ⟨w.heap.size + 1, 7, none⟩ = some (.slice A' ks'.length c') ∧ w4.drew.cell? ⟨w.heap.size + 1, 8, none⟩ = some (.slice Aa' als'.length ca') ∧ w4.drew.cell? ⟨w.heap.size + 1, 9, none⟩ = some (.slice Ab' bs'.length cb') ∧ w4.drew.cell? ⟨w.heap.size + 1, 10, none⟩ = some (.int .i64 q') := ⟨HK4.out.drew, dx0, dx1, dx2, dx3, dx4, dx5, dx6, dx7, dx8, dx9, dx10, dy0, dy1, dy2, dy3, dy4, dy5, dy6, dy7, dy8, dy9, dy10⟩
      go_region_held3 (fun w' => Below W2.heap.size W2 w' ∧ w'.cell? ⟨w.heap.size, 0, none⟩ = some (.int .i64 k) ∧ w'.cell? ⟨w.heap.size, 1, none⟩ = some (.string nm) ∧ w'.cell? ⟨w.heap.size, 2, none⟩ = some (.int .i64 n) ∧ w'.cell? ⟨w.heap.size, 3, none⟩ = some (.int .i64 tk) ∧ w'.cell? ⟨w.heap.size, 4, none⟩ = some (.string tnm) ∧ w'.cell? ⟨w.heap.size, 5, none⟩ = some (.int .i64 tn) ∧ w'.cell? ⟨w.heap.size, 6, none⟩ = some (.slice tA tks.length tc) ∧ w'.cell? ⟨w.heap.size, 7, none⟩ = some (.slice A ks.length c) ∧ w'.cell? ⟨w.heap.size, 8, none⟩ = some (.slice Aa als.length ca) ∧ w'.cell? ⟨w.heap.size, 9, none⟩ = some (.slice Ab bs.length cb) ∧ w'.cell? ⟨w.heap.size, 10, none⟩ = some (.int .i64 q) ∧ w'.cell? ⟨w.heap.size + 1, 0, none⟩ = some (.int .i64 k') ∧ w'.cell? ⟨w.heap.size + 1, 1, none⟩ = some (.string nm') ∧ w'.cell? ⟨w.heap.size + 1, 2, none⟩ = some (.int .i64 n') ∧ w'.cell? ⟨w.heap.size + 1, 3, none⟩ = some (.int .i64 tk') ∧ w'.cell? ⟨w.heap.size + 1, 4, none⟩ = some (.string tnm') ∧ w'.cell? ⟨w.heap.size + 1, 5, none⟩ = some (.int .i64 tn') ∧ w'.cell? ⟨w.heap.size + 1, 6, none⟩ = some (.slice tA' tks'.length tc') ∧ w'.cell? ⟨w.heap.size + 1, 7, none⟩ = some (.slice A' ks'.length c') ∧ w'.cell? ⟨w.heap.size + 1, 8, none⟩ = some (.slice Aa' als'.length ca') ∧ w'.cell? ⟨w.heap.size + 1, 9, none⟩ = some (.slice Ab' bs'.length cb') ∧ w'.cell? ⟨w.heap.size + 1, 10, none⟩ = some (.int .i64 q'))
        (first | assumption | exact boxes_keep (by assumption) (by assumption) hlt1 hlt2)
        (first | (go_at_call 14; (with_reducible refine (C1.out _ (by first | assumption | exact And.left (by assumption))).mono ?_); rintro e w5 ⟨rfl, hb5⟩) | (go_at_call 15; (with_reducible refine (C2.out _ (by first | assumption | exact And.left (by assumption))).mono ?_); rintro e w5 ⟨rfl, hb5⟩) | (go_at_call 14; (with_reducible refine (C3.out _ (by first | assumption | exact And.left (by assumption))).mono ?_); rintro e w5 ⟨rfl, hb5⟩) | (go_at_call 16; (with_reducible refine (C4.out _ (by first | assumption | exact And.left (by assumption))).mono ?_); rintro e w5 ⟨rfl, hb5⟩) | (go_at_call 17; (with_reducible refine (C5.out _ (by first | assumption | exact And.left (by assumption))).mono ?_); rintro e w5 ⟨rfl, hb5⟩))
      have hend : Below W2.heap.size W2 w5 := by first | exact (boxes_keep (by assumption) (by assumption) hlt1 hlt2).1 | exact And.left (by assumption)
      have HEND := Lib.hid hend
      clear hS0 hend
      go_wp2_with fail
      go_loopw [45] (fun i wr => ∃ j : Nat, i = .int .i64 j ∧ j ≤ als.length ∧ Below W2.heap.size W2 wr) (fun i _ => als.length - (intOf i).toNat)
      case atStart => exact ⟨0, rfl, Nat.zero_le _, HEND.out⟩
      case round =>
        obtain ⟨j, rfl, hj, hbel⟩ := hrel
        have hcf := box1.out wr hbel 8
        have hcg := box2.out wr hbel 8
        simp only [List.getElem?_toArray, List.getElem?_cons_succ, List.getElem?_cons_zero] at hcf hcg
        have HBE := Lib.hid hbel
        clear hbel
        by_cases hlt : j < als.length
        · by_cases hlt' : j < als'.length
          · have hbw := HBW.out.trans (HBE.out.mono HBW.out.size)
            have hX := HRA.out.later hbw
            have hY := HRA'.out.later hbw
            have hlx : j < La.length := by rw [hX.len]; exact hlt
            have hly : j < La'.length := by rw [hY.len]; exact hlt'
            obtain ⟨g, o, p0, p1, p2, p3, p4, c0, c1, c2, c3, c4, c5, c6, c7, c8, c9, c10, pp, ee, rfl, hg, hal, hp, he, u0, u1, u2, u3, u4, k0, k1, k2, k3, k4, k5, k6, k7, k8, k9, k10⟩ := al_cells hX hlt hlx (AlAt.later (HEA.out j hlx hlt) hbw)
            obtain ⟨g', o', r0, r1, r2, r3, r4, d0, d1, d2, d3, d4, d5, d6, d7, d8, d9, d10, pp', ee', rfl, hg', hal', hp', he', y0, y1, y2, y3, y4, j0, j1, j2, j3, j4, j5, j6, j7, j8, j9, j10⟩ := al_cells hY hlt' hly (AlAt.later (HEA'.out j hly hlt') hbw)
            obtain ⟨vp, hvp⟩ : ∃ v, ptSame pp pp' = v := ⟨_, rfl⟩
            have hBr : w.heap.size ≤ wr.heap.size := hbw.size
            have hgl : g < wr.heap.size := by omega
            have hgl' : g' < wr.heap.size := by omega
            have hh1 : w.heap.size < wr.heap.size := by have := HZ.out; have := HBE.out.size; omega
            have hh2 : w.heap.size + 1 < wr.heap.size := by have := HZ.out; have := HBE.out.size; omega
            have HP := Lib.hid (fun W (hb : Below wr.heap.size wr W) => show Calls Try.prog 18 #[.agg #[p0, p1, p2, p3, p4], .agg #[r0, r1, r2, r3, r4]] W (fun e w2 => e = .returned (.bool vp) ∧ Below wr.heap.size wr w2) from (psamepat_any pp.nodes pp pp' (Nat.le_refl _) w.heap.size W [p0, p1, p2, p3, p4] [r0, r1, r2, r3, r4] (Nat.le_trans hBr hb.size) (hp.later (hb.mono hBr)) (hp'.later (hb.mono hBr))).mono fun e w2 h => by rw [hvp] at h; exact ⟨h.1, hb.trans (h.2.mono hb.size)⟩)
            have HQ := Lib.hid (fun W (hb : Below wr.heap.size wr W) => show Calls Try.prog 19 #[.agg #[p0, p1, p2, p3, p4], .agg #[r0, r1, r2, r3, r4]] W (fun e w2 => e = .returned (.bool vp) ∧ Below wr.heap.size wr w2) from (rsamepat_any pp.nodes pp pp' (Nat.le_refl _) w.heap.size W [p0, p1, p2, p3, p4] [r0, r1, r2, r3, r4] (Nat.le_trans hBr hb.size) (hp.later (hb.mono hBr)) (hp'.later (hb.mono hBr))).mono fun e w2 h => by rw [hvp] at h; exact ⟨h.1, hb.trans (h.2.mono hb.size)⟩)
            have hB0 : Below wr.heap.size wr wr.drew := (Below.refl _ _).drew
            clear hbw hX hY hp hp' he he' hal hal' hvp k0 k1 k2 k3 k4 k5 k6 k7 k8 k9 k10 j0 j1 j2 j3 j4 j5 j6 j7 j8 j9 j10
            go_wp2_with fail
            go_region_held3 (fun w' => w'.cell? ⟨w.heap.size, 8, none⟩ = some (.slice (some ⟨g, o, none⟩) als.length ca) ∧ w'.cell? ⟨w.heap.size + 1, 8, none⟩ = some (.slice (some ⟨g', o', none⟩) als'.length ca') ∧ w'.cell? ⟨g, o + j * 16, none⟩ = some p0 ∧ w'.cell? ⟨g, o + j * 16 + 1, none⟩ = some p1 ∧ w'.cell? ⟨g, o + j * 16 + 2, none⟩ = some p2 ∧ w'.cell? ⟨g, o + j * 16 + 3, none⟩ = some p3 ∧ w'.cell? ⟨g, o + j * 16 + 4, none⟩ = some p4 ∧ w'.cell? ⟨g', o' + j * 16, none⟩ = some r0 ∧ w'.cell? ⟨g', o' + j * 16 + 1, none⟩ = some r1 ∧ w'.cell? ⟨g', o' + j * 16 + 2, none⟩ = some r2 ∧ w'.cell? ⟨g', o' + j * 16 + 3, none⟩ = some r3 ∧ w'.cell? ⟨g', o' + j * 16 + 4, none⟩ = some r4 ∧ Below wr.heap.size wr w')
              (((try dsimp only); (repeat' apply And.intro) <;> (first | assumption | exact cell_kept (by assumption) hgl (by assumption) | exact cell_kept (by assumption) hgl' (by assumption) | exact cell_kept (by assumption) hh1 (by assumption) | exact cell_kept (by assumption) hh2 (by assumption))))
              (first | (go_at_call 18; (with_reducible refine (HP.out _ (by assumption)).mono ?_); rintro e w5 ⟨rfl, hb5⟩) | (go_at_call 19; (with_reducible refine (HQ.out _ (by assumption)).mono ?_); rintro e w6 ⟨rfl, hb6⟩))
            clear hB0
            go_wp2_with fail
            go_roundw
            case rel => exact ⟨j + 1, by go_num, by omega, HBE.out.trans ((by assumption : Below wr.heap.size wr _).mono HBE.out.size)⟩
            case measure => simp [intOf]; omega
          · have hd : decide ((j : Int) < (als'.length : Int)) = false := by simp; omega
            go_wp2_with fail
            go_quiet (fail)
            go_wp2_with fail
            go_roundw
            case rel => exact ⟨j + 1, by go_num, by omega, below_drewN HBE.out _⟩
            case measure => simp [intOf]; omega
        · go_wp2_with fail
          go_ret
          exact ⟨rfl, HBW.out.trans (HBE.out.mono HBW.out.size)⟩

set_option maxRecDepth 100000 in
theorem lifted (os : Os) (started : os.Started) (H : Type) (enc : TypeId × Value → H) :
    ReturnsInHanded {} Try.checked os 4 .any (Rows.treeSamesSpec.pre6 enc Try.prog Try.f4 Rows.treeSamesRow.domain false) (Rows.treeSamesSpec.post enc Try.prog Try.f4 false true false false) := by
  refine returnsInHanded_of_change_sized (C := Try.checked) own started (by kernel_rfl) Try.func4
    (ChangeSpec.witness6 (enc := enc) (C := Try.checked) false ⟨#[], #[.agg #[.int .i64 0, .string ⟨#[]⟩, .int .i64 0, .int .i64 0, .string ⟨#[]⟩, .int .i64 0, .slice none 0 0, .slice none 0 0, .slice none 0 0, .slice none 0 0, .int .i64 0], .agg #[.int .i64 0, .string ⟨#[]⟩, .int .i64 0, .int .i64 0, .string ⟨#[]⟩, .int .i64 0, .slice none 0 0, .slice none 0 0, .slice none 0 0, .slice none 0 0, .int .i64 0]], []⟩ 8 (by kernel_rfl) (by kernel_rfl) (by kernel_rfl) (by kernel_rfl)) ?_
  intro W base args ds gs before hval0 hW hcnd hsz0 _
  have hsz : (DataW.weightsEach Try.prog (Try.f4.params.toList ++ Rows.treeSamesSpec.plain.varTypes Try.prog) (ds ++ gs)).all (· ≤ reachBytes) = true := hsz0
  rw [Try.params4] at hsz
  clear hsz0
  have hval : ∀ (j : Nat) t v, Try.f4.params[j]? = some t → args[j]? = some v → Value.okWide Try.prog W .any base t v := hval0
  have hW' := hW
  obtain ⟨p, q, hA0, hV, rfl, hfz, hnd⟩ := hW
  have hA : DataW.TrodAll enc Try.prog W 0 (fun _ => true) true Try.f4.params.toList args.toList ds p := hA0
  rw [Try.params4] at hA hval
  obtain ⟨v0, vs0, d0, ds0, p0, q0, hargs, rfl, rfl, h0, r0⟩ := trodAll_cons hA
  obtain ⟨v1, vs1, d1, ds1, p1, q1, rfl, rfl, rfl, h1, r1⟩ := trodAll_cons r0
  obtain ⟨rfl, rfl, rfl⟩ := trodAll_nil r1
  obtain rfl : args = #[v0, v1] := by cases args; simp_all
  obtain ⟨rfl, rfl⟩ := trodVars_none hV
  have k0 := h0
  have lt0 : ∀ x ∈ p0, x.block < W.heap.size := by obtain ⟨m, hm⟩ := k0; exact DataW.trod_lt m _ _ _ hm
  obtain ⟨y0, rfl, _⟩ := okWide_struct Try.underlying29 (hval 0 29 v0 rfl rfl)
  obtain ⟨x0, t0, w0, rfl⟩ : ∃ xs t, ExAt W W.heap.size xs t ∧ y0 = xs.toArray := by
    obtain ⟨fuel, hf⟩ := h0
    obtain ⟨t, ht⟩ := open_ex fuel _ _ hf (fits_param hsz (j := 0) rfl rfl)
    exact ⟨y0.toList, t, ht, by simp⟩
  have k1 := h1
  have lt1 : ∀ x ∈ p1, x.block < W.heap.size := by obtain ⟨m, hm⟩ := k1; exact DataW.trod_lt m _ _ _ hm
  obtain ⟨y1, rfl, _⟩ := okWide_struct Try.underlying29 (hval 1 29 v1 rfl rfl)
  obtain ⟨x1, t1, w1, rfl⟩ : ∃ xs t, ExAt W W.heap.size xs t ∧ y1 = xs.toArray := by
    obtain ⟨fuel, hf⟩ := h1
    obtain ⟨t, ht⟩ := open_ex fuel _ _ hf (fits_param hsz (j := 1) rfl rfl)
    exact ⟨y1.toList, t, ht, by simp⟩
  clear hA0 hval0
  refine (walk x0 t0 x1 t1 W w0 w1).mono fun e W' ⟨he, bel⟩ => ?_
  subst he
  exact ⟨_, rfl, _, _, _, [], _, [], hW', trodAll_mk1 (shut_bool Try.underlying4 _), (trodAll_cons_mk (Below.trod laidOut (by kernel_rfl) (of_decide_eq_true (by kernel_rfl)) k0 bel lt0) (trodAll_cons_mk (Below.trod laidOut (by kernel_rfl) (of_decide_eq_true (by kernel_rfl)) k1 bel lt1) trodAll_mk0)), rfl, bel.frame _, fun h => by cases h⟩

theorem over : Rows.treeSamesRow.holds Try.pinned (OpenSpec.ofChange Rows.treeSamesSpec) :=
  OpenClaim.holds_of_wide 4 Try.f4 rfl rfl rfl rfl rfl rfl rfl ⟨rfl, rfl, rfl, rfl, rfl⟩ rfl rfl rfl rfl rfl (by kernel_rfl) Try.func4 (by kernel_rfl)
    (of_decide_eq_true (by kernel_rfl)) (by unfold Func.isWrapper; first | (rw [if_pos (by decide +kernel)]; kernel_rfl) | (rw [if_neg (by decide +kernel)]; exact ⟨rfl, rfl⟩))
    (fun os started H enc _ => lifted os started H enc)

/-- The statement. -/
theorem proved : Rows.TreeSamesSaid := over
#print axioms proved
end Go.Proofs.Ytglamoiimmahgaa.treeSames
