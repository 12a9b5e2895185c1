/-
  The law 'TreeProgs' of the document's layer returns true for every input, and leaves what it was given as it was. No condition.
-/
import Derived.Test.YtglamoiimmahgaaRows
import Derived.WalkKit
import Derived.ProofKit
import Derived.OpenShut
import Derived.ShutString
import Derived.ChangeOld
import Derived.Below
import Derived.Carry
import Derived.Lib.SmallJoins
import Derived.SliceStrings
import Derived.Test.YtglamoiimmahgaaOpen
import Derived.Test.YtglamoiimmahgaaPgo
import Derived.Test.YtglamoiimmahgaaPgl
import Derived.Test.YtglamoiimmahgaaPgr
import Derived.Test.YtglamoiimmahgaaFew
import Derived.Test.YtglamoiimmahgaaAwake05
namespace Go.Proofs.Ytglamoiimmahgaa.treeProgs
open Go.Proofs.Ytglamoiimmahgaa
open Go.ChangeShapes Go.WideShapes Go.ChangeAt Go.RowKit Go.Joins
open Go.ChangeMaps (open_string shut_string)
set_option linter.unusedVariables false

theorem own : ownKnob Try.prog.godebug = none := by kernel_rfl
theorem laidOut : laidOutB Try.prog = true := by kernel_rfl

/-- Every expression is the same as itself. -/
theorem tySame_self (N : Nat) : ∀ t : Ty, t.nodes ≤ N → tySame t t = true := by
  induction N with
  | zero => intro t h; cases t; unfold Ty.nodes at h; omega
  | succ N ih =>
    intro t h
    cases t with
    | mk k nm n ks =>
    unfold Ty.nodes at h
    have := tys_yes ks ks rfl (fun j h1 h2 => ih _ (by have := tys_mem ks ks[j] (List.getElem_mem h1); omega))
    rw [tySame, this]; simp
theorem ptSame_self (N : Nat) : ∀ t : Pt, t.nodes ≤ N → ptSame t t = true := by
  induction N with
  | zero => intro t h; cases t; unfold Pt.nodes at h; omega
  | succ N ih =>
    intro t h
    cases t with
    | mk k nm n ks q =>
    unfold Pt.nodes at h
    have := pts_yes ks ks rfl (fun j h1 h2 => ih _ (by have := pts_mem ks ks[j] (List.getElem_mem h1); omega))
    rw [ptSame, this]; simp
theorem exSame_selfN (N : Nat) : ∀ t : Ex, t.nodes ≤ N → exSame t t = true := by
  induction N with
  | zero => intro t h; cases t; unfold Ex.nodes at h; omega
  | succ N ih =>
    intro t h
    cases t with
    | mk k nm n ty ks als bs q =>
    unfold Ex.nodes at h
    have e1 := exs_yes ks ks rfl (fun j h1 h2 => ih _ (by have := exs_mem ks j h1; omega))
    have e2 := als_yes als als rfl (fun j h1 h2 => by
      have h9 := als_mem als j h1
      revert h9
      cases als[j] with
      | mk p e => intro h9; rw [al_nodes] at h9; unfold alSame; rw [ptSame_self _ p (Nat.le_refl _), ih e (by omega)]; rfl)
    have e3 := bds_yes bs bs rfl (fun j h1 h2 => by
      have h9 := bds_mem bs j h1
      revert h9
      cases bs[j] with
      | mk nm e q => intro h9; rw [bd_nodes] at h9; unfold bdSame; rw [ih e (by omega)]; simp)
    rw [exSame, e1, e2, e3, tySame_self _ ty (Nat.le_refl _)]; simp
theorem exSame_self {t : Ex} : exSame t t = true := exSame_selfN _ t (Nat.le_refl _)
theorem list_self {α : Type} {f : α → α → Bool} (xs : List α) (h : ∀ x ∈ xs, f x x = true) : listSame f xs xs = true :=
  list_yes rfl (fun j hj => by rw [pairAt_of f xs xs j hj hj]; exact h _ (List.getElem_mem hj))
theorem texts_same : ∀ l : List ByteArray, textsS l l = true
  | [] => rfl
  | a :: l => by simp only [textsS]; rw [texts_same l]; simp [nmEq]
theorem nmSame_self (a : ByteArray) : nmSame a a = true := by simp [nmSame]
theorem bdSame_self (b : Bd) : bdSame b b = true := by
  cases b with
  | mk nm e q => unfold bdSame; rw [exSame_self]; simp
theorem coSame_self (b : Co) : coSame b b = true := by unfold coSame; rw [nmSame_self, list_self b.ks (fun x _ => tySame_self _ x (Nat.le_refl _))]; rfl
theorem meSame_self (b : Me) : meSame b b = true := by unfold meSame; rw [nmSame_self, tySame_self _ b.t (Nat.le_refl _)]; rfl
theorem daSame_self (b : Da) : daSame b b = true := by unfold daSame; rw [nmSame_self, texts_same, texts_same, list_self b.cs (fun x _ => coSame_self x)]; rfl
theorem clSame_self (b : Cl) : clSame b b = true := by unfold clSame; rw [nmSame_self, nmSame_self, texts_same, list_self b.ms (fun x _ => meSame_self x), list_self b.bs (fun x _ => bdSame_self x)]; rfl
theorem inSame_self (b : Ins) : inSame b b = true := by unfold inSame; rw [nmSame_self, tySame_self _ b.t (Nat.le_refl _), list_self b.ps (fun x _ => meSame_self x), list_self b.bs (fun x _ => bdSame_self x)]; rfl
theorem pgSame_self {b : Pg} : pgSame b b = true := by unfold pgSame; rw [list_self b.ds (fun x _ => daSame_self x), list_self b.cs (fun x _ => clSame_self x), list_self b.is (fun x _ => inSame_self x), list_self b.bs (fun x _ => bdSame_self x)]; rfl
/-- What stays true of the two boxes from world to world. -/
theorem boxes_keep {W1 wr w2 : World} {a b : Nat} {c0 : Value} {c1 : Value} {c2 : Value} {c3 : Value} {c4 : Value} {c5 : Value} {c6 : Value} {c7 : Value} (hb : Below wr.heap.size wr w2) (h : Below W1.heap.size W1 wr ∧ wr.cell? ⟨a, 0, none⟩ = some c0 ∧ wr.cell? ⟨a, 1, none⟩ = some c1 ∧ wr.cell? ⟨a, 2, none⟩ = some c2 ∧ wr.cell? ⟨a, 3, none⟩ = some c3 ∧ wr.cell? ⟨b, 0, none⟩ = some c4 ∧ wr.cell? ⟨b, 1, none⟩ = some c5 ∧ wr.cell? ⟨b, 2, none⟩ = some c6 ∧ wr.cell? ⟨b, 3, none⟩ = some c7) (hl1 : a < W1.heap.size) (hl2 : b < W1.heap.size) : Below W1.heap.size W1 w2 ∧ w2.cell? ⟨a, 0, none⟩ = some c0 ∧ w2.cell? ⟨a, 1, none⟩ = some c1 ∧ w2.cell? ⟨a, 2, none⟩ = some c2 ∧ w2.cell? ⟨a, 3, none⟩ = some c3 ∧ w2.cell? ⟨b, 0, none⟩ = some c4 ∧ w2.cell? ⟨b, 1, none⟩ = some c5 ∧ w2.cell? ⟨b, 2, none⟩ = some c6 ∧ w2.cell? ⟨b, 3, none⟩ = some c7 := by
  obtain ⟨h0, h1, h2, h3, h4, h5, h6, h7, h8⟩ := h
  have hz1 : a < wr.heap.size := Nat.lt_of_lt_of_le hl1 h0.size
  have hz2 : b < wr.heap.size := Nat.lt_of_lt_of_le hl2 h0.size
  exact ⟨h0.trans (hb.mono h0.size), cell_kept hb hz1 h1, cell_kept hb hz1 h2, cell_kept hb hz1 h3, cell_kept hb hz1 h4, cell_kept hb hz2 h5, cell_kept hb hz2 h6, cell_kept hb hz2 h7, cell_kept hb hz2 h8⟩
set_option maxRecDepth 100000 in
set_option maxHeartbeats 12800000 in
theorem walk (x0 : List Value) (t0 : Pg) (x1 : List Value) (t1 : Pg) (w : World) (w0 : PgAt w w.heap.size x0 t0) (w1 : PgAt w w.heap.size x1 t1) :
    Calls Try.prog 5 #[.agg x0.toArray, .agg x1.toArray] w fun e w' => e = .returned (.bool true) ∧ Below w.heap.size w w' := by
  have X0 := w0
  have X1 := w1
  cases w0 with
  | @mk A Ac Ai Ab c cc ci cb ds cs is bs _ _ _ _ _ _ _ _ =>
  cases w1 with
  | @mk A' Ac' Ai' Ab' c' cc' ci' cb' ds' cs' is' bs' _ _ _ _ _ _ _ _ =>
  obtain ⟨ta, hta⟩ : ∃ ta, Pg.mk ds cs is bs = ta := ⟨_, rfl⟩
  obtain ⟨tb, htb⟩ : ∃ tb, Pg.mk ds' cs' is' bs' = tb := ⟨_, rfl⟩
  obtain ⟨ld, hld⟩ : ∃ l, ds.length = l := ⟨_, rfl⟩
  obtain ⟨ld', hld'⟩ : ∃ l, ds'.length = l := ⟨_, rfl⟩
  obtain ⟨lc, hlc⟩ : ∃ l, cs.length = l := ⟨_, rfl⟩
  obtain ⟨lc', hlc'⟩ : ∃ l, cs'.length = l := ⟨_, rfl⟩
  obtain ⟨li, hli⟩ : ∃ l, is.length = l := ⟨_, rfl⟩
  obtain ⟨li', hli'⟩ : ∃ l, is'.length = l := ⟨_, rfl⟩
  obtain ⟨lb, hlb⟩ : ∃ l, bs.length = l := ⟨_, rfl⟩
  obtain ⟨lb', hlb'⟩ : ∃ l, bs'.length = l := ⟨_, rfl⟩
  rw [hta, hld, hlc, hli, hlb] at X0
  rw [htb, hld', hlc', hli', hlb'] at X1
  rw [hld, hlc, hli, hlb, hld', hlc', hli', hlb']
  obtain ⟨v, hv⟩ : ∃ v, pgSame ta tb = v := ⟨_, rfl⟩
  obtain ⟨W2, hW2⟩ : ∃ W2, (w.alloc (.cells #[.slice A ld c, .slice Ac lc cc, .slice Ai li ci, .slice Ab lb cb] 46)).alloc (.cells #[.slice A' ld' c', .slice Ac' lc' cc', .slice Ai' li' ci', .slice Ab' lb' cb'] 46) = W2 := ⟨_, rfl⟩
  have b1 := (Blk.new w 46 #[.slice A ld c, .slice Ac lc cc, .slice Ai li ci, .slice Ab lb cb]).alloc (.cells #[.slice A' ld' c', .slice Ac' lc' cc', .slice Ai' li' ci', .slice Ab' lb' cb'] 46)
  have b2 := Blk.new (w.alloc (.cells #[.slice A ld c, .slice Ac lc cc, .slice Ai li ci, .slice Ab lb cb] 46)) 46 #[.slice A' ld' c', .slice Ac' lc' cc', .slice Ai' li' ci', .slice Ab' lb' cb']
  have hbW : Below w.heap.size w W2 := by rw [← hW2]; exact ((Below.refl _ _).alloc (Nat.le_refl _) _).alloc (by simp) _
  have hzW : W2.heap.size = w.heap.size + 1 + 1 := by rw [← hW2]; simp
  rw [hW2] at b1 b2
  rw [World.size_alloc] at b2
  have HW := Lib.hid hW2
  have HBW := Lib.hid hbW
  have HZ := Lib.hid hzW
  have HX := Lib.hid X0
  have HY := Lib.hid X1
  have HB1 := Lib.hid (fun (W : World) (hW : Below W2.heap.size W2 W) (i : Nat) => (hW.cell (p := ⟨w.heap.size, i, none⟩) b1.lt).trans (b1.cell i))
  have HB2 := Lib.hid (fun (W : World) (hW : Below W2.heap.size W2 W) (i : Nat) => (hW.cell (p := ⟨w.heap.size + 1, i, none⟩) b2.lt).trans (b2.cell i))
  have HV := Lib.hid hv
  have HM := Lib.hid (fun W (hb : Below W2.heap.size W2 W) => (⟨Nat.le_trans HBW.out.size hb.size, HX.out.later (HBW.out.trans (hb.mono HBW.out.size)), HY.out.later (HBW.out.trans (hb.mono HBW.out.size))⟩ : w.heap.size ≤ W.heap.size ∧ PgAt W w.heap.size [.slice A ld c, .slice Ac lc cc, .slice Ai li ci, .slice Ab lb cb] ta ∧ PgAt W w.heap.size [.slice A' ld' c', .slice Ac' lc' cc', .slice Ai' li' ci', .slice Ab' lb' cb'] tb))
  clear hv b1 b2 hzW hbW hW2 X0 X1 hta htb hld hlc hli hlb hld' hlc' hli' hlb'
  have CA := Lib.hid (fun W => awake05_any W)
  have CS1 := Lib.hid (fun W (hb : Below W2.heap.size W2 W) => few_any ta w.heap.size W [.slice A ld c, .slice Ac lc cc, .slice Ai li ci, .slice Ab lb cb] (HM.out W hb).1 (HM.out W hb).2.1)
  have CS2 := Lib.hid (fun W (hb : Below W2.heap.size W2 W) => few_any tb w.heap.size W [.slice A' ld' c', .slice Ac' lc' cc', .slice Ai' li' ci', .slice Ab' lb' cb'] (HM.out W hb).1 (HM.out W hb).2.2)
  have C1 := Lib.hid (fun W (hb : Below W2.heap.size W2 W) => show Calls Try.prog 21 #[.agg #[.slice A ld c, .slice Ac lc cc, .slice Ai li ci, .slice Ab lb cb], .agg #[.slice A' ld' c', .slice Ac' lc' cc', .slice Ai' li' ci', .slice Ab' lb' cb']] W (fun e w' => e = .returned (.bool v) ∧ Below W.heap.size W w') from by have h := psameprog ta tb w.heap.size W [.slice A ld c, .slice Ac lc cc, .slice Ai li ci, .slice Ab lb cb] [.slice A' ld' c', .slice Ac' lc' cc', .slice Ai' li' ci', .slice Ab' lb' cb'] (HM.out W hb).1 (HM.out W hb).2.1 (HM.out W hb).2.2; rw [HV.out] at h; exact h)
  have C2 := Lib.hid (fun W (hb : Below W2.heap.size W2 W) => show Calls Try.prog 22 #[.agg #[.slice A ld c, .slice Ac lc cc, .slice Ai li ci, .slice Ab lb cb], .agg #[.slice A' ld' c', .slice Ac' lc' cc', .slice Ai' li' ci', .slice Ab' lb' cb']] W (fun e w' => e = .returned (.bool v) ∧ Below W.heap.size W w') from by have h := rsameprog ta tb w.heap.size W [.slice A ld c, .slice Ac lc cc, .slice Ai li ci, .slice Ab lb cb] [.slice A' ld' c', .slice Ac' lc' cc', .slice Ai' li' ci', .slice Ab' lb' cb'] (HM.out W hb).1 (HM.out W hb).2.1 (HM.out W hb).2.2; rw [HV.out] at h; exact h)
  have C3 := Lib.hid (fun W (hb : Below W2.heap.size W2 W) => show Calls Try.prog 21 #[.agg #[.slice A ld c, .slice Ac lc cc, .slice Ai li ci, .slice Ab lb cb], .agg #[.slice A ld c, .slice Ac lc cc, .slice Ai li ci, .slice Ab lb cb]] W (fun e w' => e = .returned (.bool true) ∧ Below W.heap.size W w') from by have h := psameprog ta ta w.heap.size W [.slice A ld c, .slice Ac lc cc, .slice Ai li ci, .slice Ab lb cb] [.slice A ld c, .slice Ac lc cc, .slice Ai li ci, .slice Ab lb cb] (HM.out W hb).1 (HM.out W hb).2.1 (HM.out W hb).2.1; rw [pgSame_self] at h; exact h)
  go_enter Try.func5, Try.ntmps5
  go_wp2_with fail
  rw [HW.out]
  go_wp2_with (go_at_call 8; (with_reducible refine (CA.out _).mono ?_))
  rintro e w2 ⟨rfl, hk2⟩
  have fax0 := HB1.out w2 hk2 0
  have fay0 := HB2.out w2 hk2 0
  have fax1 := HB1.out w2 hk2 1
  have fay1 := HB2.out w2 hk2 1
  have fax2 := HB1.out w2 hk2 2
  have fay2 := HB2.out w2 hk2 2
  have fax3 := HB1.out w2 hk2 3
  have fay3 := HB2.out w2 hk2 3
  simp only [List.getElem?_toArray, List.getElem?_cons_succ, List.getElem?_cons_zero] at fax0 fay0 fax1 fay1 fax2 fay2 fax3 fay3
  go_wp2_with (go_at_call 20; (with_reducible refine (CS1.out _ hk2).mono ?_))
  rintro e w3 ⟨b, rfl, hb3⟩
  have hk3 : Below W2.heap.size W2 w3 := hk2.trans (hb3.mono hk2.size)
  have fbx0 := HB1.out w3 hk3 0
  have fby0 := HB2.out w3 hk3 0
  have fbx1 := HB1.out w3 hk3 1
  have fby1 := HB2.out w3 hk3 1
  have fbx2 := HB1.out w3 hk3 2
  have fby2 := HB2.out w3 hk3 2
  have fbx3 := HB1.out w3 hk3 3
  have fby3 := HB2.out w3 hk3 3
  simp only [List.getElem?_toArray, List.getElem?_cons_succ, List.getElem?_cons_zero] at fbx0 fby0 fbx1 fby1 fbx2 fby2 fbx3 fby3
  have HK3 := Lib.hid hk3
  clear hk2 hb3
  cases b with
  | false =>
    go_wp2_with fail
    go_ret
    exact ⟨rfl, HBW.out.trans (HK3.out.mono HBW.out.size)⟩
  | true =>
    go_wp2_with (go_at_call 20; (with_reducible refine (CS2.out _ hk3).mono ?_))
    rintro e w4 ⟨b, rfl, hb4⟩
    have hk4 : Below W2.heap.size W2 w4 := HK3.out.trans (hb4.mono HK3.out.size)
    have fdx0 := HB1.out w4 hk4 0
    have fdy0 := HB2.out w4 hk4 0
    have fdx1 := HB1.out w4 hk4 1
    have fdy1 := HB2.out w4 hk4 1
    have fdx2 := HB1.out w4 hk4 2
    have fdy2 := HB2.out w4 hk4 2
    have fdx3 := HB1.out w4 hk4 3
    have fdy3 := HB2.out w4 hk4 3
    simp only [List.getElem?_toArray, List.getElem?_cons_succ, List.getElem?_cons_zero] at fdx0 fdy0 fdx1 fdy1 fdx2 fdy2 fdx3 fdy3
    have HK4 := Lib.hid hk4
    clear hk3 hb4
    cases b with
    | false =>
      go_wp2_with fail
      go_ret
      exact ⟨rfl, HBW.out.trans (HK4.out.mono HBW.out.size)⟩
    | true =>
      go_wp2_with fail
      have hlt1 : w.heap.size < W2.heap.size := by have := HZ.out; omega
      have hlt2 : w.heap.size + 1 < W2.heap.size := by have := HZ.out; omega
      have hS0 : Below W2.heap.size W2 w4.drew ∧ w4.drew.cell? ⟨w.heap.size, 0, none⟩ = some (.slice A ld c) ∧ w4.drew.cell? ⟨w.heap.size, 1, none⟩ = some (.slice Ac lc cc) ∧ w4.drew.cell? ⟨w.heap.size, 2, none⟩ = some (.slice Ai li ci) ∧ w4.drew.cell? ⟨w.heap.size, 3, none⟩ = some (.slice Ab lb cb) ∧ w4.drew.cell? ⟨w.heap.size + 1, 0, none⟩ = some (.slice A' ld' c') ∧ w4.drew.cell? ⟨w.heap.size + 1, 1, none⟩ = some (.slice Ac' lc' cc') ∧ w4.drew.cell? ⟨w.heap.size + 1, 2, none⟩ = some (.slice Ai' li' ci') ∧ w4.drew.cell? ⟨w.heap.size + 1, 3, none⟩ = some (.slice Ab' lb' cb') := ⟨HK4.out.drew, fdx0, fdx1, fdx2, fdx3, fdy0, fdy1, fdy2, fdy3⟩
      go_region_held3 (fun w' => Below W2.heap.size W2 w' ∧ w'.cell? ⟨w.heap.size, 0, none⟩ = some (.slice A ld c) ∧ w'.cell? ⟨w.heap.size, 1, none⟩ = some (.slice Ac lc cc) ∧ w'.cell? ⟨w.heap.size, 2, none⟩ = some (.slice Ai li ci) ∧ w'.cell? ⟨w.heap.size, 3, none⟩ = some (.slice Ab lb cb) ∧ w'.cell? ⟨w.heap.size + 1, 0, none⟩ = some (.slice A' ld' c') ∧ w'.cell? ⟨w.heap.size + 1, 1, none⟩ = some (.slice Ac' lc' cc') ∧ w'.cell? ⟨w.heap.size + 1, 2, none⟩ = some (.slice Ai' li' ci') ∧ w'.cell? ⟨w.heap.size + 1, 3, none⟩ = some (.slice Ab' lb' cb'))
        (first | assumption | exact boxes_keep (by assumption) (by assumption) hlt1 hlt2)
        (first | (go_at_call 21; (with_reducible refine (C1.out _ (by first | assumption | exact And.left (by assumption))).mono ?_); rintro e w5 ⟨rfl, hb5⟩) | (go_at_call 22; (with_reducible refine (C2.out _ (by first | assumption | exact And.left (by assumption))).mono ?_); rintro e w5 ⟨rfl, hb5⟩) | (go_at_call 21; (with_reducible refine (C3.out _ (by first | assumption | exact And.left (by assumption))).mono ?_); rintro e w5 ⟨rfl, hb5⟩))
      have hend : Below W2.heap.size W2 w5 := by first | exact (boxes_keep (by assumption) (by assumption) hlt1 hlt2).1 | exact And.left (by assumption)
      have HEND := Lib.hid hend
      clear hS0 hend
      go_wp2_with fail
      go_ret
      exact ⟨by simp, HBW.out.trans (HEND.out.mono HBW.out.size)⟩

set_option maxRecDepth 100000 in
theorem lifted (os : Os) (started : os.Started) (H : Type) (enc : TypeId × Value → H) :
    ReturnsInHanded {} Try.checked os 5 .any (Rows.treeProgsSpec.pre6 enc Try.prog Try.f5 Rows.treeProgsRow.domain false) (Rows.treeProgsSpec.post enc Try.prog Try.f5 false true false false) := by
  refine returnsInHanded_of_change_sized (C := Try.checked) own started (by kernel_rfl) Try.func5
    (ChangeSpec.witness6 (enc := enc) (C := Try.checked) false ⟨#[], #[.agg #[.slice none 0 0, .slice none 0 0, .slice none 0 0, .slice none 0 0], .agg #[.slice none 0 0, .slice none 0 0, .slice none 0 0, .slice none 0 0]], []⟩ 8 (by kernel_rfl) (by kernel_rfl) (by kernel_rfl) (by kernel_rfl)) ?_
  intro W base args ds gs before hval0 hW hcnd hsz0 _
  have hsz : (DataW.weightsEach Try.prog (Try.f5.params.toList ++ Rows.treeProgsSpec.plain.varTypes Try.prog) (ds ++ gs)).all (· ≤ reachBytes) = true := hsz0
  rw [Try.params5] at hsz
  clear hsz0
  have hval : ∀ (j : Nat) t v, Try.f5.params[j]? = some t → args[j]? = some v → Value.okWide Try.prog W .any base t v := hval0
  have hW' := hW
  obtain ⟨p, q, hA0, hV, rfl, hfz, hnd⟩ := hW
  have hA : DataW.TrodAll enc Try.prog W 0 (fun _ => true) true Try.f5.params.toList args.toList ds p := hA0
  rw [Try.params5] at hA hval
  obtain ⟨v0, vs0, d0, ds0, p0, q0, hargs, rfl, rfl, h0, r0⟩ := trodAll_cons hA
  obtain ⟨v1, vs1, d1, ds1, p1, q1, rfl, rfl, rfl, h1, r1⟩ := trodAll_cons r0
  obtain ⟨rfl, rfl, rfl⟩ := trodAll_nil r1
  obtain rfl : args = #[v0, v1] := by cases args; simp_all
  obtain ⟨rfl, rfl⟩ := trodVars_none hV
  have k0 := h0
  have lt0 : ∀ x ∈ p0, x.block < W.heap.size := by obtain ⟨m, hm⟩ := k0; exact DataW.trod_lt m _ _ _ hm
  obtain ⟨y0, rfl, _⟩ := okWide_struct Try.underlying46 (hval 0 46 v0 rfl rfl)
  obtain ⟨x0, t0, w0, rfl⟩ : ∃ xs t, PgAt W W.heap.size xs t ∧ y0 = xs.toArray := by
    obtain ⟨fuel, hf⟩ := h0
    obtain ⟨t, ht⟩ := open_pg fuel _ _ hf (fits_param hsz (j := 0) rfl rfl)
    exact ⟨y0.toList, t, ht, by simp⟩
  have k1 := h1
  have lt1 : ∀ x ∈ p1, x.block < W.heap.size := by obtain ⟨m, hm⟩ := k1; exact DataW.trod_lt m _ _ _ hm
  obtain ⟨y1, rfl, _⟩ := okWide_struct Try.underlying46 (hval 1 46 v1 rfl rfl)
  obtain ⟨x1, t1, w1, rfl⟩ : ∃ xs t, PgAt W W.heap.size xs t ∧ y1 = xs.toArray := by
    obtain ⟨fuel, hf⟩ := h1
    obtain ⟨t, ht⟩ := open_pg fuel _ _ hf (fits_param hsz (j := 1) rfl rfl)
    exact ⟨y1.toList, t, ht, by simp⟩
  clear hA0 hval0
  refine (walk x0 t0 x1 t1 W w0 w1).mono fun e W' ⟨he, bel⟩ => ?_
  subst he
  exact ⟨_, rfl, _, _, _, [], _, [], hW', trodAll_mk1 (shut_bool Try.underlying4 _), (trodAll_cons_mk (Below.trod laidOut (by kernel_rfl) (of_decide_eq_true (by kernel_rfl)) k0 bel lt0) (trodAll_cons_mk (Below.trod laidOut (by kernel_rfl) (of_decide_eq_true (by kernel_rfl)) k1 bel lt1) trodAll_mk0)), rfl, bel.frame _, fun h => by cases h⟩

theorem over : Rows.treeProgsRow.holds Try.pinned (OpenSpec.ofChange Rows.treeProgsSpec) :=
  OpenClaim.holds_of_wide 5 Try.f5 rfl rfl rfl rfl rfl rfl rfl ⟨rfl, rfl, rfl, rfl, rfl⟩ rfl rfl rfl rfl rfl (by kernel_rfl) Try.func5 (by kernel_rfl)
    (of_decide_eq_true (by kernel_rfl)) (by unfold Func.isWrapper; first | (rw [if_pos (by decide +kernel)]; kernel_rfl) | (rw [if_neg (by decide +kernel)]; exact ⟨rfl, rfl⟩))
    (fun os started H enc _ => lifted os started H enc)

/-- The statement. -/
theorem proved : Rows.TreeProgsSaid := over
#print axioms proved
end Go.Proofs.Ytglamoiimmahgaa.treeProgs
