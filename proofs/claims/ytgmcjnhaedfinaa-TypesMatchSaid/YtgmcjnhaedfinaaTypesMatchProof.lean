/-
  The law 'TypesMatch' of the document's layer returns true for every input, and leaves what it was given as it was. No condition.
-/
import Derived.Test.YtgmcjnhaedfinaaRows
import Derived.WalkKit
import Derived.ProofKit
import Derived.OpenShut
import Derived.ShutString
import Derived.ChangeOld
import Derived.Below
import Derived.Carry
import Derived.Lib.SmallJoins
import Derived.SliceStrings
import Derived.Test.YtgmcjnhaedfinaaQop
import Derived.Test.YtgmcjnhaedfinaaQaw
import Derived.Test.YtgmcjnhaedfinaaQsm
import Derived.Test.YtgmcjnhaedfinaaQback
import Derived.Test.YtgmcjnhaedfinaaQdm
import Derived.Test.YtgmcjnhaedfinaaQlr
namespace Go.Proofs.Ytgmcjnhaedfinaa.typesMatch
open Go.Proofs.Ytgmcjnhaedfinaa
open Go.ChangeShapes Go.WideShapes Go.ChangeAt Go.RowKit Go.Joins
open Go.ChangeMaps (open_string shut_string)
set_option linter.unusedVariables false

theorem own : ownKnob Try.prog.godebug = none := by kernel_rfl
theorem laidOut : laidOutB Try.prog = true := by kernel_rfl

theorem nmEq_self (a : ByteArray) : nmEq a a = true := by simp [nmEq]
theorem texts_self : ∀ l : List ByteArray, textsS l l = true
  | [] => rfl
  | a :: l => by simp only [textsS]; rw [nmEq_self, texts_self l]; rfl
theorem tySame_self (N : Nat) : ∀ t : Ty, t.nodes ≤ N → tySame t t = true := by
  induction N with
  | zero => intro t h; cases t; unfold Ty.nodes at h; omega
  | succ N ih =>
    intro t h
    cases t with
    | mk k nm n ks =>
    unfold Ty.nodes at h
    have := tys_yes ks ks rfl (fun j h1 h2 => ih _ (by have := tys_mem ks ks[j] (List.getElem_mem h1); omega))
    rw [tySame, this]; simp
theorem tysSame_self (l : List Ty) : (l.length == l.length && tysSame l l) = true := by
  rw [tys_yes l l rfl (fun j h1 h2 => tySame_self _ _ (Nat.le_refl _))]; simp
theorem DocPost.yes {B nv : Nat} {t s : Ty} {ts : List Ty} {w w' : World} {e : Ending} (h : docM t s = some ts) (hn : (varsT t).length = nv) (hl : ts.length = nv) (hB : B ≤ w.heap.size) (hp : DocPost B t s w e w') :
    ∃ (A A' : Option Addr) (c c' : Nat) (L : List (List Value)), e = .returned (.tuple #[.slice A nv c, .slice A' nv c', .bool true]) ∧ nv ≤ c ∧ Reads w' w'.heap.size 1 A nv (nmVals (varsT t)) ∧ TysAt w' w'.heap.size A' ts L ∧ Below w.heap.size w w' := by
  subst hn
  unfold DocPost at hp
  rw [h] at hp
  obtain ⟨hb, v1, v2, L, rfl, h1, h2, h3⟩ := hp
  obtain ⟨A, c, rfl, hc, hr⟩ := own_str h1
  rw [← hl] at h2
  obtain ⟨A', c', rfl, _, _, hy⟩ := own_tys h2 h3 (Nat.le_trans hB hb.size)
  rw [hl]
  exact ⟨A, A', c, c', L, rfl, hc, hr, hy, hb⟩
theorem MatPost.no {B : Nat} {t s : Ty} {w w' : World} {e : Ending} (h : matchC t s [] = none) (hp : MatPost B t s w e w') : e = .returned (.tuple #[.slice none 0 0, .slice none 0 0, .bool false]) ∧ Below w.heap.size w w' := by
  unfold MatPost at hp
  rw [h] at hp
  exact ⟨hp.2, hp.1⟩
theorem DocPost.no {B : Nat} {t s : Ty} {w w' : World} {e : Ending} (h : docM t s = none) (hp : DocPost B t s w e w') : e = .returned (.tuple #[.slice none 0 0, .slice none 0 0, .bool false]) ∧ Below w.heap.size w w' := by
  unfold DocPost at hp
  rw [h] at hp
  exact ⟨hp.2, hp.1⟩
theorem tys_0 (w : World) (B : Nat) : TysAt w B none [] [] := ⟨⟨rfl, fun l h => by simp at h, ⟨rfl, fun h => by simp at h⟩⟩, fun i h1 h2 => by simp at h1⟩
theorem reads_0 (w : World) (B : Nat) : Reads w B 1 none 0 (nmVals []) := ⟨rfl, fun h => by simp at h⟩
set_option linter.unusedSimpArgs false
set_option maxRecDepth 100000 in
set_option maxHeartbeats 12800000 in
theorem walk (x0 : List Value) (t0 : Ty) (x1 : List Value) (t1 : Ty) (a2 : Int) (w : World) (w0 : TyAt w w.heap.size x0 t0) (w1 : TyAt w w.heap.size x1 t1) (w2 : (Lit.int .i64 a2).wf = true) :
    Calls Try.prog 5 #[.agg x0.toArray, .agg x1.toArray, .int .i64 a2] w fun e w' => e = .returned (.bool true) ∧ Below w.heap.size w w' := by
  have HOK := Lib.hid (show ok64 a2 from w2)
  have o0 := ty_ones w0
  have o1 := ty_ones w1
  obtain ⟨a0, a1, a2', a3, rfl⟩ := four_of w0.four
  obtain ⟨b0, b1, b2, b3, rfl⟩ := four_of w1.four
  have sa0 := store_one' a0 (o0 a0 (by simp))
  have sa1 := store_one' a1 (o0 a1 (by simp))
  have sa2' := store_one' a2' (o0 a2' (by simp))
  have sa3 := store_one' a3 (o0 a3 (by simp))
  have sb0 := store_one' b0 (o1 b0 (by simp))
  have sb1 := store_one' b1 (o1 b1 (by simp))
  have sb2 := store_one' b2 (o1 b2 (by simp))
  have sb3 := store_one' b3 (o1 b3 (by simp))
  obtain ⟨W2, hW2⟩ : ∃ W2, (w.alloc (.cells #[a0, a1, a2', a3] 24)).alloc (.cells #[b0, b1, b2, b3] 24) = W2 := ⟨_, rfl⟩
  have hg : Below w.heap.size w W2 := by rw [← hW2]; exact ((Below.refl _ _).alloc (Nat.le_refl _) _).alloc (by simp) _
  have hba : Blk W2 w.heap.size 24 #[a0, a1, a2', a3] := by rw [← hW2]; exact (Blk.new _ _ _).alloc _
  have hbb : Blk W2 (w.heap.size + 1) 24 #[b0, b1, b2, b3] := by rw [← hW2]; have := Blk.new (w.alloc (.cells #[a0, a1, a2', a3] 24)) 24 #[b0, b1, b2, b3]; simpa using this
  have hta := w0.later hg
  have htb := w1.later hg
  have HW := Lib.hid hW2
  have HG := Lib.hid hg
  have RA := Lib.hid (fun (W : World) (h : Below W2.heap.size W2 W) => hba.below h hba.lt)
  have RB := Lib.hid (fun (W : World) (h : Below W2.heap.size W2 W) => hbb.below h hbb.lt)
  have TA := Lib.hid (fun (W : World) (h : Below W2.heap.size W2 W) => hta.later (h.mono hg.size))
  have TB := Lib.hid (fun (W : World) (h : Below W2.heap.size W2 W) => htb.later (h.mono hg.size))
  have SZ := Lib.hid (fun (W : World) (h : Below W2.heap.size W2 W) => Nat.le_trans hg.size h.size)
  have CS0 := Lib.hid (fun (W : World) (h : Below W2.heap.size W2 W) => show Calls Try.prog 8 #[.agg #[a0, a1, a2', a3], .int .i64 100] W (SmallSays 100 t0 W) from small_any t0 100 w.heap.size W [a0, a1, a2', a3] (by omega) (Nat.le_trans hg.size h.size) (hta.later (h.mono hg.size)))
  have CS1 := Lib.hid (fun (W : World) (h : Below W2.heap.size W2 W) => show Calls Try.prog 8 #[.agg #[b0, b1, b2, b3], .int .i64 100] W (SmallSays 100 t1 W) from small_any t1 100 w.heap.size W [b0, b1, b2, b3] (by omega) (Nat.le_trans hg.size h.size) (htb.later (h.mono hg.size)))
  have CA := Lib.hid (fun W => awake_any W)
  have hmx : Try.prog.follows .mixedOrders = true := by kernel_rfl
  have p0 := hba.cell 0
  have p1 := hba.cell 1
  have p2 := hba.cell 2
  have p3 := hba.cell 3
  simp only [zTy, List.getElem?_toArray, List.getElem?_cons_succ, List.getElem?_cons_zero] at p0 p1 p2 p3
  have q0 := hbb.cell 0
  have q1 := hbb.cell 1
  have q2 := hbb.cell 2
  have q3 := hbb.cell 3
  simp only [zTy, List.getElem?_toArray, List.getElem?_cons_succ, List.getElem?_cons_zero] at q0 q1 q2 q3
  clear hW2 hg hba hbb hta htb w0 w1 o0 o1
  go_enter Try.func5, Try.ntmps5
  go_upto_region 3 with (go_at_call 7; rw [HW.out]; (with_reducible refine (CA.out _).mono ?_); rintro e w2 ⟨rfl, hk2⟩; (have pa2 := RA.out w2 hk2); (have p0 := pa2.cell 0); (have p1 := pa2.cell 1); (have p2 := pa2.cell 2); (have p3 := pa2.cell 3); (simp only [zTy, List.getElem?_toArray, List.getElem?_cons_succ, List.getElem?_cons_zero] at p0 p1 p2 p3); (have pb2 := RB.out w2 hk2); (have q0 := pb2.cell 0); (have q1 := pb2.cell 1); (have q2 := pb2.cell 2); (have q3 := pb2.cell 3); (simp only [zTy, List.getElem?_toArray, List.getElem?_cons_succ, List.getElem?_cons_zero] at q0 q1 q2 q3))
  have C0 := Lib.hid (CS0.out w2 hk2)
  go_wp2_with (go_at_call 8; (with_reducible refine C0.out.mono ?_); rintro e w3 ⟨bb0, rfl, hs0, hk3⟩; (have hK3 := hk2.trans (hk3.mono hk2.size)); (have HS0 := Lib.hid hs0); clear hs0 C0; (have pa3 := RA.out w3 hK3); (have p0 := pa3.cell 0); (have p1 := pa3.cell 1); (have p2 := pa3.cell 2); (have p3 := pa3.cell 3); (simp only [zTy, List.getElem?_toArray, List.getElem?_cons_succ, List.getElem?_cons_zero] at p0 p1 p2 p3); (have pb3 := RB.out w3 hK3); (have q0 := pb3.cell 0); (have q1 := pb3.cell 1); (have q2 := pb3.cell 2); (have q3 := pb3.cell 3); (simp only [zTy, List.getElem?_toArray, List.getElem?_cons_succ, List.getElem?_cons_zero] at q0 q1 q2 q3); (have C1 := Lib.hid (CS1.out w3 hK3)); cases bb0)
  · go_wp2_with fail
    go_ret
    exact ⟨rfl, HG.out.trans (hK3.mono HG.out.size)⟩
  have hn0 : t0.nodes ≤ 100 := (HS0.out trivial).1
  go_wp2_with (go_at_call 8; (with_reducible refine C1.out.mono ?_); rintro e w4 ⟨bb1, rfl, hs1, hk4⟩; (have hK4 := hK3.trans (hk4.mono hK3.size)); (have HS1 := Lib.hid hs1); clear hs1 C1; (have pa4 := RA.out w4 hK4); (have p0 := pa4.cell 0); (have p1 := pa4.cell 1); (have p2 := pa4.cell 2); (have p3 := pa4.cell 3); (simp only [zTy, List.getElem?_toArray, List.getElem?_cons_succ, List.getElem?_cons_zero] at p0 p1 p2 p3); (have pb4 := RB.out w4 hK4); (have q0 := pb4.cell 0); (have q1 := pb4.cell 1); (have q2 := pb4.cell 2); (have q3 := pb4.cell 3); (simp only [zTy, List.getElem?_toArray, List.getElem?_cons_succ, List.getElem?_cons_zero] at q0 q1 q2 q3); cases bb1)
  · go_wp2_with fail
    go_ret
    exact ⟨rfl, HG.out.trans (hK4.mono HG.out.size)⟩
  have hn1 : t1.nodes ≤ 100 := (HS1.out trivial).1
  have hgd : goodT t0 = true := (HS0.out trivial).2
  have CM := Lib.hid (match_any t0 t1 (by omega) (by omega) (match_vars hgd) w.heap.size w4 [a0, a1, a2', a3] [b0, b1, b2, b3] (SZ.out w4 hK4) (TA.out w4 hK4) (TB.out w4 hK4))
  have HDS := Lib.hid (doc_says (s := t1) hgd)
  obtain ⟨SL, hSL⟩ : ∃ SL : ByteArray, (⟨(letterL a2).toArray⟩ : ByteArray) = SL := ⟨_, rfl⟩
  have CL := Lib.hid (fun W => letter_any a2 HOK.out W)
  have CN := Lib.hid (fun W => rletter_any a2 HOK.out W)
  rw [hSL] at CL CN
  have hself2 : (SL.toList == SL.toList) = true := by rw [beq_self_eq_true]
  clear hSL
  cases hc : matchC t0 t1 [] with
  | none =>
    have HC := Lib.hid hc
    have HDN := Lib.hid (show docM t0 t1 = none by rw [HDS.out, hc]; rfl)
    clear hc
    go_upto_region 6 with (go_at_call 30; (with_reducible refine CM.out.mono ?_); rintro e w5 hmp; (obtain ⟨rfl, hk5⟩ := MatPost.no HC.out hmp); (have hK5 := hK4.trans (hk5.mono hK4.size)); (have pa5 := RA.out w5 hK5); (have p0 := pa5.cell 0); (have p1 := pa5.cell 1); (have p2 := pa5.cell 2); (have p3 := pa5.cell 3); (simp only [zTy, List.getElem?_toArray, List.getElem?_cons_succ, List.getElem?_cons_zero] at p0 p1 p2 p3); (have pb5 := RB.out w5 hK5); (have q0 := pb5.cell 0); (have q1 := pb5.cell 1); (have q2 := pb5.cell 2); (have q3 := pb5.cell 3); (simp only [zTy, List.getElem?_toArray, List.getElem?_cons_succ, List.getElem?_cons_zero] at q0 q1 q2 q3))
    have CD := Lib.hid (rmatch_any t0 t1 (by omega) (by omega) w.heap.size w5 [a0, a1, a2', a3] [b0, b1, b2, b3] (SZ.out w5 hK5) (TA.out w5 hK5) (TB.out w5 hK5))
    go_upto_region 7 with (go_at_call 31; (with_reducible refine CD.out.mono ?_); rintro e w6 hmp6; (obtain ⟨rfl, hk6⟩ := DocPost.no HDN.out hmp6); (have hK6 := hK5.trans (hk6.mono hK5.size)))
    have CX := Lib.hid (show Calls Try.prog 14 #[.slice none 0 0, .slice none 0 0] w6 (fun e w' => e = .returned (.bool true) ∧ ∃ k, w' = w6.drewN k) from rtexts_any [] [] none none 0 0 0 0 w6.heap.size w6 (by omega) (reads_0 _ _) (reads_0 _ _))
    have CYY := Lib.hid (fun (W : World) => show Calls Try.prog 10 #[.slice none 0 0, .slice none 0 0] W (fun e w' => e = .returned (.bool true) ∧ Below W.heap.size W w') from rsametypes_any [] [] none none [] [] 0 0 W.heap.size W (Nat.le_refl _) (tys_0 _ _) (tys_0 _ _) (by unfold maxLen; simp) (fun t ht => by simp at ht))
    have HK6 := Lib.hid hK6
    go_wp2_with (first | (go_at_call 14; (with_reducible refine CX.out.mono ?_); rintro e w7 ⟨rfl, kk, hkk⟩; (have hk7 : Below w6.heap.size w6 w7 := by rw [hkk]; exact below_drewN (Below.refl _ _) kk); clear hkk; (have CY := Lib.hid (CYY.out w7))) | (go_at_call 10; (with_reducible refine CY.out.mono ?_); rintro e w8 ⟨rfl, hk8⟩) | (go_at_call 32; (with_reducible refine (CL.out _).mono ?_); rintro e w9 ⟨rfl, hk9⟩) | (go_at_call 33; (with_reducible refine (CN.out _).mono ?_); rintro e w10 ⟨rfl, hk10⟩))
    go_ret
    exact ⟨rfl, HG.out.trans ((HK6.out.trans ((((hk7.trans (hk8.mono hk7.size)).trans (hk9.mono (Nat.le_trans hk7.size hk8.size))).trans (hk10.mono (Nat.le_trans (Nat.le_trans hk7.size hk8.size) hk9.size))).mono HK6.out.size)).mono HG.out.size)⟩
  | some M =>
    have HC := Lib.hid hc
    have HDY := Lib.hid (show docM t0 t1 = some (tysOf M (varsT t0)) by rw [HDS.out, hc]; rfl)
    clear hc
    obtain ⟨nv, hnv⟩ : ∃ nv, (varsT t0).length = nv := ⟨_, rfl⟩
    have hnv9 : nv ≤ 100 := by rw [← hnv]; exact Nat.le_trans (vars_len t0) hn0
    have HNV := Lib.hid hnv
    have HTL := Lib.hid (show (tysOf M (varsT t0)).length = nv by rw [tysOf_len]; exact hnv)
    clear hnv
    go_upto_region 6 with (go_at_call 30; (with_reducible refine CM.out.mono ?_); rintro e w5 hmp; (obtain ⟨A1, A2, c1, c2, L1, rfl, hc1, hr1, hy1, hk5⟩ := MatPost.yes HC.out HNV.out (SZ.out w4 hK4) hmp); (have hK5 := hK4.trans (hk5.mono hK4.size)); (have pa5 := RA.out w5 hK5); (have p0 := pa5.cell 0); (have p1 := pa5.cell 1); (have p2 := pa5.cell 2); (have p3 := pa5.cell 3); (simp only [zTy, List.getElem?_toArray, List.getElem?_cons_succ, List.getElem?_cons_zero] at p0 p1 p2 p3); (have pb5 := RB.out w5 hK5); (have q0 := pb5.cell 0); (have q1 := pb5.cell 1); (have q2 := pb5.cell 2); (have q3 := pb5.cell 3); (simp only [zTy, List.getElem?_toArray, List.getElem?_cons_succ, List.getElem?_cons_zero] at q0 q1 q2 q3))
    have CD := Lib.hid (rmatch_any t0 t1 (by omega) (by omega) w.heap.size w5 [a0, a1, a2', a3] [b0, b1, b2, b3] (SZ.out w5 hK5) (TA.out w5 hK5) (TB.out w5 hK5))
    go_upto_region 7 with (go_at_call 31; (with_reducible refine CD.out.mono ?_); rintro e w6 hmp6; (obtain ⟨A3, A4, c3, c4, L2, rfl, hc3, hr3, hy3, hk6⟩ := DocPost.yes HDY.out HNV.out HTL.out (SZ.out w5 hK5) hmp6); (have hK6 := hK5.trans (hk6.mono hK5.size)))
    have hx0 := rtexts_any (varsT t0) (varsT t0) A1 A3 nv nv c1 c3 w6.heap.size w6 (by omega) ((hr1.below hk6).more hk6.size) hr3
    rw [texts_self] at hx0
    have CX := Lib.hid hx0
    have HY1 := Lib.hid (fun (W : World) (h : Below w6.heap.size w6 W) => show TysAt W W.heap.size A2 (tysOf M (varsT t0)) L1 from ⟨(hy1.row.keep fun p hp => (hk6.trans (h.mono hk6.size)).cell hp).more (Nat.le_trans hk6.size h.size), fun i h1 h2 => ((hy1.each i h1 h2).later (hk6.trans (h.mono hk6.size))).more (Nat.le_trans hk6.size h.size)⟩)
    have HY3 := Lib.hid (fun (W : World) (h : Below w6.heap.size w6 W) => show TysAt W W.heap.size A4 (tysOf M (varsT t0)) L2 from ⟨(hy3.row.keep fun p hp => h.cell hp).more h.size, fun i h1 h2 => ((hy3.each i h1 h2).later h).more h.size⟩)
    have CYY := Lib.hid (fun (W : World) (h : Below w6.heap.size w6 W) => show Calls Try.prog 10 #[.slice A2 nv c2, .slice A4 nv c4] W (fun e w' => e = .returned (.bool true) ∧ Below W.heap.size W w') by
      have hh := rsametypes_any (tysOf M (varsT t0)) (tysOf M (varsT t0)) A2 A4 L1 L2 c2 c4 W.heap.size W (Nat.le_refl _) (HY1.out W h) (HY3.out W h) (by rw [HTL.out]; unfold maxLen; omega) (fun t ht u V cs ds hV h1 h2 => rsametype_any t.nodes t u (Nat.le_refl _) W.heap.size V cs ds hV h1 h2)
      rw [tysSame_self, HTL.out] at hh
      exact hh)
    have HK6 := Lib.hid hK6
    clear hx0 hr1 hr3 hy1 hy3
    go_wp2_with (first | (go_at_call 14; (with_reducible refine CX.out.mono ?_); rintro e w7 ⟨rfl, kk, hkk⟩; (have hk7 : Below w6.heap.size w6 w7 := by rw [hkk]; exact below_drewN (Below.refl _ _) kk); clear hkk; (have CY := Lib.hid (CYY.out w7 hk7))) | (go_at_call 10; (with_reducible refine CY.out.mono ?_); rintro e w8 ⟨rfl, hk8⟩) | (go_at_call 32; (with_reducible refine (CL.out _).mono ?_); rintro e w9 ⟨rfl, hk9⟩) | (go_at_call 33; (with_reducible refine (CN.out _).mono ?_); rintro e w10 ⟨rfl, hk10⟩))
    go_ret
    exact ⟨rfl, HG.out.trans ((HK6.out.trans ((((hk7.trans (hk8.mono hk7.size)).trans (hk9.mono (Nat.le_trans hk7.size hk8.size))).trans (hk10.mono (Nat.le_trans (Nat.le_trans hk7.size hk8.size) hk9.size))).mono HK6.out.size)).mono HG.out.size)⟩

set_option maxRecDepth 100000 in
theorem lifted (os : Os) (started : os.Started) (H : Type) (enc : TypeId × Value → H) :
    ReturnsInHanded {} Try.checked os 5 .any (Rows.typesMatchSpec.pre6 enc Try.prog Try.f5 Rows.typesMatchRow.domain false) (Rows.typesMatchSpec.post enc Try.prog Try.f5 false true false false) := by
  refine returnsInHanded_of_change_sized (C := Try.checked) own started (by kernel_rfl) Try.func5
    (ChangeSpec.witness6 (enc := enc) (C := Try.checked) false ⟨#[], #[.agg #[.int .i64 0, .string ⟨#[]⟩, .int .i64 0, .slice none 0 0], .agg #[.int .i64 0, .string ⟨#[]⟩, .int .i64 0, .slice none 0 0], .int .i64 0], []⟩ 8 (by kernel_rfl) (by kernel_rfl) (by kernel_rfl) (by kernel_rfl)) ?_
  intro W base args ds gs before hval0 hW hcnd hsz0 _
  have hsz : (DataW.weightsEach Try.prog (Try.f5.params.toList ++ Rows.typesMatchSpec.plain.varTypes Try.prog) (ds ++ gs)).all (· ≤ reachBytes) = true := hsz0
  rw [Try.params5] at hsz
  clear hsz0
  have hval : ∀ (j : Nat) t v, Try.f5.params[j]? = some t → args[j]? = some v → Value.okWide Try.prog W .any base t v := hval0
  have hW' := hW
  obtain ⟨p, q, hA0, hV, rfl, hfz, hnd⟩ := hW
  have hA : DataW.TrodAll enc Try.prog W 0 (fun _ => true) true Try.f5.params.toList args.toList ds p := hA0
  rw [Try.params5] at hA hval
  obtain ⟨v0, vs0, d0, ds0, p0, q0, hargs, rfl, rfl, h0, r0⟩ := trodAll_cons hA
  obtain ⟨v1, vs1, d1, ds1, p1, q1, rfl, rfl, rfl, h1, r1⟩ := trodAll_cons r0
  obtain ⟨v2, vs2, d2, ds2, p2, q2, rfl, rfl, rfl, h2, r2⟩ := trodAll_cons r1
  obtain ⟨rfl, rfl, rfl⟩ := trodAll_nil r2
  obtain rfl : args = #[v0, v1, v2] := by cases args; simp_all
  obtain ⟨rfl, rfl⟩ := trodVars_none hV
  have k0 := h0
  have lt0 : ∀ x ∈ p0, x.block < W.heap.size := by obtain ⟨m, hm⟩ := k0; exact DataW.trod_lt m _ _ _ hm
  obtain ⟨y0, rfl, _⟩ := okWide_struct Try.underlying24 (hval 0 24 v0 rfl rfl)
  obtain ⟨x0, t0, w0, rfl⟩ : ∃ xs t, TyAt W W.heap.size xs t ∧ y0 = xs.toArray := by
    obtain ⟨fuel, hf⟩ := h0
    obtain ⟨t, ht⟩ := open_ty fuel _ _ hf (fits_param hsz (j := 0) rfl rfl)
    exact ⟨y0.toList, t, ht, by simp⟩
  have k1 := h1
  have lt1 : ∀ x ∈ p1, x.block < W.heap.size := by obtain ⟨m, hm⟩ := k1; exact DataW.trod_lt m _ _ _ hm
  obtain ⟨y1, rfl, _⟩ := okWide_struct Try.underlying24 (hval 1 24 v1 rfl rfl)
  obtain ⟨x1, t1, w1, rfl⟩ : ∃ xs t, TyAt W W.heap.size xs t ∧ y1 = xs.toArray := by
    obtain ⟨fuel, hf⟩ := h1
    obtain ⟨t, ht⟩ := open_ty fuel _ _ hf (fits_param hsz (j := 1) rfl rfl)
    exact ⟨y1.toList, t, ht, by simp⟩
  have k2 := h2
  have lt2 : ∀ x ∈ p2, x.block < W.heap.size := by obtain ⟨m, hm⟩ := k2; exact DataW.trod_lt m _ _ _ hm
  obtain ⟨a2, rfl, rfl, rfl, w2⟩ := open_int Try.underlying3 (hval 2 3 v2 rfl rfl) h2
  clear hA0 hval0
  refine (walk x0 t0 x1 t1 a2 W w0 w1 w2).mono fun e W' ⟨he, bel⟩ => ?_
  subst he
  exact ⟨_, rfl, _, _, _, [], _, [], hW', trodAll_mk1 (shut_bool Try.underlying4 _), (trodAll_cons_mk (Below.trod laidOut (by kernel_rfl) (of_decide_eq_true (by kernel_rfl)) k0 bel lt0) (trodAll_cons_mk (Below.trod laidOut (by kernel_rfl) (of_decide_eq_true (by kernel_rfl)) k1 bel lt1) (trodAll_cons_mk (Below.trod laidOut (by kernel_rfl) (of_decide_eq_true (by kernel_rfl)) k2 bel lt2) trodAll_mk0))), rfl, bel.frame _, fun h => by cases h⟩

theorem over : Rows.typesMatchRow.holds Try.pinned (OpenSpec.ofChange Rows.typesMatchSpec) :=
  OpenClaim.holds_of_wide 5 Try.f5 rfl rfl rfl rfl rfl rfl rfl ⟨rfl, rfl, rfl, rfl, rfl⟩ rfl rfl rfl rfl rfl (by kernel_rfl) Try.func5 (by kernel_rfl)
    (of_decide_eq_true (by kernel_rfl)) (by unfold Func.isWrapper; first | (rw [if_pos (by decide +kernel)]; kernel_rfl) | (rw [if_neg (by decide +kernel)]; exact ⟨rfl, rfl⟩))
    (fun os started H enc _ => lifted os started H enc)

/-- The statement. -/
theorem proved : Rows.TypesMatchSaid := over
#print axioms proved
end Go.Proofs.Ytgmcjnhaedfinaa.typesMatch
