/-
  The law 'TypesPut' of the document's layer returns true for every input, and leaves what it was given as it was. No condition.
-/
import Derived.Test.YtihdhdmpmmlfcaaRows
import Derived.WalkKit
import Derived.ProofKit
import Derived.OpenShut
import Derived.ShutString
import Derived.ChangeOld
import Derived.Below
import Derived.Carry
import Derived.Lib.SmallJoins
import Derived.SliceStrings
import Derived.Test.YtihdhdmpmmlfcaaQot
import Derived.Test.YtihdhdmpmmlfcaaQaw
import Derived.Test.YtihdhdmpmmlfcaaQsm
import Derived.Test.YtihdhdmpmmlfcaaQbd
import Derived.Test.YtihdhdmpmmlfcaaQbe
import Derived.Test.YtihdhdmpmmlfcaaQbf
namespace Go.Proofs.Ytihdhdmpmmlfcaa.typesPut
open Go.Proofs.Ytihdhdmpmmlfcaa
open Go.ChangeShapes Go.WideShapes Go.ChangeAt Go.RowKit Go.Joins
open Go.ChangeMaps (open_string shut_string)
set_option linter.unusedVariables false

theorem own : ownKnob Try.prog.godebug = none := by kernel_rfl
theorem laidOut : laidOutB Try.prog = true := by kernel_rfl

theorem nmEq_self (a : ByteArray) : nmEq a a = true := by simp [nmEq]
theorem texts_self : ∀ l : List ByteArray, textsS l l = true
  | [] => rfl
  | a :: l => by simp only [textsS]; rw [nmEq_self, texts_self l]; rfl
theorem tySame_self (N : Nat) : ∀ t : Ty, t.nodes ≤ N → tySame t t = true := by
  induction N with
  | zero => intro t h; cases t; unfold Ty.nodes at h; omega
  | succ N ih =>
    intro t h
    cases t with
    | mk k nm n ks =>
    unfold Ty.nodes at h
    have := tys_yes ks ks rfl (fun j h1 h2 => ih _ (by have := tys_mem ks ks[j] (List.getElem_mem h1); omega))
    rw [tySame, this]; simp
theorem tysSame_self (l : List Ty) : (l.length == l.length && tysSame l l) = true := by
  rw [tys_yes l l rfl (fun j h1 h2 => tySame_self _ _ (Nat.le_refl _))]; simp
theorem nodes_two (t u : Ty) (k n : Int) (nm : ByteArray) : (Ty.mk k nm n [t, u]).nodes = 1 + t.nodes + u.nodes := by simp [Ty.nodes, tysNodes]; omega
abbrev nmPair : ByteArray := ⟨#[80, 97, 105, 114]⟩
/-- Two in a row: as a call meets them. -/
theorem pair_row (W : World) (B : Nat) (cs ds : List Value) (t u : Ty) (hB : B ≤ W.heap.size) (ht : TyAt W B cs t) (hu : TyAt W B ds u) : Row (W.alloc (.cells (cs ++ ds).toArray 24)) (W.heap.size + 1) 4 (some ⟨W.heap.size, 0, none⟩) 2 [cs, ds] ∧ TsAt (W.alloc (.cells (cs ++ ds).toArray 24)) B [t, u] [cs, ds] :=
  ⟨row_two W cs ds ht.four hu.four _, (TsAt.one (ht.later (((Below.refl W.heap.size W).alloc (Nat.le_refl _) _).mono hB))).app (TsAt.one (hu.later (((Below.refl W.heap.size W).alloc (Nat.le_refl _) _).mono hB)))⟩
theorem metas_len (t : Ty) : (metasT t).length ≤ t.nodes := by
  have h1 := joinI_len (metL t.all) []
  have h2 := metL_len t.all
  rw [all_len] at h2
  unfold metasT
  simp only [List.length_nil] at h1
  omega
set_option linter.unusedSimpArgs false
set_option maxRecDepth 100000 in
set_option maxHeartbeats 12800000 in
theorem walk (x0 : List Value) (t0 : Tn) (x1 : List Value) (t1 : Ty) (w : World) (w0 : TnAt w w.heap.size x0 t0) (w1 : TyAt w w.heap.size x1 t1) :
    Calls Try.prog 4 #[.agg x0.toArray, .agg x1.toArray] w fun e w' => e = .returned (.bool true) ∧ Below w.heap.size w w' := by
  obtain ⟨A, A', A'', c, c', c'', L, L', rfl, ⟨hc1, hc2, hrd, hns⟩, ⟨hd1, hd2, hts⟩, ⟨hs1, hs2, hsb⟩⟩ := w0
  have o1 := ty_ones w1
  obtain ⟨b0, b1, b2, b3, rfl⟩ := four_of w1.four
  have sb0 := store_one' b0 (o1 b0 (by simp))
  have sb1 := store_one' b1 (o1 b1 (by simp))
  have sb2 := store_one' b2 (o1 b2 (by simp))
  have sb3 := store_one' b3 (o1 b3 (by simp))
  obtain ⟨n, hn⟩ : ∃ n, t0.names.length = n := ⟨_, rfl⟩
  obtain ⟨m, hm⟩ : ∃ m, t0.ts.length = m := ⟨_, rfl⟩
  obtain ⟨q, hq⟩ : ∃ q, t0.subs.length = q := ⟨_, rfl⟩
  rw [hn] at hc1 hrd ⊢
  rw [hm] at hd1 ⊢
  rw [hq] at hs1 ⊢
  obtain ⟨W2, hW2⟩ : ∃ W2, (w.alloc (.cells #[.slice A n c, .slice A' m c', .slice A'' q c''] 44)).alloc (.cells #[b0, b1, b2, b3] 24) = W2 := ⟨_, rfl⟩
  have hg : Below w.heap.size w W2 := by rw [← hW2]; exact ((Below.refl _ _).alloc (Nat.le_refl _) _).alloc (by simp) _
  have hbx : Blk W2 w.heap.size 44 #[.slice A n c, .slice A' m c', .slice A'' q c''] := by rw [← hW2]; exact (Blk.new _ _ _).alloc _
  have hbb : Blk W2 (w.heap.size + 1) 24 #[b0, b1, b2, b3] := by rw [← hW2]; have := Blk.new (w.alloc (.cells #[.slice A n c, .slice A' m c', .slice A'' q c''] 44)) 24 #[b0, b1, b2, b3]; simpa using this
  have HW := Lib.hid hW2
  have HG := Lib.hid hg
  have RX := Lib.hid (fun (W : World) (h : Below W2.heap.size W2 W) => hbx.below h hbx.lt)
  have RB := Lib.hid (fun (W : World) (h : Below W2.heap.size W2 W) => hbb.below h hbb.lt)
  have TB := Lib.hid (fun (W : World) (h : Below W2.heap.size W2 W) => w1.later (hg.trans (h.mono hg.size)))
  have TS := Lib.hid (fun (W : World) (h : Below W2.heap.size W2 W) => hts.later (hg.trans (h.mono hg.size)))
  have SB := Lib.hid (fun (W : World) (h : Below W2.heap.size W2 W) => hsb.later (hg.trans (h.mono hg.size)))
  have RN := Lib.hid (fun (W : World) (h : Below W2.heap.size W2 W) => hrd.below (hg.trans (h.mono hg.size)))
  have SZ := Lib.hid (fun (W : World) (h : Below W2.heap.size W2 W) => Nat.le_trans hg.size h.size)
  have CS1 := Lib.hid (fun (W : World) (h : Below W2.heap.size W2 W) => show Calls Try.prog 8 #[.agg #[b0, b1, b2, b3], .int .i64 200] W (SmallSays 200 t1 W) from small_any t1 200 w.heap.size W [b0, b1, b2, b3] (by omega) (Nat.le_trans hg.size h.size) (w1.later (hg.trans (h.mono hg.size))))
  have CS2 := Lib.hid (fun (W : World) (h : Below W2.heap.size W2 W) => show Calls Try.prog 25 #[.slice A' m c', .int .i64 100] W (SmallsSays 100 t0.ts W) from smalls_any t0.ts 100 A' L m c' w.heap.size W hm (Nat.le_trans hd1 hd2) (by omega) (Nat.le_trans hg.size h.size) (hts.later (hg.trans (h.mono hg.size))))
  have CA := Lib.hid (fun W => awake_any W)
  have HN := Lib.hid hn
  have HM := Lib.hid hm
  have HQ := Lib.hid hq
  have HNS := Lib.hid hns
  have hmx : Try.prog.follows .mixedOrders = true := by kernel_rfl
  have p0 := hbx.cell 0
  have p1 := hbx.cell 1
  have p2 := hbx.cell 2
  have q0 := hbb.cell 0
  have q1 := hbb.cell 1
  have q2 := hbb.cell 2
  have q3 := hbb.cell 3
  simp only [zTy, List.getElem?_toArray, List.getElem?_cons_succ, List.getElem?_cons_zero] at q0 q1 q2 q3
  simp only [List.getElem?_toArray, List.getElem?_cons_succ, List.getElem?_cons_zero] at p0 p1 p2
  have hq9 : q ≤ 9223372036854775807 := by unfold maxLen at hs2; omega
  clear hW2 hg hbx hbb w1 o1 hts hsb hrd hns hn hm hq hc2 hd2 hs2
  go_enter Try.func4, Try.ntmps4
  go_upto_region 3 with (go_at_call 7; rw [HW.out]; (with_reducible refine (CA.out _).mono ?_); rintro e w2 ⟨rfl, hk2⟩; (have pb2 := RB.out w2 hk2); (have q0 := pb2.cell 0); (have q1 := pb2.cell 1); (have q2 := pb2.cell 2); (have q3 := pb2.cell 3); (simp only [zTy, List.getElem?_toArray, List.getElem?_cons_succ, List.getElem?_cons_zero] at q0 q1 q2 q3); (have px2 := RX.out w2 hk2); (have p0 := px2.cell 0); (have p1 := px2.cell 1); (have p2 := px2.cell 2); (simp only [List.getElem?_toArray, List.getElem?_cons_succ, List.getElem?_cons_zero] at p0 p1 p2))
  have C1 := Lib.hid (CS1.out w2 hk2)
  by_cases hn30 : 30 < n
  · have d30 : decide ((30 : Int) < (n : Int)) = true := by simp; omega
    have d30' : decide (30 < n) = true := by simp; omega
    go_wp2_with (go_at_call 8; (with_reducible refine C1.out.mono ?_); rintro e w3 ⟨bb0, rfl, hs0, hk3⟩; (have hK3 := hk2.trans (hk3.mono hk2.size)); clear hs0; (have px3 := RX.out w3 hK3); (have p0 := px3.cell 0); (simp only [List.getElem?_toArray, List.getElem?_cons_succ, List.getElem?_cons_zero] at p0); cases bb0)
    · go_wp2_with fail
      go_ret
      exact ⟨rfl, HG.out.trans (hK3.mono HG.out.size)⟩
    · go_wp2_with fail
      go_ret
      exact ⟨rfl, HG.out.trans (hK3.mono HG.out.size)⟩
  have d30 : decide ((30 : Int) < (n : Int)) = false := by simp; omega
  have d30' : decide (30 < n) = false := by simp; omega
  go_wp2_with (go_at_call 8; (with_reducible refine C1.out.mono ?_); rintro e w3 ⟨bb0, rfl, hs0, hk3⟩; (have hK3 := hk2.trans (hk3.mono hk2.size)); (have HS0 := Lib.hid hs0); clear hs0 C1; (have px3 := RX.out w3 hK3); (have p0 := px3.cell 0); (have p1 := px3.cell 1); (have p2 := px3.cell 2); (simp only [List.getElem?_toArray, List.getElem?_cons_succ, List.getElem?_cons_zero] at p0 p1 p2); (have C2 := Lib.hid (CS2.out w3 hK3)); cases bb0)
  · go_wp2_with fail
    go_ret
    exact ⟨rfl, HG.out.trans (hK3.mono HG.out.size)⟩
  have hn1 : t1.nodes ≤ 200 := (HS0.out trivial).1
  by_cases hq30 : 30 < q
  · have e30 : decide ((30 : Int) < (q : Int)) = true := by simp; omega
    have e30' : decide (30 < q) = true := by simp; omega
    go_wp2_with (go_at_call 25; (with_reducible refine C2.out.mono ?_); rintro e w4 ⟨bb1, rfl, hs1', hk4⟩; (have hK4 := hK3.trans (hk4.mono hK3.size)); clear hs1'; (have px4 := RX.out w4 hK4); (have p2 := px4.cell 2); (simp only [List.getElem?_toArray, List.getElem?_cons_succ, List.getElem?_cons_zero] at p2); cases bb1)
    · go_wp2_with fail
      go_ret
      exact ⟨rfl, HG.out.trans (hK4.mono HG.out.size)⟩
    · go_wp2_with fail
      go_ret
      exact ⟨rfl, HG.out.trans (hK4.mono HG.out.size)⟩
  have e30 : decide ((30 : Int) < (q : Int)) = false := by simp; omega
  have e30' : decide (30 < q) = false := by simp; omega
  go_wp2_with (go_at_call 25; (with_reducible refine C2.out.mono ?_); rintro e w4 ⟨bb1, rfl, hs1', hk4⟩; (have hK4 := hK3.trans (hk4.mono hK3.size)); (have HS1 := Lib.hid hs1'); clear hs1' C2; (have px4 := RX.out w4 hK4); (have p2 := px4.cell 2); (simp only [List.getElem?_toArray, List.getElem?_cons_succ, List.getElem?_cons_zero] at p2); cases bb1)
  · go_wp2_with fail
    go_ret
    exact ⟨rfl, HG.out.trans (hK4.mono HG.out.size)⟩
  have hm30 : m ≤ 30 := by rw [← HM.out]; exact (HS1.out trivial).1
  have HK4 := Lib.hid hK4
  go_loopw [33] (fun i wr => ∃ j : Nat, i = .int .i64 j ∧ j ≤ q ∧ Below W2.heap.size W2 wr) (fun i _ => q - (intOf i).toNat)
  case atStart => exact ⟨0, rfl, Nat.zero_le _, HK4.out⟩
  case round =>
    obtain ⟨j, rfl, hj, hbe⟩ := hrel
    by_cases hlt : j < q
    · have hjn : j < t0.subs.length := by rw [HQ.out]; exact hlt
      have hSB := SB.out wr hbe
      have hjL : j < L'.length := by rw [hSB.row.len]; exact hjn
      obtain ⟨g, o, eA, hgB, hl5, h5, hcell⟩ := hSB.row.cells (by omega) hjn
      subst eA
      obtain ⟨ct, e5, hok, hta⟩ := hSB.each j hjL hjn
      have oo := ty_ones hta
      obtain ⟨e0, e1, e2, e3, rfl⟩ := four_of hta.four
      have se0 := store_one' e0 (oo e0 (by simp))
      have se1 := store_one' e1 (oo e1 (by simp))
      have se2 := store_one' e2 (oo e2 (by simp))
      have se3 := store_one' e3 (oo e3 (by simp))
      rw [e5] at hcell
      have k0 := hcell 0 _ rfl
      have k1 := hcell 1 e0 rfl
      have k2 := hcell 2 e1 rfl
      have k3 := hcell 3 e2 rfl
      have k4 := hcell 4 e3 rfl
      simp only [Nat.add_zero] at k0
      obtain ⟨x, hx⟩ : ∃ x, t0.subs[j].n = x := ⟨_, rfl⟩
      rw [hx] at k0
      have hal := (Below.refl wr.heap.size wr).alloc (Nat.le_refl _) (.cells #[.int .i64 x, e0, e1, e2, e3] 47)
      have CT := Lib.hid (show Calls Try.prog 8 #[.agg #[e0, e1, e2, e3], .int .i64 100] (wr.alloc (.cells #[.int .i64 x, e0, e1, e2, e3] 47)) (SmallSays 100 t0.subs[j].t _) from small_any t0.subs[j].t 100 w.heap.size _ [e0, e1, e2, e3] (by omega) (Nat.le_trans (SZ.out wr hbe) hal.size) (hta.later (hal.mono (SZ.out wr hbe))))
      have HB2 := Lib.hid (hbe.trans (hal.mono hbe.size))
      clear hSB hta oo hcell h5 e5 hok hx hal hbe
      go_wp2_with (go_at_call 8; (with_reducible refine CT.out.mono ?_); rintro e w6 ⟨bb2, rfl, hs2', hk6⟩; clear hs2'; cases bb2)
      · go_ret
        exact ⟨rfl, HG.out.trans ((HB2.out.trans (hk6.mono HB2.out.size)).mono HG.out.size)⟩
      · go_roundw
        case rel => exact ⟨j + 1, by go_num, by omega, HB2.out.trans (hk6.mono HB2.out.size)⟩
        case measure => simp [intOf]; omega
    · have dj : decide ((j : Int) < (q : Int)) = false := by simp; omega
      have HSW := Lib.hid hbe
      clear hbe
      go_upto_region 11 with fail
      refine wp_region_held_drew (S := fun w' => Below wr.heap.size wr w') (by kernel_rfl) ((Below.refl wr.heap.size wr).drew) (fun hHeld => ?_)
      refine takeH' (i := 0) (d := 42) (v := .pointer (some ⟨w.heap.size, 0, none⟩)) rfl (by kernel_rfl) (by kernel_rfl) (by kernel_rfl) (fun _ _ _ h => h) (Or.inl ⟨by rfl, fun w' hS' => by (first | rfl | go_simp)⟩) hHeld rfl ?_
      try simp only [Act.put, List.setIfInBounds_toArray, List.set_cons_zero, List.set_cons_succ]
      refine takeH' (i := 1) (d := 43) (v := .slice A n c) rfl (by kernel_rfl) (by kernel_rfl) (by kernel_rfl) (fun _ _ _ h => h) (Or.inl ⟨by rfl, fun w' hS' => by (have hbb := RX.out w' (HSW.out.trans (hS'.mono HSW.out.size))); (have q0 := hbb.cell 0); (have q1 := hbb.cell 1); (have q2 := hbb.cell 2); (simp only [List.getElem?_toArray, List.getElem?_cons_succ, List.getElem?_cons_zero] at q0 q1 q2); (first | rfl | go_simp)⟩) hHeld rfl ?_
      try simp only [Act.put, List.setIfInBounds_toArray, List.set_cons_zero, List.set_cons_succ]
      refine takeH' (i := 2) (d := 44) (v := .pointer (some ⟨w.heap.size, 1, none⟩)) rfl (by kernel_rfl) (by kernel_rfl) (by kernel_rfl) (fun _ _ _ h => h) (Or.inl ⟨by rfl, fun w' hS' => by (first | rfl | go_simp)⟩) hHeld rfl ?_
      try simp only [Act.put, List.setIfInBounds_toArray, List.set_cons_zero, List.set_cons_succ]
      refine takeH' (i := 3) (d := 45) (v := .slice A' m c') rfl (by kernel_rfl) (by kernel_rfl) (by kernel_rfl) (fun _ _ _ h => h) (Or.inl ⟨by rfl, fun w' hS' => by (have hbb := RX.out w' (HSW.out.trans (hS'.mono HSW.out.size))); (have q0 := hbb.cell 0); (have q1 := hbb.cell 1); (have q2 := hbb.cell 2); (simp only [List.getElem?_toArray, List.getElem?_cons_succ, List.getElem?_cons_zero] at q0 q1 q2); (first | rfl | go_simp)⟩) hHeld rfl ?_
      try simp only [Act.put, List.setIfInBounds_toArray, List.set_cons_zero, List.set_cons_succ]
      refine takeH' (i := 4) (d := 46) (v := .agg #[b0, b1, b2, b3]) rfl (by kernel_rfl) (by kernel_rfl) (by kernel_rfl) (fun _ _ _ h => h) (Or.inl ⟨by rfl, fun w' hS' => by (have hbb := RB.out w' (HSW.out.trans (hS'.mono HSW.out.size))); (have q0 := hbb.cell 0); (have q1 := hbb.cell 1); (have q2 := hbb.cell 2); (have q3 := hbb.cell 3); (simp only [List.getElem?_toArray, List.getElem?_cons_succ, List.getElem?_cons_zero] at q0 q1 q2 q3); (first | rfl | go_simp)⟩) hHeld rfl ?_
      try simp only [Act.put, List.setIfInBounds_toArray, List.set_cons_zero, List.set_cons_succ]
      refine takeH' (i := 6) (d := 48) (v := .pointer (some ⟨w.heap.size, 0, none⟩)) rfl (by kernel_rfl) (by kernel_rfl) (by kernel_rfl) (fun _ _ _ h => h) (Or.inl ⟨by rfl, fun w' hS' => by (first | rfl | go_simp)⟩) hHeld rfl ?_
      try simp only [Act.put, List.setIfInBounds_toArray, List.set_cons_zero, List.set_cons_succ]
      refine takeH' (i := 7) (d := 49) (v := .slice A n c) rfl (by kernel_rfl) (by kernel_rfl) (by kernel_rfl) (fun _ _ _ h => h) (Or.inl ⟨by rfl, fun w' hS' => by (have hbb := RX.out w' (HSW.out.trans (hS'.mono HSW.out.size))); (have q0 := hbb.cell 0); (have q1 := hbb.cell 1); (have q2 := hbb.cell 2); (simp only [List.getElem?_toArray, List.getElem?_cons_succ, List.getElem?_cons_zero] at q0 q1 q2); (first | rfl | go_simp)⟩) hHeld rfl ?_
      try simp only [Act.put, List.setIfInBounds_toArray, List.set_cons_zero, List.set_cons_succ]
      refine takeH' (i := 8) (d := 50) (v := .pointer (some ⟨w.heap.size, 1, none⟩)) rfl (by kernel_rfl) (by kernel_rfl) (by kernel_rfl) (fun _ _ _ h => h) (Or.inl ⟨by rfl, fun w' hS' => by (first | rfl | go_simp)⟩) hHeld rfl ?_
      try simp only [Act.put, List.setIfInBounds_toArray, List.set_cons_zero, List.set_cons_succ]
      refine takeH' (i := 9) (d := 51) (v := .slice A' m c') rfl (by kernel_rfl) (by kernel_rfl) (by kernel_rfl) (fun _ _ _ h => h) (Or.inl ⟨by rfl, fun w' hS' => by (have hbb := RX.out w' (HSW.out.trans (hS'.mono HSW.out.size))); (have q0 := hbb.cell 0); (have q1 := hbb.cell 1); (have q2 := hbb.cell 2); (simp only [List.getElem?_toArray, List.getElem?_cons_succ, List.getElem?_cons_zero] at q0 q1 q2); (first | rfl | go_simp)⟩) hHeld rfl ?_
      try simp only [Act.put, List.setIfInBounds_toArray, List.set_cons_zero, List.set_cons_succ]
      refine takeH' (i := 10) (d := 52) (v := .agg #[b0, b1, b2, b3]) rfl (by kernel_rfl) (by kernel_rfl) (by kernel_rfl) (fun _ _ _ h => h) (Or.inl ⟨by rfl, fun w' hS' => by (have hbb := RB.out w' (HSW.out.trans (hS'.mono HSW.out.size))); (have q0 := hbb.cell 0); (have q1 := hbb.cell 1); (have q2 := hbb.cell 2); (have q3 := hbb.cell 3); (simp only [List.getElem?_toArray, List.getElem?_cons_succ, List.getElem?_cons_zero] at q0 q1 q2 q3); (first | rfl | go_simp)⟩) hHeld rfl ?_
      try simp only [Act.put, List.setIfInBounds_toArray, List.set_cons_zero, List.set_cons_succ]
      refine wpAnyH_ready (rs := [5]) (by kernel_rfl) (by simp) ?_
      refine AllReadyH.cons rfl (fun K hK => ?_) AllReadyH.nil
      try go_simp
      have hTT := (HSW.out.trans ((((Below.refl wr.heap.size wr).drew)).mono HSW.out.size))
      refine (put_any t0.names t0.ts t1 A A' n c m c' w.heap.size L wr.drew [b0, b1, b2, b3] (SZ.out _ hTT) HN.out hc1 (by omega) ((RN.out _ hTT).more (SZ.out _ hTT)) HNS.out HM.out (by omega) (TS.out _ hTT) (by omega) (TB.out _ hTT)).mono ?_
      rintro e v7 hp
      obtain ⟨f0, f1, f2, f3, rfl, htf, of, hbn⟩ := hp.plain
      have hSv7 : Below wr.heap.size wr v7 := (((Below.refl wr.heap.size wr).drew)).trans (hbn.mono (by have := (((Below.refl wr.heap.size wr).drew)).size; omega))
      clear hTT
      clear hbn
      go_wp2_with fail
      refine hK.out _ _ hSv7 (fun hHeld => ?_)
      clear hK K
      try simp only [Act.put, List.setIfInBounds_toArray, List.set_cons_zero, List.set_cons_succ]
      refine wpAnyH_ready (rs := [11]) (by kernel_rfl) (by simp) ?_
      refine AllReadyH.cons rfl (fun K hK => ?_) AllReadyH.nil
      try go_simp
      have hTT := (HSW.out.trans ((hSv7).mono HSW.out.size))
      refine (rput_any t0.names t0.ts A A' n c m c' w.heap.size L HN.out (by omega) HM.out (by omega) t1.nodes t1 (Nat.le_refl _) (by omega) v7 [b0, b1, b2, b3] (SZ.out _ hTT) (RN.out _ hTT) (TS.out _ hTT) (TB.out _ hTT)).mono ?_
      rintro e v8 hp
      obtain ⟨h0, h1, h2, h3, rfl, hth, oh, hbn⟩ := hp.plain
      have hSv8 : Below wr.heap.size wr v8 := (hSv7).trans (hbn.mono (by have := (hSv7).size; omega))
      clear hTT
      have htf := (htf.later hbn).more hbn.size
      clear hbn
      go_wp2_with fail
      refine hK.out _ _ hSv8 (fun hHeld => ?_)
      clear hK K
      try simp only [Act.put, List.setIfInBounds_toArray, List.set_cons_zero, List.set_cons_succ]
      refine wpAnyH_ready (rs := [12]) (by kernel_rfl) (by simp) ?_
      refine AllReadyH.cons rfl (fun K hK => ?_) AllReadyH.nil
      try go_simp
      have hTT := (HSW.out.trans ((hSv8).mono HSW.out.size))
      refine (show Calls Try.prog 12 #[.agg #[f0, f1, f2, f3], .agg #[h0, h1, h2, h3]] v8 (fun e w' => e = .returned (.bool true) ∧ Below (v8).heap.size v8 w') by have hh := rsametype_any (Ty.nodes (t1.repl (putF t0.names t0.ts))) (t1.repl (putF t0.names t0.ts)) (t1.repl (putF t0.names t0.ts)) (Nat.le_refl _) (v8).heap.size v8 [f0, f1, f2, f3] [h0, h1, h2, h3] (Nat.le_refl _) htf hth; rw [tySame_self _ (t1.repl (putF t0.names t0.ts)) (Nat.le_refl _)] at hh; exact hh).mono ?_
      rintro e v9 ⟨rfl, hbn⟩
      have hSv9 : Below wr.heap.size wr v9 := (hSv8).trans (hbn.mono (by have := (hSv8).size; omega))
      clear hTT
      clear hbn
      go_wp2_with fail
      refine hK.out _ _ hSv9 (fun hHeld => ?_)
      clear hK K
      try simp only [Act.put, List.setIfInBounds_toArray, List.set_cons_zero, List.set_cons_succ]
      refine takeH' (i := 13) (d := 55) (v := .bool true) rfl (by kernel_rfl) (by kernel_rfl) (by kernel_rfl) (fun _ _ _ h => h) (Or.inl ⟨by rfl, fun w' hS' => by (first | rfl | go_simp)⟩) hHeld rfl ?_
      try simp only [Act.put, List.setIfInBounds_toArray, List.set_cons_zero, List.set_cons_succ]
      refine takeH' (i := 14) (d := 56) (v := .pointer (some ⟨w.heap.size, 2, none⟩)) rfl (by kernel_rfl) (by kernel_rfl) (by kernel_rfl) (fun _ _ _ h => h) (Or.inl ⟨by rfl, fun w' hS' => by (first | rfl | go_simp)⟩) hHeld rfl ?_
      try simp only [Act.put, List.setIfInBounds_toArray, List.set_cons_zero, List.set_cons_succ]
      refine takeH' (i := 15) (d := 57) (v := .slice A'' q c'') rfl (by kernel_rfl) (by kernel_rfl) (by kernel_rfl) (fun _ _ _ h => h) (Or.inl ⟨by rfl, fun w' hS' => by (have hbb := RX.out w' (HSW.out.trans (hS'.mono HSW.out.size))); (have q0 := hbb.cell 0); (have q1 := hbb.cell 1); (have q2 := hbb.cell 2); (simp only [List.getElem?_toArray, List.getElem?_cons_succ, List.getElem?_cons_zero] at q0 q1 q2); (first | rfl | go_simp)⟩) hHeld rfl ?_
      try simp only [Act.put, List.setIfInBounds_toArray, List.set_cons_zero, List.set_cons_succ]
      refine takeH' (i := 16) (d := 58) (v := .agg #[b0, b1, b2, b3]) rfl (by kernel_rfl) (by kernel_rfl) (by kernel_rfl) (fun _ _ _ h => h) (Or.inl ⟨by rfl, fun w' hS' => by (have hbb := RB.out w' (HSW.out.trans (hS'.mono HSW.out.size))); (have q0 := hbb.cell 0); (have q1 := hbb.cell 1); (have q2 := hbb.cell 2); (have q3 := hbb.cell 3); (simp only [List.getElem?_toArray, List.getElem?_cons_succ, List.getElem?_cons_zero] at q0 q1 q2 q3); (first | rfl | go_simp)⟩) hHeld rfl ?_
      try simp only [Act.put, List.setIfInBounds_toArray, List.set_cons_zero, List.set_cons_succ]
      refine takeH' (i := 18) (d := 60) (v := .pointer (some ⟨w.heap.size, 2, none⟩)) rfl (by kernel_rfl) (by kernel_rfl) (by kernel_rfl) (fun _ _ _ h => h) (Or.inl ⟨by rfl, fun w' hS' => by (first | rfl | go_simp)⟩) hHeld rfl ?_
      try simp only [Act.put, List.setIfInBounds_toArray, List.set_cons_zero, List.set_cons_succ]
      refine takeH' (i := 19) (d := 61) (v := .slice A'' q c'') rfl (by kernel_rfl) (by kernel_rfl) (by kernel_rfl) (fun _ _ _ h => h) (Or.inl ⟨by rfl, fun w' hS' => by (have hbb := RX.out w' (HSW.out.trans (hS'.mono HSW.out.size))); (have q0 := hbb.cell 0); (have q1 := hbb.cell 1); (have q2 := hbb.cell 2); (simp only [List.getElem?_toArray, List.getElem?_cons_succ, List.getElem?_cons_zero] at q0 q1 q2); (first | rfl | go_simp)⟩) hHeld rfl ?_
      try simp only [Act.put, List.setIfInBounds_toArray, List.set_cons_zero, List.set_cons_succ]
      refine takeH' (i := 20) (d := 62) (v := .agg #[b0, b1, b2, b3]) rfl (by kernel_rfl) (by kernel_rfl) (by kernel_rfl) (fun _ _ _ h => h) (Or.inl ⟨by rfl, fun w' hS' => by (have hbb := RB.out w' (HSW.out.trans (hS'.mono HSW.out.size))); (have q0 := hbb.cell 0); (have q1 := hbb.cell 1); (have q2 := hbb.cell 2); (have q3 := hbb.cell 3); (simp only [List.getElem?_toArray, List.getElem?_cons_succ, List.getElem?_cons_zero] at q0 q1 q2 q3); (first | rfl | go_simp)⟩) hHeld rfl ?_
      try simp only [Act.put, List.setIfInBounds_toArray, List.set_cons_zero, List.set_cons_succ]
      refine wpAnyH_ready (rs := [17]) (by kernel_rfl) (by simp) ?_
      refine AllReadyH.cons rfl (fun K hK => ?_) AllReadyH.nil
      try go_simp
      have hTT := (HSW.out.trans ((hSv9).mono HSW.out.size))
      refine (apply_any t0.subs t1 A'' q c'' w.heap.size L' v9 [b0, b1, b2, b3] (SZ.out _ hTT) HQ.out hs1 (by omega) (SB.out _ hTT) (by omega) (TB.out _ hTT)).mono ?_
      rintro e v10 hp
      obtain ⟨f0, f1, f2, f3, rfl, htf, of, hbn⟩ := hp.plain
      have hSv10 : Below wr.heap.size wr v10 := (hSv9).trans (hbn.mono (by have := (hSv9).size; omega))
      clear hTT
      clear hbn
      go_wp2_with fail
      refine hK.out _ _ hSv10 (fun hHeld => ?_)
      clear hK K
      try simp only [Act.put, List.setIfInBounds_toArray, List.set_cons_zero, List.set_cons_succ]
      refine wpAnyH_ready (rs := [21]) (by kernel_rfl) (by simp) ?_
      refine AllReadyH.cons rfl (fun K hK => ?_) AllReadyH.nil
      try go_simp
      have hTT := (HSW.out.trans ((hSv10).mono HSW.out.size))
      refine (rapply_any t0.subs A'' q c'' w.heap.size L' HQ.out (by omega) t1.nodes t1 (Nat.le_refl _) (by omega) v10 [b0, b1, b2, b3] (SZ.out _ hTT) (SB.out _ hTT) (TB.out _ hTT)).mono ?_
      rintro e v11 hp
      obtain ⟨h0, h1, h2, h3, rfl, hth, oh, hbn⟩ := hp.plain
      have hSv11 : Below wr.heap.size wr v11 := (hSv10).trans (hbn.mono (by have := (hSv10).size; omega))
      clear hTT
      have htf := (htf.later hbn).more hbn.size
      clear hbn
      go_wp2_with fail
      refine hK.out _ _ hSv11 (fun hHeld => ?_)
      clear hK K
      try simp only [Act.put, List.setIfInBounds_toArray, List.set_cons_zero, List.set_cons_succ]
      refine wpAnyH_ready (rs := [22]) (by kernel_rfl) (by simp) ?_
      refine AllReadyH.cons rfl (fun K hK => ?_) AllReadyH.nil
      try go_simp
      have hTT := (HSW.out.trans ((hSv11).mono HSW.out.size))
      refine (show Calls Try.prog 12 #[.agg #[f0, f1, f2, f3], .agg #[h0, h1, h2, h3]] v11 (fun e w' => e = .returned (.bool true) ∧ Below (v11).heap.size v11 w') by have hh := rsametype_any (Ty.nodes (t1.repl (appF t0.subs))) (t1.repl (appF t0.subs)) (t1.repl (appF t0.subs)) (Nat.le_refl _) (v11).heap.size v11 [f0, f1, f2, f3] [h0, h1, h2, h3] (Nat.le_refl _) htf hth; rw [tySame_self _ (t1.repl (appF t0.subs)) (Nat.le_refl _)] at hh; exact hh).mono ?_
      rintro e v12 ⟨rfl, hbn⟩
      have hSv12 : Below wr.heap.size wr v12 := (hSv11).trans (hbn.mono (by have := (hSv11).size; omega))
      clear hTT
      clear hbn
      go_wp2_with fail
      refine hK.out _ _ hSv12 (fun hHeld => ?_)
      clear hK K
      try simp only [Act.put, List.setIfInBounds_toArray, List.set_cons_zero, List.set_cons_succ]
      refine takeH' (i := 23) (d := 65) (v := .bool true) rfl (by kernel_rfl) (by kernel_rfl) (by kernel_rfl) (fun _ _ _ h => h) (Or.inl ⟨by rfl, fun w' hS' => by (first | rfl | go_simp)⟩) hHeld rfl ?_
      try simp only [Act.put, List.setIfInBounds_toArray, List.set_cons_zero, List.set_cons_succ]
      refine takeH' (i := 24) (d := 4) (v := .bool true) rfl (by kernel_rfl) (by kernel_rfl) (by kernel_rfl) (fun _ _ _ h => h) (Or.inl ⟨by rfl, fun w' hS' => by (first | rfl | go_simp)⟩) hHeld rfl ?_
      try simp only [Act.put, List.setIfInBounds_toArray, List.set_cons_zero, List.set_cons_succ]
      refine wpAnyH_done (by kernel_rfl) ?_ _
      have HEND := Lib.hid (HG.out.trans ((HSW.out.trans ((hSv12).mono HSW.out.size)).mono HG.out.size))
      go_wp2_with fail
      go_ret
      exact ⟨rfl, HEND.out⟩

set_option maxRecDepth 100000 in
theorem lifted (os : Os) (started : os.Started) (H : Type) (enc : TypeId × Value → H) :
    ReturnsInHanded {} Try.checked os 4 .any (Rows.typesPutSpec.pre6 enc Try.prog Try.f4 Rows.typesPutRow.domain false) (Rows.typesPutSpec.post enc Try.prog Try.f4 false true false false) := by
  refine returnsInHanded_of_change_sized (C := Try.checked) own started (by kernel_rfl) Try.func4
    (ChangeSpec.witness6 (enc := enc) (C := Try.checked) false ⟨#[], #[.agg #[.slice none 0 0, .slice none 0 0, .slice none 0 0], .agg #[.int .i64 0, .string ⟨#[]⟩, .int .i64 0, .slice none 0 0]], []⟩ 8 (by kernel_rfl) (by kernel_rfl) (by kernel_rfl) (by kernel_rfl)) ?_
  intro W base args ds gs before hval0 hW hcnd hsz0 _
  have hsz : (DataW.weightsEach Try.prog (Try.f4.params.toList ++ Rows.typesPutSpec.plain.varTypes Try.prog) (ds ++ gs)).all (· ≤ reachBytes) = true := hsz0
  rw [Try.params4] at hsz
  clear hsz0
  have hval : ∀ (j : Nat) t v, Try.f4.params[j]? = some t → args[j]? = some v → Value.okWide Try.prog W .any base t v := hval0
  have hW' := hW
  obtain ⟨p, q, hA0, hV, rfl, hfz, hnd⟩ := hW
  have hA : DataW.TrodAll enc Try.prog W 0 (fun _ => true) true Try.f4.params.toList args.toList ds p := hA0
  rw [Try.params4] at hA hval
  obtain ⟨v0, vs0, d0, ds0, p0, q0, hargs, rfl, rfl, h0, r0⟩ := trodAll_cons hA
  obtain ⟨v1, vs1, d1, ds1, p1, q1, rfl, rfl, rfl, h1, r1⟩ := trodAll_cons r0
  obtain ⟨rfl, rfl, rfl⟩ := trodAll_nil r1
  obtain rfl : args = #[v0, v1] := by cases args; simp_all
  obtain ⟨rfl, rfl⟩ := trodVars_none hV
  have k0 := h0
  have lt0 : ∀ x ∈ p0, x.block < W.heap.size := by obtain ⟨m, hm⟩ := k0; exact DataW.trod_lt m _ _ _ hm
  obtain ⟨y0, rfl, _⟩ := okWide_struct Try.underlying44 (hval 0 44 v0 rfl rfl)
  obtain ⟨x0, t0, w0, rfl⟩ : ∃ xs t, TnAt W W.heap.size xs t ∧ y0 = xs.toArray := by
    obtain ⟨fuel, hf⟩ := h0
    obtain ⟨t, ht⟩ := open_tn fuel _ _ hf (fits_param hsz (j := 0) rfl rfl)
    exact ⟨y0.toList, t, ht, by simp⟩
  have k1 := h1
  have lt1 : ∀ x ∈ p1, x.block < W.heap.size := by obtain ⟨m, hm⟩ := k1; exact DataW.trod_lt m _ _ _ hm
  obtain ⟨y1, rfl, _⟩ := okWide_struct Try.underlying24 (hval 1 24 v1 rfl rfl)
  obtain ⟨x1, t1, w1, rfl⟩ : ∃ xs t, TyAt W W.heap.size xs t ∧ y1 = xs.toArray := by
    obtain ⟨fuel, hf⟩ := h1
    obtain ⟨t, ht⟩ := open_ty fuel _ _ hf (fits_param hsz (j := 1) rfl rfl)
    exact ⟨y1.toList, t, ht, by simp⟩
  clear hA0 hval0
  refine (walk x0 t0 x1 t1 W w0 w1).mono fun e W' ⟨he, bel⟩ => ?_
  subst he
  exact ⟨_, rfl, _, _, _, [], _, [], hW', trodAll_mk1 (shut_bool Try.underlying4 _), (trodAll_cons_mk (Below.trod laidOut (by kernel_rfl) (of_decide_eq_true (by kernel_rfl)) k0 bel lt0) (trodAll_cons_mk (Below.trod laidOut (by kernel_rfl) (of_decide_eq_true (by kernel_rfl)) k1 bel lt1) trodAll_mk0)), rfl, bel.frame _, fun h => by cases h⟩

theorem over : Rows.typesPutRow.holds Try.pinned (OpenSpec.ofChange Rows.typesPutSpec) :=
  OpenClaim.holds_of_wide 4 Try.f4 rfl rfl rfl rfl rfl rfl rfl ⟨rfl, rfl, rfl, rfl, rfl⟩ rfl rfl rfl rfl rfl (by kernel_rfl) Try.func4 (by kernel_rfl)
    (of_decide_eq_true (by kernel_rfl)) (by unfold Func.isWrapper; first | (rw [if_pos (by decide +kernel)]; kernel_rfl) | (rw [if_neg (by decide +kernel)]; exact ⟨rfl, rfl⟩))
    (fun os started H enc _ => lifted os started H enc)

/-- The statement. -/
theorem proved : Rows.TypesPutSaid := over
#print axioms proved
end Go.Proofs.Ytihdhdmpmmlfcaa.typesPut
