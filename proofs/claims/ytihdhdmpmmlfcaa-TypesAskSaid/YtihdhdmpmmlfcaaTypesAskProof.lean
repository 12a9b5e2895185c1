/-
  The law 'TypesAsk' of the document's layer returns true for every input, and leaves what it was given as it was. No condition.
-/
import Derived.Test.YtihdhdmpmmlfcaaRows
import Derived.WalkKit
import Derived.ProofKit
import Derived.OpenShut
import Derived.ShutString
import Derived.ChangeOld
import Derived.Below
import Derived.Carry
import Derived.Lib.SmallJoins
import Derived.SliceStrings
import Derived.Test.YtihdhdmpmmlfcaaQop
import Derived.Test.YtihdhdmpmmlfcaaQaw
import Derived.Test.YtihdhdmpmmlfcaaQsm
import Derived.Test.YtihdhdmpmmlfcaaQab
import Derived.Test.YtihdhdmpmmlfcaaQac
import Derived.Test.YtihdhdmpmmlfcaaQcp
namespace Go.Proofs.Ytihdhdmpmmlfcaa.typesAsk
open Go.Proofs.Ytihdhdmpmmlfcaa
open Go.ChangeShapes Go.WideShapes Go.ChangeAt Go.RowKit Go.Joins
open Go.ChangeMaps (open_string shut_string)
set_option linter.unusedVariables false

theorem own : ownKnob Try.prog.godebug = none := by kernel_rfl
theorem laidOut : laidOutB Try.prog = true := by kernel_rfl

theorem nmEq_self (a : ByteArray) : nmEq a a = true := by simp [nmEq]
theorem texts_self : ∀ l : List ByteArray, textsS l l = true
  | [] => rfl
  | a :: l => by simp only [textsS]; rw [nmEq_self, texts_self l]; rfl
theorem tySame_self (N : Nat) : ∀ t : Ty, t.nodes ≤ N → tySame t t = true := by
  induction N with
  | zero => intro t h; cases t; unfold Ty.nodes at h; omega
  | succ N ih =>
    intro t h
    cases t with
    | mk k nm n ks =>
    unfold Ty.nodes at h
    have := tys_yes ks ks rfl (fun j h1 h2 => ih _ (by have := tys_mem ks ks[j] (List.getElem_mem h1); omega))
    rw [tySame, this]; simp
theorem tysSame_self (l : List Ty) : (l.length == l.length && tysSame l l) = true := by
  rw [tys_yes l l rfl (fun j h1 h2 => tySame_self _ _ (Nat.le_refl _))]; simp
theorem nodes_two (t u : Ty) (k n : Int) (nm : ByteArray) : (Ty.mk k nm n [t, u]).nodes = 1 + t.nodes + u.nodes := by simp [Ty.nodes, tysNodes]; omega
abbrev nmPair : ByteArray := ⟨#[80, 97, 105, 114]⟩
/-- Two in a row: as a call meets them. -/
theorem pair_row (W : World) (B : Nat) (cs ds : List Value) (t u : Ty) (hB : B ≤ W.heap.size) (ht : TyAt W B cs t) (hu : TyAt W B ds u) : Row (W.alloc (.cells (cs ++ ds).toArray 24)) (W.heap.size + 1) 4 (some ⟨W.heap.size, 0, none⟩) 2 [cs, ds] ∧ TsAt (W.alloc (.cells (cs ++ ds).toArray 24)) B [t, u] [cs, ds] :=
  ⟨row_two W cs ds ht.four hu.four _, (TsAt.one (ht.later (((Below.refl W.heap.size W).alloc (Nat.le_refl _) _).mono hB))).app (TsAt.one (hu.later (((Below.refl W.heap.size W).alloc (Nat.le_refl _) _).mono hB)))⟩
theorem metas_len (t : Ty) : (metasT t).length ≤ t.nodes := by
  have h1 := joinI_len (metL t.all) []
  have h2 := metL_len t.all
  rw [all_len] at h2
  unfold metasT
  simp only [List.length_nil] at h1
  omega
set_option linter.unusedSimpArgs false
set_option maxRecDepth 100000 in
set_option maxHeartbeats 12800000 in
theorem walk (x0 : List Value) (t0 : Ty) (x1 : List Value) (t1 : Ty) (w : World) (w0 : TyAt w w.heap.size x0 t0) (w1 : TyAt w w.heap.size x1 t1) :
    Calls Try.prog 3 #[.agg x0.toArray, .agg x1.toArray] w fun e w' => e = .returned (.bool true) ∧ Below w.heap.size w w' := by
  have o0 := ty_ones w0
  have o1 := ty_ones w1
  obtain ⟨a0, a1, a2, a3, rfl⟩ := four_of w0.four
  obtain ⟨b0, b1, b2, b3, rfl⟩ := four_of w1.four
  have sa0 := store_one' a0 (o0 a0 (by simp))
  have sa1 := store_one' a1 (o0 a1 (by simp))
  have sa2 := store_one' a2 (o0 a2 (by simp))
  have sa3 := store_one' a3 (o0 a3 (by simp))
  have sb0 := store_one' b0 (o1 b0 (by simp))
  have sb1 := store_one' b1 (o1 b1 (by simp))
  have sb2 := store_one' b2 (o1 b2 (by simp))
  have sb3 := store_one' b3 (o1 b3 (by simp))
  obtain ⟨W2, hW2⟩ : ∃ W2, (w.alloc (.cells #[a0, a1, a2, a3] 24)).alloc (.cells #[b0, b1, b2, b3] 24) = W2 := ⟨_, rfl⟩
  have hg : Below w.heap.size w W2 := by rw [← hW2]; exact ((Below.refl _ _).alloc (Nat.le_refl _) _).alloc (by simp) _
  have hba : Blk W2 w.heap.size 24 #[a0, a1, a2, a3] := by rw [← hW2]; exact (Blk.new _ _ _).alloc _
  have hbb : Blk W2 (w.heap.size + 1) 24 #[b0, b1, b2, b3] := by rw [← hW2]; have := Blk.new (w.alloc (.cells #[a0, a1, a2, a3] 24)) 24 #[b0, b1, b2, b3]; simpa using this
  have hta := w0.later hg
  have htb := w1.later hg
  have HW := Lib.hid hW2
  have HG := Lib.hid hg
  have RA := Lib.hid (fun (W : World) (h : Below W2.heap.size W2 W) => hba.below h hba.lt)
  have RB := Lib.hid (fun (W : World) (h : Below W2.heap.size W2 W) => hbb.below h hbb.lt)
  have TA := Lib.hid (fun (W : World) (h : Below W2.heap.size W2 W) => hta.later (h.mono hg.size))
  have TB := Lib.hid (fun (W : World) (h : Below W2.heap.size W2 W) => htb.later (h.mono hg.size))
  have SZ := Lib.hid (fun (W : World) (h : Below W2.heap.size W2 W) => Nat.le_trans hg.size h.size)
  have CS0 := Lib.hid (fun (W : World) (h : Below W2.heap.size W2 W) => show Calls Try.prog 8 #[.agg #[a0, a1, a2, a3], .int .i64 200] W (SmallSays 200 t0 W) from small_any t0 200 w.heap.size W [a0, a1, a2, a3] (by omega) (Nat.le_trans hg.size h.size) (hta.later (h.mono hg.size)))
  have CS1 := Lib.hid (fun (W : World) (h : Below W2.heap.size W2 W) => show Calls Try.prog 8 #[.agg #[b0, b1, b2, b3], .int .i64 200] W (SmallSays 200 t1 W) from small_any t1 200 w.heap.size W [b0, b1, b2, b3] (by omega) (Nat.le_trans hg.size h.size) (htb.later (h.mono hg.size)))
  have CA := Lib.hid (fun W => awake_any W)
  have hmx : Try.prog.follows .mixedOrders = true := by kernel_rfl
  have p0 := hba.cell 0
  have p1 := hba.cell 1
  have p2 := hba.cell 2
  have p3 := hba.cell 3
  simp only [zTy, List.getElem?_toArray, List.getElem?_cons_succ, List.getElem?_cons_zero] at p0 p1 p2 p3
  have q0 := hbb.cell 0
  have q1 := hbb.cell 1
  have q2 := hbb.cell 2
  have q3 := hbb.cell 3
  simp only [zTy, List.getElem?_toArray, List.getElem?_cons_succ, List.getElem?_cons_zero] at q0 q1 q2 q3
  clear hW2 hg hba hbb hta htb w0 w1 o0 o1
  go_enter Try.func3, Try.ntmps3
  go_upto_region 3 with (go_at_call 7; rw [HW.out]; (with_reducible refine (CA.out _).mono ?_); rintro e w2 ⟨rfl, hk2⟩; (have pa2 := RA.out w2 hk2); (have p0 := pa2.cell 0); (have p1 := pa2.cell 1); (have p2 := pa2.cell 2); (have p3 := pa2.cell 3); (simp only [zTy, List.getElem?_toArray, List.getElem?_cons_succ, List.getElem?_cons_zero] at p0 p1 p2 p3); (have pb2 := RB.out w2 hk2); (have q0 := pb2.cell 0); (have q1 := pb2.cell 1); (have q2 := pb2.cell 2); (have q3 := pb2.cell 3); (simp only [zTy, List.getElem?_toArray, List.getElem?_cons_succ, List.getElem?_cons_zero] at q0 q1 q2 q3))
  have C0 := Lib.hid (CS0.out w2 hk2)
  go_wp2_with (go_at_call 8; (with_reducible refine C0.out.mono ?_); rintro e w3 ⟨bb0, rfl, hs0, hk3⟩; (have hK3 := hk2.trans (hk3.mono hk2.size)); (have HS0 := Lib.hid hs0); clear hs0 C0; (have pa3 := RA.out w3 hK3); (have p0 := pa3.cell 0); (have p1 := pa3.cell 1); (have p2 := pa3.cell 2); (have p3 := pa3.cell 3); (simp only [zTy, List.getElem?_toArray, List.getElem?_cons_succ, List.getElem?_cons_zero] at p0 p1 p2 p3); (have pb3 := RB.out w3 hK3); (have q0 := pb3.cell 0); (have q1 := pb3.cell 1); (have q2 := pb3.cell 2); (have q3 := pb3.cell 3); (simp only [zTy, List.getElem?_toArray, List.getElem?_cons_succ, List.getElem?_cons_zero] at q0 q1 q2 q3); (have C1 := Lib.hid (CS1.out w3 hK3)); cases bb0)
  · go_wp2_with fail
    go_ret
    exact ⟨rfl, HG.out.trans (hK3.mono HG.out.size)⟩
  have hn0 : t0.nodes ≤ 200 := (HS0.out trivial).1
  go_wp2_with (go_at_call 8; (with_reducible refine C1.out.mono ?_); rintro e w4 ⟨bb1, rfl, hs1, hk4⟩; (have hK4 := hK3.trans (hk4.mono hK3.size)); (have HS1 := Lib.hid hs1); clear hs1 C1; (have pa4 := RA.out w4 hK4); (have p0 := pa4.cell 0); (have p1 := pa4.cell 1); (have p2 := pa4.cell 2); (have p3 := pa4.cell 3); (simp only [zTy, List.getElem?_toArray, List.getElem?_cons_succ, List.getElem?_cons_zero] at p0 p1 p2 p3); (have pb4 := RB.out w4 hK4); (have q0 := pb4.cell 0); (have q1 := pb4.cell 1); (have q2 := pb4.cell 2); (have q3 := pb4.cell 3); (simp only [zTy, List.getElem?_toArray, List.getElem?_cons_succ, List.getElem?_cons_zero] at q0 q1 q2 q3); cases bb1)
  · go_wp2_with fail
    go_ret
    exact ⟨rfl, HG.out.trans (hK4.mono HG.out.size)⟩
  have hn1 : t1.nodes ≤ 200 := (HS1.out trivial).1
  obtain ⟨al, xx, har, hasl⟩ := args_ex t0.nodes t0 (Nat.le_refl _)
  have HAR := Lib.hid har
  have C5 := Lib.hid (pargs_any har (by omega) w.heap.size w4 [a0, a1, a2, a3] (SZ.out w4 hK4) (TA.out w4 hK4))
  go_upto_region 6 with (go_at_call 9; (with_reducible refine C5.out.mono ?_); rintro e w5 ⟨v5, cs5, L5, rfl, ho5, hts5, hty5, hk5⟩; (obtain ⟨x0, x1, x2, x3, rfl⟩ := four_of (TyAt.four hty5)); (have ox := ty_ones hty5); (have sx0 := store_one' x0 (ox x0 (by simp))); (have sx1 := store_one' x1 (ox x1 (by simp))); (have sx2 := store_one' x2 (ox x2 (by simp))); (have sx3 := store_one' x3 (ox x3 (by simp))); (obtain ⟨Aa, ca, rfl, _, _, htysa⟩ := own_tys ho5 hts5 (by have := SZ.out w4 hK4; have := hk5.size; omega)))
  obtain ⟨W0, hW0⟩ : ∃ W0, w5.alloc (.cells #[x0, x1, x2, x3] 24) = W0 := ⟨_, rfl⟩
  rw [hW0]
  have hk50 : Below w5.heap.size w5 W0 := by rw [← hW0]; exact (Below.refl _ _).alloc (Nat.le_refl _) _
  have hbx0 : Blk W0 w5.heap.size 24 #[x0, x1, x2, x3] := by rw [← hW0]; exact Blk.new _ _ _
  have HSW := Lib.hid (show Below W2.heap.size W2 W0 from hK4.trans ((hk5.trans (hk50.mono hk5.size)).mono hK4.size))
  have HTX := Lib.hid ((hty5.plain.later hk50).more hk50.size)
  have HTR := Lib.hid (show TysAt W0 W0.heap.size Aa al L5 from ⟨(htysa.row.keep fun p hp => hk50.cell hp).more hk50.size, fun i h1 h2 => ((htysa.each i h1 h2).later hk50).more hk50.size⟩)
  have RX := Lib.hid (fun (W : World) (h : Below W0.heap.size W0 W) => hbx0.below h hbx0.lt)
  clear hW0 hk50 hbx0 hty5 htysa ho5 hts5 har ox p0 p1 p2 p3 q0 q1 q2 q3
  refine wp_region_held_drew (S := fun w' => Below W0.heap.size W0 w') (by kernel_rfl) ((Below.refl W0.heap.size W0).drew) (fun hHeld => ?_)
  refine takeH' (i := 0) (d := 22) (v := .slice Aa al.length ca) rfl (by kernel_rfl) (by kernel_rfl) (by kernel_rfl) (fun _ _ _ h => h) (Or.inl ⟨by rfl, fun w' hS' => by (first | rfl | go_simp)⟩) hHeld rfl ?_
  try simp only [Act.put, List.setIfInBounds_toArray, List.set_cons_zero, List.set_cons_succ]
  refine takeH' (i := 1) (d := 23) (v := .agg #[a0, a1, a2, a3]) rfl (by kernel_rfl) (by kernel_rfl) (by kernel_rfl) (fun _ _ _ h => h) (Or.inl ⟨by rfl, fun w' hS' => by (have hbb := RA.out w' (HSW.out.trans (hS'.mono HSW.out.size))); (have q0 := hbb.cell 0); (have q1 := hbb.cell 1); (have q2 := hbb.cell 2); (have q3 := hbb.cell 3); (simp only [List.getElem?_toArray, List.getElem?_cons_succ, List.getElem?_cons_zero] at q0 q1 q2 q3); (first | rfl | go_simp)⟩) hHeld rfl ?_
  try simp only [Act.put, List.setIfInBounds_toArray, List.set_cons_zero, List.set_cons_succ]
  refine wpAnyH_ready (rs := [2]) (by kernel_rfl) (by simp) ?_
  refine AllReadyH.cons rfl (fun K hK => ?_) AllReadyH.nil
  try go_simp
  have hTT := (HSW.out.trans ((((Below.refl W0.heap.size W0).drew)).mono HSW.out.size))
  refine (rargs_any HAR.out (by omega) w.heap.size W0.drew [a0, a1, a2, a3] (SZ.out _ hTT) (TA.out _ hTT)).mono ?_
  rintro e v7 ⟨vv, L2, rfl, ho2, hts2, hbn⟩
  obtain ⟨A2, c2, rfl, _, _, htys2⟩ := own_tys ho2 hts2 (by have := SZ.out _ hTT; have := hbn.size; omega)
  have hSv7 : Below W0.heap.size W0 v7 := (((Below.refl W0.heap.size W0).drew)).trans (hbn.mono (by have := (((Below.refl W0.heap.size W0).drew)).size; omega))
  clear hTT
  clear hbn
  go_wp2_with fail
  refine hK.out _ _ hSv7 (fun hHeld => ?_)
  clear hK K
  try simp only [Act.put, List.setIfInBounds_toArray, List.set_cons_zero, List.set_cons_succ]
  refine wpAnyH_ready (rs := [3]) (by kernel_rfl) (by simp) ?_
  refine AllReadyH.cons rfl (fun K hK => ?_) AllReadyH.nil
  try go_simp
  have hTT := (HSW.out.trans ((hSv7).mono HSW.out.size))
  refine (show Calls Try.prog 10 #[.slice Aa al.length ca, .slice A2 al.length c2] v7 (fun e w' => e = .returned (.bool true) ∧ Below (v7).heap.size v7 w') by have hh := rsametypes_any al al Aa A2 L5 L2 ca c2 (v7).heap.size v7 (Nat.le_refl _) ⟨(HTR.out.row.keep fun p hp => hSv7.cell hp).more hSv7.size, fun i h1 h2 => ((HTR.out.each i h1 h2).later hSv7).more hSv7.size⟩ htys2 (by unfold maxLen; omega) (fun t ht u w cs ds h1 h2 h3 => rsametype_any t.nodes t u (Nat.le_refl _) (v7).heap.size w cs ds h1 h2 h3); rw [tysSame_self] at hh; exact hh).mono ?_
  rintro e v8 ⟨rfl, hbn⟩
  have hSv8 : Below W0.heap.size W0 v8 := (hSv7).trans (hbn.mono (by have := (hSv7).size; omega))
  clear hTT
  clear hbn
  go_wp2_with fail
  refine hK.out _ _ hSv8 (fun hHeld => ?_)
  clear hK K
  try simp only [Act.put, List.setIfInBounds_toArray, List.set_cons_zero, List.set_cons_succ]
  refine takeH' (i := 4) (d := 26) (v := .bool true) rfl (by kernel_rfl) (by kernel_rfl) (by kernel_rfl) (fun _ _ _ h => h) (Or.inl ⟨by rfl, fun w' hS' => by (first | rfl | go_simp)⟩) hHeld rfl ?_
  try simp only [Act.put, List.setIfInBounds_toArray, List.set_cons_zero, List.set_cons_succ]
  refine takeH' (i := 5) (d := 27) (v := .agg #[x0, x1, x2, x3]) rfl (by kernel_rfl) (by kernel_rfl) (by kernel_rfl) (fun _ _ _ h => h) (Or.inl ⟨by rfl, fun w' hS' => by (have hbb := RX.out w' hS'); (have q0 := hbb.cell 0); (have q1 := hbb.cell 1); (have q2 := hbb.cell 2); (have q3 := hbb.cell 3); (simp only [List.getElem?_toArray, List.getElem?_cons_succ, List.getElem?_cons_zero] at q0 q1 q2 q3); (first | rfl | go_simp)⟩) hHeld rfl ?_
  try simp only [Act.put, List.setIfInBounds_toArray, List.set_cons_zero, List.set_cons_succ]
  refine takeH' (i := 6) (d := 28) (v := .agg #[a0, a1, a2, a3]) rfl (by kernel_rfl) (by kernel_rfl) (by kernel_rfl) (fun _ _ _ h => h) (Or.inl ⟨by rfl, fun w' hS' => by (have hbb := RA.out w' (HSW.out.trans (hS'.mono HSW.out.size))); (have q0 := hbb.cell 0); (have q1 := hbb.cell 1); (have q2 := hbb.cell 2); (have q3 := hbb.cell 3); (simp only [List.getElem?_toArray, List.getElem?_cons_succ, List.getElem?_cons_zero] at q0 q1 q2 q3); (first | rfl | go_simp)⟩) hHeld rfl ?_
  try simp only [Act.put, List.setIfInBounds_toArray, List.set_cons_zero, List.set_cons_succ]
  refine wpAnyH_ready (rs := [7]) (by kernel_rfl) (by simp) ?_
  refine AllReadyH.cons rfl (fun K hK => ?_) AllReadyH.nil
  try go_simp
  have hTT := (HSW.out.trans ((hSv8).mono HSW.out.size))
  refine (ranswer_any HAR.out w.heap.size v8 [a0, a1, a2, a3] (SZ.out _ hTT) (TA.out _ hTT)).mono ?_
  rintro e v9 hp
  obtain ⟨y0, y1, y2, y3, rfl, hty, oy, hbn⟩ := hp.plain
  have hSv9 : Below W0.heap.size W0 v9 := (hSv8).trans (hbn.mono (by have := (hSv8).size; omega))
  clear hTT
  clear hbn
  go_wp2_with fail
  refine hK.out _ _ hSv9 (fun hHeld => ?_)
  clear hK K
  try simp only [Act.put, List.setIfInBounds_toArray, List.set_cons_zero, List.set_cons_succ]
  refine wpAnyH_ready (rs := [8]) (by kernel_rfl) (by simp) ?_
  refine AllReadyH.cons rfl (fun K hK => ?_) AllReadyH.nil
  try go_simp
  have hTT := (HSW.out.trans ((hSv9).mono HSW.out.size))
  refine (show Calls Try.prog 12 #[.agg #[x0, x1, x2, x3], .agg #[y0, y1, y2, y3]] v9 (fun e w' => e = .returned (.bool true) ∧ Below (v9).heap.size v9 w') by have hh := rsametype_any xx.nodes xx xx (Nat.le_refl _) (v9).heap.size v9 [x0, x1, x2, x3] [y0, y1, y2, y3] (Nat.le_refl _) ((HTX.out.later hSv9).more hSv9.size) hty; rw [tySame_self _ xx (Nat.le_refl _)] at hh; exact hh).mono ?_
  rintro e v10 ⟨rfl, hbn⟩
  have hSv10 : Below W0.heap.size W0 v10 := (hSv9).trans (hbn.mono (by have := (hSv9).size; omega))
  clear hTT
  clear hbn
  go_wp2_with fail
  refine hK.out _ _ hSv10 (fun hHeld => ?_)
  clear hK K
  try simp only [Act.put, List.setIfInBounds_toArray, List.set_cons_zero, List.set_cons_succ]
  refine takeH' (i := 9) (d := 31) (v := .bool true) rfl (by kernel_rfl) (by kernel_rfl) (by kernel_rfl) (fun _ _ _ h => h) (Or.inl ⟨by rfl, fun w' hS' => by (first | rfl | go_simp)⟩) hHeld rfl ?_
  try simp only [Act.put, List.setIfInBounds_toArray, List.set_cons_zero, List.set_cons_succ]
  refine takeH' (i := 10) (d := 32) (v := .bool true) rfl (by kernel_rfl) (by kernel_rfl) (by kernel_rfl) (fun _ _ _ h => h) (Or.inl ⟨by rfl, fun w' hS' => by (first | rfl | go_simp)⟩) hHeld rfl ?_
  try simp only [Act.put, List.setIfInBounds_toArray, List.set_cons_zero, List.set_cons_succ]
  refine takeH' (i := 11) (d := 33) (v := .agg #[a0, a1, a2, a3]) rfl (by kernel_rfl) (by kernel_rfl) (by kernel_rfl) (fun _ _ _ h => h) (Or.inl ⟨by rfl, fun w' hS' => by (have hbb := RA.out w' (HSW.out.trans (hS'.mono HSW.out.size))); (have q0 := hbb.cell 0); (have q1 := hbb.cell 1); (have q2 := hbb.cell 2); (have q3 := hbb.cell 3); (simp only [List.getElem?_toArray, List.getElem?_cons_succ, List.getElem?_cons_zero] at q0 q1 q2 q3); (first | rfl | go_simp)⟩) hHeld rfl ?_
  try simp only [Act.put, List.setIfInBounds_toArray, List.set_cons_zero, List.set_cons_succ]
  refine takeH' (i := 13) (d := 35) (v := .agg #[a0, a1, a2, a3]) rfl (by kernel_rfl) (by kernel_rfl) (by kernel_rfl) (fun _ _ _ h => h) (Or.inl ⟨by rfl, fun w' hS' => by (have hbb := RA.out w' (HSW.out.trans (hS'.mono HSW.out.size))); (have q0 := hbb.cell 0); (have q1 := hbb.cell 1); (have q2 := hbb.cell 2); (have q3 := hbb.cell 3); (simp only [List.getElem?_toArray, List.getElem?_cons_succ, List.getElem?_cons_zero] at q0 q1 q2 q3); (first | rfl | go_simp)⟩) hHeld rfl ?_
  try simp only [Act.put, List.setIfInBounds_toArray, List.set_cons_zero, List.set_cons_succ]
  refine wpAnyH_ready (rs := [12]) (by kernel_rfl) (by simp) ?_
  refine AllReadyH.cons rfl (fun K hK => ?_) AllReadyH.nil
  try go_simp
  have hTT := (HSW.out.trans ((hSv10).mono HSW.out.size))
  refine (pvars_any t0 (by omega) w.heap.size v10 [a0, a1, a2, a3] (SZ.out _ hTT) (TA.out _ hTT)).mono ?_
  rintro e v11 ⟨vv, rfl, ho, hbn⟩
  obtain ⟨An, cn, rfl, hrn⟩ := own_shape ho
  have hSv11 : Below W0.heap.size W0 v11 := (hSv10).trans (hbn.mono (by have := (hSv10).size; omega))
  clear hTT
  clear hbn
  go_wp2_with fail
  refine hK.out _ _ hSv11 (fun hHeld => ?_)
  clear hK K
  try simp only [Act.put, List.setIfInBounds_toArray, List.set_cons_zero, List.set_cons_succ]
  refine wpAnyH_ready (rs := [14]) (by kernel_rfl) (by simp) ?_
  refine AllReadyH.cons rfl (fun K hK => ?_) AllReadyH.nil
  try go_simp
  have hTT := (HSW.out.trans ((hSv11).mono HSW.out.size))
  refine (rvars_any t0 (by omega) w.heap.size v11 [a0, a1, a2, a3] (SZ.out _ hTT) (TA.out _ hTT)).mono ?_
  rintro e v12 ⟨vv, rfl, ho2, hbn⟩
  obtain ⟨Am, cm, rfl, hrm⟩ := own_shape ho2
  have hSv12 : Below W0.heap.size W0 v12 := (hSv11).trans (hbn.mono (by have := (hSv11).size; omega))
  clear hTT
  have hrn := (hrn.below hbn).more hbn.size
  clear hbn
  go_wp2_with fail
  refine hK.out _ _ hSv12 (fun hHeld => ?_)
  clear hK K
  try simp only [Act.put, List.setIfInBounds_toArray, List.set_cons_zero, List.set_cons_succ]
  refine wpAnyH_ready (rs := [15]) (by kernel_rfl) (by simp) ?_
  refine AllReadyH.cons rfl (fun K hK => ?_) AllReadyH.nil
  try go_simp
  have hTT := (HSW.out.trans ((hSv12).mono HSW.out.size))
  refine (show Calls Try.prog 14 #[.slice An (varsT t0).length cn, .slice Am (varsT t0).length cm] v12 (fun e w' => e = .returned (.bool true) ∧ ∃ k, w' = (v12).drewN k) by have hh := rtexts_any (varsT t0) (varsT t0) An Am (varsT t0).length (varsT t0).length cn cm (v12).heap.size v12 (by have := vars_len t0; omega) hrn hrm; rw [texts_self] at hh; exact hh).mono ?_
  rintro e v13 ⟨rfl, kk, hkk⟩
  have hbn : Below (v12).heap.size (v12) v13 := by rw [hkk]; exact below_drewN (Below.refl _ _) kk
  clear hkk
  have hSv13 : Below W0.heap.size W0 v13 := (hSv12).trans (hbn.mono (by have := (hSv12).size; omega))
  clear hTT
  clear hbn
  go_wp2_with fail
  refine hK.out _ _ hSv13 (fun hHeld => ?_)
  clear hK K
  try simp only [Act.put, List.setIfInBounds_toArray, List.set_cons_zero, List.set_cons_succ]
  refine takeH' (i := 16) (d := 38) (v := .bool true) rfl (by kernel_rfl) (by kernel_rfl) (by kernel_rfl) (fun _ _ _ h => h) (Or.inl ⟨by rfl, fun w' hS' => by (first | rfl | go_simp)⟩) hHeld rfl ?_
  try simp only [Act.put, List.setIfInBounds_toArray, List.set_cons_zero, List.set_cons_succ]
  refine takeH' (i := 17) (d := 39) (v := .bool true) rfl (by kernel_rfl) (by kernel_rfl) (by kernel_rfl) (fun _ _ _ h => h) (Or.inl ⟨by rfl, fun w' hS' => by (first | rfl | go_simp)⟩) hHeld rfl ?_
  try simp only [Act.put, List.setIfInBounds_toArray, List.set_cons_zero, List.set_cons_succ]
  refine takeH' (i := 18) (d := 40) (v := .agg #[a0, a1, a2, a3]) rfl (by kernel_rfl) (by kernel_rfl) (by kernel_rfl) (fun _ _ _ h => h) (Or.inl ⟨by rfl, fun w' hS' => by (have hbb := RA.out w' (HSW.out.trans (hS'.mono HSW.out.size))); (have q0 := hbb.cell 0); (have q1 := hbb.cell 1); (have q2 := hbb.cell 2); (have q3 := hbb.cell 3); (simp only [List.getElem?_toArray, List.getElem?_cons_succ, List.getElem?_cons_zero] at q0 q1 q2 q3); (first | rfl | go_simp)⟩) hHeld rfl ?_
  try simp only [Act.put, List.setIfInBounds_toArray, List.set_cons_zero, List.set_cons_succ]
  refine takeH' (i := 20) (d := 42) (v := .agg #[a0, a1, a2, a3]) rfl (by kernel_rfl) (by kernel_rfl) (by kernel_rfl) (fun _ _ _ h => h) (Or.inl ⟨by rfl, fun w' hS' => by (have hbb := RA.out w' (HSW.out.trans (hS'.mono HSW.out.size))); (have q0 := hbb.cell 0); (have q1 := hbb.cell 1); (have q2 := hbb.cell 2); (have q3 := hbb.cell 3); (simp only [List.getElem?_toArray, List.getElem?_cons_succ, List.getElem?_cons_zero] at q0 q1 q2 q3); (first | rfl | go_simp)⟩) hHeld rfl ?_
  try simp only [Act.put, List.setIfInBounds_toArray, List.set_cons_zero, List.set_cons_succ]
  refine wpAnyH_ready (rs := [19]) (by kernel_rfl) (by simp) ?_
  refine AllReadyH.cons rfl (fun K hK => ?_) AllReadyH.nil
  try go_simp
  have hTT := (HSW.out.trans ((hSv13).mono HSW.out.size))
  refine (pmetas_any t0 (by omega) w.heap.size v13 [a0, a1, a2, a3] (SZ.out _ hTT) (TA.out _ hTT)).mono ?_
  rintro e v14 ⟨vv, rfl, ho, hbn⟩
  obtain ⟨Ai, ci, rfl, hri⟩ := own_shapeI ho
  have hSv14 : Below W0.heap.size W0 v14 := (hSv13).trans (hbn.mono (by have := (hSv13).size; omega))
  clear hTT
  clear hbn
  go_wp2_with fail
  refine hK.out _ _ hSv14 (fun hHeld => ?_)
  clear hK K
  try simp only [Act.put, List.setIfInBounds_toArray, List.set_cons_zero, List.set_cons_succ]
  refine wpAnyH_ready (rs := [21]) (by kernel_rfl) (by simp) ?_
  refine AllReadyH.cons rfl (fun K hK => ?_) AllReadyH.nil
  try go_simp
  have hTT := (HSW.out.trans ((hSv14).mono HSW.out.size))
  refine (rmetas_any t0 (by omega) w.heap.size v14 [a0, a1, a2, a3] (SZ.out _ hTT) (TA.out _ hTT)).mono ?_
  rintro e v15 ⟨vv, rfl, ho2, hbn⟩
  obtain ⟨Aj, cj, rfl, hrj⟩ := own_shapeI ho2
  have hSv15 : Below W0.heap.size W0 v15 := (hSv14).trans (hbn.mono (by have := (hSv14).size; omega))
  clear hTT
  have hri := (hri.below hbn).more hbn.size
  clear hbn
  go_wp2_with fail
  refine hK.out _ _ hSv15 (fun hHeld => ?_)
  clear hK K
  try simp only [Act.put, List.setIfInBounds_toArray, List.set_cons_zero, List.set_cons_succ]
  refine wpAnyH_ready (rs := [22]) (by kernel_rfl) (by simp) ?_
  refine AllReadyH.cons rfl (fun K hK => ?_) AllReadyH.nil
  try go_simp
  have hTT := (HSW.out.trans ((hSv15).mono HSW.out.size))
  refine (ints_any (metasT t0) Ai Aj (metasT t0).length ci cj v15 (by have := metas_len t0; omega) hri hrj).mono ?_
  rintro e v16 ⟨rfl, hbn⟩
  have hSv16 : Below W0.heap.size W0 v16 := (hSv15).trans (hbn.mono (by have := (hSv15).size; omega))
  clear hTT
  clear hbn
  go_wp2_with fail
  refine hK.out _ _ hSv16 (fun hHeld => ?_)
  clear hK K
  try simp only [Act.put, List.setIfInBounds_toArray, List.set_cons_zero, List.set_cons_succ]
  refine takeH' (i := 23) (d := 45) (v := .bool true) rfl (by kernel_rfl) (by kernel_rfl) (by kernel_rfl) (fun _ _ _ h => h) (Or.inl ⟨by rfl, fun w' hS' => by (first | rfl | go_simp)⟩) hHeld rfl ?_
  try simp only [Act.put, List.setIfInBounds_toArray, List.set_cons_zero, List.set_cons_succ]
  refine takeH' (i := 24) (d := 46) (v := .bool true) rfl (by kernel_rfl) (by kernel_rfl) (by kernel_rfl) (fun _ _ _ h => h) (Or.inl ⟨by rfl, fun w' hS' => by (first | rfl | go_simp)⟩) hHeld rfl ?_
  try simp only [Act.put, List.setIfInBounds_toArray, List.set_cons_zero, List.set_cons_succ]
  refine takeH' (i := 25) (d := 47) (v := .agg #[a0, a1, a2, a3]) rfl (by kernel_rfl) (by kernel_rfl) (by kernel_rfl) (fun _ _ _ h => h) (Or.inl ⟨by rfl, fun w' hS' => by (have hbb := RA.out w' (HSW.out.trans (hS'.mono HSW.out.size))); (have q0 := hbb.cell 0); (have q1 := hbb.cell 1); (have q2 := hbb.cell 2); (have q3 := hbb.cell 3); (simp only [List.getElem?_toArray, List.getElem?_cons_succ, List.getElem?_cons_zero] at q0 q1 q2 q3); (first | rfl | go_simp)⟩) hHeld rfl ?_
  try simp only [Act.put, List.setIfInBounds_toArray, List.set_cons_zero, List.set_cons_succ]
  refine takeH' (i := 27) (d := 49) (v := .agg #[a0, a1, a2, a3]) rfl (by kernel_rfl) (by kernel_rfl) (by kernel_rfl) (fun _ _ _ h => h) (Or.inl ⟨by rfl, fun w' hS' => by (have hbb := RA.out w' (HSW.out.trans (hS'.mono HSW.out.size))); (have q0 := hbb.cell 0); (have q1 := hbb.cell 1); (have q2 := hbb.cell 2); (have q3 := hbb.cell 3); (simp only [List.getElem?_toArray, List.getElem?_cons_succ, List.getElem?_cons_zero] at q0 q1 q2 q3); (first | rfl | go_simp)⟩) hHeld rfl ?_
  try simp only [Act.put, List.setIfInBounds_toArray, List.set_cons_zero, List.set_cons_succ]
  refine wpAnyH_ready (rs := [26]) (by kernel_rfl) (by simp) ?_
  refine AllReadyH.cons rfl (fun K hK => ?_) AllReadyH.nil
  try go_simp
  have hTT := (HSW.out.trans ((hSv16).mono HSW.out.size))
  refine (psize_any t0.nodes t0 (Nat.le_refl _) (by omega) w.heap.size v16 [a0, a1, a2, a3] (SZ.out _ hTT) (TA.out _ hTT)).mono ?_
  rintro e v17 ⟨rfl, hbn⟩
  have hSv17 : Below W0.heap.size W0 v17 := (hSv16).trans (hbn.mono (by have := (hSv16).size; omega))
  clear hTT
  clear hbn
  go_wp2_with fail
  refine hK.out _ _ hSv17 (fun hHeld => ?_)
  clear hK K
  try simp only [Act.put, List.setIfInBounds_toArray, List.set_cons_zero, List.set_cons_succ]
  refine wpAnyH_ready (rs := [28]) (by kernel_rfl) (by simp) ?_
  refine AllReadyH.cons rfl (fun K hK => ?_) AllReadyH.nil
  try go_simp
  have hTT := (HSW.out.trans ((hSv17).mono HSW.out.size))
  refine (rall_any t0.nodes t0 (Nat.le_refl _) (by omega) w.heap.size v17 [a0, a1, a2, a3] (SZ.out _ hTT) (TA.out _ hTT)).mono ?_
  rintro e v18 ⟨vv, L6, rfl, ho6, hts6, hbn⟩
  rw [all_len] at ho6
  obtain ⟨Af, cf, rfl, _⟩ := own_shape4 ho6
  have hSv18 : Below W0.heap.size W0 v18 := (hSv17).trans (hbn.mono (by have := (hSv17).size; omega))
  clear hTT
  clear hbn
  go_wp2_with fail
  refine hK.out _ _ hSv18 (fun hHeld => ?_)
  clear hK K
  try simp only [Act.put, List.setIfInBounds_toArray, List.set_cons_zero, List.set_cons_succ]
  refine takeH' (i := 29) (d := 51) (v := .int .i64 (t0.nodes : Int)) rfl (by kernel_rfl) (by kernel_rfl) (by kernel_rfl) (fun _ _ _ h => h) (Or.inl ⟨by rfl, fun w' hS' => by (first | rfl | go_simp)⟩) hHeld rfl ?_
  try simp only [Act.put, List.setIfInBounds_toArray, List.set_cons_zero, List.set_cons_succ]
  refine takeH' (i := 30) (d := 52) (v := .bool true) rfl (by kernel_rfl) (by kernel_rfl) (by kernel_rfl) (fun _ _ _ h => h) (Or.inl ⟨by rfl, fun w' hS' => by (first | rfl | go_simp)⟩) hHeld rfl ?_
  try simp only [Act.put, List.setIfInBounds_toArray, List.set_cons_zero, List.set_cons_succ]
  refine takeH' (i := 31) (d := 53) (v := .bool true) rfl (by kernel_rfl) (by kernel_rfl) (by kernel_rfl) (fun _ _ _ h => h) (Or.inl ⟨by rfl, fun w' hS' => by (first | rfl | go_simp)⟩) hHeld rfl ?_
  try simp only [Act.put, List.setIfInBounds_toArray, List.set_cons_zero, List.set_cons_succ]
  refine takeH' (i := 32) (d := 54) (v := .bool true) rfl (by kernel_rfl) (by kernel_rfl) (by kernel_rfl) (fun _ _ _ h => h) (Or.inl ⟨by rfl, fun w' hS' => by (first | rfl | go_simp)⟩) hHeld rfl ?_
  try simp only [Act.put, List.setIfInBounds_toArray, List.set_cons_zero, List.set_cons_succ]
  refine takeH' (i := 33) (d := 55) (v := .agg #[a0, a1, a2, a3]) rfl (by kernel_rfl) (by kernel_rfl) (by kernel_rfl) (fun _ _ _ h => h) (Or.inl ⟨by rfl, fun w' hS' => by (have hbb := RA.out w' (HSW.out.trans (hS'.mono HSW.out.size))); (have q0 := hbb.cell 0); (have q1 := hbb.cell 1); (have q2 := hbb.cell 2); (have q3 := hbb.cell 3); (simp only [List.getElem?_toArray, List.getElem?_cons_succ, List.getElem?_cons_zero] at q0 q1 q2 q3); (first | rfl | go_simp)⟩) hHeld rfl ?_
  try simp only [Act.put, List.setIfInBounds_toArray, List.set_cons_zero, List.set_cons_succ]
  refine takeH' (i := 34) (d := 56) (v := .agg #[b0, b1, b2, b3]) rfl (by kernel_rfl) (by kernel_rfl) (by kernel_rfl) (fun _ _ _ h => h) (Or.inl ⟨by rfl, fun w' hS' => by (have hbb := RB.out w' (HSW.out.trans (hS'.mono HSW.out.size))); (have q0 := hbb.cell 0); (have q1 := hbb.cell 1); (have q2 := hbb.cell 2); (have q3 := hbb.cell 3); (simp only [List.getElem?_toArray, List.getElem?_cons_succ, List.getElem?_cons_zero] at q0 q1 q2 q3); (first | rfl | go_simp)⟩) hHeld rfl ?_
  try simp only [Act.put, List.setIfInBounds_toArray, List.set_cons_zero, List.set_cons_succ]
  refine takeH' (i := 36) (d := 58) (v := .agg #[a0, a1, a2, a3]) rfl (by kernel_rfl) (by kernel_rfl) (by kernel_rfl) (fun _ _ _ h => h) (Or.inl ⟨by rfl, fun w' hS' => by (have hbb := RA.out w' (HSW.out.trans (hS'.mono HSW.out.size))); (have q0 := hbb.cell 0); (have q1 := hbb.cell 1); (have q2 := hbb.cell 2); (have q3 := hbb.cell 3); (simp only [List.getElem?_toArray, List.getElem?_cons_succ, List.getElem?_cons_zero] at q0 q1 q2 q3); (first | rfl | go_simp)⟩) hHeld rfl ?_
  try simp only [Act.put, List.setIfInBounds_toArray, List.set_cons_zero, List.set_cons_succ]
  refine takeH' (i := 37) (d := 59) (v := .agg #[b0, b1, b2, b3]) rfl (by kernel_rfl) (by kernel_rfl) (by kernel_rfl) (fun _ _ _ h => h) (Or.inl ⟨by rfl, fun w' hS' => by (have hbb := RB.out w' (HSW.out.trans (hS'.mono HSW.out.size))); (have q0 := hbb.cell 0); (have q1 := hbb.cell 1); (have q2 := hbb.cell 2); (have q3 := hbb.cell 3); (simp only [List.getElem?_toArray, List.getElem?_cons_succ, List.getElem?_cons_zero] at q0 q1 q2 q3); (first | rfl | go_simp)⟩) hHeld rfl ?_
  try simp only [Act.put, List.setIfInBounds_toArray, List.set_cons_zero, List.set_cons_succ]
  refine wpAnyH_ready (rs := [35]) (by kernel_rfl) (by simp) ?_
  refine AllReadyH.cons rfl (fun K hK => ?_) AllReadyH.nil
  try go_simp
  have hTT := (HSW.out.trans ((hSv18).mono HSW.out.size))
  refine (fun_any t0 t1 [a0, a1, a2, a3] [b0, b1, b2, b3] w.heap.size v18 (SZ.out _ hTT) (TA.out _ hTT) (TB.out _ hTT)).mono ?_
  rintro e v19 hp
  obtain ⟨f0, f1, f2, f3, rfl, htf, of, hbn⟩ := hp.plain
  have hSv19 : Below W0.heap.size W0 v19 := (hSv18).trans (hbn.mono (by have := (hSv18).size; omega))
  clear hTT
  clear hbn
  go_wp2_with fail
  refine hK.out _ _ hSv19 (fun hHeld => ?_)
  clear hK K
  try simp only [Act.put, List.setIfInBounds_toArray, List.set_cons_zero, List.set_cons_succ]
  refine wpAnyH_ready (rs := [38]) (by kernel_rfl) (by simp) ?_
  refine AllReadyH.cons rfl (fun K hK => ?_) AllReadyH.nil
  try go_simp
  have hTT := (HSW.out.trans ((hSv19).mono HSW.out.size))
  refine (rfun_any t0 t1 [a0, a1, a2, a3] [b0, b1, b2, b3] w.heap.size v19 (SZ.out _ hTT) (TA.out _ hTT) (TB.out _ hTT)).mono ?_
  rintro e v20 hp
  obtain ⟨h0, h1, h2, h3, rfl, hth, oh, hbn⟩ := hp.plain
  have hSv20 : Below W0.heap.size W0 v20 := (hSv19).trans (hbn.mono (by have := (hSv19).size; omega))
  clear hTT
  have htf := (htf.later hbn).more hbn.size
  clear hbn
  go_wp2_with fail
  refine hK.out _ _ hSv20 (fun hHeld => ?_)
  clear hK K
  try simp only [Act.put, List.setIfInBounds_toArray, List.set_cons_zero, List.set_cons_succ]
  refine wpAnyH_ready (rs := [39]) (by kernel_rfl) (by simp) ?_
  refine AllReadyH.cons rfl (fun K hK => ?_) AllReadyH.nil
  try go_simp
  have hTT := (HSW.out.trans ((hSv20).mono HSW.out.size))
  refine (show Calls Try.prog 12 #[.agg #[f0, f1, f2, f3], .agg #[h0, h1, h2, h3]] v20 (fun e w' => e = .returned (.bool true) ∧ Below (v20).heap.size v20 w') by have hh := rsametype_any (Ty.nodes (.mk 3 sArrow 0 [t0, t1])) (.mk 3 sArrow 0 [t0, t1]) (.mk 3 sArrow 0 [t0, t1]) (Nat.le_refl _) (v20).heap.size v20 [f0, f1, f2, f3] [h0, h1, h2, h3] (Nat.le_refl _) htf hth; rw [tySame_self _ (.mk 3 sArrow 0 [t0, t1]) (Nat.le_refl _)] at hh; exact hh).mono ?_
  rintro e v21 ⟨rfl, hbn⟩
  have hSv21 : Below W0.heap.size W0 v21 := (hSv20).trans (hbn.mono (by have := (hSv20).size; omega))
  clear hTT
  clear hbn
  go_wp2_with fail
  refine hK.out _ _ hSv21 (fun hHeld => ?_)
  clear hK K
  try simp only [Act.put, List.setIfInBounds_toArray, List.set_cons_zero, List.set_cons_succ]
  refine takeH' (i := 40) (d := 62) (v := .bool true) rfl (by kernel_rfl) (by kernel_rfl) (by kernel_rfl) (fun _ _ _ h => h) (Or.inl ⟨by rfl, fun w' hS' => by (first | rfl | go_simp)⟩) hHeld rfl ?_
  try simp only [Act.put, List.setIfInBounds_toArray, List.set_cons_zero, List.set_cons_succ]
  refine takeH' (i := 41) (d := 63) (v := .bool true) rfl (by kernel_rfl) (by kernel_rfl) (by kernel_rfl) (fun _ _ _ h => h) (Or.inl ⟨by rfl, fun w' hS' => by (first | rfl | go_simp)⟩) hHeld rfl ?_
  try simp only [Act.put, List.setIfInBounds_toArray, List.set_cons_zero, List.set_cons_succ]
  refine takeH' (i := 42) (d := 64) (v := .agg #[a0, a1, a2, a3]) rfl (by kernel_rfl) (by kernel_rfl) (by kernel_rfl) (fun _ _ _ h => h) (Or.inl ⟨by rfl, fun w' hS' => by (have hbb := RA.out w' (HSW.out.trans (hS'.mono HSW.out.size))); (have q0 := hbb.cell 0); (have q1 := hbb.cell 1); (have q2 := hbb.cell 2); (have q3 := hbb.cell 3); (simp only [List.getElem?_toArray, List.getElem?_cons_succ, List.getElem?_cons_zero] at q0 q1 q2 q3); (first | rfl | go_simp)⟩) hHeld rfl ?_
  try simp only [Act.put, List.setIfInBounds_toArray, List.set_cons_zero, List.set_cons_succ]
  refine takeH' (i := 43) (d := 65) (v := .agg #[b0, b1, b2, b3]) rfl (by kernel_rfl) (by kernel_rfl) (by kernel_rfl) (fun _ _ _ h => h) (Or.inl ⟨by rfl, fun w' hS' => by (have hbb := RB.out w' (HSW.out.trans (hS'.mono HSW.out.size))); (have q0 := hbb.cell 0); (have q1 := hbb.cell 1); (have q2 := hbb.cell 2); (have q3 := hbb.cell 3); (simp only [List.getElem?_toArray, List.getElem?_cons_succ, List.getElem?_cons_zero] at q0 q1 q2 q3); (first | rfl | go_simp)⟩) hHeld rfl ?_
  try simp only [Act.put, List.setIfInBounds_toArray, List.set_cons_zero, List.set_cons_succ]
  refine takeH' (i := 46) (d := 68) (v := .agg #[a0, a1, a2, a3]) rfl (by kernel_rfl) (by kernel_rfl) (by kernel_rfl) (fun _ _ _ h => h) (Or.inl ⟨by rfl, fun w' hS' => by (have hbb := RA.out w' (HSW.out.trans (hS'.mono HSW.out.size))); (have q0 := hbb.cell 0); (have q1 := hbb.cell 1); (have q2 := hbb.cell 2); (have q3 := hbb.cell 3); (simp only [List.getElem?_toArray, List.getElem?_cons_succ, List.getElem?_cons_zero] at q0 q1 q2 q3); (first | rfl | go_simp)⟩) hHeld rfl ?_
  try simp only [Act.put, List.setIfInBounds_toArray, List.set_cons_zero, List.set_cons_succ]
  refine takeH' (i := 47) (d := 69) (v := .agg #[b0, b1, b2, b3]) rfl (by kernel_rfl) (by kernel_rfl) (by kernel_rfl) (fun _ _ _ h => h) (Or.inl ⟨by rfl, fun w' hS' => by (have hbb := RB.out w' (HSW.out.trans (hS'.mono HSW.out.size))); (have q0 := hbb.cell 0); (have q1 := hbb.cell 1); (have q2 := hbb.cell 2); (have q3 := hbb.cell 3); (simp only [List.getElem?_toArray, List.getElem?_cons_succ, List.getElem?_cons_zero] at q0 q1 q2 q3); (first | rfl | go_simp)⟩) hHeld rfl ?_
  try simp only [Act.put, List.setIfInBounds_toArray, List.set_cons_zero, List.set_cons_succ]
  refine wpAnyH_ready (rs := [44, 48]) (by kernel_rfl) (by simp) ?_
  refine AllReadyH.cons rfl (fun K hK => ?_) (AllReadyH.cons rfl (fun K hK => ?_) AllReadyH.nil)
  · try go_simp
    obtain ⟨v22, hwv22⟩ : ∃ x, World.alloc (v21) (.cells #[a0, a1, a2, a3, b0, b1, b2, b3] 24) = x := ⟨_, rfl⟩
    have hTT := HSW.out.trans ((hSv21).mono HSW.out.size)
    have hbn : Below (v21).heap.size (v21) v22 := by rw [← hwv22]; exact (Below.refl _ _).alloc (Nat.le_refl _) _
    have rA : Row v22 ((v21).heap.size + 1) 4 (some ⟨(v21).heap.size, 0, none⟩) 2 [[a0, a1, a2, a3], [b0, b1, b2, b3]] ∧ TsAt v22 w.heap.size [t0, t1] [[a0, a1, a2, a3], [b0, b1, b2, b3]] := by rw [← hwv22]; exact pair_row (v21) w.heap.size _ _ t0 t1 (SZ.out _ hTT) (TA.out _ hTT) (TB.out _ hTT)
    have hszv22 : v22.heap.size = (v21).heap.size + 1 := by rw [← hwv22]; exact alloc_size _ _
    rw [← hszv22] at rA
    obtain ⟨pA, hpA⟩ : ∃ p, (v21).heap.size = p := ⟨_, rfl⟩
    rw [hpA] at rA
    have hSv22 : Below W0.heap.size W0 v22 := (hSv21).trans (hbn.mono (hSv21).size)
    try rw [hwv22]
    try rw [hpA]
    clear hwv22 hTT hszv22
    clear hbn hpA
    refine hK.out _ _ hSv22 (fun hHeld => ?_)
    clear hK K
    try simp only [Act.put, List.setIfInBounds_toArray, List.set_cons_zero, List.set_cons_succ]
    refine wpAnyH_ready (rs := [45, 48]) (by kernel_rfl) (by simp) ?_
    refine AllReadyH.cons rfl (fun K hK => ?_) (AllReadyH.cons rfl (fun K hK => ?_) AllReadyH.nil)
    · try go_simp
      have hTT := (HSW.out.trans ((hSv22).mono HSW.out.size))
      refine (con_any nmPair (by simp [ByteArray.size, maxLen]) [t0, t1] (some ⟨pA, 0, none⟩) [[a0, a1, a2, a3], [b0, b1, b2, b3]] 2 2 w.heap.size v22 (SZ.out _ hTT) rfl (by omega) rA.1 rA.2).mono ?_
      rintro e v23 hp
      obtain ⟨g0, g1, g2, g3, rfl, htg, og, hbn⟩ := hp.plain
      have hSv23 : Below W0.heap.size W0 v23 := (hSv22).trans (hbn.mono (by have := (hSv22).size; omega))
      clear hTT
      have rA := And.intro ((rA.1.keep fun p hp => hbn.cell hp).more hbn.size) (rA.2.later (hbn.mono (SZ.out _ (HSW.out.trans ((hSv22).mono HSW.out.size)))))
      clear hbn
      go_wp2_with fail
      refine hK.out _ _ hSv23 (fun hHeld => ?_)
      clear hK K
      try simp only [Act.put, List.setIfInBounds_toArray, List.set_cons_zero, List.set_cons_succ]
      refine wpAnyH_ready (rs := [48]) (by kernel_rfl) (by simp) ?_
      refine AllReadyH.cons rfl (fun K hK => ?_) AllReadyH.nil
      try go_simp
      obtain ⟨v24, hwv24⟩ : ∃ x, World.alloc (v23) (.cells #[a0, a1, a2, a3, b0, b1, b2, b3] 24) = x := ⟨_, rfl⟩
      have hTT := HSW.out.trans ((hSv23).mono HSW.out.size)
      have hbn : Below (v23).heap.size (v23) v24 := by rw [← hwv24]; exact (Below.refl _ _).alloc (Nat.le_refl _) _
      have rB : Row v24 ((v23).heap.size + 1) 4 (some ⟨(v23).heap.size, 0, none⟩) 2 [[a0, a1, a2, a3], [b0, b1, b2, b3]] ∧ TsAt v24 w.heap.size [t0, t1] [[a0, a1, a2, a3], [b0, b1, b2, b3]] := by rw [← hwv24]; exact pair_row (v23) w.heap.size _ _ t0 t1 (SZ.out _ hTT) (TA.out _ hTT) (TB.out _ hTT)
      have hszv24 : v24.heap.size = (v23).heap.size + 1 := by rw [← hwv24]; exact alloc_size _ _
      rw [← hszv24] at rB
      obtain ⟨pB, hpB⟩ : ∃ p, (v23).heap.size = p := ⟨_, rfl⟩
      rw [hpB] at rB
      have hSv24 : Below W0.heap.size W0 v24 := (hSv23).trans (hbn.mono (hSv23).size)
      try rw [hwv24]
      try rw [hpB]
      clear hwv24 hTT hszv24
      have rA := And.intro ((rA.1.keep fun p hp => hbn.cell hp).more hbn.size) (rA.2.later (hbn.mono (SZ.out _ (HSW.out.trans ((hSv23).mono HSW.out.size)))))
      have htg := (htg.later hbn).more hbn.size
      clear hbn hpB
      refine hK.out _ _ hSv24 (fun hHeld => ?_)
      clear hK K
      try simp only [Act.put, List.setIfInBounds_toArray, List.set_cons_zero, List.set_cons_succ]
      refine takeH' (i := 49) (d := 71) (v := .agg #[.int .i64 3, .string nmPair, .int .i64 0, .slice (some ⟨pB, 0, none⟩) 2 2]) rfl (by kernel_rfl) (by kernel_rfl) (by kernel_rfl) (fun _ _ _ h => h) (Or.inl ⟨by rfl, fun w' hS' => by (first | rfl | go_simp)⟩) hHeld rfl ?_
      try simp only [Act.put, List.setIfInBounds_toArray, List.set_cons_zero, List.set_cons_succ]
      have htb2 : TyAt v24 v24.heap.size [.int .i64 3, .string nmPair, .int .i64 0, .slice (some ⟨pB, 0, none⟩) 2 2] (.mk 3 nmPair 0 [t0, t1]) := TyAt.mk (ks := [t0, t1]) (ok_lit _ (by omega) (by omega)) (by simp [ByteArray.size, maxLen]) (ok_lit _ (by omega) (by omega)) (by simp) (by simp [maxLen]) (by simp) rB.1 (fun i h1 h2 => (rB.2.ty i h1 h2).more (SZ.out _ (HSW.out.trans ((hSv24).mono HSW.out.size))))
      refine wpAnyH_ready (rs := [50]) (by kernel_rfl) (by simp) ?_
      refine AllReadyH.cons rfl (fun K hK => ?_) AllReadyH.nil
      try go_simp
      have hTT := (HSW.out.trans ((hSv24).mono HSW.out.size))
      refine (show Calls Try.prog 12 #[.agg #[g0, g1, g2, g3], .agg #[.int .i64 3, .string nmPair, .int .i64 0, .slice (some ⟨pB, 0, none⟩) 2 2]] v24 (fun e w' => e = .returned (.bool true) ∧ Below (v24).heap.size v24 w') by have hh := rsametype_any (Ty.nodes (.mk 3 nmPair 0 [t0, t1])) (.mk 3 nmPair 0 [t0, t1]) (.mk 3 nmPair 0 [t0, t1]) (Nat.le_refl _) (v24).heap.size v24 [g0, g1, g2, g3] [.int .i64 3, .string nmPair, .int .i64 0, .slice (some ⟨pB, 0, none⟩) 2 2] (Nat.le_refl _) htg htb2; rw [tySame_self _ (.mk 3 nmPair 0 [t0, t1]) (Nat.le_refl _)] at hh; exact hh).mono ?_
      rintro e v25 ⟨rfl, hbn⟩
      have hSv25 : Below W0.heap.size W0 v25 := (hSv24).trans (hbn.mono (by have := (hSv24).size; omega))
      clear hTT
      clear hbn
      go_wp2_with fail
      refine hK.out _ _ hSv25 (fun hHeld => ?_)
      clear hK K
      try simp only [Act.put, List.setIfInBounds_toArray, List.set_cons_zero, List.set_cons_succ]
      refine takeH' (i := 51) (d := 73) (v := .bool true) rfl (by kernel_rfl) (by kernel_rfl) (by kernel_rfl) (fun _ _ _ h => h) (Or.inl ⟨by rfl, fun w' hS' => by (first | rfl | go_simp)⟩) hHeld rfl ?_
      try simp only [Act.put, List.setIfInBounds_toArray, List.set_cons_zero, List.set_cons_succ]
      refine takeH' (i := 52) (d := 4) (v := .bool true) rfl (by kernel_rfl) (by kernel_rfl) (by kernel_rfl) (fun _ _ _ h => h) (Or.inl ⟨by rfl, fun w' hS' => by (first | rfl | go_simp)⟩) hHeld rfl ?_
      try simp only [Act.put, List.setIfInBounds_toArray, List.set_cons_zero, List.set_cons_succ]
      refine wpAnyH_done (by kernel_rfl) ?_ _
      have HEND := Lib.hid (HG.out.trans ((HSW.out.trans ((hSv25).mono HSW.out.size)).mono HG.out.size))
      go_wp2_with fail
      go_ret
      exact ⟨rfl, HEND.out⟩
    · try go_simp
      obtain ⟨v23, hwv23⟩ : ∃ x, World.alloc (v22) (.cells #[a0, a1, a2, a3, b0, b1, b2, b3] 24) = x := ⟨_, rfl⟩
      have hTT := HSW.out.trans ((hSv22).mono HSW.out.size)
      have hbn : Below (v22).heap.size (v22) v23 := by rw [← hwv23]; exact (Below.refl _ _).alloc (Nat.le_refl _) _
      have rB : Row v23 ((v22).heap.size + 1) 4 (some ⟨(v22).heap.size, 0, none⟩) 2 [[a0, a1, a2, a3], [b0, b1, b2, b3]] ∧ TsAt v23 w.heap.size [t0, t1] [[a0, a1, a2, a3], [b0, b1, b2, b3]] := by rw [← hwv23]; exact pair_row (v22) w.heap.size _ _ t0 t1 (SZ.out _ hTT) (TA.out _ hTT) (TB.out _ hTT)
      have hszv23 : v23.heap.size = (v22).heap.size + 1 := by rw [← hwv23]; exact alloc_size _ _
      rw [← hszv23] at rB
      obtain ⟨pB, hpB⟩ : ∃ p, (v22).heap.size = p := ⟨_, rfl⟩
      rw [hpB] at rB
      have hSv23 : Below W0.heap.size W0 v23 := (hSv22).trans (hbn.mono (hSv22).size)
      try rw [hwv23]
      try rw [hpB]
      clear hwv23 hTT hszv23
      have rA := And.intro ((rA.1.keep fun p hp => hbn.cell hp).more hbn.size) (rA.2.later (hbn.mono (SZ.out _ (HSW.out.trans ((hSv22).mono HSW.out.size)))))
      clear hbn hpB
      refine hK.out _ _ hSv23 (fun hHeld => ?_)
      clear hK K
      try simp only [Act.put, List.setIfInBounds_toArray, List.set_cons_zero, List.set_cons_succ]
      refine takeH' (i := 49) (d := 71) (v := .agg #[.int .i64 3, .string nmPair, .int .i64 0, .slice (some ⟨pB, 0, none⟩) 2 2]) rfl (by kernel_rfl) (by kernel_rfl) (by kernel_rfl) (fun _ _ _ h => h) (Or.inl ⟨by rfl, fun w' hS' => by (first | rfl | go_simp)⟩) hHeld rfl ?_
      try simp only [Act.put, List.setIfInBounds_toArray, List.set_cons_zero, List.set_cons_succ]
      refine wpAnyH_ready (rs := [45]) (by kernel_rfl) (by simp) ?_
      refine AllReadyH.cons rfl (fun K hK => ?_) AllReadyH.nil
      try go_simp
      have hTT := (HSW.out.trans ((hSv23).mono HSW.out.size))
      refine (con_any nmPair (by simp [ByteArray.size, maxLen]) [t0, t1] (some ⟨pA, 0, none⟩) [[a0, a1, a2, a3], [b0, b1, b2, b3]] 2 2 w.heap.size v23 (SZ.out _ hTT) rfl (by omega) rA.1 rA.2).mono ?_
      rintro e v24 hp
      obtain ⟨g0, g1, g2, g3, rfl, htg, og, hbn⟩ := hp.plain
      have hSv24 : Below W0.heap.size W0 v24 := (hSv23).trans (hbn.mono (by have := (hSv23).size; omega))
      clear hTT
      have rA := And.intro ((rA.1.keep fun p hp => hbn.cell hp).more hbn.size) (rA.2.later (hbn.mono (SZ.out _ (HSW.out.trans ((hSv23).mono HSW.out.size)))))
      have rB := And.intro ((rB.1.keep fun p hp => hbn.cell hp).more hbn.size) (rB.2.later (hbn.mono (SZ.out _ (HSW.out.trans ((hSv23).mono HSW.out.size)))))
      clear hbn
      go_wp2_with fail
      refine hK.out _ _ hSv24 (fun hHeld => ?_)
      clear hK K
      try simp only [Act.put, List.setIfInBounds_toArray, List.set_cons_zero, List.set_cons_succ]
      have htb2 : TyAt v24 v24.heap.size [.int .i64 3, .string nmPair, .int .i64 0, .slice (some ⟨pB, 0, none⟩) 2 2] (.mk 3 nmPair 0 [t0, t1]) := TyAt.mk (ks := [t0, t1]) (ok_lit _ (by omega) (by omega)) (by simp [ByteArray.size, maxLen]) (ok_lit _ (by omega) (by omega)) (by simp) (by simp [maxLen]) (by simp) rB.1 (fun i h1 h2 => (rB.2.ty i h1 h2).more (SZ.out _ (HSW.out.trans ((hSv24).mono HSW.out.size))))
      refine wpAnyH_ready (rs := [50]) (by kernel_rfl) (by simp) ?_
      refine AllReadyH.cons rfl (fun K hK => ?_) AllReadyH.nil
      try go_simp
      have hTT := (HSW.out.trans ((hSv24).mono HSW.out.size))
      refine (show Calls Try.prog 12 #[.agg #[g0, g1, g2, g3], .agg #[.int .i64 3, .string nmPair, .int .i64 0, .slice (some ⟨pB, 0, none⟩) 2 2]] v24 (fun e w' => e = .returned (.bool true) ∧ Below (v24).heap.size v24 w') by have hh := rsametype_any (Ty.nodes (.mk 3 nmPair 0 [t0, t1])) (.mk 3 nmPair 0 [t0, t1]) (.mk 3 nmPair 0 [t0, t1]) (Nat.le_refl _) (v24).heap.size v24 [g0, g1, g2, g3] [.int .i64 3, .string nmPair, .int .i64 0, .slice (some ⟨pB, 0, none⟩) 2 2] (Nat.le_refl _) htg htb2; rw [tySame_self _ (.mk 3 nmPair 0 [t0, t1]) (Nat.le_refl _)] at hh; exact hh).mono ?_
      rintro e v25 ⟨rfl, hbn⟩
      have hSv25 : Below W0.heap.size W0 v25 := (hSv24).trans (hbn.mono (by have := (hSv24).size; omega))
      clear hTT
      clear hbn
      go_wp2_with fail
      refine hK.out _ _ hSv25 (fun hHeld => ?_)
      clear hK K
      try simp only [Act.put, List.setIfInBounds_toArray, List.set_cons_zero, List.set_cons_succ]
      refine takeH' (i := 51) (d := 73) (v := .bool true) rfl (by kernel_rfl) (by kernel_rfl) (by kernel_rfl) (fun _ _ _ h => h) (Or.inl ⟨by rfl, fun w' hS' => by (first | rfl | go_simp)⟩) hHeld rfl ?_
      try simp only [Act.put, List.setIfInBounds_toArray, List.set_cons_zero, List.set_cons_succ]
      refine takeH' (i := 52) (d := 4) (v := .bool true) rfl (by kernel_rfl) (by kernel_rfl) (by kernel_rfl) (fun _ _ _ h => h) (Or.inl ⟨by rfl, fun w' hS' => by (first | rfl | go_simp)⟩) hHeld rfl ?_
      try simp only [Act.put, List.setIfInBounds_toArray, List.set_cons_zero, List.set_cons_succ]
      refine wpAnyH_done (by kernel_rfl) ?_ _
      have HEND := Lib.hid (HG.out.trans ((HSW.out.trans ((hSv25).mono HSW.out.size)).mono HG.out.size))
      go_wp2_with fail
      go_ret
      exact ⟨rfl, HEND.out⟩
  · try go_simp
    obtain ⟨v22, hwv22⟩ : ∃ x, World.alloc (v21) (.cells #[a0, a1, a2, a3, b0, b1, b2, b3] 24) = x := ⟨_, rfl⟩
    have hTT := HSW.out.trans ((hSv21).mono HSW.out.size)
    have hbn : Below (v21).heap.size (v21) v22 := by rw [← hwv22]; exact (Below.refl _ _).alloc (Nat.le_refl _) _
    have rB : Row v22 ((v21).heap.size + 1) 4 (some ⟨(v21).heap.size, 0, none⟩) 2 [[a0, a1, a2, a3], [b0, b1, b2, b3]] ∧ TsAt v22 w.heap.size [t0, t1] [[a0, a1, a2, a3], [b0, b1, b2, b3]] := by rw [← hwv22]; exact pair_row (v21) w.heap.size _ _ t0 t1 (SZ.out _ hTT) (TA.out _ hTT) (TB.out _ hTT)
    have hszv22 : v22.heap.size = (v21).heap.size + 1 := by rw [← hwv22]; exact alloc_size _ _
    rw [← hszv22] at rB
    obtain ⟨pB, hpB⟩ : ∃ p, (v21).heap.size = p := ⟨_, rfl⟩
    rw [hpB] at rB
    have hSv22 : Below W0.heap.size W0 v22 := (hSv21).trans (hbn.mono (hSv21).size)
    try rw [hwv22]
    try rw [hpB]
    clear hwv22 hTT hszv22
    clear hbn hpB
    refine hK.out _ _ hSv22 (fun hHeld => ?_)
    clear hK K
    try simp only [Act.put, List.setIfInBounds_toArray, List.set_cons_zero, List.set_cons_succ]
    refine takeH' (i := 49) (d := 71) (v := .agg #[.int .i64 3, .string nmPair, .int .i64 0, .slice (some ⟨pB, 0, none⟩) 2 2]) rfl (by kernel_rfl) (by kernel_rfl) (by kernel_rfl) (fun _ _ _ h => h) (Or.inl ⟨by rfl, fun w' hS' => by (first | rfl | go_simp)⟩) hHeld rfl ?_
    try simp only [Act.put, List.setIfInBounds_toArray, List.set_cons_zero, List.set_cons_succ]
    refine wpAnyH_ready (rs := [44]) (by kernel_rfl) (by simp) ?_
    refine AllReadyH.cons rfl (fun K hK => ?_) AllReadyH.nil
    try go_simp
    obtain ⟨v23, hwv23⟩ : ∃ x, World.alloc (v22) (.cells #[a0, a1, a2, a3, b0, b1, b2, b3] 24) = x := ⟨_, rfl⟩
    have hTT := HSW.out.trans ((hSv22).mono HSW.out.size)
    have hbn : Below (v22).heap.size (v22) v23 := by rw [← hwv23]; exact (Below.refl _ _).alloc (Nat.le_refl _) _
    have rA : Row v23 ((v22).heap.size + 1) 4 (some ⟨(v22).heap.size, 0, none⟩) 2 [[a0, a1, a2, a3], [b0, b1, b2, b3]] ∧ TsAt v23 w.heap.size [t0, t1] [[a0, a1, a2, a3], [b0, b1, b2, b3]] := by rw [← hwv23]; exact pair_row (v22) w.heap.size _ _ t0 t1 (SZ.out _ hTT) (TA.out _ hTT) (TB.out _ hTT)
    have hszv23 : v23.heap.size = (v22).heap.size + 1 := by rw [← hwv23]; exact alloc_size _ _
    rw [← hszv23] at rA
    obtain ⟨pA, hpA⟩ : ∃ p, (v22).heap.size = p := ⟨_, rfl⟩
    rw [hpA] at rA
    have hSv23 : Below W0.heap.size W0 v23 := (hSv22).trans (hbn.mono (hSv22).size)
    try rw [hwv23]
    try rw [hpA]
    clear hwv23 hTT hszv23
    have rB := And.intro ((rB.1.keep fun p hp => hbn.cell hp).more hbn.size) (rB.2.later (hbn.mono (SZ.out _ (HSW.out.trans ((hSv22).mono HSW.out.size)))))
    clear hbn hpA
    refine hK.out _ _ hSv23 (fun hHeld => ?_)
    clear hK K
    try simp only [Act.put, List.setIfInBounds_toArray, List.set_cons_zero, List.set_cons_succ]
    refine wpAnyH_ready (rs := [45]) (by kernel_rfl) (by simp) ?_
    refine AllReadyH.cons rfl (fun K hK => ?_) AllReadyH.nil
    try go_simp
    have hTT := (HSW.out.trans ((hSv23).mono HSW.out.size))
    refine (con_any nmPair (by simp [ByteArray.size, maxLen]) [t0, t1] (some ⟨pA, 0, none⟩) [[a0, a1, a2, a3], [b0, b1, b2, b3]] 2 2 w.heap.size v23 (SZ.out _ hTT) rfl (by omega) rA.1 rA.2).mono ?_
    rintro e v24 hp
    obtain ⟨g0, g1, g2, g3, rfl, htg, og, hbn⟩ := hp.plain
    have hSv24 : Below W0.heap.size W0 v24 := (hSv23).trans (hbn.mono (by have := (hSv23).size; omega))
    clear hTT
    have rB := And.intro ((rB.1.keep fun p hp => hbn.cell hp).more hbn.size) (rB.2.later (hbn.mono (SZ.out _ (HSW.out.trans ((hSv23).mono HSW.out.size)))))
    have rA := And.intro ((rA.1.keep fun p hp => hbn.cell hp).more hbn.size) (rA.2.later (hbn.mono (SZ.out _ (HSW.out.trans ((hSv23).mono HSW.out.size)))))
    clear hbn
    go_wp2_with fail
    refine hK.out _ _ hSv24 (fun hHeld => ?_)
    clear hK K
    try simp only [Act.put, List.setIfInBounds_toArray, List.set_cons_zero, List.set_cons_succ]
    have htb2 : TyAt v24 v24.heap.size [.int .i64 3, .string nmPair, .int .i64 0, .slice (some ⟨pB, 0, none⟩) 2 2] (.mk 3 nmPair 0 [t0, t1]) := TyAt.mk (ks := [t0, t1]) (ok_lit _ (by omega) (by omega)) (by simp [ByteArray.size, maxLen]) (ok_lit _ (by omega) (by omega)) (by simp) (by simp [maxLen]) (by simp) rB.1 (fun i h1 h2 => (rB.2.ty i h1 h2).more (SZ.out _ (HSW.out.trans ((hSv24).mono HSW.out.size))))
    refine wpAnyH_ready (rs := [50]) (by kernel_rfl) (by simp) ?_
    refine AllReadyH.cons rfl (fun K hK => ?_) AllReadyH.nil
    try go_simp
    have hTT := (HSW.out.trans ((hSv24).mono HSW.out.size))
    refine (show Calls Try.prog 12 #[.agg #[g0, g1, g2, g3], .agg #[.int .i64 3, .string nmPair, .int .i64 0, .slice (some ⟨pB, 0, none⟩) 2 2]] v24 (fun e w' => e = .returned (.bool true) ∧ Below (v24).heap.size v24 w') by have hh := rsametype_any (Ty.nodes (.mk 3 nmPair 0 [t0, t1])) (.mk 3 nmPair 0 [t0, t1]) (.mk 3 nmPair 0 [t0, t1]) (Nat.le_refl _) (v24).heap.size v24 [g0, g1, g2, g3] [.int .i64 3, .string nmPair, .int .i64 0, .slice (some ⟨pB, 0, none⟩) 2 2] (Nat.le_refl _) htg htb2; rw [tySame_self _ (.mk 3 nmPair 0 [t0, t1]) (Nat.le_refl _)] at hh; exact hh).mono ?_
    rintro e v25 ⟨rfl, hbn⟩
    have hSv25 : Below W0.heap.size W0 v25 := (hSv24).trans (hbn.mono (by have := (hSv24).size; omega))
    clear hTT
    clear hbn
    go_wp2_with fail
    refine hK.out _ _ hSv25 (fun hHeld => ?_)
    clear hK K
    try simp only [Act.put, List.setIfInBounds_toArray, List.set_cons_zero, List.set_cons_succ]
    refine takeH' (i := 51) (d := 73) (v := .bool true) rfl (by kernel_rfl) (by kernel_rfl) (by kernel_rfl) (fun _ _ _ h => h) (Or.inl ⟨by rfl, fun w' hS' => by (first | rfl | go_simp)⟩) hHeld rfl ?_
    try simp only [Act.put, List.setIfInBounds_toArray, List.set_cons_zero, List.set_cons_succ]
    refine takeH' (i := 52) (d := 4) (v := .bool true) rfl (by kernel_rfl) (by kernel_rfl) (by kernel_rfl) (fun _ _ _ h => h) (Or.inl ⟨by rfl, fun w' hS' => by (first | rfl | go_simp)⟩) hHeld rfl ?_
    try simp only [Act.put, List.setIfInBounds_toArray, List.set_cons_zero, List.set_cons_succ]
    refine wpAnyH_done (by kernel_rfl) ?_ _
    have HEND := Lib.hid (HG.out.trans ((HSW.out.trans ((hSv25).mono HSW.out.size)).mono HG.out.size))
    go_wp2_with fail
    go_ret
    exact ⟨rfl, HEND.out⟩

set_option maxRecDepth 100000 in
theorem lifted (os : Os) (started : os.Started) (H : Type) (enc : TypeId × Value → H) :
    ReturnsInHanded {} Try.checked os 3 .any (Rows.typesAskSpec.pre6 enc Try.prog Try.f3 Rows.typesAskRow.domain false) (Rows.typesAskSpec.post enc Try.prog Try.f3 false true false false) := by
  refine returnsInHanded_of_change_sized (C := Try.checked) own started (by kernel_rfl) Try.func3
    (ChangeSpec.witness6 (enc := enc) (C := Try.checked) false ⟨#[], #[.agg #[.int .i64 0, .string ⟨#[]⟩, .int .i64 0, .slice none 0 0], .agg #[.int .i64 0, .string ⟨#[]⟩, .int .i64 0, .slice none 0 0]], []⟩ 8 (by kernel_rfl) (by kernel_rfl) (by kernel_rfl) (by kernel_rfl)) ?_
  intro W base args ds gs before hval0 hW hcnd hsz0 _
  have hsz : (DataW.weightsEach Try.prog (Try.f3.params.toList ++ Rows.typesAskSpec.plain.varTypes Try.prog) (ds ++ gs)).all (· ≤ reachBytes) = true := hsz0
  rw [Try.params3] at hsz
  clear hsz0
  have hval : ∀ (j : Nat) t v, Try.f3.params[j]? = some t → args[j]? = some v → Value.okWide Try.prog W .any base t v := hval0
  have hW' := hW
  obtain ⟨p, q, hA0, hV, rfl, hfz, hnd⟩ := hW
  have hA : DataW.TrodAll enc Try.prog W 0 (fun _ => true) true Try.f3.params.toList args.toList ds p := hA0
  rw [Try.params3] at hA hval
  obtain ⟨v0, vs0, d0, ds0, p0, q0, hargs, rfl, rfl, h0, r0⟩ := trodAll_cons hA
  obtain ⟨v1, vs1, d1, ds1, p1, q1, rfl, rfl, rfl, h1, r1⟩ := trodAll_cons r0
  obtain ⟨rfl, rfl, rfl⟩ := trodAll_nil r1
  obtain rfl : args = #[v0, v1] := by cases args; simp_all
  obtain ⟨rfl, rfl⟩ := trodVars_none hV
  have k0 := h0
  have lt0 : ∀ x ∈ p0, x.block < W.heap.size := by obtain ⟨m, hm⟩ := k0; exact DataW.trod_lt m _ _ _ hm
  obtain ⟨y0, rfl, _⟩ := okWide_struct Try.underlying24 (hval 0 24 v0 rfl rfl)
  obtain ⟨x0, t0, w0, rfl⟩ : ∃ xs t, TyAt W W.heap.size xs t ∧ y0 = xs.toArray := by
    obtain ⟨fuel, hf⟩ := h0
    obtain ⟨t, ht⟩ := open_ty fuel _ _ hf (fits_param hsz (j := 0) rfl rfl)
    exact ⟨y0.toList, t, ht, by simp⟩
  have k1 := h1
  have lt1 : ∀ x ∈ p1, x.block < W.heap.size := by obtain ⟨m, hm⟩ := k1; exact DataW.trod_lt m _ _ _ hm
  obtain ⟨y1, rfl, _⟩ := okWide_struct Try.underlying24 (hval 1 24 v1 rfl rfl)
  obtain ⟨x1, t1, w1, rfl⟩ : ∃ xs t, TyAt W W.heap.size xs t ∧ y1 = xs.toArray := by
    obtain ⟨fuel, hf⟩ := h1
    obtain ⟨t, ht⟩ := open_ty fuel _ _ hf (fits_param hsz (j := 1) rfl rfl)
    exact ⟨y1.toList, t, ht, by simp⟩
  clear hA0 hval0
  refine (walk x0 t0 x1 t1 W w0 w1).mono fun e W' ⟨he, bel⟩ => ?_
  subst he
  exact ⟨_, rfl, _, _, _, [], _, [], hW', trodAll_mk1 (shut_bool Try.underlying4 _), (trodAll_cons_mk (Below.trod laidOut (by kernel_rfl) (of_decide_eq_true (by kernel_rfl)) k0 bel lt0) (trodAll_cons_mk (Below.trod laidOut (by kernel_rfl) (of_decide_eq_true (by kernel_rfl)) k1 bel lt1) trodAll_mk0)), rfl, bel.frame _, fun h => by cases h⟩

theorem over : Rows.typesAskRow.holds Try.pinned (OpenSpec.ofChange Rows.typesAskSpec) :=
  OpenClaim.holds_of_wide 3 Try.f3 rfl rfl rfl rfl rfl rfl rfl ⟨rfl, rfl, rfl, rfl, rfl⟩ rfl rfl rfl rfl rfl (by kernel_rfl) Try.func3 (by kernel_rfl)
    (of_decide_eq_true (by kernel_rfl)) (by unfold Func.isWrapper; first | (rw [if_pos (by decide +kernel)]; kernel_rfl) | (rw [if_neg (by decide +kernel)]; exact ⟨rfl, rfl⟩))
    (fun os started H enc _ => lifted os started H enc)

/-- The statement. -/
theorem proved : Rows.TypesAskSaid := over
#print axioms proved
end Go.Proofs.Ytihdhdmpmmlfcaa.typesAsk
