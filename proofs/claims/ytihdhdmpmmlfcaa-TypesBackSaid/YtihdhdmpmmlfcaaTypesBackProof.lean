/-
  The law 'TypesBack' of the document's layer returns true for every input, and leaves what it was given as it was. No condition.
-/
import Derived.Test.YtihdhdmpmmlfcaaRows
import Derived.WalkKit
import Derived.ProofKit
import Derived.OpenShut
import Derived.ShutString
import Derived.ChangeOld
import Derived.Below
import Derived.Carry
import Derived.Lib.SmallJoins
import Derived.SliceStrings
import Derived.Test.YtihdhdmpmmlfcaaQot
import Derived.Test.YtihdhdmpmmlfcaaQaw
import Derived.Test.YtihdhdmpmmlfcaaQsm
import Derived.Test.YtihdhdmpmmlfcaaQbd
import Derived.Test.YtihdhdmpmmlfcaaQback
namespace Go.Proofs.Ytihdhdmpmmlfcaa.typesBack
open Go.Proofs.Ytihdhdmpmmlfcaa
open Go.ChangeShapes Go.WideShapes Go.ChangeAt Go.RowKit Go.Joins
open Go.ChangeMaps (open_string shut_string)
set_option linter.unusedVariables false

theorem own : ownKnob Try.prog.godebug = none := by kernel_rfl
theorem laidOut : laidOutB Try.prog = true := by kernel_rfl

theorem nmEq_self (a : ByteArray) : nmEq a a = true := by simp [nmEq]
theorem texts_self : ∀ l : List ByteArray, textsS l l = true
  | [] => rfl
  | a :: l => by simp only [textsS]; rw [nmEq_self, texts_self l]; rfl
theorem tySame_self (N : Nat) : ∀ t : Ty, t.nodes ≤ N → tySame t t = true := by
  induction N with
  | zero => intro t h; cases t; unfold Ty.nodes at h; omega
  | succ N ih =>
    intro t h
    cases t with
    | mk k nm n ks =>
    unfold Ty.nodes at h
    have := tys_yes ks ks rfl (fun j h1 h2 => ih _ (by have := tys_mem ks ks[j] (List.getElem_mem h1); omega))
    rw [tySame, this]; simp
theorem tysSame_self (l : List Ty) : (l.length == l.length && tysSame l l) = true := by
  rw [tys_yes l l rfl (fun j h1 h2 => tySame_self _ _ (Nat.le_refl _))]; simp
theorem nodes_two (t u : Ty) (k n : Int) (nm : ByteArray) : (Ty.mk k nm n [t, u]).nodes = 1 + t.nodes + u.nodes := by simp [Ty.nodes, tysNodes]; omega
abbrev nmPair : ByteArray := ⟨#[80, 97, 105, 114]⟩
/-- Two in a row: as a call meets them. -/
theorem pair_row (W : World) (B : Nat) (cs ds : List Value) (t u : Ty) (hB : B ≤ W.heap.size) (ht : TyAt W B cs t) (hu : TyAt W B ds u) : Row (W.alloc (.cells (cs ++ ds).toArray 24)) (W.heap.size + 1) 4 (some ⟨W.heap.size, 0, none⟩) 2 [cs, ds] ∧ TsAt (W.alloc (.cells (cs ++ ds).toArray 24)) B [t, u] [cs, ds] :=
  ⟨row_two W cs ds ht.four hu.four _, (TsAt.one (ht.later (((Below.refl W.heap.size W).alloc (Nat.le_refl _) _).mono hB))).app (TsAt.one (hu.later (((Below.refl W.heap.size W).alloc (Nat.le_refl _) _).mono hB)))⟩
theorem metas_len (t : Ty) : (metasT t).length ≤ t.nodes := by
  have h1 := joinI_len (metL t.all) []
  have h2 := metL_len t.all
  rw [all_len] at h2
  unfold metasT
  simp only [List.length_nil] at h1
  omega
set_option linter.unusedSimpArgs false
set_option maxRecDepth 100000 in
set_option maxHeartbeats 12800000 in
theorem walk (x0 : List Value) (t0 : Ty) (x1 : List Value) (t1 : Tn) (a2 : ByteArray) (w : World) (w0 : TyAt w w.heap.size x0 t0) (w1 : TnAt w w.heap.size x1 t1) (w2 : a2.size ≤ maxLen) :
    Calls Try.prog 6 #[.agg x0.toArray, .agg x1.toArray, .string a2] w fun e w' => e = .returned (.bool true) ∧ Below w.heap.size w w' := by
  obtain ⟨A, A', A'', c, c', c'', L, L', rfl, ⟨hc1, hc2, hrd, hns⟩, ⟨hd1, hd2, hts⟩, ⟨hs1, hs2, hsb⟩⟩ := w1
  have o0 := ty_ones w0
  obtain ⟨b0, b1, b2, b3, rfl⟩ := four_of w0.four
  have sb0 := store_one' b0 (o0 b0 (by simp))
  have sb1 := store_one' b1 (o0 b1 (by simp))
  have sb2 := store_one' b2 (o0 b2 (by simp))
  have sb3 := store_one' b3 (o0 b3 (by simp))
  obtain ⟨n, hn⟩ : ∃ n, t1.names.length = n := ⟨_, rfl⟩
  obtain ⟨m, hm⟩ : ∃ m, t1.ts.length = m := ⟨_, rfl⟩
  obtain ⟨q, hq⟩ : ∃ q, t1.subs.length = q := ⟨_, rfl⟩
  rw [hn] at hc1 hrd ⊢
  rw [hm] at hd1 ⊢
  rw [hq] at hs1 ⊢
  obtain ⟨W2, hW2⟩ : ∃ W2, (w.alloc (.cells #[b0, b1, b2, b3] 24)).alloc (.cells #[.slice A n c, .slice A' m c', .slice A'' q c''] 44) = W2 := ⟨_, rfl⟩
  have hg : Below w.heap.size w W2 := by rw [← hW2]; exact ((Below.refl _ _).alloc (Nat.le_refl _) _).alloc (by simp) _
  have hbb : Blk W2 w.heap.size 24 #[b0, b1, b2, b3] := by rw [← hW2]; exact (Blk.new _ _ _).alloc _
  have hbx : Blk W2 (w.heap.size + 1) 44 #[.slice A n c, .slice A' m c', .slice A'' q c''] := by rw [← hW2]; have := Blk.new (w.alloc (.cells #[b0, b1, b2, b3] 24)) 44 #[.slice A n c, .slice A' m c', .slice A'' q c'']; simpa using this
  have HW := Lib.hid hW2
  have HG := Lib.hid hg
  have RX := Lib.hid (fun (W : World) (h : Below W2.heap.size W2 W) => hbx.below h hbx.lt)
  have RB := Lib.hid (fun (W : World) (h : Below W2.heap.size W2 W) => hbb.below h hbb.lt)
  have TB := Lib.hid (fun (W : World) (h : Below W2.heap.size W2 W) => w0.later (hg.trans (h.mono hg.size)))
  have TS := Lib.hid (fun (W : World) (h : Below W2.heap.size W2 W) => hts.later (hg.trans (h.mono hg.size)))
  have RN := Lib.hid (fun (W : World) (h : Below W2.heap.size W2 W) => hrd.below (hg.trans (h.mono hg.size)))
  have SZ := Lib.hid (fun (W : World) (h : Below W2.heap.size W2 W) => Nat.le_trans hg.size h.size)
  have CS1 := Lib.hid (fun (W : World) (h : Below W2.heap.size W2 W) => show Calls Try.prog 8 #[.agg #[b0, b1, b2, b3], .int .i64 100] W (SmallSays 100 t0 W) from small_any t0 100 w.heap.size W [b0, b1, b2, b3] (by omega) (Nat.le_trans hg.size h.size) (w0.later (hg.trans (h.mono hg.size))))
  have CS2 := Lib.hid (fun (W : World) (h : Below W2.heap.size W2 W) => show Calls Try.prog 25 #[.slice A' m c', .int .i64 50] W (SmallsSays 50 t1.ts W) from smalls_any t1.ts 50 A' L m c' w.heap.size W hm (Nat.le_trans hd1 hd2) (by omega) (Nat.le_trans hg.size h.size) (hts.later (hg.trans (h.mono hg.size))))
  have CA := Lib.hid (fun W => awake_any W)
  have HNM := Lib.hid w2
  have HN := Lib.hid hn
  have HM := Lib.hid hm
  have HNS := Lib.hid hns
  have HVF := Lib.hid (vars_fit w0)
  have hmx : Try.prog.follows .mixedOrders = true := by kernel_rfl
  have p0 := hbx.cell 0
  have p1 := hbx.cell 1
  have q0 := hbb.cell 0
  have q1 := hbb.cell 1
  have q2 := hbb.cell 2
  have q3 := hbb.cell 3
  simp only [zTy, List.getElem?_toArray, List.getElem?_cons_succ, List.getElem?_cons_zero] at q0 q1 q2 q3
  simp only [List.getElem?_toArray, List.getElem?_cons_succ, List.getElem?_cons_zero] at p0 p1
  clear hW2 hg hbx hbb w0 o0 hts hsb hrd hns hn hm hq hc2 hd2 hs2
  go_enter Try.func6, Try.ntmps6
  go_upto_region 3 with (go_at_call 7; rw [HW.out]; (with_reducible refine (CA.out _).mono ?_); rintro e w2 ⟨rfl, hk2⟩; (have pb2 := RB.out w2 hk2); (have q0 := pb2.cell 0); (have q1 := pb2.cell 1); (have q2 := pb2.cell 2); (have q3 := pb2.cell 3); (simp only [zTy, List.getElem?_toArray, List.getElem?_cons_succ, List.getElem?_cons_zero] at q0 q1 q2 q3); (have px := RX.out w2 hk2); (have p0 := px.cell 0); (have p1 := px.cell 1); (simp only [List.getElem?_toArray, List.getElem?_cons_succ, List.getElem?_cons_zero] at p0 p1))
  have C1 := Lib.hid (CS1.out w2 hk2)
  by_cases hn30 : 30 < n
  · have d30 : decide ((30 : Int) < (n : Int)) = true := by simp; omega
    have d30' : decide (30 < n) = true := by simp; omega
    go_wp2_with (go_at_call 8; (with_reducible refine C1.out.mono ?_); rintro e w3 ⟨bb0, rfl, hs0, hk3⟩; (have hK3 := hk2.trans (hk3.mono hk2.size)); clear hs0; (have px := RX.out w3 hK3); (have p0 := px.cell 0); (have p1 := px.cell 1); (simp only [List.getElem?_toArray, List.getElem?_cons_succ, List.getElem?_cons_zero] at p0 p1); cases bb0)
    · go_wp2_with fail
      go_ret
      exact ⟨rfl, HG.out.trans (hK3.mono HG.out.size)⟩
    · go_wp2_with fail
      go_ret
      exact ⟨rfl, HG.out.trans (hK3.mono HG.out.size)⟩
  have d30 : decide ((30 : Int) < (n : Int)) = false := by simp; omega
  have d30' : decide (30 < n) = false := by simp; omega
  go_wp2_with (go_at_call 8; (with_reducible refine C1.out.mono ?_); rintro e w3 ⟨bb0, rfl, hs0, hk3⟩; (have hK3 := hk2.trans (hk3.mono hk2.size)); (have HS0 := Lib.hid hs0); clear hs0 C1; (have px := RX.out w3 hK3); (have p0 := px.cell 0); (have p1 := px.cell 1); (simp only [List.getElem?_toArray, List.getElem?_cons_succ, List.getElem?_cons_zero] at p0 p1); (have C2 := Lib.hid (CS2.out w3 hK3)); cases bb0)
  · go_wp2_with fail
    go_ret
    exact ⟨rfl, HG.out.trans (hK3.mono HG.out.size)⟩
  have hn1 : t0.nodes ≤ 100 := (HS0.out trivial).1
  have hgd : goodT t0 = true := (HS0.out trivial).2
  go_upto_region 5 with (go_at_call 25; (with_reducible refine C2.out.mono ?_); rintro e w4 ⟨bb1, rfl, hs1', hk4⟩; (have hK4 := hK3.trans (hk4.mono hK3.size)); (have HS1 := Lib.hid hs1'); clear hs1' C2; (have px := RX.out w4 hK4); (have p0 := px.cell 0); (have p1 := px.cell 1); (simp only [List.getElem?_toArray, List.getElem?_cons_succ, List.getElem?_cons_zero] at p0 p1); (have pb4 := RB.out w4 hK4); (have q0 := pb4.cell 0); (have q1 := pb4.cell 1); (have q2 := pb4.cell 2); (have q3 := pb4.cell 3); (simp only [zTy, List.getElem?_toArray, List.getElem?_cons_succ, List.getElem?_cons_zero] at q0 q1 q2 q3); cases bb1)
  · go_wp2_with fail
    go_ret
    exact ⟨rfl, HG.out.trans (hK4.mono HG.out.size)⟩
  have hm50 := (HS1.out trivial).2
  obtain ⟨U, hU⟩ : ∃ U, t0.repl (putF t1.names t1.ts) = U := ⟨_, rfl⟩
  have hUn : U.nodes ≤ 5000 := by rw [← hU]; exact Nat.le_trans (put_nodes (K := 50) (by omega) (fun t h => (hm50 t h).1) t0) (by omega)
  obtain ⟨M, hM⟩ : ∃ M, matchC t0 U [] = some M := by rw [← hU]; exact put_found hgd _ _
  have hm30 : m ≤ 30 := by rw [← HM.out]; exact (HS1.out trivial).1
  have CP := Lib.hid (put_any t1.names t1.ts t0 A A' n c m c' w.heap.size L w4 [b0, b1, b2, b3] (SZ.out _ hK4) HN.out hc1 (by omega) ((RN.out _ hK4).more (SZ.out _ hK4)) HNS.out HM.out (by omega) (TS.out _ hK4) (by omega) (TB.out _ hK4))
  rw [hU] at CP
  have HUM := Lib.hid hM
  have HHM := Lib.hid hU
  clear hm50 hM hU
  go_upto_region 6 with (go_at_call 26; (with_reducible refine CP.out.mono ?_); rintro e w5 hp; (obtain ⟨u0, u1, u2, u3, rfl, htu, ou, hk5⟩ := hp.plain); (have su0 := store_one' u0 (ou u0 (by simp))); (have su1 := store_one' u1 (ou u1 (by simp))); (have su2 := store_one' u2 (ou u2 (by simp))); (have su3 := store_one' u3 (ou u3 (by simp))))
  obtain ⟨W5, hW5⟩ : ∃ W5, w5.alloc (.cells #[u0, u1, u2, u3] 24) = W5 := ⟨_, rfl⟩
  rw [hW5]
  obtain ⟨bu, hbu0⟩ : ∃ b, w5.heap.size = b := ⟨_, rfl⟩
  have hk55 : Below w5.heap.size w5 W5 := by rw [← hW5]; exact (Below.refl _ _).alloc (Nat.le_refl _) _
  have hK5 : Below W2.heap.size W2 W5 := hK4.trans ((hk5.trans (hk55.mono hk5.size)).mono hK4.size)
  have hbu : Blk W5 bu 24 #[u0, u1, u2, u3] := by rw [← hW5, ← hbu0]; exact Blk.new _ _ _
  have RU := Lib.hid (fun (W : World) (h : Below W5.heap.size W5 W) => hbu.below h hbu.lt)
  have TU := Lib.hid (fun (W : World) (h : Below W5.heap.size W5 W) => (((htu.later hk55).later (h.mono hk55.size)).more (Nat.le_trans hk55.size h.size)))
  rw [hbu0]
  obtain ⟨nv, hnv⟩ : ∃ nv, (varsT t0).length = nv := ⟨_, rfl⟩
  have hnv9 : nv ≤ 100 := by rw [← hnv]; exact Nat.le_trans (vars_len t0) hn1
  have HNV := Lib.hid hnv
  have CM := Lib.hid (match_any t0 U (by omega) (by omega) (match_vars hgd) W5.heap.size W5 [b0, b1, b2, b3] [u0, u1, u2, u3] (Nat.le_refl _) ((TB.out _ hK5).more (SZ.out _ hK5)) (TU.out _ (Below.refl _ _)))
  have pb5 := RB.out W5 hK5
  have q0 := pb5.cell 0
  have q1 := pb5.cell 1
  have q2 := pb5.cell 2
  have q3 := pb5.cell 3
  simp only [zTy, List.getElem?_toArray, List.getElem?_cons_succ, List.getElem?_cons_zero] at q0 q1 q2 q3
  have r0 := hbu.cell 0
  have r1 := hbu.cell 1
  have r2 := hbu.cell 2
  have r3 := hbu.cell 3
  simp only [zTy, List.getElem?_toArray, List.getElem?_cons_succ, List.getElem?_cons_zero] at r0 r1 r2 r3
  have HK5 := Lib.hid hK5
  clear hW5 hk55 hK5 hbu htu pb5 hnv hbu0 hk5
  go_upto_region 7 with (go_at_call 30; (with_reducible refine CM.out.mono ?_); rintro e W0 hmp; (obtain ⟨Aa, Ab, ca, cb, L6, rfl, hca, hra, hyb, hk6⟩ := MatPost.yes HUM.out HNV.out (Nat.le_refl _) hmp))
  have HK6 := Lib.hid hk6
  have HSW := Lib.hid (HK5.out.trans (hk6.mono HK5.out.size))
  have RNV := Lib.hid (fun (W : World) (h : Below W0.heap.size W0 W) => (hra.below h).more h.size)
  have TYB := Lib.hid (fun (W : World) (h : Below W0.heap.size W0 W) => show TysAt W W.heap.size Ab (tysOf M (varsT t0)) L6 from ⟨(hyb.row.keep fun p hp => h.cell hp).more h.size, fun i h1 h2 => ((hyb.each i h1 h2).later h).more h.size⟩)
  have RV := Lib.hid (fun (W : World) (h : Below W0.heap.size W0 W) => RU.out W (HK6.out.trans (h.mono HK6.out.size)))
  have TV := Lib.hid (fun (W : World) (h : Below W0.heap.size W0 W) => TU.out W (HK6.out.trans (h.mono HK6.out.size)))
  clear hk6 hra hyb q0 q1 q2 q3 r0 r1 r2 r3 hmp
  refine wp_region_held_drew (S := fun w' => Below W0.heap.size W0 w') (by kernel_rfl) ((Below.refl W0.heap.size W0).drew) (fun hHeld => ?_)
  refine takeH' (i := 0) (d := 43) (v := .bool true) rfl (by kernel_rfl) (by kernel_rfl) (by kernel_rfl) (fun _ _ _ h => h) (Or.inl ⟨by rfl, fun w' hS' => by (first | rfl | go_simp)⟩) hHeld rfl ?_
  try simp only [Act.put, List.setIfInBounds_toArray, List.set_cons_zero, List.set_cons_succ]
  refine takeH' (i := 1) (d := 44) (v := .bool false) rfl (by kernel_rfl) (by kernel_rfl) (by kernel_rfl) (fun _ _ _ h => h) (Or.inl ⟨by rfl, fun w' hS' => by (first | rfl | go_simp)⟩) hHeld rfl ?_
  try simp only [Act.put, List.setIfInBounds_toArray, List.set_cons_zero, List.set_cons_succ]
  refine takeH' (i := 2) (d := 45) (v := .bool false) rfl (by kernel_rfl) (by kernel_rfl) (by kernel_rfl) (fun _ _ _ h => h) (Or.inl ⟨by rfl, fun w' hS' => by (first | rfl | go_simp)⟩) hHeld rfl ?_
  try simp only [Act.put, List.setIfInBounds_toArray, List.set_cons_zero, List.set_cons_succ]
  refine takeH' (i := 3) (d := 46) (v := .slice Aa nv ca) rfl (by kernel_rfl) (by kernel_rfl) (by kernel_rfl) (fun _ _ _ h => h) (Or.inl ⟨by rfl, fun w' hS' => by (first | rfl | go_simp)⟩) hHeld rfl ?_
  try simp only [Act.put, List.setIfInBounds_toArray, List.set_cons_zero, List.set_cons_succ]
  refine takeH' (i := 4) (d := 47) (v := .slice Ab nv cb) rfl (by kernel_rfl) (by kernel_rfl) (by kernel_rfl) (fun _ _ _ h => h) (Or.inl ⟨by rfl, fun w' hS' => by (first | rfl | go_simp)⟩) hHeld rfl ?_
  try simp only [Act.put, List.setIfInBounds_toArray, List.set_cons_zero, List.set_cons_succ]
  refine takeH' (i := 5) (d := 48) (v := .agg #[b0, b1, b2, b3]) rfl (by kernel_rfl) (by kernel_rfl) (by kernel_rfl) (fun _ _ _ h => h) (Or.inl ⟨by rfl, fun w' hS' => by (have hbb := RB.out w' (HSW.out.trans (hS'.mono HSW.out.size))); (have q0 := hbb.cell 0); (have q1 := hbb.cell 1); (have q2 := hbb.cell 2); (have q3 := hbb.cell 3); (simp only [List.getElem?_toArray, List.getElem?_cons_succ, List.getElem?_cons_zero] at q0 q1 q2 q3); (first | rfl | go_simp)⟩) hHeld rfl ?_
  try simp only [Act.put, List.setIfInBounds_toArray, List.set_cons_zero, List.set_cons_succ]
  refine takeH' (i := 7) (d := 50) (v := .agg #[u0, u1, u2, u3]) rfl (by kernel_rfl) (by kernel_rfl) (by kernel_rfl) (fun _ _ _ h => h) (Or.inl ⟨by rfl, fun w' hS' => by (have hbb := RV.out w' hS'); (have q0 := hbb.cell 0); (have q1 := hbb.cell 1); (have q2 := hbb.cell 2); (have q3 := hbb.cell 3); (simp only [List.getElem?_toArray, List.getElem?_cons_succ, List.getElem?_cons_zero] at q0 q1 q2 q3); (first | rfl | go_simp)⟩) hHeld rfl ?_
  try simp only [Act.put, List.setIfInBounds_toArray, List.set_cons_zero, List.set_cons_succ]
  refine wpAnyH_ready (rs := [6]) (by kernel_rfl) (by simp) ?_
  refine AllReadyH.cons rfl (fun K hK => ?_) AllReadyH.nil
  try go_simp
  have hTT := (HSW.out.trans ((((Below.refl W0.heap.size W0).drew)).mono HSW.out.size))
  refine (show Calls Try.prog 26 #[.slice Aa nv ca, .slice Ab nv cb, .agg #[b0, b1, b2, b3]] W0.drew (TyPost (W0.drew).heap.size U W0.drew) by have hh := put_any (varsT t0) (tysOf M (varsT t0)) t0 Aa Ab nv ca nv cb (W0.drew).heap.size L6 W0.drew [b0, b1, b2, b3] (Nat.le_refl _) HNV.out hca (by omega) (RNV.out _ ((Below.refl W0.heap.size W0).drew)) HVF.out (by rw [tysOf_len]; exact HNV.out) (by omega) (TYB.out _ ((Below.refl W0.heap.size W0).drew)) (by omega) ((TB.out _ hTT).more (SZ.out _ hTT)); rw [match_back hgd HUM.out] at hh; exact hh).mono ?_
  rintro e v7 hp
  obtain ⟨f0, f1, f2, f3, rfl, htf, of, hbn⟩ := hp.plain
  have hSv7 : Below W0.heap.size W0 v7 := (((Below.refl W0.heap.size W0).drew)).trans (hbn.mono (by have := (((Below.refl W0.heap.size W0).drew)).size; omega))
  clear hTT
  clear hbn
  go_wp2_with fail
  refine hK.out _ _ hSv7 (fun hHeld => ?_)
  clear hK K
  try simp only [Act.put, List.setIfInBounds_toArray, List.set_cons_zero, List.set_cons_succ]
  refine wpAnyH_ready (rs := [8]) (by kernel_rfl) (by simp) ?_
  refine AllReadyH.cons rfl (fun K hK => ?_) AllReadyH.nil
  try go_simp
  have hTT := (HSW.out.trans ((hSv7).mono HSW.out.size))
  refine (show Calls Try.prog 12 #[.agg #[f0, f1, f2, f3], .agg #[u0, u1, u2, u3]] v7 (fun e w' => e = .returned (.bool true) ∧ Below (v7).heap.size v7 w') by have hh := rsametype_any (Ty.nodes U) U U (Nat.le_refl _) (v7).heap.size v7 [f0, f1, f2, f3] [u0, u1, u2, u3] (Nat.le_refl _) htf (TV.out _ hSv7); rw [tySame_self _ U (Nat.le_refl _)] at hh; exact hh).mono ?_
  rintro e v8 ⟨rfl, hbn⟩
  have hSv8 : Below W0.heap.size W0 v8 := (hSv7).trans (hbn.mono (by have := (hSv7).size; omega))
  clear hTT
  clear hbn
  go_wp2_with fail
  refine hK.out _ _ hSv8 (fun hHeld => ?_)
  clear hK K
  try simp only [Act.put, List.setIfInBounds_toArray, List.set_cons_zero, List.set_cons_succ]
  refine takeH' (i := 9) (d := 52) (v := .bool false) rfl (by kernel_rfl) (by kernel_rfl) (by kernel_rfl) (fun _ _ _ h => h) (Or.inl ⟨by rfl, fun w' hS' => by (first | rfl | go_simp)⟩) hHeld rfl ?_
  try simp only [Act.put, List.setIfInBounds_toArray, List.set_cons_zero, List.set_cons_succ]
  refine takeH' (i := 10) (d := 53) (v := .bool false) rfl (by kernel_rfl) (by kernel_rfl) (by kernel_rfl) (fun _ _ _ h => h) (Or.inl ⟨by rfl, fun w' hS' => by (first | rfl | go_simp)⟩) hHeld rfl ?_
  try simp only [Act.put, List.setIfInBounds_toArray, List.set_cons_zero, List.set_cons_succ]
  refine takeH' (i := 11) (d := 54) (v := .bool false) rfl (by kernel_rfl) (by kernel_rfl) (by kernel_rfl) (fun _ _ _ h => h) (Or.inl ⟨by rfl, fun w' hS' => by (first | rfl | go_simp)⟩) hHeld rfl ?_
  try simp only [Act.put, List.setIfInBounds_toArray, List.set_cons_zero, List.set_cons_succ]
  refine takeH' (i := 12) (d := 55) (v := .slice Aa nv ca) rfl (by kernel_rfl) (by kernel_rfl) (by kernel_rfl) (fun _ _ _ h => h) (Or.inl ⟨by rfl, fun w' hS' => by (first | rfl | go_simp)⟩) hHeld rfl ?_
  try simp only [Act.put, List.setIfInBounds_toArray, List.set_cons_zero, List.set_cons_succ]
  refine takeH' (i := 13) (d := 56) (v := .agg #[b0, b1, b2, b3]) rfl (by kernel_rfl) (by kernel_rfl) (by kernel_rfl) (fun _ _ _ h => h) (Or.inl ⟨by rfl, fun w' hS' => by (have hbb := RB.out w' (HSW.out.trans (hS'.mono HSW.out.size))); (have q0 := hbb.cell 0); (have q1 := hbb.cell 1); (have q2 := hbb.cell 2); (have q3 := hbb.cell 3); (simp only [List.getElem?_toArray, List.getElem?_cons_succ, List.getElem?_cons_zero] at q0 q1 q2 q3); (first | rfl | go_simp)⟩) hHeld rfl ?_
  try simp only [Act.put, List.setIfInBounds_toArray, List.set_cons_zero, List.set_cons_succ]
  refine wpAnyH_ready (rs := [14]) (by kernel_rfl) (by simp) ?_
  refine AllReadyH.cons rfl (fun K hK => ?_) AllReadyH.nil
  try go_simp
  have hTT := (HSW.out.trans ((hSv8).mono HSW.out.size))
  refine (pvars_any t0 (by omega) w.heap.size v8 [b0, b1, b2, b3] (SZ.out _ hTT) (TB.out _ hTT)).mono ?_
  rintro e v9 ⟨vv, rfl, ho, hbn⟩
  obtain ⟨An, cn, rfl, hrn⟩ := own_shape ho
  have hSv9 : Below W0.heap.size W0 v9 := (hSv8).trans (hbn.mono (by have := (hSv8).size; omega))
  clear hTT
  clear hbn
  go_wp2_with fail
  refine hK.out _ _ hSv9 (fun hHeld => ?_)
  clear hK K
  try simp only [Act.put, List.setIfInBounds_toArray, List.set_cons_zero, List.set_cons_succ]
  refine wpAnyH_ready (rs := [15]) (by kernel_rfl) (by simp) ?_
  refine AllReadyH.cons rfl (fun K hK => ?_) AllReadyH.nil
  try go_simp
  have hTT := (HSW.out.trans ((hSv9).mono HSW.out.size))
  refine (show Calls Try.prog 14 #[.slice Aa nv ca, .slice An (varsT t0).length cn] v9 (fun e w' => e = .returned (.bool true) ∧ ∃ k, w' = (v9).drewN k) by have hh := rtexts_any (varsT t0) (varsT t0) Aa An nv (varsT t0).length ca cn (v9).heap.size v9 (by omega) (RNV.out _ hSv9) hrn; rw [texts_self] at hh; exact hh).mono ?_
  rintro e v10 ⟨rfl, kk, hkk⟩
  have hbn : Below (v9).heap.size (v9) v10 := by rw [hkk]; exact below_drewN (Below.refl _ _) kk
  clear hkk
  have hSv10 : Below W0.heap.size W0 v10 := (hSv9).trans (hbn.mono (by have := (hSv9).size; omega))
  clear hTT
  clear hbn
  go_wp2_with fail
  refine hK.out _ _ hSv10 (fun hHeld => ?_)
  clear hK K
  try simp only [Act.put, List.setIfInBounds_toArray, List.set_cons_zero, List.set_cons_succ]
  refine takeH' (i := 16) (d := 59) (v := .bool false) rfl (by kernel_rfl) (by kernel_rfl) (by kernel_rfl) (fun _ _ _ h => h) (Or.inl ⟨by rfl, fun w' hS' => by (first | rfl | go_simp)⟩) hHeld rfl ?_
  try simp only [Act.put, List.setIfInBounds_toArray, List.set_cons_zero, List.set_cons_succ]
  refine takeH' (i := 17) (d := 60) (v := .bool false) rfl (by kernel_rfl) (by kernel_rfl) (by kernel_rfl) (fun _ _ _ h => h) (Or.inl ⟨by rfl, fun w' hS' => by (first | rfl | go_simp)⟩) hHeld rfl ?_
  try simp only [Act.put, List.setIfInBounds_toArray, List.set_cons_zero, List.set_cons_succ]
  refine wpAnyH_done (by kernel_rfl) ?_ _
  have hSW7 := HSW.out.trans ((hSv10).mono HSW.out.size)
  have hS07 := hSv10
  clear hHeld
  have HS7 := Lib.hid hSW7
  have H07 := Lib.hid hS07
  have pbv := RB.out v10 hSW7
  have q0 := pbv.cell 0
  have q1 := pbv.cell 1
  have q2 := pbv.cell 2
  have q3 := pbv.cell 3
  simp only [zTy, List.getElem?_toArray, List.getElem?_cons_succ, List.getElem?_cons_zero] at q0 q1 q2 q3
  have CV := Lib.hid (pvars_any t0 (by omega) w.heap.size v10 [b0, b1, b2, b3] (SZ.out _ hSW7) (TB.out _ hSW7))
  clear pbv hSW7 hS07
  go_wp2_with (go_at_call 15; (with_reducible refine CV.out.mono ?_); rintro e w8 ⟨vv, rfl, ho, hk8⟩; (obtain ⟨Av, cv, rfl, hrv⟩ := own_shape ho); rw [HNV.out]; rw [HNV.out] at hrv; have hK8 := HS7.out.trans (hk8.mono HS7.out.size); have h08 := H07.out.trans (hk8.mono H07.out.size))
  have HRV := Lib.hid hrv
  have HK8 := Lib.hid hK8
  have H08 := Lib.hid h08
  clear hrv ho hk8 hK8 h08
  go_loopw [64] (fun i wr => ∃ j : Nat, i = .int .i64 j ∧ j ≤ nv ∧ (∀ k (h : k < (varsT t0).length), k < j → nmEq (varsT t0)[k] a2 = false) ∧ Below w8.heap.size w8 wr) (fun i _ => nv - (intOf i).toNat)
  case atStart => exact ⟨0, rfl, Nat.zero_le _, fun k h h2 => by omega, Below.refl _ _⟩
  case round =>
    obtain ⟨j, rfl, hj, hno, hbe⟩ := hrel
    have HNO := Lib.hid hno
    have HBE := Lib.hid hbe
    have HKR := Lib.hid (HK8.out.trans (hbe.mono HK8.out.size))
    by_cases hlt : j < nv
    · obtain ⟨ad, rfl, hbl, hl', hc⟩ := nm_at (HRV.out.below hbe) hlt
      obtain ⟨x, hx⟩ : ∃ x, (varsT t0)[j] = x := ⟨_, rfl⟩
      rw [hx] at hc
      clear hno hbe
      cases e2 : nmEq x a2 with
      | true =>
        have d2 := nm_yes e2
        go_wp2_with fail
        go_ret
        exact ⟨rfl, HG.out.trans (HKR.out.mono HG.out.size)⟩
      | false =>
        have d2 := nm_no e2
        have HX := Lib.hid (show nmEq (varsT t0)[j] a2 = false by rw [hx]; exact e2)
        clear e2 hx
        go_wp2_with fail
        go_roundw
        case rel => exact ⟨j + 1, by go_num, by omega, fun k h h2 => by
          rcases Nat.lt_or_ge k j with h3 | h3
          · exact HNO.out k h h3
          · have : k = j := by omega
            subst this; exact HX.out, HBE.out⟩
        case measure => simp [intOf]; omega
    · have dj : decide ((j : Int) < (nv : Int)) = false := by simp; omega
      have HOT := Lib.hid (show ∀ v ∈ varsT t0, nmEq v a2 = false from fun v hv => by
        obtain ⟨k, hk, rfl⟩ := List.getElem_of_mem hv
        exact HNO.out k hk (by have := HNV.out; omega))
      have H0R := Lib.hid (H08.out.trans (hbe.mono H08.out.size))
      clear hno hbe HNO
      have HSW := Lib.hid HKR.out
      have RVr := Lib.hid (fun (W : World) (h : Below wr.heap.size wr W) => RV.out W (H0R.out.trans (h.mono H0R.out.size)))
      have TVr := Lib.hid (fun (W : World) (h : Below wr.heap.size wr W) => TV.out W (H0R.out.trans (h.mono H0R.out.size)))
      go_upto_region 15 with fail
      refine wp_region_held_drew (S := fun w' => Below wr.heap.size wr w') (by kernel_rfl) ((Below.refl wr.heap.size wr).drew) (fun hHeld => ?_)
      refine takeH' (i := 0) (d := 72) (v := .string a2) rfl (by kernel_rfl) (by kernel_rfl) (by kernel_rfl) (fun _ _ _ h => h) (Or.inl ⟨by rfl, fun w' hS' => by (first | rfl | go_simp)⟩) hHeld rfl ?_
      try simp only [Act.put, List.setIfInBounds_toArray, List.set_cons_zero, List.set_cons_succ]
      refine takeH' (i := 2) (d := 74) (v := .agg #[u0, u1, u2, u3]) rfl (by kernel_rfl) (by kernel_rfl) (by kernel_rfl) (fun _ _ _ h => h) (Or.inl ⟨by rfl, fun w' hS' => by (have hbb := RVr.out w' hS'); (have q0 := hbb.cell 0); (have q1 := hbb.cell 1); (have q2 := hbb.cell 2); (have q3 := hbb.cell 3); (simp only [List.getElem?_toArray, List.getElem?_cons_succ, List.getElem?_cons_zero] at q0 q1 q2 q3); (first | rfl | go_simp)⟩) hHeld rfl ?_
      try simp only [Act.put, List.setIfInBounds_toArray, List.set_cons_zero, List.set_cons_succ]
      refine takeH' (i := 4) (d := 76) (v := .agg #[b0, b1, b2, b3]) rfl (by kernel_rfl) (by kernel_rfl) (by kernel_rfl) (fun _ _ _ h => h) (Or.inl ⟨by rfl, fun w' hS' => by (have hbb := RB.out w' (HSW.out.trans (hS'.mono HSW.out.size))); (have q0 := hbb.cell 0); (have q1 := hbb.cell 1); (have q2 := hbb.cell 2); (have q3 := hbb.cell 3); (simp only [List.getElem?_toArray, List.getElem?_cons_succ, List.getElem?_cons_zero] at q0 q1 q2 q3); (first | rfl | go_simp)⟩) hHeld rfl ?_
      try simp only [Act.put, List.setIfInBounds_toArray, List.set_cons_zero, List.set_cons_succ]
      refine takeH' (i := 6) (d := 78) (v := .agg #[b0, b1, b2, b3]) rfl (by kernel_rfl) (by kernel_rfl) (by kernel_rfl) (fun _ _ _ h => h) (Or.inl ⟨by rfl, fun w' hS' => by (have hbb := RB.out w' (HSW.out.trans (hS'.mono HSW.out.size))); (have q0 := hbb.cell 0); (have q1 := hbb.cell 1); (have q2 := hbb.cell 2); (have q3 := hbb.cell 3); (simp only [List.getElem?_toArray, List.getElem?_cons_succ, List.getElem?_cons_zero] at q0 q1 q2 q3); (first | rfl | go_simp)⟩) hHeld rfl ?_
      try simp only [Act.put, List.setIfInBounds_toArray, List.set_cons_zero, List.set_cons_succ]
      refine wpAnyH_ready (rs := [1, 3]) (by kernel_rfl) (by simp) ?_
      refine AllReadyH.cons rfl (fun K hK => ?_) (AllReadyH.cons rfl (fun K hK => ?_) AllReadyH.nil)
      · try go_simp
        obtain ⟨v20, hwv20⟩ : ∃ x, World.alloc (wr.drew) (.cells #[.string a2] 9) = x := ⟨_, rfl⟩
        have hbn : Below (wr.drew).heap.size (wr.drew) v20 := by rw [← hwv20]; exact (Below.refl _ _).alloc (Nat.le_refl _) _
        have rS : Reads v20 ((wr.drew).heap.size + 1) 1 (some ⟨(wr.drew).heap.size, 0, none⟩) 1 (nmVals [a2]) := by rw [← hwv20]; exact names_1 _ a2 _
        have hszv20 : v20.heap.size = (wr.drew).heap.size + 1 := by rw [← hwv20]; exact alloc_size _ _
        rw [← hszv20] at rS
        obtain ⟨pS, hpS⟩ : ∃ p, (wr.drew).heap.size = p := ⟨_, rfl⟩
        rw [hpS] at rS
        have hSv20 : Below wr.heap.size wr v20 := (((Below.refl wr.heap.size wr).drew)).trans (hbn.mono (((Below.refl wr.heap.size wr).drew)).size)
        rw [show (World.alloc wr (.cells #[.string a2] 9)).drew = v20 from hwv20]
        try rw [show wr.heap.size = pS from hpS]
        try rw [hpS]
        clear hwv20 hszv20
        clear hbn hpS
        refine hK.out _ _ hSv20 (fun hHeld => ?_)
        clear hK K
        try simp only [Act.put, List.setIfInBounds_toArray, List.set_cons_zero, List.set_cons_succ]
        refine wpAnyH_ready (rs := [3]) (by kernel_rfl) (by simp) ?_
        refine AllReadyH.cons rfl (fun K hK => ?_) AllReadyH.nil
        try go_simp
        obtain ⟨v21, hwv21⟩ : ∃ x, World.alloc (v20) (.cells #[u0, u1, u2, u3] 24) = x := ⟨_, rfl⟩
        have hbn : Below (v20).heap.size (v20) v21 := by rw [← hwv21]; exact (Below.refl _ _).alloc (Nat.le_refl _) _
        have rT : TysAt v21 ((v20).heap.size + 1) (some ⟨(v20).heap.size, 0, none⟩) [U] [[u0, u1, u2, u3]] := by rw [← hwv21]; exact tys_1 (TVr.out _ hSv20) _
        have hszv21 : v21.heap.size = (v20).heap.size + 1 := by rw [← hwv21]; exact alloc_size _ _
        rw [← hszv21] at rT
        obtain ⟨pT, hpT⟩ : ∃ p, (v20).heap.size = p := ⟨_, rfl⟩
        rw [hpT] at rT
        have hSv21 : Below wr.heap.size wr v21 := (hSv20).trans (hbn.mono (hSv20).size)
        try rw [hwv21]
        try rw [hpT]
        clear hwv21 hszv21
        have rS := (rS.below hbn).more hbn.size
        clear hbn hpT
        refine hK.out _ _ hSv21 (fun hHeld => ?_)
        clear hK K
        try simp only [Act.put, List.setIfInBounds_toArray, List.set_cons_zero, List.set_cons_succ]
        refine wpAnyH_ready (rs := [5]) (by kernel_rfl) (by simp) ?_
        refine AllReadyH.cons rfl (fun K hK => ?_) AllReadyH.nil
        try go_simp
        have hTT := (HSW.out.trans ((hSv21).mono HSW.out.size))
        refine (show Calls Try.prog 26 #[.slice (some ⟨pS, 0, none⟩) 1 1, .slice (some ⟨pT, 0, none⟩) 1 1, .agg #[b0, b1, b2, b3]] v21 (TyPost (v21).heap.size t0 v21) by have hh := put_any [a2] [U] t0 (some ⟨pS, 0, none⟩) (some ⟨pT, 0, none⟩) 1 1 1 1 (v21).heap.size [[u0, u1, u2, u3]] v21 [b0, b1, b2, b3] (Nat.le_refl _) rfl (by omega) (by omega) rS (fun s h => by simp at h; subst h; exact HNM.out) rfl (by omega) rT (by omega) ((TB.out _ hTT).more (SZ.out _ hTT)); rw [put_other HOT.out] at hh; exact hh).mono ?_
        rintro e v22 hp
        obtain ⟨f0, f1, f2, f3, rfl, htf, of, hbn⟩ := hp.plain
        have hSv22 : Below wr.heap.size wr v22 := (hSv21).trans (hbn.mono (by have := (hSv21).size; omega))
        clear hTT
        clear hbn
        go_wp2_with fail
        refine hK.out _ _ hSv22 (fun hHeld => ?_)
        clear hK K
        try simp only [Act.put, List.setIfInBounds_toArray, List.set_cons_zero, List.set_cons_succ]
        refine wpAnyH_ready (rs := [7]) (by kernel_rfl) (by simp) ?_
        refine AllReadyH.cons rfl (fun K hK => ?_) AllReadyH.nil
        try go_simp
        have hTT := (HSW.out.trans ((hSv22).mono HSW.out.size))
        refine (show Calls Try.prog 12 #[.agg #[f0, f1, f2, f3], .agg #[b0, b1, b2, b3]] v22 (fun e w' => e = .returned (.bool true) ∧ Below (v22).heap.size v22 w') by have hh := rsametype_any (Ty.nodes t0) t0 t0 (Nat.le_refl _) (v22).heap.size v22 [f0, f1, f2, f3] [b0, b1, b2, b3] (Nat.le_refl _) htf ((TB.out _ hTT).more (SZ.out _ hTT)); rw [tySame_self _ t0 (Nat.le_refl _)] at hh; exact hh).mono ?_
        rintro e v23 ⟨rfl, hbn⟩
        have hSv23 : Below wr.heap.size wr v23 := (hSv22).trans (hbn.mono (by have := (hSv22).size; omega))
        clear hTT
        clear hbn
        go_wp2_with fail
        refine hK.out _ _ hSv23 (fun hHeld => ?_)
        clear hK K
        try simp only [Act.put, List.setIfInBounds_toArray, List.set_cons_zero, List.set_cons_succ]
        refine takeH' (i := 8) (d := 6) (v := .bool true) rfl (by kernel_rfl) (by kernel_rfl) (by kernel_rfl) (fun _ _ _ h => h) (Or.inl ⟨by rfl, fun w' hS' => by (first | rfl | go_simp)⟩) hHeld rfl ?_
        try simp only [Act.put, List.setIfInBounds_toArray, List.set_cons_zero, List.set_cons_succ]
        refine wpAnyH_done (by kernel_rfl) ?_ _
        have HEND := Lib.hid (HG.out.trans ((HSW.out.trans ((hSv23).mono HSW.out.size)).mono HG.out.size))
        go_wp2_with fail
        go_ret
        exact ⟨rfl, HEND.out⟩
      · try go_simp
        obtain ⟨v20, hwv20⟩ : ∃ x, World.alloc (wr.drew) (.cells #[u0, u1, u2, u3] 24) = x := ⟨_, rfl⟩
        have hbn : Below (wr.drew).heap.size (wr.drew) v20 := by rw [← hwv20]; exact (Below.refl _ _).alloc (Nat.le_refl _) _
        have rT : TysAt v20 ((wr.drew).heap.size + 1) (some ⟨(wr.drew).heap.size, 0, none⟩) [U] [[u0, u1, u2, u3]] := by rw [← hwv20]; exact tys_1 (TVr.out _ ((Below.refl wr.heap.size wr).drew)) _
        have hszv20 : v20.heap.size = (wr.drew).heap.size + 1 := by rw [← hwv20]; exact alloc_size _ _
        rw [← hszv20] at rT
        obtain ⟨pT, hpT⟩ : ∃ p, (wr.drew).heap.size = p := ⟨_, rfl⟩
        rw [hpT] at rT
        have hSv20 : Below wr.heap.size wr v20 := (((Below.refl wr.heap.size wr).drew)).trans (hbn.mono (((Below.refl wr.heap.size wr).drew)).size)
        rw [show (World.alloc wr (.cells #[u0, u1, u2, u3] 24)).drew = v20 from hwv20]
        try rw [show wr.heap.size = pT from hpT]
        try rw [hpT]
        clear hwv20 hszv20
        clear hbn hpT
        refine hK.out _ _ hSv20 (fun hHeld => ?_)
        clear hK K
        try simp only [Act.put, List.setIfInBounds_toArray, List.set_cons_zero, List.set_cons_succ]
        refine wpAnyH_ready (rs := [1]) (by kernel_rfl) (by simp) ?_
        refine AllReadyH.cons rfl (fun K hK => ?_) AllReadyH.nil
        try go_simp
        obtain ⟨v21, hwv21⟩ : ∃ x, World.alloc (v20) (.cells #[.string a2] 9) = x := ⟨_, rfl⟩
        have hbn : Below (v20).heap.size (v20) v21 := by rw [← hwv21]; exact (Below.refl _ _).alloc (Nat.le_refl _) _
        have rS : Reads v21 ((v20).heap.size + 1) 1 (some ⟨(v20).heap.size, 0, none⟩) 1 (nmVals [a2]) := by rw [← hwv21]; exact names_1 _ a2 _
        have hszv21 : v21.heap.size = (v20).heap.size + 1 := by rw [← hwv21]; exact alloc_size _ _
        rw [← hszv21] at rS
        obtain ⟨pS, hpS⟩ : ∃ p, (v20).heap.size = p := ⟨_, rfl⟩
        rw [hpS] at rS
        have hSv21 : Below wr.heap.size wr v21 := (hSv20).trans (hbn.mono (hSv20).size)
        try rw [hwv21]
        try rw [hpS]
        clear hwv21 hszv21
        have rT : TysAt _ _ _ _ _ := ⟨(rT.row.keep fun p hp => hbn.cell hp).more hbn.size, fun i h1 h2 => ((rT.each i h1 h2).later hbn).more hbn.size⟩
        clear hbn hpS
        refine hK.out _ _ hSv21 (fun hHeld => ?_)
        clear hK K
        try simp only [Act.put, List.setIfInBounds_toArray, List.set_cons_zero, List.set_cons_succ]
        refine wpAnyH_ready (rs := [5]) (by kernel_rfl) (by simp) ?_
        refine AllReadyH.cons rfl (fun K hK => ?_) AllReadyH.nil
        try go_simp
        have hTT := (HSW.out.trans ((hSv21).mono HSW.out.size))
        refine (show Calls Try.prog 26 #[.slice (some ⟨pS, 0, none⟩) 1 1, .slice (some ⟨pT, 0, none⟩) 1 1, .agg #[b0, b1, b2, b3]] v21 (TyPost (v21).heap.size t0 v21) by have hh := put_any [a2] [U] t0 (some ⟨pS, 0, none⟩) (some ⟨pT, 0, none⟩) 1 1 1 1 (v21).heap.size [[u0, u1, u2, u3]] v21 [b0, b1, b2, b3] (Nat.le_refl _) rfl (by omega) (by omega) rS (fun s h => by simp at h; subst h; exact HNM.out) rfl (by omega) rT (by omega) ((TB.out _ hTT).more (SZ.out _ hTT)); rw [put_other HOT.out] at hh; exact hh).mono ?_
        rintro e v22 hp
        obtain ⟨f0, f1, f2, f3, rfl, htf, of, hbn⟩ := hp.plain
        have hSv22 : Below wr.heap.size wr v22 := (hSv21).trans (hbn.mono (by have := (hSv21).size; omega))
        clear hTT
        clear hbn
        go_wp2_with fail
        refine hK.out _ _ hSv22 (fun hHeld => ?_)
        clear hK K
        try simp only [Act.put, List.setIfInBounds_toArray, List.set_cons_zero, List.set_cons_succ]
        refine wpAnyH_ready (rs := [7]) (by kernel_rfl) (by simp) ?_
        refine AllReadyH.cons rfl (fun K hK => ?_) AllReadyH.nil
        try go_simp
        have hTT := (HSW.out.trans ((hSv22).mono HSW.out.size))
        refine (show Calls Try.prog 12 #[.agg #[f0, f1, f2, f3], .agg #[b0, b1, b2, b3]] v22 (fun e w' => e = .returned (.bool true) ∧ Below (v22).heap.size v22 w') by have hh := rsametype_any (Ty.nodes t0) t0 t0 (Nat.le_refl _) (v22).heap.size v22 [f0, f1, f2, f3] [b0, b1, b2, b3] (Nat.le_refl _) htf ((TB.out _ hTT).more (SZ.out _ hTT)); rw [tySame_self _ t0 (Nat.le_refl _)] at hh; exact hh).mono ?_
        rintro e v23 ⟨rfl, hbn⟩
        have hSv23 : Below wr.heap.size wr v23 := (hSv22).trans (hbn.mono (by have := (hSv22).size; omega))
        clear hTT
        clear hbn
        go_wp2_with fail
        refine hK.out _ _ hSv23 (fun hHeld => ?_)
        clear hK K
        try simp only [Act.put, List.setIfInBounds_toArray, List.set_cons_zero, List.set_cons_succ]
        refine takeH' (i := 8) (d := 6) (v := .bool true) rfl (by kernel_rfl) (by kernel_rfl) (by kernel_rfl) (fun _ _ _ h => h) (Or.inl ⟨by rfl, fun w' hS' => by (first | rfl | go_simp)⟩) hHeld rfl ?_
        try simp only [Act.put, List.setIfInBounds_toArray, List.set_cons_zero, List.set_cons_succ]
        refine wpAnyH_done (by kernel_rfl) ?_ _
        have HEND := Lib.hid (HG.out.trans ((HSW.out.trans ((hSv23).mono HSW.out.size)).mono HG.out.size))
        go_wp2_with fail
        go_ret
        exact ⟨rfl, HEND.out⟩

set_option maxRecDepth 100000 in
theorem lifted (os : Os) (started : os.Started) (H : Type) (enc : TypeId × Value → H) :
    ReturnsInHanded {} Try.checked os 6 .any (Rows.typesBackSpec.pre6 enc Try.prog Try.f6 Rows.typesBackRow.domain false) (Rows.typesBackSpec.post enc Try.prog Try.f6 false true false false) := by
  refine returnsInHanded_of_change_sized (C := Try.checked) own started (by kernel_rfl) Try.func6
    (ChangeSpec.witness6 (enc := enc) (C := Try.checked) false ⟨#[], #[.agg #[.int .i64 0, .string ⟨#[]⟩, .int .i64 0, .slice none 0 0], .agg #[.slice none 0 0, .slice none 0 0, .slice none 0 0], .string ByteArray.empty], []⟩ 8 (by kernel_rfl) (by kernel_rfl) (by kernel_rfl) (by kernel_rfl)) ?_
  intro W base args ds gs before hval0 hW hcnd hsz0 _
  have hsz : (DataW.weightsEach Try.prog (Try.f6.params.toList ++ Rows.typesBackSpec.plain.varTypes Try.prog) (ds ++ gs)).all (· ≤ reachBytes) = true := hsz0
  rw [Try.params6] at hsz
  clear hsz0
  have hval : ∀ (j : Nat) t v, Try.f6.params[j]? = some t → args[j]? = some v → Value.okWide Try.prog W .any base t v := hval0
  have hW' := hW
  obtain ⟨p, q, hA0, hV, rfl, hfz, hnd⟩ := hW
  have hA : DataW.TrodAll enc Try.prog W 0 (fun _ => true) true Try.f6.params.toList args.toList ds p := hA0
  rw [Try.params6] at hA hval
  obtain ⟨v0, vs0, d0, ds0, p0, q0, hargs, rfl, rfl, h0, r0⟩ := trodAll_cons hA
  obtain ⟨v1, vs1, d1, ds1, p1, q1, rfl, rfl, rfl, h1, r1⟩ := trodAll_cons r0
  obtain ⟨v2, vs2, d2, ds2, p2, q2, rfl, rfl, rfl, h2, r2⟩ := trodAll_cons r1
  obtain ⟨rfl, rfl, rfl⟩ := trodAll_nil r2
  obtain rfl : args = #[v0, v1, v2] := by cases args; simp_all
  obtain ⟨rfl, rfl⟩ := trodVars_none hV
  have k0 := h0
  have lt0 : ∀ x ∈ p0, x.block < W.heap.size := by obtain ⟨m, hm⟩ := k0; exact DataW.trod_lt m _ _ _ hm
  obtain ⟨y0, rfl, _⟩ := okWide_struct Try.underlying24 (hval 0 24 v0 rfl rfl)
  obtain ⟨x0, t0, w0, rfl⟩ : ∃ xs t, TyAt W W.heap.size xs t ∧ y0 = xs.toArray := by
    obtain ⟨fuel, hf⟩ := h0
    obtain ⟨t, ht⟩ := open_ty fuel _ _ hf (fits_param hsz (j := 0) rfl rfl)
    exact ⟨y0.toList, t, ht, by simp⟩
  have k1 := h1
  have lt1 : ∀ x ∈ p1, x.block < W.heap.size := by obtain ⟨m, hm⟩ := k1; exact DataW.trod_lt m _ _ _ hm
  obtain ⟨y1, rfl, _⟩ := okWide_struct Try.underlying44 (hval 1 44 v1 rfl rfl)
  obtain ⟨x1, t1, w1, rfl⟩ : ∃ xs t, TnAt W W.heap.size xs t ∧ y1 = xs.toArray := by
    obtain ⟨fuel, hf⟩ := h1
    obtain ⟨t, ht⟩ := open_tn fuel _ _ hf (fits_param hsz (j := 1) rfl rfl)
    exact ⟨y1.toList, t, ht, by simp⟩
  have k2 := h2
  have lt2 : ∀ x ∈ p2, x.block < W.heap.size := by obtain ⟨m, hm⟩ := k2; exact DataW.trod_lt m _ _ _ hm
  obtain ⟨a2, rfl, rfl, rfl, w2⟩ := open_string Try.underlying9 (hval 2 9 v2 rfl rfl) h2
  clear hA0 hval0
  refine (walk x0 t0 x1 t1 a2 W w0 w1 w2).mono fun e W' ⟨he, bel⟩ => ?_
  subst he
  exact ⟨_, rfl, _, _, _, [], _, [], hW', trodAll_mk1 (shut_bool Try.underlying4 _), (trodAll_cons_mk (Below.trod laidOut (by kernel_rfl) (of_decide_eq_true (by kernel_rfl)) k0 bel lt0) (trodAll_cons_mk (Below.trod laidOut (by kernel_rfl) (of_decide_eq_true (by kernel_rfl)) k1 bel lt1) (trodAll_cons_mk (Below.trod laidOut (by kernel_rfl) (of_decide_eq_true (by kernel_rfl)) k2 bel lt2) trodAll_mk0))), rfl, bel.frame _, fun h => by cases h⟩

theorem over : Rows.typesBackRow.holds Try.pinned (OpenSpec.ofChange Rows.typesBackSpec) :=
  OpenClaim.holds_of_wide 6 Try.f6 rfl rfl rfl rfl rfl rfl rfl ⟨rfl, rfl, rfl, rfl, rfl⟩ rfl rfl rfl rfl rfl (by kernel_rfl) Try.func6 (by kernel_rfl)
    (of_decide_eq_true (by kernel_rfl)) (by unfold Func.isWrapper; first | (rw [if_pos (by decide +kernel)]; kernel_rfl) | (rw [if_neg (by decide +kernel)]; exact ⟨rfl, rfl⟩))
    (fun os started H enc _ => lifted os started H enc)

/-- The statement. -/
theorem proved : Rows.TypesBackSaid := over
#print axioms proved
end Go.Proofs.Ytihdhdmpmmlfcaa.typesBack
