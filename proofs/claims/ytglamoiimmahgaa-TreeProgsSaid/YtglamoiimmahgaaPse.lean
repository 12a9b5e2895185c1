/- Walks: the program's equality of expressions, bindings and alternatives. -/
import Derived.Test.YtglamoiimmahgaaPls
import Derived.Test.YtglamoiimmahgaaMass
namespace Go.Proofs.Ytglamoiimmahgaa
open Go.RowKit
set_option linter.unusedVariables false
set_option linter.unusedSimpArgs false
set_option maxRecDepth 100000
theorem bd_exp_nodes : ∀ b : Bd, b.nodes = 1 + b.exp.nodes
  | .mk _ _ _ => rfl
theorem al_exp_nodes : ∀ b : Al, b.nodes = 1 + b.exp.nodes
  | .mk _ _ => rfl

set_option maxHeartbeats 3200000 in
theorem psamebind_any (t u : Bd) (B : Nat) (w : World) (cs ds : List Value) (hB : B ≤ w.heap.size) (hx : BdAt w B cs t) (hy : BdAt w B ds u)
    (ih : ∀ (w : World) (cs ds : List Value), B ≤ w.heap.size → ExAt w B cs t.exp → ExAt w B ds u.exp → Calls Try.prog 14 #[.agg cs.toArray, .agg ds.toArray] w fun e w' => e = .returned (.bool (exSame t.exp u.exp)) ∧ Below w.heap.size w w') :
    Calls Try.prog 36 #[.agg cs.toArray, .agg ds.toArray] w fun e w' => e = .returned (.bool (bdSame t u)) ∧ Below w.heap.size w w' := by
  cases hx with
  | @mk nm e q E hs he hq =>
  cases hy with
  | @mk nm' e' q' E' hs' he' hq' =>
    obtain ⟨c0, c1, c2, c3, c4, c5, c6, c7, c8, c9, c10, rfl⟩ := eleven_of he.eleven
    obtain ⟨d0, d1, d2, d3, d4, d5, d6, d7, d8, d9, d10, rfl⟩ := eleven_of he'.eleven
    have C1 := Lib.hid (fun W (hb : Below w.heap.size w W) => ih W [c0, c1, c2, c3, c4, c5, c6, c7, c8, c9, c10] [d0, d1, d2, d3, d4, d5, d6, d7, d8, d9, d10] (Nat.le_trans hB hb.size) (he.later (hb.mono hB)) (he'.later (hb.mono hB)))
    have s0 := store_one c0 (ex_ones he c0 (by simp))
    have s1 := store_one c1 (ex_ones he c1 (by simp))
    have s2 := store_one c2 (ex_ones he c2 (by simp))
    have s3 := store_one c3 (ex_ones he c3 (by simp))
    have s4 := store_one c4 (ex_ones he c4 (by simp))
    have s5 := store_one c5 (ex_ones he c5 (by simp))
    have s6 := store_one c6 (ex_ones he c6 (by simp))
    have s7 := store_one c7 (ex_ones he c7 (by simp))
    have s8 := store_one c8 (ex_ones he c8 (by simp))
    have s9 := store_one c9 (ex_ones he c9 (by simp))
    have s10 := store_one c10 (ex_ones he c10 (by simp))
    have r0 := store_one d0 (ex_ones he' d0 (by simp))
    have r1 := store_one d1 (ex_ones he' d1 (by simp))
    have r2 := store_one d2 (ex_ones he' d2 (by simp))
    have r3 := store_one d3 (ex_ones he' d3 (by simp))
    have r4 := store_one d4 (ex_ones he' d4 (by simp))
    have r5 := store_one d5 (ex_ones he' d5 (by simp))
    have r6 := store_one d6 (ex_ones he' d6 (by simp))
    have r7 := store_one d7 (ex_ones he' d7 (by simp))
    have r8 := store_one d8 (ex_ones he' d8 (by simp))
    have r9 := store_one d9 (ex_ones he' d9 (by simp))
    have r10 := store_one d10 (ex_ones he' d10 (by simp))
    obtain ⟨v1, hv1⟩ : ∃ v, exSame e e' = v := ⟨_, rfl⟩
    rw [show (Bd.mk nm e q).exp = e from rfl, show (Bd.mk nm' e' q').exp = e' from rfl, hv1] at C1
    have HS := Lib.hid (show bdSame (.mk nm e q) (.mk nm' e' q') = (nm.data.toList == nm'.data.toList && v1) by rw [← hv1]; unfold bdSame; rfl)
    simp only [List.cons_append, List.nil_append]
    have b1 := (Blk.new w 54 #[.string nm, c0, c1, c2, c3, c4, c5, c6, c7, c8, c9, c10, .int .i64 q]).alloc (.cells #[.string nm', d0, d1, d2, d3, d4, d5, d6, d7, d8, d9, d10, .int .i64 q'] 54)
    have b2 := Blk.new (w.alloc (.cells #[.string nm, c0, c1, c2, c3, c4, c5, c6, c7, c8, c9, c10, .int .i64 q] 54)) 54 #[.string nm', d0, d1, d2, d3, d4, d5, d6, d7, d8, d9, d10, .int .i64 q']
    obtain ⟨W2, hW2⟩ : ∃ W2, (w.alloc (.cells #[.string nm, c0, c1, c2, c3, c4, c5, c6, c7, c8, c9, c10, .int .i64 q] 54)).alloc (.cells #[.string nm', d0, d1, d2, d3, d4, d5, d6, d7, d8, d9, d10, .int .i64 q'] 54) = W2 := ⟨_, rfl⟩
    have hbW : Below w.heap.size w W2 := by rw [← hW2]; exact ((Below.refl _ _).alloc (Nat.le_refl _) _).alloc (by simp) _
    have hzW : W2.heap.size = w.heap.size + 1 + 1 := by rw [← hW2]; simp
    rw [hW2] at b1 b2
    rw [World.size_alloc] at b2
    have HW := Lib.hid hW2
    have HBW := Lib.hid hbW
    have HZ := Lib.hid hzW
    have HB1 := Lib.hid b1
    have HB2 := Lib.hid b2
    clear he he' ih hv1 b1 b2 hW2 hbW hzW hs hs' hq hq'
    by_cases e2 : nm.data.toList = nm'.data.toList
    · have d2' := nm_same e2
      have d3 : (nm.data.toList == nm'.data.toList) = true := by simpa using e2
      rw [d3] at HS
      have HS := Lib.hid (HS.out.trans (Bool.true_and v1))
      clear e2 d3
      have HE := Lib.hid (show bdSame (.mk nm e q) (.mk nm' e' q') = v1 by exact HS.out)
      clear HS
      go_enter Try.func36, Try.ntmps36
      go_wp2_with fail
      rw [HW.out]
      have x1a := HB1.out.cell 1
      have y1a := HB2.out.cell 1
      have x2a := HB1.out.cell 2
      have y2a := HB2.out.cell 2
      have x3a := HB1.out.cell 3
      have y3a := HB2.out.cell 3
      have x4a := HB1.out.cell 4
      have y4a := HB2.out.cell 4
      have x5a := HB1.out.cell 5
      have y5a := HB2.out.cell 5
      have x6a := HB1.out.cell 6
      have y6a := HB2.out.cell 6
      have x7a := HB1.out.cell 7
      have y7a := HB2.out.cell 7
      have x8a := HB1.out.cell 8
      have y8a := HB2.out.cell 8
      have x9a := HB1.out.cell 9
      have y9a := HB2.out.cell 9
      have x10a := HB1.out.cell 10
      have y10a := HB2.out.cell 10
      have x11a := HB1.out.cell 11
      have y11a := HB2.out.cell 11
      simp only [List.getElem?_toArray, List.getElem?_cons_succ, List.getElem?_cons_zero] at x1a y1a x2a y2a x3a y3a x4a y4a x5a y5a x6a y6a x7a y7a x8a y8a x9a y9a x10a y10a x11a y11a
      go_wp2_with (go_at_call 14; (with_reducible refine (C1.out _ HBW.out).mono ?_); rintro e w2 ⟨rfl, hb2⟩; (have hk2 : Below W2.heap.size W2 w2 := hb2); (have hc2 : Below w.heap.size w w2 := HBW.out.trans (hk2.mono HBW.out.size)))
      go_ret
      exact ⟨ret_bool HE.out.symm, hc2⟩
    · have d2' := nm_other e2
      have HE := Lib.hid (show bdSame (.mk nm e q) (.mk nm' e' q') = false by rw [HS.out, show (nm.data.toList == nm'.data.toList) = false by simpa using e2]; rfl)
      clear e2
      go_enter Try.func36, Try.ntmps36
      go_wp2_with fail
      rw [HW.out]
      go_ret
      exact ⟨ret_bool HE.out.symm, HBW.out⟩

set_option maxHeartbeats 3200000 in
theorem psamealt_any (t u : Al) (B : Nat) (w : World) (cs ds : List Value) (hB : B ≤ w.heap.size) (hx : AlAt w B cs t) (hy : AlAt w B ds u)
    (ih : ∀ (w : World) (cs ds : List Value), B ≤ w.heap.size → ExAt w B cs t.exp → ExAt w B ds u.exp → Calls Try.prog 14 #[.agg cs.toArray, .agg ds.toArray] w fun e w' => e = .returned (.bool (exSame t.exp u.exp)) ∧ Below w.heap.size w w') :
    Calls Try.prog 38 #[.agg cs.toArray, .agg ds.toArray] w fun e w' => e = .returned (.bool (alSame t u)) ∧ Below w.heap.size w w' := by
  cases hx with
  | @mk p e PP E hp he =>
  cases hy with
  | @mk p' e' PP' E' hp' he' =>
    obtain ⟨c0, c1, c2, c3, c4, c5, c6, c7, c8, c9, c10, rfl⟩ := eleven_of he.eleven
    obtain ⟨d0, d1, d2, d3, d4, d5, d6, d7, d8, d9, d10, rfl⟩ := eleven_of he'.eleven
    obtain ⟨p0, p1, p2, p3, p4, rfl⟩ := five_of hp.five
    obtain ⟨o0, o1, o2, o3, o4, rfl⟩ := five_of hp'.five
    have C1 := Lib.hid (fun W (hb : Below w.heap.size w W) => psamepat_any p.nodes p p' (Nat.le_refl _) B W [p0, p1, p2, p3, p4] [o0, o1, o2, o3, o4] (Nat.le_trans hB hb.size) (hp.later (hb.mono hB)) (hp'.later (hb.mono hB)))
    have C2 := Lib.hid (fun W (hb : Below w.heap.size w W) => ih W [c0, c1, c2, c3, c4, c5, c6, c7, c8, c9, c10] [d0, d1, d2, d3, d4, d5, d6, d7, d8, d9, d10] (Nat.le_trans hB hb.size) (he.later (hb.mono hB)) (he'.later (hb.mono hB)))
    have sp0 := store_one p0 (pt_ones hp p0 (by simp))
    have so0 := store_one o0 (pt_ones hp' o0 (by simp))
    have sp1 := store_one p1 (pt_ones hp p1 (by simp))
    have so1 := store_one o1 (pt_ones hp' o1 (by simp))
    have sp2 := store_one p2 (pt_ones hp p2 (by simp))
    have so2 := store_one o2 (pt_ones hp' o2 (by simp))
    have sp3 := store_one p3 (pt_ones hp p3 (by simp))
    have so3 := store_one o3 (pt_ones hp' o3 (by simp))
    have sp4 := store_one p4 (pt_ones hp p4 (by simp))
    have so4 := store_one o4 (pt_ones hp' o4 (by simp))
    have s0 := store_one c0 (ex_ones he c0 (by simp))
    have r0 := store_one d0 (ex_ones he' d0 (by simp))
    have s1 := store_one c1 (ex_ones he c1 (by simp))
    have r1 := store_one d1 (ex_ones he' d1 (by simp))
    have s2 := store_one c2 (ex_ones he c2 (by simp))
    have r2 := store_one d2 (ex_ones he' d2 (by simp))
    have s3 := store_one c3 (ex_ones he c3 (by simp))
    have r3 := store_one d3 (ex_ones he' d3 (by simp))
    have s4 := store_one c4 (ex_ones he c4 (by simp))
    have r4 := store_one d4 (ex_ones he' d4 (by simp))
    have s5 := store_one c5 (ex_ones he c5 (by simp))
    have r5 := store_one d5 (ex_ones he' d5 (by simp))
    have s6 := store_one c6 (ex_ones he c6 (by simp))
    have r6 := store_one d6 (ex_ones he' d6 (by simp))
    have s7 := store_one c7 (ex_ones he c7 (by simp))
    have r7 := store_one d7 (ex_ones he' d7 (by simp))
    have s8 := store_one c8 (ex_ones he c8 (by simp))
    have r8 := store_one d8 (ex_ones he' d8 (by simp))
    have s9 := store_one c9 (ex_ones he c9 (by simp))
    have r9 := store_one d9 (ex_ones he' d9 (by simp))
    have s10 := store_one c10 (ex_ones he c10 (by simp))
    have r10 := store_one d10 (ex_ones he' d10 (by simp))
    obtain ⟨v1, hv1⟩ : ∃ v, ptSame p p' = v := ⟨_, rfl⟩
    obtain ⟨v2, hv2⟩ : ∃ v, exSame e e' = v := ⟨_, rfl⟩
    rw [hv1] at C1
    rw [show (Al.mk p e).exp = e from rfl, show (Al.mk p' e').exp = e' from rfl, hv2] at C2
    have HS := Lib.hid (show alSame (.mk p e) (.mk p' e') = (v1 && v2) by rw [← hv1, ← hv2]; unfold alSame; rfl)
    simp only [List.cons_append, List.nil_append]
    have b1 := (Blk.new w 41 #[p0, p1, p2, p3, p4, c0, c1, c2, c3, c4, c5, c6, c7, c8, c9, c10]).alloc (.cells #[o0, o1, o2, o3, o4, d0, d1, d2, d3, d4, d5, d6, d7, d8, d9, d10] 41)
    have b2 := Blk.new (w.alloc (.cells #[p0, p1, p2, p3, p4, c0, c1, c2, c3, c4, c5, c6, c7, c8, c9, c10] 41)) 41 #[o0, o1, o2, o3, o4, d0, d1, d2, d3, d4, d5, d6, d7, d8, d9, d10]
    obtain ⟨W2, hW2⟩ : ∃ W2, (w.alloc (.cells #[p0, p1, p2, p3, p4, c0, c1, c2, c3, c4, c5, c6, c7, c8, c9, c10] 41)).alloc (.cells #[o0, o1, o2, o3, o4, d0, d1, d2, d3, d4, d5, d6, d7, d8, d9, d10] 41) = W2 := ⟨_, rfl⟩
    have hbW : Below w.heap.size w W2 := by rw [← hW2]; exact ((Below.refl _ _).alloc (Nat.le_refl _) _).alloc (by simp) _
    have hzW : W2.heap.size = w.heap.size + 1 + 1 := by rw [← hW2]; simp
    rw [hW2] at b1 b2
    rw [World.size_alloc] at b2
    have HW := Lib.hid hW2
    have HBW := Lib.hid hbW
    have HZ := Lib.hid hzW
    have HB1 := Lib.hid b1
    have HB2 := Lib.hid b2
    clear he he' hp hp' ih hv1 hv2 b1 b2 hW2 hbW hzW
    cases v1 with
    | false =>
      have HE := Lib.hid (show alSame (.mk p e) (.mk p' e') = false by exact HS.out)
      clear HS
      go_enter Try.func38, Try.ntmps38
      go_wp2_with fail
      rw [HW.out]
      have x0a := HB1.out.cell 0
      have y0a := HB2.out.cell 0
      have x1a := HB1.out.cell 1
      have y1a := HB2.out.cell 1
      have x2a := HB1.out.cell 2
      have y2a := HB2.out.cell 2
      have x3a := HB1.out.cell 3
      have y3a := HB2.out.cell 3
      have x4a := HB1.out.cell 4
      have y4a := HB2.out.cell 4
      simp only [List.getElem?_toArray, List.getElem?_cons_succ, List.getElem?_cons_zero] at x0a y0a x1a y1a x2a y2a x3a y3a x4a y4a
      go_wp2_with (go_at_call 18; (with_reducible refine (C1.out _ HBW.out).mono ?_); rintro e w2 ⟨rfl, hb2⟩; (have hk2 : Below W2.heap.size W2 w2 := hb2); (have hc2 : Below w.heap.size w w2 := HBW.out.trans (hk2.mono HBW.out.size)))
      go_ret
      exact ⟨ret_bool HE.out.symm, hc2⟩
    | true =>
      have HE := Lib.hid (show alSame (.mk p e) (.mk p' e') = v2 by exact HS.out)
      clear HS
      go_enter Try.func38, Try.ntmps38
      go_wp2_with fail
      rw [HW.out]
      have x0a := HB1.out.cell 0
      have y0a := HB2.out.cell 0
      have x1a := HB1.out.cell 1
      have y1a := HB2.out.cell 1
      have x2a := HB1.out.cell 2
      have y2a := HB2.out.cell 2
      have x3a := HB1.out.cell 3
      have y3a := HB2.out.cell 3
      have x4a := HB1.out.cell 4
      have y4a := HB2.out.cell 4
      simp only [List.getElem?_toArray, List.getElem?_cons_succ, List.getElem?_cons_zero] at x0a y0a x1a y1a x2a y2a x3a y3a x4a y4a
      go_wp2_with (go_at_call 18; (with_reducible refine (C1.out _ HBW.out).mono ?_); rintro e w2 ⟨rfl, hb2⟩; (have hk2 : Below W2.heap.size W2 w2 := hb2); (have hc2 : Below w.heap.size w w2 := HBW.out.trans (hk2.mono HBW.out.size)); (have x5b := (hk2.cell (p := ⟨w.heap.size, 5, none⟩) (by have := HZ.out; show w.heap.size < _; omega)).trans (HB1.out.cell 5)); (have y5b := (hk2.cell (p := ⟨w.heap.size + 1, 5, none⟩) (by have := HZ.out; show w.heap.size + 1 < _; omega)).trans (HB2.out.cell 5)); (have x6b := (hk2.cell (p := ⟨w.heap.size, 6, none⟩) (by have := HZ.out; show w.heap.size < _; omega)).trans (HB1.out.cell 6)); (have y6b := (hk2.cell (p := ⟨w.heap.size + 1, 6, none⟩) (by have := HZ.out; show w.heap.size + 1 < _; omega)).trans (HB2.out.cell 6)); (have x7b := (hk2.cell (p := ⟨w.heap.size, 7, none⟩) (by have := HZ.out; show w.heap.size < _; omega)).trans (HB1.out.cell 7)); (have y7b := (hk2.cell (p := ⟨w.heap.size + 1, 7, none⟩) (by have := HZ.out; show w.heap.size + 1 < _; omega)).trans (HB2.out.cell 7)); (have x8b := (hk2.cell (p := ⟨w.heap.size, 8, none⟩) (by have := HZ.out; show w.heap.size < _; omega)).trans (HB1.out.cell 8)); (have y8b := (hk2.cell (p := ⟨w.heap.size + 1, 8, none⟩) (by have := HZ.out; show w.heap.size + 1 < _; omega)).trans (HB2.out.cell 8)); (have x9b := (hk2.cell (p := ⟨w.heap.size, 9, none⟩) (by have := HZ.out; show w.heap.size < _; omega)).trans (HB1.out.cell 9)); (have y9b := (hk2.cell (p := ⟨w.heap.size + 1, 9, none⟩) (by have := HZ.out; show w.heap.size + 1 < _; omega)).trans (HB2.out.cell 9)); (have x10b := (hk2.cell (p := ⟨w.heap.size, 10, none⟩) (by have := HZ.out; show w.heap.size < _; omega)).trans (HB1.out.cell 10)); (have y10b := (hk2.cell (p := ⟨w.heap.size + 1, 10, none⟩) (by have := HZ.out; show w.heap.size + 1 < _; omega)).trans (HB2.out.cell 10)); (have x11b := (hk2.cell (p := ⟨w.heap.size, 11, none⟩) (by have := HZ.out; show w.heap.size < _; omega)).trans (HB1.out.cell 11)); (have y11b := (hk2.cell (p := ⟨w.heap.size + 1, 11, none⟩) (by have := HZ.out; show w.heap.size + 1 < _; omega)).trans (HB2.out.cell 11)); (have x12b := (hk2.cell (p := ⟨w.heap.size, 12, none⟩) (by have := HZ.out; show w.heap.size < _; omega)).trans (HB1.out.cell 12)); (have y12b := (hk2.cell (p := ⟨w.heap.size + 1, 12, none⟩) (by have := HZ.out; show w.heap.size + 1 < _; omega)).trans (HB2.out.cell 12)); (have x13b := (hk2.cell (p := ⟨w.heap.size, 13, none⟩) (by have := HZ.out; show w.heap.size < _; omega)).trans (HB1.out.cell 13)); (have y13b := (hk2.cell (p := ⟨w.heap.size + 1, 13, none⟩) (by have := HZ.out; show w.heap.size + 1 < _; omega)).trans (HB2.out.cell 13)); (have x14b := (hk2.cell (p := ⟨w.heap.size, 14, none⟩) (by have := HZ.out; show w.heap.size < _; omega)).trans (HB1.out.cell 14)); (have y14b := (hk2.cell (p := ⟨w.heap.size + 1, 14, none⟩) (by have := HZ.out; show w.heap.size + 1 < _; omega)).trans (HB2.out.cell 14)); (have x15b := (hk2.cell (p := ⟨w.heap.size, 15, none⟩) (by have := HZ.out; show w.heap.size < _; omega)).trans (HB1.out.cell 15)); (have y15b := (hk2.cell (p := ⟨w.heap.size + 1, 15, none⟩) (by have := HZ.out; show w.heap.size + 1 < _; omega)).trans (HB2.out.cell 15)); (simp only [List.getElem?_toArray, List.getElem?_cons_succ, List.getElem?_cons_zero] at x5b y5b x6b y6b x7b y7b x8b y8b x9b y9b x10b y10b x11b y11b x12b y12b x13b y13b x14b y14b x15b y15b))
      go_wp2_with (go_at_call 14; (with_reducible refine (C2.out _ hc2).mono ?_); rintro e w3 ⟨rfl, hb3⟩; (have hk3 : Below W2.heap.size W2 w3 := hk2.trans (hb3.mono hk2.size)); (have hc3 : Below w.heap.size w w3 := HBW.out.trans (hk3.mono HBW.out.size)))
      go_ret
      exact ⟨ret_bool HE.out.symm, hc3⟩

set_option maxHeartbeats 6400000 in
theorem psame_any (N : Nat) : ∀ (e u : Ex), e.nodes ≤ N → ∀ (B : Nat) (w : World) (cs ds : List Value), B ≤ w.heap.size → ExAt w B cs e → ExAt w B ds u →
    Calls Try.prog 14 #[.agg cs.toArray, .agg ds.toArray] w fun e' w' => e' = .returned (.bool (exSame e u)) ∧ Below w.heap.size w w' := by
  induction N with
  | zero => intro e u h; cases e; unfold Ex.nodes at h; omega
  | succ N ih =>
    intro e u hN B w cs ds hB hx hy
    cases hx with
    | @mk k n q nm t T A Aa Ab c ca cb ks als bs L La Lb _ _ _ _ ht hc hm hca hma hcb hmb hb hba hbb hr hks hra hals hrb hbs =>
    cases hy with
    | @mk k' n' q' nm' t' T' A' Aa' Ab' c' ca' cb' ks' als' bs' L' La' Lb' _ _ _ _ ht' hc' hm' hca' hma' hcb' hmb' hb' hba' hbb' hr' hks' hra' hals' hrb' hbs' =>
    have hnodes : (Ex.mk k nm n t ks als bs q).nodes = 1 + exsNodes ks + alsNodes als + bdsNodes bs := rfl
    rw [hnodes] at hN
    have hn1 : ks.length ≤ 9223372036854775807 := by omega
    have hn2 : als.length ≤ 9223372036854775807 := by omega
    have hn3 : bs.length ≤ 9223372036854775807 := by omega
    have C1 := fun W (hb : Below w.heap.size w W) => psametype_any t.nodes t t' (Nat.le_refl _) B W T T' (Nat.le_trans hB hb.size) (ht.later (hb.mono hB)) (ht'.later (hb.mono hB))
    have C2 := fun W (hb : Below w.heap.size w W) => pall_ex ks ks' A A' L L' c c' B W (Nat.le_trans hB hb.size) hn1 (hr.keep fun _ hp => (hb.mono hB).cell hp) (fun i h1 h2 => (hks i h1 h2).later (hb.mono hB)) (hr'.keep fun _ hp => (hb.mono hB).cell hp) (fun i h1 h2 => (hks' i h1 h2).later (hb.mono hB))
      (fun t ht u w cs ds h1 h2 h3 => ih t u (by obtain ⟨i, hi, rfl⟩ := List.getElem_of_mem ht; have := exs_mem ks i hi; omega) B w cs ds h1 h2 h3)
    have C3 := fun W (hb : Below w.heap.size w W) => pall_bd bs bs' Ab Ab' Lb Lb' cb cb' B W (Nat.le_trans hB hb.size) hn3 (hrb.keep fun _ hp => (hb.mono hB).cell hp) (fun i h1 h2 => (hbs i h1 h2).later (hb.mono hB)) (hrb'.keep fun _ hp => (hb.mono hB).cell hp) (fun i h1 h2 => (hbs' i h1 h2).later (hb.mono hB))
      (fun t ht u w cs ds h1 h2 h3 => psamebind_any t u B w cs ds h1 h2 h3 (fun w cs ds h4 h5 h6 => ih t.exp u.exp (by obtain ⟨i, hi, rfl⟩ := List.getElem_of_mem ht; have := bds_mem bs i hi; have h7 := bd_exp_nodes bs[i]; omega) B w cs ds h4 h5 h6))
    have C4 := fun W (hb : Below w.heap.size w W) => pall_al als als' Aa Aa' La La' ca ca' B W (Nat.le_trans hB hb.size) hn2 (hra.keep fun _ hp => (hb.mono hB).cell hp) (fun i h1 h2 => (hals i h1 h2).later (hb.mono hB)) (hra'.keep fun _ hp => (hb.mono hB).cell hp) (fun i h1 h2 => (hals' i h1 h2).later (hb.mono hB))
      (fun t ht u w cs ds h1 h2 h3 => psamealt_any t u B w cs ds h1 h2 h3 (fun w cs ds h4 h5 h6 => ih t.exp u.exp (by obtain ⟨i, hi, rfl⟩ := List.getElem_of_mem ht; have := als_mem als i hi; have h7 := al_exp_nodes als[i]; omega) B w cs ds h4 h5 h6))
    obtain ⟨v1, hv1⟩ : ∃ v, tySame t t' = v := ⟨_, rfl⟩
    obtain ⟨v2, hv2⟩ : ∃ v, (ks.length == ks'.length && exsSame ks ks') = v := ⟨_, rfl⟩
    obtain ⟨v3, hv3⟩ : ∃ v, (bs.length == bs'.length && bdsSame bs bs') = v := ⟨_, rfl⟩
    obtain ⟨v4, hv4⟩ : ∃ v, (als.length == als'.length && alsSame als als') = v := ⟨_, rfl⟩
    rw [hv1] at C1
    rw [hv2] at C2
    rw [hv3] at C3
    rw [hv4] at C4
    have HS := Lib.hid (show exSame (.mk k nm n t ks als bs q) (.mk k' nm' n' t' ks' als' bs' q') = (k == k' && (nm.data.toList == nm'.data.toList && (n == n' && (v1 && (v2 && (v3 && v4)))))) by
      rw [← hv1, ← hv2, ← hv3, ← hv4]; unfold exSame
      generalize (k == k') = z1
      generalize (nm.data.toList == nm'.data.toList) = z2
      generalize (n == n') = z3
      generalize tySame t t' = z4
      generalize (ks.length == ks'.length) = z5
      generalize (bs.length == bs'.length) = z6
      generalize (als.length == als'.length) = z7
      generalize exsSame ks ks' = z8
      generalize bdsSame bs bs' = z9
      generalize alsSame als als' = z10
      cases z1 <;> cases z2 <;> cases z3 <;> cases z4 <;> cases z5 <;> cases z6 <;> cases z7 <;> cases z8 <;> cases z9 <;> cases z10 <;> rfl)
    cases ht with
    | @mk tk tn tnm tA tc tks tL =>
    cases ht' with
    | @mk tk' tn' tnm' tA' tc' tks' tL' =>
    generalize exSame (.mk k nm n (.mk tk tnm tn tks) ks als bs q) (.mk k' nm' n' (.mk tk' tnm' tn' tks') ks' als' bs' q') = V at *
    clear ih hN hnodes hn1 hn2 hn3 hv1 hv2 hv3 hv4 hb hba hbb hr hks hra hals hrb hbs hb' hba' hbb' hr' hks' hra' hals' hrb' hbs' hc hm hca hma hcb hmb hc' hm' hca' hma' hcb' hmb'
    generalize ks.length = kl at C2 C3 C4 ⊢
    generalize ks'.length = kl' at C2 C3 C4 ⊢
    generalize als.length = al at C2 C3 C4 ⊢
    generalize als'.length = al' at C2 C3 C4 ⊢
    generalize bs.length = bl at C2 C3 C4 ⊢
    generalize bs'.length = bl' at C2 C3 C4 ⊢
    generalize tks.length = tl at C1 ⊢
    generalize tks'.length = tl' at C1 ⊢
    simp only [List.cons_append, List.nil_append]
    have C1 := Lib.hid C1
    have C2 := Lib.hid C2
    have C3 := Lib.hid C3
    have C4 := Lib.hid C4
    have b1 := (Blk.new w 29 #[.int .i64 k, .string nm, .int .i64 n, .int .i64 tk, .string tnm, .int .i64 tn, .slice tA tl tc, .slice A kl c, .slice Aa al ca, .slice Ab bl cb, .int .i64 q]).alloc (.cells #[.int .i64 k', .string nm', .int .i64 n', .int .i64 tk', .string tnm', .int .i64 tn', .slice tA' tl' tc', .slice A' kl' c', .slice Aa' al' ca', .slice Ab' bl' cb', .int .i64 q'] 29)
    have b2 := Blk.new (w.alloc (.cells #[.int .i64 k, .string nm, .int .i64 n, .int .i64 tk, .string tnm, .int .i64 tn, .slice tA tl tc, .slice A kl c, .slice Aa al ca, .slice Ab bl cb, .int .i64 q] 29)) 29 #[.int .i64 k', .string nm', .int .i64 n', .int .i64 tk', .string tnm', .int .i64 tn', .slice tA' tl' tc', .slice A' kl' c', .slice Aa' al' ca', .slice Ab' bl' cb', .int .i64 q']
    obtain ⟨W2, hW2⟩ : ∃ W2, (w.alloc (.cells #[.int .i64 k, .string nm, .int .i64 n, .int .i64 tk, .string tnm, .int .i64 tn, .slice tA tl tc, .slice A kl c, .slice Aa al ca, .slice Ab bl cb, .int .i64 q] 29)).alloc (.cells #[.int .i64 k', .string nm', .int .i64 n', .int .i64 tk', .string tnm', .int .i64 tn', .slice tA' tl' tc', .slice A' kl' c', .slice Aa' al' ca', .slice Ab' bl' cb', .int .i64 q'] 29) = W2 := ⟨_, rfl⟩
    have hbW : Below w.heap.size w W2 := by rw [← hW2]; exact ((Below.refl _ _).alloc (Nat.le_refl _) _).alloc (by simp) _
    have hzW : W2.heap.size = w.heap.size + 1 + 1 := by rw [← hW2]; simp
    rw [hW2] at b1 b2
    rw [World.size_alloc] at b2
    have HW := Lib.hid hW2
    have HBW := Lib.hid hbW
    have HZ := Lib.hid hzW
    have HB1 := Lib.hid b1
    have HB2 := Lib.hid b2
    clear b1 b2 hW2 hbW hzW
    by_cases e1 : k = k'
    · have d1 : (k == k') = true := by simpa using e1
      by_cases e2 : nm.data.toList = nm'.data.toList
      · have d2 := nm_same e2
        have d2' : (nm.data.toList == nm'.data.toList) = true := by simpa using e2
        by_cases e3 : n = n'
        · have d3 : (n == n') = true := by simpa using e3
          have HS := Lib.hid (show V = (v1 && (v2 && (v3 && v4))) by rw [HS.out, d1, d2', d3]; rfl)
          clear e1 e2 e3 d2'
          cases v1 with
          | false =>
            have HE := Lib.hid (show V = false by exact HS.out)
            clear HS
            go_enter Try.func14, Try.ntmps14
            go_wp2_with fail
            rw [HW.out]
            have x3a := HB1.out.cell 3
            have y3a := HB2.out.cell 3
            have x4a := HB1.out.cell 4
            have y4a := HB2.out.cell 4
            have x5a := HB1.out.cell 5
            have y5a := HB2.out.cell 5
            have x6a := HB1.out.cell 6
            have y6a := HB2.out.cell 6
            simp only [List.getElem?_toArray, List.getElem?_cons_succ, List.getElem?_cons_zero] at x3a y3a x4a y4a x5a y5a x6a y6a
            go_wp2_with (go_at_call 16; (with_reducible refine (C1.out _ HBW.out).mono ?_); rintro e w2 ⟨rfl, hb2⟩; (have hk2 : Below W2.heap.size W2 w2 := hb2); (have hc2 : Below w.heap.size w w2 := HBW.out.trans (hk2.mono HBW.out.size)))
            go_ret
            exact ⟨ret_bool HE.out.symm, hc2⟩
          | true =>
            cases v2 with
            | false =>
              have HE := Lib.hid (show V = false by exact HS.out)
              clear HS
              go_enter Try.func14, Try.ntmps14
              go_wp2_with fail
              rw [HW.out]
              have x3a := HB1.out.cell 3
              have y3a := HB2.out.cell 3
              have x4a := HB1.out.cell 4
              have y4a := HB2.out.cell 4
              have x5a := HB1.out.cell 5
              have y5a := HB2.out.cell 5
              have x6a := HB1.out.cell 6
              have y6a := HB2.out.cell 6
              simp only [List.getElem?_toArray, List.getElem?_cons_succ, List.getElem?_cons_zero] at x3a y3a x4a y4a x5a y5a x6a y6a
              go_wp2_with (go_at_call 16; (with_reducible refine (C1.out _ HBW.out).mono ?_); rintro e w2 ⟨rfl, hb2⟩; (have hk2 : Below W2.heap.size W2 w2 := hb2); (have hc2 : Below w.heap.size w w2 := HBW.out.trans (hk2.mono HBW.out.size)); (have x7b := (hk2.cell (p := ⟨w.heap.size, 7, none⟩) (by have := HZ.out; show w.heap.size < _; omega)).trans (HB1.out.cell 7)); (have y7b := (hk2.cell (p := ⟨w.heap.size + 1, 7, none⟩) (by have := HZ.out; show w.heap.size + 1 < _; omega)).trans (HB2.out.cell 7)); (simp only [List.getElem?_toArray, List.getElem?_cons_succ, List.getElem?_cons_zero] at x7b y7b))
              go_wp2_with (go_at_call 34; (with_reducible refine (C2.out _ hc2).mono ?_); rintro e w3 ⟨rfl, hb3⟩; (have hk3 : Below W2.heap.size W2 w3 := hk2.trans (hb3.mono hk2.size)); (have hc3 : Below w.heap.size w w3 := HBW.out.trans (hk3.mono HBW.out.size)))
              go_ret
              exact ⟨ret_bool HE.out.symm, hc3⟩
            | true =>
              cases v3 with
              | false =>
                have HE := Lib.hid (show V = false by exact HS.out)
                clear HS
                go_enter Try.func14, Try.ntmps14
                go_wp2_with fail
                rw [HW.out]
                have x3a := HB1.out.cell 3
                have y3a := HB2.out.cell 3
                have x4a := HB1.out.cell 4
                have y4a := HB2.out.cell 4
                have x5a := HB1.out.cell 5
                have y5a := HB2.out.cell 5
                have x6a := HB1.out.cell 6
                have y6a := HB2.out.cell 6
                simp only [List.getElem?_toArray, List.getElem?_cons_succ, List.getElem?_cons_zero] at x3a y3a x4a y4a x5a y5a x6a y6a
                go_wp2_with (go_at_call 16; (with_reducible refine (C1.out _ HBW.out).mono ?_); rintro e w2 ⟨rfl, hb2⟩; (have hk2 : Below W2.heap.size W2 w2 := hb2); (have hc2 : Below w.heap.size w w2 := HBW.out.trans (hk2.mono HBW.out.size)); (have x7b := (hk2.cell (p := ⟨w.heap.size, 7, none⟩) (by have := HZ.out; show w.heap.size < _; omega)).trans (HB1.out.cell 7)); (have y7b := (hk2.cell (p := ⟨w.heap.size + 1, 7, none⟩) (by have := HZ.out; show w.heap.size + 1 < _; omega)).trans (HB2.out.cell 7)); (simp only [List.getElem?_toArray, List.getElem?_cons_succ, List.getElem?_cons_zero] at x7b y7b))
                go_wp2_with (go_at_call 34; (with_reducible refine (C2.out _ hc2).mono ?_); rintro e w3 ⟨rfl, hb3⟩; (have hk3 : Below W2.heap.size W2 w3 := hk2.trans (hb3.mono hk2.size)); (have hc3 : Below w.heap.size w w3 := HBW.out.trans (hk3.mono HBW.out.size)); (have x9c := (hk3.cell (p := ⟨w.heap.size, 9, none⟩) (by have := HZ.out; show w.heap.size < _; omega)).trans (HB1.out.cell 9)); (have y9c := (hk3.cell (p := ⟨w.heap.size + 1, 9, none⟩) (by have := HZ.out; show w.heap.size + 1 < _; omega)).trans (HB2.out.cell 9)); (simp only [List.getElem?_toArray, List.getElem?_cons_succ, List.getElem?_cons_zero] at x9c y9c))
                go_wp2_with (go_at_call 35; (with_reducible refine (C3.out _ hc3).mono ?_); rintro e w4 ⟨rfl, hb4⟩; (have hk4 : Below W2.heap.size W2 w4 := hk3.trans (hb4.mono hk3.size)); (have hc4 : Below w.heap.size w w4 := HBW.out.trans (hk4.mono HBW.out.size)))
                go_ret
                exact ⟨ret_bool HE.out.symm, hc4⟩
              | true =>
                have HE := Lib.hid (show V = v4 by exact HS.out)
                clear HS
                go_enter Try.func14, Try.ntmps14
                go_wp2_with fail
                rw [HW.out]
                have x3a := HB1.out.cell 3
                have y3a := HB2.out.cell 3
                have x4a := HB1.out.cell 4
                have y4a := HB2.out.cell 4
                have x5a := HB1.out.cell 5
                have y5a := HB2.out.cell 5
                have x6a := HB1.out.cell 6
                have y6a := HB2.out.cell 6
                simp only [List.getElem?_toArray, List.getElem?_cons_succ, List.getElem?_cons_zero] at x3a y3a x4a y4a x5a y5a x6a y6a
                go_wp2_with (go_at_call 16; (with_reducible refine (C1.out _ HBW.out).mono ?_); rintro e w2 ⟨rfl, hb2⟩; (have hk2 : Below W2.heap.size W2 w2 := hb2); (have hc2 : Below w.heap.size w w2 := HBW.out.trans (hk2.mono HBW.out.size)); (have x7b := (hk2.cell (p := ⟨w.heap.size, 7, none⟩) (by have := HZ.out; show w.heap.size < _; omega)).trans (HB1.out.cell 7)); (have y7b := (hk2.cell (p := ⟨w.heap.size + 1, 7, none⟩) (by have := HZ.out; show w.heap.size + 1 < _; omega)).trans (HB2.out.cell 7)); (simp only [List.getElem?_toArray, List.getElem?_cons_succ, List.getElem?_cons_zero] at x7b y7b))
                go_wp2_with (go_at_call 34; (with_reducible refine (C2.out _ hc2).mono ?_); rintro e w3 ⟨rfl, hb3⟩; (have hk3 : Below W2.heap.size W2 w3 := hk2.trans (hb3.mono hk2.size)); (have hc3 : Below w.heap.size w w3 := HBW.out.trans (hk3.mono HBW.out.size)); (have x9c := (hk3.cell (p := ⟨w.heap.size, 9, none⟩) (by have := HZ.out; show w.heap.size < _; omega)).trans (HB1.out.cell 9)); (have y9c := (hk3.cell (p := ⟨w.heap.size + 1, 9, none⟩) (by have := HZ.out; show w.heap.size + 1 < _; omega)).trans (HB2.out.cell 9)); (simp only [List.getElem?_toArray, List.getElem?_cons_succ, List.getElem?_cons_zero] at x9c y9c))
                go_wp2_with (go_at_call 35; (with_reducible refine (C3.out _ hc3).mono ?_); rintro e w4 ⟨rfl, hb4⟩; (have hk4 : Below W2.heap.size W2 w4 := hk3.trans (hb4.mono hk3.size)); (have hc4 : Below w.heap.size w w4 := HBW.out.trans (hk4.mono HBW.out.size)); (have x8d := (hk4.cell (p := ⟨w.heap.size, 8, none⟩) (by have := HZ.out; show w.heap.size < _; omega)).trans (HB1.out.cell 8)); (have y8d := (hk4.cell (p := ⟨w.heap.size + 1, 8, none⟩) (by have := HZ.out; show w.heap.size + 1 < _; omega)).trans (HB2.out.cell 8)); (simp only [List.getElem?_toArray, List.getElem?_cons_succ, List.getElem?_cons_zero] at x8d y8d))
                go_wp2_with (go_at_call 37; (with_reducible refine (C4.out _ hc4).mono ?_); rintro e w5 ⟨rfl, hb5⟩; (have hk5 : Below W2.heap.size W2 w5 := hk4.trans (hb5.mono hk4.size)); (have hc5 : Below w.heap.size w w5 := HBW.out.trans (hk5.mono HBW.out.size)))
                go_ret
                exact ⟨ret_bool HE.out.symm, hc5⟩
        · have d3 : (n == n') = false := by simpa using e3
          have HE := Lib.hid (show V = false by rw [HS.out, d1, d2', d3]; rfl)
          clear e1 e2 e3 d2' HS
          (go_enter Try.func14, Try.ntmps14; go_wp2_with fail; rw [HW.out]; go_ret; exact ⟨ret_bool HE.out.symm, HBW.out⟩)
      · have d2 := nm_other e2
        have HE := Lib.hid (show V = false by rw [HS.out, d1, show (nm.data.toList == nm'.data.toList) = false by simpa using e2]; rfl)
        clear e1 e2 HS
        (go_enter Try.func14, Try.ntmps14; go_wp2_with fail; rw [HW.out]; go_ret; exact ⟨ret_bool HE.out.symm, HBW.out⟩)
    · have d1 : (k == k') = false := by simpa using e1
      have HE := Lib.hid (show V = false by rw [HS.out, d1]; rfl)
      clear e1 HS
      (go_enter Try.func14, Try.ntmps14; go_wp2_with fail; rw [HW.out]; go_ret; exact ⟨ret_bool HE.out.symm, HBW.out⟩)

end Go.Proofs.Ytglamoiimmahgaa
