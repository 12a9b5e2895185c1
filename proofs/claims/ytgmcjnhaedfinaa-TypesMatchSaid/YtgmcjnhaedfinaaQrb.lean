/- Walks: replace, its closure, given Apply's. -/
import Derived.Test.YtgmcjnhaedfinaaQra
namespace Go.Proofs.Ytgmcjnhaedfinaa
open Go.RowKit Go.Maps
set_option linter.unusedVariables false
set_option linter.unusedSimpArgs false
set_option maxRecDepth 100000

set_option maxHeartbeats 12800000 in
theorem repa_any (f : Ty → Option Ty) (B ob vb mb : Nat) (W0 : World) (hB : B ≤ W0.heap.size) (hob : Blk W0 ob 70 #[.func (.func 48) #[] #[.pointer (some ⟨mb, 0, none⟩)]])
    (hvb : Blk W0 vb 32 #[.func (.func 59) #[] #[.pointer (some ⟨ob, 0, none⟩), .pointer (some ⟨vb, 0, none⟩)]])
    (HO : ∀ (t : Ty) (cs : List Value) (W : World), Below W0.heap.size W0 W → TyAt W B cs t → Calls Try.prog 48 #[.agg cs.toArray, .pointer (some ⟨mb, 0, none⟩)] W (OthPost B (f t) W)) (N : Nat) :
    ∀ (t : Ty), t.nodes ≤ N → N ≤ 4000000 → ∀ (W : World) (cs : List Value), Below W0.heap.size W0 W → TyAt W B cs t →
      Calls Try.prog 59 #[.agg cs.toArray, .pointer (some ⟨ob, 0, none⟩), .pointer (some ⟨vb, 0, none⟩)] W (TyPost B (t.repl f) W) := by
  induction N with
  | zero => intro t h; cases t; unfold Ty.nodes at h; omega
  | succ N ih =>
    intro t hN hN2 W cs hW hx
    obtain ⟨k, nm, n, A, c, ks, rfl, rfl⟩ := ty_cells hx
    obtain ⟨_, hk, hs, hn, hc, hm, L0, htys⟩ := ty_open hx _ _ _ _ _ _ _ rfl rfl
    unfold Ty.nodes at hN
    have hln := tysNodes_len ks
    obtain ⟨l, hl⟩ : ∃ l, ks.length = l := ⟨_, rfl⟩
    obtain ⟨r, hr⟩ : ∃ r, f (.mk k nm n ks) = r := ⟨_, rfl⟩
    have hzW := hW.size
    obtain ⟨W1, hW1⟩ : ∃ W1, (W.alloc (.cells #[.int .i64 k, .string nm, .int .i64 n, .slice A l c] 24)).alloc (.cells zTy 24) = W1 := ⟨_, rfl⟩
    have hg : Below W.heap.size W W1 := by rw [← hW1]; exact ((Below.refl _ _).alloc (Nat.le_refl _) _).alloc (by simp) _
    have hsz : W1.heap.size = W.heap.size + 2 := by rw [← hW1]; simp
    have hbx : Blk W1 W.heap.size 24 #[.int .i64 k, .string nm, .int .i64 n, .slice A l c] := by rw [← hW1]; exact (Blk.new _ _ _).alloc _
    have hrs : Blk W1 (W.heap.size + 1) 24 zTy := by rw [← hW1]; have := Blk.new (W.alloc (.cells #[.int .i64 k, .string nm, .int .i64 n, .slice A l c] 24)) 24 zTy; simpa using this
    rw [hl] at hx
    have CO := Lib.hid (HO _ _ W1 (hW.trans (hg.mono hzW)) (hx.later (hg.mono (by omega))))
    have hob1 := hob.below (hW.trans (hg.mono hzW)) hob.lt
    rw [hr] at CO
    have HREP := Lib.hid (show (Ty.mk k nm n ks).repl f = r.getD (.mk k nm n (tysRepl f ks)) by rw [repl_eq, hr])
    have HW := Lib.hid hW1
    have HG := Lib.hid hg
    have HZ := Lib.hid hsz
    have HBX := Lib.hid hbx
    have HRS := Lib.hid hrs
    have HA := Lib.hid htys
    have HL := Lib.hid hl
    have HOB := Lib.hid hob
    have HVB := Lib.hid hvb
    have HW0 := Lib.hid hW
    have HOO := Lib.hid HO
    have HND := Lib.hid (show tysNodes ks ≤ N by omega)
    have HIH := Lib.hid (fun (t : Ty) (ht : t ∈ ks) => ih t (by have := tys_mem ks t ht; omega) (by omega))
    have HK := Lib.hid (And.intro hk (And.intro hs hn))
    have hl9 : l ≤ 4000000 := by omega
    have hBW : B ≤ W.heap.size := by omega
    have oc := hob1.cell 0
    simp only [List.getElem?_toArray, List.getElem?_cons_succ, List.getElem?_cons_zero] at oc
    have x0 := HBX.out.cell 0
    have x1 := HBX.out.cell 1
    have x2 := HBX.out.cell 2
    have x3 := HBX.out.cell 3
    simp only [zTy, List.getElem?_toArray, List.getElem?_cons_succ, List.getElem?_cons_zero] at x0 x1 x2 x3
    clear hx hg ih hc hm hN hW1 hsz hbx hrs hl hN2 hln htys hr hW hob hvb HO hk hs hn hob1
    cases r with
    | some u =>
      have HR2 := Lib.hid (show (Ty.mk k nm n ks).repl f = u from HREP.out)
      go_enter Try.func59, Try.ntmps59
      go_upto_region 1 with fail
      try rw [HL.out]
      unfold zTy at HW
      rw [HW.out]
      go_wp2_with (go_at_call 48; (with_reducible refine CO.out.mono ?_); rintro e w2 ⟨hb2, ds, rfl, hty⟩; (have hz2 := hb2.size); (have oo := ty_ones hty); (obtain ⟨d0, d1, d2, d3, rfl⟩ := four_of hty.four); (have sd0 := store_one' d0 (oo d0 (by simp))); (have sd1 := store_one' d1 (oo d1 (by simp))); (have sd2 := store_one' d2 (oo d2 (by simp))); (have sd3 := store_one' d3 (oo d3 (by simp))); (have hR := (HRS.out.below hb2 HRS.out.lt).alloc (.cells #[d0, d1, d2, d3] 24)); (have r0 := hR.cell 0); (have r1 := hR.cell 1); (have r2 := hR.cell 2); (have r3 := hR.cell 3); (simp only [zTy, List.getElem?_toArray, List.getElem?_cons_succ, List.getElem?_cons_zero] at r0 r1 r2 r3); (have fz0 := hR.frozen 0); (have fz1 := hR.frozen 1); (have fz2 := hR.frozen 2); (have fz3 := hR.frozen 3))
      have hz := HZ.out
      have hb02 := (HG.out.trans (hb2.mono (by omega))).alloc (by omega) (.cells #[d0, d1, d2, d3] 24)
      rw [HR2.out]
      exact ty_end (H2 := W.heap.size + 2) rfl rfl hR (by omega) hBW (by omega) hb02 (TyX.of_old (hty.later ((Below.refl B w2).alloc (by omega) _)) (by have := hb02.size; omega) fun k hk => (mid_iff.1 hk).1)
    | none =>
      have HR2 := Lib.hid (show (Ty.mk k nm n ks).repl f = .mk k nm n (tysRepl f ks) from HREP.out)
      go_enter Try.func59, Try.ntmps59
      go_upto_region 1 with fail
      try rw [HL.out]
      unfold zTy at HW
      rw [HW.out]
      go_wp2_with (first | (go_at_call 48; (with_reducible refine CO.out.mono ?_); rintro e w2 ⟨hb2, d0, d1, d2, d3, oo, rfl⟩; (have hz2 := hb2.size); (have sd0 := store_one' d0 (oo d0 (by simp))); (have sd1 := store_one' d1 (oo d1 (by simp))); (have sd2 := store_one' d2 (oo d2 (by simp))); (have sd3 := store_one' d3 (oo d3 (by simp))); (have hbA := (HG.out.trans (hb2.mono (show W.heap.size ≤ W1.heap.size by have := HZ.out; omega))).alloc (show W.heap.size ≤ w2.heap.size by have := HZ.out; omega) (.cells #[d0, d1, d2, d3] 24)); (have hBa := (HBX.out.below hb2 HBX.out.lt).alloc (.cells #[d0, d1, d2, d3] 24)); (have z0 := hBa.cell 0); (have z1 := hBa.cell 1); (have z2 := hBa.cell 2); (have z3 := hBa.cell 3); (simp only [zTy, List.getElem?_toArray, List.getElem?_cons_succ, List.getElem?_cons_zero] at z0 z1 z2 z3); (have hRa := (HRS.out.below hb2 HRS.out.lt).alloc (.cells #[d0, d1, d2, d3] 24)); (have CC := Lib.hid (clone_any ks A L0 c l B _ (Nat.le_trans hBW hbA.size) HL.out hl9 (HA.out.later (hbA.mono hBW))))) | (go_at_call 42; (with_reducible refine CC.out.mono ?_); rintro e w3 ⟨v, rfl, hown3, hb3⟩; (obtain ⟨Ac, cc, rfl, _⟩ := own_shape4 hown3); (have hB3 := hBa.below hb3 hBa.lt); (have hR3 := hRa.below hb3 hRa.lt); (have y0 := hB3.cell 0); (have y1 := hB3.cell 1); (have y2 := hB3.cell 2); (have y3 := hB3.cell 3); (simp only [zTy, List.getElem?_toArray, List.getElem?_cons_succ, List.getElem?_cons_zero] at y0 y1 y2 y3); (have fy0 := hB3.frozen 0); (have fy1 := hB3.frozen 1); (have fy2 := hB3.frozen 2); (have fy3 := hB3.frozen 3); (have hB4 := hB3.set_ 3 (.slice Ac l cc)); (simp only [List.setIfInBounds_toArray, List.set_cons_succ, List.set_cons_zero] at hB4); (have q0 := hB4.cell 0); (have q1 := hB4.cell 1); (have q2 := hB4.cell 2); (have q3 := hB4.cell 3); (simp only [zTy, List.getElem?_toArray, List.getElem?_cons_succ, List.getElem?_cons_zero] at q0 q1 q2 q3)))
      have hz := HZ.out
      have hne3 : W.heap.size + 2 ≤ w3.heap.size := by have := hb3.size; simp at this; omega
      have HI0 := Lib.hid (show Blk (w3.setCell ⟨W.heap.size, 3, none⟩ (.slice Ac l cc)) W.heap.size 24 #[.int .i64 k, .string nm, .int .i64 n, .slice Ac l cc] ∧ Blk (w3.setCell ⟨W.heap.size, 3, none⟩ (.slice Ac l cc)) (W.heap.size + 1) 24 zTy ∧ RepRow f B (W.heap.size + 2) (W.heap.size + 2) ks L0 (w3.setCell ⟨W.heap.size, 3, none⟩ (.slice Ac l cc)) (.slice Ac l cc) 0 ∧ Below W.heap.size W (w3.setCell ⟨W.heap.size, 3, none⟩ (.slice Ac l cc)) from by
        refine ⟨hB4, hR3.far (by show W.heap.size + 1 ≠ W.heap.size; omega) _, ⟨L0, ?_, HA.out.row.len, HA.out.row.each, fun i _ _ h => by omega, fun i _ _ _ => rfl⟩, below_set (hbA.trans (hb3.mono (Nat.le_trans (by omega) hbA.size))) (Nat.le_refl _) _⟩
        rw [HL.out]
        refine own_at (own_less (base' := W.heap.size + 2) hown3 (by simp; omega)) fun g hg => Below.heap_setCell _ _ _ _ ?_
        have := own_base hown3 g hg
        show g ≠ W.heap.size
        simp at this; omega)
      clear hbA hBa hRa CC hown3 hb3 hB3 hR3 hB4 hb2 z0 z1 z2 z3 y0 y1 y2 y3 fy0 fy1 fy2 fy3 oo
      go_loopw [24] (fun i wr => ∃ (j : Nat), i = .int .i64 j ∧ j ≤ l ∧ Blk wr W.heap.size 24 #[.int .i64 k, .string nm, .int .i64 n, .slice Ac l cc] ∧ Blk wr (W.heap.size + 1) 24 zTy ∧ RepRow f B (W.heap.size + 2) (W.heap.size + 2) ks L0 wr (.slice Ac l cc) j ∧ Below W.heap.size W wr) (fun i _ => l - (intOf i).toNat)
      case atStart => exact ⟨0, rfl, Nat.zero_le _, HI0.out.1, HI0.out.2.1, HI0.out.2.2.1, HI0.out.2.2.2⟩
      case round =>
        obtain ⟨j, rfl, hj, hbx, hrs, hrep, hbe⟩ := hrel
        have hzr := hbe.size
        have hzr2 := hrs.lt
        have y0 := hbx.cell 0
        have y1 := hbx.cell 1
        have y2 := hbx.cell 2
        have y3 := hbx.cell 3
        simp only [zTy, List.getElem?_toArray, List.getElem?_cons_succ, List.getElem?_cons_zero] at y0 y1 y2 y3
        by_cases hlt : j < l
        · have hkx : j < ks.length := by rw [HL.out]; exact hlt
          obtain ⟨L, hown, hLl, hL4, hdone, hrest⟩ := hrep.ex
          rw [HL.out] at hown
          obtain ⟨g, cap, hv, hgb, hgl, hfz, hjL, hcell⟩ := own_cells hown (by rw [hLl, HL.out]) hL4 (by omega) hlt
          injection hv with hv1 _ hv2
          subst hv1 hv2
          have hj0 : j < L0.length := by rw [HA.out.row.len]; exact hkx
          have hta := HA.out.each j hj0 hkx
          rw [← hrest j hjL hj0 (Nat.le_refl _)] at hta
          obtain ⟨e0, e1, e2, e3, he⟩ := four_of hta.four
          rw [he] at hta hcell
          have k0 := hcell 0 e0 rfl
          have k1 := hcell 1 e1 rfl
          have k2 := hcell 2 e2 rfl
          have k3 := hcell 3 e3 rfl
          simp only [Nat.add_zero] at k0
          have oo := ty_ones hta
          have se0 := store_one' e0 (oo e0 (by simp))
          have se1 := store_one' e1 (oo e1 (by simp))
          have se2 := store_one' e2 (oo e2 (by simp))
          have se3 := store_one' e3 (oo e3 (by simp))
          have hbk : Below wr.heap.size wr (wr.alloc (.cells #[e0, e1, e2, e3] 24)).drew := ((Below.refl _ _).alloc (Nat.le_refl _) _).drew
          have CV := Lib.hid (HIH.out ks[j] (List.getElem_mem hkx) (wr.alloc (.cells #[e0, e1, e2, e3] 24)).drew [e0, e1, e2, e3] (HW0.out.trans ((hbe.trans (hbk.mono hzr)).mono hzW)) (hta.later ((hbe.trans (hbk.mono hzr)).mono hBW)))
          have HBE := Lib.hid hbe
          have HREP2 := Lib.hid hrep
          have HBX2 := Lib.hid hbx
          have HRS2 := Lib.hid hrs
          have HBK := Lib.hid hbk
          have hvk := (HVB.out.below (HW0.out.trans ((hbe.trans (hbk.mono hzr)).mono hzW)) HVB.out.lt)
          have vk := hvk.cell 0
          have vk' : (wr.alloc (.cells #[e0, e1, e2, e3] 24)).cell? ⟨vb, 0, none⟩ = _ := vk
          have hbxk := hbx.below hbk hbx.lt
          have u0 := hbxk.cell 0
          have u1 := hbxk.cell 1
          have u2 := hbxk.cell 2
          have u3 := hbxk.cell 3
          simp only [zTy, List.getElem?_toArray, List.getElem?_cons_succ, List.getElem?_cons_zero] at u0 u1 u2 u3
          have hbxa := hbx.alloc (.cells #[e0, e1, e2, e3] 24)
          have ua0 := hbxa.cell 0
          have ua1 := hbxa.cell 1
          have ua2 := hbxa.cell 2
          have ua3 := hbxa.cell 3
          simp only [zTy, List.getElem?_toArray, List.getElem?_cons_succ, List.getElem?_cons_zero] at ua0 ua1 ua2 ua3
          simp only [List.getElem?_toArray, List.getElem?_cons_succ, List.getElem?_cons_zero] at vk vk'
          have hfg := hfz
          clear hrep hbx hrs hbe hbk hta oo hcell hdone hrest hown hvk hbxk hbxa HOO HOB HI0 HREP
          go_wp2_with fail
          go_region_with (go_at_call 59; (with_reducible refine CV.out.mono ?_); rintro e w5 ⟨xs, rfl, hty5, hb5⟩; (have hb5w := HBK.out.trans (hb5.mono HBK.out.size)); (have hbx5 := HBX2.out.below hb5w HBX2.out.lt); (have n0 := hbx5.cell 0); (have n1 := hbx5.cell 1); (have n2 := hbx5.cell 2); (have n3 := hbx5.cell 3); (simp only [zTy, List.getElem?_toArray, List.getElem?_cons_succ, List.getElem?_cons_zero] at n0 n1 n2 n3); (have g0 := (hb5w.cell (p := ⟨g, j * 4, none⟩) hgl).trans k0); (have g1 := (hb5w.cell (p := ⟨g, j * 4 + 1, none⟩) hgl).trans k1); (have g2 := (hb5w.cell (p := ⟨g, j * 4 + 2, none⟩) hgl).trans k2); (have g3 := (hb5w.cell (p := ⟨g, j * 4 + 3, none⟩) hgl).trans k3); (have h0 := (World.frozen?_of_block (w := wr) (w' := w5) (a := ⟨g, j * 4, none⟩) (hb5w.block g hgl)).trans (hfz _)); (have h1 := (World.frozen?_of_block (w := wr) (w' := w5) (a := ⟨g, j * 4 + 1, none⟩) (hb5w.block g hgl)).trans (hfz _)); (have h2 := (World.frozen?_of_block (w := wr) (w' := w5) (a := ⟨g, j * 4 + 2, none⟩) (hb5w.block g hgl)).trans (hfz _)); (have h3 := (World.frozen?_of_block (w := wr) (w' := w5) (a := ⟨g, j * 4 + 3, none⟩) (hb5w.block g hgl)).trans (hfz _)); (have oo := ty_ones hty5); (obtain ⟨m0, m1, m2, m3, rfl⟩ := four_of (TyAt.four hty5)); (have sm0 := store_one' m0 (oo m0 (by simp))); (have sm1 := store_one' m1 (oo m1 (by simp))); (have sm2 := store_one' m2 (oo m2 (by simp))); (have sm3 := store_one' m3 (oo m3 (by simp))); (have HN5 := Lib.hid (And.intro hty5 (And.intro hb5w hb5))); clear hty5 hb5 hb5w hbx5 oo)
          all_goals
            have hz5 := HN5.out.2.1.size
            have hy : TyX (midV B (W.heap.size + 2) (.slice (some ⟨g, 0, none⟩) l cc)) w5 [m0, m1, m2, m3] (ks[j].repl f) := HN5.out.1.weaken fun k _ hk => mid_iff.2 (by
              have e : (wr.alloc (.cells #[e0, e1, e2, e3] 24)).drew.heap.size = wr.heap.size + 1 := alloc_size _ _
              rw [e]
              rcases midV_iff.1 hk with h | h
              · omega
              · simp only [Value.ownBlock, Option.some.injEq] at h
                omega)
            have hstep := RepRow.step (f := f) (B := B) (H := W.heap.size + 2) (base := W.heap.size + 2) (L0 := L0) (W := w5) (g := g) (cap := cc) (y0 := m0) (y1 := m1) (y2 := m2) (y3 := m3) (ks := ks) (j := j) (by rw [HL.out]; exact HREP2.out.below HN5.out.2.1) hkx (by rw [HL.out]; exact hy)
            rw [HL.out] at hstep
            have HSTEP := Lib.hid hstep
            have HB9 := Lib.hid (blk_put4i (HBX2.out.below HN5.out.2.1 HBX2.out.lt) (show W.heap.size ≠ g by omega) (j * 4) m0 m1 m2 m3)
            have HR9 := Lib.hid (blk_put4i (HRS2.out.below HN5.out.2.1 HRS2.out.lt) (show W.heap.size + 1 ≠ g by omega) (j * 4) m0 m1 m2 m3)
            have HE9 := Lib.hid (below_put4i (HBE.out.trans (HN5.out.2.1.mono hzr)) (show W.heap.size ≤ g by omega) (j * 4) m0 m1 m2 m3)
            clear hy hstep
            go_wp2_with fail
            go_roundw
            case rel => exact ⟨j + 1, by go_num, by omega, HB9.out, HR9.out, HSTEP.out, HE9.out⟩
            case measure => simp [intOf]; omega
        · have hj2 : j = l := by omega
          subst hj2
          have h := hrep
          rw [← HL.out] at h
          obtain ⟨A9, c9, L9, e9, hc9, hm9, hrow, hel⟩ := h.done.row (Nat.le_refl _)
          have elen : (tysRepl f ks).length = j := by rw [repl_map]; simp [HL.out]
          rw [HL.out, elen] at e9
          injection e9 with e1 _ e2
          subst e1 e2
          have HTY := Lib.hid (TyX.mk_ HK.out.1 HK.out.2.1 HK.out.2.2 hc9 hm9 (by rw [elen]; exact hl9) hrow hel)
          rw [elen] at HTY
          have HBE := Lib.hid hbe
          have HRS2 := Lib.hid hrs
          have r0 := hrs.cell 0
          have r1 := hrs.cell 1
          have r2 := hrs.cell 2
          have r3 := hrs.cell 3
          simp only [zTy, List.getElem?_toArray, List.getElem?_cons_succ, List.getElem?_cons_zero] at r0 r1 r2 r3
          have fr0 := hrs.frozen 0
          have fr1 := hrs.frozen 1
          have fr2 := hrs.frozen 2
          have fr3 := hrs.frozen 3
          clear h hrep hbe hel hrow hrs hbx HOO HOB HI0 HREP
          go_wp2_with fail
          exact ty_end (H2 := W.heap.size + 2) rfl rfl HRS2.out (by omega) hBW (by omega) HBE.out (by rw [HR2.out]; exact HTY.out)

end Go.Proofs.Ytgmcjnhaedfinaa
