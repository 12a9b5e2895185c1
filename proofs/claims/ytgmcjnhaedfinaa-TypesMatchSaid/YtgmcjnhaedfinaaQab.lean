/- Walks: the document's Answer, All. -/
import Derived.Test.YtgmcjnhaedfinaaQaa
namespace Go.Proofs.Ytgmcjnhaedfinaa
open Go.RowKit
set_option linter.unusedVariables false
set_option linter.unusedSimpArgs false
set_option maxRecDepth 100000

set_option maxHeartbeats 3200000 in
theorem ranswer_any {t : Ty} {l : List Ty} {x : Ty} (h : ArgsR t l x) : ∀ (B : Nat) (w : World) (cs : List Value), B ≤ w.heap.size → TyAt w B cs t →
    Calls Try.prog 13 #[.agg cs.toArray] w (TyPost B x w) := by
  induction h with
  | @stop t hf =>
    intro B w cs hB hx
    obtain ⟨k, nm, n, A, c, ks, rfl, rfl⟩ := ty_cells hx
    obtain ⟨W1, hW1⟩ : ∃ W1, (w.alloc (.cells #[.int .i64 k, .string nm, .int .i64 n, .slice A ks.length c] 24)).alloc (.cells zTy 24) = W1 := ⟨_, rfl⟩
    have hg : Below w.heap.size w W1 := by rw [← hW1]; exact ((Below.refl _ _).alloc (Nat.le_refl _) _).alloc (by simp) _
    have hsz : W1.heap.size = w.heap.size + 2 := by rw [← hW1]; simp
    have hbx : Blk W1 w.heap.size 24 #[.int .i64 k, .string nm, .int .i64 n, .slice A ks.length c] := by rw [← hW1]; exact (Blk.new _ _ _).alloc _
    have hrs : Blk W1 (w.heap.size + 1) 24 zTy := by rw [← hW1]; have := Blk.new (w.alloc (.cells #[.int .i64 k, .string nm, .int .i64 n, .slice A ks.length c] 24)) 24 zTy; simpa using this
    have C := Lib.hid (risfun_any _ [.int .i64 k, .string nm, .int .i64 n, .slice A ks.length c] B W1 (by omega) (hx.later (hg.mono hB)))
    rw [hf] at C
    have HW := Lib.hid hW1
    have HG := Lib.hid hg
    have HSZ := Lib.hid hsz
    have HBX := Lib.hid hbx
    have HRS := Lib.hid hrs
    have HX := Lib.hid hx
    have HBB := Lib.hid hB
    clear hx hf hg hW1 hsz hbx hrs hB
    have x0 := HBX.out.cell 0
    have x1 := HBX.out.cell 1
    have x2 := HBX.out.cell 2
    have x3 := HBX.out.cell 3
    simp only [zTy, List.getElem?_toArray, List.getElem?_cons_succ, List.getElem?_cons_zero] at x0 x1 x2 x3
    go_enter Try.func13, Try.ntmps13
    go_upto_region 1 with fail
    unfold zTy at HW
    rw [HW.out]
    go_wp2_with (go_at_call 35; (with_reducible refine C.out.mono ?_); rintro e w2 ⟨rfl, hb2⟩; (have hB2 := HBX.out.below hb2 (by have := HSZ.out; omega)); (have x0 := hB2.cell 0); (have x1 := hB2.cell 1); (have x2 := hB2.cell 2); (have x3 := hB2.cell 3); (simp only [zTy, List.getElem?_toArray, List.getElem?_cons_succ, List.getElem?_cons_zero] at x0 x1 x2 x3); (have hR := HRS.out.below hb2 (by have := HSZ.out; omega)); (have r0 := hR.cell 0); (have r1 := hR.cell 1); (have r2 := hR.cell 2); (have r3 := hR.cell 3); (simp only [zTy, List.getElem?_toArray, List.getElem?_cons_succ, List.getElem?_cons_zero] at r0 r1 r2 r3); (have f0 := hR.frozen 0); (have f1 := hR.frozen 1); (have f2 := hR.frozen 2); (have f3 := hR.frozen 3))
    have hb02 := HG.out.trans (hb2.mono (by have := HSZ.out; omega))
    exact ty_end (H2 := w.heap.size + 2) rfl rfl hR (by omega) HBB.out (by omega) hb02 (TyX.of_old (HX.out.later (hb02.mono HBB.out)) (by have := hb02.size; have := HBB.out; omega) fun k hk => (mid_iff.1 hk).1)
  | @step k n nm a b x l hf hb ih =>
    intro B w cs hB hx
    cases hx with
    | @mk _ _ _ A c _ L hk hs hn hc hm hbb hr hks =>
    have hx : TyAt w B [.int .i64 k, .string nm, .int .i64 n, .slice A 2 c] (.mk k nm n [a, b]) := TyAt.mk hk hs hn hc hm hbb hr hks
    obtain ⟨W1, hW1⟩ : ∃ W1, (w.alloc (.cells #[.int .i64 k, .string nm, .int .i64 n, .slice A 2 c] 24)).alloc (.cells zTy 24) = W1 := ⟨_, rfl⟩
    have hg : Below w.heap.size w W1 := by rw [← hW1]; exact ((Below.refl _ _).alloc (Nat.le_refl _) _).alloc (by simp) _
    have hsz : W1.heap.size = w.heap.size + 2 := by rw [← hW1]; simp
    have hbx : Blk W1 w.heap.size 24 #[.int .i64 k, .string nm, .int .i64 n, .slice A 2 c] := by rw [← hW1]; exact (Blk.new _ _ _).alloc _
    have hrs : Blk W1 (w.heap.size + 1) 24 zTy := by rw [← hW1]; have := Blk.new (w.alloc (.cells #[.int .i64 k, .string nm, .int .i64 n, .slice A 2 c] 24)) 24 zTy; simpa using this
    have C := Lib.hid (risfun_any _ [.int .i64 k, .string nm, .int .i64 n, .slice A 2 c] B W1 (by omega) (hx.later (hg.mono hB)))
    rw [hf] at C
    have HTY := Lib.hid ((TysAt.mk hr hks).later (hg.mono hB))
    have HW := Lib.hid hW1
    have HG := Lib.hid hg
    have HSZ := Lib.hid hsz
    have HBX := Lib.hid hbx
    have HRS := Lib.hid hrs
    have HBB := Lib.hid hB
    have HIH := Lib.hid ih
    clear hx hf hg hr hks hW1 hbx hrs ih hsz hbb hB
    have x0 := HBX.out.cell 0
    have x1 := HBX.out.cell 1
    have x2 := HBX.out.cell 2
    have x3 := HBX.out.cell 3
    simp only [zTy, List.getElem?_toArray, List.getElem?_cons_succ, List.getElem?_cons_zero] at x0 x1 x2 x3
    go_enter Try.func13, Try.ntmps13
    go_upto_region 1 with fail
    unfold zTy at HW
    rw [HW.out]
    go_wp2_with (first | (go_at_call 35; (with_reducible refine C.out.mono ?_); rintro e w2 ⟨rfl, hb2⟩; (have hz := HSZ.out); (have hz2 := hb2.size); (have hB2 := HBX.out.below hb2 (by omega)); (have x0 := hB2.cell 0); (have x1 := hB2.cell 1); (have x2 := hB2.cell 2); (have x3 := hB2.cell 3); (simp only [zTy, List.getElem?_toArray, List.getElem?_cons_succ, List.getElem?_cons_zero] at x0 x1 x2 x3); (obtain ⟨g, o, c0, c1, c2, c3, d0, d1, d2, d3, hA, hgB, k0, k1, k2, k3, hta, q0, q1, q2, q3, htb⟩ := (HTY.out.later (hb2.mono (by have := HBB.out; omega))).two); (subst hA); (have C2 := Lib.hid (HIH.out B w2 [d0, d1, d2, d3] (by have := HBB.out; omega) htb)); (have hR2 := HRS.out.below hb2 (by omega)); clear hz hz2) | (go_at_call 13; (with_reducible refine C2.out.mono ?_); rintro e w3 ⟨xs, rfl, hty, hb3⟩; (have hR := hR2.below hb3 hR2.lt); (have r0 := hR.cell 0); (have r1 := hR.cell 1); (have r2 := hR.cell 2); (have r3 := hR.cell 3); (simp only [zTy, List.getElem?_toArray, List.getElem?_cons_succ, List.getElem?_cons_zero] at r0 r1 r2 r3); (have f0 := hR.frozen 0); (have f1 := hR.frozen 1); (have f2 := hR.frozen 2); (have f3 := hR.frozen 3); (have oo := ty_ones hty); (obtain ⟨x0, x1, x2, x3, rfl⟩ := four_of (TyAt.four hty)); (have sx0 := store_one' x0 (oo x0 (by simp))); (have sx1 := store_one' x1 (oo x1 (by simp))); (have sx2 := store_one' x2 (oo x2 (by simp))); (have sx3 := store_one' x3 (oo x3 (by simp)))))
    have hz := HSZ.out
    have hz2 := hb2.size
    exact ty_end (H2 := w2.heap.size) rfl rfl hR (by omega) HBB.out (by omega) ((HG.out.trans (hb2.mono (by omega))).trans (hb3.mono (by omega))) hty

theorem own_one (w : World) (e : TypeId) (cs : List Value) (size : Nat) (h : cs.length = size) : (w.alloc (.cells cs.toArray e)).ownsRow w.heap.size e size (.slice (some ⟨w.heap.size, 0, none⟩) 1 1) 1 cs :=
  ⟨by simp [h], .inr ⟨w.heap.size, 1, cs.toArray, rfl, Nat.le_refl _, Blk.new w e cs.toArray, Nat.le_refl _, by simp [maxLen], by simp [h], by simp [← h]⟩⟩
set_option maxHeartbeats 6400000 in
theorem rall_any (N : Nat) : ∀ (t : Ty), t.nodes ≤ N → N ≤ 4000000 → ∀ (B : Nat) (w : World) (cs : List Value), B ≤ w.heap.size → TyAt w B cs t →
    Calls Try.prog 21 #[.agg cs.toArray] w (TsPost B t.all w) := by
  induction N with
  | zero => intro t h; cases t; unfold Ty.nodes at h; omega
  | succ N ih =>
    intro t hN hN2 B w cs hB hx
    have hx0 := hx
    cases hx with
    | @mk k n nm A c ks L hk hs hn hc hm hbb hr hks =>
    unfold Ty.nodes at hN
    obtain ⟨l, hl⟩ : ∃ l, ks.length = l := ⟨_, rfl⟩
    have hln := tysNodes_len ks
    rw [hl] at hx0 ⊢
    obtain ⟨W1, hW1⟩ : ∃ W1, w.alloc (.cells #[.int .i64 k, .string nm, .int .i64 n, .slice A l c] 24) = W1 := ⟨_, rfl⟩
    have hg : Below w.heap.size w W1 := by rw [← hW1]; exact (Below.refl _ _).alloc (Nat.le_refl _) _
    have hsz : W1.heap.size = w.heap.size + 1 := by rw [← hW1]; simp
    have hbx : Blk W1 w.heap.size 24 #[.int .i64 k, .string nm, .int .i64 n, .slice A l c] := by rw [← hW1]; exact Blk.new _ _ _
    obtain ⟨i0, hi, hz0, hz1, hz2⟩ := info_parts ty_info
    have HI := Lib.hid hi
    have HZ0 := Lib.hid hz0
    have HZ1 := Lib.hid hz1
    have HZ2 := Lib.hid hz2
    clear hi hz0 hz1 hz2
    have HW := Lib.hid hW1
    have HBW := Lib.hid hg
    have HZ := Lib.hid hsz
    have HBX := Lib.hid hbx
    have HA := Lib.hid ((TysAt.mk hr hks).later (hg.mono hB))
    have HX := Lib.hid (hx0.later (hg.mono hB))
    have HL := Lib.hid hl
    have HBB := Lib.hid hB
    have HND := Lib.hid (show tysNodes ks ≤ N by omega)
    have HIH := Lib.hid (fun (t : Ty) (ht : t ∈ ks) => ih t (by have := tys_mem ks t ht; omega) (by omega))
    have HN2 := Lib.hid hN2
    have hl9 : l ≤ 4000000 := by omega
    clear hx0 hg hr hks ih hc hm hN hbb hW1 hsz hbx hl hB hN2 hln
    have x0 := HBX.out.cell 0
    have x1 := HBX.out.cell 1
    have x2 := HBX.out.cell 2
    have x3 := HBX.out.cell 3
    simp only [zTy, List.getElem?_toArray, List.getElem?_cons_succ, List.getElem?_cons_zero] at x0 x1 x2 x3
    go_enter Try.func21, Try.ntmps21
    go_upto_region 1 with fail
    rw [HW.out]
    go_wp2_with fail
    have HO1 := Lib.hid (own_one W1 24 [.int .i64 k, .string nm, .int .i64 n, .slice A l c] 4 rfl)
    have HB1 := Lib.hid ((Below.refl W1.heap.size W1).alloc (Nat.le_refl _) (.cells #[.int .i64 k, .string nm, .int .i64 n, .slice A l c] 24))
    have HT1 := Lib.hid (TsAt.one (HX.out.later (HB1.out.mono (by have := HZ.out; have := HBB.out; omega))))
    go_loopw [3, 4] (fun v i wr => ∃ (j : Nat) (Lr : List (List Value)), i = .int .i64 j ∧ j ≤ l ∧ wr.ownsRow W1.heap.size 24 4 v (1 + tysNodes (ks.take j)) Lr.flatten ∧ TsAt wr B (.mk k nm n ks :: tysAll (ks.take j)) Lr ∧ Below W1.heap.size W1 wr) (fun _ i _ => l - (intOf i).toNat)
    case atStart => exact ⟨0, [[.int .i64 k, .string nm, .int .i64 n, .slice A l c]], rfl, Nat.zero_le _, by simpa [tysNodes] using HO1.out, by simpa [tysAll] using HT1.out, HB1.out⟩
    case round =>
      obtain ⟨j, Lr, rfl, hj, hown, hts, hbe⟩ := hrel
      have hB2 := HBX.out.below hbe (by have := HZ.out; omega)
      have x0 := hB2.cell 0
      have x1 := hB2.cell 1
      have x2 := hB2.cell 2
      have x3 := hB2.cell 3
      simp only [zTy, List.getElem?_toArray, List.getElem?_cons_succ, List.getElem?_cons_zero] at x0 x1 x2 x3
      have hzr := hbe.size
      obtain ⟨q1, hq1⟩ : ∃ q1, 1 + tysNodes (ks.take j) = q1 := ⟨_, rfl⟩
      have hq9 : q1 ≤ 4000001 := by
        have h2 := tysNodes_take ks j
        have h3 := HND.out
        have h4 := HN2.out
        omega
      rw [hq1] at hown
      have HOW := Lib.hid hown
      have HTS := Lib.hid hts
      have HBE := Lib.hid hbe
      have HQ1 := Lib.hid hq1
      clear hown hbe hq1 hts hB2
      by_cases hlt : j < l
      · have hkx : j < ks.length := by rw [HL.out]; exact hlt
        have hBW1 : B ≤ W1.heap.size := by have := HZ.out; have := HBB.out; omega
        obtain ⟨g, o, a0, a1, a2, a3, rfl, hba, ca0, ca1, ca2, ca3, hta⟩ := (HA.out.later (HBE.out.mono hBW1)).at_ hkx
        have C := HIH.out ks[j] (List.getElem_mem hkx) B wr [a0, a1, a2, a3] (Nat.le_trans hBW1 HBE.out.size) hta
        have hnn : ks[j].all.length ≤ 4000000 := by
          have h2 := tys_mem ks ks[j] (List.getElem_mem hkx)
          have h3 := HND.out
          have h4 := HN2.out
          rw [all_len]; omega
        have HST := Lib.hid (show tysAll (ks.take (j + 1)) = tysAll (ks.take j) ++ ks[j].all by rw [take_snoc hkx, tysAll_app]; simp [tysAll])
        have HSN := Lib.hid (show tysNodes (ks.take (j + 1)) = tysNodes (ks.take j) + ks[j].all.length by rw [take_snoc hkx, tysNodes_app, all_len]; simp [tysNodes])
        have HC := Lib.hid C
        clear hta C
        go_wp2_with fail
        refine HC.out.mono ?_
        rintro e w2 ⟨v2, L2, rfl, hown2, hts2, hb2⟩
        obtain ⟨A2, c2, rfl, hcc2, hcm2, htys2⟩ := own_tys hown2 hts2 (by have := hb2.size; omega)
        have HR2 := Lib.hid htys2.row.reads
        have HTS2 := Lib.hid hts2
        have HO2 := Lib.hid (own_kept HOW.out hb2)
        have HTR2 := Lib.hid (HTS.out.later (hb2.mono (by omega)))
        have HB2 := Lib.hid (HBE.out.trans (hb2.mono hzr))
        have hz2 := HB2.out.size
        obtain ⟨q2, hq2⟩ : ∃ q2, ks[j].all.length = q2 := ⟨_, rfl⟩
        rw [hq2] at hnn HR2 ⊢
        have HQ2 := Lib.hid hq2
        clear hown2 htys2 hts2 hb2 hq2
        go_wp2_with (at_builtin; refine wpList_append_any _ rfl (.tmp 14) (.tmp 20) 22 rfl W1.heap.size 24 i0 (.agg #[.int .i64 0, .string ⟨#[]⟩, .int .i64 0, .slice none 0 0]) 4 56 Try.underlying22 HI.out HZ0.out HZ1.out HZ2.out rfl (by decide) _ _ _ rfl HO2.out w2.heap.size A2 q2 c2 L2.flatten rfl HR2.out (ts_ones HTS2.out) (by unfold maxLen; omega) (by omega) hz2 ?_)
        intro v3 w3 hown3 hg3 _
        have hb23 : Below W1.heap.size w2 w3 := (Below.refl _ _).grown hg3 hz2 (own_base HO2.out)
        have HN3 := Lib.hid (show w3.ownsRow W1.heap.size 24 4 v3 (1 + tysNodes (ks.take (j + 1))) (Lr ++ L2).flatten by
          rw [HSN.out, HQ2.out, ← Nat.add_assoc, HQ1.out, List.flatten_append]; exact hown3)
        have HT3 := Lib.hid (show TsAt w3 B (.mk k nm n ks :: tysAll (ks.take (j + 1))) (Lr ++ L2) by
          rw [HST.out, ← List.cons_append]; exact (HTR2.out.app HTS2.out).later (hb23.mono hBW1))
        have HB3 := Lib.hid (HB2.out.trans hb23)
        clear hown3 hg3 hb23
        go_wp2_with fail
        go_roundw
        case rel => exact ⟨j + 1, Lr ++ L2, by go_num, by omega, HN3.out, HT3.out, HB3.out⟩
        case measure => simp [intOf]; omega
      · have h1 := own_less (base' := w.heap.size) HOW.out (by have := HZ.out; omega)
        have h2 := HTS.out
        rw [← HQ1.out] at h1
        rw [List.take_of_length_le (by rw [HL.out]; omega)] at h1 h2
        rw [show 1 + tysNodes ks = (Ty.all (.mk k nm n ks)).length by rw [all_len]; rfl] at h1
        have HE := Lib.hid (And.intro h1 (And.intro (show TsAt wr B (Ty.all (.mk k nm n ks)) Lr from h2) (HBW.out.trans (HBE.out.mono (by have := HZ.out; omega)))))
        clear h1 h2
        go_wp2_with fail
        go_ret
        exact ⟨_, Lr, rfl, HE.out.1, HE.out.2.1, HE.out.2.2⟩

end Go.Proofs.Ytgmcjnhaedfinaa
