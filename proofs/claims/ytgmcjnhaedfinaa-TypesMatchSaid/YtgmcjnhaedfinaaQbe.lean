/- Walks: the document's Put, Apply. -/
import Derived.Test.YtgmcjnhaedfinaaQbd
namespace Go.Proofs.Ytgmcjnhaedfinaa
open Go.RowKit Go.Maps
set_option linter.unusedVariables false
set_option linter.unusedSimpArgs false
set_option maxRecDepth 100000

theorem TyRow.len_ {B H base : Nat} {W : World} {v : Value} {l : List Ty} (h : TyRow B H base W v l) : ∃ A c, v = .slice A l.length c := by
  obtain ⟨L, h1, _⟩ := h.ex
  obtain ⟨A, c, e, _⟩ := own_shape4 h1
  exact ⟨A, c, e⟩
theorem lookT_drop {names : List ByteArray} {ts : List Ty} {i : Nat} {x : ByteArray} (hi : i < names.length) (hn : nmEq names[i] x = false) : lookT (names.drop i) (ts.drop i) x = lookT (names.drop (i + 1)) (ts.drop (i + 1)) x := by
  rw [List.drop_eq_getElem_cons hi]
  by_cases hm : i < ts.length
  · rw [List.drop_eq_getElem_cons hm]
    simp only [lookT, hn]
    simp
  · rw [List.drop_eq_nil_of_le (by omega : ts.length ≤ i), List.drop_eq_nil_of_le (by omega : ts.length ≤ i + 1)]
    cases names.drop (i + 1) <;> simp [lookT]
theorem lookT_hit {names : List ByteArray} {ts : List Ty} {i : Nat} {x : ByteArray} (hi : i < names.length) (hm : i < ts.length) (hn : nmEq names[i] x = true) : lookT (names.drop i) (ts.drop i) x = some ts[i] := by
  rw [List.drop_eq_getElem_cons hi, List.drop_eq_getElem_cons hm]
  simp only [lookT, hn]
  simp
theorem lookT_out {names : List ByteArray} {ts : List Ty} {i : Nat} {x : ByteArray} (h : names.length ≤ i ∨ ts.length ≤ i) : lookT (names.drop i) (ts.drop i) x = none := by
  rcases h with h | h
  · rw [List.drop_eq_nil_of_le h]; simp [lookT]
  · rw [List.drop_eq_nil_of_le h]; cases names.drop i <;> simp [lookT]
theorem lookSb_drop {ls : List Sb} {i : Nat} {x : Int} (hi : i < ls.length) (hn : ¬ ls[i].n = x) : lookSb (ls.drop i) x = lookSb (ls.drop (i + 1)) x := by
  rw [List.drop_eq_getElem_cons hi]
  simp only [lookSb, if_neg hn]
theorem lookSb_hit {ls : List Sb} {i : Nat} {x : Int} (hi : i < ls.length) (hn : ls[i].n = x) : lookSb (ls.drop i) x = some ls[i].t := by
  rw [List.drop_eq_getElem_cons hi]
  simp only [lookSb, if_pos hn]

set_option maxHeartbeats 12800000 in
theorem rput_any (names : List ByteArray) (ts : List Ty) (A A' : Option Addr) (n c m c' B : Nat) (L : List (List Value)) (hnn : names.length = n) (hn9 : n ≤ 4000000) (hmm : ts.length = m) (hm9 : m ≤ 4000000) (N : Nat) : ∀ (t : Ty), t.nodes ≤ N → N ≤ 4000000 → ∀ (W : World) (cs : List Value), B ≤ W.heap.size → Reads W B 1 A n (nmVals names) → TysAt W B A' ts L → TyAt W B cs t →
    Calls Try.prog 27 #[.slice A n c, .slice A' m c', .agg cs.toArray] W (TyPost B (t.repl (putF names ts)) W) := by
  induction N with
  | zero => intro t h; cases t; unfold Ty.nodes at h; omega
  | succ N ih =>
    intro t hN hN2 W cs hBW hrd hts hx
    obtain ⟨k, nm, n0, A0, c0', ks, rfl, rfl⟩ := ty_cells hx
    obtain ⟨_, hk, hs, hn, hc, hm0, L0, htys⟩ := ty_open hx _ _ _ _ _ _ _ rfl rfl
    unfold Ty.nodes at hN
    have hln := tysNodes_len ks
    obtain ⟨l, hl⟩ : ∃ l, ks.length = l := ⟨_, rfl⟩
    rw [hl] at hx ⊢
    obtain ⟨W1, hW1⟩ : ∃ W1, (W.alloc (.cells #[.int .i64 k, .string nm, .int .i64 n0, .slice A0 l c0'] 24)).alloc (.cells zTy 24) = W1 := ⟨_, rfl⟩
    have hg : Below W.heap.size W W1 := by rw [← hW1]; exact ((Below.refl _ _).alloc (Nat.le_refl _) _).alloc (by simp) _
    have hsz : W1.heap.size = W.heap.size + 2 := by rw [← hW1]; simp
    have hbx : Blk W1 W.heap.size 24 #[.int .i64 k, .string nm, .int .i64 n0, .slice A0 l c0'] := by rw [← hW1]; exact (Blk.new _ _ _).alloc _
    have hrs : Blk W1 (W.heap.size + 1) 24 zTy := by rw [← hW1]; have := Blk.new (W.alloc (.cells #[.int .i64 k, .string nm, .int .i64 n0, .slice A0 l c0'] 24)) 24 zTy; simpa using this
    obtain ⟨i0, hi, hz0, hz1, hz2⟩ := info_parts ty_info
    have HI := Lib.hid hi
    have HZ0 := Lib.hid hz0
    have HZ1 := Lib.hid hz1
    have HZ2 := Lib.hid hz2
    clear hi hz0 hz1 hz2
    have HW := Lib.hid hW1
    have HG := Lib.hid hg
    have HZ := Lib.hid hsz
    have HBX := Lib.hid hbx
    have HRS := Lib.hid hrs
    have HA := Lib.hid htys
    have HX := Lib.hid hx
    have HL := Lib.hid hl
    have HND := Lib.hid (show tysNodes ks ≤ N by omega)
    have HIH := Lib.hid (fun (t : Ty) (ht : t ∈ ks) => ih t (by have := tys_mem ks t ht; omega) (by omega))
    have HRD := Lib.hid hrd
    have HTS := Lib.hid hts
    have HNN := Lib.hid hnn
    have HMM := Lib.hid hmm
    have hl9 : l ≤ 4000000 := by omega
    have x0 := HBX.out.cell 0
    have x1 := HBX.out.cell 1
    have x2 := HBX.out.cell 2
    have x3 := HBX.out.cell 3
    simp only [zTy, List.getElem?_toArray, List.getElem?_cons_succ, List.getElem?_cons_zero] at x0 x1 x2 x3
    clear hx hg ih hc hm0 hN hW1 hsz hbx hrs hl hN2 hln htys hk hs hn hrd hts
    by_cases hk1 : k = 1
    · have d1 : (k == 1) = true := by simpa using hk1
      have HK := Lib.hid hk1
      clear hk1
      go_enter Try.func27, Try.ntmps27
      go_upto_region 1 with fail
      unfold zTy at HW
      rw [HW.out]
      go_wp2_with fail
      go_loopw [7] (fun i wr => ∃ (j : Nat), i = .int .i64 j ∧ ((j ≤ n ∧ lookT names ts nm = lookT (names.drop j) (ts.drop j) nm) ∨ (j = n + 1 ∧ lookT names ts nm = none)) ∧ Below W1.heap.size W1 wr) (fun i _ => n + 1 - (intOf i).toNat)
      case atStart => exact ⟨0, rfl, .inl ⟨Nat.zero_le _, by simp⟩, Below.refl _ _⟩
      case round =>
        obtain ⟨j, rfl, hcase, hbe⟩ := hrel
        have hzr := hbe.size
        have hz1 := HZ.out
        have hBx := HBX.out.below hbe (by omega)
        have y0 := hBx.cell 0
        have y1 := hBx.cell 1
        have y2 := hBx.cell 2
        have y3 := hBx.cell 3
        simp only [zTy, List.getElem?_toArray, List.getElem?_cons_succ, List.getElem?_cons_zero] at y0 y1 y2 y3
        have yd0 := hBx.drew.cell 0
        have yd1 := hBx.drew.cell 1
        have yd2 := hBx.drew.cell 2
        have yd3 := hBx.drew.cell 3
        simp only [zTy, List.getElem?_toArray, List.getElem?_cons_succ, List.getElem?_cons_zero] at yd0 yd1 yd2 yd3
        have HBE := Lib.hid hbe
        have HR1 := Lib.hid (HRS.out.below hbe (by omega))
        by_cases hlt : j < n
        · have hrel : lookT names ts nm = lookT (names.drop j) (ts.drop j) nm := by
            rcases hcase with h | h
            · exact h.2
            · omega
          have hjn : j < names.length := by rw [HNN.out]; exact hlt
          have hb0 := HG.out.trans (hbe.mono (show W.heap.size ≤ W1.heap.size by omega))
          obtain ⟨ad, rfl, hbl, hl', hc⟩ := nm_at (HRD.out.below (hb0.mono hBW)) hlt
          have hcd : wr.drew.cell? (ad.add j) = _ := hc
          obtain ⟨x, hx⟩ : ∃ x, names[j] = x := ⟨_, rfl⟩
          rw [hx] at hc hcd
          cases hxy : nmEq x nm with
          | false =>
            have b1 := nm_no hxy
            have HNX := Lib.hid (show lookT names ts nm = lookT (names.drop (j + 1)) (ts.drop (j + 1)) nm by rw [hrel]; exact lookT_drop hjn (by rw [hx]; exact hxy))
            clear hrel hx hxy hbe hb0 hBx hcase hz1
            go_wp2_with fail
            go_region
            go_wp2_with fail
            go_roundw
            case rel => exact ⟨j + 1, by go_num, .inl ⟨by omega, HNX.out⟩, HBE.out.drew⟩
            case measure => simp [intOf]; omega
          | true =>
            have b1 := nm_yes hxy
            by_cases hjm : j < m
            · have hjt : j < ts.length := by rw [HMM.out]; exact hjm
              have HNX := Lib.hid (show (Ty.mk k nm n0 ks).repl (putF names ts) = ts[j] by
                rw [repl_eq]
                show (if k = 1 then lookT names ts nm else none : Option Ty).getD _ = _
                rw [if_pos HK.out, hrel, lookT_hit hjn hjt (by rw [hx]; exact hxy)]; rfl)
              have hb0d := hb0.drew
              obtain ⟨g, o, e0, e1, e2, e3, hA0, hgB, k0, k1, k2, k3, hta⟩ := (HTS.out.later (hb0d.mono hBW)).at_ hjt
              subst hA0
              have oo := ty_ones hta
              have se0 := store_one' e0 (oo e0 (by simp))
              have se1 := store_one' e1 (oo e1 (by simp))
              have se2 := store_one' e2 (oo e2 (by simp))
              have se3 := store_one' e3 (oo e3 (by simp))
              have hR1 := HR1.out.drew
              have r0 := hR1.cell 0
              have r1 := hR1.cell 1
              have r2 := hR1.cell 2
              have r3 := hR1.cell 3
              simp only [zTy, List.getElem?_toArray, List.getElem?_cons_succ, List.getElem?_cons_zero] at r0 r1 r2 r3
              have fr0 := hR1.frozen 0
              have fr1 := hR1.frozen 1
              have fr2 := hR1.frozen 2
              have fr3 := hR1.frozen 3
              have rr0 := HR1.out.cell 0
              have rr1 := HR1.out.cell 1
              have rr2 := HR1.out.cell 2
              have rr3 := HR1.out.cell 3
              simp only [zTy, List.getElem?_toArray, List.getElem?_cons_succ, List.getElem?_cons_zero] at rr0 rr1 rr2 rr3
              have ff0 := HR1.out.frozen 0
              have ff1 := HR1.out.frozen 1
              have ff2 := HR1.out.frozen 2
              have ff3 := HR1.out.frozen 3
              have q0 : wr.cell? ⟨g, o + j * 4, none⟩ = _ := k0
              have q1 : wr.cell? ⟨g, o + j * 4 + 1, none⟩ = _ := k1
              have q2 : wr.cell? ⟨g, o + j * 4 + 2, none⟩ = _ := k2
              have q3 : wr.cell? ⟨g, o + j * 4 + 3, none⟩ = _ := k3
              have HTA := Lib.hid hta
              have HB0 := Lib.hid hb0d
              clear hrel hx hxy hbe hb0 hBx hcase hta oo hb0d hz1
              go_wp2_with fail
              go_region
              go_wp2_with fail
              have hz1 := HZ.out
              exact ty_end (H2 := W1.heap.size) rfl rfl hR1 (by omega) hBW (by omega) HB0.out (by rw [HNX.out]; exact TyX.of_old HTA.out (by have := HB0.out.size; omega) fun k hk => (mid_iff.1 hk).1)
            · have HNX := Lib.hid (show lookT names ts nm = none by rw [hrel]; exact lookT_out (.inr (by rw [HMM.out]; omega)))
              clear hrel hx hxy hbe hb0 hBx hcase hz1
              go_wp2_with fail
              go_region
              go_wp2_with fail
              go_roundw
              case rel => exact ⟨n + 1, by go_num, .inr ⟨rfl, HNX.out⟩, HBE.out.drew⟩
              case measure => simp [intOf]; omega
        · have HNO := Lib.hid (show (Ty.mk k nm n0 ks).repl (putF names ts) = .mk k nm n0 (tysRepl (putF names ts) ks) by
            have h0 : lookT names ts nm = none := by
              rcases hcase with h | h
              · rw [h.2]; exact lookT_out (.inl (by rw [HNN.out]; omega))
              · exact h.2
            rw [repl_eq]
            show (if k = 1 then lookT names ts nm else none : Option Ty).getD _ = _
            rw [if_pos HK.out, h0]; rfl)
          have HBE1 := Lib.hid hbe
          clear hcase hbe hBx hz1 HBE HR1
          go_wp2_with fail
          go_loopw [8, 9] (fun v i wr => ∃ (j : Nat), i = .int .i64 j ∧ j ≤ l ∧ TyRow B W1.heap.size W1.heap.size wr v (tysRepl (putF names ts) (ks.take j)) ∧ Below W1.heap.size W1 wr) (fun _ i _ => l - (intOf i).toNat)
          case atStart => exact ⟨0, rfl, Nat.zero_le _, by rw [List.take_zero]; exact TyRow.nil_, HBE1.out⟩
          case round =>
            obtain ⟨j, rfl, hj, hrow, hbe⟩ := hrel
            have hzr := hbe.size
            have hz1 := HZ.out
            have hBx := HBX.out.below hbe (by omega)
            have y0 := hBx.cell 0
            have y1 := hBx.cell 1
            have y2 := hBx.cell 2
            have y3 := hBx.cell 3
            simp only [zTy, List.getElem?_toArray, List.getElem?_cons_succ, List.getElem?_cons_zero] at y0 y1 y2 y3
            have HBE := Lib.hid hbe
            by_cases hlt : j < l
            · have hkx : j < ks.length := by rw [HL.out]; exact hlt
              have hb0 := HG.out.trans (hbe.mono (show W.heap.size ≤ W1.heap.size by omega))
              obtain ⟨g, o, e0, e1, e2, e3, hA0, hgB, k0, k1, k2, k3, hta⟩ := (HA.out.later (hb0.mono hBW)).at_ hkx
              subst hA0
              have HC := Lib.hid (HIH.out ks[j] (List.getElem_mem hkx) wr [e0, e1, e2, e3] (by omega) (HRD.out.below (hb0.mono hBW)) (HTS.out.later (hb0.mono hBW)) hta)
              have HROW := Lib.hid hrow
              have HST := Lib.hid (show tysRepl (putF names ts) (ks.take (j + 1)) = tysRepl (putF names ts) (ks.take j) ++ [ks[j].repl (putF names ts)] by rw [take_snoc hkx, repl_map, repl_map, List.map_append]; rfl)
              have hlen : (tysRepl (putF names ts) (ks.take j)).length = j := by rw [repl_map, List.length_map, List.length_take]; omega
              have HLEN := Lib.hid hlen
              clear hta hrow hbe hb0 hBx hz1 hlen
              go_wp2_with (first | (go_at_call 27; (with_reducible refine HC.out.mono ?_); rintro e w2 ⟨xs, rfl, hty, hb2⟩; (have oo := ty_ones hty); (obtain ⟨m0, m1, m2, m3, rfl⟩ := four_of (TyAt.four hty)); (have sm0 := store_one' m0 (oo m0 (by simp))); (have sm1 := store_one' m1 (oo m1 (by simp))); (have sm2 := store_one' m2 (oo m2 (by simp))); (have sm3 := store_one' m3 (oo m3 (by simp))); (have hz2 := hb2.size); (have hal := (Below.refl w2.heap.size w2).alloc (Nat.le_refl _) (.cells #[m0, m1, m2, m3] 24)); (have HR2 := Lib.hid ((HROW.out.below hb2).below hal)); (obtain ⟨L2, ho2, hl2, h42, hel2⟩ := HR2.out.ex); (rw [HLEN.out] at ho2)) | (at_builtin; refine wpList_append_lies _ rfl (.tmp 43) (.tmp 52) 22 rfl W1.heap.size 24 i0 (.agg #[.int .i64 0, .string ⟨#[]⟩, .int .i64 0, .slice none 0 0]) 4 56 Try.underlying22 HI.out HZ0.out HZ1.out HZ2.out rfl (by decide) _ _ _ rfl ho2 ⟨w2.heap.size, 0, none⟩ 1 1 [m0, m1, m2, m3] rfl rfl (new_cells w2 [m0, m1, m2, m3]) oo (by omega) (by unfold maxLen; omega) (by omega) (by simp; omega) _ rfl ?_))
              intro g3 cap3 w3 hown3 hg3 hlies hlt3
              have hz1 := HZ.out
              have hzz : (w2.alloc (.cells #[m0, m1, m2, m3] 24)).heap.size = w2.heap.size + 1 := alloc_size _ _
              have hb23 : Below W1.heap.size (w2.alloc (.cells #[m0, m1, m2, m3] 24)) w3 := (Below.refl _ _).grown hg3 (by simp; omega) (fun k hk => own_base ho2 k hk)
              have hN3 := TyRow.add (B := B) (H := W1.heap.size) (base := W1.heap.size) (l := tysRepl (putF names ts) (ks.take j)) (a := ks[j].repl (putF names ts)) (E := [m0, m1, m2, m3]) (L := L2) hl2 h42 hel2
                ((hty.below hal).weaken fun k hk hx => mid_iff.2 (by
                  rcases midV_iff.1 hx with h | h
                  · omega
                  · have h1 := own_base ho2 k h
                    obtain ⟨L9, ho9, _⟩ := HROW.out.ex
                    have h2 := own_lt ho9 h
                    omega))
                (by rw [HLEN.out]; exact hown3) hg3 (by
                  rcases hlies with h | h
                  · exact .inl h
                  · exact .inr (by omega))
              rw [← HST.out] at hN3
              have HN3 := Lib.hid hN3
              have HB3 := Lib.hid ((HBE.out.trans (hb2.mono hzr)).trans ((hal.mono (by omega)).trans hb23))
              clear hown3 hg3 hb23 hal hb2 hN3 hel2 h42 ho2 hl2 hty
              go_wp2_with fail
              go_roundw
              case rel => exact ⟨j + 1, by go_num, by omega, HN3.out, HB3.out⟩
              case measure => simp [intOf]; omega
            · have hj2 : j = l := by omega
              subst hj2
              rw [List.take_of_length_le (by rw [HL.out]; omega)] at hrow
              obtain ⟨A9, c9, L9, e9, hc9, hm9, hrow9, hel9⟩ := hrow.row (Nat.le_refl _)
              have elen : (tysRepl (putF names ts) ks).length = j := by rw [repl_map]; simp [HL.out]
              rw [elen] at e9
              subst e9
              have hb0 := HG.out.trans (hbe.mono (show W.heap.size ≤ W1.heap.size by omega))
              have CK := Lib.hid (kids_any k n0 nm ks (tysRepl (putF names ts) ks) [.int .i64 k, .string nm, .int .i64 n0, .slice A0 j c0'] A9 c9 B W1.heap.size L9 wr (HX.out.later (hb0.mono hBW)) hzr hc9 hm9 (by omega) hrow9 hel9)
              rw [elen] at CK
              have HBE0 := Lib.hid hb0
              have HR1 := Lib.hid (HRS.out.below hbe (by omega))
              clear hrow hbe hrow9 hel9 hb0 hBx hz1 elen
              go_wp2_with (go_at_call 46; (with_reducible refine CK.out.mono ?_); rintro e w5 ⟨xs, rfl, hty, hb5⟩; (have hR := HR1.out.below hb5 HR1.out.lt); (have r0 := hR.cell 0); (have r1 := hR.cell 1); (have r2 := hR.cell 2); (have r3 := hR.cell 3); (simp only [zTy, List.getElem?_toArray, List.getElem?_cons_succ, List.getElem?_cons_zero] at r0 r1 r2 r3); (have fr0 := hR.frozen 0); (have fr1 := hR.frozen 1); (have fr2 := hR.frozen 2); (have fr3 := hR.frozen 3); (have oo := ty_ones hty); (obtain ⟨m0, m1, m2, m3, rfl⟩ := four_of (TyAt.four hty)); (have sm0 := store_one' m0 (oo m0 (by simp))); (have sm1 := store_one' m1 (oo m1 (by simp))); (have sm2 := store_one' m2 (oo m2 (by simp))); (have sm3 := store_one' m3 (oo m3 (by simp))))
              have hz1 := HZ.out
              exact ty_end (H2 := W1.heap.size) rfl rfl hR (by omega) hBW (by omega) (HBE0.out.trans (hb5.mono (by omega))) (by rw [HNO.out]; exact hty)
    · have d1 : (k == 1) = false := by simpa using hk1
      have HNO := Lib.hid (show (Ty.mk k nm n0 ks).repl (putF names ts) = .mk k nm n0 (tysRepl (putF names ts) ks) by
        rw [repl_eq]
        show (if k = 1 then _ else none : Option Ty).getD _ = _
        rw [if_neg hk1]; rfl)
      clear hk1
      go_enter Try.func27, Try.ntmps27
      go_upto_region 1 with fail
      unfold zTy at HW
      rw [HW.out]
      go_wp2_with fail
      have HBE1 := Lib.hid (Below.refl W1.heap.size W1)
      go_loopw [8, 9] (fun v i wr => ∃ (j : Nat), i = .int .i64 j ∧ j ≤ l ∧ TyRow B W1.heap.size W1.heap.size wr v (tysRepl (putF names ts) (ks.take j)) ∧ Below W1.heap.size W1 wr) (fun _ i _ => l - (intOf i).toNat)
      case atStart => exact ⟨0, rfl, Nat.zero_le _, by rw [List.take_zero]; exact TyRow.nil_, HBE1.out⟩
      case round =>
        obtain ⟨j, rfl, hj, hrow, hbe⟩ := hrel
        have hzr := hbe.size
        have hz1 := HZ.out
        have hBx := HBX.out.below hbe (by omega)
        have y0 := hBx.cell 0
        have y1 := hBx.cell 1
        have y2 := hBx.cell 2
        have y3 := hBx.cell 3
        simp only [zTy, List.getElem?_toArray, List.getElem?_cons_succ, List.getElem?_cons_zero] at y0 y1 y2 y3
        have HBE := Lib.hid hbe
        by_cases hlt : j < l
        · have hkx : j < ks.length := by rw [HL.out]; exact hlt
          have hb0 := HG.out.trans (hbe.mono (show W.heap.size ≤ W1.heap.size by omega))
          obtain ⟨g, o, e0, e1, e2, e3, hA0, hgB, k0, k1, k2, k3, hta⟩ := (HA.out.later (hb0.mono hBW)).at_ hkx
          subst hA0
          have HC := Lib.hid (HIH.out ks[j] (List.getElem_mem hkx) wr [e0, e1, e2, e3] (by omega) (HRD.out.below (hb0.mono hBW)) (HTS.out.later (hb0.mono hBW)) hta)
          have HROW := Lib.hid hrow
          have HST := Lib.hid (show tysRepl (putF names ts) (ks.take (j + 1)) = tysRepl (putF names ts) (ks.take j) ++ [ks[j].repl (putF names ts)] by rw [take_snoc hkx, repl_map, repl_map, List.map_append]; rfl)
          have hlen : (tysRepl (putF names ts) (ks.take j)).length = j := by rw [repl_map, List.length_map, List.length_take]; omega
          have HLEN := Lib.hid hlen
          clear hta hrow hbe hb0 hBx hz1 hlen
          go_wp2_with (first | (go_at_call 27; (with_reducible refine HC.out.mono ?_); rintro e w2 ⟨xs, rfl, hty, hb2⟩; (have oo := ty_ones hty); (obtain ⟨m0, m1, m2, m3, rfl⟩ := four_of (TyAt.four hty)); (have sm0 := store_one' m0 (oo m0 (by simp))); (have sm1 := store_one' m1 (oo m1 (by simp))); (have sm2 := store_one' m2 (oo m2 (by simp))); (have sm3 := store_one' m3 (oo m3 (by simp))); (have hz2 := hb2.size); (have hal := (Below.refl w2.heap.size w2).alloc (Nat.le_refl _) (.cells #[m0, m1, m2, m3] 24)); (have HR2 := Lib.hid ((HROW.out.below hb2).below hal)); (obtain ⟨L2, ho2, hl2, h42, hel2⟩ := HR2.out.ex); (rw [HLEN.out] at ho2)) | (at_builtin; refine wpList_append_lies _ rfl (.tmp 43) (.tmp 52) 22 rfl W1.heap.size 24 i0 (.agg #[.int .i64 0, .string ⟨#[]⟩, .int .i64 0, .slice none 0 0]) 4 56 Try.underlying22 HI.out HZ0.out HZ1.out HZ2.out rfl (by decide) _ _ _ rfl ho2 ⟨w2.heap.size, 0, none⟩ 1 1 [m0, m1, m2, m3] rfl rfl (new_cells w2 [m0, m1, m2, m3]) oo (by omega) (by unfold maxLen; omega) (by omega) (by simp; omega) _ rfl ?_))
          intro g3 cap3 w3 hown3 hg3 hlies hlt3
          have hz1 := HZ.out
          have hzz : (w2.alloc (.cells #[m0, m1, m2, m3] 24)).heap.size = w2.heap.size + 1 := alloc_size _ _
          have hb23 : Below W1.heap.size (w2.alloc (.cells #[m0, m1, m2, m3] 24)) w3 := (Below.refl _ _).grown hg3 (by simp; omega) (fun k hk => own_base ho2 k hk)
          have hN3 := TyRow.add (B := B) (H := W1.heap.size) (base := W1.heap.size) (l := tysRepl (putF names ts) (ks.take j)) (a := ks[j].repl (putF names ts)) (E := [m0, m1, m2, m3]) (L := L2) hl2 h42 hel2
            ((hty.below hal).weaken fun k hk hx => mid_iff.2 (by
              rcases midV_iff.1 hx with h | h
              · omega
              · have h1 := own_base ho2 k h
                obtain ⟨L9, ho9, _⟩ := HROW.out.ex
                have h2 := own_lt ho9 h
                omega))
            (by rw [HLEN.out]; exact hown3) hg3 (by
              rcases hlies with h | h
              · exact .inl h
              · exact .inr (by omega))
          rw [← HST.out] at hN3
          have HN3 := Lib.hid hN3
          have HB3 := Lib.hid ((HBE.out.trans (hb2.mono hzr)).trans ((hal.mono (by omega)).trans hb23))
          clear hown3 hg3 hb23 hal hb2 hN3 hel2 h42 ho2 hl2 hty
          go_wp2_with fail
          go_roundw
          case rel => exact ⟨j + 1, by go_num, by omega, HN3.out, HB3.out⟩
          case measure => simp [intOf]; omega
        · have hj2 : j = l := by omega
          subst hj2
          rw [List.take_of_length_le (by rw [HL.out]; omega)] at hrow
          obtain ⟨A9, c9, L9, e9, hc9, hm9, hrow9, hel9⟩ := hrow.row (Nat.le_refl _)
          have elen : (tysRepl (putF names ts) ks).length = j := by rw [repl_map]; simp [HL.out]
          rw [elen] at e9
          subst e9
          have hb0 := HG.out.trans (hbe.mono (show W.heap.size ≤ W1.heap.size by omega))
          have CK := Lib.hid (kids_any k n0 nm ks (tysRepl (putF names ts) ks) [.int .i64 k, .string nm, .int .i64 n0, .slice A0 j c0'] A9 c9 B W1.heap.size L9 wr (HX.out.later (hb0.mono hBW)) hzr hc9 hm9 (by omega) hrow9 hel9)
          rw [elen] at CK
          have HBE0 := Lib.hid hb0
          have HR1 := Lib.hid (HRS.out.below hbe (by omega))
          clear hrow hbe hrow9 hel9 hb0 hBx hz1 elen
          go_wp2_with (go_at_call 46; (with_reducible refine CK.out.mono ?_); rintro e w5 ⟨xs, rfl, hty, hb5⟩; (have hR := HR1.out.below hb5 HR1.out.lt); (have r0 := hR.cell 0); (have r1 := hR.cell 1); (have r2 := hR.cell 2); (have r3 := hR.cell 3); (simp only [zTy, List.getElem?_toArray, List.getElem?_cons_succ, List.getElem?_cons_zero] at r0 r1 r2 r3); (have fr0 := hR.frozen 0); (have fr1 := hR.frozen 1); (have fr2 := hR.frozen 2); (have fr3 := hR.frozen 3); (have oo := ty_ones hty); (obtain ⟨m0, m1, m2, m3, rfl⟩ := four_of (TyAt.four hty)); (have sm0 := store_one' m0 (oo m0 (by simp))); (have sm1 := store_one' m1 (oo m1 (by simp))); (have sm2 := store_one' m2 (oo m2 (by simp))); (have sm3 := store_one' m3 (oo m3 (by simp))))
          have hz1 := HZ.out
          exact ty_end (H2 := W1.heap.size) rfl rfl hR (by omega) hBW (by omega) (HBE0.out.trans (hb5.mono (by omega))) (by rw [HNO.out]; exact hty)

end Go.Proofs.Ytgmcjnhaedfinaa
