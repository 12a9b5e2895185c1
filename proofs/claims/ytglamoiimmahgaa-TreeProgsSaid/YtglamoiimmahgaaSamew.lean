/- Walks: the document's equality of expressions. -/
import Derived.Test.YtglamoiimmahgaaSames
import Derived.Deep.RegionHeld3
namespace Go.Proofs.Ytglamoiimmahgaa
open Go.RowKit
set_option linter.unusedVariables false
set_option linter.unusedSimpArgs false

theorem al_exp (p : Pt) (e : Ex) : (Al.mk p e).exp = e := rfl

/-- An operation taken first, its place said. -/
theorem takeH {P : Program} {md : Region.Mode} {ops : Array Oper} {Q : Exit → Act → World → Prop} {S : World → Prop} {i d : Nat} {oi : Oper} {v : Value} {fuel : Nat} {listed : Array Bool} {a : Act} {w : World} (hi : ops[i]? = some oi)
    (hs : Region.noSelect ops = true) (hf : Region.free md ops listed i = true) (hr : (Region.ready md ops listed).contains i = true)
    (hQ : ∀ c a w, Q (.panic c) (a.put oi.dst v) w → Q (.panic c) a w) (hy : YieldsIf P ops S oi v a) (hS : S w) (hd : oi.dst = some d)
    (h : wpAnyH P md ops Q S fuel (listed.setIfInBounds i true) (a.put (some d) v) w) : wpAnyH P md ops Q S (fuel + 1) listed a w :=
  wpAnyH_take hi hs hf hr hQ hy hS (by rw [hd]; exact h)

set_option maxRecDepth 100000 in
set_option maxHeartbeats 12800000 in
theorem rsame_any (N : Nat) : ∀ (e f : Ex), e.nodes ≤ N → ∀ (B : Nat) (w : World) (cs ds : List Value), B ≤ w.heap.size → ExAt w B cs e → ExAt w B ds f →
    Calls Try.prog 15 #[.agg cs.toArray, .agg ds.toArray] w fun e' w' => e' = .returned (.bool (exSame e f)) ∧ Below w.heap.size w w' := by
  induction N with
  | zero => intro e f h; cases e; unfold Ex.nodes at h; omega
  | succ N ih =>
    intro e f hN B w cs ds hB hx hy
    cases hx with
    | @mk k n q nm t T A Aa Ab c ca cb ks als bs L La Lb _ _ _ _ ht _ _ _ _ _ _ hb hba hbb hr hks hra hals hrb hbs =>
    cases ht with
    | @mk tk tn tnm tA tc tks tL h1 h2 h3 h4 h5 h6 htr htks =>
    cases hy with
    | @mk k' n' q' nm' t' T' A' Aa' Ab' c' ca' cb' ks' als' bs' L' La' Lb' _ _ _ _ ht' _ _ _ _ _ _ hb' hba' hbb' hr' hks' hra' hals' hrb' hbs' =>
    cases ht' with
    | @mk tk' tn' tnm' tA' tc' tks' tL' h1' h2' h3' h4' h5' h6' htr' htks' =>
    have htyx : TyAt w B [.int .i64 tk, .string tnm, .int .i64 tn, .slice tA tks.length tc] (.mk tk tnm tn tks) := .mk h1 h2 h3 h4 h5 h6 htr htks
    have htyy : TyAt w B [.int .i64 tk', .string tnm', .int .i64 tn', .slice tA' tks'.length tc'] (.mk tk' tnm' tn' tks') := .mk h1' h2' h3' h4' h5' h6' htr' htks'
    have hnodes : (Ex.mk k nm n (.mk tk tnm tn tks) ks als bs q).nodes = 1 + exsNodes ks + alsNodes als + bdsNodes bs := rfl
    rw [hnodes] at hN
    obtain ⟨tx, htx⟩ : ∃ tx, Ty.mk tk tnm tn tks = tx := ⟨_, rfl⟩
    obtain ⟨ty, hty⟩ : ∃ ty, Ty.mk tk' tnm' tn' tks' = ty := ⟨_, rfl⟩
    have hS0 : exSame (.mk k nm n tx ks als bs q) (.mk k' nm' n' ty ks' als' bs' q') = (k == k' && (nm.data.toList == nm'.data.toList && (n == n' && (tySame tx ty && (ks.length == ks'.length && (als.length == als'.length && ((bs.length == bs'.length && bdsSame bs bs') && (exsSame ks ks' && alsSame als als')))))))) := by rw [exSame]
    rw [htx] at htyx ⊢
    rw [hty] at htyy ⊢
    obtain ⟨RES, hRES⟩ : ∃ r, exSame (.mk k nm n tx ks als bs q) (.mk k' nm' n' ty ks' als' bs' q') = r := ⟨_, rfl⟩
    rw [hRES] at hS0 ⊢
    have CB := Lib.hid (fun W (hW : Below w.heap.size w W) => rsamebinds_any bs bs' Ab Ab' Lb Lb' cb cb' B W (Nat.le_trans hB hW.size) ((BdsAt.mk hrb hbs).later (hW.mono hB)) ((BdsAt.mk hrb' hbs').later (hW.mono hB)) (by omega)
      (fun b hb u w cs ds h1 h2 h3 => ih b.exp u (by
        obtain ⟨i, hi, rfl⟩ := List.getElem_of_mem hb
        have h9 := bds_mem bs i hi
        have h8 : (bs[i]).exp.nodes + 1 ≤ (bs[i]).nodes := by
          cases bs[i] with
          | mk nm e q => show e.nodes + 1 ≤ 1 + e.nodes; omega
        omega) B w cs ds h1 h2 h3))
    have CT := Lib.hid (fun W (hW : Below w.heap.size w W) => rsametype_any tx.nodes tx ty (Nat.le_refl _) B W _ _ (Nat.le_trans hB hW.size) (htyx.later (hW.mono hB)) (htyy.later (hW.mono hB)))
    have HIK := Lib.hid (fun (x : Ex) (hx : x ∈ ks) => fun (u : Ex) (W : World) (cs ds : List Value) (hb : B ≤ W.heap.size) => ih x u (by
        obtain ⟨i, hi, rfl⟩ := List.getElem_of_mem hx
        have := exs_mem ks i hi; omega) B W cs ds hb)
    have HIA := Lib.hid (fun (x : Al) (hx : x ∈ als) => fun (u : Ex) (W : World) (cs ds : List Value) (hb : B ≤ W.heap.size) => ih x.exp u (by
        obtain ⟨i, hi, rfl⟩ := List.getElem_of_mem hx
        have h9 := als_mem als i hi
        have h8 : (als[i]).exp.nodes + 1 ≤ (als[i]).nodes := by
          cases als[i] with
          | mk p e => show e.nodes + 1 ≤ 1 + e.nodes; omega
        omega) B W cs ds hb)
    obtain ⟨l, hl⟩ : ∃ l, ks.length = l := ⟨_, rfl⟩
    obtain ⟨l', hl'⟩ : ∃ l, ks'.length = l := ⟨_, rfl⟩
    obtain ⟨la, hla⟩ : ∃ l, als.length = l := ⟨_, rfl⟩
    obtain ⟨la', hla'⟩ : ∃ l, als'.length = l := ⟨_, rfl⟩
    obtain ⟨lb, hlb⟩ : ∃ l, bs.length = l := ⟨_, rfl⟩
    obtain ⟨lb', hlb'⟩ : ∃ l, bs'.length = l := ⟨_, rfl⟩
    obtain ⟨tl, htl⟩ : ∃ l, tks.length = l := ⟨_, rfl⟩
    obtain ⟨tl', htl'⟩ : ∃ l, tks'.length = l := ⟨_, rfl⟩
    have hl9 : l ≤ 1000000000000 := by rw [← hl]; omega
    have hl9' : l' ≤ 1000000000000 := by rw [← hl']; omega
    have hla9 : la ≤ 1000000000000 := by rw [← hla]; omega
    have hla9' : la' ≤ 1000000000000 := by rw [← hla']; omega
    obtain ⟨vb, hvb⟩ : ∃ v, (bs.length == bs'.length && bdsSame bs bs') = v := ⟨_, rfl⟩
    obtain ⟨vt, hvt⟩ : ∃ v, tySame tx ty = v := ⟨_, rfl⟩
    rw [hvb] at CB hS0
    rw [hvt] at CT hS0
    rw [hl, hl', hla, hla'] at hS0
    rw [hlb, hlb'] at CB
    rw [htl, htl'] at CT
    have HS := Lib.hid hS0
    rw [hl, hl', hla, hla', hlb, hlb', htl, htl']
    simp only [List.cons_append, List.nil_append]
    have b1 := (Blk.new w 29 #[.int .i64 k, .string nm, .int .i64 n, .int .i64 tk, .string tnm, .int .i64 tn, .slice tA tl tc, .slice A l c, .slice Aa la ca, .slice Ab lb cb, .int .i64 q]).alloc (.cells #[.int .i64 k', .string nm', .int .i64 n', .int .i64 tk', .string tnm', .int .i64 tn', .slice tA' tl' tc', .slice A' l' c', .slice Aa' la' ca', .slice Ab' lb' cb', .int .i64 q'] 29)
    have b2 := Blk.new (w.alloc (.cells #[.int .i64 k, .string nm, .int .i64 n, .int .i64 tk, .string tnm, .int .i64 tn, .slice tA tl tc, .slice A l c, .slice Aa la ca, .slice Ab lb cb, .int .i64 q] 29)) 29 #[.int .i64 k', .string nm', .int .i64 n', .int .i64 tk', .string tnm', .int .i64 tn', .slice tA' tl' tc', .slice A' l' c', .slice Aa' la' ca', .slice Ab' lb' cb', .int .i64 q']
    obtain ⟨W2, hW2⟩ : ∃ W2, (w.alloc (.cells #[.int .i64 k, .string nm, .int .i64 n, .int .i64 tk, .string tnm, .int .i64 tn, .slice tA tl tc, .slice A l c, .slice Aa la ca, .slice Ab lb cb, .int .i64 q] 29)).alloc (.cells #[.int .i64 k', .string nm', .int .i64 n', .int .i64 tk', .string tnm', .int .i64 tn', .slice tA' tl' tc', .slice A' l' c', .slice Aa' la' ca', .slice Ab' lb' cb', .int .i64 q'] 29) = W2 := ⟨_, rfl⟩
    have hbW : Below w.heap.size w W2 := by rw [← hW2]; exact ((Below.refl _ _).alloc (Nat.le_refl _) _).alloc (by simp) _
    have hzW : W2.heap.size = w.heap.size + 1 + 1 := by rw [← hW2]; simp
    rw [hW2] at b1 b2
    rw [World.size_alloc] at b2
    have HW := Lib.hid hW2
    have HBW := Lib.hid hbW
    have HZ := Lib.hid hzW
    have HB1 := Lib.hid b1
    have HB2 := Lib.hid b2
    have HL := Lib.hid hl
    have HL' := Lib.hid hl'
    have HLA := Lib.hid hla
    have HLA' := Lib.hid hla'
    have HRK := Lib.hid hr
    have HRK' := Lib.hid hr'
    have HEK := Lib.hid hks
    have HEK' := Lib.hid hks'
    have HRA := Lib.hid hra
    have HRA' := Lib.hid hra'
    have HEA := Lib.hid hals
    have HEA' := Lib.hid hals'
    have box1 := Lib.hid (fun (W : World) (hW : Below W2.heap.size W2 W) (i : Nat) => (hW.cell (p := ⟨w.heap.size, i, none⟩) (by show w.heap.size < _; omega)).trans (b1.cell i))
    have box2 := Lib.hid (fun (W : World) (hW : Below W2.heap.size W2 W) (i : Nat) => (hW.cell (p := ⟨w.heap.size + 1, i, none⟩) (by show w.heap.size + 1 < _; omega)).trans (b2.cell i))
    clear hS0 hRES hvb hvt hl hl' hla hla' hlb hlb' htl htl' htx hty htyx htyy hr hr' hks hks' hra hra' hals hals' hrb hrb' hbs hbs' htr htks htr' htks' ih hnodes hN hb hba hbb hb' hba' hbb' hW2 hbW hzW b1 b2
    by_cases e1 : k = k'
    · have d1 : (k != k') = false := by simpa using e1
      have y1 := Lib.hid (show (k == k') = true by simpa using e1)
      clear e1
      by_cases e2 : nm.data.toList = nm'.data.toList
      · have d2 := nm_same e2
        have y2 := Lib.hid (show (nm.data.toList == nm'.data.toList) = true by simpa using e2)
        clear e2
        by_cases e3 : n = n'
        · have d3 : (n != n') = false := by simpa using e3
          have y3 := Lib.hid (show (n == n') = true by simpa using e3)
          clear e3
          cases vt with
          | true =>
            by_cases e5 : l = l'
            · subst e5
              by_cases e6 : la = la'
              · subst e6
                cases vb with
                | true =>
                  have HE := Lib.hid (show RES = (exsSame ks ks' && alsSame als als') by rw [HS.out, y1.out, y2.out, y3.out]; simp)
                  go_enter Try.func15, Try.ntmps15
                  go_wp2_with fail
                  rw [HW.out]
                  refine (CT.out _ HBW.out).mono ?_
                  rintro e3 w3 ⟨rfl, hb3⟩
                  have hw3 : Below w.heap.size w w3 := HBW.out.trans (hb3.mono (by have := HZ.out; omega))
                  have x7w3 := box1.out w3 hb3 7
                  have z7w3 := box2.out w3 hb3 7
                  simp only [List.getElem?_toArray, List.getElem?_cons_succ, List.getElem?_cons_zero] at x7w3 z7w3
                  have x8w3 := box1.out w3 hb3 8
                  have z8w3 := box2.out w3 hb3 8
                  simp only [List.getElem?_toArray, List.getElem?_cons_succ, List.getElem?_cons_zero] at x8w3 z8w3
                  have x9w3 := box1.out w3 hb3 9
                  have z9w3 := box2.out w3 hb3 9
                  simp only [List.getElem?_toArray, List.getElem?_cons_succ, List.getElem?_cons_zero] at x9w3 z9w3
                  go_wp2_with fail
                  refine (CB.out _ hw3).mono ?_
                  rintro e4 w4 ⟨rfl, hb4⟩
                  have HBX := Lib.hid (hb3.trans (hb4.mono hb3.size))
                  clear hw3 hb4 hb3 x7w3 z7w3 x8w3 z8w3 x9w3 z9w3
                  go_wp2_with fail
                  go_loopw [5] (fun i wr => ∃ j : Nat, i = .int .i64 j ∧ j ≤ l ∧ (∀ x (h1 : x < ks.length) (h2 : x < ks'.length), x < j → exSame ks[x] ks'[x] = true) ∧ Below W2.heap.size W2 wr) (fun i _ => l - (intOf i).toNat)
                  case atStart => exact ⟨0, rfl, Nat.zero_le _, fun x _ _ h => by omega, HBX.out⟩
                  case round =>
                    obtain ⟨j, rfl, hj, hall, hbel⟩ := hrel
                    have hcf := box1.out wr hbel 7
                    have hcg := box2.out wr hbel 7
                    simp only [List.getElem?_toArray, List.getElem?_cons_succ, List.getElem?_cons_zero] at hcf hcg
                    have HALL := Lib.hid hall
                    have HBE := Lib.hid hbel
                    clear hall hbel
                    by_cases hlt : j < l
                    · have hkx : j < ks.length := by rw [HL.out]; exact hlt
                      have hky : j < ks'.length := by rw [HL'.out]; exact hlt
                      have hBW2 : B ≤ W2.heap.size := by have := HZ.out; omega
                      have hbw := (HBW.out.mono hB).trans (HBE.out.mono hBW2)
                      obtain ⟨g, o, c0, c1, c2, c3, c4, c5, c6, c7, c8, c9, c10, rfl, hg, ⟨hlx, hLx⟩, k0, k1, k2, k3, k4, k5, k6, k7, k8, k9, k10⟩ := ex_cells (HRK.out.later hbw) hkx
                      obtain ⟨g', o', d0, d1, d2, d3, d4, d5, d6, d7, d8, d9, d10, rfl, hg', ⟨hly, hLy⟩, j0, j1, j2, j3, j4, j5, j6, j7, j8, j9, j10⟩ := ex_cells (HRK'.out.later hbw) hky
                      have he1 := (HEK.out j hlx hkx).later hbw
                      have he2 := (HEK'.out j hly hky).later hbw
                      rw [hLx] at he1
                      rw [hLy] at he2
                      have hBd : B ≤ wr.drew.heap.size := Nat.le_trans hBW2 HBE.out.size
                      obtain ⟨v, hv⟩ : ∃ v, exSame ks[j] ks'[j] = v := ⟨_, rfl⟩
                      have C1 := HIK.out ks[j] (List.getElem_mem hkx) ks'[j] wr.drew [c0, c1, c2, c3, c4, c5, c6, c7, c8, c9, c10] [d0, d1, d2, d3, d4, d5, d6, d7, d8, d9, d10] hBd (he1.keep fun _ _ => rfl) (he2.keep fun _ _ => rfl)
                      rw [hv] at C1
                      have HC1 := Lib.hid C1
                      have HV := Lib.hid hv
                      clear hbw hLx hLy he1 he2 C1 hv hBd hBW2
                      cases v with
                      | true =>
                        go_wp2_with fail
                        go_still_tail 10, (by kernel_rfl)
                        change wpList _ _ _ _ _ wr.drew
                        go_wp2_with (go_at_call 15; (with_reducible refine HC1.out.mono ?_); rintro e w2 ⟨rfl, hb2⟩)
                        go_roundw
                        case rel => exact ⟨j + 1, by go_num, by omega, fun x h1 h2 h3 => by
                          rcases Nat.lt_or_ge x j with h | h
                          · exact HALL.out x h1 h2 h
                          · have : x = j := by omega
                            subst this; exact HV.out, HBE.out.drew.trans (hb2.mono HBE.out.size)⟩
                        case measure => simp [intOf]; omega
                      | false =>
                        have HF := Lib.hid (show RES = false by rw [HE.out, exs_no ks ks' (by rw [HL.out, HL'.out]) j hkx hky HV.out]; rfl)
                        go_wp2_with fail
                        go_still_tail 10, (by kernel_rfl)
                        change wpList _ _ _ _ _ wr.drew
                        go_wp2_with (go_at_call 15; (with_reducible refine HC1.out.mono ?_); rintro e w2 ⟨rfl, hb2⟩)
                        go_ret
                        exact ⟨ret_bool HF.out.symm, HBW.out.trans ((HBE.out.drew.trans (hb2.mono HBE.out.size)).mono (by have := HZ.out; omega))⟩
                    · have HT1 := Lib.hid (exs_yes ks ks' (by rw [HL.out, HL'.out]) (fun x h1 h2 => HALL.out x h1 h2 (by have := HL.out; omega)))
                      have HBX := Lib.hid HBE.out
                      go_wp2_with fail
                      clear hcf hcg HALL HBE
                      go_loopw [6] (fun i wr => ∃ j : Nat, i = .int .i64 j ∧ j ≤ la ∧ (∀ x (h1 : x < als.length) (h2 : x < als'.length), x < j → alSame als[x] als'[x] = true) ∧ Below W2.heap.size W2 wr) (fun i _ => la - (intOf i).toNat)
                      case atStart => exact ⟨0, rfl, Nat.zero_le _, fun x _ _ h => by omega, HBX.out⟩
                      case round =>
                        obtain ⟨j, rfl, hj, hall, hbel⟩ := hrel
                        have hcf := box1.out wr hbel 8
                        have hcg := box2.out wr hbel 8
                        simp only [List.getElem?_toArray, List.getElem?_cons_succ, List.getElem?_cons_zero] at hcf hcg
                        have HALL := Lib.hid hall
                        have HBE := Lib.hid hbel
                        clear hall hbel
                        by_cases hlt : j < la
                        · have hkx : j < als.length := by rw [HLA.out]; exact hlt
                          have hky : j < als'.length := by rw [HLA'.out]; exact hlt
                          have hBW2 : B ≤ W2.heap.size := by have := HZ.out; omega
                          have hbw := (HBW.out.mono hB).trans (HBE.out.mono hBW2)
                          have hX := HRA.out.later hbw
                          have hY := HRA'.out.later hbw
                          have hlx : j < La.length := by rw [hX.len]; exact hkx
                          have hly : j < La'.length := by rw [hY.len]; exact hky
                          obtain ⟨g, o, p0, p1, p2, p3, p4, c0, c1, c2, c3, c4, c5, c6, c7, c8, c9, c10, pp, ee, rfl, hg, hal, hp, he, u0, u1, u2, u3, u4, k0, k1, k2, k3, k4, k5, k6, k7, k8, k9, k10⟩ := al_cells hX hkx hlx (AlAt.later (HEA.out j hlx hkx) hbw)
                          obtain ⟨g', o', r0, r1, r2, r3, r4, d0, d1, d2, d3, d4, d5, d6, d7, d8, d9, d10, pp', ee', rfl, hg', hal', hp', he', v0, v1, v2, v3, v4, j0, j1, j2, j3, j4, j5, j6, j7, j8, j9, j10⟩ := al_cells hY hky hly (AlAt.later (HEA'.out j hly hky) hbw)
                          have hexp : als[j].exp = ee := by rw [hal]; rfl
                          have hsm : alSame als[j] als'[j] = (ptSame pp pp' && exSame ee ee') := by rw [hal, hal']; unfold alSame; rfl
                          have HSM := Lib.hid hsm
                          obtain ⟨vp, hvp⟩ : ∃ v, ptSame pp pp' = v := ⟨_, rfl⟩
                          obtain ⟨ve, hve⟩ : ∃ v, exSame ee ee' = v := ⟨_, rfl⟩
                          have hBr : B ≤ wr.heap.size := Nat.le_trans hBW2 HBE.out.size
                          have hgl : g < wr.heap.size := by omega
                          have hgl' : g' < wr.heap.size := by omega
                          have hh1 : w.heap.size < wr.heap.size := by have := HZ.out; have := HBE.out.size; omega
                          have hh2 : w.heap.size + 1 < wr.heap.size := by have := HZ.out; have := HBE.out.size; omega
                          have HP := Lib.hid (fun W (hb : Below wr.heap.size wr W) => show Calls Try.prog 19 #[.agg #[p0, p1, p2, p3, p4], .agg #[r0, r1, r2, r3, r4]] W (fun e w2 => e = .returned (.bool vp) ∧ Below wr.heap.size wr w2) from (rsamepat_any pp.nodes pp pp' (Nat.le_refl _) B W [p0, p1, p2, p3, p4] [r0, r1, r2, r3, r4] (Nat.le_trans hBr hb.size) (hp.later (hb.mono hBr)) (hp'.later (hb.mono hBr))).mono fun e w2 h => by rw [hvp] at h; exact ⟨h.1, hb.trans (h.2.mono hb.size)⟩)
                          have HQ := Lib.hid (fun W (hb : Below wr.heap.size wr W) => show Calls Try.prog 15 #[.agg #[c0, c1, c2, c3, c4, c5, c6, c7, c8, c9, c10], .agg #[d0, d1, d2, d3, d4, d5, d6, d7, d8, d9, d10]] W (fun e w2 => e = .returned (.bool ve) ∧ Below wr.heap.size wr w2) from (HIA.out als[j] (List.getElem_mem hkx) ee' W [c0, c1, c2, c3, c4, c5, c6, c7, c8, c9, c10] [d0, d1, d2, d3, d4, d5, d6, d7, d8, d9, d10] (Nat.le_trans hBr hb.size) (by rw [hexp]; exact he.later (hb.mono hBr)) (he'.later (hb.mono hBr))).mono fun e w2 h => by rw [hexp, hve] at h; exact ⟨h.1, hb.trans (h.2.mono hb.size)⟩)
                          have HVP := Lib.hid hvp
                          have HVE := Lib.hid hve
                          have HOK := Lib.hid (show ∀ x (h1 : x < als.length) (h2 : x < als'.length), x < j + 1 → ptSame pp pp' = true → exSame ee ee' = true → alSame als[x] als'[x] = true from fun x h1 h2 h3 h4 h5 => by
                            rcases Nat.lt_or_ge x j with h | h
                            · exact HALL.out x h1 h2 h
                            · have : x = j := by omega
                              subst this; rw [HSM.out, h4, h5]; rfl)
                          have hB0 : Below wr.heap.size wr wr.drew := (Below.refl _ _).drew
                          clear hbw hX hY hp hp' he he' hal hal' hexp hsm hvp hve
                          cases vp with
                          | true =>
                            cases ve with
                            | true =>
                              go_wp2_with fail
                              go_region_held3 (fun w' => w'.cell? ⟨w.heap.size, 8, none⟩ = some (.slice (some ⟨g, o, none⟩) la ca) ∧ w'.cell? ⟨w.heap.size + 1, 8, none⟩ = some (.slice (some ⟨g', o', none⟩) la ca') ∧ w'.cell? ⟨g, o + j * 16, none⟩ = some p0 ∧ w'.cell? ⟨g, o + j * 16 + 1, none⟩ = some p1 ∧ w'.cell? ⟨g, o + j * 16 + 2, none⟩ = some p2 ∧ w'.cell? ⟨g, o + j * 16 + 3, none⟩ = some p3 ∧ w'.cell? ⟨g, o + j * 16 + 4, none⟩ = some p4 ∧ w'.cell? ⟨g, o + j * 16 + 5, none⟩ = some c0 ∧ w'.cell? ⟨g, o + j * 16 + 5 + 1, none⟩ = some c1 ∧ w'.cell? ⟨g, o + j * 16 + 5 + 2, none⟩ = some c2 ∧ w'.cell? ⟨g, o + j * 16 + 5 + 3, none⟩ = some c3 ∧ w'.cell? ⟨g, o + j * 16 + 5 + 4, none⟩ = some c4 ∧ w'.cell? ⟨g, o + j * 16 + 5 + 5, none⟩ = some c5 ∧ w'.cell? ⟨g, o + j * 16 + 5 + 6, none⟩ = some c6 ∧ w'.cell? ⟨g, o + j * 16 + 5 + 7, none⟩ = some c7 ∧ w'.cell? ⟨g, o + j * 16 + 5 + 8, none⟩ = some c8 ∧ w'.cell? ⟨g, o + j * 16 + 5 + 9, none⟩ = some c9 ∧ w'.cell? ⟨g, o + j * 16 + 5 + 10, none⟩ = some c10 ∧ w'.cell? ⟨g', o' + j * 16, none⟩ = some r0 ∧ w'.cell? ⟨g', o' + j * 16 + 1, none⟩ = some r1 ∧ w'.cell? ⟨g', o' + j * 16 + 2, none⟩ = some r2 ∧ w'.cell? ⟨g', o' + j * 16 + 3, none⟩ = some r3 ∧ w'.cell? ⟨g', o' + j * 16 + 4, none⟩ = some r4 ∧ w'.cell? ⟨g', o' + j * 16 + 5, none⟩ = some d0 ∧ w'.cell? ⟨g', o' + j * 16 + 5 + 1, none⟩ = some d1 ∧ w'.cell? ⟨g', o' + j * 16 + 5 + 2, none⟩ = some d2 ∧ w'.cell? ⟨g', o' + j * 16 + 5 + 3, none⟩ = some d3 ∧ w'.cell? ⟨g', o' + j * 16 + 5 + 4, none⟩ = some d4 ∧ w'.cell? ⟨g', o' + j * 16 + 5 + 5, none⟩ = some d5 ∧ w'.cell? ⟨g', o' + j * 16 + 5 + 6, none⟩ = some d6 ∧ w'.cell? ⟨g', o' + j * 16 + 5 + 7, none⟩ = some d7 ∧ w'.cell? ⟨g', o' + j * 16 + 5 + 8, none⟩ = some d8 ∧ w'.cell? ⟨g', o' + j * 16 + 5 + 9, none⟩ = some d9 ∧ w'.cell? ⟨g', o' + j * 16 + 5 + 10, none⟩ = some d10 ∧ Below wr.heap.size wr w')
                                (((try dsimp only); (repeat' apply And.intro) <;> (first | assumption | exact cell_kept (by assumption) hgl (by assumption) | exact cell_kept (by assumption) hgl' (by assumption) | exact cell_kept (by assumption) hh1 (by assumption) | exact cell_kept (by assumption) hh2 (by assumption))))
                                (first | (go_at_call 19; (with_reducible refine (HP.out _ (by assumption)).mono ?_); rintro e w5 ⟨rfl, hb5⟩) | (go_at_call 15; (with_reducible refine (HQ.out _ (by assumption)).mono ?_); rintro e w6 ⟨rfl, hb6⟩))
                              clear hB0
                              go_wp2_with fail
                              go_roundw
                              case rel => exact ⟨j + 1, by go_num, by omega, fun x h1 h2 h3 => HOK.out x h1 h2 h3 HVP.out HVE.out, HBE.out.trans ((by assumption : Below wr.heap.size wr _).mono HBE.out.size)⟩
                              case measure => simp [intOf]; omega
                            | false =>
                              have HF := Lib.hid (show RES = false by rw [HE.out, als_no als als' (by rw [HLA.out, HLA'.out]) j hkx hky (by rw [HSM.out, HVE.out]; simp)]; simp)
                              go_wp2_with fail
                              go_region_held3 (fun w' => w'.cell? ⟨w.heap.size, 8, none⟩ = some (.slice (some ⟨g, o, none⟩) la ca) ∧ w'.cell? ⟨w.heap.size + 1, 8, none⟩ = some (.slice (some ⟨g', o', none⟩) la ca') ∧ w'.cell? ⟨g, o + j * 16, none⟩ = some p0 ∧ w'.cell? ⟨g, o + j * 16 + 1, none⟩ = some p1 ∧ w'.cell? ⟨g, o + j * 16 + 2, none⟩ = some p2 ∧ w'.cell? ⟨g, o + j * 16 + 3, none⟩ = some p3 ∧ w'.cell? ⟨g, o + j * 16 + 4, none⟩ = some p4 ∧ w'.cell? ⟨g, o + j * 16 + 5, none⟩ = some c0 ∧ w'.cell? ⟨g, o + j * 16 + 5 + 1, none⟩ = some c1 ∧ w'.cell? ⟨g, o + j * 16 + 5 + 2, none⟩ = some c2 ∧ w'.cell? ⟨g, o + j * 16 + 5 + 3, none⟩ = some c3 ∧ w'.cell? ⟨g, o + j * 16 + 5 + 4, none⟩ = some c4 ∧ w'.cell? ⟨g, o + j * 16 + 5 + 5, none⟩ = some c5 ∧ w'.cell? ⟨g, o + j * 16 + 5 + 6, none⟩ = some c6 ∧ w'.cell? ⟨g, o + j * 16 + 5 + 7, none⟩ = some c7 ∧ w'.cell? ⟨g, o + j * 16 + 5 + 8, none⟩ = some c8 ∧ w'.cell? ⟨g, o + j * 16 + 5 + 9, none⟩ = some c9 ∧ w'.cell? ⟨g, o + j * 16 + 5 + 10, none⟩ = some c10 ∧ w'.cell? ⟨g', o' + j * 16, none⟩ = some r0 ∧ w'.cell? ⟨g', o' + j * 16 + 1, none⟩ = some r1 ∧ w'.cell? ⟨g', o' + j * 16 + 2, none⟩ = some r2 ∧ w'.cell? ⟨g', o' + j * 16 + 3, none⟩ = some r3 ∧ w'.cell? ⟨g', o' + j * 16 + 4, none⟩ = some r4 ∧ w'.cell? ⟨g', o' + j * 16 + 5, none⟩ = some d0 ∧ w'.cell? ⟨g', o' + j * 16 + 5 + 1, none⟩ = some d1 ∧ w'.cell? ⟨g', o' + j * 16 + 5 + 2, none⟩ = some d2 ∧ w'.cell? ⟨g', o' + j * 16 + 5 + 3, none⟩ = some d3 ∧ w'.cell? ⟨g', o' + j * 16 + 5 + 4, none⟩ = some d4 ∧ w'.cell? ⟨g', o' + j * 16 + 5 + 5, none⟩ = some d5 ∧ w'.cell? ⟨g', o' + j * 16 + 5 + 6, none⟩ = some d6 ∧ w'.cell? ⟨g', o' + j * 16 + 5 + 7, none⟩ = some d7 ∧ w'.cell? ⟨g', o' + j * 16 + 5 + 8, none⟩ = some d8 ∧ w'.cell? ⟨g', o' + j * 16 + 5 + 9, none⟩ = some d9 ∧ w'.cell? ⟨g', o' + j * 16 + 5 + 10, none⟩ = some d10 ∧ Below wr.heap.size wr w')
                                (((try dsimp only); (repeat' apply And.intro) <;> (first | assumption | exact cell_kept (by assumption) hgl (by assumption) | exact cell_kept (by assumption) hgl' (by assumption) | exact cell_kept (by assumption) hh1 (by assumption) | exact cell_kept (by assumption) hh2 (by assumption))))
                                (first | (go_at_call 19; (with_reducible refine (HP.out _ (by assumption)).mono ?_); rintro e w5 ⟨rfl, hb5⟩) | (go_at_call 15; (with_reducible refine (HQ.out _ (by assumption)).mono ?_); rintro e w6 ⟨rfl, hb6⟩))
                              clear hB0
                              go_wp2_with fail
                              go_ret
                              exact ⟨ret_bool HF.out.symm, HBW.out.trans ((HBE.out.trans ((by assumption : Below wr.heap.size wr _).mono HBE.out.size)).mono (by have := HZ.out; omega))⟩
                          | false =>
                            have HF := Lib.hid (show RES = false by rw [HE.out, als_no als als' (by rw [HLA.out, HLA'.out]) j hkx hky (by rw [HSM.out, HVP.out]; simp)]; simp)
                            have hSS : ∀ w', Below wr.heap.size wr w' → (w'.cell? ⟨w.heap.size, 8, none⟩ = some (.slice (some ⟨g, o, none⟩) la ca) ∧ w'.cell? ⟨w.heap.size + 1, 8, none⟩ = some (.slice (some ⟨g', o', none⟩) la ca') ∧ w'.cell? ⟨g, o + j * 16, none⟩ = some p0 ∧ w'.cell? ⟨g, o + j * 16 + 1, none⟩ = some p1 ∧ w'.cell? ⟨g, o + j * 16 + 2, none⟩ = some p2 ∧ w'.cell? ⟨g, o + j * 16 + 3, none⟩ = some p3 ∧ w'.cell? ⟨g, o + j * 16 + 4, none⟩ = some p4 ∧ w'.cell? ⟨g', o' + j * 16, none⟩ = some r0 ∧ w'.cell? ⟨g', o' + j * 16 + 1, none⟩ = some r1 ∧ w'.cell? ⟨g', o' + j * 16 + 2, none⟩ = some r2 ∧ w'.cell? ⟨g', o' + j * 16 + 3, none⟩ = some r3 ∧ w'.cell? ⟨g', o' + j * 16 + 4, none⟩ = some r4) := fun w' h => ⟨cell_kept h hh1 hcf, cell_kept h hh2 hcg, cell_kept h hgl u0, cell_kept h hgl u1, cell_kept h hgl u2, cell_kept h hgl u3, cell_kept h hgl u4, cell_kept h hgl' v0, cell_kept h hgl' v1, cell_kept h hgl' v2, cell_kept h hgl' v3, cell_kept h hgl' v4⟩
                            have HSS := Lib.hid hSS
                            clear hSS
                            go_wp2_with fail
                            refine wp_region_held_drew (S := fun w' => Below wr.heap.size wr w') (by kernel_rfl) hB0 (fun hHeld => ?_)
                            refine takeH (i := 0) (d := 86) (v := .pointer (some ⟨w.heap.size, 8, none⟩)) rfl (by kernel_rfl) (by kernel_rfl) (by kernel_rfl) (fun _ _ _ h => h) (Or.inl ⟨by rfl, fun w' hS' => by obtain ⟨q0, q1, q2, q3, q4, q5, q6, q7, q8, q9, q10, q11⟩ := HSS.out w' hS'; go_simp⟩) hHeld rfl ?_
                            try simp only [Act.put, List.setIfInBounds_toArray, List.set_cons_zero, List.set_cons_succ]
                            refine takeH (i := 1) (d := 87) (v := .slice (some ⟨g, o, none⟩) la ca) rfl (by kernel_rfl) (by kernel_rfl) (by kernel_rfl) (fun _ _ _ h => h) (Or.inl ⟨by rfl, fun w' hS' => by obtain ⟨q0, q1, q2, q3, q4, q5, q6, q7, q8, q9, q10, q11⟩ := HSS.out w' hS'; go_simp⟩) hHeld rfl ?_
                            try simp only [Act.put, List.setIfInBounds_toArray, List.set_cons_zero, List.set_cons_succ]
                            refine takeH (i := 2) (d := 88) (v := .int .i64 j) rfl (by kernel_rfl) (by kernel_rfl) (by kernel_rfl) (fun _ _ _ h => h) (Or.inl ⟨by rfl, fun w' hS' => by obtain ⟨q0, q1, q2, q3, q4, q5, q6, q7, q8, q9, q10, q11⟩ := HSS.out w' hS'; go_simp⟩) hHeld rfl ?_
                            try simp only [Act.put, List.setIfInBounds_toArray, List.set_cons_zero, List.set_cons_succ]
                            refine takeH (i := 3) (d := 89) (v := .pointer (some ⟨g, o + j * 16, none⟩)) rfl (by kernel_rfl) (by kernel_rfl) (by kernel_rfl) (fun _ _ _ h => h) (Or.inl ⟨by rfl, fun w' hS' => by obtain ⟨q0, q1, q2, q3, q4, q5, q6, q7, q8, q9, q10, q11⟩ := HSS.out w' hS'; go_simp⟩) hHeld rfl ?_
                            try simp only [Act.put, List.setIfInBounds_toArray, List.set_cons_zero, List.set_cons_succ]
                            refine takeH (i := 4) (d := 90) (v := .pointer (some ⟨g, o + j * 16, none⟩)) rfl (by kernel_rfl) (by kernel_rfl) (by kernel_rfl) (fun _ _ _ h => h) (Or.inl ⟨by rfl, fun w' hS' => by obtain ⟨q0, q1, q2, q3, q4, q5, q6, q7, q8, q9, q10, q11⟩ := HSS.out w' hS'; go_simp⟩) hHeld rfl ?_
                            try simp only [Act.put, List.setIfInBounds_toArray, List.set_cons_zero, List.set_cons_succ]
                            refine takeH (i := 5) (d := 91) (v := .agg #[p0, p1, p2, p3, p4]) rfl (by kernel_rfl) (by kernel_rfl) (by kernel_rfl) (fun _ _ _ h => h) (Or.inl ⟨by rfl, fun w' hS' => by obtain ⟨q0, q1, q2, q3, q4, q5, q6, q7, q8, q9, q10, q11⟩ := HSS.out w' hS'; go_simp⟩) hHeld rfl ?_
                            try simp only [Act.put, List.setIfInBounds_toArray, List.set_cons_zero, List.set_cons_succ]
                            refine takeH (i := 6) (d := 92) (v := .pointer (some ⟨w.heap.size + 1, 8, none⟩)) rfl (by kernel_rfl) (by kernel_rfl) (by kernel_rfl) (fun _ _ _ h => h) (Or.inl ⟨by rfl, fun w' hS' => by obtain ⟨q0, q1, q2, q3, q4, q5, q6, q7, q8, q9, q10, q11⟩ := HSS.out w' hS'; go_simp⟩) hHeld rfl ?_
                            try simp only [Act.put, List.setIfInBounds_toArray, List.set_cons_zero, List.set_cons_succ]
                            refine takeH (i := 7) (d := 93) (v := .slice (some ⟨g', o', none⟩) la ca') rfl (by kernel_rfl) (by kernel_rfl) (by kernel_rfl) (fun _ _ _ h => h) (Or.inl ⟨by rfl, fun w' hS' => by obtain ⟨q0, q1, q2, q3, q4, q5, q6, q7, q8, q9, q10, q11⟩ := HSS.out w' hS'; go_simp⟩) hHeld rfl ?_
                            try simp only [Act.put, List.setIfInBounds_toArray, List.set_cons_zero, List.set_cons_succ]
                            refine takeH (i := 8) (d := 94) (v := .int .i64 j) rfl (by kernel_rfl) (by kernel_rfl) (by kernel_rfl) (fun _ _ _ h => h) (Or.inl ⟨by rfl, fun w' hS' => by obtain ⟨q0, q1, q2, q3, q4, q5, q6, q7, q8, q9, q10, q11⟩ := HSS.out w' hS'; go_simp⟩) hHeld rfl ?_
                            try simp only [Act.put, List.setIfInBounds_toArray, List.set_cons_zero, List.set_cons_succ]
                            refine takeH (i := 9) (d := 95) (v := .pointer (some ⟨g', o' + j * 16, none⟩)) rfl (by kernel_rfl) (by kernel_rfl) (by kernel_rfl) (fun _ _ _ h => h) (Or.inl ⟨by rfl, fun w' hS' => by obtain ⟨q0, q1, q2, q3, q4, q5, q6, q7, q8, q9, q10, q11⟩ := HSS.out w' hS'; go_simp⟩) hHeld rfl ?_
                            try simp only [Act.put, List.setIfInBounds_toArray, List.set_cons_zero, List.set_cons_succ]
                            refine takeH (i := 10) (d := 96) (v := .pointer (some ⟨g', o' + j * 16, none⟩)) rfl (by kernel_rfl) (by kernel_rfl) (by kernel_rfl) (fun _ _ _ h => h) (Or.inl ⟨by rfl, fun w' hS' => by obtain ⟨q0, q1, q2, q3, q4, q5, q6, q7, q8, q9, q10, q11⟩ := HSS.out w' hS'; go_simp⟩) hHeld rfl ?_
                            try simp only [Act.put, List.setIfInBounds_toArray, List.set_cons_zero, List.set_cons_succ]
                            refine takeH (i := 11) (d := 97) (v := .agg #[r0, r1, r2, r3, r4]) rfl (by kernel_rfl) (by kernel_rfl) (by kernel_rfl) (fun _ _ _ h => h) (Or.inl ⟨by rfl, fun w' hS' => by obtain ⟨q0, q1, q2, q3, q4, q5, q6, q7, q8, q9, q10, q11⟩ := HSS.out w' hS'; go_simp⟩) hHeld rfl ?_
                            try simp only [Act.put, List.setIfInBounds_toArray, List.set_cons_zero, List.set_cons_succ]
                            refine wpAnyH_ready (rs := [12]) (by kernel_rfl) (by simp) ?_
                            refine AllReadyH.cons (o := { dst := some 98, op := Op.call { callee := Callee.value (Operand.func 19), args := #[Operand.tmp 91, Operand.tmp 97], argTypes := #[39, 39] }, type := 4, pos := "ref.go:124", after := #[{ on := 5, ground := Ground.data }, { on := 11, ground := Ground.data }], guard := none }) rfl (fun K hK => ?_) AllReadyH.nil
                            (try go_simp)
                            (with_reducible refine (HP.out _ hHeld).mono ?_)
                            rintro e w5 ⟨rfl, hb5⟩
                            refine hK.out _ _ hb5 (fun hHeld5 => ?_)
                            clear hK K
                            try simp only [Act.put, List.setIfInBounds_toArray, List.set_cons_zero, List.set_cons_succ]
                            refine takeH (i := 13) (d := 99) (v := .bool true) rfl (by kernel_rfl) (by kernel_rfl) (by kernel_rfl) (fun _ _ _ h => h) (Or.inl ⟨by rfl, fun w' hS' => by obtain ⟨q0, q1, q2, q3, q4, q5, q6, q7, q8, q9, q10, q11⟩ := HSS.out w' hS'; go_simp⟩) hHeld5 rfl ?_
                            try simp only [Act.put, List.setIfInBounds_toArray, List.set_cons_zero, List.set_cons_succ]
                            refine takeH (i := 14) (d := 100) (v := .bool true) rfl (by kernel_rfl) (by kernel_rfl) (by kernel_rfl) (fun _ _ _ h => h) (Or.inl ⟨by rfl, fun w' hS' => by obtain ⟨q0, q1, q2, q3, q4, q5, q6, q7, q8, q9, q10, q11⟩ := HSS.out w' hS'; go_simp⟩) hHeld5 rfl ?_
                            try simp only [Act.put, List.setIfInBounds_toArray, List.set_cons_zero, List.set_cons_succ]
                            refine takeH (i := 15) (d := 101) (v := undef) rfl (by kernel_rfl) (by kernel_rfl) (by kernel_rfl) (fun _ _ _ h => h) (Or.inr ⟨by kernel_rfl, rfl⟩) hHeld5 rfl ?_
                            try simp only [Act.put, List.setIfInBounds_toArray, List.set_cons_zero, List.set_cons_succ]
                            refine takeH (i := 16) (d := 102) (v := undef) rfl (by kernel_rfl) (by kernel_rfl) (by kernel_rfl) (fun _ _ _ h => h) (Or.inr ⟨by kernel_rfl, rfl⟩) hHeld5 rfl ?_
                            try simp only [Act.put, List.setIfInBounds_toArray, List.set_cons_zero, List.set_cons_succ]
                            refine takeH (i := 17) (d := 103) (v := undef) rfl (by kernel_rfl) (by kernel_rfl) (by kernel_rfl) (fun _ _ _ h => h) (Or.inr ⟨by kernel_rfl, rfl⟩) hHeld5 rfl ?_
                            try simp only [Act.put, List.setIfInBounds_toArray, List.set_cons_zero, List.set_cons_succ]
                            refine takeH (i := 18) (d := 104) (v := undef) rfl (by kernel_rfl) (by kernel_rfl) (by kernel_rfl) (fun _ _ _ h => h) (Or.inr ⟨by kernel_rfl, rfl⟩) hHeld5 rfl ?_
                            try simp only [Act.put, List.setIfInBounds_toArray, List.set_cons_zero, List.set_cons_succ]
                            refine takeH (i := 19) (d := 105) (v := undef) rfl (by kernel_rfl) (by kernel_rfl) (by kernel_rfl) (fun _ _ _ h => h) (Or.inr ⟨by kernel_rfl, rfl⟩) hHeld5 rfl ?_
                            try simp only [Act.put, List.setIfInBounds_toArray, List.set_cons_zero, List.set_cons_succ]
                            refine takeH (i := 20) (d := 106) (v := undef) rfl (by kernel_rfl) (by kernel_rfl) (by kernel_rfl) (fun _ _ _ h => h) (Or.inr ⟨by kernel_rfl, rfl⟩) hHeld5 rfl ?_
                            try simp only [Act.put, List.setIfInBounds_toArray, List.set_cons_zero, List.set_cons_succ]
                            refine takeH (i := 21) (d := 107) (v := undef) rfl (by kernel_rfl) (by kernel_rfl) (by kernel_rfl) (fun _ _ _ h => h) (Or.inr ⟨by kernel_rfl, rfl⟩) hHeld5 rfl ?_
                            try simp only [Act.put, List.setIfInBounds_toArray, List.set_cons_zero, List.set_cons_succ]
                            refine takeH (i := 22) (d := 108) (v := undef) rfl (by kernel_rfl) (by kernel_rfl) (by kernel_rfl) (fun _ _ _ h => h) (Or.inr ⟨by kernel_rfl, rfl⟩) hHeld5 rfl ?_
                            try simp only [Act.put, List.setIfInBounds_toArray, List.set_cons_zero, List.set_cons_succ]
                            refine takeH (i := 23) (d := 109) (v := undef) rfl (by kernel_rfl) (by kernel_rfl) (by kernel_rfl) (fun _ _ _ h => h) (Or.inr ⟨by kernel_rfl, rfl⟩) hHeld5 rfl ?_
                            try simp only [Act.put, List.setIfInBounds_toArray, List.set_cons_zero, List.set_cons_succ]
                            refine takeH (i := 24) (d := 110) (v := undef) rfl (by kernel_rfl) (by kernel_rfl) (by kernel_rfl) (fun _ _ _ h => h) (Or.inr ⟨by kernel_rfl, rfl⟩) hHeld5 rfl ?_
                            try simp only [Act.put, List.setIfInBounds_toArray, List.set_cons_zero, List.set_cons_succ]
                            refine takeH (i := 25) (d := 111) (v := undef) rfl (by kernel_rfl) (by kernel_rfl) (by kernel_rfl) (fun _ _ _ h => h) (Or.inr ⟨by kernel_rfl, rfl⟩) hHeld5 rfl ?_
                            try simp only [Act.put, List.setIfInBounds_toArray, List.set_cons_zero, List.set_cons_succ]
                            refine takeH (i := 26) (d := 112) (v := undef) rfl (by kernel_rfl) (by kernel_rfl) (by kernel_rfl) (fun _ _ _ h => h) (Or.inr ⟨by kernel_rfl, rfl⟩) hHeld5 rfl ?_
                            try simp only [Act.put, List.setIfInBounds_toArray, List.set_cons_zero, List.set_cons_succ]
                            refine takeH (i := 27) (d := 113) (v := undef) rfl (by kernel_rfl) (by kernel_rfl) (by kernel_rfl) (fun _ _ _ h => h) (Or.inr ⟨by kernel_rfl, rfl⟩) hHeld5 rfl ?_
                            try simp only [Act.put, List.setIfInBounds_toArray, List.set_cons_zero, List.set_cons_succ]
                            refine takeH (i := 28) (d := 114) (v := undef) rfl (by kernel_rfl) (by kernel_rfl) (by kernel_rfl) (fun _ _ _ h => h) (Or.inr ⟨by kernel_rfl, rfl⟩) hHeld5 rfl ?_
                            try simp only [Act.put, List.setIfInBounds_toArray, List.set_cons_zero, List.set_cons_succ]
                            refine takeH (i := 29) (d := 115) (v := .bool true) rfl (by kernel_rfl) (by kernel_rfl) (by kernel_rfl) (fun _ _ _ h => h) (Or.inl ⟨by kernel_rfl, fun w' hS' => by kernel_rfl⟩) hHeld5 rfl ?_
                            try simp only [Act.put, List.setIfInBounds_toArray, List.set_cons_zero, List.set_cons_succ]
                            refine wpAnyH_done (by kernel_rfl) ?_ _
                            clear hB0 hHeld hHeld5 HSS
                            go_wp2_with fail
                            go_ret
                            exact ⟨ret_bool HF.out.symm, HBW.out.trans ((HBE.out.trans (hb5.mono HBE.out.size)).mono (by have := HZ.out; omega))⟩
                        · have HT := Lib.hid (als_yes als als' (by rw [HLA.out, HLA'.out]) (fun x h1 h2 => HALL.out x h1 h2 (by have := HLA.out; omega)))
                          go_wp2_with fail
                          go_ret
                          exact ⟨ret_bool (by rw [HE.out, HT1.out, HT.out]; rfl), HBW.out.trans (HBE.out.mono (by have := HZ.out; omega))⟩
                | false =>
                  have HE := Lib.hid (show RES = false by rw [HS.out]; simp)
                  go_enter Try.func15, Try.ntmps15
                  go_wp2_with fail
                  rw [HW.out]
                  refine (CT.out _ HBW.out).mono ?_
                  rintro e3 w3 ⟨rfl, hb3⟩
                  have hw3 : Below w.heap.size w w3 := HBW.out.trans (hb3.mono (by have := HZ.out; omega))
                  have x7w3 := box1.out w3 hb3 7
                  have z7w3 := box2.out w3 hb3 7
                  simp only [List.getElem?_toArray, List.getElem?_cons_succ, List.getElem?_cons_zero] at x7w3 z7w3
                  have x8w3 := box1.out w3 hb3 8
                  have z8w3 := box2.out w3 hb3 8
                  simp only [List.getElem?_toArray, List.getElem?_cons_succ, List.getElem?_cons_zero] at x8w3 z8w3
                  have x9w3 := box1.out w3 hb3 9
                  have z9w3 := box2.out w3 hb3 9
                  simp only [List.getElem?_toArray, List.getElem?_cons_succ, List.getElem?_cons_zero] at x9w3 z9w3
                  go_wp2_with fail
                  refine (CB.out _ hw3).mono ?_
                  rintro e4 w4 ⟨rfl, hb4⟩
                  go_wp2_with fail
                  go_ret
                  exact ⟨ret_bool HE.out.symm, HBW.out.trans ((hb3.trans (hb4.mono hb3.size)).mono (by have := HZ.out; omega))⟩
              · have d6 : ((la : Int) != (la' : Int)) = true := by simp; omega
                have HE := Lib.hid (show RES = false by rw [HS.out, show (la == la') = false by simpa using e6]; simp)
                clear e6
                go_enter Try.func15, Try.ntmps15
                go_wp2_with fail
                rw [HW.out]
                refine (CT.out _ HBW.out).mono ?_
                rintro e3 w3 ⟨rfl, hb3⟩
                have x7w3 := box1.out w3 hb3 7
                have z7w3 := box2.out w3 hb3 7
                simp only [List.getElem?_toArray, List.getElem?_cons_succ, List.getElem?_cons_zero] at x7w3 z7w3
                have x8w3 := box1.out w3 hb3 8
                have z8w3 := box2.out w3 hb3 8
                simp only [List.getElem?_toArray, List.getElem?_cons_succ, List.getElem?_cons_zero] at x8w3 z8w3
                have x9w3 := box1.out w3 hb3 9
                have z9w3 := box2.out w3 hb3 9
                simp only [List.getElem?_toArray, List.getElem?_cons_succ, List.getElem?_cons_zero] at x9w3 z9w3
                go_wp2_with fail
                go_ret
                exact ⟨ret_bool HE.out.symm, HBW.out.trans (hb3.mono (by have := HZ.out; omega))⟩
            · have d5 : ((l : Int) != (l' : Int)) = true := by simp; omega
              have HE := Lib.hid (show RES = false by rw [HS.out, show (l == l') = false by simpa using e5]; simp)
              clear e5
              go_enter Try.func15, Try.ntmps15
              go_wp2_with fail
              rw [HW.out]
              refine (CT.out _ HBW.out).mono ?_
              rintro e3 w3 ⟨rfl, hb3⟩
              have x7w3 := box1.out w3 hb3 7
              have z7w3 := box2.out w3 hb3 7
              simp only [List.getElem?_toArray, List.getElem?_cons_succ, List.getElem?_cons_zero] at x7w3 z7w3
              have x8w3 := box1.out w3 hb3 8
              have z8w3 := box2.out w3 hb3 8
              simp only [List.getElem?_toArray, List.getElem?_cons_succ, List.getElem?_cons_zero] at x8w3 z8w3
              have x9w3 := box1.out w3 hb3 9
              have z9w3 := box2.out w3 hb3 9
              simp only [List.getElem?_toArray, List.getElem?_cons_succ, List.getElem?_cons_zero] at x9w3 z9w3
              go_wp2_with fail
              go_ret
              exact ⟨ret_bool HE.out.symm, HBW.out.trans (hb3.mono (by have := HZ.out; omega))⟩
          | false =>
            have HE := Lib.hid (show RES = false by rw [HS.out]; simp)
            go_enter Try.func15, Try.ntmps15
            go_wp2_with fail
            rw [HW.out]
            refine (CT.out _ HBW.out).mono ?_
            rintro e3 w3 ⟨rfl, hb3⟩
            have x7w3 := box1.out w3 hb3 7
            have z7w3 := box2.out w3 hb3 7
            simp only [List.getElem?_toArray, List.getElem?_cons_succ, List.getElem?_cons_zero] at x7w3 z7w3
            have x8w3 := box1.out w3 hb3 8
            have z8w3 := box2.out w3 hb3 8
            simp only [List.getElem?_toArray, List.getElem?_cons_succ, List.getElem?_cons_zero] at x8w3 z8w3
            have x9w3 := box1.out w3 hb3 9
            have z9w3 := box2.out w3 hb3 9
            simp only [List.getElem?_toArray, List.getElem?_cons_succ, List.getElem?_cons_zero] at x9w3 z9w3
            go_wp2_with fail
            go_ret
            exact ⟨ret_bool HE.out.symm, HBW.out.trans (hb3.mono (by have := HZ.out; omega))⟩
        · have d3 : (n != n') = true := by simpa using e3
          have HE := Lib.hid (show RES = false by rw [HS.out, show (n == n') = false by simpa using e3]; simp)
          clear e3
          go_enter Try.func15, Try.ntmps15
          go_wp2_with fail
          rw [HW.out]
          go_ret
          exact ⟨ret_bool HE.out.symm, HBW.out⟩
      · have d2 := nm_other e2
        have HE := Lib.hid (show RES = false by rw [HS.out, show (nm.data.toList == nm'.data.toList) = false by simpa using e2]; simp)
        clear e2
        go_enter Try.func15, Try.ntmps15
        go_wp2_with fail
        rw [HW.out]
        go_ret
        exact ⟨ret_bool HE.out.symm, HBW.out⟩
    · have d1 : (k != k') = true := by simpa using e1
      have HE := Lib.hid (show RES = false by rw [HS.out, show (k == k') = false by simpa using e1]; simp)
      clear e1
      go_enter Try.func15, Try.ntmps15
      go_wp2_with fail
      rw [HW.out]
      go_ret
      exact ⟨ret_bool HE.out.symm, HBW.out⟩

end Go.Proofs.Ytglamoiimmahgaa
