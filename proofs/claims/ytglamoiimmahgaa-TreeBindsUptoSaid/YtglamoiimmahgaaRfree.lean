/- Walks: the document's free names of an expression. -/
import Derived.Test.YtglamoiimmahgaaRfrees
namespace Go.Proofs.Ytglamoiimmahgaa
open Go.RowKit
set_option linter.unusedVariables false
set_option linter.unusedSimpArgs false

theorem exs_more : ∀ (l : List Ex) (b : List ByteArray), exsOcc l b = withoutS (exsOcc l []) b
  | [], b => rfl
  | x :: l, b => by
    have h := occ_more x.nodes x (Nat.le_refl _) [] b
    rw [List.nil_append] at h
    simp only [exsOcc]
    rw [without_app, ← exs_more l b, h]
theorem bds_more (l : List Bd) (b : List ByteArray) : bdsOcc l b = withoutS (bdsOcc l []) b := by
  rw [← bdsOcc_map, ← bdsOcc_map]; exact exs_more _ _
theorem dd_dd (l : List ByteArray) : ddS (ddS l) = ddS l := join_dd [] l
theorem dd_app (a b : List ByteArray) : ddS (a ++ b) = joinS (ddS a) b := by unfold ddS; rw [join_app]
/-- What occurs free ahead of the alternatives. -/
def preS (k : Int) (nm : ByteArray) (n : Int) (ks : List Ex) (bs : List Bd) : List ByteArray :=
  (if k = 3 then [nm] else []) ++ (if k = 7 then (if n = 1 then bdsOcc bs (bdsNames bs) ++ exsOcc ks (bdsNames bs) else bdsOcc bs [] ++ exsOcc ks (bdsNames bs)) else if k = 6 then exsOcc ks [nm] ++ bdsOcc bs [] else exsOcc ks [] ++ bdsOcc bs [])
theorem occ_pre (k : Int) (nm : ByteArray) (n : Int) (t : Ty) (ks : List Ex) (als : List Al) (bs : List Bd) (q : Int) : Ex.occ (.mk k nm n t ks als bs q) [] = preS k nm n ks bs ++ alsOcc als [] := by
  unfold Ex.occ preS
  simp [hasS, List.append_assoc]
theorem pre_let1 (nm : ByteArray) (ks : List Ex) (bs : List Bd) : joinS (joinS [] (withoutS (ddS (exsOcc (bs.map Bd.exp) [])) (bs.map Bd.name))) (withoutS (ddS (exsOcc ks [])) (bs.map Bd.name)) = ddS (preS 7 nm 1 ks bs) := by
  have e : preS 7 nm 1 ks bs = withoutS (bdsOcc bs []) (bs.map Bd.name) ++ withoutS (exsOcc ks []) (bs.map Bd.name) := by
    unfold preS; rw [← bds_more, ← exs_more, bdsNames_map]; simp
  rw [e, bdsOcc_map, dd_app, without_dd, without_dd, join_dd, join_dd]; rfl
theorem pre_let (nm : ByteArray) (n : Int) (hn : n ≠ 1) (ks : List Ex) (bs : List Bd) : joinS (joinS [] (ddS (exsOcc (bs.map Bd.exp) []))) (withoutS (ddS (exsOcc ks [])) (bs.map Bd.name)) = ddS (preS 7 nm n ks bs) := by
  have e : preS 7 nm n ks bs = bdsOcc bs [] ++ withoutS (exsOcc ks []) (bs.map Bd.name) := by
    unfold preS; rw [← exs_more, bdsNames_map]; simp [hn]
  rw [e, bdsOcc_map, dd_app, without_dd, join_dd, join_dd]; rfl
theorem pre_lam (nm : ByteArray) (n : Int) (ks : List Ex) (bs : List Bd) : joinS (joinS [] (withoutS (ddS (exsOcc ks [])) [nm])) (ddS (exsOcc (bs.map Bd.exp) [])) = ddS (preS 6 nm n ks bs) := by
  have e : preS 6 nm n ks bs = withoutS (exsOcc ks []) [nm] ++ bdsOcc bs [] := by
    unfold preS; rw [← exs_more]; simp
  rw [e, bdsOcc_map, dd_app, without_dd, join_dd, join_dd]; rfl
theorem pre_else (k : Int) (nm : ByteArray) (n : Int) (h6 : k ≠ 6) (h7 : k ≠ 7) (ks : List Ex) (bs : List Bd) : joinS (joinS (if k = 3 then [nm] else []) (ddS (exsOcc ks []))) (ddS (exsOcc (bs.map Bd.exp) [])) = ddS (preS k nm n ks bs) := by
  have e : preS k nm n ks bs = (if k = 3 then [nm] else []) ++ (exsOcc ks [] ++ bdsOcc bs []) := by
    unfold preS; simp [h6, h7]
  have e3 : ddS (if k = 3 then [nm] else []) = (if k = 3 then [nm] else []) := by by_cases h : k = 3 <;> simp [h, ddS, joinS, hasS]
  rw [e, bdsOcc_map, dd_app, e3, join_app, join_dd, join_dd]
theorem als_take_occ {als : List Al} {j : Nat} {p : Pt} {e : Ex} (h : j < als.length) (he : als[j] = .mk p e) (pre : List ByteArray) :
    joinS (ddS (pre ++ alsOcc (als.take j) [])) (withoutS (ddS (e.occ [])) (ptNames p)) = ddS (pre ++ alsOcc (als.take (j + 1)) []) := by
  have e1 : e.occ (ptNames p) = withoutS (e.occ []) (ptNames p) := by
    have h := occ_more e.nodes e (Nat.le_refl _) [] (ptNames p)
    rw [List.nil_append] at h; exact h
  have e2 : alsOcc (als.take (j + 1)) [] = alsOcc (als.take j) [] ++ e.occ (ptNames p) := by
    have app : ∀ (a b : List Al), alsOcc (a ++ b) [] = alsOcc a [] ++ alsOcc b [] := by
      intro a; induction a with
      | nil => intro b; rfl
      | cons x a ih => intro b; simp only [List.cons_append, alsOcc, ih b, List.append_assoc]
    rw [List.take_succ_eq_append_getElem h, app, he]; simp [alsOcc, Al.occ]
  rw [e2, ← List.append_assoc, without_dd, e1, join_dd, dd_app (pre ++ _)]
theorem alsOcc_take_le : ∀ (als : List Al) (j : Nat), (alsOcc (als.take j) []).length ≤ (alsOcc als []).length
  | [], j => by simp
  | a :: l, 0 => by simp [alsOcc]
  | a :: l, j + 1 => by have := alsOcc_take_le l j; simp only [List.take_succ_cons, alsOcc, List.length_append]; omega

/-- A joined list is the longer. -/
theorem hasS_join_len2 (o l m : List ByteArray) : (joinS o l).length ≤ (joinS (joinS o l) m).length := by
  have key : ∀ (m l : List ByteArray), l.length ≤ (joinS l m).length := by
    intro m; induction m with
    | nil => intro l; exact Nat.le_refl _
    | cons x m ih =>
      intro l
      rw [join_cons]
      refine Nat.le_trans ?_ (ih _)
      by_cases h : hasS l x = true <;> simp [h]
  exact key m _
theorem hasS_join_len : ∀ (l m : List ByteArray), (joinS [] l).length ≤ (joinS (joinS [] l) m).length := by
  have key : ∀ (m l : List ByteArray), l.length ≤ (joinS l m).length := by
    intro m; induction m with
    | nil => intro l; exact Nat.le_refl _
    | cons x m ih =>
      intro l
      rw [join_cons]
      refine Nat.le_trans ?_ (ih _)
      by_cases h : hasS l x = true <;> simp [h]
  intro l m; exact key m _

set_option maxRecDepth 100000 in
set_option maxHeartbeats 12800000 in
theorem rfree_any (N : Nat) : ∀ (e : Ex), e.nodes ≤ N → e.mass ≤ 4000000 → FreeIs e := by
  induction N with
  | zero => intro e h; cases e; unfold Ex.nodes at h; omega
  | succ N ih =>
    intro e hN hM B w cs hB hx
    cases hx with
    | @mk k n q nm t T A Aa Ab c ca cb ks als bs L La Lb hk hs hn hq ht hc hm hca hma hcb hmb hb hba hbb hr hks hra hals hrb hbs =>
    cases ht with
    | @mk tk tn tnm tA tc tks tL htk hts htn htc htm htb htr htks =>
    have hlen := occ_len (.mk k nm n (.mk tk tnm tn tks) ks als bs q) []
    rw [occ_pre] at hlen ⊢
    have hnodes : (Ex.mk k nm n (.mk tk tnm tn tks) ks als bs q).nodes = 1 + exsNodes ks + alsNodes als + bdsNodes bs := rfl
    have hmass : (Ex.mk k nm n (.mk tk tnm tn tks) ks als bs q).mass = 1 + exsMass ks + alsMass als + bdsMass bs := rfl
    rw [hmass] at hM hlen
    rw [hnodes] at hN
    obtain ⟨tl, htl⟩ : ∃ tl, tks.length = tl := ⟨_, rfl⟩
    obtain ⟨kl, hkl⟩ : ∃ kl, ks.length = kl := ⟨_, rfl⟩
    obtain ⟨al, hal⟩ : ∃ al, als.length = al := ⟨_, rfl⟩
    obtain ⟨bl, hbl⟩ : ∃ bl, bs.length = bl := ⟨_, rfl⟩
    have hsum : kl + al + bl ≤ 4000000 := by have := exs_len_mass ks; have := als_len_mass als; have := bds_len_mass bs; omega
    have IHK : ∀ x ∈ ks, FreeIs x := fun x hx => ih x (by obtain ⟨i, hi, rfl⟩ := List.getElem_of_mem hx; have := exs_mem ks i hi; omega) (by have := exs_mem_mass ks x hx; omega)
    have IHB : ∀ x ∈ bs.map Bd.exp, FreeIs x := fun x hx => by
      obtain ⟨b, hb, rfl⟩ := List.mem_map.1 hx
      have h1 := bds_mem_mass bs b hb
      refine ih b.exp ?_ (by omega)
      obtain ⟨i, hi, rfl⟩ := List.getElem_of_mem hb
      have h9 := bds_mem bs i hi
      have h8 : (bs[i]).exp.nodes + 1 ≤ (bs[i]).nodes := by
        cases bs[i] with
        | mk nm e q => show e.nodes + 1 ≤ 1 + e.nodes; omega
      omega
    have IHA : ∀ p e, Al.mk p e ∈ als → FreeIs e ∧ p.nodes ≤ 4000000 ∧ e.mass ≤ 4000000 := fun p e hx => by
      have h1 := als_mem_mass als _ hx
      have h2 : 1 + p.nodes + e.mass ≤ alsMass als := h1
      refine ⟨ih e ?_ (by omega), by omega, by omega⟩
      obtain ⟨i, hi, he⟩ := List.getElem_of_mem hx
      have h9 := als_mem als i hi
      rw [he] at h9
      have : (Al.mk p e).nodes = 1 + e.nodes := rfl
      omega
    have hmk : exsMass ks ≤ 4000000 := by omega
    have hmb' : exsMass (bs.map Bd.exp) ≤ 4000000 := by have := exsMass_bds bs; omega
    have HSUM := Lib.hid hsum
    have HK := Lib.hid hkl
    have HA := Lib.hid hal
    have HBL := Lib.hid hbl
    simp only [List.cons_append, List.nil_append]
    rw [htl, hkl, hal, hbl]
    rw [hkl] at hr
    have hbox0 := Blk.new w 29 #[.int .i64 k, .string nm, .int .i64 n, .int .i64 tk, .string tnm, .int .i64 tn, .slice tA tl tc, .slice A kl c, .slice Aa al ca, .slice Ab bl cb, .int .i64 q]
    obtain ⟨W1, hW1⟩ : ∃ W1, w.alloc (.cells #[.int .i64 k, .string nm, .int .i64 n, .int .i64 tk, .string tnm, .int .i64 tn, .slice tA tl tc, .slice A kl c, .slice Aa al ca, .slice Ab bl cb, .int .i64 q] 29) = W1 := ⟨_, rfl⟩
    rw [hW1] at hbox0
    have hbW : Below w.heap.size w W1 := by rw [← hW1]; exact (Below.refl _ _).alloc (Nat.le_refl _) _
    have hzW : W1.heap.size = w.heap.size + 1 := by rw [← hW1]; simp
    have hBW : B ≤ W1.heap.size := by omega
    have hlt0 : w.heap.size < W1.heap.size := by omega
    have HW1 := Lib.hid hW1
    have HBOX := Lib.hid hbox0
    have HBW := Lib.hid hbW
    have HZW := Lib.hid hzW
    have HRK := Lib.hid (hr.keep fun _ hp => (hbW.mono hB).cell hp)
    have HKE := Lib.hid (show ExsAt W1 B ks L from ⟨by rw [hr.len, hkl], hr.each, fun i h1 h2 => (hks i h1 h2).later (hbW.mono hB)⟩)
    have HRA := Lib.hid (hra.later (hbW.mono hB))
    have HEA := Lib.hid (fun i h1 h2 => AlAt.later (hals i h1 h2) (hbW.mono hB))
    have HRB := Lib.hid hrb
    have HEB := Lib.hid hbs
    have HBS := Lib.hid ((BdsAt.mk hrb hbs).later (hbW.mono hB))
    have hc9 := hbox0.cell 9
    simp only [List.getElem?_toArray, List.getElem?_cons_succ, List.getElem?_cons_zero] at hc9
    obtain ⟨i0, hi, hz0, hz1, hz2⟩ := info_parts ex_info
    have HI := Lib.hid hi
    have HZ0 := Lib.hid hz0
    have HZ1 := Lib.hid hz1
    have HZ2 := Lib.hid hz2
    have HIK := Lib.hid IHK
    have HIB := Lib.hid IHB
    have HIA := Lib.hid IHA
    have HMK := Lib.hid hmk
    have HMB := Lib.hid hmb'
    have HLEN := Lib.hid (show (preS k nm n ks bs ++ alsOcc als []).length ≤ 4000000 by omega)
    have HB := Lib.hid hB
    clear hlen hkl hal hbl htl hW1 hbox0 hbW hzW hr hks hra hals hrb hbs htr htks hb hba hbb htb hi hz0 hz1 hz2 IHK IHB IHA hmk hmb' ih hN hM hnodes hmass
    go_enter Try.func27, Try.ntmps27
    go_upto_block 0 with fail
    rw [HW1.out]
    have HG := Lib.hid (show Got W1 B W1.heap.size ([] : List Ex) (.slice none 0 0) W1 from ⟨[], ExsAt.nil_ _ _, World.ownsRow_nil _ _ _ _, Below.refl _ _⟩)
    go_cut [3] (fun v wx => Got W1 B W1.heap.size (([] : List Ex) ++ bs.map Bd.exp) v wx)
    case first =>
      go_wp2_with fail
      go_loopw [3, 4] (fun v i wr => ∃ j : Nat, i = .int .i64 j ∧ j ≤ bl ∧ Got W1 B W1.heap.size (([] : List Ex) ++ (bs.take j).map Bd.exp) v wr) (fun _ i _ => bl - (intOf i).toNat)
      case atStart => exact ⟨0, rfl, Nat.zero_le _, by simpa using HG.out⟩
      case round =>
        obtain ⟨j, rfl, hj, Lr, hLr, hown, hbe⟩ := hrel
        have hcf := (hbe.cell (p := ⟨w.heap.size, 9, none⟩) (by have := HZW.out; show w.heap.size < _; omega)).trans (HBOX.out.cell 9)
        simp only [List.getElem?_toArray, List.getElem?_cons_succ, List.getElem?_cons_zero] at hcf
        have hzr := hbe.size
        have hne : (([] : List Ex) ++ (bs.take j).map Bd.exp).length ≤ 4000000 := by have := HBL.out; have := HSUM.out; simp; omega
        have HLR := Lib.hid hLr
        have HOW := Lib.hid hown
        have HBE := Lib.hid hbe
        clear hLr hown hbe
        by_cases hlt : j < bl
        · have hbW := (HBW.out.mono HB.out).trans (HBE.out.mono hBW)
          have hjk : j < bs.length := by rw [HBL.out]; exact hlt
          have hrow := HRB.out.later hbW
          have hl : j < Lb.length := by rw [hrow.len]; exact hjk
          have hea := HEB.out j hl hjk
          obtain ⟨g, o, c0, c1, c2, c3, c4, c5, c6, c7, c8, c9, c10, nm', e', q', rfl, hg, hel, _, _, _, he, k0, k1, k2, k3, k4, k5, k6, k7, k8, k9, k10⟩ := bd_cells hrow hjk hl (BdAt.later hea hbW)
          have hee : bs[j].exp = e' := by rw [hel]; rfl
          have HEX := Lib.hid he
          have HEE := Lib.hid hee
          clear hbW hrow hea hel he hee
          go_wp2_with (at_builtin; refine wpList_append_own _ rfl (.tmp 16) (.tmp 23) 25 rfl W1.heap.size 29 i0 (.agg #[.int .i64 0, .string ⟨#[]⟩, .int .i64 0, .int .i64 0, .string ⟨#[]⟩, .int .i64 0, .slice none 0 0, .slice none 0 0, .slice none 0 0, .slice none 0 0, .int .i64 0]) 11 168 Try.underlying25 HI.out HZ0.out HZ1.out HZ2.out rfl (by decide) _ _ _ rfl (HOW.out.alloc _) ⟨wr.heap.size, 0, none⟩ 1 1 [c0, c1, c2, c3, c4, c5, c6, c7, c8, c9, c10] rfl rfl (eleven_new _ _) (ex_oneCell HEX.out) (by unfold maxLen; omega) (by omega) (by simp; omega) ?_)
          intro v' w2 hown' hgrow _
          have HGN := Lib.hid (show Got W1 B W1.heap.size (([] : List Ex) ++ (bs.take (j + 1)).map Bd.exp) v' w2 by
            have := got_app (ob := []) (fs := [e']) (K := [[c0, c1, c2, c3, c4, c5, c6, c7, c8, c9, c10]]) HLR.out HOW.out HBE.out hBW hzr (ExsAt.one HEX.out) rfl (by simpa using hown') (grown_new hgrow)
            rw [List.take_succ_eq_append_getElem hjk, List.map_append, ← List.append_assoc, List.map_singleton, HEE.out]
            exact this)
          clear hown' hgrow
          go_wp2_with fail
          go_roundw
          case rel => exact ⟨j + 1, by go_num, by omega, HGN.out⟩
          case measure => simp [intOf]; omega
        · obtain rfl : j = bl := by omega
          have HGN := Lib.hid (show Got W1 B W1.heap.size (([] : List Ex) ++ bs.map Bd.exp) _ wr from ⟨Lr, by have := HLR.out; rw [← HBL.out, List.take_length] at this; exact this, by have := HOW.out; rw [← HBL.out, List.take_length] at this; exact this, HBE.out⟩)
          go_wp2_with fail
          go_meet
          exact HGN.out
    case rest =>
      obtain ⟨Lr, hLr, hown, hbe⟩ := hcut
      have hq0 : (([] : List Ex) ++ bs.map Bd.exp).length = bl := by have := HBL.out; simp; omega
      obtain ⟨A3, c3, L3, e3, hrow3, hex3, -⟩ := parts_row (show PartsSays W1 B (([] : List Ex) ++ bs.map Bd.exp) (.returned u3) wc from ⟨u3, Lr, rfl, hLr, hown, hbe⟩)
      rw [hq0] at e3 hrow3
      injection e3 with e3
      subst e3
      rw [List.nil_append] at hex3
      have HR3 := Lib.hid hrow3
      have HX3 := Lib.hid hex3
      have HBE := Lib.hid hbe
      have HBF := Lib.hid (fun (W : World) (hW : Below W1.heap.size W1 W) (i : Nat) => (hW.cell (p := ⟨w.heap.size, i, none⟩) (by have := HZW.out; show w.heap.size < _; omega)).trans (HBOX.out.cell i))
      have HBN := Lib.hid ((rbound_any bs Ab Lb cb B bl wc (Nat.le_trans hBW hbe.size) HBL.out (by have := HSUM.out; omega) (HBS.out.later (hbe.mono hBW))).mono fun _ _ h => post_of (Below.refl _ _) (by rw [List.length_map, HBL.out]; have := HSUM.out; omega) h)
      have z9 := HBF.out wc hbe 9
      simp only [List.getElem?_toArray, List.getElem?_cons_succ, List.getElem?_cons_zero] at z9
      clear hLr hown hbe hrow3 hex3 hq0
      have HPL := Lib.hid (show (ddS (preS k nm n ks bs)).length ≤ 4000000 from Nat.le_trans (dd_len _) (by have := HLEN.out; rw [List.length_append] at this; omega))
      by_cases h3 : k = 3
      · subst h3
        have HPE := Lib.hid (show joinS (joinS [nm] (ddS (exsOcc ks []))) (ddS (exsOcc (bs.map Bd.exp) [])) = ddS (preS 3 nm n ks bs) from by rw [← pre_else 3 nm n (by omega) (by omega) ks bs, if_pos rfl])
        go_upto_block 2 with (go_at_call 54; (with_reducible refine HBN.out.mono ?_); rintro e w5 ⟨A5, q5, c5, rfl, hq5, hr5, hb5, -⟩; (have hk5 : Below W1.heap.size W1 w5 := HBE.out.trans (hb5.mono HBE.out.size)); (have z0 := HBF.out w5 hk5 0); (have z1 := HBF.out w5 hk5 1); (have z2 := HBF.out w5 hk5 2); (have z7 := HBF.out w5 hk5 7); (simp only [List.getElem?_toArray, List.getElem?_cons_succ, List.getElem?_cons_zero] at z0 z1 z2 z7); (have zz0 := cell_kept (below_new w5 (.cells #[.string nm] 9)) (Nat.lt_of_lt_of_le hlt0 hk5.size) z0))
        obtain ⟨W6, hW6⟩ : ∃ W6, w5.alloc (.cells #[.string nm] 9) = W6 := ⟨_, rfl⟩
        have ho : NmR W6 (some ⟨w5.heap.size, 0, none⟩) 1 [nm] := by rw [← hW6]; exact nm_new _ _
        have h56 : Below w5.heap.size w5 W6 := by rw [← hW6]; exact below_new _ _
        rw [hW6]
        have hk6 : Below W1.heap.size W1 W6 := hk5.trans (h56.mono hk5.size)
        have y7 := HBF.out W6 hk6 7
        simp only [List.getElem?_toArray, List.getElem?_cons_succ, List.getElem?_cons_zero] at y7
        have HKZ := Lib.hid hk6
        have HO := Lib.hid ho
        have HR5 := Lib.hid (hr5.later h56)
        have HC5 := Lib.hid (Below.refl W6.heap.size W6)
        have HC6 := Lib.hid (hb5.trans (h56.mono hb5.size))
        clear hW6 ho h56 hk6 hr5 hb5 hk5
        
        have HFK := Lib.hid (fun (W : World) (hb : Below W6.heap.size W6 W) => rfrees_any ks A L c B kl W W6 (Nat.le_trans hBW (Nat.le_trans HKZ.out.size hb.size)) HK.out HMK.out ((HRK.out.later (HKZ.out.mono hBW)).later (hb.mono (Nat.le_trans hBW HKZ.out.size))) ((HKE.out.later (HKZ.out.mono hBW)).later (hb.mono (Nat.le_trans hBW HKZ.out.size))) hb HIK.out)
        have HFB := Lib.hid (fun (W : World) (hb : Below wc.heap.size wc W) (hb2 : Below W6.heap.size W6 W) => rfrees_any (bs.map Bd.exp) A3 L3 c3 wc.heap.size bl W W6 hb.size (by rw [List.length_map, HBL.out]) HMB.out (HR3.out.later hb) ((HX3.out.more (Nat.le_trans hBW HBE.out.size)).later hb) hb2 HIB.out)
        go_cut [6] (fun v wx => ∃ (A' : Option Addr) (q' c' : Nat), v = .slice A' q' c' ∧ q' ≤ 4000000 ∧ NmR wx A' q' (ddS (preS 3 nm n ks bs)) ∧ Below W1.heap.size W1 wx)
        case first =>
          have HRF := Lib.hid (Below.refl W6.heap.size W6)
          have hrf := HRF.out
          have HJ1 := Lib.hid (fun (W : World) (A' : Option Addr) (q' c' : Nat) (hb : Below W6.heap.size W6 W) (h2 : NmR W A' q' (ddS (exsOcc ks []))) => joinP (c := 1) (c' := c') hb (HO.out.later hb) h2 (by have h1 := join_len (ddS (exsOcc ks [])) [nm]; have h2 := dd_len (exsOcc ks []); have h4 := hasS_join_len2 [nm] (ddS (exsOcc ks [])) (ddS (exsOcc (bs.map Bd.exp) [])); have h5 := HPL.out; rw [← HPE.out] at h5; omega))
          have HJ2 := Lib.hid (fun (W : World) (A' : Option Addr) (q' c' : Nat) (A'' : Option Addr) (q'' c'' : Nat) (hb : Below W6.heap.size W6 W) (h1 : NmR W A' q' (joinS [nm] (ddS (exsOcc ks [])))) (h2 : NmR W A'' q'' (ddS (exsOcc (bs.map Bd.exp) []))) =>
            show Calls Try.prog 30 #[.slice A' q' c', .slice A'' q'' c''] W (NmPost (ddS (preS 3 nm n ks bs)) W W6) from by
              have hl2 := HPL.out
              rw [← HPE.out] at hl2
              have h := joinP (c := c') (c' := c'') hb h1 h2 hl2
              rw [HPE.out] at h; exact h)
          go_wp2_with (first | (go_at_call 55; (with_reducible refine (HFK.out _ hrf).mono ?_); rintro e w7 ⟨A7, q7, c7, rfl, hq7, hr7, hb7, hk7⟩) | (go_at_call 30; (with_reducible refine (HJ1.out _ _ _ _ hk7 hr7).mono ?_); rintro e w8 ⟨A8, q8, c8, rfl, hq8, hr8, hb8, hk8⟩) | (go_at_call 55; (with_reducible refine (HFB.out _ (HC6.out.trans (hk8.mono HC6.out.size)) hk8).mono ?_); rintro e w9 ⟨A9, q9, c9, rfl, hq9, hr9, hb9, hk9⟩) | (go_at_call 30; (with_reducible refine (HJ2.out _ _ _ _ _ _ _ hk9 (hr8.later hb9) hr9).mono ?_); rintro e w10 ⟨A10, q10, c10, rfl, hq10, hr10, hb10, hk10⟩))
          go_meet
          exact ⟨A10, q10, c10, rfl, hq10, hr10, HKZ.out.trans (hk10.mono HKZ.out.size)⟩
        case rest =>
          obtain ⟨A6, q6, c6, rfl, hq6, hr6, hb6⟩ := hcut
          have HS := Lib.hid (show NmR wc A6 q6 (ddS (preS 3 nm n ks bs ++ alsOcc (als.take 0) [])) by rw [List.take_zero]; simpa [alsOcc] using hr6)
          have HB6 := Lib.hid hb6
          clear hr6 hb6
          go_wp2_with fail
          go_loopw [6, 8] (fun v i wr => ∃ (j : Nat) (A' : Option Addr) (q' c' : Nat), i = .int .i64 j ∧ j ≤ al ∧ v = .slice A' q' c' ∧ q' ≤ 4000000 ∧ NmR wr A' q' (ddS (preS 3 nm n ks bs ++ alsOcc (als.take j) [])) ∧ Below W1.heap.size W1 wr) (fun _ i _ => al - (intOf i).toNat)
          case atStart => exact ⟨0, A6, q6, c6, rfl, Nat.zero_le _, rfl, hq6, HS.out, HB6.out⟩
          case round =>
            obtain ⟨j, A', q', c', rfl, hj, rfl, hq', hnm, hbe⟩ := hrel
            have hcf := HBF.out wr hbe 8
            simp only [List.getElem?_toArray, List.getElem?_cons_succ, List.getElem?_cons_zero] at hcf
            have HNM := Lib.hid hnm
            have HBE2 := Lib.hid hbe
            clear hnm hbe
            by_cases hlt : j < al
            · have hjk : j < als.length := by rw [HA.out]; exact hlt
              have hbw := HBE2.out.mono hBW
              have hX := HRA.out.later hbw
              have hlx : j < La.length := by rw [hX.len]; exact hjk
              have hal0 := HEA.out j hlx hjk
              obtain ⟨g, o, p0, p1, p2, p3, p4, d0, d1, d2, d3', d4, d5, d6', d7', d8, d9, d10, pp, ee, rfl, hg, hal, hp, he, u0, u1, u2, u3', u4', k0, k1, k2, k3, k4, k5, k6, k7, k8, k9, k10⟩ := al_cells hX hjk hlx (AlAt.later hal0 hbw)
              obtain ⟨hfe, hpn, hem⟩ := HIA.out pp ee (by rw [← hal]; exact List.getElem_mem hjk)
              have hBr : B ≤ wr.heap.size := Nat.le_trans hBW HBE2.out.size
              have hgl : g < wr.heap.size := by omega
              have hltR : w.heap.size < wr.heap.size := Nat.lt_of_lt_of_le hlt0 HBE2.out.size
              have hst := als_take_occ hjk hal (preS 3 nm n ks bs)
              have hl1 : (ddS (preS 3 nm n ks bs ++ alsOcc (als.take (j + 1)) [])).length ≤ 4000000 := Nat.le_trans (dd_len _) (by have h1 := HLEN.out; have h2 := alsOcc_take_le als (j + 1); rw [List.length_append] at h1 ⊢; omega)
              have HFE := Lib.hid (fun (W : World) (hb : Below wr.heap.size wr W) => (hfe B W [d0, d1, d2, d3', d4, d5, d6', d7', d8, d9, d10] (Nat.le_trans hBr hb.size) (he.later (hb.mono hBr))).mono fun _ _ h => post_of hb (Nat.le_trans (dd_len _) (Nat.le_trans (occ_len _ _) hem)) h)
              have HNA := Lib.hid (fun (W : World) (hb : Below wr.heap.size wr W) => (rnames_any pp.nodes pp (Nat.le_refl _) hpn B W [p0, p1, p2, p3, p4] (Nat.le_trans hBr hb.size) (hp.later (hb.mono hBr))).mono fun _ _ h => post_of hb (Nat.le_trans (ptNames_le _ _ (Nat.le_refl _)) hpn) h)
              have HWO := Lib.hid (fun (W : World) (A1 : Option Addr) (q1 c1 : Nat) (A2 : Option Addr) (q2 c2 : Nat) (hb : Below wr.heap.size wr W) (h1 : NmR W A1 q1 (ddS (ee.occ []))) (h2 : NmR W A2 q2 (ptNames pp)) => withoutP (c := c1) (c' := c2) hb h1 h2)
              have HJO := Lib.hid (fun (W : World) (A2 : Option Addr) (q2 c2 : Nat) (hb : Below wr.heap.size wr W) (h2 : NmR W A2 q2 (withoutS (ddS (ee.occ [])) (ptNames pp))) =>
                show Calls Try.prog 30 #[.slice A' q' c', .slice A2 q2 c2] W (NmPost (ddS (preS 3 nm n ks bs ++ alsOcc (als.take (j + 1)) [])) W wr) from by
                  have h := joinP (c := c') (c' := c2) hb (HNM.out.later hb) h2 (by rw [hst]; exact hl1)
                  rw [hst] at h; exact h)
              clear hbw hX hal0 hal hp he hfe hst hl1
              have hB0 : Below wr.heap.size wr wr.drew := (Below.refl _ _).drew
              go_wp2_with fail
              go_region_held3 (fun w' => w'.cell? ⟨w.heap.size, 8, none⟩ = some (.slice (some ⟨g, o, none⟩) al ca) ∧ w'.cell? ⟨g, o + j * 16, none⟩ = some p0 ∧ w'.cell? ⟨g, o + j * 16 + 1, none⟩ = some p1 ∧ w'.cell? ⟨g, o + j * 16 + 2, none⟩ = some p2 ∧ w'.cell? ⟨g, o + j * 16 + 3, none⟩ = some p3 ∧ w'.cell? ⟨g, o + j * 16 + 4, none⟩ = some p4 ∧ w'.cell? ⟨g, o + j * 16 + 5, none⟩ = some d0 ∧ w'.cell? ⟨g, o + j * 16 + 5 + 1, none⟩ = some d1 ∧ w'.cell? ⟨g, o + j * 16 + 5 + 2, none⟩ = some d2 ∧ w'.cell? ⟨g, o + j * 16 + 5 + 3, none⟩ = some d3' ∧ w'.cell? ⟨g, o + j * 16 + 5 + 4, none⟩ = some d4 ∧ w'.cell? ⟨g, o + j * 16 + 5 + 5, none⟩ = some d5 ∧ w'.cell? ⟨g, o + j * 16 + 5 + 6, none⟩ = some d6' ∧ w'.cell? ⟨g, o + j * 16 + 5 + 7, none⟩ = some d7' ∧ w'.cell? ⟨g, o + j * 16 + 5 + 8, none⟩ = some d8 ∧ w'.cell? ⟨g, o + j * 16 + 5 + 9, none⟩ = some d9 ∧ w'.cell? ⟨g, o + j * 16 + 5 + 10, none⟩ = some d10 ∧ Below wr.heap.size wr w')
                (((try dsimp only); (repeat' apply And.intro) <;> (first | assumption | exact cell_kept (by assumption) hltR (by assumption) | exact cell_kept (by assumption) hgl (by assumption))))
                (first | (go_at_call 27; (with_reducible refine (HFE.out _ (by assumption)).mono ?_); rintro e wa ⟨Aa', qa, ca', rfl, hqa, hra, hba, hka⟩) | (go_at_call 25; (with_reducible refine (HNA.out _ (by assumption)).mono ?_); rintro e wb ⟨Ab', qb, cb', rfl, hqb, hrb, hbb, hkb⟩) | (go_at_call 56; (with_reducible refine (HWO.out _ _ _ _ _ _ _ (by assumption) (hra.later hbb) hrb).mono ?_); rintro e wd ⟨Ad', qd, cd', rfl, hqd, hrd, hbd, hkd⟩) | (go_at_call 30; (with_reducible refine (HJO.out _ _ _ _ (by assumption) hrd).mono ?_); rintro e we ⟨Ae', qe, ce', rfl, hqe, hre, hbe', hke⟩))
              have HRE := Lib.hid hre
              have HKE' := Lib.hid hke
              clear hB0 hra hrb hrd hre hke
              go_wp2_with fail
              go_roundw
              case rel => exact ⟨j + 1, Ae', qe, ce', by go_num, by omega, rfl, hqe, HRE.out, HBE2.out.trans (HKE'.out.mono HBE2.out.size)⟩
              case measure => simp [intOf]; omega
            · have HE := Lib.hid (show NmR wr A' q' (ddS (preS 3 nm n ks bs ++ alsOcc als [])) by have := HNM.out; rw [List.take_of_length_le (by rw [HA.out]; omega)] at this; exact this)
              go_wp2_with fail
              go_ret
              have hfin := HE.out
              obtain ⟨rfl, hf2, hf3⟩ := hfin
              exact ⟨A', c', rfl, hf3, HBW.out.trans (HBE2.out.mono (by omega))⟩
      · have d3 : (k == 3) = false := by simpa using h3
        go_upto_block 2 with (go_at_call 54; (with_reducible refine HBN.out.mono ?_); rintro e w5 ⟨A5, q5, c5, rfl, hq5, hr5, hb5, -⟩; (have hk5 : Below W1.heap.size W1 w5 := HBE.out.trans (hb5.mono HBE.out.size)); (have z0 := HBF.out w5 hk5 0); (have z1 := HBF.out w5 hk5 1); (have z2 := HBF.out w5 hk5 2); (have z7 := HBF.out w5 hk5 7); (simp only [List.getElem?_toArray, List.getElem?_cons_succ, List.getElem?_cons_zero] at z0 z1 z2 z7))
        obtain ⟨W6, hW6⟩ : ∃ W6, w5 = W6 := ⟨_, rfl⟩
        have ho : NmR W6 none 0 [] := NmR.nil_ _
        have h56 : Below w5.heap.size w5 W6 := by rw [← hW6]; exact Below.refl _ _
        have hk6 : Below W1.heap.size W1 W6 := hk5.trans (h56.mono hk5.size)
        rw [hW6] at z0 z1 z2 z7 ⊢
        
        have HKZ := Lib.hid hk6
        have HO := Lib.hid ho
        have HR5 := Lib.hid (hr5.later h56)
        have HC5 := Lib.hid (Below.refl W6.heap.size W6)
        have HC6 := Lib.hid (hb5.trans (h56.mono hb5.size))
        clear hW6 ho h56 hk6 hr5 hb5 hk5
        
        have HFK := Lib.hid (fun (W : World) (hb : Below W6.heap.size W6 W) => rfrees_any ks A L c B kl W W6 (Nat.le_trans hBW (Nat.le_trans HKZ.out.size hb.size)) HK.out HMK.out ((HRK.out.later (HKZ.out.mono hBW)).later (hb.mono (Nat.le_trans hBW HKZ.out.size))) ((HKE.out.later (HKZ.out.mono hBW)).later (hb.mono (Nat.le_trans hBW HKZ.out.size))) hb HIK.out)
        have HFB := Lib.hid (fun (W : World) (hb : Below wc.heap.size wc W) (hb2 : Below W6.heap.size W6 W) => rfrees_any (bs.map Bd.exp) A3 L3 c3 wc.heap.size bl W W6 hb.size (by rw [List.length_map, HBL.out]) HMB.out (HR3.out.later hb) ((HX3.out.more (Nat.le_trans hBW HBE.out.size)).later hb) hb2 HIB.out)
        go_cut [6] (fun v wx => ∃ (A' : Option Addr) (q' c' : Nat), v = .slice A' q' c' ∧ q' ≤ 4000000 ∧ NmR wx A' q' (ddS (preS k nm n ks bs)) ∧ Below W1.heap.size W1 wx)
        case first =>
          by_cases h7 : k = 7
          · subst h7
            by_cases hn1 : n = 1
            · subst hn1
              have HW1 := Lib.hid (fun (W : World) (A' : Option Addr) (q' c' : Nat) (hb : Below W6.heap.size W6 W) (h1 : NmR W A' q' (ddS (exsOcc (bs.map Bd.exp) []))) => withoutP (c := c') (c' := c5) hb h1 (HR5.out.later (HC5.out.trans (hb.mono HC5.out.size))))
              have HRF := Lib.hid (Below.refl W6.heap.size W6)
              have hrf := HRF.out
              have hc6 := HC6.out
              go_wp2_with (first | (go_at_call 55; (with_reducible refine (HFB.out _ hc6 hrf).mono ?_); rintro e w7 ⟨A7, q7, c7, rfl, hq7, hr7, hb7, hk7⟩; (have hk17 := HKZ.out.trans (hk7.mono HKZ.out.size)); (have y2 := HBF.out w7 hk17 2); (have y7 := HBF.out w7 hk17 7); (simp only [List.getElem?_toArray, List.getElem?_cons_succ, List.getElem?_cons_zero] at y2 y7)) | (go_at_call 56; (with_reducible refine (HW1.out _ _ _ _ hk7 hr7).mono ?_); rintro e w8 ⟨A8, q8, c8, rfl, hq8, hr8, hb8, hk8⟩; (have hk18 := HKZ.out.trans (hk8.mono HKZ.out.size)); (have x7 := HBF.out w8 hk18 7); (simp only [List.getElem?_toArray, List.getElem?_cons_succ, List.getElem?_cons_zero] at x7)))
              
              have hkR : Below W6.heap.size W6 w8 := hk8
              have hltR : w.heap.size < w8.heap.size := Nat.lt_of_lt_of_le (Nat.lt_of_lt_of_le hlt0 HKZ.out.size) hkR.size
              have HKR := Lib.hid hkR
              have HJR1 := Lib.hid (fun (W : World) (hb : Below w8.heap.size w8 W) => joinP (c := 0) (c' := c8) (l := []) hb (NmR.nil_ W) (hr8.later hb) (by
                have h := HPL.out
                have h2 := hasS_join_len (withoutS (ddS (exsOcc (bs.map Bd.exp) [])) (bs.map Bd.name)) (withoutS (ddS (exsOcc ks [])) (bs.map Bd.name))
                rw [← pre_let1 nm ks bs] at h; omega))
              have HFR := Lib.hid (fun (W : World) (hb : Below w8.heap.size w8 W) => rfrees_any ks A L c B kl W w8 (Nat.le_trans hBW (Nat.le_trans HKZ.out.size (Nat.le_trans HKR.out.size hb.size))) HK.out HMK.out ((HRK.out.later (HKZ.out.mono hBW)).later ((HKR.out.trans (hb.mono HKR.out.size)).mono (Nat.le_trans hBW HKZ.out.size))) ((HKE.out.later (HKZ.out.mono hBW)).later ((HKR.out.trans (hb.mono HKR.out.size)).mono (Nat.le_trans hBW HKZ.out.size))) hb HIK.out)
              have HWR := Lib.hid (fun (W : World) (A' : Option Addr) (q' c' : Nat) (hb : Below w8.heap.size w8 W) (h1 : NmR W A' q' (ddS (exsOcc ks []))) => withoutP (c := c') (c' := c5) hb h1 ((HR5.out.later (HC5.out.trans (HKR.out.mono HC5.out.size))).later hb))
              have HJR2 := Lib.hid (fun (W : World) (A' : Option Addr) (q' c' : Nat) (A'' : Option Addr) (q'' c'' : Nat) (hb : Below w8.heap.size w8 W) (h1 : NmR W A' q' (joinS [] (withoutS (ddS (exsOcc (bs.map Bd.exp) [])) (bs.map Bd.name)))) (h2 : NmR W A'' q'' (withoutS (ddS (exsOcc ks [])) (bs.map Bd.name))) =>
                show Calls Try.prog 30 #[.slice A' q' c', .slice A'' q'' c''] W (NmPost (ddS (preS 7 nm 1 ks bs)) W w8) from by
                  have hl2 := HPL.out
                  rw [← pre_let1 nm ks bs] at hl2
                  have h := joinP (c := c') (c' := c'') hb h1 h2 hl2
                  rw [pre_let1 nm ks bs] at h; exact h)
              have hB0 : Below w8.heap.size w8 w8.drew := (Below.refl _ _).drew
              go_region_held3 (fun w' => w'.cell? ⟨w.heap.size, 7, none⟩ = some (.slice A kl c) ∧ Below w8.heap.size w8 w')
                (((try dsimp only); (repeat' apply And.intro) <;> (first | assumption | exact cell_kept (by assumption) hltR (by assumption))))
                (first | (go_at_call 30; (with_reducible refine (HJR1.out _ (by assumption)).mono ?_); rintro e wa ⟨Aa', qa, ca', rfl, hqa, hra, hba, hka⟩) | (go_at_call 55; (with_reducible refine (HFR.out _ (by assumption)).mono ?_); rintro e wb ⟨Ab', qb, cb', rfl, hqb, hrb, hbb, hkb⟩) | (go_at_call 56; (with_reducible refine (HWR.out _ _ _ _ (by assumption) hrb).mono ?_); rintro e wd ⟨Ad', qd, cd', rfl, hqd, hrd, hbd, hkd⟩) | (go_at_call 30; (with_reducible refine (HJR2.out _ _ _ _ _ _ _ (by assumption) ((hra.later hbb).later hbd) hrd).mono ?_); rintro e we ⟨Ae', qe, ce', rfl, hqe, hre, hbe', hke⟩))
              clear hB0
              go_wp2_with fail
              go_meet
              exact ⟨Ae', qe, ce', rfl, hqe, hre, HKZ.out.trans ((HKR.out.trans (hke.mono HKR.out.size)).mono HKZ.out.size)⟩
            · have dn : (n == 1) = false := by simpa using hn1
              have HRF := Lib.hid (Below.refl W6.heap.size W6)
              have hrf := HRF.out
              have hc6 := HC6.out
              go_wp2_with ((go_at_call 55; (with_reducible refine (HFB.out _ hc6 hrf).mono ?_); rintro e w7 ⟨A7, q7, c7, rfl, hq7, hr7, hb7, hk7⟩; (have hk17 := HKZ.out.trans (hk7.mono HKZ.out.size)); (have y2 := HBF.out w7 hk17 2); (have y7 := HBF.out w7 hk17 7); (simp only [List.getElem?_toArray, List.getElem?_cons_succ, List.getElem?_cons_zero] at y2 y7)))
              
              have hkR : Below W6.heap.size W6 w7 := hk7
              have hltR : w.heap.size < w7.heap.size := Nat.lt_of_lt_of_le (Nat.lt_of_lt_of_le hlt0 HKZ.out.size) hkR.size
              have HKR := Lib.hid hkR
              have HJR1 := Lib.hid (fun (W : World) (hb : Below w7.heap.size w7 W) => joinP (c := 0) (c' := c7) (l := []) hb (NmR.nil_ W) (hr7.later hb) (by
                have h := HPL.out
                have h2 := hasS_join_len (ddS (exsOcc (bs.map Bd.exp) [])) (withoutS (ddS (exsOcc ks [])) (bs.map Bd.name))
                rw [← pre_let nm n hn1 ks bs] at h; omega))
              have HFR := Lib.hid (fun (W : World) (hb : Below w7.heap.size w7 W) => rfrees_any ks A L c B kl W w7 (Nat.le_trans hBW (Nat.le_trans HKZ.out.size (Nat.le_trans HKR.out.size hb.size))) HK.out HMK.out ((HRK.out.later (HKZ.out.mono hBW)).later ((HKR.out.trans (hb.mono HKR.out.size)).mono (Nat.le_trans hBW HKZ.out.size))) ((HKE.out.later (HKZ.out.mono hBW)).later ((HKR.out.trans (hb.mono HKR.out.size)).mono (Nat.le_trans hBW HKZ.out.size))) hb HIK.out)
              have HWR := Lib.hid (fun (W : World) (A' : Option Addr) (q' c' : Nat) (hb : Below w7.heap.size w7 W) (h1 : NmR W A' q' (ddS (exsOcc ks []))) => withoutP (c := c') (c' := c5) hb h1 ((HR5.out.later (HC5.out.trans (HKR.out.mono HC5.out.size))).later hb))
              have HJR2 := Lib.hid (fun (W : World) (A' : Option Addr) (q' c' : Nat) (A'' : Option Addr) (q'' c'' : Nat) (hb : Below w7.heap.size w7 W) (h1 : NmR W A' q' (joinS [] (ddS (exsOcc (bs.map Bd.exp) [])))) (h2 : NmR W A'' q'' (withoutS (ddS (exsOcc ks [])) (bs.map Bd.name))) =>
                show Calls Try.prog 30 #[.slice A' q' c', .slice A'' q'' c''] W (NmPost (ddS (preS 7 nm n ks bs)) W w7) from by
                  have hl2 := HPL.out
                  rw [← pre_let nm n hn1 ks bs] at hl2
                  have h := joinP (c := c') (c' := c'') hb h1 h2 hl2
                  rw [pre_let nm n hn1 ks bs] at h; exact h)
              have hB0 : Below w7.heap.size w7 w7.drew := (Below.refl _ _).drew
              go_region_held3 (fun w' => w'.cell? ⟨w.heap.size, 7, none⟩ = some (.slice A kl c) ∧ Below w7.heap.size w7 w')
                (((try dsimp only); (repeat' apply And.intro) <;> (first | assumption | exact cell_kept (by assumption) hltR (by assumption))))
                (first | (go_at_call 30; (with_reducible refine (HJR1.out _ (by assumption)).mono ?_); rintro e wa ⟨Aa', qa, ca', rfl, hqa, hra, hba, hka⟩) | (go_at_call 55; (with_reducible refine (HFR.out _ (by assumption)).mono ?_); rintro e wb ⟨Ab', qb, cb', rfl, hqb, hrb, hbb, hkb⟩) | (go_at_call 56; (with_reducible refine (HWR.out _ _ _ _ (by assumption) hrb).mono ?_); rintro e wd ⟨Ad', qd, cd', rfl, hqd, hrd, hbd, hkd⟩) | (go_at_call 30; (with_reducible refine (HJR2.out _ _ _ _ _ _ _ (by assumption) ((hra.later hbb).later hbd) hrd).mono ?_); rintro e we ⟨Ae', qe, ce', rfl, hqe, hre, hbe', hke⟩))
              clear hB0
              go_wp2_with fail
              go_meet
              exact ⟨Ae', qe, ce', rfl, hqe, hre, HKZ.out.trans ((HKR.out.trans (hke.mono HKR.out.size)).mono HKZ.out.size)⟩
          · have d7 : (k == 7) = false := by simpa using h7
            by_cases h6 : k = 6
            · subst h6
              have hltR : w.heap.size < W6.heap.size := Nat.lt_of_lt_of_le hlt0 HKZ.out.size
              have HJR1 := Lib.hid (fun (W : World) (A' : Option Addr) (q' c' : Nat) (hb : Below W6.heap.size W6 W) (h2 : NmR W A' q' (withoutS (ddS (exsOcc ks [])) [nm])) => joinP (c := 0) (c' := c') (l := []) hb (NmR.nil_ W) h2 (by
                have h := HPL.out
                have h2 := hasS_join_len (withoutS (ddS (exsOcc ks [])) [nm]) (ddS (exsOcc (bs.map Bd.exp) []))
                rw [← pre_lam nm n ks bs] at h; omega))
              have HWR := Lib.hid (fun (W : World) (A' : Option Addr) (q' c' : Nat) (A'' : Option Addr) (q'' c'' : Nat) (hb : Below W6.heap.size W6 W) (h1 : NmR W A' q' (ddS (exsOcc ks []))) (h2 : NmR W A'' q'' [nm]) => withoutP (c := c') (c' := c'') hb h1 h2)
              have HJR2 := Lib.hid (fun (W : World) (A' : Option Addr) (q' c' : Nat) (A'' : Option Addr) (q'' c'' : Nat) (hb : Below W6.heap.size W6 W) (h1 : NmR W A' q' (joinS [] (withoutS (ddS (exsOcc ks [])) [nm]))) (h2 : NmR W A'' q'' (ddS (exsOcc (bs.map Bd.exp) []))) =>
                show Calls Try.prog 30 #[.slice A' q' c', .slice A'' q'' c''] W (NmPost (ddS (preS 6 nm n ks bs)) W W6) from by
                  have hl2 := HPL.out
                  rw [← pre_lam nm n ks bs] at hl2
                  have h := joinP (c := c') (c' := c'') hb h1 h2 hl2
                  rw [pre_lam nm n ks bs] at h; exact h)
              have hBA : Below W6.heap.size W6 (W6.alloc (.cells #[.string nm] 9)).drew := (below_new _ _).drew
              have HFC := Lib.hid (fun (W : World) (hb : Below W6.heap.size W6 W) => HFB.out W (HC6.out.trans (hb.mono HC6.out.size)) hb)
              go_wp2_with fail
              have hB0 : Below W6.heap.size W6 W6.drew := (Below.refl _ _).drew
              go_region_held3 (fun w' => w'.cell? ⟨w.heap.size, 7, none⟩ = some (.slice A kl c) ∧ w'.cell? ⟨w.heap.size, 1, none⟩ = some (.string nm) ∧ Below W6.heap.size W6 w')
                (((try dsimp only); (repeat' apply And.intro) <;> (first | assumption | exact cell_kept (by assumption) hltR (by assumption) | exact keep_new (by assumption) hltR (by assumption) | exact below_keep_new (by assumption))))
                (first | (go_at_call 55; (with_reducible refine (HFK.out _ (by first | assumption | exact below_keep_new (by assumption))).mono ?_); rintro e wb ⟨Ab', qb, cb', rfl, hqb, hrb, hbb, hkb⟩) | (go_at_call 56; (with_reducible refine (HWR.out _ _ _ _ _ _ _ (below_keep_new hkb) (hrb.later (below_new _ _)) (nm_new _ _)).mono ?_); rintro e wd ⟨Ad', qd, cd', rfl, hqd, hrd, hbd, hkd⟩) | (go_at_call 56; (with_reducible refine (HWR.out _ _ _ _ _ _ _ (by assumption) hrb ((nm_new_drew _ _).later hbb)).mono ?_); rintro e wd ⟨Ad', qd, cd', rfl, hqd, hrd, hbd, hkd⟩) | (go_at_call 30; (with_reducible refine (HJR1.out _ _ _ _ (by assumption) hrd).mono ?_); rintro e we ⟨Ae', qe, ce', rfl, hqe, hre, hbe', hke⟩) | (go_at_call 55; (with_reducible refine (HFC.out _ (by assumption)).mono ?_); rintro e wf ⟨Af', qf, cf', rfl, hqf, hrf, hbf, hkf⟩) | (go_at_call 30; (with_reducible refine (HJR2.out _ _ _ _ _ _ _ (by assumption) (hre.later hbf) hrf).mono ?_); rintro e wg ⟨Ag', qg, cg', rfl, hqg, hrg, hbg, hkg⟩))
              all_goals
                clear hB0
                go_wp2_with fail
                go_meet
                exact ⟨Ag', qg, cg', rfl, hqg, hrg, HKZ.out.trans (hkg.mono HKZ.out.size)⟩
            · have d6 : (k == 6) = false := by simpa using h6
              have HPE := Lib.hid (show joinS (joinS [] (ddS (exsOcc ks []))) (ddS (exsOcc (bs.map Bd.exp) [])) = ddS (preS k nm n ks bs) from by rw [← pre_else k nm n h6 h7 ks bs, if_neg h3])
              have HRF := Lib.hid (Below.refl W6.heap.size W6)
              have hrf := HRF.out
              have HJ1 := Lib.hid (fun (W : World) (A' : Option Addr) (q' c' : Nat) (hb : Below W6.heap.size W6 W) (h2 : NmR W A' q' (ddS (exsOcc ks []))) => joinP (c := 0) (c' := c') hb (HO.out.later hb) h2 (by have h4 := hasS_join_len2 [] (ddS (exsOcc ks [])) (ddS (exsOcc (bs.map Bd.exp) [])); have h5 := HPL.out; rw [← HPE.out] at h5; omega))
              have HJ2 := Lib.hid (fun (W : World) (A' : Option Addr) (q' c' : Nat) (A'' : Option Addr) (q'' c'' : Nat) (hb : Below W6.heap.size W6 W) (h1 : NmR W A' q' (joinS [] (ddS (exsOcc ks [])))) (h2 : NmR W A'' q'' (ddS (exsOcc (bs.map Bd.exp) []))) =>
                show Calls Try.prog 30 #[.slice A' q' c', .slice A'' q'' c''] W (NmPost (ddS (preS k nm n ks bs)) W W6) from by
                  have hl2 := HPL.out
                  rw [← HPE.out] at hl2
                  have h := joinP (c := c') (c' := c'') hb h1 h2 hl2
                  rw [HPE.out] at h; exact h)
              go_wp2_with (first | (go_at_call 55; (with_reducible refine (HFK.out _ hrf).mono ?_); rintro e w7 ⟨A7, q7, c7, rfl, hq7, hr7, hb7, hk7⟩) | (go_at_call 30; (with_reducible refine (HJ1.out _ _ _ _ hk7 hr7).mono ?_); rintro e w8 ⟨A8, q8, c8, rfl, hq8, hr8, hb8, hk8⟩) | (go_at_call 55; (with_reducible refine (HFB.out _ (HC6.out.trans (hk8.mono HC6.out.size)) hk8).mono ?_); rintro e w9 ⟨A9, q9, c9, rfl, hq9, hr9, hb9, hk9⟩) | (go_at_call 30; (with_reducible refine (HJ2.out _ _ _ _ _ _ _ hk9 (hr8.later hb9) hr9).mono ?_); rintro e w10 ⟨A10, q10, c10, rfl, hq10, hr10, hb10, hk10⟩))
              go_meet
              exact ⟨A10, q10, c10, rfl, hq10, hr10, HKZ.out.trans (hk10.mono HKZ.out.size)⟩
        case rest =>
          obtain ⟨A6, q6, c6, rfl, hq6, hr6, hb6⟩ := hcut
          have HS := Lib.hid (show NmR wc A6 q6 (ddS (preS k nm n ks bs ++ alsOcc (als.take 0) [])) by rw [List.take_zero]; simpa [alsOcc] using hr6)
          have HB6 := Lib.hid hb6
          clear hr6 hb6
          go_wp2_with fail
          go_loopw [6, 8] (fun v i wr => ∃ (j : Nat) (A' : Option Addr) (q' c' : Nat), i = .int .i64 j ∧ j ≤ al ∧ v = .slice A' q' c' ∧ q' ≤ 4000000 ∧ NmR wr A' q' (ddS (preS k nm n ks bs ++ alsOcc (als.take j) [])) ∧ Below W1.heap.size W1 wr) (fun _ i _ => al - (intOf i).toNat)
          case atStart => exact ⟨0, A6, q6, c6, rfl, Nat.zero_le _, rfl, hq6, HS.out, HB6.out⟩
          case round =>
            obtain ⟨j, A', q', c', rfl, hj, rfl, hq', hnm, hbe⟩ := hrel
            have hcf := HBF.out wr hbe 8
            simp only [List.getElem?_toArray, List.getElem?_cons_succ, List.getElem?_cons_zero] at hcf
            have HNM := Lib.hid hnm
            have HBE2 := Lib.hid hbe
            clear hnm hbe
            by_cases hlt : j < al
            · have hjk : j < als.length := by rw [HA.out]; exact hlt
              have hbw := HBE2.out.mono hBW
              have hX := HRA.out.later hbw
              have hlx : j < La.length := by rw [hX.len]; exact hjk
              have hal0 := HEA.out j hlx hjk
              obtain ⟨g, o, p0, p1, p2, p3, p4, d0, d1, d2, d3', d4, d5, d6', d7', d8, d9, d10, pp, ee, rfl, hg, hal, hp, he, u0, u1, u2, u3', u4', k0, k1, k2, k3, k4, k5, k6, k7, k8, k9, k10⟩ := al_cells hX hjk hlx (AlAt.later hal0 hbw)
              obtain ⟨hfe, hpn, hem⟩ := HIA.out pp ee (by rw [← hal]; exact List.getElem_mem hjk)
              have hBr : B ≤ wr.heap.size := Nat.le_trans hBW HBE2.out.size
              have hgl : g < wr.heap.size := by omega
              have hltR : w.heap.size < wr.heap.size := Nat.lt_of_lt_of_le hlt0 HBE2.out.size
              have hst := als_take_occ hjk hal (preS k nm n ks bs)
              have hl1 : (ddS (preS k nm n ks bs ++ alsOcc (als.take (j + 1)) [])).length ≤ 4000000 := Nat.le_trans (dd_len _) (by have h1 := HLEN.out; have h2 := alsOcc_take_le als (j + 1); rw [List.length_append] at h1 ⊢; omega)
              have HFE := Lib.hid (fun (W : World) (hb : Below wr.heap.size wr W) => (hfe B W [d0, d1, d2, d3', d4, d5, d6', d7', d8, d9, d10] (Nat.le_trans hBr hb.size) (he.later (hb.mono hBr))).mono fun _ _ h => post_of hb (Nat.le_trans (dd_len _) (Nat.le_trans (occ_len _ _) hem)) h)
              have HNA := Lib.hid (fun (W : World) (hb : Below wr.heap.size wr W) => (rnames_any pp.nodes pp (Nat.le_refl _) hpn B W [p0, p1, p2, p3, p4] (Nat.le_trans hBr hb.size) (hp.later (hb.mono hBr))).mono fun _ _ h => post_of hb (Nat.le_trans (ptNames_le _ _ (Nat.le_refl _)) hpn) h)
              have HWO := Lib.hid (fun (W : World) (A1 : Option Addr) (q1 c1 : Nat) (A2 : Option Addr) (q2 c2 : Nat) (hb : Below wr.heap.size wr W) (h1 : NmR W A1 q1 (ddS (ee.occ []))) (h2 : NmR W A2 q2 (ptNames pp)) => withoutP (c := c1) (c' := c2) hb h1 h2)
              have HJO := Lib.hid (fun (W : World) (A2 : Option Addr) (q2 c2 : Nat) (hb : Below wr.heap.size wr W) (h2 : NmR W A2 q2 (withoutS (ddS (ee.occ [])) (ptNames pp))) =>
                show Calls Try.prog 30 #[.slice A' q' c', .slice A2 q2 c2] W (NmPost (ddS (preS k nm n ks bs ++ alsOcc (als.take (j + 1)) [])) W wr) from by
                  have h := joinP (c := c') (c' := c2) hb (HNM.out.later hb) h2 (by rw [hst]; exact hl1)
                  rw [hst] at h; exact h)
              clear hbw hX hal0 hal hp he hfe hst hl1
              have hB0 : Below wr.heap.size wr wr.drew := (Below.refl _ _).drew
              go_wp2_with fail
              go_region_held3 (fun w' => w'.cell? ⟨w.heap.size, 8, none⟩ = some (.slice (some ⟨g, o, none⟩) al ca) ∧ w'.cell? ⟨g, o + j * 16, none⟩ = some p0 ∧ w'.cell? ⟨g, o + j * 16 + 1, none⟩ = some p1 ∧ w'.cell? ⟨g, o + j * 16 + 2, none⟩ = some p2 ∧ w'.cell? ⟨g, o + j * 16 + 3, none⟩ = some p3 ∧ w'.cell? ⟨g, o + j * 16 + 4, none⟩ = some p4 ∧ w'.cell? ⟨g, o + j * 16 + 5, none⟩ = some d0 ∧ w'.cell? ⟨g, o + j * 16 + 5 + 1, none⟩ = some d1 ∧ w'.cell? ⟨g, o + j * 16 + 5 + 2, none⟩ = some d2 ∧ w'.cell? ⟨g, o + j * 16 + 5 + 3, none⟩ = some d3' ∧ w'.cell? ⟨g, o + j * 16 + 5 + 4, none⟩ = some d4 ∧ w'.cell? ⟨g, o + j * 16 + 5 + 5, none⟩ = some d5 ∧ w'.cell? ⟨g, o + j * 16 + 5 + 6, none⟩ = some d6' ∧ w'.cell? ⟨g, o + j * 16 + 5 + 7, none⟩ = some d7' ∧ w'.cell? ⟨g, o + j * 16 + 5 + 8, none⟩ = some d8 ∧ w'.cell? ⟨g, o + j * 16 + 5 + 9, none⟩ = some d9 ∧ w'.cell? ⟨g, o + j * 16 + 5 + 10, none⟩ = some d10 ∧ Below wr.heap.size wr w')
                (((try dsimp only); (repeat' apply And.intro) <;> (first | assumption | exact cell_kept (by assumption) hltR (by assumption) | exact cell_kept (by assumption) hgl (by assumption))))
                (first | (go_at_call 27; (with_reducible refine (HFE.out _ (by assumption)).mono ?_); rintro e wa ⟨Aa', qa, ca', rfl, hqa, hra, hba, hka⟩) | (go_at_call 25; (with_reducible refine (HNA.out _ (by assumption)).mono ?_); rintro e wb ⟨Ab', qb, cb', rfl, hqb, hrb, hbb, hkb⟩) | (go_at_call 56; (with_reducible refine (HWO.out _ _ _ _ _ _ _ (by assumption) (hra.later hbb) hrb).mono ?_); rintro e wd ⟨Ad', qd, cd', rfl, hqd, hrd, hbd, hkd⟩) | (go_at_call 30; (with_reducible refine (HJO.out _ _ _ _ (by assumption) hrd).mono ?_); rintro e we ⟨Ae', qe, ce', rfl, hqe, hre, hbe', hke⟩))
              have HRE := Lib.hid hre
              have HKE' := Lib.hid hke
              clear hB0 hra hrb hrd hre hke
              go_wp2_with fail
              go_roundw
              case rel => exact ⟨j + 1, Ae', qe, ce', by go_num, by omega, rfl, hqe, HRE.out, HBE2.out.trans (HKE'.out.mono HBE2.out.size)⟩
              case measure => simp [intOf]; omega
            · have HE := Lib.hid (show NmR wr A' q' (ddS (preS k nm n ks bs ++ alsOcc als [])) by have := HNM.out; rw [List.take_of_length_le (by rw [HA.out]; omega)] at this; exact this)
              go_wp2_with fail
              go_ret
              have hfin := HE.out
              obtain ⟨rfl, hf2, hf3⟩ := hfin
              exact ⟨A', c', rfl, hf3, HBW.out.trans (HBE2.out.mono (by omega))⟩

end Go.Proofs.Ytglamoiimmahgaa
