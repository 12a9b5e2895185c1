/- Walks: the document's parts of an expression. -/
import Derived.Test.YtglamoiimmahgaaParts
import Derived.Deep.DeepCutAuto
import Derived.Deep.CutBlock
namespace Go.Proofs.Ytglamoiimmahgaa
open Go.RowKit
set_option linter.unusedVariables false

/-- What Parts answers: a new row of the parts. -/
def PartsSays (w : World) (B : Nat) (es : List Ex) (e : Ending) (w' : World) : Prop :=
  ∃ v L, e = .returned v ∧ ExsAt w' B es L ∧ w'.ownsRow w.heap.size 29 11 v es.length L.flatten ∧ Below w.heap.size w w'
theorem ownsRow_base {w : World} {base base' : Nat} {e : TypeId} {size n : Nat} {v : Value} {xs : List Value} (h : w.ownsRow base e size v n xs) (hb : base' ≤ base) : w.ownsRow base' e size v n xs := by
  refine ⟨h.1, ?_⟩
  rcases h.2 with h0 | ⟨g, cap, cur, hv, hg, hr⟩
  · exact .inl h0
  · exact .inr ⟨g, cap, cur, hv, Nat.le_trans hb hg, hr⟩
theorem parts_len (e : Ex) : e.parts.length ≤ e.nodes := by
  have h1 : ∀ l : List Ex, l.length ≤ exsNodes l := by
    intro l; induction l with
    | nil => simp
    | cons a l ih => cases a; simp only [List.length_cons, exsNodes, Ex.nodes]; omega
  have h2 : ∀ l : List Bd, l.length ≤ bdsNodes l := by
    intro l; induction l with
    | nil => simp
    | cons a l ih => cases a; simp only [List.length_cons, bdsNodes, Bd.nodes]; omega
  have h3 : ∀ l : List Al, l.length ≤ alsNodes l := by
    intro l; induction l with
    | nil => simp
    | cons a l ih => cases a; simp only [List.length_cons, alsNodes, Al.nodes]; omega
  cases e with
  | mk k nm n t ks als bs q =>
    have := h1 ks; have := h2 bs; have := h3 als
    unfold Ex.parts Ex.nodes
    by_cases hk : k = 7 <;> simp [hk] <;> omega

set_option maxRecDepth 100000 in
set_option maxHeartbeats 6400000 in
theorem rparts_any (e : Ex) (B : Nat) (w : World) (cs : List Value) (hN : e.nodes ≤ 1000000) (hB : B ≤ w.heap.size) (hx : ExAt w B cs e) :
    Calls Try.prog 33 #[.agg cs.toArray] w (PartsSays w B e.parts) := by
  have hpl := parts_len e
  cases hx with
  | @mk k n q nm t T A Aa Ab c ca cb ks als bs L La Lb hk hs hn hq ht hc hm hca hma hcb hmb hb hba hbb hr hks hra hals hrb hbs =>
  cases ht with
  | @mk tk tn tnm tA tc tks tL htk hts htn htc htm htb htr htks =>
  obtain ⟨es, hes⟩ : ∃ es, Ex.parts (.mk k nm n (.mk tk tnm tn tks) ks als bs q) = es := ⟨_, rfl⟩
  rw [hes] at hpl ⊢
  have HES := Lib.hid hes
  obtain ⟨tl, htl⟩ : ∃ tl, tks.length = tl := ⟨_, rfl⟩
  obtain ⟨kl, hkl⟩ : ∃ kl, ks.length = kl := ⟨_, rfl⟩
  obtain ⟨al, hal⟩ : ∃ al, als.length = al := ⟨_, rfl⟩
  obtain ⟨bl, hbl⟩ : ∃ bl, bs.length = bl := ⟨_, rfl⟩
  have hsum : kl + al + bl ≤ 1000000 := by
    have h : es.length = kl + al + bl := by rw [← hes]; unfold Ex.parts; by_cases h7 : k = 7 <;> simp [h7, hkl, hal, hbl] <;> omega
    omega
  have HK := Lib.hid hkl
  have HA := Lib.hid hal
  have HBL := Lib.hid hbl
  simp only [List.cons_append, List.nil_append]
  rw [htl, hkl, hal, hbl]
  rw [hkl] at hr
  have hbox0 := Blk.new w 29 #[.int .i64 k, .string nm, .int .i64 n, .int .i64 tk, .string tnm, .int .i64 tn, .slice tA tl tc, .slice A kl c, .slice Aa al ca, .slice Ab bl cb, .int .i64 q]
  obtain ⟨W1, hW1⟩ : ∃ W1, w.alloc (.cells #[.int .i64 k, .string nm, .int .i64 n, .int .i64 tk, .string tnm, .int .i64 tn, .slice tA tl tc, .slice A kl c, .slice Aa al ca, .slice Ab bl cb, .int .i64 q] 29) = W1 := ⟨_, rfl⟩
  rw [hW1] at hbox0
  have hbW : Below w.heap.size w W1 := by rw [← hW1]; exact (Below.refl _ _).alloc (Nat.le_refl _) _
  have hzW : W1.heap.size = w.heap.size + 1 := by rw [← hW1]; simp
  have hBW : B ≤ W1.heap.size := by omega
  have HW1 := Lib.hid hW1
  have HBOX := Lib.hid hbox0
  have HBW := Lib.hid hbW
  have HZW := Lib.hid hzW
  have HRK := Lib.hid (hr.keep fun _ hp => (hbW.mono hB).cell hp)
  have HKE := Lib.hid (show ExsAt W1 B ks L from ⟨by rw [hr.len, hkl], hr.each, fun i h1 h2 => (hks i h1 h2).later (hbW.mono hB)⟩)
  have HRA := Lib.hid hra
  have HEA := Lib.hid hals
  have HRB := Lib.hid hrb
  have HEB := Lib.hid hbs
  have hc7 := hbox0.cell 7
  have hc9 := hbox0.cell 9
  have hc0 := hbox0.cell 0
  have hc8 := hbox0.cell 8
  simp only [List.getElem?_toArray, List.getElem?_cons_succ, List.getElem?_cons_zero] at hc0 hc7 hc8 hc9
  obtain ⟨i0, hi, hz0, hz1, hz2⟩ := info_parts ex_info
  have HI := Lib.hid hi
  have HZ0 := Lib.hid hz0
  have HZ1 := Lib.hid hz1
  have HZ2 := Lib.hid hz2
  clear hes hpl htl hkl hal hbl hW1 hbox0 hbW hzW hr hks hra hals hrb hbs htr htks hb hba hbb htb hi hz0 hz1 hz2
  by_cases h7 : k = 7
  · subst h7
    go_enter Try.func33, Try.ntmps33
    go_upto_block 0 with fail
    rw [HW1.out]
    have HG := Lib.hid (show Got W1 B W1.heap.size ([] : List Ex) (.slice none 0 0) W1 from ⟨[], ExsAt.nil_ _ _, World.ownsRow_nil _ _ _ _, Below.refl _ _⟩)
    go_cut [3] (fun v wx => Got W1 B W1.heap.size (([] : List Ex) ++ bs.map Bd.exp) v wx)
    case first =>
      go_wp2_with fail
      go_loopw [3, 4] (fun v i wr => ∃ j : Nat, i = .int .i64 j ∧ j ≤ bl ∧ Got W1 B W1.heap.size (([] : List Ex) ++ (bs.take j).map Bd.exp) v wr) (fun _ i _ => bl - (intOf i).toNat)
      case atStart => exact ⟨0, rfl, Nat.zero_le _, by simpa using HG.out⟩
      case round =>
        obtain ⟨j, rfl, hj, Lr, hLr, hown, hbe⟩ := hrel
        have hcf := (hbe.cell (p := ⟨w.heap.size, 9, none⟩) (by have := HZW.out; show w.heap.size < _; omega)).trans (HBOX.out.cell 9)
        simp only [List.getElem?_toArray, List.getElem?_cons_succ, List.getElem?_cons_zero] at hcf
        have hzr := hbe.size
        have hne : (([] : List Ex) ++ (bs.take j).map Bd.exp).length ≤ 1000000 := by have := HBL.out; have := HA.out; have := HK.out; simp; omega
        have HLR := Lib.hid hLr
        have HOW := Lib.hid hown
        have HBE := Lib.hid hbe
        clear hLr hown hbe
        by_cases hlt : j < bl
        · have hbW := (HBW.out.mono hB).trans (HBE.out.mono hBW)
          have hjk : j < bs.length := by rw [HBL.out]; exact hlt
          have hrow := HRB.out.later hbW
          have hl : j < Lb.length := by rw [hrow.len]; exact hjk
          have hea := HEB.out j hl hjk
          obtain ⟨g, o, c0, c1, c2, c3, c4, c5, c6, c7, c8, c9, c10, nm', e', q', rfl, hg, hel, _, _, _, he, k0, k1, k2, k3, k4, k5, k6, k7, k8, k9, k10⟩ := bd_cells hrow hjk hl (BdAt.later hea hbW)
          have hee : bs[j].exp = e' := by rw [hel]; rfl
          have HEX := Lib.hid he
          have HEE := Lib.hid hee
          clear hbW hrow hea hel he hee
          go_wp2_with (at_builtin; refine wpList_append_own _ rfl (.tmp 20) (.tmp 27) 25 rfl W1.heap.size 29 i0 (.agg #[.int .i64 0, .string ⟨#[]⟩, .int .i64 0, .int .i64 0, .string ⟨#[]⟩, .int .i64 0, .slice none 0 0, .slice none 0 0, .slice none 0 0, .slice none 0 0, .int .i64 0]) 11 168 Try.underlying25 HI.out HZ0.out HZ1.out HZ2.out rfl (by decide) _ _ _ rfl (HOW.out.alloc _) ⟨wr.heap.size, 0, none⟩ 1 1 [c0, c1, c2, c3, c4, c5, c6, c7, c8, c9, c10] rfl rfl (eleven_new _ _) (ex_oneCell HEX.out) (by unfold maxLen; omega) (by omega) (by simp; omega) ?_)
          intro v' w2 hown' hgrow _
          have HGN := Lib.hid (show Got W1 B W1.heap.size (([] : List Ex) ++ (bs.take (j + 1)).map Bd.exp) v' w2 by
            have := got_app (ob := []) (fs := [e']) (K := [[c0, c1, c2, c3, c4, c5, c6, c7, c8, c9, c10]]) HLR.out HOW.out HBE.out hBW hzr (ExsAt.one HEX.out) rfl (by simpa using hown') (grown_new hgrow)
            rw [List.take_succ_eq_append_getElem hjk, List.map_append, ← List.append_assoc, List.map_singleton, HEE.out]
            exact this)
          clear hown' hgrow
          go_wp2_with fail
          go_roundw
          case rel => exact ⟨j + 1, by go_num, by omega, HGN.out⟩
          case measure => simp [intOf]; omega
        · obtain rfl : j = bl := by omega
          have HGN := Lib.hid (show Got W1 B W1.heap.size (([] : List Ex) ++ bs.map Bd.exp) _ wr from ⟨Lr, by have := HLR.out; rw [← HBL.out, List.take_length] at this; exact this, by have := HOW.out; rw [← HBL.out, List.take_length] at this; exact this, HBE.out⟩)
          go_wp2_with fail
          go_meet
          exact HGN.out
    case rest =>
      have HG1 := hcut
      obtain ⟨Lr, hLr, hown, hbe⟩ := HG1
      have hcf := (hbe.cell (p := ⟨w.heap.size, 0, none⟩) (by have := HZW.out; show w.heap.size < _; omega)).trans (HBOX.out.cell 0)
      have hcg := (hbe.cell (p := ⟨w.heap.size, 7, none⟩) (by have := HZW.out; show w.heap.size < _; omega)).trans (HBOX.out.cell 7)
      simp only [List.getElem?_toArray, List.getElem?_cons_succ, List.getElem?_cons_zero] at hcf hcg
      have hzr := hbe.size
      have hne : (([] : List Ex) ++ bs.map Bd.exp).length ≤ 1000000 := by have := HBL.out; simp; omega
      have HLR := Lib.hid hLr
      have HOW := Lib.hid hown
      have HBE := Lib.hid hbe
      clear hLr hown hbe hcut
      go_upto_block 2 with (at_builtin; refine wpList_append_any _ rfl (.tmp 32) (.tmp 34) 25 rfl W1.heap.size 29 i0 (.agg #[.int .i64 0, .string ⟨#[]⟩, .int .i64 0, .int .i64 0, .string ⟨#[]⟩, .int .i64 0, .slice none 0 0, .slice none 0 0, .slice none 0 0, .slice none 0 0, .int .i64 0]) 11 168 Try.underlying25 HI.out HZ0.out HZ1.out HZ2.out rfl (by decide) _ _ _ rfl HOW.out B A kl c L.flatten rfl ((HRK.out.later (HBE.out.mono hBW)).reads) (exs_oneCell HKE.out) (by unfold maxLen; omega) (by omega) hzr ?_)
      intro v0 w0 hown0 hgrow0 _
      have HG := Lib.hid (show Got W1 B W1.heap.size ((([] : List Ex) ++ bs.map Bd.exp) ++ ks) v0 w0 from
        got_app (ob := []) (K := L) (fs := ks) HLR.out HOW.out HBE.out hBW hzr (HKE.out.later (HBE.out.mono hBW)) HK.out.symm (by simpa using hown0) hgrow0)
      clear hown0 hgrow0 hcf hcg
      go_upto_block 2 with fail
      go_cut [3] (fun v wx => Got W1 B W1.heap.size (((([] : List Ex) ++ bs.map Bd.exp) ++ ks) ++ als.map Al.exp) v wx)
      case first =>
        go_wp2_with fail
        go_loopw [3, 5] (fun v i wr => ∃ j : Nat, i = .int .i64 j ∧ j ≤ al ∧ Got W1 B W1.heap.size (((([] : List Ex) ++ bs.map Bd.exp) ++ ks) ++ (als.take j).map Al.exp) v wr) (fun _ i _ => al - (intOf i).toNat)
        case atStart => exact ⟨0, rfl, Nat.zero_le _, by simpa using HG.out⟩
        case round =>
          obtain ⟨j, rfl, hj, Lr, hLr, hown, hbe⟩ := hrel
          have hcf := (hbe.cell (p := ⟨w.heap.size, 8, none⟩) (by have := HZW.out; show w.heap.size < _; omega)).trans (HBOX.out.cell 8)
          simp only [List.getElem?_toArray, List.getElem?_cons_succ, List.getElem?_cons_zero] at hcf
          have hzr := hbe.size
          have hne : (((([] : List Ex) ++ bs.map Bd.exp) ++ ks) ++ (als.take j).map Al.exp).length ≤ 1000000 := by have := HBL.out; have := HA.out; have := HK.out; simp; omega
          have HLR := Lib.hid hLr
          have HOW := Lib.hid hown
          have HBE := Lib.hid hbe
          clear hLr hown hbe
          by_cases hlt : j < al
          · have hbW := (HBW.out.mono hB).trans (HBE.out.mono hBW)
            have hjk : j < als.length := by rw [HA.out]; exact hlt
            have hrow := HRA.out.later hbW
            have hl : j < La.length := by rw [hrow.len]; exact hjk
            have hea := HEA.out j hl hjk
            obtain ⟨g, o, p0, p1, p2, p3, p4, c0, c1, c2, c3, c4, c5, c6, c7, c8, c9, c10, p', e', rfl, hg, hel, hp, he, u0, u1, u2, u3, u4, k0, k1, k2, k3, k4, k5, k6, k7, k8, k9, k10⟩ := al_cells hrow hjk hl (AlAt.later hea hbW)
            have hee : als[j].exp = e' := by rw [hel]; rfl
            have HEX := Lib.hid he
            have HEE := Lib.hid hee
            clear hbW hrow hea hel he hee
            go_wp2_with (at_builtin; refine wpList_append_own _ rfl (.tmp 43) (.tmp 50) 25 rfl W1.heap.size 29 i0 (.agg #[.int .i64 0, .string ⟨#[]⟩, .int .i64 0, .int .i64 0, .string ⟨#[]⟩, .int .i64 0, .slice none 0 0, .slice none 0 0, .slice none 0 0, .slice none 0 0, .int .i64 0]) 11 168 Try.underlying25 HI.out HZ0.out HZ1.out HZ2.out rfl (by decide) _ _ _ rfl (HOW.out.alloc _) ⟨wr.heap.size, 0, none⟩ 1 1 [c0, c1, c2, c3, c4, c5, c6, c7, c8, c9, c10] rfl rfl (eleven_new _ _) (ex_oneCell HEX.out) (by unfold maxLen; omega) (by omega) (by simp; omega) ?_)
            intro v' w2 hown' hgrow _
            have HGN := Lib.hid (show Got W1 B W1.heap.size (((([] : List Ex) ++ bs.map Bd.exp) ++ ks) ++ (als.take (j + 1)).map Al.exp) v' w2 by
              have := got_app (ob := []) (fs := [e']) (K := [[c0, c1, c2, c3, c4, c5, c6, c7, c8, c9, c10]]) HLR.out HOW.out HBE.out hBW hzr (ExsAt.one HEX.out) rfl (by simpa using hown') (grown_new hgrow)
              rw [List.take_succ_eq_append_getElem hjk, List.map_append, ← List.append_assoc, List.map_singleton, HEE.out]
              exact this)
            clear hown' hgrow
            go_wp2_with fail
            go_roundw
            case rel => exact ⟨j + 1, by go_num, by omega, HGN.out⟩
            case measure => simp [intOf]; omega
          · obtain rfl : j = al := by omega
            have HGN := Lib.hid (show Got W1 B W1.heap.size (((([] : List Ex) ++ bs.map Bd.exp) ++ ks) ++ als.map Al.exp) _ wr from ⟨Lr, by have := HLR.out; rw [← HA.out, List.take_length] at this; exact this, by have := HOW.out; rw [← HA.out, List.take_length] at this; exact this, HBE.out⟩)
            go_wp2_with fail
            go_meet
            exact HGN.out
      case rest =>
        obtain ⟨Lr2, hLr2, hown2, hbe2⟩ := hcut
        have HF := Lib.hid (show PartsSays w B es (.returned _) _ from ⟨_, Lr2, rfl, by rw [← HES.out]; simpa [Ex.parts] using hLr2, by rw [← HES.out]; simpa [Ex.parts] using (show _ from ownsRow_base hown2 (by have := HZW.out; omega)), HBW.out.trans (hbe2.mono (by have := HZW.out; omega))⟩)
        go_wp2_with fail
        go_ret
        exact HF.out
  · have d7 : (k != 7) = true := by simpa using h7
    have d7' : (k == 7) = false := by simpa using h7
    have H7 := Lib.hid h7
    clear h7
    go_enter Try.func33, Try.ntmps33
    go_upto_block 0 with (at_builtin; refine wpList_append_any _ rfl (.tmp 9) (.tmp 11) 25 rfl W1.heap.size 29 i0 (.agg #[.int .i64 0, .string ⟨#[]⟩, .int .i64 0, .int .i64 0, .string ⟨#[]⟩, .int .i64 0, .slice none 0 0, .slice none 0 0, .slice none 0 0, .slice none 0 0, .int .i64 0]) 11 168 Try.underlying25 HI.out HZ0.out HZ1.out HZ2.out rfl (by decide) _ _ _ rfl (World.ownsRow_nil _ _ _ _) B A kl c L.flatten rfl (by rw [HW1.out]; exact HRK.out.reads) (exs_oneCell HKE.out) (by unfold maxLen; omega) (by omega) (by rw [HW1.out]; exact Nat.le_refl _) ?_)
    intro v0 w0 hown0 hgrow0 _
    have HG := Lib.hid (show Got W1 B W1.heap.size ks v0 w0 by
      have := got_app (ob := []) (es := []) (L := []) (v := .slice none 0 0) (K := L) (fs := ks) (ExsAt.nil_ W1 B) (World.ownsRow_nil _ _ _ _) (Below.refl _ _) hBW (Nat.le_refl _) HKE.out HK.out.symm (by simpa using hown0) (by have := hgrow0; rw [HW1.out] at this; exact this)
      simpa using this)
    clear hown0 hgrow0
    go_upto_block 0 with fail
    go_cut [3] (fun v wx => Got W1 B W1.heap.size (ks ++ bs.map Bd.exp) v wx)
    case first =>
      go_wp2_with fail
      go_loopw [3, 4] (fun v i wr => ∃ j : Nat, i = .int .i64 j ∧ j ≤ bl ∧ Got W1 B W1.heap.size (ks ++ (bs.take j).map Bd.exp) v wr) (fun _ i _ => bl - (intOf i).toNat)
      case atStart => exact ⟨0, rfl, Nat.zero_le _, by simpa using HG.out⟩
      case round =>
        obtain ⟨j, rfl, hj, Lr, hLr, hown, hbe⟩ := hrel
        have hcf := (hbe.cell (p := ⟨w.heap.size, 9, none⟩) (by have := HZW.out; show w.heap.size < _; omega)).trans (HBOX.out.cell 9)
        simp only [List.getElem?_toArray, List.getElem?_cons_succ, List.getElem?_cons_zero] at hcf
        have hzr := hbe.size
        have hne : (ks ++ (bs.take j).map Bd.exp).length ≤ 1000000 := by have := HBL.out; have := HA.out; have := HK.out; simp; omega
        have HLR := Lib.hid hLr
        have HOW := Lib.hid hown
        have HBE := Lib.hid hbe
        clear hLr hown hbe
        by_cases hlt : j < bl
        · have hbW := (HBW.out.mono hB).trans (HBE.out.mono hBW)
          have hjk : j < bs.length := by rw [HBL.out]; exact hlt
          have hrow := HRB.out.later hbW
          have hl : j < Lb.length := by rw [hrow.len]; exact hjk
          have hea := HEB.out j hl hjk
          obtain ⟨g, o, c0, c1, c2, c3, c4, c5, c6, c7, c8, c9, c10, nm', e', q', rfl, hg, hel, _, _, _, he, k0, k1, k2, k3, k4, k5, k6, k7, k8, k9, k10⟩ := bd_cells hrow hjk hl (BdAt.later hea hbW)
          have hee : bs[j].exp = e' := by rw [hel]; rfl
          have HEX := Lib.hid he
          have HEE := Lib.hid hee
          clear hbW hrow hea hel he hee
          go_wp2_with (at_builtin; refine wpList_append_own _ rfl (.tmp 20) (.tmp 27) 25 rfl W1.heap.size 29 i0 (.agg #[.int .i64 0, .string ⟨#[]⟩, .int .i64 0, .int .i64 0, .string ⟨#[]⟩, .int .i64 0, .slice none 0 0, .slice none 0 0, .slice none 0 0, .slice none 0 0, .int .i64 0]) 11 168 Try.underlying25 HI.out HZ0.out HZ1.out HZ2.out rfl (by decide) _ _ _ rfl (HOW.out.alloc _) ⟨wr.heap.size, 0, none⟩ 1 1 [c0, c1, c2, c3, c4, c5, c6, c7, c8, c9, c10] rfl rfl (eleven_new _ _) (ex_oneCell HEX.out) (by unfold maxLen; omega) (by omega) (by simp; omega) ?_)
          intro v' w2 hown' hgrow _
          have HGN := Lib.hid (show Got W1 B W1.heap.size (ks ++ (bs.take (j + 1)).map Bd.exp) v' w2 by
            have := got_app (ob := []) (fs := [e']) (K := [[c0, c1, c2, c3, c4, c5, c6, c7, c8, c9, c10]]) HLR.out HOW.out HBE.out hBW hzr (ExsAt.one HEX.out) rfl (by simpa using hown') (grown_new hgrow)
            rw [List.take_succ_eq_append_getElem hjk, List.map_append, ← List.append_assoc, List.map_singleton, HEE.out]
            exact this)
          clear hown' hgrow
          go_wp2_with fail
          go_roundw
          case rel => exact ⟨j + 1, by go_num, by omega, HGN.out⟩
          case measure => simp [intOf]; omega
        · obtain rfl : j = bl := by omega
          have HGN := Lib.hid (show Got W1 B W1.heap.size (ks ++ bs.map Bd.exp) _ wr from ⟨Lr, by have := HLR.out; rw [← HBL.out, List.take_length] at this; exact this, by have := HOW.out; rw [← HBL.out, List.take_length] at this; exact this, HBE.out⟩)
          go_wp2_with fail
          go_meet
          exact HGN.out
    case rest =>
      have HG1 := hcut
      obtain ⟨Lr, hLr, hown, hbe⟩ := HG1
      have hcf := (hbe.cell (p := ⟨w.heap.size, 0, none⟩) (by have := HZW.out; show w.heap.size < _; omega)).trans (HBOX.out.cell 0)
      have hcg := (hbe.cell (p := ⟨w.heap.size, 7, none⟩) (by have := HZW.out; show w.heap.size < _; omega)).trans (HBOX.out.cell 7)
      simp only [List.getElem?_toArray, List.getElem?_cons_succ, List.getElem?_cons_zero] at hcf hcg
      have HG := Lib.hid hcut
      clear hLr hown hbe hcg hcut
      go_upto_block 2 with fail
      go_cut [3] (fun v wx => Got W1 B W1.heap.size ((ks ++ bs.map Bd.exp) ++ als.map Al.exp) v wx)
      case first =>
        go_wp2_with fail
        go_loopw [3, 5] (fun v i wr => ∃ j : Nat, i = .int .i64 j ∧ j ≤ al ∧ Got W1 B W1.heap.size ((ks ++ bs.map Bd.exp) ++ (als.take j).map Al.exp) v wr) (fun _ i _ => al - (intOf i).toNat)
        case atStart => exact ⟨0, rfl, Nat.zero_le _, by simpa using HG.out⟩
        case round =>
          obtain ⟨j, rfl, hj, Lr, hLr, hown, hbe⟩ := hrel
          have hcf := (hbe.cell (p := ⟨w.heap.size, 8, none⟩) (by have := HZW.out; show w.heap.size < _; omega)).trans (HBOX.out.cell 8)
          simp only [List.getElem?_toArray, List.getElem?_cons_succ, List.getElem?_cons_zero] at hcf
          have hzr := hbe.size
          have hne : ((ks ++ bs.map Bd.exp) ++ (als.take j).map Al.exp).length ≤ 1000000 := by have := HBL.out; have := HA.out; have := HK.out; simp; omega
          have HLR := Lib.hid hLr
          have HOW := Lib.hid hown
          have HBE := Lib.hid hbe
          clear hLr hown hbe
          by_cases hlt : j < al
          · have hbW := (HBW.out.mono hB).trans (HBE.out.mono hBW)
            have hjk : j < als.length := by rw [HA.out]; exact hlt
            have hrow := HRA.out.later hbW
            have hl : j < La.length := by rw [hrow.len]; exact hjk
            have hea := HEA.out j hl hjk
            obtain ⟨g, o, p0, p1, p2, p3, p4, c0, c1, c2, c3, c4, c5, c6, c7, c8, c9, c10, p', e', rfl, hg, hel, hp, he, u0, u1, u2, u3, u4, k0, k1, k2, k3, k4, k5, k6, k7, k8, k9, k10⟩ := al_cells hrow hjk hl (AlAt.later hea hbW)
            have hee : als[j].exp = e' := by rw [hel]; rfl
            have HEX := Lib.hid he
            have HEE := Lib.hid hee
            clear hbW hrow hea hel he hee
            go_wp2_with (at_builtin; refine wpList_append_own _ rfl (.tmp 43) (.tmp 50) 25 rfl W1.heap.size 29 i0 (.agg #[.int .i64 0, .string ⟨#[]⟩, .int .i64 0, .int .i64 0, .string ⟨#[]⟩, .int .i64 0, .slice none 0 0, .slice none 0 0, .slice none 0 0, .slice none 0 0, .int .i64 0]) 11 168 Try.underlying25 HI.out HZ0.out HZ1.out HZ2.out rfl (by decide) _ _ _ rfl (HOW.out.alloc _) ⟨wr.heap.size, 0, none⟩ 1 1 [c0, c1, c2, c3, c4, c5, c6, c7, c8, c9, c10] rfl rfl (eleven_new _ _) (ex_oneCell HEX.out) (by unfold maxLen; omega) (by omega) (by simp; omega) ?_)
            intro v' w2 hown' hgrow _
            have HGN := Lib.hid (show Got W1 B W1.heap.size ((ks ++ bs.map Bd.exp) ++ (als.take (j + 1)).map Al.exp) v' w2 by
              have := got_app (ob := []) (fs := [e']) (K := [[c0, c1, c2, c3, c4, c5, c6, c7, c8, c9, c10]]) HLR.out HOW.out HBE.out hBW hzr (ExsAt.one HEX.out) rfl (by simpa using hown') (grown_new hgrow)
              rw [List.take_succ_eq_append_getElem hjk, List.map_append, ← List.append_assoc, List.map_singleton, HEE.out]
              exact this)
            clear hown' hgrow
            go_wp2_with fail
            go_roundw
            case rel => exact ⟨j + 1, by go_num, by omega, HGN.out⟩
            case measure => simp [intOf]; omega
          · obtain rfl : j = al := by omega
            have HGN := Lib.hid (show Got W1 B W1.heap.size ((ks ++ bs.map Bd.exp) ++ als.map Al.exp) _ wr from ⟨Lr, by have := HLR.out; rw [← HA.out, List.take_length] at this; exact this, by have := HOW.out; rw [← HA.out, List.take_length] at this; exact this, HBE.out⟩)
            go_wp2_with fail
            go_meet
            exact HGN.out
      case rest =>
        obtain ⟨Lr2, hLr2, hown2, hbe2⟩ := hcut
        have HF := Lib.hid (show PartsSays w B es (.returned _) _ from ⟨_, Lr2, rfl, by rw [← HES.out]; simpa [Ex.parts, H7.out] using hLr2, by rw [← HES.out]; simpa [Ex.parts, H7.out] using (show _ from ownsRow_base hown2 (by have := HZW.out; omega)), HBW.out.trans (hbe2.mono (by have := HZW.out; omega))⟩)
        go_wp2_with fail
        go_ret
        exact HF.out

end Go.Proofs.Ytglamoiimmahgaa
