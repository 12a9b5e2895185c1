/- Walks: the document's equality of declarations and programs. -/
import Derived.Test.YtglamoiimmahgaaPgt
import Derived.Test.YtglamoiimmahgaaSamew
import Derived.Test.YtglamoiimmahgaaTexts
import Derived.Deep.RegionHeld3
namespace Go.Proofs.Ytglamoiimmahgaa
open Go.RowKit
set_option linter.unusedVariables false
set_option linter.unusedSimpArgs false
set_option maxRecDepth 100000

theorem rl_ty (xs ys : List Ty) (A A' : Option Addr) (c c' B : Nat) (w : World) (hB : B ≤ w.heap.size) (hn : xs.length ≤ maxLen) (hx : RowOf w B 4 (TyAt w B) A xs) (hy : RowOf w B 4 (TyAt w B) A' ys) :
    Calls Try.prog 41 #[.slice A xs.length c, .slice A' ys.length c'] w fun e w' => e = .returned (.bool (listSame tySame xs ys)) ∧ Below w.heap.size w w' := by
  obtain ⟨L, hr, hk⟩ := hx.ex
  obtain ⟨L', hr', hk'⟩ := hy.ex
  rw [list_tys]
  exact rsametypes_any xs ys A A' L L' c c' B w hB ⟨hr, hk⟩ ⟨hr', hk'⟩ hn (fun t _ u w cs ds h1 h2 h3 => rsametype_any _ t u (Nat.le_refl _) B w cs ds h1 h2 h3)
theorem rl_bd (xs ys : List Bd) (A A' : Option Addr) (c c' B : Nat) (w : World) (hB : B ≤ w.heap.size) (hn : xs.length ≤ maxLen) (hx : RowOf w B 13 (BdAt w B) A xs) (hy : RowOf w B 13 (BdAt w B) A' ys) :
    Calls Try.prog 39 #[.slice A xs.length c, .slice A' ys.length c'] w fun e w' => e = .returned (.bool (listSame bdSame xs ys)) ∧ Below w.heap.size w w' := by
  obtain ⟨L, hr, hk⟩ := hx.ex
  obtain ⟨L', hr', hk'⟩ := hy.ex
  rw [list_bds]
  exact rsamebinds_any xs ys A A' L L' c c' B w hB ⟨hr, hk⟩ ⟨hr', hk'⟩ (by unfold maxLen at hn; omega) (fun t _ u w cs ds h1 h2 h3 => rsame_any _ t.exp u (Nat.le_refl _) B w cs ds h1 h2 h3)
theorem rt_any (a b : List ByteArray) (A A' : Option Addr) (c c' B : Nat) (w : World) (hn : a.length ≤ maxLen) (ha : Reads w B 1 A a.length (nmVals a)) (hb : Reads w B 1 A' b.length (nmVals b)) :
    Calls Try.prog 23 #[.slice A a.length c, .slice A' b.length c'] w fun e w' => e = .returned (.bool (textsS a b)) ∧ Below w.heap.size w w' :=
  (rtexts_any a b A A' _ _ c c' B w (by unfold maxLen at hn; omega) ha hb).mono fun _ _ h => by
    obtain ⟨h1, k, rfl⟩ := h
    exact ⟨h1, below_drewN (Below.refl _ _) k⟩
theorem list_len {α : Type} {f : α → α → Bool} {xs ys : List α} (h : xs.length ≠ ys.length) : listSame f xs ys = false := by unfold listSame; rw [show (xs.length == ys.length) = false by simpa using h]; rfl
theorem list_yes {α : Type} {f : α → α → Bool} {xs ys : List α} (h : xs.length = ys.length) (hall : ∀ j, j < xs.length → pairAt f xs ys j = true) : listSame f xs ys = true := by unfold listSame; rw [all_yes hall]; simpa using h
theorem list_no {α : Type} {f : α → α → Bool} {xs ys : List α} {k : Nat} (hk : k < xs.length) (hf : pairAt f xs ys k = false) : listSame f xs ys = false := by unfold listSame; rw [all_no hk hf]; simp

set_option maxHeartbeats 6400000 in
theorem rsamedata (t u : Da) (B : Nat) (w : World) (cs0 ds0 : List Value) (hB : B ≤ w.heap.size) (hx : DaAt w B cs0 t) (hy : DaAt w B ds0 u) :
    Calls Try.prog 49 #[.agg cs0.toArray, .agg ds0.toArray] w fun e w' => e = .returned (.bool (daSame t u)) ∧ Below w.heap.size w w' := by
  cases hx with
  | @mk nm A Ac Ad c cc cd ps ds cs q h1 h2 h3 hp hc hd =>
  cases hy with
  | @mk nm' A' Ac' Ad' c' cc' cd' ps' ds' cs' q' h1' h2' h3' hp' hc' hd' =>
    have C10 := fun W (hb : Below w.heap.size w W) => rt_any ps ps' A A' c c' B W h1 (hp.below (hb.mono hB)) (hp'.below (hb.mono hB))
    have C20 := fun W (hb : Below w.heap.size w W) => rt_any ds ds' Ad Ad' cd cd' B W h3 (hd.below (hb.mono hB)) (hd'.below (hb.mono hB))
    obtain ⟨RES, hRES⟩ : ∃ r, daSame ⟨nm, ps, cs, ds⟩ ⟨nm', ps', cs', ds'⟩ = r := ⟨_, rfl⟩
    rw [hRES]
    have hS0 : RES = (nmSame nm nm' && (textsS ps ps' && (textsS ds ds' && listSame coSame cs cs'))) := by rw [← hRES]; rfl
    obtain ⟨v1, hv1⟩ : ∃ v, textsS ps ps' = v := ⟨_, rfl⟩
    rw [hv1] at hS0 C10
    obtain ⟨v2, hv2⟩ : ∃ v, textsS ds ds' = v := ⟨_, rfl⟩
    rw [hv2] at hS0 C20
    obtain ⟨l, hl⟩ : ∃ l, cs.length = l := ⟨_, rfl⟩
    have HLcs := Lib.hid hl
    have Hcs := Lib.hid hc
    have h9l : l ≤ 9223372036854775807 := by have h9 := h2; unfold maxLen at h9; omega
    obtain ⟨l', hl'⟩ : ∃ l, cs'.length = l := ⟨_, rfl⟩
    have HLcs' := Lib.hid hl'
    have Hcs' := Lib.hid hc'
    have h9l' : l' ≤ 9223372036854775807 := by have h9 := h2'; unfold maxLen at h9; omega
    have HS := Lib.hid hS0
    have C1 := Lib.hid C10
    have C2 := Lib.hid C20
    try simp only [List.cons_append, List.nil_append]
    rw [hl, hl']
    clear hS0 hRES hv1 C10 hv2 C20 hl hl' hc hc'
    have b1 := (Blk.new w 79 #[.string nm, .slice A ps.length c, .slice Ac l cc, .slice Ad ds.length cd, .int .i64 q]).alloc (.cells #[.string nm', .slice A' ps'.length c', .slice Ac' l' cc', .slice Ad' ds'.length cd', .int .i64 q'] 79)
    have b2 := Blk.new (w.alloc (.cells #[.string nm, .slice A ps.length c, .slice Ac l cc, .slice Ad ds.length cd, .int .i64 q] 79)) 79 #[.string nm', .slice A' ps'.length c', .slice Ac' l' cc', .slice Ad' ds'.length cd', .int .i64 q']
    obtain ⟨W2, hW2⟩ : ∃ W2, (w.alloc (.cells #[.string nm, .slice A ps.length c, .slice Ac l cc, .slice Ad ds.length cd, .int .i64 q] 79)).alloc (.cells #[.string nm', .slice A' ps'.length c', .slice Ac' l' cc', .slice Ad' ds'.length cd', .int .i64 q'] 79) = W2 := ⟨_, rfl⟩
    have hbW : Below w.heap.size w W2 := by rw [← hW2]; exact ((Below.refl _ _).alloc (Nat.le_refl _) _).alloc (by simp) _
    have hzW : W2.heap.size = w.heap.size + 1 + 1 := by rw [← hW2]; simp
    rw [hW2] at b1 b2
    rw [World.size_alloc] at b2
    have HW := Lib.hid hW2
    have HBW := Lib.hid hbW
    have HZ := Lib.hid hzW
    have HB1 := Lib.hid (fun (W : World) (hW : Below W2.heap.size W2 W) (i : Nat) => (hW.cell (p := ⟨w.heap.size, i, none⟩) b1.lt).trans (b1.cell i))
    have HB2 := Lib.hid (fun (W : World) (hW : Below W2.heap.size W2 W) (i : Nat) => (hW.cell (p := ⟨w.heap.size + 1, i, none⟩) b2.lt).trans (b2.cell i))
    clear b1 b2 hW2 hbW hzW
    by_cases e0 : nm.data.toList = nm'.data.toList
    · have d0 := nm_same e0
      have z0 := Lib.hid (show nmSame nm nm' = true by unfold nmSame; simpa using e0)
      have HS := Lib.hid (HS.out.trans (by rw [z0.out, Bool.true_and]))
      clear e0
      cases v1 with
      | false =>
        have HE := Lib.hid (show RES = false by rw [HS.out] <;> simp)
        go_enter Try.func49, Try.ntmps49
        go_wp2_with fail
        rw [HW.out]
        have x0W2 := HB1.out W2 (Below.refl W2.heap.size W2) 0
        have y0W2 := HB2.out W2 (Below.refl W2.heap.size W2) 0
        have x1W2 := HB1.out W2 (Below.refl W2.heap.size W2) 1
        have y1W2 := HB2.out W2 (Below.refl W2.heap.size W2) 1
        have x2W2 := HB1.out W2 (Below.refl W2.heap.size W2) 2
        have y2W2 := HB2.out W2 (Below.refl W2.heap.size W2) 2
        have x3W2 := HB1.out W2 (Below.refl W2.heap.size W2) 3
        have y3W2 := HB2.out W2 (Below.refl W2.heap.size W2) 3
        have x4W2 := HB1.out W2 (Below.refl W2.heap.size W2) 4
        have y4W2 := HB2.out W2 (Below.refl W2.heap.size W2) 4
        simp only [List.getElem?_toArray, List.getElem?_cons_succ, List.getElem?_cons_zero] at x0W2 y0W2 x1W2 y1W2 x2W2 y2W2 x3W2 y3W2 x4W2 y4W2
        have hk1 : Below W2.heap.size W2 W2 := Below.refl _ _
        have hc1 := HBW.out
        go_wp2_with (go_at_call 23; (with_reducible refine (C1.out _ hc1).mono ?_); rintro e w2 ⟨rfl, hb2⟩; (have hk2 : Below W2.heap.size W2 w2 := hk1.trans (hb2.mono hk1.size)); (have hc2 : Below w.heap.size w w2 := HBW.out.trans (hk2.mono HBW.out.size)); (have x0w2 := HB1.out w2 hk2 0); (have y0w2 := HB2.out w2 hk2 0); (have x1w2 := HB1.out w2 hk2 1); (have y1w2 := HB2.out w2 hk2 1); (have x2w2 := HB1.out w2 hk2 2); (have y2w2 := HB2.out w2 hk2 2); (have x3w2 := HB1.out w2 hk2 3); (have y3w2 := HB2.out w2 hk2 3); (have x4w2 := HB1.out w2 hk2 4); (have y4w2 := HB2.out w2 hk2 4); (simp only [List.getElem?_toArray, List.getElem?_cons_succ, List.getElem?_cons_zero] at x0w2 y0w2 x1w2 y1w2 x2w2 y2w2 x3w2 y3w2 x4w2 y4w2))
        go_ret
        exact ⟨ret_bool HE.out.symm, hc2⟩
      | true =>
        have HS := Lib.hid (HS.out.trans (by rw [Bool.true_and]))
        cases v2 with
        | false =>
          have HE := Lib.hid (show RES = false by rw [HS.out] <;> simp)
          go_enter Try.func49, Try.ntmps49
          go_wp2_with fail
          rw [HW.out]
          have x0W2 := HB1.out W2 (Below.refl W2.heap.size W2) 0
          have y0W2 := HB2.out W2 (Below.refl W2.heap.size W2) 0
          have x1W2 := HB1.out W2 (Below.refl W2.heap.size W2) 1
          have y1W2 := HB2.out W2 (Below.refl W2.heap.size W2) 1
          have x2W2 := HB1.out W2 (Below.refl W2.heap.size W2) 2
          have y2W2 := HB2.out W2 (Below.refl W2.heap.size W2) 2
          have x3W2 := HB1.out W2 (Below.refl W2.heap.size W2) 3
          have y3W2 := HB2.out W2 (Below.refl W2.heap.size W2) 3
          have x4W2 := HB1.out W2 (Below.refl W2.heap.size W2) 4
          have y4W2 := HB2.out W2 (Below.refl W2.heap.size W2) 4
          simp only [List.getElem?_toArray, List.getElem?_cons_succ, List.getElem?_cons_zero] at x0W2 y0W2 x1W2 y1W2 x2W2 y2W2 x3W2 y3W2 x4W2 y4W2
          have hk1 : Below W2.heap.size W2 W2 := Below.refl _ _
          have hc1 := HBW.out
          go_wp2_with (go_at_call 23; (with_reducible refine (C1.out _ hc1).mono ?_); rintro e w2 ⟨rfl, hb2⟩; (have hk2 : Below W2.heap.size W2 w2 := hk1.trans (hb2.mono hk1.size)); (have hc2 : Below w.heap.size w w2 := HBW.out.trans (hk2.mono HBW.out.size)); (have x0w2 := HB1.out w2 hk2 0); (have y0w2 := HB2.out w2 hk2 0); (have x1w2 := HB1.out w2 hk2 1); (have y1w2 := HB2.out w2 hk2 1); (have x2w2 := HB1.out w2 hk2 2); (have y2w2 := HB2.out w2 hk2 2); (have x3w2 := HB1.out w2 hk2 3); (have y3w2 := HB2.out w2 hk2 3); (have x4w2 := HB1.out w2 hk2 4); (have y4w2 := HB2.out w2 hk2 4); (simp only [List.getElem?_toArray, List.getElem?_cons_succ, List.getElem?_cons_zero] at x0w2 y0w2 x1w2 y1w2 x2w2 y2w2 x3w2 y3w2 x4w2 y4w2))
          go_wp2_with (go_at_call 23; (with_reducible refine (C2.out _ hc2).mono ?_); rintro e w3 ⟨rfl, hb3⟩; (have hk3 : Below W2.heap.size W2 w3 := hk2.trans (hb3.mono hk2.size)); (have hc3 : Below w.heap.size w w3 := HBW.out.trans (hk3.mono HBW.out.size)); (have x0w3 := HB1.out w3 hk3 0); (have y0w3 := HB2.out w3 hk3 0); (have x1w3 := HB1.out w3 hk3 1); (have y1w3 := HB2.out w3 hk3 1); (have x2w3 := HB1.out w3 hk3 2); (have y2w3 := HB2.out w3 hk3 2); (have x3w3 := HB1.out w3 hk3 3); (have y3w3 := HB2.out w3 hk3 3); (have x4w3 := HB1.out w3 hk3 4); (have y4w3 := HB2.out w3 hk3 4); (simp only [List.getElem?_toArray, List.getElem?_cons_succ, List.getElem?_cons_zero] at x0w3 y0w3 x1w3 y1w3 x2w3 y2w3 x3w3 y3w3 x4w3 y4w3))
          go_ret
          exact ⟨ret_bool HE.out.symm, hc3⟩
        | true =>
          have HS := Lib.hid (HS.out.trans (by rw [Bool.true_and]))
          by_cases e3 : l = l'
          · subst e3
            go_enter Try.func49, Try.ntmps49
            go_wp2_with fail
            rw [HW.out]
            have x0W2 := HB1.out W2 (Below.refl W2.heap.size W2) 0
            have y0W2 := HB2.out W2 (Below.refl W2.heap.size W2) 0
            have x1W2 := HB1.out W2 (Below.refl W2.heap.size W2) 1
            have y1W2 := HB2.out W2 (Below.refl W2.heap.size W2) 1
            have x2W2 := HB1.out W2 (Below.refl W2.heap.size W2) 2
            have y2W2 := HB2.out W2 (Below.refl W2.heap.size W2) 2
            have x3W2 := HB1.out W2 (Below.refl W2.heap.size W2) 3
            have y3W2 := HB2.out W2 (Below.refl W2.heap.size W2) 3
            have x4W2 := HB1.out W2 (Below.refl W2.heap.size W2) 4
            have y4W2 := HB2.out W2 (Below.refl W2.heap.size W2) 4
            simp only [List.getElem?_toArray, List.getElem?_cons_succ, List.getElem?_cons_zero] at x0W2 y0W2 x1W2 y1W2 x2W2 y2W2 x3W2 y3W2 x4W2 y4W2
            have hk1 : Below W2.heap.size W2 W2 := Below.refl _ _
            have hc1 := HBW.out
            go_wp2_with (go_at_call 23; (with_reducible refine (C1.out _ hc1).mono ?_); rintro e w2 ⟨rfl, hb2⟩; (have hk2 : Below W2.heap.size W2 w2 := hk1.trans (hb2.mono hk1.size)); (have hc2 : Below w.heap.size w w2 := HBW.out.trans (hk2.mono HBW.out.size)); (have x0w2 := HB1.out w2 hk2 0); (have y0w2 := HB2.out w2 hk2 0); (have x1w2 := HB1.out w2 hk2 1); (have y1w2 := HB2.out w2 hk2 1); (have x2w2 := HB1.out w2 hk2 2); (have y2w2 := HB2.out w2 hk2 2); (have x3w2 := HB1.out w2 hk2 3); (have y3w2 := HB2.out w2 hk2 3); (have x4w2 := HB1.out w2 hk2 4); (have y4w2 := HB2.out w2 hk2 4); (simp only [List.getElem?_toArray, List.getElem?_cons_succ, List.getElem?_cons_zero] at x0w2 y0w2 x1w2 y1w2 x2w2 y2w2 x3w2 y3w2 x4w2 y4w2))
            go_wp2_with (go_at_call 23; (with_reducible refine (C2.out _ hc2).mono ?_); rintro e w3 ⟨rfl, hb3⟩; (have hk3 : Below W2.heap.size W2 w3 := hk2.trans (hb3.mono hk2.size)); (have hc3 : Below w.heap.size w w3 := HBW.out.trans (hk3.mono HBW.out.size)); (have x0w3 := HB1.out w3 hk3 0); (have y0w3 := HB2.out w3 hk3 0); (have x1w3 := HB1.out w3 hk3 1); (have y1w3 := HB2.out w3 hk3 1); (have x2w3 := HB1.out w3 hk3 2); (have y2w3 := HB2.out w3 hk3 2); (have x3w3 := HB1.out w3 hk3 3); (have y3w3 := HB2.out w3 hk3 3); (have x4w3 := HB1.out w3 hk3 4); (have y4w3 := HB2.out w3 hk3 4); (simp only [List.getElem?_toArray, List.getElem?_cons_succ, List.getElem?_cons_zero] at x0w3 y0w3 x1w3 y1w3 x2w3 y2w3 x3w3 y3w3 x4w3 y4w3))
            have HK := Lib.hid hk3
            clear hk3 hc3 x0w3 y0w3 x1w3 y1w3 x2w3 y2w3 x3w3 y3w3 x4w3 y4w3
            go_loopw [5] (fun i wr => ∃ j : Nat, i = .int .i64 j ∧ j ≤ l ∧ (∀ x, x < j → pairAt coSame cs cs' x = true) ∧ Below W2.heap.size W2 wr) (fun i _ => l - (intOf i).toNat)
            case atStart => exact ⟨0, rfl, Nat.zero_le _, fun x h => by omega, HK.out⟩
            case round =>
              obtain ⟨j, rfl, hj, hall, hbel⟩ := hrel
              have x2wr := HB1.out wr hbel 2
              have y2wr := HB2.out wr hbel 2
              simp only [List.getElem?_toArray, List.getElem?_cons_succ, List.getElem?_cons_zero] at x2wr y2wr
              have HALL := Lib.hid hall
              have HBE := Lib.hid hbel
              clear hall hbel
              by_cases hlt : j < l
              · have hkx : j < cs.length := by rw [HLcs.out]; exact hlt
                have hky : j < cs'.length := by rw [HLcs'.out]; exact hlt
                have hbw := (HBW.out.mono hB).trans (HBE.out.mono (Nat.le_trans hB HBW.out.size))
                obtain ⟨LX, hrx, hex⟩ := Hcs.out.ex
                obtain ⟨LY, hry, hey⟩ := Hcs'.out.ex
                have hrx' := hrx.later hbw
                have hry' := hry.later hbw
                obtain ⟨g, o, eA, hg, hlx, h5, hcx⟩ := elem_cells hrx' (by omega) hkx
                obtain ⟨g', o', eA', hg', hly, h5', hcy⟩ := elem_cells hry' (by omega) hky
                subst eA
                subst eA'
                have hexj := hex j hlx hkx
                have heyj := hey j hly hky
                have hpair := pairAt_of coSame cs cs' j hkx hky
                generalize LX[j] = lx at hexj hcx
                generalize LY[j] = ly at heyj hcy
                generalize cs[j] = ex at hexj hpair
                generalize cs'[j] = ey at heyj hpair
                have hjx := CoAt.later hexj hbw
                have hjy := CoAt.later heyj hbw
                clear hexj heyj
                cases hjx with
                | @mk n1 A1 c1 k1 q1 g1 g2 g3 =>
                cases hjy with
                | @mk n2 A2 c2 k2 q2 g1' g2' g3' =>
                have u0 : wr.cell? ⟨g, o + j * 3, none⟩ = some (.string n1) := hcx 0 _ rfl
                have v0 : wr.cell? ⟨g', o' + j * 3, none⟩ = some (.string n2) := hcy 0 _ rfl
                have u1 : wr.cell? ⟨g, o + j * 3 + 1, none⟩ = some (.slice A1 k1.length c1) := hcx 1 _ rfl
                have v1 : wr.cell? ⟨g', o' + j * 3 + 1, none⟩ = some (.slice A2 k2.length c2) := hcy 1 _ rfl
                obtain ⟨v, hv⟩ : ∃ v, listSame tySame k1 k2 = v := ⟨_, rfl⟩
                have hpair2 : pairAt coSame cs cs' j = (nmSame n1 n2 && v) := by rw [hpair, ← hv]; rfl
                have HP := Lib.hid hpair2
                have hBr : B ≤ wr.heap.size := Nat.le_trans (Nat.le_trans hB HBW.out.size) HBE.out.size
                have HC := Lib.hid (fun W (hb : Below wr.heap.size wr W) => show Calls Try.prog 41 #[.slice A1 k1.length c1, .slice A2 k2.length c2] W (fun e w2 => e = .returned (.bool v) ∧ Below wr.heap.size wr w2) from (rl_ty k1 k2 A1 A2 c1 c2 B W (Nat.le_trans hBr hb.size) (Nat.le_trans g1 g2) (RowOf.later (R := fun w => TyAt w B) g3 (hb.mono hBr) fun _ _ h => h.later (hb.mono hBr)) (RowOf.later (R := fun w => TyAt w B) g3' (hb.mono hBr) fun _ _ h => h.later (hb.mono hBr))).mono fun e w2 h => by rw [hv] at h; exact ⟨h.1, hb.trans (h.2.mono hb.size)⟩)
                have hgl : g < wr.heap.size := Nat.lt_of_lt_of_le hg hBr
                have hgl' : g' < wr.heap.size := Nat.lt_of_lt_of_le hg' hBr
                have hh1 : w.heap.size < wr.heap.size := by have := HZ.out; have := HBE.out.size; omega
                have hh2 : w.heap.size + 1 < wr.heap.size := by have := HZ.out; have := HBE.out.size; omega
                have hB0 : Below wr.heap.size wr wr.drew := (Below.refl _ _).drew
                clear hbw hrx hry hrx' hry' hex hey hcx hcy h5 h5' hv hpair hpair2 hlx hly g1 g2 g3 g1' g2' g3'
                by_cases en : n1.data.toList = n2.data.toList
                · have dn := nm_same en
                  have zn : nmSame n1 n2 = true := by unfold nmSame; simpa using en
                  have HZN := Lib.hid zn
                  clear en zn
                  cases v with
                  | true =>
                    go_wp2_with fail
                    go_region_held3 (fun w' => w'.cell? ⟨w.heap.size, 2, none⟩ = some (.slice (some ⟨g, o, none⟩) l cc) ∧ w'.cell? ⟨w.heap.size + 1, 2, none⟩ = some (.slice (some ⟨g', o', none⟩) l cc') ∧ w'.cell? ⟨g, o + j * 3, none⟩ = some (.string n1) ∧ w'.cell? ⟨g, o + j * 3 + 1, none⟩ = some (.slice A1 k1.length c1) ∧ w'.cell? ⟨g', o' + j * 3, none⟩ = some (.string n2) ∧ w'.cell? ⟨g', o' + j * 3 + 1, none⟩ = some (.slice A2 k2.length c2) ∧ Below wr.heap.size wr w')
                      (((try dsimp only); (repeat' apply And.intro) <;> (first | assumption | exact cell_kept (by assumption) hgl (by assumption) | exact cell_kept (by assumption) hgl' (by assumption) | exact cell_kept (by assumption) hh1 (by assumption) | exact cell_kept (by assumption) hh2 (by assumption))))
                      (first | (go_at_call 41; (with_reducible refine (HC.out _ (by assumption)).mono ?_); rintro e w5 ⟨rfl, hb5⟩))
                    clear hB0
                    go_wp2_with fail
                    go_roundw
                    case rel => exact ⟨j + 1, by go_num, by omega, fun x h => by
                      rcases Nat.lt_or_ge x j with h1 | h1
                      · exact HALL.out x h1
                      · have : x = j := by omega
                        subst this; rw [HP.out, HZN.out]; rfl, HBE.out.trans ((by assumption : Below wr.heap.size wr _).mono HBE.out.size)⟩
                    case measure => simp [intOf]; omega
                  | false =>
                    have HF := Lib.hid (show RES = false by rw [HS.out, list_no hkx (HP.out.trans (by simp))] <;> simp)
                    go_wp2_with fail
                    go_region_held3 (fun w' => w'.cell? ⟨w.heap.size, 2, none⟩ = some (.slice (some ⟨g, o, none⟩) l cc) ∧ w'.cell? ⟨w.heap.size + 1, 2, none⟩ = some (.slice (some ⟨g', o', none⟩) l cc') ∧ w'.cell? ⟨g, o + j * 3, none⟩ = some (.string n1) ∧ w'.cell? ⟨g, o + j * 3 + 1, none⟩ = some (.slice A1 k1.length c1) ∧ w'.cell? ⟨g', o' + j * 3, none⟩ = some (.string n2) ∧ w'.cell? ⟨g', o' + j * 3 + 1, none⟩ = some (.slice A2 k2.length c2) ∧ Below wr.heap.size wr w')
                      (((try dsimp only); (repeat' apply And.intro) <;> (first | assumption | exact cell_kept (by assumption) hgl (by assumption) | exact cell_kept (by assumption) hgl' (by assumption) | exact cell_kept (by assumption) hh1 (by assumption) | exact cell_kept (by assumption) hh2 (by assumption))))
                      (first | (go_at_call 41; (with_reducible refine (HC.out _ (by assumption)).mono ?_); rintro e w5 ⟨rfl, hb5⟩))
                    clear hB0
                    go_wp2_with fail
                    go_ret
                    exact ⟨ret_bool HF.out.symm, HBW.out.trans ((HBE.out.trans ((by assumption : Below wr.heap.size wr _).mono HBE.out.size)).mono (by have := HZ.out; omega))⟩
                · have dn := nm_other en
                  have HF := Lib.hid (show RES = false by rw [HS.out, list_no hkx (HP.out.trans (by rw [show nmSame n1 n2 = false by unfold nmSame; simpa using en]; rfl))] <;> simp)
                  clear en hB0
                  go_wp2_with fail
                  go_quiet (fail)
                  go_wp2_with fail
                  go_ret
                  exact ⟨ret_bool HF.out.symm, HBW.out.trans ((below_drewN HBE.out _).mono (by have := HZ.out; omega))⟩
              · have HTcs := Lib.hid (list_yes (f := coSame) (xs := cs) (ys := cs') (by rw [HLcs.out, HLcs'.out]) (fun x h => HALL.out x (by have := HLcs.out; omega)))
                have hk3 := HBE.out
                have hc3 := HBW.out.trans (hk3.mono HBW.out.size)
                have x0wr := HB1.out wr hk3 0
                have y0wr := HB2.out wr hk3 0
                have x1wr := HB1.out wr hk3 1
                have y1wr := HB2.out wr hk3 1
                have x2wr := HB1.out wr hk3 2
                have y2wr := HB2.out wr hk3 2
                have x3wr := HB1.out wr hk3 3
                have y3wr := HB2.out wr hk3 3
                have x4wr := HB1.out wr hk3 4
                have y4wr := HB2.out wr hk3 4
                simp only [List.getElem?_toArray, List.getElem?_cons_succ, List.getElem?_cons_zero] at x0wr y0wr x1wr y1wr x2wr y2wr x3wr y3wr x4wr y4wr
                have HE := Lib.hid (show RES = true by rw [HS.out, HTcs.out] <;> simp)
                go_wp2_with fail
                go_ret
                exact ⟨ret_bool HE.out.symm, hc3⟩
          · have d3 : ((l : Int) != (l' : Int)) = true := by simp; omega
            have HE := Lib.hid (show RES = false by rw [HS.out, list_len (f := coSame) (xs := cs) (ys := cs') (by rw [HLcs.out, HLcs'.out]; exact e3)] <;> simp)
            clear e3
            go_enter Try.func49, Try.ntmps49
            go_wp2_with fail
            rw [HW.out]
            have x0W2 := HB1.out W2 (Below.refl W2.heap.size W2) 0
            have y0W2 := HB2.out W2 (Below.refl W2.heap.size W2) 0
            have x1W2 := HB1.out W2 (Below.refl W2.heap.size W2) 1
            have y1W2 := HB2.out W2 (Below.refl W2.heap.size W2) 1
            have x2W2 := HB1.out W2 (Below.refl W2.heap.size W2) 2
            have y2W2 := HB2.out W2 (Below.refl W2.heap.size W2) 2
            have x3W2 := HB1.out W2 (Below.refl W2.heap.size W2) 3
            have y3W2 := HB2.out W2 (Below.refl W2.heap.size W2) 3
            have x4W2 := HB1.out W2 (Below.refl W2.heap.size W2) 4
            have y4W2 := HB2.out W2 (Below.refl W2.heap.size W2) 4
            simp only [List.getElem?_toArray, List.getElem?_cons_succ, List.getElem?_cons_zero] at x0W2 y0W2 x1W2 y1W2 x2W2 y2W2 x3W2 y3W2 x4W2 y4W2
            have hk1 : Below W2.heap.size W2 W2 := Below.refl _ _
            have hc1 := HBW.out
            go_wp2_with (go_at_call 23; (with_reducible refine (C1.out _ hc1).mono ?_); rintro e w2 ⟨rfl, hb2⟩; (have hk2 : Below W2.heap.size W2 w2 := hk1.trans (hb2.mono hk1.size)); (have hc2 : Below w.heap.size w w2 := HBW.out.trans (hk2.mono HBW.out.size)); (have x0w2 := HB1.out w2 hk2 0); (have y0w2 := HB2.out w2 hk2 0); (have x1w2 := HB1.out w2 hk2 1); (have y1w2 := HB2.out w2 hk2 1); (have x2w2 := HB1.out w2 hk2 2); (have y2w2 := HB2.out w2 hk2 2); (have x3w2 := HB1.out w2 hk2 3); (have y3w2 := HB2.out w2 hk2 3); (have x4w2 := HB1.out w2 hk2 4); (have y4w2 := HB2.out w2 hk2 4); (simp only [List.getElem?_toArray, List.getElem?_cons_succ, List.getElem?_cons_zero] at x0w2 y0w2 x1w2 y1w2 x2w2 y2w2 x3w2 y3w2 x4w2 y4w2))
            go_wp2_with (go_at_call 23; (with_reducible refine (C2.out _ hc2).mono ?_); rintro e w3 ⟨rfl, hb3⟩; (have hk3 : Below W2.heap.size W2 w3 := hk2.trans (hb3.mono hk2.size)); (have hc3 : Below w.heap.size w w3 := HBW.out.trans (hk3.mono HBW.out.size)); (have x0w3 := HB1.out w3 hk3 0); (have y0w3 := HB2.out w3 hk3 0); (have x1w3 := HB1.out w3 hk3 1); (have y1w3 := HB2.out w3 hk3 1); (have x2w3 := HB1.out w3 hk3 2); (have y2w3 := HB2.out w3 hk3 2); (have x3w3 := HB1.out w3 hk3 3); (have y3w3 := HB2.out w3 hk3 3); (have x4w3 := HB1.out w3 hk3 4); (have y4w3 := HB2.out w3 hk3 4); (simp only [List.getElem?_toArray, List.getElem?_cons_succ, List.getElem?_cons_zero] at x0w3 y0w3 x1w3 y1w3 x2w3 y2w3 x3w3 y3w3 x4w3 y4w3))
            go_ret
            exact ⟨ret_bool HE.out.symm, hc3⟩
    · have d0 := nm_other e0
      have HE := Lib.hid (show RES = false by rw [HS.out, show nmSame nm nm' = false by unfold nmSame; simpa using e0] <;> simp)
      clear e0
      go_enter Try.func49, Try.ntmps49
      go_wp2_with fail
      rw [HW.out]
      have x0W2 := HB1.out W2 (Below.refl W2.heap.size W2) 0
      have y0W2 := HB2.out W2 (Below.refl W2.heap.size W2) 0
      have x1W2 := HB1.out W2 (Below.refl W2.heap.size W2) 1
      have y1W2 := HB2.out W2 (Below.refl W2.heap.size W2) 1
      have x2W2 := HB1.out W2 (Below.refl W2.heap.size W2) 2
      have y2W2 := HB2.out W2 (Below.refl W2.heap.size W2) 2
      have x3W2 := HB1.out W2 (Below.refl W2.heap.size W2) 3
      have y3W2 := HB2.out W2 (Below.refl W2.heap.size W2) 3
      have x4W2 := HB1.out W2 (Below.refl W2.heap.size W2) 4
      have y4W2 := HB2.out W2 (Below.refl W2.heap.size W2) 4
      simp only [List.getElem?_toArray, List.getElem?_cons_succ, List.getElem?_cons_zero] at x0W2 y0W2 x1W2 y1W2 x2W2 y2W2 x3W2 y3W2 x4W2 y4W2
      have hk1 : Below W2.heap.size W2 W2 := Below.refl _ _
      have hc1 := HBW.out
      go_wp2_with fail
      go_ret
      exact ⟨ret_bool HE.out.symm, hc1⟩

set_option maxHeartbeats 6400000 in
theorem rsameclass (t u : Cl) (B : Nat) (w : World) (cs0 ds0 : List Value) (hB : B ≤ w.heap.size) (hx : ClAt w B cs0 t) (hy : ClAt w B ds0 u) :
    Calls Try.prog 50 #[.agg cs0.toArray, .agg ds0.toArray] w fun e w' => e = .returned (.bool (clSame t u)) ∧ Below w.heap.size w w' := by
  cases hx with
  | @mk nm vr A Am Ab c cm cb sp ms bs q h1 h2 h3 hs hm hb0 =>
  cases hy with
  | @mk nm' vr' A' Am' Ab' c' cm' cb' sp' ms' bs' q' h1' h2' h3' hs' hm' hb0' =>
    have C10 := fun W (hb : Below w.heap.size w W) => rt_any sp sp' A A' c c' B W h1 (hs.below (hb.mono hB)) (hs'.below (hb.mono hB))
    have C20 := fun W (hb : Below w.heap.size w W) => rl_bd bs bs' Ab Ab' cb cb' B W (Nat.le_trans hB hb.size) h3 (RowOf.later (R := fun w => BdAt w B) hb0 (hb.mono hB) fun _ _ h => BdAt.later h (hb.mono hB)) (RowOf.later (R := fun w => BdAt w B) hb0' (hb.mono hB) fun _ _ h => BdAt.later h (hb.mono hB))
    obtain ⟨RES, hRES⟩ : ∃ r, clSame ⟨nm, vr, sp, ms, bs⟩ ⟨nm', vr', sp', ms', bs'⟩ = r := ⟨_, rfl⟩
    rw [hRES]
    have hS0 : RES = (nmSame nm nm' && (nmSame vr vr' && (textsS sp sp' && (listSame meSame ms ms' && listSame bdSame bs bs')))) := by rw [← hRES]; rfl
    obtain ⟨v1, hv1⟩ : ∃ v, textsS sp sp' = v := ⟨_, rfl⟩
    rw [hv1] at hS0 C10
    obtain ⟨v2, hv2⟩ : ∃ v, listSame bdSame bs bs' = v := ⟨_, rfl⟩
    rw [hv2] at hS0 C20
    obtain ⟨l, hl⟩ : ∃ l, ms.length = l := ⟨_, rfl⟩
    have HLms := Lib.hid hl
    have Hms := Lib.hid hm
    have h9l : l ≤ 9223372036854775807 := by have h9 := h2; unfold maxLen at h9; omega
    obtain ⟨l', hl'⟩ : ∃ l, ms'.length = l := ⟨_, rfl⟩
    have HLms' := Lib.hid hl'
    have Hms' := Lib.hid hm'
    have h9l' : l' ≤ 9223372036854775807 := by have h9 := h2'; unfold maxLen at h9; omega
    have HS := Lib.hid hS0
    have C1 := Lib.hid C10
    have C2 := Lib.hid C20
    try simp only [List.cons_append, List.nil_append]
    rw [hl, hl']
    clear hS0 hRES hv1 C10 hv2 C20 hl hl' hm hm'
    have b1 := (Blk.new w 73 #[.string nm, .string vr, .slice A sp.length c, .slice Am l cm, .slice Ab bs.length cb, .int .i64 q]).alloc (.cells #[.string nm', .string vr', .slice A' sp'.length c', .slice Am' l' cm', .slice Ab' bs'.length cb', .int .i64 q'] 73)
    have b2 := Blk.new (w.alloc (.cells #[.string nm, .string vr, .slice A sp.length c, .slice Am l cm, .slice Ab bs.length cb, .int .i64 q] 73)) 73 #[.string nm', .string vr', .slice A' sp'.length c', .slice Am' l' cm', .slice Ab' bs'.length cb', .int .i64 q']
    obtain ⟨W2, hW2⟩ : ∃ W2, (w.alloc (.cells #[.string nm, .string vr, .slice A sp.length c, .slice Am l cm, .slice Ab bs.length cb, .int .i64 q] 73)).alloc (.cells #[.string nm', .string vr', .slice A' sp'.length c', .slice Am' l' cm', .slice Ab' bs'.length cb', .int .i64 q'] 73) = W2 := ⟨_, rfl⟩
    have hbW : Below w.heap.size w W2 := by rw [← hW2]; exact ((Below.refl _ _).alloc (Nat.le_refl _) _).alloc (by simp) _
    have hzW : W2.heap.size = w.heap.size + 1 + 1 := by rw [← hW2]; simp
    rw [hW2] at b1 b2
    rw [World.size_alloc] at b2
    have HW := Lib.hid hW2
    have HBW := Lib.hid hbW
    have HZ := Lib.hid hzW
    have HB1 := Lib.hid (fun (W : World) (hW : Below W2.heap.size W2 W) (i : Nat) => (hW.cell (p := ⟨w.heap.size, i, none⟩) b1.lt).trans (b1.cell i))
    have HB2 := Lib.hid (fun (W : World) (hW : Below W2.heap.size W2 W) (i : Nat) => (hW.cell (p := ⟨w.heap.size + 1, i, none⟩) b2.lt).trans (b2.cell i))
    clear b1 b2 hW2 hbW hzW
    by_cases e0 : nm.data.toList = nm'.data.toList
    · have d0 := nm_same e0
      have z0 := Lib.hid (show nmSame nm nm' = true by unfold nmSame; simpa using e0)
      have HS := Lib.hid (HS.out.trans (by rw [z0.out, Bool.true_and]))
      clear e0
      by_cases e1 : vr.data.toList = vr'.data.toList
      · have d1 := nm_same e1
        have z1 := Lib.hid (show nmSame vr vr' = true by unfold nmSame; simpa using e1)
        have HS := Lib.hid (HS.out.trans (by rw [z1.out, Bool.true_and]))
        clear e1
        cases v1 with
        | false =>
          have HE := Lib.hid (show RES = false by rw [HS.out] <;> simp)
          go_enter Try.func50, Try.ntmps50
          go_wp2_with fail
          rw [HW.out]
          have x0W2 := HB1.out W2 (Below.refl W2.heap.size W2) 0
          have y0W2 := HB2.out W2 (Below.refl W2.heap.size W2) 0
          have x1W2 := HB1.out W2 (Below.refl W2.heap.size W2) 1
          have y1W2 := HB2.out W2 (Below.refl W2.heap.size W2) 1
          have x2W2 := HB1.out W2 (Below.refl W2.heap.size W2) 2
          have y2W2 := HB2.out W2 (Below.refl W2.heap.size W2) 2
          have x3W2 := HB1.out W2 (Below.refl W2.heap.size W2) 3
          have y3W2 := HB2.out W2 (Below.refl W2.heap.size W2) 3
          have x4W2 := HB1.out W2 (Below.refl W2.heap.size W2) 4
          have y4W2 := HB2.out W2 (Below.refl W2.heap.size W2) 4
          have x5W2 := HB1.out W2 (Below.refl W2.heap.size W2) 5
          have y5W2 := HB2.out W2 (Below.refl W2.heap.size W2) 5
          simp only [List.getElem?_toArray, List.getElem?_cons_succ, List.getElem?_cons_zero] at x0W2 y0W2 x1W2 y1W2 x2W2 y2W2 x3W2 y3W2 x4W2 y4W2 x5W2 y5W2
          have hk1 : Below W2.heap.size W2 W2 := Below.refl _ _
          have hc1 := HBW.out
          go_wp2_with (go_at_call 23; (with_reducible refine (C1.out _ hc1).mono ?_); rintro e w2 ⟨rfl, hb2⟩; (have hk2 : Below W2.heap.size W2 w2 := hk1.trans (hb2.mono hk1.size)); (have hc2 : Below w.heap.size w w2 := HBW.out.trans (hk2.mono HBW.out.size)); (have x0w2 := HB1.out w2 hk2 0); (have y0w2 := HB2.out w2 hk2 0); (have x1w2 := HB1.out w2 hk2 1); (have y1w2 := HB2.out w2 hk2 1); (have x2w2 := HB1.out w2 hk2 2); (have y2w2 := HB2.out w2 hk2 2); (have x3w2 := HB1.out w2 hk2 3); (have y3w2 := HB2.out w2 hk2 3); (have x4w2 := HB1.out w2 hk2 4); (have y4w2 := HB2.out w2 hk2 4); (have x5w2 := HB1.out w2 hk2 5); (have y5w2 := HB2.out w2 hk2 5); (simp only [List.getElem?_toArray, List.getElem?_cons_succ, List.getElem?_cons_zero] at x0w2 y0w2 x1w2 y1w2 x2w2 y2w2 x3w2 y3w2 x4w2 y4w2 x5w2 y5w2))
          go_ret
          exact ⟨ret_bool HE.out.symm, hc2⟩
        | true =>
          have HS := Lib.hid (HS.out.trans (by rw [Bool.true_and]))
          by_cases e3 : l = l'
          · subst e3
            go_enter Try.func50, Try.ntmps50
            go_wp2_with fail
            rw [HW.out]
            have x0W2 := HB1.out W2 (Below.refl W2.heap.size W2) 0
            have y0W2 := HB2.out W2 (Below.refl W2.heap.size W2) 0
            have x1W2 := HB1.out W2 (Below.refl W2.heap.size W2) 1
            have y1W2 := HB2.out W2 (Below.refl W2.heap.size W2) 1
            have x2W2 := HB1.out W2 (Below.refl W2.heap.size W2) 2
            have y2W2 := HB2.out W2 (Below.refl W2.heap.size W2) 2
            have x3W2 := HB1.out W2 (Below.refl W2.heap.size W2) 3
            have y3W2 := HB2.out W2 (Below.refl W2.heap.size W2) 3
            have x4W2 := HB1.out W2 (Below.refl W2.heap.size W2) 4
            have y4W2 := HB2.out W2 (Below.refl W2.heap.size W2) 4
            have x5W2 := HB1.out W2 (Below.refl W2.heap.size W2) 5
            have y5W2 := HB2.out W2 (Below.refl W2.heap.size W2) 5
            simp only [List.getElem?_toArray, List.getElem?_cons_succ, List.getElem?_cons_zero] at x0W2 y0W2 x1W2 y1W2 x2W2 y2W2 x3W2 y3W2 x4W2 y4W2 x5W2 y5W2
            have hk1 : Below W2.heap.size W2 W2 := Below.refl _ _
            have hc1 := HBW.out
            go_wp2_with (go_at_call 23; (with_reducible refine (C1.out _ hc1).mono ?_); rintro e w2 ⟨rfl, hb2⟩; (have hk2 : Below W2.heap.size W2 w2 := hk1.trans (hb2.mono hk1.size)); (have hc2 : Below w.heap.size w w2 := HBW.out.trans (hk2.mono HBW.out.size)); (have x0w2 := HB1.out w2 hk2 0); (have y0w2 := HB2.out w2 hk2 0); (have x1w2 := HB1.out w2 hk2 1); (have y1w2 := HB2.out w2 hk2 1); (have x2w2 := HB1.out w2 hk2 2); (have y2w2 := HB2.out w2 hk2 2); (have x3w2 := HB1.out w2 hk2 3); (have y3w2 := HB2.out w2 hk2 3); (have x4w2 := HB1.out w2 hk2 4); (have y4w2 := HB2.out w2 hk2 4); (have x5w2 := HB1.out w2 hk2 5); (have y5w2 := HB2.out w2 hk2 5); (simp only [List.getElem?_toArray, List.getElem?_cons_succ, List.getElem?_cons_zero] at x0w2 y0w2 x1w2 y1w2 x2w2 y2w2 x3w2 y3w2 x4w2 y4w2 x5w2 y5w2))
            have HK := Lib.hid hk2
            clear hk2 hc2 x0w2 y0w2 x1w2 y1w2 x2w2 y2w2 x3w2 y3w2 x4w2 y4w2 x5w2 y5w2
            go_loopw [5] (fun i wr => ∃ j : Nat, i = .int .i64 j ∧ j ≤ l ∧ (∀ x, x < j → pairAt meSame ms ms' x = true) ∧ Below W2.heap.size W2 wr) (fun i _ => l - (intOf i).toNat)
            case atStart => exact ⟨0, rfl, Nat.zero_le _, fun x h => by omega, HK.out⟩
            case round =>
              obtain ⟨j, rfl, hj, hall, hbel⟩ := hrel
              have x3wr := HB1.out wr hbel 3
              have y3wr := HB2.out wr hbel 3
              simp only [List.getElem?_toArray, List.getElem?_cons_succ, List.getElem?_cons_zero] at x3wr y3wr
              have HALL := Lib.hid hall
              have HBE := Lib.hid hbel
              clear hall hbel
              by_cases hlt : j < l
              · have hkx : j < ms.length := by rw [HLms.out]; exact hlt
                have hky : j < ms'.length := by rw [HLms'.out]; exact hlt
                have hbw := (HBW.out.mono hB).trans (HBE.out.mono (Nat.le_trans hB HBW.out.size))
                obtain ⟨LX, hrx, hex⟩ := Hms.out.ex
                obtain ⟨LY, hry, hey⟩ := Hms'.out.ex
                have hrx' := hrx.later hbw
                have hry' := hry.later hbw
                obtain ⟨g, o, eA, hg, hlx, h5, hcx⟩ := elem_cells hrx' (by omega) hkx
                obtain ⟨g', o', eA', hg', hly, h5', hcy⟩ := elem_cells hry' (by omega) hky
                subst eA
                subst eA'
                have hexj := hex j hlx hkx
                have heyj := hey j hly hky
                have hpair := pairAt_of meSame ms ms' j hkx hky
                generalize LX[j] = lx at hexj hcx
                generalize LY[j] = ly at heyj hcy
                generalize ms[j] = ex at hexj hpair
                generalize ms'[j] = ey at heyj hpair
                have hjx := MeAt.later hexj hbw
                have hjy := MeAt.later heyj hbw
                clear hexj heyj
                cases hjx with
                | @mk n1 t1 T1 q1 g1 =>
                cases hjy with
                | @mk n2 t2 T2 q2 g2 =>
                obtain ⟨a0, a1, a2, a3, rfl⟩ := four_of g1.four
                obtain ⟨f0, f1, f2, f3, rfl⟩ := four_of g2.four
                have u0 : wr.cell? ⟨g, o + j * 6, none⟩ = some (.string n1) := hcx 0 _ rfl
                have v0 : wr.cell? ⟨g', o' + j * 6, none⟩ = some (.string n2) := hcy 0 _ rfl
                have u1 : wr.cell? ⟨g, o + j * 6 + 1, none⟩ = some (a0) := hcx 1 _ rfl
                have v1 : wr.cell? ⟨g', o' + j * 6 + 1, none⟩ = some (f0) := hcy 1 _ rfl
                have u2 : wr.cell? ⟨g, o + j * 6 + 1 + 1, none⟩ = some (a1) := hcx 2 _ rfl
                have v2 : wr.cell? ⟨g', o' + j * 6 + 1 + 1, none⟩ = some (f1) := hcy 2 _ rfl
                have u3 : wr.cell? ⟨g, o + j * 6 + 1 + 2, none⟩ = some (a2) := hcx 3 _ rfl
                have v3 : wr.cell? ⟨g', o' + j * 6 + 1 + 2, none⟩ = some (f2) := hcy 3 _ rfl
                have u4 : wr.cell? ⟨g, o + j * 6 + 1 + 3, none⟩ = some (a3) := hcx 4 _ rfl
                have v4 : wr.cell? ⟨g', o' + j * 6 + 1 + 3, none⟩ = some (f3) := hcy 4 _ rfl
                obtain ⟨v, hv⟩ : ∃ v, tySame t1 t2 = v := ⟨_, rfl⟩
                have hpair2 : pairAt meSame ms ms' j = (nmSame n1 n2 && v) := by rw [hpair, ← hv]; rfl
                have HP := Lib.hid hpair2
                have hBr : B ≤ wr.heap.size := Nat.le_trans (Nat.le_trans hB HBW.out.size) HBE.out.size
                have HC := Lib.hid (fun W (hb : Below wr.heap.size wr W) => show Calls Try.prog 17 #[.agg #[a0, a1, a2, a3], .agg #[f0, f1, f2, f3]] W (fun e w2 => e = .returned (.bool v) ∧ Below wr.heap.size wr w2) from (rsametype_any _ t1 t2 (Nat.le_refl _) B W [a0, a1, a2, a3] [f0, f1, f2, f3] (Nat.le_trans hBr hb.size) (g1.later (hb.mono hBr)) (g2.later (hb.mono hBr))).mono fun e w2 h => by rw [hv] at h; exact ⟨h.1, hb.trans (h.2.mono hb.size)⟩)
                have hgl : g < wr.heap.size := Nat.lt_of_lt_of_le hg hBr
                have hgl' : g' < wr.heap.size := Nat.lt_of_lt_of_le hg' hBr
                have hh1 : w.heap.size < wr.heap.size := by have := HZ.out; have := HBE.out.size; omega
                have hh2 : w.heap.size + 1 < wr.heap.size := by have := HZ.out; have := HBE.out.size; omega
                have hB0 : Below wr.heap.size wr wr.drew := (Below.refl _ _).drew
                clear hbw hrx hry hrx' hry' hex hey hcx hcy h5 h5' hv hpair hpair2 hlx hly g1 g2
                by_cases en : n1.data.toList = n2.data.toList
                · have dn := nm_same en
                  have zn : nmSame n1 n2 = true := by unfold nmSame; simpa using en
                  have HZN := Lib.hid zn
                  clear en zn
                  cases v with
                  | true =>
                    go_wp2_with fail
                    go_region_held3 (fun w' => w'.cell? ⟨w.heap.size, 3, none⟩ = some (.slice (some ⟨g, o, none⟩) l cm) ∧ w'.cell? ⟨w.heap.size + 1, 3, none⟩ = some (.slice (some ⟨g', o', none⟩) l cm') ∧ w'.cell? ⟨g, o + j * 6, none⟩ = some (.string n1) ∧ w'.cell? ⟨g, o + j * 6 + 1, none⟩ = some (a0) ∧ w'.cell? ⟨g, o + j * 6 + 1 + 1, none⟩ = some (a1) ∧ w'.cell? ⟨g, o + j * 6 + 1 + 2, none⟩ = some (a2) ∧ w'.cell? ⟨g, o + j * 6 + 1 + 3, none⟩ = some (a3) ∧ w'.cell? ⟨g', o' + j * 6, none⟩ = some (.string n2) ∧ w'.cell? ⟨g', o' + j * 6 + 1, none⟩ = some (f0) ∧ w'.cell? ⟨g', o' + j * 6 + 1 + 1, none⟩ = some (f1) ∧ w'.cell? ⟨g', o' + j * 6 + 1 + 2, none⟩ = some (f2) ∧ w'.cell? ⟨g', o' + j * 6 + 1 + 3, none⟩ = some (f3) ∧ Below wr.heap.size wr w')
                      (((try dsimp only); (repeat' apply And.intro) <;> (first | assumption | exact cell_kept (by assumption) hgl (by assumption) | exact cell_kept (by assumption) hgl' (by assumption) | exact cell_kept (by assumption) hh1 (by assumption) | exact cell_kept (by assumption) hh2 (by assumption))))
                      (first | (go_at_call 17; (with_reducible refine (HC.out _ (by assumption)).mono ?_); rintro e w5 ⟨rfl, hb5⟩))
                    clear hB0
                    go_wp2_with fail
                    go_roundw
                    case rel => exact ⟨j + 1, by go_num, by omega, fun x h => by
                      rcases Nat.lt_or_ge x j with h1 | h1
                      · exact HALL.out x h1
                      · have : x = j := by omega
                        subst this; rw [HP.out, HZN.out]; rfl, HBE.out.trans ((by assumption : Below wr.heap.size wr _).mono HBE.out.size)⟩
                    case measure => simp [intOf]; omega
                  | false =>
                    have HF := Lib.hid (show RES = false by rw [HS.out, list_no hkx (HP.out.trans (by simp))] <;> simp)
                    go_wp2_with fail
                    go_region_held3 (fun w' => w'.cell? ⟨w.heap.size, 3, none⟩ = some (.slice (some ⟨g, o, none⟩) l cm) ∧ w'.cell? ⟨w.heap.size + 1, 3, none⟩ = some (.slice (some ⟨g', o', none⟩) l cm') ∧ w'.cell? ⟨g, o + j * 6, none⟩ = some (.string n1) ∧ w'.cell? ⟨g, o + j * 6 + 1, none⟩ = some (a0) ∧ w'.cell? ⟨g, o + j * 6 + 1 + 1, none⟩ = some (a1) ∧ w'.cell? ⟨g, o + j * 6 + 1 + 2, none⟩ = some (a2) ∧ w'.cell? ⟨g, o + j * 6 + 1 + 3, none⟩ = some (a3) ∧ w'.cell? ⟨g', o' + j * 6, none⟩ = some (.string n2) ∧ w'.cell? ⟨g', o' + j * 6 + 1, none⟩ = some (f0) ∧ w'.cell? ⟨g', o' + j * 6 + 1 + 1, none⟩ = some (f1) ∧ w'.cell? ⟨g', o' + j * 6 + 1 + 2, none⟩ = some (f2) ∧ w'.cell? ⟨g', o' + j * 6 + 1 + 3, none⟩ = some (f3) ∧ Below wr.heap.size wr w')
                      (((try dsimp only); (repeat' apply And.intro) <;> (first | assumption | exact cell_kept (by assumption) hgl (by assumption) | exact cell_kept (by assumption) hgl' (by assumption) | exact cell_kept (by assumption) hh1 (by assumption) | exact cell_kept (by assumption) hh2 (by assumption))))
                      (first | (go_at_call 17; (with_reducible refine (HC.out _ (by assumption)).mono ?_); rintro e w5 ⟨rfl, hb5⟩))
                    clear hB0
                    go_wp2_with fail
                    go_ret
                    exact ⟨ret_bool HF.out.symm, HBW.out.trans ((HBE.out.trans ((by assumption : Below wr.heap.size wr _).mono HBE.out.size)).mono (by have := HZ.out; omega))⟩
                · have dn := nm_other en
                  have HF := Lib.hid (show RES = false by rw [HS.out, list_no hkx (HP.out.trans (by rw [show nmSame n1 n2 = false by unfold nmSame; simpa using en]; rfl))] <;> simp)
                  clear en hB0
                  go_wp2_with fail
                  go_quiet (fail)
                  go_wp2_with fail
                  go_ret
                  exact ⟨ret_bool HF.out.symm, HBW.out.trans ((below_drewN HBE.out _).mono (by have := HZ.out; omega))⟩
              · have HTms := Lib.hid (list_yes (f := meSame) (xs := ms) (ys := ms') (by rw [HLms.out, HLms'.out]) (fun x h => HALL.out x (by have := HLms.out; omega)))
                have hk2 := HBE.out
                have hc2 := HBW.out.trans (hk2.mono HBW.out.size)
                have x0wr := HB1.out wr hk2 0
                have y0wr := HB2.out wr hk2 0
                have x1wr := HB1.out wr hk2 1
                have y1wr := HB2.out wr hk2 1
                have x2wr := HB1.out wr hk2 2
                have y2wr := HB2.out wr hk2 2
                have x3wr := HB1.out wr hk2 3
                have y3wr := HB2.out wr hk2 3
                have x4wr := HB1.out wr hk2 4
                have y4wr := HB2.out wr hk2 4
                have x5wr := HB1.out wr hk2 5
                have y5wr := HB2.out wr hk2 5
                simp only [List.getElem?_toArray, List.getElem?_cons_succ, List.getElem?_cons_zero] at x0wr y0wr x1wr y1wr x2wr y2wr x3wr y3wr x4wr y4wr x5wr y5wr
                have HE := Lib.hid (show RES = v2 by rw [HS.out, HTms.out] <;> simp)
                go_wp2_with (go_at_call 39; (with_reducible refine (C2.out _ hc2).mono ?_); rintro e w3 ⟨rfl, hb3⟩; (have hk3 : Below W2.heap.size W2 w3 := hk2.trans (hb3.mono hk2.size)); (have hc3 : Below w.heap.size w w3 := HBW.out.trans (hk3.mono HBW.out.size)); (have x0w3 := HB1.out w3 hk3 0); (have y0w3 := HB2.out w3 hk3 0); (have x1w3 := HB1.out w3 hk3 1); (have y1w3 := HB2.out w3 hk3 1); (have x2w3 := HB1.out w3 hk3 2); (have y2w3 := HB2.out w3 hk3 2); (have x3w3 := HB1.out w3 hk3 3); (have y3w3 := HB2.out w3 hk3 3); (have x4w3 := HB1.out w3 hk3 4); (have y4w3 := HB2.out w3 hk3 4); (have x5w3 := HB1.out w3 hk3 5); (have y5w3 := HB2.out w3 hk3 5); (simp only [List.getElem?_toArray, List.getElem?_cons_succ, List.getElem?_cons_zero] at x0w3 y0w3 x1w3 y1w3 x2w3 y2w3 x3w3 y3w3 x4w3 y4w3 x5w3 y5w3))
                go_ret
                exact ⟨ret_bool HE.out.symm, hc3⟩
          · have d3 : ((l : Int) != (l' : Int)) = true := by simp; omega
            have HE := Lib.hid (show RES = false by rw [HS.out, list_len (f := meSame) (xs := ms) (ys := ms') (by rw [HLms.out, HLms'.out]; exact e3)] <;> simp)
            clear e3
            go_enter Try.func50, Try.ntmps50
            go_wp2_with fail
            rw [HW.out]
            have x0W2 := HB1.out W2 (Below.refl W2.heap.size W2) 0
            have y0W2 := HB2.out W2 (Below.refl W2.heap.size W2) 0
            have x1W2 := HB1.out W2 (Below.refl W2.heap.size W2) 1
            have y1W2 := HB2.out W2 (Below.refl W2.heap.size W2) 1
            have x2W2 := HB1.out W2 (Below.refl W2.heap.size W2) 2
            have y2W2 := HB2.out W2 (Below.refl W2.heap.size W2) 2
            have x3W2 := HB1.out W2 (Below.refl W2.heap.size W2) 3
            have y3W2 := HB2.out W2 (Below.refl W2.heap.size W2) 3
            have x4W2 := HB1.out W2 (Below.refl W2.heap.size W2) 4
            have y4W2 := HB2.out W2 (Below.refl W2.heap.size W2) 4
            have x5W2 := HB1.out W2 (Below.refl W2.heap.size W2) 5
            have y5W2 := HB2.out W2 (Below.refl W2.heap.size W2) 5
            simp only [List.getElem?_toArray, List.getElem?_cons_succ, List.getElem?_cons_zero] at x0W2 y0W2 x1W2 y1W2 x2W2 y2W2 x3W2 y3W2 x4W2 y4W2 x5W2 y5W2
            have hk1 : Below W2.heap.size W2 W2 := Below.refl _ _
            have hc1 := HBW.out
            go_wp2_with (go_at_call 23; (with_reducible refine (C1.out _ hc1).mono ?_); rintro e w2 ⟨rfl, hb2⟩; (have hk2 : Below W2.heap.size W2 w2 := hk1.trans (hb2.mono hk1.size)); (have hc2 : Below w.heap.size w w2 := HBW.out.trans (hk2.mono HBW.out.size)); (have x0w2 := HB1.out w2 hk2 0); (have y0w2 := HB2.out w2 hk2 0); (have x1w2 := HB1.out w2 hk2 1); (have y1w2 := HB2.out w2 hk2 1); (have x2w2 := HB1.out w2 hk2 2); (have y2w2 := HB2.out w2 hk2 2); (have x3w2 := HB1.out w2 hk2 3); (have y3w2 := HB2.out w2 hk2 3); (have x4w2 := HB1.out w2 hk2 4); (have y4w2 := HB2.out w2 hk2 4); (have x5w2 := HB1.out w2 hk2 5); (have y5w2 := HB2.out w2 hk2 5); (simp only [List.getElem?_toArray, List.getElem?_cons_succ, List.getElem?_cons_zero] at x0w2 y0w2 x1w2 y1w2 x2w2 y2w2 x3w2 y3w2 x4w2 y4w2 x5w2 y5w2))
            go_ret
            exact ⟨ret_bool HE.out.symm, hc2⟩
      · have d1 := nm_other e1
        have HE := Lib.hid (show RES = false by rw [HS.out, show nmSame vr vr' = false by unfold nmSame; simpa using e1] <;> simp)
        clear e1
        go_enter Try.func50, Try.ntmps50
        go_wp2_with fail
        rw [HW.out]
        have x0W2 := HB1.out W2 (Below.refl W2.heap.size W2) 0
        have y0W2 := HB2.out W2 (Below.refl W2.heap.size W2) 0
        have x1W2 := HB1.out W2 (Below.refl W2.heap.size W2) 1
        have y1W2 := HB2.out W2 (Below.refl W2.heap.size W2) 1
        have x2W2 := HB1.out W2 (Below.refl W2.heap.size W2) 2
        have y2W2 := HB2.out W2 (Below.refl W2.heap.size W2) 2
        have x3W2 := HB1.out W2 (Below.refl W2.heap.size W2) 3
        have y3W2 := HB2.out W2 (Below.refl W2.heap.size W2) 3
        have x4W2 := HB1.out W2 (Below.refl W2.heap.size W2) 4
        have y4W2 := HB2.out W2 (Below.refl W2.heap.size W2) 4
        have x5W2 := HB1.out W2 (Below.refl W2.heap.size W2) 5
        have y5W2 := HB2.out W2 (Below.refl W2.heap.size W2) 5
        simp only [List.getElem?_toArray, List.getElem?_cons_succ, List.getElem?_cons_zero] at x0W2 y0W2 x1W2 y1W2 x2W2 y2W2 x3W2 y3W2 x4W2 y4W2 x5W2 y5W2
        have hk1 : Below W2.heap.size W2 W2 := Below.refl _ _
        have hc1 := HBW.out
        go_wp2_with fail
        go_ret
        exact ⟨ret_bool HE.out.symm, hc1⟩
    · have d0 := nm_other e0
      have HE := Lib.hid (show RES = false by rw [HS.out, show nmSame nm nm' = false by unfold nmSame; simpa using e0] <;> simp)
      clear e0
      go_enter Try.func50, Try.ntmps50
      go_wp2_with fail
      rw [HW.out]
      have x0W2 := HB1.out W2 (Below.refl W2.heap.size W2) 0
      have y0W2 := HB2.out W2 (Below.refl W2.heap.size W2) 0
      have x1W2 := HB1.out W2 (Below.refl W2.heap.size W2) 1
      have y1W2 := HB2.out W2 (Below.refl W2.heap.size W2) 1
      have x2W2 := HB1.out W2 (Below.refl W2.heap.size W2) 2
      have y2W2 := HB2.out W2 (Below.refl W2.heap.size W2) 2
      have x3W2 := HB1.out W2 (Below.refl W2.heap.size W2) 3
      have y3W2 := HB2.out W2 (Below.refl W2.heap.size W2) 3
      have x4W2 := HB1.out W2 (Below.refl W2.heap.size W2) 4
      have y4W2 := HB2.out W2 (Below.refl W2.heap.size W2) 4
      have x5W2 := HB1.out W2 (Below.refl W2.heap.size W2) 5
      have y5W2 := HB2.out W2 (Below.refl W2.heap.size W2) 5
      simp only [List.getElem?_toArray, List.getElem?_cons_succ, List.getElem?_cons_zero] at x0W2 y0W2 x1W2 y1W2 x2W2 y2W2 x3W2 y3W2 x4W2 y4W2 x5W2 y5W2
      have hk1 : Below W2.heap.size W2 W2 := Below.refl _ _
      have hc1 := HBW.out
      go_wp2_with fail
      go_ret
      exact ⟨ret_bool HE.out.symm, hc1⟩

set_option maxHeartbeats 6400000 in
theorem rsameinst (t u : Ins) (B : Nat) (w : World) (cs0 ds0 : List Value) (hB : B ≤ w.heap.size) (hx : InAt w B cs0 t) (hy : InAt w B ds0 u) :
    Calls Try.prog 51 #[.agg cs0.toArray, .agg ds0.toArray] w fun e w' => e = .returned (.bool (inSame t u)) ∧ Below w.heap.size w w' := by
  cases hx with
  | @mk nm t T A Ab c cb ps bs q h1 h2 ht hp hb0 =>
  cases hy with
  | @mk nm' t' T' A' Ab' c' cb' ps' bs' q' h1' h2' ht' hp' hb0' =>
    obtain ⟨a0, a1, a2, a3, rfl⟩ := four_of ht.four
    obtain ⟨f0, f1, f2, f3, rfl⟩ := four_of ht'.four
    have sa0 := store_one a0 (ty_ones ht a0 (by simp))
    have sa1 := store_one a1 (ty_ones ht a1 (by simp))
    have sa2 := store_one a2 (ty_ones ht a2 (by simp))
    have sa3 := store_one a3 (ty_ones ht a3 (by simp))
    have sf0 := store_one f0 (ty_ones ht' f0 (by simp))
    have sf1 := store_one f1 (ty_ones ht' f1 (by simp))
    have sf2 := store_one f2 (ty_ones ht' f2 (by simp))
    have sf3 := store_one f3 (ty_ones ht' f3 (by simp))
    have C10 := fun W (hb : Below w.heap.size w W) => rsametype_any _ t t' (Nat.le_refl _) B W [a0, a1, a2, a3] [f0, f1, f2, f3] (Nat.le_trans hB hb.size) (ht.later (hb.mono hB)) (ht'.later (hb.mono hB))
    have C20 := fun W (hb : Below w.heap.size w W) => rl_bd bs bs' Ab Ab' cb cb' B W (Nat.le_trans hB hb.size) h2 (RowOf.later (R := fun w => BdAt w B) hb0 (hb.mono hB) fun _ _ h => BdAt.later h (hb.mono hB)) (RowOf.later (R := fun w => BdAt w B) hb0' (hb.mono hB) fun _ _ h => BdAt.later h (hb.mono hB))
    obtain ⟨RES, hRES⟩ : ∃ r, inSame ⟨nm, t, ps, bs⟩ ⟨nm', t', ps', bs'⟩ = r := ⟨_, rfl⟩
    rw [hRES]
    have hS0 : RES = (nmSame nm nm' && (tySame t t' && (listSame meSame ps ps' && listSame bdSame bs bs'))) := by rw [← hRES]; rfl
    obtain ⟨v1, hv1⟩ : ∃ v, tySame t t' = v := ⟨_, rfl⟩
    rw [hv1] at hS0 C10
    obtain ⟨v2, hv2⟩ : ∃ v, listSame bdSame bs bs' = v := ⟨_, rfl⟩
    rw [hv2] at hS0 C20
    obtain ⟨l, hl⟩ : ∃ l, ps.length = l := ⟨_, rfl⟩
    have HLps := Lib.hid hl
    have Hps := Lib.hid hp
    have h9l : l ≤ 9223372036854775807 := by have h9 := h1; unfold maxLen at h9; omega
    obtain ⟨l', hl'⟩ : ∃ l, ps'.length = l := ⟨_, rfl⟩
    have HLps' := Lib.hid hl'
    have Hps' := Lib.hid hp'
    have h9l' : l' ≤ 9223372036854775807 := by have h9 := h1'; unfold maxLen at h9; omega
    have HS := Lib.hid hS0
    have C1 := Lib.hid C10
    have C2 := Lib.hid C20
    try simp only [List.cons_append, List.nil_append]
    rw [hl, hl']
    clear hS0 hRES hv1 C10 hv2 C20 hl hl' hp hp'
    have b1 := (Blk.new w 76 #[.string nm, a0, a1, a2, a3, .slice A l c, .slice Ab bs.length cb, .int .i64 q]).alloc (.cells #[.string nm', f0, f1, f2, f3, .slice A' l' c', .slice Ab' bs'.length cb', .int .i64 q'] 76)
    have b2 := Blk.new (w.alloc (.cells #[.string nm, a0, a1, a2, a3, .slice A l c, .slice Ab bs.length cb, .int .i64 q] 76)) 76 #[.string nm', f0, f1, f2, f3, .slice A' l' c', .slice Ab' bs'.length cb', .int .i64 q']
    obtain ⟨W2, hW2⟩ : ∃ W2, (w.alloc (.cells #[.string nm, a0, a1, a2, a3, .slice A l c, .slice Ab bs.length cb, .int .i64 q] 76)).alloc (.cells #[.string nm', f0, f1, f2, f3, .slice A' l' c', .slice Ab' bs'.length cb', .int .i64 q'] 76) = W2 := ⟨_, rfl⟩
    have hbW : Below w.heap.size w W2 := by rw [← hW2]; exact ((Below.refl _ _).alloc (Nat.le_refl _) _).alloc (by simp) _
    have hzW : W2.heap.size = w.heap.size + 1 + 1 := by rw [← hW2]; simp
    rw [hW2] at b1 b2
    rw [World.size_alloc] at b2
    have HW := Lib.hid hW2
    have HBW := Lib.hid hbW
    have HZ := Lib.hid hzW
    have HB1 := Lib.hid (fun (W : World) (hW : Below W2.heap.size W2 W) (i : Nat) => (hW.cell (p := ⟨w.heap.size, i, none⟩) b1.lt).trans (b1.cell i))
    have HB2 := Lib.hid (fun (W : World) (hW : Below W2.heap.size W2 W) (i : Nat) => (hW.cell (p := ⟨w.heap.size + 1, i, none⟩) b2.lt).trans (b2.cell i))
    clear b1 b2 hW2 hbW hzW
    by_cases e0 : nm.data.toList = nm'.data.toList
    · have d0 := nm_same e0
      have z0 := Lib.hid (show nmSame nm nm' = true by unfold nmSame; simpa using e0)
      have HS := Lib.hid (HS.out.trans (by rw [z0.out, Bool.true_and]))
      clear e0
      cases v1 with
      | false =>
        have HE := Lib.hid (show RES = false by rw [HS.out] <;> simp)
        go_enter Try.func51, Try.ntmps51
        go_wp2_with fail
        rw [HW.out]
        have x0W2 := HB1.out W2 (Below.refl W2.heap.size W2) 0
        have y0W2 := HB2.out W2 (Below.refl W2.heap.size W2) 0
        have x1W2 := HB1.out W2 (Below.refl W2.heap.size W2) 1
        have y1W2 := HB2.out W2 (Below.refl W2.heap.size W2) 1
        have x2W2 := HB1.out W2 (Below.refl W2.heap.size W2) 2
        have y2W2 := HB2.out W2 (Below.refl W2.heap.size W2) 2
        have x3W2 := HB1.out W2 (Below.refl W2.heap.size W2) 3
        have y3W2 := HB2.out W2 (Below.refl W2.heap.size W2) 3
        have x4W2 := HB1.out W2 (Below.refl W2.heap.size W2) 4
        have y4W2 := HB2.out W2 (Below.refl W2.heap.size W2) 4
        have x5W2 := HB1.out W2 (Below.refl W2.heap.size W2) 5
        have y5W2 := HB2.out W2 (Below.refl W2.heap.size W2) 5
        have x6W2 := HB1.out W2 (Below.refl W2.heap.size W2) 6
        have y6W2 := HB2.out W2 (Below.refl W2.heap.size W2) 6
        have x7W2 := HB1.out W2 (Below.refl W2.heap.size W2) 7
        have y7W2 := HB2.out W2 (Below.refl W2.heap.size W2) 7
        simp only [List.getElem?_toArray, List.getElem?_cons_succ, List.getElem?_cons_zero] at x0W2 y0W2 x1W2 y1W2 x2W2 y2W2 x3W2 y3W2 x4W2 y4W2 x5W2 y5W2 x6W2 y6W2 x7W2 y7W2
        have hk1 : Below W2.heap.size W2 W2 := Below.refl _ _
        have hc1 := HBW.out
        go_wp2_with (go_at_call 17; (with_reducible refine (C1.out _ hc1).mono ?_); rintro e w2 ⟨rfl, hb2⟩; (have hk2 : Below W2.heap.size W2 w2 := hk1.trans (hb2.mono hk1.size)); (have hc2 : Below w.heap.size w w2 := HBW.out.trans (hk2.mono HBW.out.size)); (have x0w2 := HB1.out w2 hk2 0); (have y0w2 := HB2.out w2 hk2 0); (have x1w2 := HB1.out w2 hk2 1); (have y1w2 := HB2.out w2 hk2 1); (have x2w2 := HB1.out w2 hk2 2); (have y2w2 := HB2.out w2 hk2 2); (have x3w2 := HB1.out w2 hk2 3); (have y3w2 := HB2.out w2 hk2 3); (have x4w2 := HB1.out w2 hk2 4); (have y4w2 := HB2.out w2 hk2 4); (have x5w2 := HB1.out w2 hk2 5); (have y5w2 := HB2.out w2 hk2 5); (have x6w2 := HB1.out w2 hk2 6); (have y6w2 := HB2.out w2 hk2 6); (have x7w2 := HB1.out w2 hk2 7); (have y7w2 := HB2.out w2 hk2 7); (simp only [List.getElem?_toArray, List.getElem?_cons_succ, List.getElem?_cons_zero] at x0w2 y0w2 x1w2 y1w2 x2w2 y2w2 x3w2 y3w2 x4w2 y4w2 x5w2 y5w2 x6w2 y6w2 x7w2 y7w2))
        go_ret
        exact ⟨ret_bool HE.out.symm, hc2⟩
      | true =>
        have HS := Lib.hid (HS.out.trans (by rw [Bool.true_and]))
        by_cases e2 : l = l'
        · subst e2
          go_enter Try.func51, Try.ntmps51
          go_wp2_with fail
          rw [HW.out]
          have x0W2 := HB1.out W2 (Below.refl W2.heap.size W2) 0
          have y0W2 := HB2.out W2 (Below.refl W2.heap.size W2) 0
          have x1W2 := HB1.out W2 (Below.refl W2.heap.size W2) 1
          have y1W2 := HB2.out W2 (Below.refl W2.heap.size W2) 1
          have x2W2 := HB1.out W2 (Below.refl W2.heap.size W2) 2
          have y2W2 := HB2.out W2 (Below.refl W2.heap.size W2) 2
          have x3W2 := HB1.out W2 (Below.refl W2.heap.size W2) 3
          have y3W2 := HB2.out W2 (Below.refl W2.heap.size W2) 3
          have x4W2 := HB1.out W2 (Below.refl W2.heap.size W2) 4
          have y4W2 := HB2.out W2 (Below.refl W2.heap.size W2) 4
          have x5W2 := HB1.out W2 (Below.refl W2.heap.size W2) 5
          have y5W2 := HB2.out W2 (Below.refl W2.heap.size W2) 5
          have x6W2 := HB1.out W2 (Below.refl W2.heap.size W2) 6
          have y6W2 := HB2.out W2 (Below.refl W2.heap.size W2) 6
          have x7W2 := HB1.out W2 (Below.refl W2.heap.size W2) 7
          have y7W2 := HB2.out W2 (Below.refl W2.heap.size W2) 7
          simp only [List.getElem?_toArray, List.getElem?_cons_succ, List.getElem?_cons_zero] at x0W2 y0W2 x1W2 y1W2 x2W2 y2W2 x3W2 y3W2 x4W2 y4W2 x5W2 y5W2 x6W2 y6W2 x7W2 y7W2
          have hk1 : Below W2.heap.size W2 W2 := Below.refl _ _
          have hc1 := HBW.out
          go_wp2_with (go_at_call 17; (with_reducible refine (C1.out _ hc1).mono ?_); rintro e w2 ⟨rfl, hb2⟩; (have hk2 : Below W2.heap.size W2 w2 := hk1.trans (hb2.mono hk1.size)); (have hc2 : Below w.heap.size w w2 := HBW.out.trans (hk2.mono HBW.out.size)); (have x0w2 := HB1.out w2 hk2 0); (have y0w2 := HB2.out w2 hk2 0); (have x1w2 := HB1.out w2 hk2 1); (have y1w2 := HB2.out w2 hk2 1); (have x2w2 := HB1.out w2 hk2 2); (have y2w2 := HB2.out w2 hk2 2); (have x3w2 := HB1.out w2 hk2 3); (have y3w2 := HB2.out w2 hk2 3); (have x4w2 := HB1.out w2 hk2 4); (have y4w2 := HB2.out w2 hk2 4); (have x5w2 := HB1.out w2 hk2 5); (have y5w2 := HB2.out w2 hk2 5); (have x6w2 := HB1.out w2 hk2 6); (have y6w2 := HB2.out w2 hk2 6); (have x7w2 := HB1.out w2 hk2 7); (have y7w2 := HB2.out w2 hk2 7); (simp only [List.getElem?_toArray, List.getElem?_cons_succ, List.getElem?_cons_zero] at x0w2 y0w2 x1w2 y1w2 x2w2 y2w2 x3w2 y3w2 x4w2 y4w2 x5w2 y5w2 x6w2 y6w2 x7w2 y7w2))
          have HK := Lib.hid hk2
          clear hk2 hc2 x0w2 y0w2 x1w2 y1w2 x2w2 y2w2 x3w2 y3w2 x4w2 y4w2 x5w2 y5w2 x6w2 y6w2 x7w2 y7w2
          go_loopw [5] (fun i wr => ∃ j : Nat, i = .int .i64 j ∧ j ≤ l ∧ (∀ x, x < j → pairAt meSame ps ps' x = true) ∧ Below W2.heap.size W2 wr) (fun i _ => l - (intOf i).toNat)
          case atStart => exact ⟨0, rfl, Nat.zero_le _, fun x h => by omega, HK.out⟩
          case round =>
            obtain ⟨j, rfl, hj, hall, hbel⟩ := hrel
            have x5wr := HB1.out wr hbel 5
            have y5wr := HB2.out wr hbel 5
            simp only [List.getElem?_toArray, List.getElem?_cons_succ, List.getElem?_cons_zero] at x5wr y5wr
            have HALL := Lib.hid hall
            have HBE := Lib.hid hbel
            clear hall hbel
            by_cases hlt : j < l
            · have hkx : j < ps.length := by rw [HLps.out]; exact hlt
              have hky : j < ps'.length := by rw [HLps'.out]; exact hlt
              have hbw := (HBW.out.mono hB).trans (HBE.out.mono (Nat.le_trans hB HBW.out.size))
              obtain ⟨LX, hrx, hex⟩ := Hps.out.ex
              obtain ⟨LY, hry, hey⟩ := Hps'.out.ex
              have hrx' := hrx.later hbw
              have hry' := hry.later hbw
              obtain ⟨g, o, eA, hg, hlx, h5, hcx⟩ := elem_cells hrx' (by omega) hkx
              obtain ⟨g', o', eA', hg', hly, h5', hcy⟩ := elem_cells hry' (by omega) hky
              subst eA
              subst eA'
              have hexj := hex j hlx hkx
              have heyj := hey j hly hky
              have hpair := pairAt_of meSame ps ps' j hkx hky
              generalize LX[j] = lx at hexj hcx
              generalize LY[j] = ly at heyj hcy
              generalize ps[j] = ex at hexj hpair
              generalize ps'[j] = ey at heyj hpair
              have hjx := PrAt.later hexj hbw
              have hjy := PrAt.later heyj hbw
              clear hexj heyj
              cases hjx with
              | @mk n1 t1 T1 g1 =>
              cases hjy with
              | @mk n2 t2 T2 g2 =>
              obtain ⟨a0, a1, a2, a3, rfl⟩ := four_of g1.four
              obtain ⟨f0, f1, f2, f3, rfl⟩ := four_of g2.four
              have u0 : wr.cell? ⟨g, o + j * 5, none⟩ = some (.string n1) := hcx 0 _ rfl
              have v0 : wr.cell? ⟨g', o' + j * 5, none⟩ = some (.string n2) := hcy 0 _ rfl
              have u1 : wr.cell? ⟨g, o + j * 5 + 1, none⟩ = some (a0) := hcx 1 _ rfl
              have v1 : wr.cell? ⟨g', o' + j * 5 + 1, none⟩ = some (f0) := hcy 1 _ rfl
              have u2 : wr.cell? ⟨g, o + j * 5 + 1 + 1, none⟩ = some (a1) := hcx 2 _ rfl
              have v2 : wr.cell? ⟨g', o' + j * 5 + 1 + 1, none⟩ = some (f1) := hcy 2 _ rfl
              have u3 : wr.cell? ⟨g, o + j * 5 + 1 + 2, none⟩ = some (a2) := hcx 3 _ rfl
              have v3 : wr.cell? ⟨g', o' + j * 5 + 1 + 2, none⟩ = some (f2) := hcy 3 _ rfl
              have u4 : wr.cell? ⟨g, o + j * 5 + 1 + 3, none⟩ = some (a3) := hcx 4 _ rfl
              have v4 : wr.cell? ⟨g', o' + j * 5 + 1 + 3, none⟩ = some (f3) := hcy 4 _ rfl
              obtain ⟨v, hv⟩ : ∃ v, tySame t1 t2 = v := ⟨_, rfl⟩
              have hpair2 : pairAt meSame ps ps' j = (nmSame n1 n2 && v) := by rw [hpair, ← hv]; rfl
              have HP := Lib.hid hpair2
              have hBr : B ≤ wr.heap.size := Nat.le_trans (Nat.le_trans hB HBW.out.size) HBE.out.size
              have HC := Lib.hid (fun W (hb : Below wr.heap.size wr W) => show Calls Try.prog 17 #[.agg #[a0, a1, a2, a3], .agg #[f0, f1, f2, f3]] W (fun e w2 => e = .returned (.bool v) ∧ Below wr.heap.size wr w2) from (rsametype_any _ t1 t2 (Nat.le_refl _) B W [a0, a1, a2, a3] [f0, f1, f2, f3] (Nat.le_trans hBr hb.size) (g1.later (hb.mono hBr)) (g2.later (hb.mono hBr))).mono fun e w2 h => by rw [hv] at h; exact ⟨h.1, hb.trans (h.2.mono hb.size)⟩)
              have hgl : g < wr.heap.size := Nat.lt_of_lt_of_le hg hBr
              have hgl' : g' < wr.heap.size := Nat.lt_of_lt_of_le hg' hBr
              have hh1 : w.heap.size < wr.heap.size := by have := HZ.out; have := HBE.out.size; omega
              have hh2 : w.heap.size + 1 < wr.heap.size := by have := HZ.out; have := HBE.out.size; omega
              have hB0 : Below wr.heap.size wr wr.drew := (Below.refl _ _).drew
              clear hbw hrx hry hrx' hry' hex hey hcx hcy h5 h5' hv hpair hpair2 hlx hly g1 g2
              by_cases en : n1.data.toList = n2.data.toList
              · have dn := nm_same en
                have zn : nmSame n1 n2 = true := by unfold nmSame; simpa using en
                have HZN := Lib.hid zn
                clear en zn
                cases v with
                | true =>
                  go_wp2_with fail
                  go_region_held3 (fun w' => w'.cell? ⟨w.heap.size, 5, none⟩ = some (.slice (some ⟨g, o, none⟩) l c) ∧ w'.cell? ⟨w.heap.size + 1, 5, none⟩ = some (.slice (some ⟨g', o', none⟩) l c') ∧ w'.cell? ⟨g, o + j * 5, none⟩ = some (.string n1) ∧ w'.cell? ⟨g, o + j * 5 + 1, none⟩ = some (a0) ∧ w'.cell? ⟨g, o + j * 5 + 1 + 1, none⟩ = some (a1) ∧ w'.cell? ⟨g, o + j * 5 + 1 + 2, none⟩ = some (a2) ∧ w'.cell? ⟨g, o + j * 5 + 1 + 3, none⟩ = some (a3) ∧ w'.cell? ⟨g', o' + j * 5, none⟩ = some (.string n2) ∧ w'.cell? ⟨g', o' + j * 5 + 1, none⟩ = some (f0) ∧ w'.cell? ⟨g', o' + j * 5 + 1 + 1, none⟩ = some (f1) ∧ w'.cell? ⟨g', o' + j * 5 + 1 + 2, none⟩ = some (f2) ∧ w'.cell? ⟨g', o' + j * 5 + 1 + 3, none⟩ = some (f3) ∧ Below wr.heap.size wr w')
                    (((try dsimp only); (repeat' apply And.intro) <;> (first | assumption | exact cell_kept (by assumption) hgl (by assumption) | exact cell_kept (by assumption) hgl' (by assumption) | exact cell_kept (by assumption) hh1 (by assumption) | exact cell_kept (by assumption) hh2 (by assumption))))
                    (first | (go_at_call 17; (with_reducible refine (HC.out _ (by assumption)).mono ?_); rintro e w5 ⟨rfl, hb5⟩))
                  clear hB0
                  go_wp2_with fail
                  go_roundw
                  case rel => exact ⟨j + 1, by go_num, by omega, fun x h => by
                    rcases Nat.lt_or_ge x j with h1 | h1
                    · exact HALL.out x h1
                    · have : x = j := by omega
                      subst this; rw [HP.out, HZN.out]; rfl, HBE.out.trans ((by assumption : Below wr.heap.size wr _).mono HBE.out.size)⟩
                  case measure => simp [intOf]; omega
                | false =>
                  have HF := Lib.hid (show RES = false by rw [HS.out, list_no hkx (HP.out.trans (by simp))] <;> simp)
                  go_wp2_with fail
                  go_region_held3 (fun w' => w'.cell? ⟨w.heap.size, 5, none⟩ = some (.slice (some ⟨g, o, none⟩) l c) ∧ w'.cell? ⟨w.heap.size + 1, 5, none⟩ = some (.slice (some ⟨g', o', none⟩) l c') ∧ w'.cell? ⟨g, o + j * 5, none⟩ = some (.string n1) ∧ w'.cell? ⟨g, o + j * 5 + 1, none⟩ = some (a0) ∧ w'.cell? ⟨g, o + j * 5 + 1 + 1, none⟩ = some (a1) ∧ w'.cell? ⟨g, o + j * 5 + 1 + 2, none⟩ = some (a2) ∧ w'.cell? ⟨g, o + j * 5 + 1 + 3, none⟩ = some (a3) ∧ w'.cell? ⟨g', o' + j * 5, none⟩ = some (.string n2) ∧ w'.cell? ⟨g', o' + j * 5 + 1, none⟩ = some (f0) ∧ w'.cell? ⟨g', o' + j * 5 + 1 + 1, none⟩ = some (f1) ∧ w'.cell? ⟨g', o' + j * 5 + 1 + 2, none⟩ = some (f2) ∧ w'.cell? ⟨g', o' + j * 5 + 1 + 3, none⟩ = some (f3) ∧ Below wr.heap.size wr w')
                    (((try dsimp only); (repeat' apply And.intro) <;> (first | assumption | exact cell_kept (by assumption) hgl (by assumption) | exact cell_kept (by assumption) hgl' (by assumption) | exact cell_kept (by assumption) hh1 (by assumption) | exact cell_kept (by assumption) hh2 (by assumption))))
                    (first | (go_at_call 17; (with_reducible refine (HC.out _ (by assumption)).mono ?_); rintro e w5 ⟨rfl, hb5⟩))
                  clear hB0
                  go_wp2_with fail
                  go_ret
                  exact ⟨ret_bool HF.out.symm, HBW.out.trans ((HBE.out.trans ((by assumption : Below wr.heap.size wr _).mono HBE.out.size)).mono (by have := HZ.out; omega))⟩
              · have dn := nm_other en
                have HF := Lib.hid (show RES = false by rw [HS.out, list_no hkx (HP.out.trans (by rw [show nmSame n1 n2 = false by unfold nmSame; simpa using en]; rfl))] <;> simp)
                clear en hB0
                go_wp2_with fail
                go_quiet (fail)
                go_wp2_with fail
                go_ret
                exact ⟨ret_bool HF.out.symm, HBW.out.trans ((below_drewN HBE.out _).mono (by have := HZ.out; omega))⟩
            · have HTps := Lib.hid (list_yes (f := meSame) (xs := ps) (ys := ps') (by rw [HLps.out, HLps'.out]) (fun x h => HALL.out x (by have := HLps.out; omega)))
              have hk2 := HBE.out
              have hc2 := HBW.out.trans (hk2.mono HBW.out.size)
              have x0wr := HB1.out wr hk2 0
              have y0wr := HB2.out wr hk2 0
              have x1wr := HB1.out wr hk2 1
              have y1wr := HB2.out wr hk2 1
              have x2wr := HB1.out wr hk2 2
              have y2wr := HB2.out wr hk2 2
              have x3wr := HB1.out wr hk2 3
              have y3wr := HB2.out wr hk2 3
              have x4wr := HB1.out wr hk2 4
              have y4wr := HB2.out wr hk2 4
              have x5wr := HB1.out wr hk2 5
              have y5wr := HB2.out wr hk2 5
              have x6wr := HB1.out wr hk2 6
              have y6wr := HB2.out wr hk2 6
              have x7wr := HB1.out wr hk2 7
              have y7wr := HB2.out wr hk2 7
              simp only [List.getElem?_toArray, List.getElem?_cons_succ, List.getElem?_cons_zero] at x0wr y0wr x1wr y1wr x2wr y2wr x3wr y3wr x4wr y4wr x5wr y5wr x6wr y6wr x7wr y7wr
              have HE := Lib.hid (show RES = v2 by rw [HS.out, HTps.out] <;> simp)
              go_wp2_with (go_at_call 39; (with_reducible refine (C2.out _ hc2).mono ?_); rintro e w3 ⟨rfl, hb3⟩; (have hk3 : Below W2.heap.size W2 w3 := hk2.trans (hb3.mono hk2.size)); (have hc3 : Below w.heap.size w w3 := HBW.out.trans (hk3.mono HBW.out.size)); (have x0w3 := HB1.out w3 hk3 0); (have y0w3 := HB2.out w3 hk3 0); (have x1w3 := HB1.out w3 hk3 1); (have y1w3 := HB2.out w3 hk3 1); (have x2w3 := HB1.out w3 hk3 2); (have y2w3 := HB2.out w3 hk3 2); (have x3w3 := HB1.out w3 hk3 3); (have y3w3 := HB2.out w3 hk3 3); (have x4w3 := HB1.out w3 hk3 4); (have y4w3 := HB2.out w3 hk3 4); (have x5w3 := HB1.out w3 hk3 5); (have y5w3 := HB2.out w3 hk3 5); (have x6w3 := HB1.out w3 hk3 6); (have y6w3 := HB2.out w3 hk3 6); (have x7w3 := HB1.out w3 hk3 7); (have y7w3 := HB2.out w3 hk3 7); (simp only [List.getElem?_toArray, List.getElem?_cons_succ, List.getElem?_cons_zero] at x0w3 y0w3 x1w3 y1w3 x2w3 y2w3 x3w3 y3w3 x4w3 y4w3 x5w3 y5w3 x6w3 y6w3 x7w3 y7w3))
              go_ret
              exact ⟨ret_bool HE.out.symm, hc3⟩
        · have d2 : ((l : Int) != (l' : Int)) = true := by simp; omega
          have HE := Lib.hid (show RES = false by rw [HS.out, list_len (f := meSame) (xs := ps) (ys := ps') (by rw [HLps.out, HLps'.out]; exact e2)] <;> simp)
          clear e2
          go_enter Try.func51, Try.ntmps51
          go_wp2_with fail
          rw [HW.out]
          have x0W2 := HB1.out W2 (Below.refl W2.heap.size W2) 0
          have y0W2 := HB2.out W2 (Below.refl W2.heap.size W2) 0
          have x1W2 := HB1.out W2 (Below.refl W2.heap.size W2) 1
          have y1W2 := HB2.out W2 (Below.refl W2.heap.size W2) 1
          have x2W2 := HB1.out W2 (Below.refl W2.heap.size W2) 2
          have y2W2 := HB2.out W2 (Below.refl W2.heap.size W2) 2
          have x3W2 := HB1.out W2 (Below.refl W2.heap.size W2) 3
          have y3W2 := HB2.out W2 (Below.refl W2.heap.size W2) 3
          have x4W2 := HB1.out W2 (Below.refl W2.heap.size W2) 4
          have y4W2 := HB2.out W2 (Below.refl W2.heap.size W2) 4
          have x5W2 := HB1.out W2 (Below.refl W2.heap.size W2) 5
          have y5W2 := HB2.out W2 (Below.refl W2.heap.size W2) 5
          have x6W2 := HB1.out W2 (Below.refl W2.heap.size W2) 6
          have y6W2 := HB2.out W2 (Below.refl W2.heap.size W2) 6
          have x7W2 := HB1.out W2 (Below.refl W2.heap.size W2) 7
          have y7W2 := HB2.out W2 (Below.refl W2.heap.size W2) 7
          simp only [List.getElem?_toArray, List.getElem?_cons_succ, List.getElem?_cons_zero] at x0W2 y0W2 x1W2 y1W2 x2W2 y2W2 x3W2 y3W2 x4W2 y4W2 x5W2 y5W2 x6W2 y6W2 x7W2 y7W2
          have hk1 : Below W2.heap.size W2 W2 := Below.refl _ _
          have hc1 := HBW.out
          go_wp2_with (go_at_call 17; (with_reducible refine (C1.out _ hc1).mono ?_); rintro e w2 ⟨rfl, hb2⟩; (have hk2 : Below W2.heap.size W2 w2 := hk1.trans (hb2.mono hk1.size)); (have hc2 : Below w.heap.size w w2 := HBW.out.trans (hk2.mono HBW.out.size)); (have x0w2 := HB1.out w2 hk2 0); (have y0w2 := HB2.out w2 hk2 0); (have x1w2 := HB1.out w2 hk2 1); (have y1w2 := HB2.out w2 hk2 1); (have x2w2 := HB1.out w2 hk2 2); (have y2w2 := HB2.out w2 hk2 2); (have x3w2 := HB1.out w2 hk2 3); (have y3w2 := HB2.out w2 hk2 3); (have x4w2 := HB1.out w2 hk2 4); (have y4w2 := HB2.out w2 hk2 4); (have x5w2 := HB1.out w2 hk2 5); (have y5w2 := HB2.out w2 hk2 5); (have x6w2 := HB1.out w2 hk2 6); (have y6w2 := HB2.out w2 hk2 6); (have x7w2 := HB1.out w2 hk2 7); (have y7w2 := HB2.out w2 hk2 7); (simp only [List.getElem?_toArray, List.getElem?_cons_succ, List.getElem?_cons_zero] at x0w2 y0w2 x1w2 y1w2 x2w2 y2w2 x3w2 y3w2 x4w2 y4w2 x5w2 y5w2 x6w2 y6w2 x7w2 y7w2))
          go_ret
          exact ⟨ret_bool HE.out.symm, hc2⟩
    · have d0 := nm_other e0
      have HE := Lib.hid (show RES = false by rw [HS.out, show nmSame nm nm' = false by unfold nmSame; simpa using e0] <;> simp)
      clear e0
      go_enter Try.func51, Try.ntmps51
      go_wp2_with fail
      rw [HW.out]
      have x0W2 := HB1.out W2 (Below.refl W2.heap.size W2) 0
      have y0W2 := HB2.out W2 (Below.refl W2.heap.size W2) 0
      have x1W2 := HB1.out W2 (Below.refl W2.heap.size W2) 1
      have y1W2 := HB2.out W2 (Below.refl W2.heap.size W2) 1
      have x2W2 := HB1.out W2 (Below.refl W2.heap.size W2) 2
      have y2W2 := HB2.out W2 (Below.refl W2.heap.size W2) 2
      have x3W2 := HB1.out W2 (Below.refl W2.heap.size W2) 3
      have y3W2 := HB2.out W2 (Below.refl W2.heap.size W2) 3
      have x4W2 := HB1.out W2 (Below.refl W2.heap.size W2) 4
      have y4W2 := HB2.out W2 (Below.refl W2.heap.size W2) 4
      have x5W2 := HB1.out W2 (Below.refl W2.heap.size W2) 5
      have y5W2 := HB2.out W2 (Below.refl W2.heap.size W2) 5
      have x6W2 := HB1.out W2 (Below.refl W2.heap.size W2) 6
      have y6W2 := HB2.out W2 (Below.refl W2.heap.size W2) 6
      have x7W2 := HB1.out W2 (Below.refl W2.heap.size W2) 7
      have y7W2 := HB2.out W2 (Below.refl W2.heap.size W2) 7
      simp only [List.getElem?_toArray, List.getElem?_cons_succ, List.getElem?_cons_zero] at x0W2 y0W2 x1W2 y1W2 x2W2 y2W2 x3W2 y3W2 x4W2 y4W2 x5W2 y5W2 x6W2 y6W2 x7W2 y7W2
      have hk1 : Below W2.heap.size W2 W2 := Below.refl _ _
      have hc1 := HBW.out
      go_wp2_with fail
      go_ret
      exact ⟨ret_bool HE.out.symm, hc1⟩

theorem da_len {w : World} {B : Nat} {cs : List Value} {x : Da} (h : DaAt w B cs x) : cs.length = 5 := by cases h; rfl
theorem cl_len {w : World} {B : Nat} {cs : List Value} {x : Cl} (h : ClAt w B cs x) : cs.length = 6 := by cases h; rfl
theorem in_len {w : World} {B : Nat} {cs : List Value} {x : Ins} (h : InAt w B cs x) : cs.length = 8 := by
  cases h with
  | mk _ _ ht => have := ht.four; simp [this]

set_option maxHeartbeats 6400000 in
theorem rsameprog (t u : Pg) (B : Nat) (w : World) (cs0 ds0 : List Value) (hB : B ≤ w.heap.size) (hx : PgAt w B cs0 t) (hy : PgAt w B ds0 u) :
    Calls Try.prog 22 #[.agg cs0.toArray, .agg ds0.toArray] w fun e w' => e = .returned (.bool (pgSame t u)) ∧ Below w.heap.size w w' := by
  cases hx with
  | @mk A Ac Ai Ab c cc ci cb ds cs is bs h1 h2 h3 h4 hd hc hi hb0 =>
  cases hy with
  | @mk A' Ac' Ai' Ab' c' cc' ci' cb' ds' cs' is' bs' h1' h2' h3' h4' hd' hc' hi' hb0' =>
    have C10 := fun W (hb : Below w.heap.size w W) => rl_bd bs bs' Ab Ab' cb cb' B W (Nat.le_trans hB hb.size) h4 (RowOf.later (R := fun w => BdAt w B) hb0 (hb.mono hB) fun _ _ h => BdAt.later h (hb.mono hB)) (RowOf.later (R := fun w => BdAt w B) hb0' (hb.mono hB) fun _ _ h => BdAt.later h (hb.mono hB))
    obtain ⟨RES, hRES⟩ : ∃ r, pgSame ⟨ds, cs, is, bs⟩ ⟨ds', cs', is', bs'⟩ = r := ⟨_, rfl⟩
    rw [hRES]
    have hS0 : RES = (listSame daSame ds ds' && (listSame clSame cs cs' && (listSame inSame is is' && listSame bdSame bs bs'))) := by rw [← hRES]; rfl
    obtain ⟨v1, hv1⟩ : ∃ v, listSame bdSame bs bs' = v := ⟨_, rfl⟩
    rw [hv1] at hS0 C10
    obtain ⟨ld, hld⟩ : ∃ l, ds.length = l := ⟨_, rfl⟩
    have HLds := Lib.hid hld
    have Hds := Lib.hid hd
    have h9ld : ld ≤ 9223372036854775807 := by have h9 := h1; unfold maxLen at h9; omega
    obtain ⟨ld', hld'⟩ : ∃ l, ds'.length = l := ⟨_, rfl⟩
    have HLds' := Lib.hid hld'
    have Hds' := Lib.hid hd'
    have h9ld' : ld' ≤ 9223372036854775807 := by have h9 := h1'; unfold maxLen at h9; omega
    obtain ⟨lc, hlc⟩ : ∃ l, cs.length = l := ⟨_, rfl⟩
    have HLcs := Lib.hid hlc
    have Hcs := Lib.hid hc
    have h9lc : lc ≤ 9223372036854775807 := by have h9 := h2; unfold maxLen at h9; omega
    obtain ⟨lc', hlc'⟩ : ∃ l, cs'.length = l := ⟨_, rfl⟩
    have HLcs' := Lib.hid hlc'
    have Hcs' := Lib.hid hc'
    have h9lc' : lc' ≤ 9223372036854775807 := by have h9 := h2'; unfold maxLen at h9; omega
    obtain ⟨li, hli⟩ : ∃ l, is.length = l := ⟨_, rfl⟩
    have HLis := Lib.hid hli
    have His := Lib.hid hi
    have h9li : li ≤ 9223372036854775807 := by have h9 := h3; unfold maxLen at h9; omega
    obtain ⟨li', hli'⟩ : ∃ l, is'.length = l := ⟨_, rfl⟩
    have HLis' := Lib.hid hli'
    have His' := Lib.hid hi'
    have h9li' : li' ≤ 9223372036854775807 := by have h9 := h3'; unfold maxLen at h9; omega
    have HS := Lib.hid hS0
    have C1 := Lib.hid C10
    try simp only [List.cons_append, List.nil_append]
    rw [hld, hld']
    rw [hlc, hlc']
    rw [hli, hli']
    clear hS0 hRES hv1 C10 hld hld' hd hd' hlc hlc' hc hc' hli hli' hi hi'
    have b1 := (Blk.new w 46 #[.slice A ld c, .slice Ac lc cc, .slice Ai li ci, .slice Ab bs.length cb]).alloc (.cells #[.slice A' ld' c', .slice Ac' lc' cc', .slice Ai' li' ci', .slice Ab' bs'.length cb'] 46)
    have b2 := Blk.new (w.alloc (.cells #[.slice A ld c, .slice Ac lc cc, .slice Ai li ci, .slice Ab bs.length cb] 46)) 46 #[.slice A' ld' c', .slice Ac' lc' cc', .slice Ai' li' ci', .slice Ab' bs'.length cb']
    obtain ⟨W2, hW2⟩ : ∃ W2, (w.alloc (.cells #[.slice A ld c, .slice Ac lc cc, .slice Ai li ci, .slice Ab bs.length cb] 46)).alloc (.cells #[.slice A' ld' c', .slice Ac' lc' cc', .slice Ai' li' ci', .slice Ab' bs'.length cb'] 46) = W2 := ⟨_, rfl⟩
    have hbW : Below w.heap.size w W2 := by rw [← hW2]; exact ((Below.refl _ _).alloc (Nat.le_refl _) _).alloc (by simp) _
    have hzW : W2.heap.size = w.heap.size + 1 + 1 := by rw [← hW2]; simp
    rw [hW2] at b1 b2
    rw [World.size_alloc] at b2
    have HW := Lib.hid hW2
    have HBW := Lib.hid hbW
    have HZ := Lib.hid hzW
    have HB1 := Lib.hid (fun (W : World) (hW : Below W2.heap.size W2 W) (i : Nat) => (hW.cell (p := ⟨w.heap.size, i, none⟩) b1.lt).trans (b1.cell i))
    have HB2 := Lib.hid (fun (W : World) (hW : Below W2.heap.size W2 W) (i : Nat) => (hW.cell (p := ⟨w.heap.size + 1, i, none⟩) b2.lt).trans (b2.cell i))
    clear b1 b2 hW2 hbW hzW
    by_cases e0 : ld = ld'
    · subst e0
      by_cases e1 : lc = lc'
      · subst e1
        by_cases e2 : li = li'
        · subst e2
          go_enter Try.func22, Try.ntmps22
          go_wp2_with fail
          rw [HW.out]
          have x0W2 := HB1.out W2 (Below.refl W2.heap.size W2) 0
          have y0W2 := HB2.out W2 (Below.refl W2.heap.size W2) 0
          have x1W2 := HB1.out W2 (Below.refl W2.heap.size W2) 1
          have y1W2 := HB2.out W2 (Below.refl W2.heap.size W2) 1
          have x2W2 := HB1.out W2 (Below.refl W2.heap.size W2) 2
          have y2W2 := HB2.out W2 (Below.refl W2.heap.size W2) 2
          have x3W2 := HB1.out W2 (Below.refl W2.heap.size W2) 3
          have y3W2 := HB2.out W2 (Below.refl W2.heap.size W2) 3
          simp only [List.getElem?_toArray, List.getElem?_cons_succ, List.getElem?_cons_zero] at x0W2 y0W2 x1W2 y1W2 x2W2 y2W2 x3W2 y3W2
          have hk1 : Below W2.heap.size W2 W2 := Below.refl _ _
          have hc1 := HBW.out
          go_wp2_with fail
          have HK := Lib.hid hk1
          clear hk1 hc1 x0W2 y0W2 x1W2 y1W2 x2W2 y2W2 x3W2 y3W2
          go_loopw [5] (fun i wr => ∃ j : Nat, i = .int .i64 j ∧ j ≤ ld ∧ (∀ x, x < j → pairAt daSame ds ds' x = true) ∧ Below W2.heap.size W2 wr) (fun i _ => ld - (intOf i).toNat)
          case atStart => exact ⟨0, rfl, Nat.zero_le _, fun x h => by omega, HK.out⟩
          case round =>
            obtain ⟨j, rfl, hj, hall, hbel⟩ := hrel
            have x0wr := HB1.out wr hbel 0
            have y0wr := HB2.out wr hbel 0
            simp only [List.getElem?_toArray, List.getElem?_cons_succ, List.getElem?_cons_zero] at x0wr y0wr
            have HALL := Lib.hid hall
            have HBE := Lib.hid hbel
            clear hall hbel
            by_cases hlt : j < ld
            · have hkx : j < ds.length := by rw [HLds.out]; exact hlt
              have hky : j < ds'.length := by rw [HLds'.out]; exact hlt
              have hbw := (HBW.out.mono hB).trans (HBE.out.mono (Nat.le_trans hB HBW.out.size))
              obtain ⟨LX, hrx, hex⟩ := Hds.out.ex
              obtain ⟨LY, hry, hey⟩ := Hds'.out.ex
              have hrx' := hrx.later hbw
              have hry' := hry.later hbw
              obtain ⟨g, o, eA, hg, hlx, h5, hcx⟩ := elem_cells hrx' (by omega) hkx
              obtain ⟨g', o', eA', hg', hly, h5', hcy⟩ := elem_cells hry' (by omega) hky
              subst eA
              subst eA'
              have hexj := hex j hlx hkx
              have heyj := hey j hly hky
              have hpair := pairAt_of daSame ds ds' j hkx hky
              generalize LX[j] = lx at hexj hcx
              generalize LY[j] = ly at heyj hcy
              generalize ds[j] = ex at hexj hpair
              generalize ds'[j] = ey at heyj hpair
              have hjx := DaAt.later hexj hbw
              have hjy := DaAt.later heyj hbw
              have hlen1 : lx.length = 5 := da_len hjx
              have hlen2 : ly.length = 5 := da_len hjy
              obtain ⟨c0, c1, c2, c3, c4, rfl⟩ := five_of hlen1
              obtain ⟨d0, d1, d2, d3, d4, rfl⟩ := five_of hlen2
              have u0 := hcx 0 _ rfl
              have v0 := hcy 0 _ rfl
              have u1 := hcx 1 _ rfl
              have v1 := hcy 1 _ rfl
              have u2 := hcx 2 _ rfl
              have v2 := hcy 2 _ rfl
              have u3 := hcx 3 _ rfl
              have v3 := hcy 3 _ rfl
              have u4 := hcx 4 _ rfl
              have v4 := hcy 4 _ rfl
              simp only [Nat.add_zero] at u0 v0
              obtain ⟨v, hv⟩ : ∃ v, daSame ex ey = v := ⟨_, rfl⟩
              have C := Lib.hid (rsamedata ex ey B wr.drew [c0, c1, c2, c3, c4] [d0, d1, d2, d3, d4] (Nat.le_trans (Nat.le_trans hB HBW.out.size) HBE.out.size) (DaAt.later hjx (Below.refl _ _).drew) (DaAt.later hjy (Below.refl _ _).drew))
              rw [hv] at C hpair
              have HP := Lib.hid hpair
              clear hbw hrx hry hrx' hry' hex hey hexj heyj hjx hjy hlen1 hlen2 hcx hcy h5 h5' hv hpair hlx hly
              cases v with
              | true =>
                go_wp2_with fail
                go_still_tail 10, (by kernel_rfl)
                change wpList _ _ _ _ _ wr.drew
                go_wp2_with (go_at_call 49; (with_reducible refine C.out.mono ?_); rintro e w2 ⟨rfl, hb2⟩)
                go_roundw
                case rel => exact ⟨j + 1, by go_num, by omega, fun x h => by
                  rcases Nat.lt_or_ge x j with h1 | h1
                  · exact HALL.out x h1
                  · have : x = j := by omega
                    subst this; exact HP.out, HBE.out.drew.trans (hb2.mono HBE.out.size)⟩
                case measure => simp [intOf]; omega
              | false =>
                have HF := Lib.hid (show RES = false by rw [HS.out, list_no hkx HP.out] <;> simp)
                go_wp2_with fail
                go_still_tail 10, (by kernel_rfl)
                change wpList _ _ _ _ _ wr.drew
                go_wp2_with (go_at_call 49; (with_reducible refine C.out.mono ?_); rintro e w2 ⟨rfl, hb2⟩)
                go_ret
                exact ⟨ret_bool HF.out.symm, HBW.out.trans ((HBE.out.drew.trans (hb2.mono HBE.out.size)).mono (by have := HZ.out; omega))⟩
            · have HTds := Lib.hid (list_yes (f := daSame) (xs := ds) (ys := ds') (by rw [HLds.out, HLds'.out]) (fun x h => HALL.out x (by have := HLds.out; omega)))
              have hk1 := HBE.out
              have hc1 := HBW.out.trans (hk1.mono HBW.out.size)
              have x0wr := HB1.out wr hk1 0
              have y0wr := HB2.out wr hk1 0
              have x1wr := HB1.out wr hk1 1
              have y1wr := HB2.out wr hk1 1
              have x2wr := HB1.out wr hk1 2
              have y2wr := HB2.out wr hk1 2
              have x3wr := HB1.out wr hk1 3
              have y3wr := HB2.out wr hk1 3
              simp only [List.getElem?_toArray, List.getElem?_cons_succ, List.getElem?_cons_zero] at x0wr y0wr x1wr y1wr x2wr y2wr x3wr y3wr
              go_wp2_with fail
              have HK := Lib.hid hk1
              clear hk1 hc1 x0wr y0wr x1wr y1wr x2wr y2wr x3wr y3wr
              go_loopw [6] (fun i wr => ∃ j : Nat, i = .int .i64 j ∧ j ≤ lc ∧ (∀ x, x < j → pairAt clSame cs cs' x = true) ∧ Below W2.heap.size W2 wr) (fun i _ => lc - (intOf i).toNat)
              case atStart => exact ⟨0, rfl, Nat.zero_le _, fun x h => by omega, HK.out⟩
              case round =>
                obtain ⟨j, rfl, hj, hall, hbel⟩ := hrel
                have x1wr := HB1.out wr hbel 1
                have y1wr := HB2.out wr hbel 1
                simp only [List.getElem?_toArray, List.getElem?_cons_succ, List.getElem?_cons_zero] at x1wr y1wr
                have HALL := Lib.hid hall
                have HBE := Lib.hid hbel
                clear hall hbel
                by_cases hlt : j < lc
                · have hkx : j < cs.length := by rw [HLcs.out]; exact hlt
                  have hky : j < cs'.length := by rw [HLcs'.out]; exact hlt
                  have hbw := (HBW.out.mono hB).trans (HBE.out.mono (Nat.le_trans hB HBW.out.size))
                  obtain ⟨LX, hrx, hex⟩ := Hcs.out.ex
                  obtain ⟨LY, hry, hey⟩ := Hcs'.out.ex
                  have hrx' := hrx.later hbw
                  have hry' := hry.later hbw
                  obtain ⟨g, o, eA, hg, hlx, h5, hcx⟩ := elem_cells hrx' (by omega) hkx
                  obtain ⟨g', o', eA', hg', hly, h5', hcy⟩ := elem_cells hry' (by omega) hky
                  subst eA
                  subst eA'
                  have hexj := hex j hlx hkx
                  have heyj := hey j hly hky
                  have hpair := pairAt_of clSame cs cs' j hkx hky
                  generalize LX[j] = lx at hexj hcx
                  generalize LY[j] = ly at heyj hcy
                  generalize cs[j] = ex at hexj hpair
                  generalize cs'[j] = ey at heyj hpair
                  have hjx := ClAt.later hexj hbw
                  have hjy := ClAt.later heyj hbw
                  have hlen1 : lx.length = 6 := cl_len hjx
                  have hlen2 : ly.length = 6 := cl_len hjy
                  obtain ⟨c0, c1, c2, c3, c4, c5, rfl⟩ := six_of hlen1
                  obtain ⟨d0, d1, d2, d3, d4, d5, rfl⟩ := six_of hlen2
                  have u0 := hcx 0 _ rfl
                  have v0 := hcy 0 _ rfl
                  have u1 := hcx 1 _ rfl
                  have v1 := hcy 1 _ rfl
                  have u2 := hcx 2 _ rfl
                  have v2 := hcy 2 _ rfl
                  have u3 := hcx 3 _ rfl
                  have v3 := hcy 3 _ rfl
                  have u4 := hcx 4 _ rfl
                  have v4 := hcy 4 _ rfl
                  have u5 := hcx 5 _ rfl
                  have v5 := hcy 5 _ rfl
                  simp only [Nat.add_zero] at u0 v0
                  obtain ⟨v, hv⟩ : ∃ v, clSame ex ey = v := ⟨_, rfl⟩
                  have C := Lib.hid (rsameclass ex ey B wr.drew [c0, c1, c2, c3, c4, c5] [d0, d1, d2, d3, d4, d5] (Nat.le_trans (Nat.le_trans hB HBW.out.size) HBE.out.size) (ClAt.later hjx (Below.refl _ _).drew) (ClAt.later hjy (Below.refl _ _).drew))
                  rw [hv] at C hpair
                  have HP := Lib.hid hpair
                  clear hbw hrx hry hrx' hry' hex hey hexj heyj hjx hjy hlen1 hlen2 hcx hcy h5 h5' hv hpair hlx hly
                  cases v with
                  | true =>
                    go_wp2_with fail
                    go_still_tail 10, (by kernel_rfl)
                    change wpList _ _ _ _ _ wr.drew
                    go_wp2_with (go_at_call 50; (with_reducible refine C.out.mono ?_); rintro e w2 ⟨rfl, hb2⟩)
                    go_roundw
                    case rel => exact ⟨j + 1, by go_num, by omega, fun x h => by
                      rcases Nat.lt_or_ge x j with h1 | h1
                      · exact HALL.out x h1
                      · have : x = j := by omega
                        subst this; exact HP.out, HBE.out.drew.trans (hb2.mono HBE.out.size)⟩
                    case measure => simp [intOf]; omega
                  | false =>
                    have HF := Lib.hid (show RES = false by rw [HS.out, list_no hkx HP.out] <;> simp)
                    go_wp2_with fail
                    go_still_tail 10, (by kernel_rfl)
                    change wpList _ _ _ _ _ wr.drew
                    go_wp2_with (go_at_call 50; (with_reducible refine C.out.mono ?_); rintro e w2 ⟨rfl, hb2⟩)
                    go_ret
                    exact ⟨ret_bool HF.out.symm, HBW.out.trans ((HBE.out.drew.trans (hb2.mono HBE.out.size)).mono (by have := HZ.out; omega))⟩
                · have HTcs := Lib.hid (list_yes (f := clSame) (xs := cs) (ys := cs') (by rw [HLcs.out, HLcs'.out]) (fun x h => HALL.out x (by have := HLcs.out; omega)))
                  have hk1 := HBE.out
                  have hc1 := HBW.out.trans (hk1.mono HBW.out.size)
                  have x0wr := HB1.out wr hk1 0
                  have y0wr := HB2.out wr hk1 0
                  have x1wr := HB1.out wr hk1 1
                  have y1wr := HB2.out wr hk1 1
                  have x2wr := HB1.out wr hk1 2
                  have y2wr := HB2.out wr hk1 2
                  have x3wr := HB1.out wr hk1 3
                  have y3wr := HB2.out wr hk1 3
                  simp only [List.getElem?_toArray, List.getElem?_cons_succ, List.getElem?_cons_zero] at x0wr y0wr x1wr y1wr x2wr y2wr x3wr y3wr
                  go_wp2_with fail
                  have HK := Lib.hid hk1
                  clear hk1 hc1 x0wr y0wr x1wr y1wr x2wr y2wr x3wr y3wr
                  go_loopw [7] (fun i wr => ∃ j : Nat, i = .int .i64 j ∧ j ≤ li ∧ (∀ x, x < j → pairAt inSame is is' x = true) ∧ Below W2.heap.size W2 wr) (fun i _ => li - (intOf i).toNat)
                  case atStart => exact ⟨0, rfl, Nat.zero_le _, fun x h => by omega, HK.out⟩
                  case round =>
                    obtain ⟨j, rfl, hj, hall, hbel⟩ := hrel
                    have x2wr := HB1.out wr hbel 2
                    have y2wr := HB2.out wr hbel 2
                    simp only [List.getElem?_toArray, List.getElem?_cons_succ, List.getElem?_cons_zero] at x2wr y2wr
                    have HALL := Lib.hid hall
                    have HBE := Lib.hid hbel
                    clear hall hbel
                    by_cases hlt : j < li
                    · have hkx : j < is.length := by rw [HLis.out]; exact hlt
                      have hky : j < is'.length := by rw [HLis'.out]; exact hlt
                      have hbw := (HBW.out.mono hB).trans (HBE.out.mono (Nat.le_trans hB HBW.out.size))
                      obtain ⟨LX, hrx, hex⟩ := His.out.ex
                      obtain ⟨LY, hry, hey⟩ := His'.out.ex
                      have hrx' := hrx.later hbw
                      have hry' := hry.later hbw
                      obtain ⟨g, o, eA, hg, hlx, h5, hcx⟩ := elem_cells hrx' (by omega) hkx
                      obtain ⟨g', o', eA', hg', hly, h5', hcy⟩ := elem_cells hry' (by omega) hky
                      subst eA
                      subst eA'
                      have hexj := hex j hlx hkx
                      have heyj := hey j hly hky
                      have hpair := pairAt_of inSame is is' j hkx hky
                      generalize LX[j] = lx at hexj hcx
                      generalize LY[j] = ly at heyj hcy
                      generalize is[j] = ex at hexj hpair
                      generalize is'[j] = ey at heyj hpair
                      have hjx := InAt.later hexj hbw
                      have hjy := InAt.later heyj hbw
                      have hlen1 : lx.length = 8 := in_len hjx
                      have hlen2 : ly.length = 8 := in_len hjy
                      obtain ⟨c0, c1, c2, c3, c4, c5, c6, c7, rfl⟩ := eight_of hlen1
                      obtain ⟨d0, d1, d2, d3, d4, d5, d6, d7, rfl⟩ := eight_of hlen2
                      have u0 := hcx 0 _ rfl
                      have v0 := hcy 0 _ rfl
                      have u1 := hcx 1 _ rfl
                      have v1 := hcy 1 _ rfl
                      have u2 := hcx 2 _ rfl
                      have v2 := hcy 2 _ rfl
                      have u3 := hcx 3 _ rfl
                      have v3 := hcy 3 _ rfl
                      have u4 := hcx 4 _ rfl
                      have v4 := hcy 4 _ rfl
                      have u5 := hcx 5 _ rfl
                      have v5 := hcy 5 _ rfl
                      have u6 := hcx 6 _ rfl
                      have v6 := hcy 6 _ rfl
                      have u7 := hcx 7 _ rfl
                      have v7 := hcy 7 _ rfl
                      simp only [Nat.add_zero] at u0 v0
                      obtain ⟨v, hv⟩ : ∃ v, inSame ex ey = v := ⟨_, rfl⟩
                      have C := Lib.hid (rsameinst ex ey B wr.drew [c0, c1, c2, c3, c4, c5, c6, c7] [d0, d1, d2, d3, d4, d5, d6, d7] (Nat.le_trans (Nat.le_trans hB HBW.out.size) HBE.out.size) (InAt.later hjx (Below.refl _ _).drew) (InAt.later hjy (Below.refl _ _).drew))
                      rw [hv] at C hpair
                      have HP := Lib.hid hpair
                      clear hbw hrx hry hrx' hry' hex hey hexj heyj hjx hjy hlen1 hlen2 hcx hcy h5 h5' hv hpair hlx hly
                      cases v with
                      | true =>
                        go_wp2_with fail
                        go_still_tail 10, (by kernel_rfl)
                        change wpList _ _ _ _ _ wr.drew
                        go_wp2_with (go_at_call 51; (with_reducible refine C.out.mono ?_); rintro e w2 ⟨rfl, hb2⟩)
                        go_roundw
                        case rel => exact ⟨j + 1, by go_num, by omega, fun x h => by
                          rcases Nat.lt_or_ge x j with h1 | h1
                          · exact HALL.out x h1
                          · have : x = j := by omega
                            subst this; exact HP.out, HBE.out.drew.trans (hb2.mono HBE.out.size)⟩
                        case measure => simp [intOf]; omega
                      | false =>
                        have HF := Lib.hid (show RES = false by rw [HS.out, list_no hkx HP.out] <;> simp)
                        go_wp2_with fail
                        go_still_tail 10, (by kernel_rfl)
                        change wpList _ _ _ _ _ wr.drew
                        go_wp2_with (go_at_call 51; (with_reducible refine C.out.mono ?_); rintro e w2 ⟨rfl, hb2⟩)
                        go_ret
                        exact ⟨ret_bool HF.out.symm, HBW.out.trans ((HBE.out.drew.trans (hb2.mono HBE.out.size)).mono (by have := HZ.out; omega))⟩
                    · have HTis := Lib.hid (list_yes (f := inSame) (xs := is) (ys := is') (by rw [HLis.out, HLis'.out]) (fun x h => HALL.out x (by have := HLis.out; omega)))
                      have hk1 := HBE.out
                      have hc1 := HBW.out.trans (hk1.mono HBW.out.size)
                      have x0wr := HB1.out wr hk1 0
                      have y0wr := HB2.out wr hk1 0
                      have x1wr := HB1.out wr hk1 1
                      have y1wr := HB2.out wr hk1 1
                      have x2wr := HB1.out wr hk1 2
                      have y2wr := HB2.out wr hk1 2
                      have x3wr := HB1.out wr hk1 3
                      have y3wr := HB2.out wr hk1 3
                      simp only [List.getElem?_toArray, List.getElem?_cons_succ, List.getElem?_cons_zero] at x0wr y0wr x1wr y1wr x2wr y2wr x3wr y3wr
                      have HE := Lib.hid (show RES = v1 by rw [HS.out, HTds.out, HTcs.out, HTis.out] <;> simp)
                      go_wp2_with (go_at_call 39; (with_reducible refine (C1.out _ hc1).mono ?_); rintro e w2 ⟨rfl, hb2⟩; (have hk2 : Below W2.heap.size W2 w2 := hk1.trans (hb2.mono hk1.size)); (have hc2 : Below w.heap.size w w2 := HBW.out.trans (hk2.mono HBW.out.size)); (have x0w2 := HB1.out w2 hk2 0); (have y0w2 := HB2.out w2 hk2 0); (have x1w2 := HB1.out w2 hk2 1); (have y1w2 := HB2.out w2 hk2 1); (have x2w2 := HB1.out w2 hk2 2); (have y2w2 := HB2.out w2 hk2 2); (have x3w2 := HB1.out w2 hk2 3); (have y3w2 := HB2.out w2 hk2 3); (simp only [List.getElem?_toArray, List.getElem?_cons_succ, List.getElem?_cons_zero] at x0w2 y0w2 x1w2 y1w2 x2w2 y2w2 x3w2 y3w2))
                      go_ret
                      exact ⟨ret_bool HE.out.symm, hc2⟩
        · have d2 : ((li : Int) != (li' : Int)) = true := by simp; omega
          have HE := Lib.hid (show RES = false by rw [HS.out, list_len (f := inSame) (xs := is) (ys := is') (by rw [HLis.out, HLis'.out]; exact e2)] <;> simp)
          clear e2
          go_enter Try.func22, Try.ntmps22
          go_wp2_with fail
          rw [HW.out]
          have x0W2 := HB1.out W2 (Below.refl W2.heap.size W2) 0
          have y0W2 := HB2.out W2 (Below.refl W2.heap.size W2) 0
          have x1W2 := HB1.out W2 (Below.refl W2.heap.size W2) 1
          have y1W2 := HB2.out W2 (Below.refl W2.heap.size W2) 1
          have x2W2 := HB1.out W2 (Below.refl W2.heap.size W2) 2
          have y2W2 := HB2.out W2 (Below.refl W2.heap.size W2) 2
          have x3W2 := HB1.out W2 (Below.refl W2.heap.size W2) 3
          have y3W2 := HB2.out W2 (Below.refl W2.heap.size W2) 3
          simp only [List.getElem?_toArray, List.getElem?_cons_succ, List.getElem?_cons_zero] at x0W2 y0W2 x1W2 y1W2 x2W2 y2W2 x3W2 y3W2
          have hk1 : Below W2.heap.size W2 W2 := Below.refl _ _
          have hc1 := HBW.out
          go_wp2_with fail
          go_ret
          exact ⟨ret_bool HE.out.symm, hc1⟩
      · have d1 : ((lc : Int) != (lc' : Int)) = true := by simp; omega
        have HE := Lib.hid (show RES = false by rw [HS.out, list_len (f := clSame) (xs := cs) (ys := cs') (by rw [HLcs.out, HLcs'.out]; exact e1)] <;> simp)
        clear e1
        go_enter Try.func22, Try.ntmps22
        go_wp2_with fail
        rw [HW.out]
        have x0W2 := HB1.out W2 (Below.refl W2.heap.size W2) 0
        have y0W2 := HB2.out W2 (Below.refl W2.heap.size W2) 0
        have x1W2 := HB1.out W2 (Below.refl W2.heap.size W2) 1
        have y1W2 := HB2.out W2 (Below.refl W2.heap.size W2) 1
        have x2W2 := HB1.out W2 (Below.refl W2.heap.size W2) 2
        have y2W2 := HB2.out W2 (Below.refl W2.heap.size W2) 2
        have x3W2 := HB1.out W2 (Below.refl W2.heap.size W2) 3
        have y3W2 := HB2.out W2 (Below.refl W2.heap.size W2) 3
        simp only [List.getElem?_toArray, List.getElem?_cons_succ, List.getElem?_cons_zero] at x0W2 y0W2 x1W2 y1W2 x2W2 y2W2 x3W2 y3W2
        have hk1 : Below W2.heap.size W2 W2 := Below.refl _ _
        have hc1 := HBW.out
        go_wp2_with fail
        go_ret
        exact ⟨ret_bool HE.out.symm, hc1⟩
    · have d0 : ((ld : Int) != (ld' : Int)) = true := by simp; omega
      have HE := Lib.hid (show RES = false by rw [HS.out, list_len (f := daSame) (xs := ds) (ys := ds') (by rw [HLds.out, HLds'.out]; exact e0)] <;> simp)
      clear e0
      go_enter Try.func22, Try.ntmps22
      go_wp2_with fail
      rw [HW.out]
      have x0W2 := HB1.out W2 (Below.refl W2.heap.size W2) 0
      have y0W2 := HB2.out W2 (Below.refl W2.heap.size W2) 0
      have x1W2 := HB1.out W2 (Below.refl W2.heap.size W2) 1
      have y1W2 := HB2.out W2 (Below.refl W2.heap.size W2) 1
      have x2W2 := HB1.out W2 (Below.refl W2.heap.size W2) 2
      have y2W2 := HB2.out W2 (Below.refl W2.heap.size W2) 2
      have x3W2 := HB1.out W2 (Below.refl W2.heap.size W2) 3
      have y3W2 := HB2.out W2 (Below.refl W2.heap.size W2) 3
      simp only [List.getElem?_toArray, List.getElem?_cons_succ, List.getElem?_cons_zero] at x0W2 y0W2 x1W2 y1W2 x2W2 y2W2 x3W2 y3W2
      have hk1 : Below W2.heap.size W2 W2 := Below.refl _ _
      have hc1 := HBW.out
      go_wp2_with fail
      go_ret
      exact ⟨ret_bool HE.out.symm, hc1⟩

end Go.Proofs.Ytglamoiimmahgaa
