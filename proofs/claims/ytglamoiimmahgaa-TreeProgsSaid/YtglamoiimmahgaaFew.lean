/- Walks: programs of few declarations. -/
import Derived.Test.YtglamoiimmahgaaPgt
import Derived.Test.YtglamoiimmahgaaParts
namespace Go.Proofs.Ytglamoiimmahgaa
open Go.RowKit
set_option linter.unusedVariables false
set_option linter.unusedSimpArgs false
set_option maxRecDepth 100000

def FewSays (w : World) (e : Ending) (w' : World) : Prop := ∃ b : Bool, e = .returned (.bool b) ∧ Below w.heap.size w w'
set_option maxHeartbeats 6400000 in
theorem few_any (t : Pg) (B : Nat) (w : World) (cs0 : List Value) (hB : B ≤ w.heap.size) (hx : PgAt w B cs0 t) :
    Calls Try.prog 20 #[.agg cs0.toArray] w (FewSays w) := by
  cases hx with
  | @mk A Ac Ai Ab c cc ci cb ds cs is bs h1 h2 h3 h4 hd hc hi hb0 =>
  obtain ⟨ld, hld⟩ : ∃ l, ds.length = l := ⟨_, rfl⟩
  obtain ⟨lc, hlc⟩ : ∃ l, cs.length = l := ⟨_, rfl⟩
  obtain ⟨li, hli⟩ : ∃ l, is.length = l := ⟨_, rfl⟩
  obtain ⟨lb, hlb⟩ : ∃ l, bs.length = l := ⟨_, rfl⟩
  unfold maxLen at h1 h2 h3 h4
  rw [hld] at h1
  rw [hlc] at h2
  rw [hli] at h3
  rw [hlb] at h4
  rw [hld, hlc, hli, hlb]
  obtain ⟨W1, hW1⟩ : ∃ W1, w.alloc (.cells #[.slice A ld c, .slice Ac lc cc, .slice Ai li ci, .slice Ab lb cb] 46) = W1 := ⟨_, rfl⟩
  have b1 : Blk W1 w.heap.size 46 #[.slice A ld c, .slice Ac lc cc, .slice Ai li ci, .slice Ab lb cb] := by rw [← hW1]; exact Blk.new w _ _
  have hbW : Below w.heap.size w W1 := by rw [← hW1]; exact (Below.refl _ _).alloc (Nat.le_refl _) _
  have HW := Lib.hid hW1
  have HBW := Lib.hid hbW
  have HB1 := Lib.hid (fun (W : World) (hW : Below W1.heap.size W1 W) (i : Nat) => (hW.cell (p := ⟨w.heap.size, i, none⟩) b1.lt).trans (b1.cell i))
  have HD := Lib.hid hd
  have HC := Lib.hid hc
  have HI := Lib.hid hi
  have HBD := Lib.hid hb0
  have HLD := Lib.hid hld
  have HLC := Lib.hid hlc
  have HLI := Lib.hid hli
  have HLB := Lib.hid hlb
  have HR := Lib.hid (fun W (hb : Below W1.heap.size W1 W) => (⟨Nat.le_trans hB (Nat.le_trans hbW.size hb.size), (hbW.trans (hb.mono hbW.size)).mono hB⟩ : B ≤ W.heap.size ∧ Below B w W))
  clear b1 hW1 hbW hd hc hi hb0 hld hlc hli hlb
  have HK0 := Lib.hid (Below.refl W1.heap.size W1)
  go_enter Try.func20, Try.ntmps20
  go_upto_region 1 with fail
  rw [HW.out]
  have p0 := HB1.out W1 (Below.refl _ _) 0
  have p1 := HB1.out W1 (Below.refl _ _) 1
  have p2 := HB1.out W1 (Below.refl _ _) 2
  have p3 := HB1.out W1 (Below.refl _ _) 3
  simp only [List.getElem?_toArray, List.getElem?_cons_succ, List.getElem?_cons_zero] at p0 p1 p2 p3
  by_cases gld : 20 < ld
  · go_wp2_with fail
    go_ret
    exact ⟨_, rfl, HBW.out.trans ((Below.refl W1.heap.size W1).mono HBW.out.size)⟩
  · skip
    by_cases glc : 20 < lc
    · go_wp2_with fail
      go_ret
      exact ⟨_, rfl, HBW.out.trans ((Below.refl W1.heap.size W1).mono HBW.out.size)⟩
    · skip
      by_cases gli : 20 < li
      · go_wp2_with fail
        go_ret
        exact ⟨_, rfl, HBW.out.trans ((Below.refl W1.heap.size W1).mono HBW.out.size)⟩
      · skip
        by_cases glb : 40 < lb
        · go_wp2_with fail
          go_ret
          exact ⟨_, rfl, HBW.out.trans ((Below.refl W1.heap.size W1).mono HBW.out.size)⟩
        · skip
          go_wp2_with fail
          go_loopw [40] (fun i wr => ∃ j : Nat, i = .int .i64 j ∧ j ≤ lc ∧ Below W1.heap.size W1 wr) (fun i _ => lc - (intOf i).toNat)
          case atStart => exact ⟨0, rfl, Nat.zero_le _, HK0.out⟩
          case round =>
            obtain ⟨jj, rfl, hj, hbel⟩ := hrel
            have HBE0 := Lib.hid hbel
            clear hbel
            by_cases hlt : jj < lc
            · have hkx : jj < cs.length := by rw [HLC.out]; exact hlt
              obtain ⟨LX, hrx, hex⟩ := (HC.out).ex
              have hbw := (HR.out wr HBE0.out).2
              have hrx' := hrx.later hbw
              obtain ⟨g, o, eA, hg, hlx, h5, hcx⟩ := elem_cells hrx' (by omega) hkx
              subst eA
              have hexj := hex jj hlx hkx
              generalize LX[jj] = lx at hexj hcx
              generalize cs[jj] = ex at hexj
              cases hexj with
              | @mk nm vr Ax Am Abx cx cm cbx sp ms bx qx g1 g2 g3 r1 r2 r3 =>
              obtain ⟨lt, hlt2⟩ : ∃ l, sp.length = l := ⟨_, rfl⟩
              obtain ⟨lp, hlp⟩ : ∃ l, ms.length = l := ⟨_, rfl⟩
              obtain ⟨lx, hlx2⟩ : ∃ l, bx.length = l := ⟨_, rfl⟩
              rw [hlt2, hlp, hlx2] at hcx
              have HLX := Lib.hid hlx2
              have HRX := Lib.hid r3
              have g29 : lx ≤ 9223372036854775807 := by unfold maxLen at g3; omega
              clear hlp hlt2 hlx2 r1 r2 r3 g1 g2 g3
              have u0 : wr.cell? ⟨g, o + jj * 6, none⟩ = some (.string nm) := hcx 0 _ rfl
              have u1 : wr.cell? ⟨g, o + jj * 6 + 1, none⟩ = some (.string vr) := hcx 1 _ rfl
              have u2 : wr.cell? ⟨g, o + jj * 6 + 2, none⟩ = some (.slice Ax lt cx) := hcx 2 _ rfl
              have u3 : wr.cell? ⟨g, o + jj * 6 + 3, none⟩ = some (.slice Am lp cm) := hcx 3 _ rfl
              have u4 : wr.cell? ⟨g, o + jj * 6 + 4, none⟩ = some (.slice Abx lx cbx) := hcx 4 _ rfl
              have u5 : wr.cell? ⟨g, o + jj * 6 + 5, none⟩ = some (.int .i64 qx) := hcx 5 _ rfl
              obtain ⟨wa, hwa⟩ : ∃ wa, wr.alloc (.cells #[.string nm, .string vr, .slice Ax lt cx, .slice Am lp cm, .slice Abx lx cbx, .int .i64 qx] 73) = wa := ⟨_, rfl⟩
              have ba : Blk wa wr.heap.size 73 #[.string nm, .string vr, .slice Ax lt cx, .slice Am lp cm, .slice Abx lx cbx, .int .i64 qx] := by rw [← hwa]; exact Blk.new wr _ _
              have hba : Below wr.heap.size wr wa := by rw [← hwa]; exact (Below.refl _ _).alloc (Nat.le_refl _) _
              have hb1 : Below W1.heap.size W1 wa := HBE0.out.trans (hba.mono HBE0.out.size)
              have q0 := ba.cell 0
              have q1 := ba.cell 1
              have q2 := ba.cell 2
              have q3 := ba.cell 3
              have q4 := ba.cell 4
              have q5 := ba.cell 5
              simp only [List.getElem?_toArray, List.getElem?_cons_succ, List.getElem?_cons_zero] at q0 q1 q2 q3 q4 q5
              have HWA := Lib.hid hwa
              have HKA := Lib.hid hb1
              clear hrx hex hbw hrx' hlx h5 hcx hwa ba hba hb1
              go_upto_region 6 with fail
              rw [HWA.out]
              by_cases glp : 20 < lp
              · go_wp2_with fail
                go_ret
                exact ⟨_, rfl, HBW.out.trans (HKA.out.mono HBW.out.size)⟩
              · skip
                by_cases glx : 20 < lx
                · go_wp2_with fail
                  go_ret
                  exact ⟨_, rfl, HBW.out.trans (HKA.out.mono HBW.out.size)⟩
                · skip
                  by_cases glt : 20 < lt
                  · go_wp2_with fail
                    go_ret
                    exact ⟨_, rfl, HBW.out.trans (HKA.out.mono HBW.out.size)⟩
                  · skip
                    go_wp2_with fail
                    go_loopw [63] (fun i wr => ∃ j : Nat, i = .int .i64 j ∧ j ≤ lx ∧ Below W1.heap.size W1 wr) (fun i _ => lx - (intOf i).toNat)
                    case atStart => exact ⟨0, rfl, Nat.zero_le _, HKA.out⟩
                    case round =>
                      obtain ⟨j, rfl, hj, hbel⟩ := hrel
                      have HBE := Lib.hid hbel
                      clear hbel
                      by_cases hlt : j < lx
                      · have hkx : j < bx.length := by rw [HLX.out]; exact hlt
                        obtain ⟨LX, hrx, hex⟩ := (HRX.out).ex
                        have hbw := (HR.out wr HBE.out).2
                        have hrx' := hrx.later hbw
                        have hlx : j < LX.length := by rw [hrx'.len]; exact hkx
                        obtain ⟨g, o, c0, c1, c2, c3, c4, c5, c6, c7, c8, c9, c10, nmb, e, qb, eA, hg, -, -, un, uq, he, k0, k1, k2, k3, k4, k5, k6, k7, k8, k9, k10⟩ := bd_cells hrx' hkx hlx (BdAt.later (hex j hlx hkx) hbw)
                        subst eA
                        have s0 := store_one c0 (ex_ones he c0 (by simp))
                        have s1 := store_one c1 (ex_ones he c1 (by simp))
                        have s2 := store_one c2 (ex_ones he c2 (by simp))
                        have s3 := store_one c3 (ex_ones he c3 (by simp))
                        have s4 := store_one c4 (ex_ones he c4 (by simp))
                        have s5 := store_one c5 (ex_ones he c5 (by simp))
                        have s6 := store_one c6 (ex_ones he c6 (by simp))
                        have s7 := store_one c7 (ex_ones he c7 (by simp))
                        have s8 := store_one c8 (ex_ones he c8 (by simp))
                        have s9 := store_one c9 (ex_ones he c9 (by simp))
                        have s10 := store_one c10 (ex_ones he c10 (by simp))
                        obtain ⟨wb, hwb⟩ : ∃ wb, wr.alloc (.cells #[.string nmb, c0, c1, c2, c3, c4, c5, c6, c7, c8, c9, c10, .int .i64 qb] 54) = wb := ⟨_, rfl⟩
                        have bb : Blk wb wr.heap.size 54 #[.string nmb, c0, c1, c2, c3, c4, c5, c6, c7, c8, c9, c10, .int .i64 qb] := by rw [← hwb]; exact Blk.new wr _ _
                        have hbb : Below wr.heap.size wr wb := by rw [← hwb]; exact (Below.refl _ _).alloc (Nat.le_refl _) _
                        have hb1 : Below W1.heap.size W1 wb := HBE.out.trans (hbb.mono HBE.out.size)
                        have hbw2 := HR.out wb hb1
                        have hBr := (HR.out wr HBE.out).1
                        have HCS := Lib.hid (small_any e 400 B wb [c0, c1, c2, c3, c4, c5, c6, c7, c8, c9, c10] (by omega) (by omega) hbw2.1 (he.later (hbb.mono hBr)))
                        have q1 := bb.cell 1
                        have q2 := bb.cell 2
                        have q3 := bb.cell 3
                        have q4 := bb.cell 4
                        have q5 := bb.cell 5
                        have q6 := bb.cell 6
                        have q7 := bb.cell 7
                        have q8 := bb.cell 8
                        have q9 := bb.cell 9
                        have q10 := bb.cell 10
                        have q11 := bb.cell 11
                        simp only [List.getElem?_toArray, List.getElem?_cons_succ, List.getElem?_cons_zero] at q1 q2 q3 q4 q5 q6 q7 q8 q9 q10 q11
                        have HWB := Lib.hid hwb
                        have HKB := Lib.hid hb1
                        clear hrx hex hbw hrx' hlx he hwb bb hbb hb1 hbw2 hBr
                        go_upto_region 11 with fail
                        rw [HWB.out]
                        go_wp2_with (go_at_call 9; (with_reducible refine HCS.out.mono ?_))
                        rintro e2 w3 ⟨b, rfl, -, hb3⟩
                        have HK3 := Lib.hid (HKB.out.trans (hb3.mono HKB.out.size))
                        clear hb3
                        cases b with
                        | false =>
                          go_wp2_with fail
                          go_ret
                          exact ⟨_, rfl, HBW.out.trans (HK3.out.mono HBW.out.size)⟩
                        | true =>
                          go_wp2_with fail
                          go_roundw
                          case rel => exact ⟨j + 1, by go_num, by omega, HK3.out⟩
                          case measure => simp [intOf]; omega
                      · have HBX := Lib.hid HBE.out
                        clear HBE
                        go_wp2_with fail
                        go_roundw
                        case rel => exact ⟨jj + 1, by go_num, by omega, HBX.out⟩
                        case measure => simp [intOf]; omega
            · have HBX0 := Lib.hid HBE0.out
              clear HBE0
              have hbx := HBX0.out
              have p0 := HB1.out wr hbx 0
              have p1 := HB1.out wr hbx 1
              have p2 := HB1.out wr hbx 2
              have p3 := HB1.out wr hbx 3
              simp only [List.getElem?_toArray, List.getElem?_cons_succ, List.getElem?_cons_zero] at p0 p1 p2 p3
              clear hbx
              go_wp2_with fail
              go_loopw [76] (fun i wr => ∃ j : Nat, i = .int .i64 j ∧ j ≤ li ∧ Below W1.heap.size W1 wr) (fun i _ => li - (intOf i).toNat)
              case atStart => exact ⟨0, rfl, Nat.zero_le _, HBX0.out⟩
              case round =>
                obtain ⟨jj, rfl, hj, hbel⟩ := hrel
                have HBE0 := Lib.hid hbel
                clear hbel
                by_cases hlt : jj < li
                · have hkx : jj < is.length := by rw [HLI.out]; exact hlt
                  obtain ⟨LX, hrx, hex⟩ := (HI.out).ex
                  have hbw := (HR.out wr HBE0.out).2
                  have hrx' := hrx.later hbw
                  obtain ⟨g, o, eA, hg, hlx, h5, hcx⟩ := elem_cells hrx' (by omega) hkx
                  subst eA
                  have hexj := hex jj hlx hkx
                  generalize LX[jj] = lx at hexj hcx
                  generalize is[jj] = ex at hexj
                  cases hexj with
                  | @mk nm tt TT Ax Abx cx cbx ps bx qx g1 g2 rt r1 r2 =>
                  cases rt with
                  | @mk tk tn tnm tA tc tks tL _ _ _ _ _ _ _ _ =>
                  obtain ⟨lt, hlt2⟩ : ∃ l, tks.length = l := ⟨_, rfl⟩
                  obtain ⟨lp, hlp⟩ : ∃ l, ps.length = l := ⟨_, rfl⟩
                  obtain ⟨lx, hlx2⟩ : ∃ l, bx.length = l := ⟨_, rfl⟩
                  rw [hlt2, hlp, hlx2] at hcx
                  have HLX := Lib.hid hlx2
                  have HRX := Lib.hid r2
                  have g29 : lx ≤ 9223372036854775807 := by unfold maxLen at g2; omega
                  clear hlp hlt2 hlx2 r1 r2 g1 g2
                  have u0 : wr.cell? ⟨g, o + jj * 8, none⟩ = some (.string nm) := hcx 0 _ rfl
                  have u1 : wr.cell? ⟨g, o + jj * 8 + 1, none⟩ = some (.int .i64 tk) := hcx 1 _ rfl
                  have u2 : wr.cell? ⟨g, o + jj * 8 + 2, none⟩ = some (.string tnm) := hcx 2 _ rfl
                  have u3 : wr.cell? ⟨g, o + jj * 8 + 3, none⟩ = some (.int .i64 tn) := hcx 3 _ rfl
                  have u4 : wr.cell? ⟨g, o + jj * 8 + 4, none⟩ = some (.slice tA lt tc) := hcx 4 _ rfl
                  have u5 : wr.cell? ⟨g, o + jj * 8 + 5, none⟩ = some (.slice Ax lp cx) := hcx 5 _ rfl
                  have u6 : wr.cell? ⟨g, o + jj * 8 + 6, none⟩ = some (.slice Abx lx cbx) := hcx 6 _ rfl
                  have u7 : wr.cell? ⟨g, o + jj * 8 + 7, none⟩ = some (.int .i64 qx) := hcx 7 _ rfl
                  obtain ⟨wa, hwa⟩ : ∃ wa, wr.alloc (.cells #[.string nm, .int .i64 tk, .string tnm, .int .i64 tn, .slice tA lt tc, .slice Ax lp cx, .slice Abx lx cbx, .int .i64 qx] 76) = wa := ⟨_, rfl⟩
                  have ba : Blk wa wr.heap.size 76 #[.string nm, .int .i64 tk, .string tnm, .int .i64 tn, .slice tA lt tc, .slice Ax lp cx, .slice Abx lx cbx, .int .i64 qx] := by rw [← hwa]; exact Blk.new wr _ _
                  have hba : Below wr.heap.size wr wa := by rw [← hwa]; exact (Below.refl _ _).alloc (Nat.le_refl _) _
                  have hb1 : Below W1.heap.size W1 wa := HBE0.out.trans (hba.mono HBE0.out.size)
                  have q0 := ba.cell 0
                  have q1 := ba.cell 1
                  have q2 := ba.cell 2
                  have q3 := ba.cell 3
                  have q4 := ba.cell 4
                  have q5 := ba.cell 5
                  have q6 := ba.cell 6
                  have q7 := ba.cell 7
                  simp only [List.getElem?_toArray, List.getElem?_cons_succ, List.getElem?_cons_zero] at q0 q1 q2 q3 q4 q5 q6 q7
                  have HWA := Lib.hid hwa
                  have HKA := Lib.hid hb1
                  clear hrx hex hbw hrx' hlx h5 hcx hwa ba hba hb1
                  go_upto_region 18 with fail
                  rw [HWA.out]
                  by_cases glx : 20 < lx
                  · go_wp2_with fail
                    go_ret
                    exact ⟨_, rfl, HBW.out.trans (HKA.out.mono HBW.out.size)⟩
                  · skip
                    by_cases glp : 20 < lp
                    · go_wp2_with fail
                      go_ret
                      exact ⟨_, rfl, HBW.out.trans (HKA.out.mono HBW.out.size)⟩
                    · skip
                      by_cases glt : 20 < lt
                      · go_wp2_with fail
                        go_ret
                        exact ⟨_, rfl, HBW.out.trans (HKA.out.mono HBW.out.size)⟩
                      · skip
                        go_wp2_with fail
                        go_loopw [100] (fun i wr => ∃ j : Nat, i = .int .i64 j ∧ j ≤ lx ∧ Below W1.heap.size W1 wr) (fun i _ => lx - (intOf i).toNat)
                        case atStart => exact ⟨0, rfl, Nat.zero_le _, HKA.out⟩
                        case round =>
                          obtain ⟨j, rfl, hj, hbel⟩ := hrel
                          have HBE := Lib.hid hbel
                          clear hbel
                          by_cases hlt : j < lx
                          · have hkx : j < bx.length := by rw [HLX.out]; exact hlt
                            obtain ⟨LX, hrx, hex⟩ := (HRX.out).ex
                            have hbw := (HR.out wr HBE.out).2
                            have hrx' := hrx.later hbw
                            have hlx : j < LX.length := by rw [hrx'.len]; exact hkx
                            obtain ⟨g, o, c0, c1, c2, c3, c4, c5, c6, c7, c8, c9, c10, nmb, e, qb, eA, hg, -, -, un, uq, he, k0, k1, k2, k3, k4, k5, k6, k7, k8, k9, k10⟩ := bd_cells hrx' hkx hlx (BdAt.later (hex j hlx hkx) hbw)
                            subst eA
                            have s0 := store_one c0 (ex_ones he c0 (by simp))
                            have s1 := store_one c1 (ex_ones he c1 (by simp))
                            have s2 := store_one c2 (ex_ones he c2 (by simp))
                            have s3 := store_one c3 (ex_ones he c3 (by simp))
                            have s4 := store_one c4 (ex_ones he c4 (by simp))
                            have s5 := store_one c5 (ex_ones he c5 (by simp))
                            have s6 := store_one c6 (ex_ones he c6 (by simp))
                            have s7 := store_one c7 (ex_ones he c7 (by simp))
                            have s8 := store_one c8 (ex_ones he c8 (by simp))
                            have s9 := store_one c9 (ex_ones he c9 (by simp))
                            have s10 := store_one c10 (ex_ones he c10 (by simp))
                            obtain ⟨wb, hwb⟩ : ∃ wb, wr.alloc (.cells #[.string nmb, c0, c1, c2, c3, c4, c5, c6, c7, c8, c9, c10, .int .i64 qb] 54) = wb := ⟨_, rfl⟩
                            have bb : Blk wb wr.heap.size 54 #[.string nmb, c0, c1, c2, c3, c4, c5, c6, c7, c8, c9, c10, .int .i64 qb] := by rw [← hwb]; exact Blk.new wr _ _
                            have hbb : Below wr.heap.size wr wb := by rw [← hwb]; exact (Below.refl _ _).alloc (Nat.le_refl _) _
                            have hb1 : Below W1.heap.size W1 wb := HBE.out.trans (hbb.mono HBE.out.size)
                            have hbw2 := HR.out wb hb1
                            have hBr := (HR.out wr HBE.out).1
                            have HCS := Lib.hid (small_any e 400 B wb [c0, c1, c2, c3, c4, c5, c6, c7, c8, c9, c10] (by omega) (by omega) hbw2.1 (he.later (hbb.mono hBr)))
                            have q1 := bb.cell 1
                            have q2 := bb.cell 2
                            have q3 := bb.cell 3
                            have q4 := bb.cell 4
                            have q5 := bb.cell 5
                            have q6 := bb.cell 6
                            have q7 := bb.cell 7
                            have q8 := bb.cell 8
                            have q9 := bb.cell 9
                            have q10 := bb.cell 10
                            have q11 := bb.cell 11
                            simp only [List.getElem?_toArray, List.getElem?_cons_succ, List.getElem?_cons_zero] at q1 q2 q3 q4 q5 q6 q7 q8 q9 q10 q11
                            have HWB := Lib.hid hwb
                            have HKB := Lib.hid hb1
                            clear hrx hex hbw hrx' hlx he hwb bb hbb hb1 hbw2 hBr
                            go_upto_region 23 with fail
                            rw [HWB.out]
                            go_wp2_with (go_at_call 9; (with_reducible refine HCS.out.mono ?_))
                            rintro e2 w3 ⟨b, rfl, -, hb3⟩
                            have HK3 := Lib.hid (HKB.out.trans (hb3.mono HKB.out.size))
                            clear hb3
                            cases b with
                            | false =>
                              go_wp2_with fail
                              go_ret
                              exact ⟨_, rfl, HBW.out.trans (HK3.out.mono HBW.out.size)⟩
                            | true =>
                              go_wp2_with fail
                              go_roundw
                              case rel => exact ⟨j + 1, by go_num, by omega, HK3.out⟩
                              case measure => simp [intOf]; omega
                          · have HBX := Lib.hid HBE.out
                            clear HBE
                            go_wp2_with fail
                            go_roundw
                            case rel => exact ⟨jj + 1, by go_num, by omega, HBX.out⟩
                            case measure => simp [intOf]; omega
                · have HBX0 := Lib.hid HBE0.out
                  clear HBE0
                  have hbx := HBX0.out
                  have p0 := HB1.out wr hbx 0
                  have p1 := HB1.out wr hbx 1
                  have p2 := HB1.out wr hbx 2
                  have p3 := HB1.out wr hbx 3
                  simp only [List.getElem?_toArray, List.getElem?_cons_succ, List.getElem?_cons_zero] at p0 p1 p2 p3
                  clear hbx
                  go_wp2_with fail
                  go_loopw [113] (fun i wr => ∃ j : Nat, i = .int .i64 j ∧ j ≤ ld ∧ Below W1.heap.size W1 wr) (fun i _ => ld - (intOf i).toNat)
                  case atStart => exact ⟨0, rfl, Nat.zero_le _, HBX0.out⟩
                  case round =>
                    obtain ⟨jj, rfl, hj, hbel⟩ := hrel
                    have HBE0 := Lib.hid hbel
                    clear hbel
                    by_cases hlt : jj < ld
                    · have hkx : jj < ds.length := by rw [HLD.out]; exact hlt
                      obtain ⟨LX, hrx, hex⟩ := (HD.out).ex
                      have hbw := (HR.out wr HBE0.out).2
                      have hrx' := hrx.later hbw
                      obtain ⟨g, o, eA, hg, hlx, h5, hcx⟩ := elem_cells hrx' (by omega) hkx
                      subst eA
                      have hexj := hex jj hlx hkx
                      generalize LX[jj] = lx at hexj hcx
                      generalize ds[jj] = ex at hexj
                      cases hexj with
                      | @mk nm Ax Acx Adx cx ccx cdx ps dv cos qx g1 g2 g3 r1 r2 r3 =>
                      obtain ⟨lp, hlp⟩ : ∃ l, ps.length = l := ⟨_, rfl⟩
                      obtain ⟨lo, hlo⟩ : ∃ l, cos.length = l := ⟨_, rfl⟩
                      obtain ⟨le, hle⟩ : ∃ l, dv.length = l := ⟨_, rfl⟩
                      rw [hlp, hlo, hle] at hcx
                      clear hlp hlo hle r1 r2 r3 g1 g2 g3
                      have u0 : wr.cell? ⟨g, o + jj * 5, none⟩ = some (.string nm) := hcx 0 _ rfl
                      have u1 : wr.cell? ⟨g, o + jj * 5 + 1, none⟩ = some (.slice Ax lp cx) := hcx 1 _ rfl
                      have u2 : wr.cell? ⟨g, o + jj * 5 + 2, none⟩ = some (.slice Acx lo ccx) := hcx 2 _ rfl
                      have u3 : wr.cell? ⟨g, o + jj * 5 + 3, none⟩ = some (.slice Adx le cdx) := hcx 3 _ rfl
                      have u4 : wr.cell? ⟨g, o + jj * 5 + 4, none⟩ = some (.int .i64 qx) := hcx 4 _ rfl
                      obtain ⟨wa, hwa⟩ : ∃ wa, wr.alloc (.cells #[.string nm, .slice Ax lp cx, .slice Acx lo ccx, .slice Adx le cdx, .int .i64 qx] 79) = wa := ⟨_, rfl⟩
                      have ba : Blk wa wr.heap.size 79 #[.string nm, .slice Ax lp cx, .slice Acx lo ccx, .slice Adx le cdx, .int .i64 qx] := by rw [← hwa]; exact Blk.new wr _ _
                      have hba : Below wr.heap.size wr wa := by rw [← hwa]; exact (Below.refl _ _).alloc (Nat.le_refl _) _
                      have hb1 : Below W1.heap.size W1 wa := HBE0.out.trans (hba.mono HBE0.out.size)
                      have q0 := ba.cell 0
                      have q1 := ba.cell 1
                      have q2 := ba.cell 2
                      have q3 := ba.cell 3
                      have q4 := ba.cell 4
                      simp only [List.getElem?_toArray, List.getElem?_cons_succ, List.getElem?_cons_zero] at q0 q1 q2 q3 q4
                      have HWA := Lib.hid hwa
                      have HKA := Lib.hid hb1
                      clear hrx hex hbw hrx' hlx h5 hcx hwa ba hba hb1
                      go_upto_region 30 with fail
                      rw [HWA.out]
                      by_cases glo : 20 < lo
                      · go_wp2_with fail
                        go_ret
                        exact ⟨_, rfl, HBW.out.trans (HKA.out.mono HBW.out.size)⟩
                      · skip
                        by_cases glp : 20 < lp
                        · go_wp2_with fail
                          go_ret
                          exact ⟨_, rfl, HBW.out.trans (HKA.out.mono HBW.out.size)⟩
                        · skip
                          by_cases gle : 20 < le
                          · go_wp2_with fail
                            go_ret
                            exact ⟨_, rfl, HBW.out.trans (HKA.out.mono HBW.out.size)⟩
                          · skip
                            go_wp2_with fail
                            go_roundw
                            case rel => exact ⟨jj + 1, by go_num, by omega, HKA.out⟩
                            case measure => simp [intOf]; omega
                    · have HBX0 := Lib.hid HBE0.out
                      clear HBE0
                      have hbx := HBX0.out
                      have p0 := HB1.out wr hbx 0
                      have p1 := HB1.out wr hbx 1
                      have p2 := HB1.out wr hbx 2
                      have p3 := HB1.out wr hbx 3
                      simp only [List.getElem?_toArray, List.getElem?_cons_succ, List.getElem?_cons_zero] at p0 p1 p2 p3
                      clear hbx
                      go_wp2_with fail
                      go_loopw [137] (fun i wr => ∃ j : Nat, i = .int .i64 j ∧ j ≤ lb ∧ Below W1.heap.size W1 wr) (fun i _ => lb - (intOf i).toNat)
                      case atStart => exact ⟨0, rfl, Nat.zero_le _, HBX0.out⟩
                      case round =>
                        obtain ⟨j, rfl, hj, hbel⟩ := hrel
                        have HBE := Lib.hid hbel
                        clear hbel
                        by_cases hlt : j < lb
                        · have hkx : j < bs.length := by rw [HLB.out]; exact hlt
                          obtain ⟨LX, hrx, hex⟩ := (HBD.out).ex
                          have hbw := (HR.out wr HBE.out).2
                          have hrx' := hrx.later hbw
                          have hlx : j < LX.length := by rw [hrx'.len]; exact hkx
                          obtain ⟨g, o, c0, c1, c2, c3, c4, c5, c6, c7, c8, c9, c10, nmb, e, qb, eA, hg, -, -, un, uq, he, k0, k1, k2, k3, k4, k5, k6, k7, k8, k9, k10⟩ := bd_cells hrx' hkx hlx (BdAt.later (hex j hlx hkx) hbw)
                          subst eA
                          have s0 := store_one c0 (ex_ones he c0 (by simp))
                          have s1 := store_one c1 (ex_ones he c1 (by simp))
                          have s2 := store_one c2 (ex_ones he c2 (by simp))
                          have s3 := store_one c3 (ex_ones he c3 (by simp))
                          have s4 := store_one c4 (ex_ones he c4 (by simp))
                          have s5 := store_one c5 (ex_ones he c5 (by simp))
                          have s6 := store_one c6 (ex_ones he c6 (by simp))
                          have s7 := store_one c7 (ex_ones he c7 (by simp))
                          have s8 := store_one c8 (ex_ones he c8 (by simp))
                          have s9 := store_one c9 (ex_ones he c9 (by simp))
                          have s10 := store_one c10 (ex_ones he c10 (by simp))
                          obtain ⟨wb, hwb⟩ : ∃ wb, wr.alloc (.cells #[.string nmb, c0, c1, c2, c3, c4, c5, c6, c7, c8, c9, c10, .int .i64 qb] 54) = wb := ⟨_, rfl⟩
                          have bb : Blk wb wr.heap.size 54 #[.string nmb, c0, c1, c2, c3, c4, c5, c6, c7, c8, c9, c10, .int .i64 qb] := by rw [← hwb]; exact Blk.new wr _ _
                          have hbb : Below wr.heap.size wr wb := by rw [← hwb]; exact (Below.refl _ _).alloc (Nat.le_refl _) _
                          have hb1 : Below W1.heap.size W1 wb := HBE.out.trans (hbb.mono HBE.out.size)
                          have hbw2 := HR.out wb hb1
                          have hBr := (HR.out wr HBE.out).1
                          have HCS := Lib.hid (small_any e 1000 B wb [c0, c1, c2, c3, c4, c5, c6, c7, c8, c9, c10] (by omega) (by omega) hbw2.1 (he.later (hbb.mono hBr)))
                          have q1 := bb.cell 1
                          have q2 := bb.cell 2
                          have q3 := bb.cell 3
                          have q4 := bb.cell 4
                          have q5 := bb.cell 5
                          have q6 := bb.cell 6
                          have q7 := bb.cell 7
                          have q8 := bb.cell 8
                          have q9 := bb.cell 9
                          have q10 := bb.cell 10
                          have q11 := bb.cell 11
                          simp only [List.getElem?_toArray, List.getElem?_cons_succ, List.getElem?_cons_zero] at q1 q2 q3 q4 q5 q6 q7 q8 q9 q10 q11
                          have HWB := Lib.hid hwb
                          have HKB := Lib.hid hb1
                          clear hrx hex hbw hrx' hlx he hwb bb hbb hb1 hbw2 hBr
                          go_upto_region 36 with fail
                          rw [HWB.out]
                          go_wp2_with (go_at_call 9; (with_reducible refine HCS.out.mono ?_))
                          rintro e2 w3 ⟨b, rfl, -, hb3⟩
                          have HK3 := Lib.hid (HKB.out.trans (hb3.mono HKB.out.size))
                          clear hb3
                          cases b with
                          | false =>
                            go_wp2_with fail
                            go_ret
                            exact ⟨_, rfl, HBW.out.trans (HK3.out.mono HBW.out.size)⟩
                          | true =>
                            go_wp2_with fail
                            go_roundw
                            case rel => exact ⟨j + 1, by go_num, by omega, HK3.out⟩
                            case measure => simp [intOf]; omega
                        · have HBX := Lib.hid HBE.out
                          clear HBE
                          go_wp2_with fail
                          go_ret
                          exact ⟨_, rfl, HBW.out.trans (HBX.out.mono HBW.out.size)⟩

end Go.Proofs.Ytglamoiimmahgaa
