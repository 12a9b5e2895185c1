/-
  The law 'TreeNames' of the document's layer returns true for every input, and leaves what it was given as it was. Where what came in is of small bulk.
-/
import Derived.Test.YtglamoiimmahgaaRows
import Derived.WalkKit
import Derived.ProofKit
import Derived.OpenShut
import Derived.ShutString
import Derived.ChangeOld
import Derived.Below
import Derived.Carry
import Derived.Lib.SmallJoins
import Derived.SliceStrings
import Derived.JoinedCond
import Derived.Deep.CondSized
import Derived.Test.YtglamoiimmahgaaBulk
import Derived.Test.YtglamoiimmahgaaAwake05
import Derived.Test.YtglamoiimmahgaaParts
import Derived.Test.YtglamoiimmahgaaNmall
import Derived.Test.YtglamoiimmahgaaPls
namespace Go.Proofs.Ytglamoiimmahgaa.treeNames
open Go.Proofs.Ytglamoiimmahgaa
open Go.ChangeShapes Go.WideShapes Go.ChangeAt Go.RowKit Go.Joins
open Go.ChangeMaps (open_string shut_string)
set_option linter.unusedVariables false

theorem own : ownKnob Try.prog.godebug = none := by kernel_rfl
theorem laidOut : laidOutB Try.prog = true := by kernel_rfl

/-- A cell of a box, in any later world. -/
theorem cell_box {W1 W : World} {b : Nat} {xs : Array Value} (h : ∀ (W : World), Below W1.heap.size W1 W → ∀ i : Nat, W.cell? ⟨b, i, none⟩ = xs[i]?) (hb : Below W1.heap.size W1 W) (i : Nat) {v : Value} (hv : xs[i]? = some v) : W.cell? ⟨b, i, none⟩ = some v := (h W hb i).trans hv
set_option maxRecDepth 100000 in
set_option maxHeartbeats 12800000 in
theorem walk (x0 : List Value) (t0 : Ex) (w : World) (w0 : ExAt w w.heap.size x0 t0) (m0 : t0.mass ≤ 1048576) :
    Calls Try.prog 6 #[.agg x0.toArray] w fun e w' => e = .returned (.bool true) ∧ Below w.heap.size w w' := by
  have X0 := w0
  cases w0 with
  | @mk k n q nm t T A Aa Ab c ca cb ks als bs L La Lb _ _ _ _ ht _ _ _ _ _ _ hb hba hbb hr hks hra hals hrb hbs =>
  cases ht with
  | @mk tk tn tnm tA tc tks tL h1 h2 h3 h4 h5 h6 htr htks =>
  have hpat : ∀ p e, Al.mk p e ∈ als → p.nodes ≤ 4000000 := fun p e hx => by
    have h1 := als_mem_mass als _ hx
    have h2 : 1 + p.nodes + e.mass ≤ alsMass als := h1
    have hmass : (Ex.mk k nm n (.mk tk tnm tn tks) ks als bs q).mass = 1 + exsMass ks + alsMass als + bdsMass bs := rfl
    rw [hmass] at m0; omega
  obtain ⟨ta, hta⟩ : ∃ ta, Ex.mk k nm n (.mk tk tnm tn tks) ks als bs q = ta := ⟨_, rfl⟩
  obtain ⟨tl, htl⟩ : ∃ tl, tks.length = tl := ⟨_, rfl⟩
  obtain ⟨kl, hkl⟩ : ∃ kl, ks.length = kl := ⟨_, rfl⟩
  obtain ⟨al, hal⟩ : ∃ al, als.length = al := ⟨_, rfl⟩
  obtain ⟨bl, hbl⟩ : ∃ bl, bs.length = bl := ⟨_, rfl⟩
  have hal9 : al ≤ 1000000000000 := by omega
  rw [hta, htl, hkl, hal, hbl] at X0
  rw [hta] at m0
  rw [htl, hkl, hal, hbl]
  simp only [List.cons_append, List.nil_append] at X0 ⊢
  obtain ⟨v, hv⟩ : ∃ v, ta.value = v := ⟨_, rfl⟩
  obtain ⟨W1, hW1⟩ : ∃ W1, w.alloc (.cells #[.int .i64 k, .string nm, .int .i64 n, .int .i64 tk, .string tnm, .int .i64 tn, .slice tA tl tc, .slice A kl c, .slice Aa al ca, .slice Ab bl cb, .int .i64 q] 29) = W1 := ⟨_, rfl⟩
  have b1 : Blk W1 w.heap.size 29 #[.int .i64 k, .string nm, .int .i64 n, .int .i64 tk, .string tnm, .int .i64 tn, .slice tA tl tc, .slice A kl c, .slice Aa al ca, .slice Ab bl cb, .int .i64 q] := by rw [← hW1]; exact Blk.new w _ _
  have hbW : Below w.heap.size w W1 := by rw [← hW1]; exact (Below.refl _ _).alloc (Nat.le_refl _) _
  have hzW : W1.heap.size = w.heap.size + 1 := by rw [← hW1]; simp
  have hlt1 : w.heap.size < W1.heap.size := by omega
  have HW := Lib.hid hW1
  have HBW := Lib.hid hbW
  have HX := Lib.hid X0
  have HAL := Lib.hid hal
  have HRA := Lib.hid hra
  have HEA := Lib.hid hals
  have HPA := Lib.hid hpat
  have HBF := Lib.hid (fun (W : World) (hW : Below W1.heap.size W1 W) (i : Nat) => (hW.cell (p := ⟨w.heap.size, i, none⟩) (by show w.heap.size < _; omega)).trans (b1.cell i))
  have HM := Lib.hid (show ta.mass ≤ 4000000 by omega)
  have HV := Lib.hid hv
  have HG := Lib.hid (fun W (hb : Below W1.heap.size W1 W) => (⟨Nat.le_trans HBW.out.size hb.size, HX.out.later (HBW.out.trans (hb.mono HBW.out.size))⟩ : w.heap.size ≤ W.heap.size ∧ ExAt W w.heap.size [.int .i64 k, .string nm, .int .i64 n, .int .i64 tk, .string tnm, .int .i64 tn, .slice tA tl tc, .slice A kl c, .slice Aa al ca, .slice Ab bl cb, .int .i64 q] ta))
  clear hv b1 hzW hbW hW1 X0 hta htl hkl hal hbl hr hks hra hals hrb hbs htr htks h1 h2 h3 h4 h5 h6 hb hba hbb m0 hpat
  have CA := Lib.hid (fun W => awake05_any W)
  have CS := Lib.hid (fun W (hb : Below W1.heap.size W1 W) => small_any ta 500 w.heap.size W [.int .i64 k, .string nm, .int .i64 n, .int .i64 tk, .string tnm, .int .i64 tn, .slice tA tl tc, .slice A kl c, .slice Aa al ca, .slice Ab bl cb, .int .i64 q] (by omega) (by omega) (HG.out W hb).1 (HG.out W hb).2)
  have CF := Lib.hid (fun W (hb : Below W1.heap.size W1 W) => pfreeP hb HM.out (HG.out W hb).1 (HG.out W hb).2)
  have CR := Lib.hid (fun W (hb : Below W1.heap.size W1 W) => rfreeP hb HM.out (HG.out W hb).1 (HG.out W hb).2)
  have CV := Lib.hid (fun W (hb : Below W1.heap.size W1 W) => valueP hb HV.out (HG.out W hb).1 (HG.out W hb).2)
  have CW := Lib.hid (fun W (hb : Below W1.heap.size W1 W) => rvalueP hb HV.out (HG.out W hb).1 (HG.out W hb).2)
  have CT := Lib.hid (fun (W : World) (A1 : Option Addr) (q1 c1 : Nat) (A2 : Option Addr) (q2 c2 : Nat) (hb : Below W1.heap.size W1 W) (h1 : NmR W A1 q1 (ddS (ta.occ []))) (h2 : NmR W A2 q2 (ddS (ta.occ []))) => textsP (c := c1) (c' := c2) hb h1 h2)
  go_enter Try.func6, Try.ntmps6
  go_wp2_with fail
  rw [HW.out]
  go_wp2_with (go_at_call 8; (with_reducible refine (CA.out _).mono ?_); rintro e w2 ⟨rfl, hk2⟩; (have a0 := HBF.out w2 hk2 0); (have a1 := HBF.out w2 hk2 1); (have a2 := HBF.out w2 hk2 2); (have a3 := HBF.out w2 hk2 3); (have a4 := HBF.out w2 hk2 4); (have a5 := HBF.out w2 hk2 5); (have a6 := HBF.out w2 hk2 6); (have a7 := HBF.out w2 hk2 7); (have a8 := HBF.out w2 hk2 8); (have a9 := HBF.out w2 hk2 9); (have a10 := HBF.out w2 hk2 10); (simp only [List.getElem?_toArray, List.getElem?_cons_succ, List.getElem?_cons_zero] at a0 a1 a2 a3 a4 a5 a6 a7 a8 a9 a10))
  go_wp2_with (go_at_call 9; (with_reducible refine (CS.out _ hk2).mono ?_))
  rintro e w3 ⟨b, rfl, -, hb3⟩
  have hk3 : Below W1.heap.size W1 w3 := hk2.trans (hb3.mono hk2.size)
  have b8 := HBF.out w3 hk3 8
  simp only [List.getElem?_toArray, List.getElem?_cons_succ, List.getElem?_cons_zero] at b8
  have HK3 := Lib.hid hk3
  clear hk2 hb3 a0 a1 a2 a3 a4 a5 a6 a7 a8 a9 a10
  cases b with
  | false =>
    go_wp2_with fail
    go_ret
    exact ⟨rfl, HBW.out.trans (HK3.out.mono HBW.out.size)⟩
  | true =>
    go_wp2_with fail
    go_loopw [13] (fun i wr => ∃ j : Nat, i = .int .i64 j ∧ j ≤ al ∧ Below W1.heap.size W1 wr) (fun i _ => al - (intOf i).toNat)
    case atStart => exact ⟨0, rfl, Nat.zero_le _, HK3.out⟩
    case round =>
      obtain ⟨j, rfl, hj, hbel⟩ := hrel
      have HBE := Lib.hid hbel
      clear hbel
      by_cases hlt : j < al
      · have hjk : j < als.length := by rw [HAL.out]; exact hlt
        have hbw := HBW.out.trans (HBE.out.mono HBW.out.size)
        have hX := HRA.out.later hbw
        have hlx : j < La.length := by rw [hX.len]; exact hjk
        have hal0 := HEA.out j hlx hjk
        obtain ⟨g, o, p0, p1, p2, p3, p4, c0, c1, c2, c3, c4, c5, c6, c7, c8, c9, c10, pp, ee, rfl, hg, hall, hp, he, u0, u1, u2, u3, u4, k0, k1, k2, k3, k4, k5, k6, k7, k8, k9, k10⟩ := al_cells hX hjk hlx (AlAt.later hal0 hbw)
        have hpn := HPA.out pp ee (by rw [← hall]; exact List.getElem_mem hjk)
        have sp0 := store_one p0 (pt_ones hp p0 (by simp))
        have sp1 := store_one p1 (pt_ones hp p1 (by simp))
        have sp2 := store_one p2 (pt_ones hp p2 (by simp))
        have sp3 := store_one p3 (pt_ones hp p3 (by simp))
        have sp4 := store_one p4 (pt_ones hp p4 (by simp))
        have sc0 := store_one c0 (ex_ones he c0 (by simp))
        have sc1 := store_one c1 (ex_ones he c1 (by simp))
        have sc2 := store_one c2 (ex_ones he c2 (by simp))
        have sc3 := store_one c3 (ex_ones he c3 (by simp))
        have sc4 := store_one c4 (ex_ones he c4 (by simp))
        have sc5 := store_one c5 (ex_ones he c5 (by simp))
        have sc6 := store_one c6 (ex_ones he c6 (by simp))
        have sc7 := store_one c7 (ex_ones he c7 (by simp))
        have sc8 := store_one c8 (ex_ones he c8 (by simp))
        have sc9 := store_one c9 (ex_ones he c9 (by simp))
        have sc10 := store_one c10 (ex_ones he c10 (by simp))
        obtain ⟨wa, hwa⟩ : ∃ wa, wr.alloc (.cells #[p0, p1, p2, p3, p4, c0, c1, c2, c3, c4, c5, c6, c7, c8, c9, c10] 41) = wa := ⟨_, rfl⟩
        have bA : Blk wa wr.heap.size 41 #[p0, p1, p2, p3, p4, c0, c1, c2, c3, c4, c5, c6, c7, c8, c9, c10] := by rw [← hwa]; exact Blk.new wr _ _
        have hba : Below wr.heap.size wr wa := by rw [← hwa]; exact below_new _ _
        have hba1 : Below W1.heap.size W1 wa := HBE.out.trans (hba.mono HBE.out.size)
        have hltA : wr.heap.size < wa.heap.size := bA.lt
        have hBr : w.heap.size ≤ wr.heap.size := Nat.le_trans HBW.out.size HBE.out.size
        have hp' := hp.later (hba.mono hBr)
        have y0 := bA.cell 0
        have y1 := bA.cell 1
        have y2 := bA.cell 2
        have y3 := bA.cell 3
        have y4 := bA.cell 4
        simp only [List.getElem?_toArray, List.getElem?_cons_succ, List.getElem?_cons_zero] at y0 y1 y2 y3 y4
        have HWA := Lib.hid hwa
        have HK1 := Lib.hid hba1
        have hBa : w.heap.size ≤ wa.heap.size := Nat.le_trans hBr hba.size
        have HPN := Lib.hid (fun (W : World) (hb : Below wa.heap.size wa W) => pnamesP (cs := [p0, p1, p2, p3, p4]) hb hpn (Nat.le_trans hBa hb.size) (hp'.later (hb.mono hBa)))
        have HRN := Lib.hid (fun (W : World) (hb : Below wa.heap.size wa W) => rnamesP (cs := [p0, p1, p2, p3, p4]) hb hpn (Nat.le_trans hBa hb.size) (hp'.later (hb.mono hBa)))
        have HTX := Lib.hid (fun (W : World) (A1 : Option Addr) (q1 c1 : Nat) (A2 : Option Addr) (q2 c2 : Nat) (hb : Below wa.heap.size wa W) (h1 : NmR W A1 q1 (ptNames pp)) (h2 : NmR W A2 q2 (ptNames pp)) => textsP (c := c1) (c' := c2) hb h1 h2)
        clear hbw hX hal0 hp he hp' hall bA hwa hba hba1 hpn
        go_wp2_with fail
        rw [HWA.out]
        have hB0 : Below wa.heap.size wa wa.drew := (Below.refl _ _).drew
        go_region_held3 (fun w' => w'.cell? ⟨wr.heap.size, 0, none⟩ = some p0 ∧ w'.cell? ⟨wr.heap.size, 1, none⟩ = some p1 ∧ w'.cell? ⟨wr.heap.size, 2, none⟩ = some p2 ∧ w'.cell? ⟨wr.heap.size, 3, none⟩ = some p3 ∧ w'.cell? ⟨wr.heap.size, 4, none⟩ = some p4 ∧ Below wa.heap.size wa w')
          (((try dsimp only); (repeat' apply And.intro) <;> (first | assumption | exact cell_kept (by assumption) hltA (by assumption))))
          (first | (go_at_call 24; (with_reducible refine (HPN.out _ (by assumption)).mono ?_); rintro e wb ⟨A2, q2, c2', rfl, hq2, hrb, hbb, hkb⟩) | (go_at_call 25; (with_reducible refine (HRN.out _ (by assumption)).mono ?_); rintro e wd ⟨A3, q3, c3', rfl, hq3, hrd, hbd, hkd⟩) | (go_at_call 23; (with_reducible refine (HTX.out _ _ _ _ _ _ _ (by assumption) (hrb.later hbd) hrd).mono ?_); rintro e we ⟨rfl, hbe', hke⟩))
        have HKE := Lib.hid (HK1.out.trans (hke.mono HK1.out.size))
        clear hB0 hrb hrd hbb hbd hbe' hkb hkd hke
        go_wp2_with fail
        go_roundw
        case rel => exact ⟨j + 1, by go_num, by omega, HKE.out⟩
        case measure => simp [intOf]; omega
      · have hbel := HBE.out
        have z0 := HBF.out wr hbel 0
        have z1 := HBF.out wr hbel 1
        have z2 := HBF.out wr hbel 2
        have z3 := HBF.out wr hbel 3
        have z4 := HBF.out wr hbel 4
        have z5 := HBF.out wr hbel 5
        have z6 := HBF.out wr hbel 6
        have z7 := HBF.out wr hbel 7
        have z8 := HBF.out wr hbel 8
        have z9 := HBF.out wr hbel 9
        have z10 := HBF.out wr hbel 10
        simp only [List.getElem?_toArray, List.getElem?_cons_succ, List.getElem?_cons_zero] at z0 z1 z2 z3 z4 z5 z6 z7 z8 z9 z10
        go_wp2_with fail
        have hS0 : Below W1.heap.size W1 wr.drew := hbel.drew
        go_region_held3 (fun w' => w'.cell? ⟨w.heap.size, 0, none⟩ = some (.int .i64 k) ∧ w'.cell? ⟨w.heap.size, 1, none⟩ = some (.string nm) ∧ w'.cell? ⟨w.heap.size, 2, none⟩ = some (.int .i64 n) ∧ w'.cell? ⟨w.heap.size, 3, none⟩ = some (.int .i64 tk) ∧ w'.cell? ⟨w.heap.size, 4, none⟩ = some (.string tnm) ∧ w'.cell? ⟨w.heap.size, 5, none⟩ = some (.int .i64 tn) ∧ w'.cell? ⟨w.heap.size, 6, none⟩ = some (.slice tA tl tc) ∧ w'.cell? ⟨w.heap.size, 7, none⟩ = some (.slice A kl c) ∧ w'.cell? ⟨w.heap.size, 8, none⟩ = some (.slice Aa al ca) ∧ w'.cell? ⟨w.heap.size, 9, none⟩ = some (.slice Ab bl cb) ∧ w'.cell? ⟨w.heap.size, 10, none⟩ = some (.int .i64 q) ∧ Below W1.heap.size W1 w')
          (((try dsimp only); (repeat' apply And.intro) <;> (first | assumption | exact cell_box HBF.out (by assumption) _ rfl)))
          (first | (go_at_call 26; (with_reducible refine (CF.out _ (by assumption)).mono ?_); rintro e wb ⟨A2, q2, c2', rfl, hq2, hrb, hbb, hkb⟩) | (go_at_call 27; (with_reducible refine (CR.out _ (by assumption)).mono ?_); rintro e wd ⟨A3, q3, c3', rfl, hq3, hrd, hbd, hkd⟩) | (go_at_call 23; (with_reducible refine (CT.out _ _ _ _ _ _ _ (by assumption) (hrb.later hbd) hrd).mono ?_); rintro e we ⟨rfl, hbe', hke⟩) | (go_at_call 28; (with_reducible refine (CV.out _ (by assumption)).mono ?_); rintro e wf ⟨rfl, hbf, hkf⟩) | (go_at_call 29; (with_reducible refine (CW.out _ (by assumption)).mono ?_); rintro e wg ⟨rfl, hbg, hkg⟩))
        have HEND := Lib.hid hkg
        clear hS0 hrb hrd hbb hbd hbe' hkb hkd hke hbf hkf hbg hkg
        go_wp2_with fail
        go_ret
        exact ⟨by simp, HBW.out.trans (HEND.out.mono HBW.out.size)⟩

set_option maxRecDepth 100000 in
theorem contract (H : Type) (enc : TypeId × Value → H) (W : World) (base : Nat) (args : Array Value) (ds gs : List (DataW H)) (before : List MemPlace)
    (hval0 : ∀ (j : Nat) t v, Try.f6.params[j]? = some t → args[j]? = some v → Value.okWide Try.prog W .any base t v)
    (hW : DataW.Whole enc Try.prog Try.f6.params.toList Rows.treeNamesSpec.vars false W args.toList ds gs before) (hk : Rows.uptoSmall H (ds ++ gs) = true)
    (hsz0 : (DataW.weightsEach Try.prog (Try.f6.params.toList ++ Rows.treeNamesSpec.plain.varTypes Try.prog) (ds ++ gs)).all (· ≤ reachBytes) = true) :
    Calls Try.prog 6 args W fun e W' => ∃ v, e = .returned v ∧ Rows.treeNamesSpec.post enc Try.prog Try.f6 false true false false W args v W' := by
  have hbk := of_decide_eq_true hk
  clear hk
  have hsz := hsz0
  rw [Try.params6] at hsz
  clear hsz0
  have hval : ∀ (j : Nat) t v, Try.f6.params[j]? = some t → args[j]? = some v → Value.okWide Try.prog W .any base t v := hval0
  have hW' := hW
  obtain ⟨p, q, hA0, hV, rfl, hfz, hnd⟩ := hW
  have hA : DataW.TrodAll enc Try.prog W 0 (fun _ => true) true Try.f6.params.toList args.toList ds p := hA0
  rw [Try.params6] at hA hval
  obtain ⟨v0, vs0, d0, ds0, p0, q0, hargs, rfl, rfl, h0, r0⟩ := trodAll_cons hA
  obtain ⟨rfl, rfl, rfl⟩ := trodAll_nil r0
  obtain rfl : args = #[v0] := by cases args; simp_all
  obtain ⟨rfl, rfl⟩ := trodVars_none hV
  have k0 := h0
  have lt0 : ∀ x ∈ p0, x.block < W.heap.size := by obtain ⟨m, hm⟩ := k0; exact DataW.trod_lt m _ _ _ hm
  obtain ⟨y0, rfl, _⟩ := okWide_struct Try.underlying29 (hval 0 29 v0 rfl rfl)
  obtain ⟨x0, t0, w0, rfl, m0⟩ : ∃ xs t, ExAt W W.heap.size xs t ∧ y0 = xs.toArray ∧ t.mass ≤ 1048576 := by
    obtain ⟨fuel, hf⟩ := h0
    obtain ⟨t, ht, hm⟩ := openb_ex fuel _ _ hf (fits_param hsz (j := 0) rfl rfl)
    exact ⟨y0.toList, t, ht, by simp, by simp only [List.append_nil, Rows.uptoBulkAll] at hbk; exact Nat.le_trans hm (by omega)⟩
  clear hA0 hval0
  refine (walk x0 t0 W w0 m0).mono fun e W' ⟨he, bel⟩ => ?_
  subst he
  exact ⟨_, rfl, _, _, _, [], _, [], hW', trodAll_mk1 (shut_bool Try.underlying4 _), (trodAll_cons_mk (Below.trod laidOut (by kernel_rfl) (of_decide_eq_true (by kernel_rfl)) k0 bel lt0) trodAll_mk0), rfl, bel.frame _, fun h => by cases h⟩

set_option maxRecDepth 100000 in
theorem lifted (os : Os) (started : os.Started) (H : Type) (enc : TypeId × Value → H) (F : Stop.Interp) :
    ReturnsInHanded {} Try.checked os 6 .any ((Rows.OpenSpec.upto Rows.treeNamesSpec).pre6 enc Try.prog Try.f6 Rows.treeNamesUptoRow.domain false) (((Rows.OpenSpec.upto Rows.treeNamesSpec).at F).post enc Try.prog Try.f6 false true false false) := by
  refine returnsInHanded_of_cond_sized (C := Try.checked) (s := Rows.OpenSpec.upto Rows.treeNamesSpec) (k := Rows.uptoSmall) rfl own started (by kernel_rfl) Try.func6
    (OpenSpec.witness (enc := enc) (C := Try.checked) (s := Rows.OpenSpec.upto Rows.treeNamesSpec) (k := Rows.uptoSmall) rfl false ⟨#[], #[.agg #[.int .i64 0, .string ⟨#[]⟩, .int .i64 0, .int .i64 0, .string ⟨#[]⟩, .int .i64 0, .slice none 0 0, .slice none 0 0, .slice none 0 0, .slice none 0 0, .int .i64 0]], []⟩ 8 (by kernel_rfl) (by kernel_rfl) (by kernel_rfl)
      (x := ([.agg [.lit (.int .i64 0), .lit (.string []), .lit (.int .i64 0), .agg [.lit (.int .i64 0), .lit (.string []), .lit (.int .i64 0), .nil], .nil, .nil, .nil, .lit (.int .i64 0)]], [], [])) (by kernel_rfl) rfl (by kernel_rfl)) ?_
  intro W base args ds gs before hval hW _ hk hsz _
  exact contract H enc W base args ds gs before hval hW hk hsz

theorem over : Rows.treeNamesUptoRow.holds Try.pinned (Rows.OpenSpec.upto Rows.treeNamesSpec) :=
  OpenClaim.holds_of_cond 6 Try.f6 rfl rfl rfl rfl rfl rfl rfl ⟨rfl, rfl, rfl, rfl, rfl⟩ rfl rfl rfl rfl rfl (by kernel_rfl) Try.func6 (by kernel_rfl)
    (of_decide_eq_true (by kernel_rfl)) (by unfold Func.isWrapper; first | (rw [if_pos (by decide +kernel)]; kernel_rfl) | (rw [if_neg (by decide +kernel)]; exact ⟨rfl, rfl⟩))
    (fun os started H enc _ F => lifted os started H enc F)

/-- The statement. -/
theorem proved : Rows.TreeNamesUptoSaid := over
#print axioms proved
end Go.Proofs.Ytglamoiimmahgaa.treeNames
