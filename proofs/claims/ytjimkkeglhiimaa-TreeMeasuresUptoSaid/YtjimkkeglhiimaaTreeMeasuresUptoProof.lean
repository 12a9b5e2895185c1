/-
  The law 'TreeMeasures' of the document's layer returns true for every input, and leaves what it was given as it was. Where what came in is of small bulk.
-/
import Derived.Test.YtjimkkeglhiimaaRows
import Derived.WalkKit
import Derived.ProofKit
import Derived.OpenShut
import Derived.ShutString
import Derived.ChangeOld
import Derived.Below
import Derived.Carry
import Derived.Lib.SmallJoins
import Derived.SliceStrings
import Derived.JoinedCond
import Derived.Deep.CondSized
import Derived.Test.YtjimkkeglhiimaaBulk
import Derived.Test.YtjimkkeglhiimaaAwake05
import Derived.Test.YtjimkkeglhiimaaSize
import Derived.Test.YtjimkkeglhiimaaPartw
import Derived.Test.YtjimkkeglhiimaaPsize
namespace Go.Proofs.Ytjimkkeglhiimaa.treeMeasures
open Go.Proofs.Ytjimkkeglhiimaa
open Go.ChangeShapes Go.WideShapes Go.ChangeAt Go.RowKit Go.Joins
open Go.ChangeMaps (open_string shut_string)
set_option linter.unusedVariables false

theorem own : ownKnob Try.prog.godebug = none := by kernel_rfl
theorem laidOut : laidOutB Try.prog = true := by kernel_rfl

/-- What stays true of the box from world to world. -/
theorem box_keep {W1 wr w2 : World} {b : Nat} {c0 c1 c2 c3 c4 c5 c6 c7 c8 c9 c10 : Value} (hb : Below wr.heap.size wr w2) (h : Below W1.heap.size W1 wr ∧ wr.cell? ⟨b, 0, none⟩ = some c0 ∧ wr.cell? ⟨b, 1, none⟩ = some c1 ∧ wr.cell? ⟨b, 2, none⟩ = some c2 ∧ wr.cell? ⟨b, 3, none⟩ = some c3 ∧ wr.cell? ⟨b, 4, none⟩ = some c4 ∧ wr.cell? ⟨b, 5, none⟩ = some c5 ∧ wr.cell? ⟨b, 6, none⟩ = some c6 ∧ wr.cell? ⟨b, 7, none⟩ = some c7 ∧ wr.cell? ⟨b, 8, none⟩ = some c8 ∧ wr.cell? ⟨b, 9, none⟩ = some c9 ∧ wr.cell? ⟨b, 10, none⟩ = some c10) (hlt : b < W1.heap.size) : Below W1.heap.size W1 w2 ∧ w2.cell? ⟨b, 0, none⟩ = some c0 ∧ w2.cell? ⟨b, 1, none⟩ = some c1 ∧ w2.cell? ⟨b, 2, none⟩ = some c2 ∧ w2.cell? ⟨b, 3, none⟩ = some c3 ∧ w2.cell? ⟨b, 4, none⟩ = some c4 ∧ w2.cell? ⟨b, 5, none⟩ = some c5 ∧ w2.cell? ⟨b, 6, none⟩ = some c6 ∧ w2.cell? ⟨b, 7, none⟩ = some c7 ∧ w2.cell? ⟨b, 8, none⟩ = some c8 ∧ w2.cell? ⟨b, 9, none⟩ = some c9 ∧ w2.cell? ⟨b, 10, none⟩ = some c10 := by
  obtain ⟨h0, h1, h2, h3, h4, h5, h6, h7, h8, h9, h10, h11⟩ := h
  have hz : b < wr.heap.size := Nat.lt_of_lt_of_le hlt h0.size
  exact ⟨h0.trans (hb.mono h0.size), cell_kept hb hz h1, cell_kept hb hz h2, cell_kept hb hz h3, cell_kept hb hz h4, cell_kept hb hz h5, cell_kept hb hz h6, cell_kept hb hz h7, cell_kept hb hz h8, cell_kept hb hz h9, cell_kept hb hz h10, cell_kept hb hz h11⟩
set_option maxRecDepth 100000 in
set_option maxHeartbeats 12800000 in
theorem walk (x0 : List Value) (t0 : Ex) (w : World) (w0 : ExAt w w.heap.size x0 t0) (m0 : t0.mass ≤ 1048576) :
    Calls Try.prog 3 #[.agg x0.toArray] w fun e w' => e = .returned (.bool true) ∧ Below w.heap.size w w' := by
  obtain ⟨c0, c1, c2, c3, c4, c5, c6, c7, c8, c9, c10, rfl⟩ := eleven_of w0.eleven
  have hnm : t0.nodes ≤ t0.mass := nodes_le_mass t0.nodes t0 (Nat.le_refl _)
  have s0 := store_one c0 (ex_ones w0 c0 (by simp))
  have s1 := store_one c1 (ex_ones w0 c1 (by simp))
  have s2 := store_one c2 (ex_ones w0 c2 (by simp))
  have s3 := store_one c3 (ex_ones w0 c3 (by simp))
  have s4 := store_one c4 (ex_ones w0 c4 (by simp))
  have s5 := store_one c5 (ex_ones w0 c5 (by simp))
  have s6 := store_one c6 (ex_ones w0 c6 (by simp))
  have s7 := store_one c7 (ex_ones w0 c7 (by simp))
  have s8 := store_one c8 (ex_ones w0 c8 (by simp))
  have s9 := store_one c9 (ex_ones w0 c9 (by simp))
  have s10 := store_one c10 (ex_ones w0 c10 (by simp))
  obtain ⟨W1, hW1⟩ : ∃ W1, w.alloc (.cells #[c0, c1, c2, c3, c4, c5, c6, c7, c8, c9, c10] 29) = W1 := ⟨_, rfl⟩
  have hk1 : Below w.heap.size w W1 := by rw [← hW1]; exact (Below.refl _ _).alloc (Nat.le_refl _) _
  have hbx : Blk W1 w.heap.size 29 #[c0, c1, c2, c3, c4, c5, c6, c7, c8, c9, c10] := by rw [← hW1]; exact Blk.new _ _ _
  have HW := Lib.hid hW1
  have HK1 := Lib.hid hk1
  have HBX := Lib.hid hbx
  clear hW1 hk1 hbx
  have HX := Lib.hid w0
  have HM := Lib.hid m0
  have HN := Lib.hid hnm
  clear hnm
  have C1 := Lib.hid (fun W => awake05_any W)
  have C2 := Lib.hid (fun W (hb : Below W1.heap.size W1 W) => small_any t0 1000 w.heap.size W [c0, c1, c2, c3, c4, c5, c6, c7, c8, c9, c10] (by omega) (by omega) (Nat.le_trans HK1.out.size hb.size) (HX.out.later (HK1.out.trans (hb.mono HK1.out.size))))
  have C3 := Lib.hid (fun W (hb : Below W1.heap.size W1 W) => psize_any t0.mass t0 (Nat.le_refl _) (by have := HM.out; omega) w.heap.size W [c0, c1, c2, c3, c4, c5, c6, c7, c8, c9, c10] (Nat.le_trans HK1.out.size hb.size) (HX.out.later (HK1.out.trans (hb.mono HK1.out.size))))
  have C4 := Lib.hid (fun (hn : (t0.nodes : Int) ≤ 1000) W (hb : Below W1.heap.size W1 W) => rsize_any t0.nodes t0 (Nat.le_refl _) (by omega) w.heap.size W [c0, c1, c2, c3, c4, c5, c6, c7, c8, c9, c10] (Nat.le_trans HK1.out.size hb.size) (HX.out.later (HK1.out.trans (hb.mono HK1.out.size))))
  have C5 := Lib.hid (fun W (hb : Below W1.heap.size W1 W) => pdeep_any t0.mass t0 (Nat.le_refl _) (by have := HM.out; omega) w.heap.size W [c0, c1, c2, c3, c4, c5, c6, c7, c8, c9, c10] (Nat.le_trans HK1.out.size hb.size) (HX.out.later (HK1.out.trans (hb.mono HK1.out.size))))
  have C6 := Lib.hid (fun (hn : (t0.nodes : Int) ≤ 1000) W (hb : Below W1.heap.size W1 W) => rdeep_any t0.nodes t0 (Nat.le_refl _) (by omega) w.heap.size W [c0, c1, c2, c3, c4, c5, c6, c7, c8, c9, c10] (Nat.le_trans HK1.out.size hb.size) (HX.out.later (HK1.out.trans (hb.mono HK1.out.size))))
  clear m0 w0
  go_enter Try.func3, Try.ntmps3
  go_wp2_with fail
  rw [HW.out]
  go_wp2_with (go_at_call 8; (with_reducible refine (C1.out _).mono ?_); rintro e w2 ⟨rfl, hk2⟩; (have hbx2 := HBX.out.below hk2 HBX.out.lt); (have _z0 := hbx2.cell 0); (have _z1 := hbx2.cell 1); (have _z2 := hbx2.cell 2); (have _z3 := hbx2.cell 3); (have _z4 := hbx2.cell 4); (have _z5 := hbx2.cell 5); (have _z6 := hbx2.cell 6); (have _z7 := hbx2.cell 7); (have _z8 := hbx2.cell 8); (have _z9 := hbx2.cell 9); (have _z10 := hbx2.cell 10); (simp only [List.getElem?_toArray, List.getElem?_cons_succ, List.getElem?_cons_zero] at _z0 _z1 _z2 _z3 _z4 _z5 _z6 _z7 _z8 _z9 _z10))
  go_wp2_with (go_at_call 9; (with_reducible refine (C2.out _ hk2).mono ?_); rintro e w3 ⟨b, rfl, hbb, hb3⟩; (have hk3 : Below W1.heap.size W1 w3 := hk2.trans (hb3.mono hk2.size)); (cases b))
  · go_wp2_with fail
    go_ret
    exact ⟨rfl, HK1.out.trans (hk3.mono HK1.out.size)⟩
  · have hn := hbb (by simp)
    have HN' := Lib.hid hn
    have hbx3 := HBX.out.below hk3 HBX.out.lt
    have dz0 := hbx3.cell 0
    have dz1 := hbx3.cell 1
    have dz2 := hbx3.cell 2
    have dz3 := hbx3.cell 3
    have dz4 := hbx3.cell 4
    have dz5 := hbx3.cell 5
    have dz6 := hbx3.cell 6
    have dz7 := hbx3.cell 7
    have dz8 := hbx3.cell 8
    have dz9 := hbx3.cell 9
    have dz10 := hbx3.cell 10
    simp only [List.getElem?_toArray, List.getElem?_cons_succ, List.getElem?_cons_zero] at dz0 dz1 dz2 dz3 dz4 dz5 dz6 dz7 dz8 dz9 dz10
    clear hn hbb
    go_wp2_with fail
    have hB0 : Below W1.heap.size W1 w3.drew := hk3.drew
    have hlt : w.heap.size < W1.heap.size := HBX.out.lt
    have hB1 := HK1.out
    have hS0 : Below W1.heap.size W1 w3.drew ∧ w3.drew.cell? ⟨w.heap.size, 0, none⟩ = some c0 ∧ w3.drew.cell? ⟨w.heap.size, 1, none⟩ = some c1 ∧ w3.drew.cell? ⟨w.heap.size, 2, none⟩ = some c2 ∧ w3.drew.cell? ⟨w.heap.size, 3, none⟩ = some c3 ∧ w3.drew.cell? ⟨w.heap.size, 4, none⟩ = some c4 ∧ w3.drew.cell? ⟨w.heap.size, 5, none⟩ = some c5 ∧ w3.drew.cell? ⟨w.heap.size, 6, none⟩ = some c6 ∧ w3.drew.cell? ⟨w.heap.size, 7, none⟩ = some c7 ∧ w3.drew.cell? ⟨w.heap.size, 8, none⟩ = some c8 ∧ w3.drew.cell? ⟨w.heap.size, 9, none⟩ = some c9 ∧ w3.drew.cell? ⟨w.heap.size, 10, none⟩ = some c10 := ⟨hB0, dz0, dz1, dz2, dz3, dz4, dz5, dz6, dz7, dz8, dz9, dz10⟩
    go_region_held3 (fun w' => Below W1.heap.size W1 w' ∧ w'.cell? ⟨w.heap.size, 0, none⟩ = some c0 ∧ w'.cell? ⟨w.heap.size, 1, none⟩ = some c1 ∧ w'.cell? ⟨w.heap.size, 2, none⟩ = some c2 ∧ w'.cell? ⟨w.heap.size, 3, none⟩ = some c3 ∧ w'.cell? ⟨w.heap.size, 4, none⟩ = some c4 ∧ w'.cell? ⟨w.heap.size, 5, none⟩ = some c5 ∧ w'.cell? ⟨w.heap.size, 6, none⟩ = some c6 ∧ w'.cell? ⟨w.heap.size, 7, none⟩ = some c7 ∧ w'.cell? ⟨w.heap.size, 8, none⟩ = some c8 ∧ w'.cell? ⟨w.heap.size, 9, none⟩ = some c9 ∧ w'.cell? ⟨w.heap.size, 10, none⟩ = some c10)
      (first | assumption | exact box_keep (by assumption) (by assumption) hlt)
      (first | (go_at_call 10; (with_reducible refine (C3.out _ (by first | assumption | exact And.left (by assumption))).mono ?_); rintro e w4 ⟨rfl, hb4⟩) | (go_at_call 11; (with_reducible refine (C4.out HN'.out _ (by first | assumption | exact And.left (by assumption))).mono ?_); rintro e w4 ⟨rfl, hb4⟩) | (go_at_call 12; (with_reducible refine (C5.out _ (by first | assumption | exact And.left (by assumption))).mono ?_); rintro e w4 ⟨rfl, hb4⟩) | (go_at_call 13; (with_reducible refine (C6.out HN'.out _ (by first | assumption | exact And.left (by assumption))).mono ?_); rintro e w4 ⟨rfl, hb4⟩))
    have hend : Below W1.heap.size W1 w4 := by first | exact (box_keep (c0 := c0) (c1 := c1) (c2 := c2) (c3 := c3) (c4 := c4) (c5 := c5) (c6 := c6) (c7 := c7) (c8 := c8) (c9 := c9) (c10 := c10) (b := w.heap.size) (by assumption) (by assumption) hlt).1 | exact And.left (by assumption)
    go_wp2_with fail
    go_ret
    exact ⟨rfl, HK1.out.trans (hend.mono HK1.out.size)⟩

set_option maxRecDepth 100000 in
theorem contract (H : Type) (enc : TypeId × Value → H) (W : World) (base : Nat) (args : Array Value) (ds gs : List (DataW H)) (before : List MemPlace)
    (hval0 : ∀ (j : Nat) t v, Try.f3.params[j]? = some t → args[j]? = some v → Value.okWide Try.prog W .any base t v)
    (hW : DataW.Whole enc Try.prog Try.f3.params.toList Rows.treeMeasuresSpec.vars false W args.toList ds gs before) (hk : Rows.uptoSmall H (ds ++ gs) = true)
    (hsz0 : (DataW.weightsEach Try.prog (Try.f3.params.toList ++ Rows.treeMeasuresSpec.plain.varTypes Try.prog) (ds ++ gs)).all (· ≤ reachBytes) = true) :
    Calls Try.prog 3 args W fun e W' => ∃ v, e = .returned v ∧ Rows.treeMeasuresSpec.post enc Try.prog Try.f3 false true false false W args v W' := by
  have hbk := of_decide_eq_true hk
  clear hk
  have hsz := hsz0
  rw [Try.params3] at hsz
  clear hsz0
  have hval : ∀ (j : Nat) t v, Try.f3.params[j]? = some t → args[j]? = some v → Value.okWide Try.prog W .any base t v := hval0
  have hW' := hW
  obtain ⟨p, q, hA0, hV, rfl, hfz, hnd⟩ := hW
  have hA : DataW.TrodAll enc Try.prog W 0 (fun _ => true) true Try.f3.params.toList args.toList ds p := hA0
  rw [Try.params3] at hA hval
  obtain ⟨v0, vs0, d0, ds0, p0, q0, hargs, rfl, rfl, h0, r0⟩ := trodAll_cons hA
  obtain ⟨rfl, rfl, rfl⟩ := trodAll_nil r0
  obtain rfl : args = #[v0] := by cases args; simp_all
  obtain ⟨rfl, rfl⟩ := trodVars_none hV
  have k0 := h0
  have lt0 : ∀ x ∈ p0, x.block < W.heap.size := by obtain ⟨m, hm⟩ := k0; exact DataW.trod_lt m _ _ _ hm
  obtain ⟨y0, rfl, _⟩ := okWide_struct Try.underlying29 (hval 0 29 v0 rfl rfl)
  obtain ⟨x0, t0, w0, rfl, m0⟩ : ∃ xs t, ExAt W W.heap.size xs t ∧ y0 = xs.toArray ∧ t.mass ≤ 1048576 := by
    obtain ⟨fuel, hf⟩ := h0
    obtain ⟨t, ht, hm⟩ := openb_ex fuel _ _ hf (fits_param hsz (j := 0) rfl rfl)
    exact ⟨y0.toList, t, ht, by simp, by simp only [List.append_nil, Rows.uptoBulkAll] at hbk; exact Nat.le_trans hm (by omega)⟩
  clear hA0 hval0
  refine (walk x0 t0 W w0 m0).mono fun e W' ⟨he, bel⟩ => ?_
  subst he
  exact ⟨_, rfl, _, _, _, [], _, [], hW', trodAll_mk1 (shut_bool Try.underlying4 _), (trodAll_cons_mk (Below.trod laidOut (by kernel_rfl) (of_decide_eq_true (by kernel_rfl)) k0 bel lt0) trodAll_mk0), rfl, bel.frame _, fun h => by cases h⟩

set_option maxRecDepth 100000 in
theorem lifted (os : Os) (started : os.Started) (H : Type) (enc : TypeId × Value → H) (F : Stop.Interp) :
    ReturnsInHanded {} Try.checked os 3 .any ((Rows.OpenSpec.upto Rows.treeMeasuresSpec).pre6 enc Try.prog Try.f3 Rows.treeMeasuresUptoRow.domain false) (((Rows.OpenSpec.upto Rows.treeMeasuresSpec).at F).post enc Try.prog Try.f3 false true false false) := by
  refine returnsInHanded_of_cond_sized (C := Try.checked) (s := Rows.OpenSpec.upto Rows.treeMeasuresSpec) (k := Rows.uptoSmall) rfl own started (by kernel_rfl) Try.func3
    (OpenSpec.witness (enc := enc) (C := Try.checked) (s := Rows.OpenSpec.upto Rows.treeMeasuresSpec) (k := Rows.uptoSmall) rfl false ⟨#[], #[.agg #[.int .i64 0, .string ⟨#[]⟩, .int .i64 0, .int .i64 0, .string ⟨#[]⟩, .int .i64 0, .slice none 0 0, .slice none 0 0, .slice none 0 0, .slice none 0 0, .int .i64 0]], []⟩ 8 (by kernel_rfl) (by kernel_rfl) (by kernel_rfl)
      (x := ([.agg [.lit (.int .i64 0), .lit (.string []), .lit (.int .i64 0), .agg [.lit (.int .i64 0), .lit (.string []), .lit (.int .i64 0), .nil], .nil, .nil, .nil, .lit (.int .i64 0)]], [], [])) (by kernel_rfl) rfl (by kernel_rfl)) ?_
  intro W base args ds gs before hval hW _ hk hsz _
  exact contract H enc W base args ds gs before hval hW hk hsz

theorem over : Rows.treeMeasuresUptoRow.holds Try.pinned (Rows.OpenSpec.upto Rows.treeMeasuresSpec) :=
  OpenClaim.holds_of_cond 3 Try.f3 rfl rfl rfl rfl rfl rfl rfl ⟨rfl, rfl, rfl, rfl, rfl⟩ rfl rfl rfl rfl rfl (by kernel_rfl) Try.func3 (by kernel_rfl)
    (of_decide_eq_true (by kernel_rfl)) (by unfold Func.isWrapper; first | (rw [if_pos (by decide +kernel)]; kernel_rfl) | (rw [if_neg (by decide +kernel)]; exact ⟨rfl, rfl⟩))
    (fun os started H enc _ F => lifted os started H enc F)

/-- The statement. -/
theorem proved : Rows.TreeMeasuresUptoSaid := over
#print axioms proved
end Go.Proofs.Ytjimkkeglhiimaa.treeMeasures
