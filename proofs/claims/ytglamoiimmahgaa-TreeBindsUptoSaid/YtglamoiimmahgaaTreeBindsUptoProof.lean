/-
  The law 'TreeBinds' of the document's layer returns true for every input, and leaves what it was given as it was. Where what came in is of small bulk.
-/
import Derived.Test.YtglamoiimmahgaaRows
import Derived.WalkKit
import Derived.ProofKit
import Derived.OpenShut
import Derived.ShutString
import Derived.ChangeOld
import Derived.Below
import Derived.Carry
import Derived.Lib.SmallJoins
import Derived.SliceStrings
import Derived.JoinedCond
import Derived.Deep.CondSized
import Derived.Test.YtglamoiimmahgaaBulk
import Derived.Test.YtglamoiimmahgaaAwake05
import Derived.Test.YtglamoiimmahgaaParts
import Derived.Test.YtglamoiimmahgaaNmall
import Derived.Test.YtglamoiimmahgaaPls
import Derived.Test.YtglamoiimmahgaaPsize
import Derived.Test.YtglamoiimmahgaaBinds
namespace Go.Proofs.Ytglamoiimmahgaa.treeBinds
open Go.Proofs.Ytglamoiimmahgaa
open Go.ChangeShapes Go.WideShapes Go.ChangeAt Go.RowKit Go.Joins
open Go.ChangeMaps (open_string shut_string)
set_option linter.unusedVariables false

theorem own : ownKnob Try.prog.godebug = none := by kernel_rfl
theorem laidOut : laidOutB Try.prog = true := by kernel_rfl

/-- What stays true of the five boxes from world to world. -/
theorem boxes5_keep {W1 wr w2 : World} {p q r s t : Nat} {c0 : Value} {c1 : Value} {c2 : Value} {c3 : Value} {c4 : Value} {c5 : Value} {c6 : Value} {c7 : Value} {c8 : Value} {c9 : Value} {c10 : Value} {c11 : Value} {c12 : Value} {c13 : Value} {c14 : Value} {c15 : Value} {c16 : Value} {c17 : Value} {c18 : Value} {c19 : Value} {c20 : Value} {c21 : Value} {c22 : Value} {c23 : Value} {c24 : Value} {c25 : Value} {c26 : Value} {c27 : Value} {c28 : Value} {c29 : Value} {c30 : Value} {c31 : Value} {c32 : Value} {c33 : Value} {c34 : Value} {c35 : Value} {c36 : Value} {c37 : Value} {c38 : Value} {c39 : Value} {c40 : Value} {c41 : Value} {c42 : Value} {c43 : Value} {c44 : Value} {c45 : Value} {c46 : Value} {c47 : Value} {c48 : Value} {c49 : Value} {c50 : Value} {c51 : Value} {c52 : Value} {c53 : Value} {c54 : Value} (hb : Below wr.heap.size wr w2) (h : Below W1.heap.size W1 wr ∧ wr.cell? ⟨p, 0, none⟩ = some c0 ∧ wr.cell? ⟨p, 1, none⟩ = some c1 ∧ wr.cell? ⟨p, 2, none⟩ = some c2 ∧ wr.cell? ⟨p, 3, none⟩ = some c3 ∧ wr.cell? ⟨p, 4, none⟩ = some c4 ∧ wr.cell? ⟨p, 5, none⟩ = some c5 ∧ wr.cell? ⟨p, 6, none⟩ = some c6 ∧ wr.cell? ⟨p, 7, none⟩ = some c7 ∧ wr.cell? ⟨p, 8, none⟩ = some c8 ∧ wr.cell? ⟨p, 9, none⟩ = some c9 ∧ wr.cell? ⟨p, 10, none⟩ = some c10 ∧ wr.cell? ⟨q, 0, none⟩ = some c11 ∧ wr.cell? ⟨q, 1, none⟩ = some c12 ∧ wr.cell? ⟨q, 2, none⟩ = some c13 ∧ wr.cell? ⟨q, 3, none⟩ = some c14 ∧ wr.cell? ⟨q, 4, none⟩ = some c15 ∧ wr.cell? ⟨q, 5, none⟩ = some c16 ∧ wr.cell? ⟨q, 6, none⟩ = some c17 ∧ wr.cell? ⟨q, 7, none⟩ = some c18 ∧ wr.cell? ⟨q, 8, none⟩ = some c19 ∧ wr.cell? ⟨q, 9, none⟩ = some c20 ∧ wr.cell? ⟨q, 10, none⟩ = some c21 ∧ wr.cell? ⟨r, 0, none⟩ = some c22 ∧ wr.cell? ⟨r, 1, none⟩ = some c23 ∧ wr.cell? ⟨r, 2, none⟩ = some c24 ∧ wr.cell? ⟨r, 3, none⟩ = some c25 ∧ wr.cell? ⟨r, 4, none⟩ = some c26 ∧ wr.cell? ⟨r, 5, none⟩ = some c27 ∧ wr.cell? ⟨r, 6, none⟩ = some c28 ∧ wr.cell? ⟨r, 7, none⟩ = some c29 ∧ wr.cell? ⟨r, 8, none⟩ = some c30 ∧ wr.cell? ⟨r, 9, none⟩ = some c31 ∧ wr.cell? ⟨r, 10, none⟩ = some c32 ∧ wr.cell? ⟨s, 0, none⟩ = some c33 ∧ wr.cell? ⟨s, 1, none⟩ = some c34 ∧ wr.cell? ⟨s, 2, none⟩ = some c35 ∧ wr.cell? ⟨s, 3, none⟩ = some c36 ∧ wr.cell? ⟨s, 4, none⟩ = some c37 ∧ wr.cell? ⟨s, 5, none⟩ = some c38 ∧ wr.cell? ⟨s, 6, none⟩ = some c39 ∧ wr.cell? ⟨s, 7, none⟩ = some c40 ∧ wr.cell? ⟨s, 8, none⟩ = some c41 ∧ wr.cell? ⟨s, 9, none⟩ = some c42 ∧ wr.cell? ⟨s, 10, none⟩ = some c43 ∧ wr.cell? ⟨t, 0, none⟩ = some c44 ∧ wr.cell? ⟨t, 1, none⟩ = some c45 ∧ wr.cell? ⟨t, 2, none⟩ = some c46 ∧ wr.cell? ⟨t, 3, none⟩ = some c47 ∧ wr.cell? ⟨t, 4, none⟩ = some c48 ∧ wr.cell? ⟨t, 5, none⟩ = some c49 ∧ wr.cell? ⟨t, 6, none⟩ = some c50 ∧ wr.cell? ⟨t, 7, none⟩ = some c51 ∧ wr.cell? ⟨t, 8, none⟩ = some c52 ∧ wr.cell? ⟨t, 9, none⟩ = some c53 ∧ wr.cell? ⟨t, 10, none⟩ = some c54) (hl0 : p < W1.heap.size) (hl1 : q < W1.heap.size) (hl2 : r < W1.heap.size) (hl3 : s < W1.heap.size) (hl4 : t < W1.heap.size) : Below W1.heap.size W1 w2 ∧ w2.cell? ⟨p, 0, none⟩ = some c0 ∧ w2.cell? ⟨p, 1, none⟩ = some c1 ∧ w2.cell? ⟨p, 2, none⟩ = some c2 ∧ w2.cell? ⟨p, 3, none⟩ = some c3 ∧ w2.cell? ⟨p, 4, none⟩ = some c4 ∧ w2.cell? ⟨p, 5, none⟩ = some c5 ∧ w2.cell? ⟨p, 6, none⟩ = some c6 ∧ w2.cell? ⟨p, 7, none⟩ = some c7 ∧ w2.cell? ⟨p, 8, none⟩ = some c8 ∧ w2.cell? ⟨p, 9, none⟩ = some c9 ∧ w2.cell? ⟨p, 10, none⟩ = some c10 ∧ w2.cell? ⟨q, 0, none⟩ = some c11 ∧ w2.cell? ⟨q, 1, none⟩ = some c12 ∧ w2.cell? ⟨q, 2, none⟩ = some c13 ∧ w2.cell? ⟨q, 3, none⟩ = some c14 ∧ w2.cell? ⟨q, 4, none⟩ = some c15 ∧ w2.cell? ⟨q, 5, none⟩ = some c16 ∧ w2.cell? ⟨q, 6, none⟩ = some c17 ∧ w2.cell? ⟨q, 7, none⟩ = some c18 ∧ w2.cell? ⟨q, 8, none⟩ = some c19 ∧ w2.cell? ⟨q, 9, none⟩ = some c20 ∧ w2.cell? ⟨q, 10, none⟩ = some c21 ∧ w2.cell? ⟨r, 0, none⟩ = some c22 ∧ w2.cell? ⟨r, 1, none⟩ = some c23 ∧ w2.cell? ⟨r, 2, none⟩ = some c24 ∧ w2.cell? ⟨r, 3, none⟩ = some c25 ∧ w2.cell? ⟨r, 4, none⟩ = some c26 ∧ w2.cell? ⟨r, 5, none⟩ = some c27 ∧ w2.cell? ⟨r, 6, none⟩ = some c28 ∧ w2.cell? ⟨r, 7, none⟩ = some c29 ∧ w2.cell? ⟨r, 8, none⟩ = some c30 ∧ w2.cell? ⟨r, 9, none⟩ = some c31 ∧ w2.cell? ⟨r, 10, none⟩ = some c32 ∧ w2.cell? ⟨s, 0, none⟩ = some c33 ∧ w2.cell? ⟨s, 1, none⟩ = some c34 ∧ w2.cell? ⟨s, 2, none⟩ = some c35 ∧ w2.cell? ⟨s, 3, none⟩ = some c36 ∧ w2.cell? ⟨s, 4, none⟩ = some c37 ∧ w2.cell? ⟨s, 5, none⟩ = some c38 ∧ w2.cell? ⟨s, 6, none⟩ = some c39 ∧ w2.cell? ⟨s, 7, none⟩ = some c40 ∧ w2.cell? ⟨s, 8, none⟩ = some c41 ∧ w2.cell? ⟨s, 9, none⟩ = some c42 ∧ w2.cell? ⟨s, 10, none⟩ = some c43 ∧ w2.cell? ⟨t, 0, none⟩ = some c44 ∧ w2.cell? ⟨t, 1, none⟩ = some c45 ∧ w2.cell? ⟨t, 2, none⟩ = some c46 ∧ w2.cell? ⟨t, 3, none⟩ = some c47 ∧ w2.cell? ⟨t, 4, none⟩ = some c48 ∧ w2.cell? ⟨t, 5, none⟩ = some c49 ∧ w2.cell? ⟨t, 6, none⟩ = some c50 ∧ w2.cell? ⟨t, 7, none⟩ = some c51 ∧ w2.cell? ⟨t, 8, none⟩ = some c52 ∧ w2.cell? ⟨t, 9, none⟩ = some c53 ∧ w2.cell? ⟨t, 10, none⟩ = some c54 := by
  obtain ⟨h0, h1, h2, h3, h4, h5, h6, h7, h8, h9, h10, h11, h12, h13, h14, h15, h16, h17, h18, h19, h20, h21, h22, h23, h24, h25, h26, h27, h28, h29, h30, h31, h32, h33, h34, h35, h36, h37, h38, h39, h40, h41, h42, h43, h44, h45, h46, h47, h48, h49, h50, h51, h52, h53, h54, h55⟩ := h
  have hz0 := Nat.lt_of_lt_of_le hl0 h0.size
  have hz1 := Nat.lt_of_lt_of_le hl1 h0.size
  have hz2 := Nat.lt_of_lt_of_le hl2 h0.size
  have hz3 := Nat.lt_of_lt_of_le hl3 h0.size
  have hz4 := Nat.lt_of_lt_of_le hl4 h0.size
  exact ⟨h0.trans (hb.mono h0.size), cell_kept hb hz0 h1, cell_kept hb hz0 h2, cell_kept hb hz0 h3, cell_kept hb hz0 h4, cell_kept hb hz0 h5, cell_kept hb hz0 h6, cell_kept hb hz0 h7, cell_kept hb hz0 h8, cell_kept hb hz0 h9, cell_kept hb hz0 h10, cell_kept hb hz0 h11, cell_kept hb hz1 h12, cell_kept hb hz1 h13, cell_kept hb hz1 h14, cell_kept hb hz1 h15, cell_kept hb hz1 h16, cell_kept hb hz1 h17, cell_kept hb hz1 h18, cell_kept hb hz1 h19, cell_kept hb hz1 h20, cell_kept hb hz1 h21, cell_kept hb hz1 h22, cell_kept hb hz2 h23, cell_kept hb hz2 h24, cell_kept hb hz2 h25, cell_kept hb hz2 h26, cell_kept hb hz2 h27, cell_kept hb hz2 h28, cell_kept hb hz2 h29, cell_kept hb hz2 h30, cell_kept hb hz2 h31, cell_kept hb hz2 h32, cell_kept hb hz2 h33, cell_kept hb hz3 h34, cell_kept hb hz3 h35, cell_kept hb hz3 h36, cell_kept hb hz3 h37, cell_kept hb hz3 h38, cell_kept hb hz3 h39, cell_kept hb hz3 h40, cell_kept hb hz3 h41, cell_kept hb hz3 h42, cell_kept hb hz3 h43, cell_kept hb hz3 h44, cell_kept hb hz4 h45, cell_kept hb hz4 h46, cell_kept hb hz4 h47, cell_kept hb hz4 h48, cell_kept hb hz4 h49, cell_kept hb hz4 h50, cell_kept hb hz4 h51, cell_kept hb hz4 h52, cell_kept hb hz4 h53, cell_kept hb hz4 h54, cell_kept hb hz4 h55⟩
set_option maxRecDepth 100000 in
set_option maxHeartbeats 12800000 in
theorem walk (x0 : List Value) (t0 : Ex) (x1 : List Value) (t1 : Ex) (a2 : ByteArray) (w : World) (w0 : ExAt w w.heap.size x0 t0) (m0 : t0.mass ≤ 1048576) (w1 : ExAt w w.heap.size x1 t1) (m1 : t1.mass ≤ 1048576) (w2 : a2.size ≤ maxLen) :
    Calls Try.prog 7 #[.agg x0.toArray, .agg x1.toArray, .string a2] w fun e w' => e = .returned (.bool true) ∧ Below w.heap.size w w' := by
  obtain ⟨x0, x1, x2, x3, x4, x5, x6, x7, x8, x9, x10, rfl⟩ := eleven_of w0.eleven
  obtain ⟨y0, y1, y2, y3, y4, y5, y6, y7, y8, y9, y10, rfl⟩ := eleven_of w1.eleven
  have s0 := store_one x0 (ex_ones w0 x0 (by simp))
  have r0 := store_one y0 (ex_ones w1 y0 (by simp))
  have s1 := store_one x1 (ex_ones w0 x1 (by simp))
  have r1 := store_one y1 (ex_ones w1 y1 (by simp))
  have s2 := store_one x2 (ex_ones w0 x2 (by simp))
  have r2 := store_one y2 (ex_ones w1 y2 (by simp))
  have s3 := store_one x3 (ex_ones w0 x3 (by simp))
  have r3 := store_one y3 (ex_ones w1 y3 (by simp))
  have s4 := store_one x4 (ex_ones w0 x4 (by simp))
  have r4 := store_one y4 (ex_ones w1 y4 (by simp))
  have s5 := store_one x5 (ex_ones w0 x5 (by simp))
  have r5 := store_one y5 (ex_ones w1 y5 (by simp))
  have s6 := store_one x6 (ex_ones w0 x6 (by simp))
  have r6 := store_one y6 (ex_ones w1 y6 (by simp))
  have s7 := store_one x7 (ex_ones w0 x7 (by simp))
  have r7 := store_one y7 (ex_ones w1 y7 (by simp))
  have s8 := store_one x8 (ex_ones w0 x8 (by simp))
  have r8 := store_one y8 (ex_ones w1 y8 (by simp))
  have s9 := store_one x9 (ex_ones w0 x9 (by simp))
  have r9 := store_one y9 (ex_ones w1 y9 (by simp))
  have s10 := store_one x10 (ex_ones w0 x10 (by simp))
  have r10 := store_one y10 (ex_ones w1 y10 (by simp))
  obtain ⟨W2, hW2⟩ : ∃ W2, (w.alloc (.cells #[x0, x1, x2, x3, x4, x5, x6, x7, x8, x9, x10] 29)).alloc (.cells #[y0, y1, y2, y3, y4, y5, y6, y7, y8, y9, y10] 29) = W2 := ⟨_, rfl⟩
  have b1 := (Blk.new w 29 #[x0, x1, x2, x3, x4, x5, x6, x7, x8, x9, x10]).alloc (.cells #[y0, y1, y2, y3, y4, y5, y6, y7, y8, y9, y10] 29)
  have b2 := Blk.new (w.alloc (.cells #[x0, x1, x2, x3, x4, x5, x6, x7, x8, x9, x10] 29)) 29 #[y0, y1, y2, y3, y4, y5, y6, y7, y8, y9, y10]
  have hbW : Below w.heap.size w W2 := by rw [← hW2]; exact ((Below.refl _ _).alloc (Nat.le_refl _) _).alloc (by simp) _
  have hzW : W2.heap.size = w.heap.size + 1 + 1 := by rw [← hW2]; simp
  rw [hW2] at b1 b2
  rw [World.size_alloc] at b2
  have HW := Lib.hid hW2
  have HBW := Lib.hid hbW
  have HZ := Lib.hid hzW
  have HX := Lib.hid w0
  have HY := Lib.hid w1
  have HMX := Lib.hid m0
  have HMY := Lib.hid m1
  have hnmx : a2.size ≤ maxLen := w2
  have HB1 := Lib.hid (fun (W : World) (hW : Below W2.heap.size W2 W) (i : Nat) => (hW.cell (p := ⟨w.heap.size, i, none⟩) (by show w.heap.size < _; omega)).trans (b1.cell i))
  have HB2 := Lib.hid (fun (W : World) (hW : Below W2.heap.size W2 W) (i : Nat) => (hW.cell (p := ⟨w.heap.size + 1, i, none⟩) (by show w.heap.size + 1 < _; omega)).trans (b2.cell i))
  have HM := Lib.hid (fun W (hb : Below W2.heap.size W2 W) => (⟨Nat.le_trans HBW.out.size hb.size, HX.out.later (HBW.out.trans (hb.mono HBW.out.size)), HY.out.later (HBW.out.trans (hb.mono HBW.out.size))⟩ : w.heap.size ≤ W.heap.size ∧ ExAt W w.heap.size [x0, x1, x2, x3, x4, x5, x6, x7, x8, x9, x10] t0 ∧ ExAt W w.heap.size [y0, y1, y2, y3, y4, y5, y6, y7, y8, y9, y10] t1))
  clear b1 b2 hzW hbW hW2 w0 w1 m0 m1 w2
  have CA := Lib.hid (fun W => awake05_any W)
  have CS1 := Lib.hid (fun W (hb : Below W2.heap.size W2 W) => small_any t0 300 w.heap.size W [x0, x1, x2, x3, x4, x5, x6, x7, x8, x9, x10] (by omega) (by omega) (HM.out W hb).1 (HM.out W hb).2.1)
  have CS2 := Lib.hid (fun W (hb : Below W2.heap.size W2 W) => small_any t1 300 w.heap.size W [y0, y1, y2, y3, y4, y5, y6, y7, y8, y9, y10] (by omega) (by omega) (HM.out W hb).1 (HM.out W hb).2.2)
  have CF := Lib.hid (fun W (hb : Below W2.heap.size W2 W) => pfreeP (cs := [x0, x1, x2, x3, x4, x5, x6, x7, x8, x9, x10]) hb (by have := HMX.out; omega) (HM.out W hb).1 (HM.out W hb).2.1)
  go_enter Try.func7, Try.ntmps7
  go_wp2_with fail
  rw [HW.out]
  go_wp2_with (go_at_call 8; (with_reducible refine (CA.out _).mono ?_))
  rintro e w3 ⟨rfl, hk3⟩
  have fa0 := HB1.out w3 hk3 0
  have fa1 := HB1.out w3 hk3 1
  have fa2 := HB1.out w3 hk3 2
  have fa3 := HB1.out w3 hk3 3
  have fa4 := HB1.out w3 hk3 4
  have fa5 := HB1.out w3 hk3 5
  have fa6 := HB1.out w3 hk3 6
  have fa7 := HB1.out w3 hk3 7
  have fa8 := HB1.out w3 hk3 8
  have fa9 := HB1.out w3 hk3 9
  have fa10 := HB1.out w3 hk3 10
  simp only [List.getElem?_toArray, List.getElem?_cons_succ, List.getElem?_cons_zero] at fa0 fa1 fa2 fa3 fa4 fa5 fa6 fa7 fa8 fa9 fa10
  go_wp2_with (go_at_call 9; (with_reducible refine (CS1.out _ hk3).mono ?_))
  rintro e w4 ⟨b, rfl, -, hb4⟩
  have hk4 : Below W2.heap.size W2 w4 := hk3.trans (hb4.mono hk3.size)
  have fb0 := HB2.out w4 hk4 0
  have fb1 := HB2.out w4 hk4 1
  have fb2 := HB2.out w4 hk4 2
  have fb3 := HB2.out w4 hk4 3
  have fb4 := HB2.out w4 hk4 4
  have fb5 := HB2.out w4 hk4 5
  have fb6 := HB2.out w4 hk4 6
  have fb7 := HB2.out w4 hk4 7
  have fb8 := HB2.out w4 hk4 8
  have fb9 := HB2.out w4 hk4 9
  have fb10 := HB2.out w4 hk4 10
  simp only [List.getElem?_toArray, List.getElem?_cons_succ, List.getElem?_cons_zero] at fb0 fb1 fb2 fb3 fb4 fb5 fb6 fb7 fb8 fb9 fb10
  have HK4 := Lib.hid hk4
  clear hk3 hb4 fa0 fa1 fa2 fa3 fa4 fa5 fa6 fa7 fa8 fa9 fa10
  cases b with
  | false =>
    go_wp2_with fail
    go_ret
    exact ⟨rfl, HBW.out.trans (HK4.out.mono HBW.out.size)⟩
  | true =>
    go_wp2_with (go_at_call 9; (with_reducible refine (CS2.out _ hk4).mono ?_))
    rintro e w5 ⟨b, rfl, -, hb5⟩
    have hk5 : Below W2.heap.size W2 w5 := HK4.out.trans (hb5.mono HK4.out.size)
    have fc0 := HB1.out w5 hk5 0
    have fc1 := HB1.out w5 hk5 1
    have fc2 := HB1.out w5 hk5 2
    have fc3 := HB1.out w5 hk5 3
    have fc4 := HB1.out w5 hk5 4
    have fc5 := HB1.out w5 hk5 5
    have fc6 := HB1.out w5 hk5 6
    have fc7 := HB1.out w5 hk5 7
    have fc8 := HB1.out w5 hk5 8
    have fc9 := HB1.out w5 hk5 9
    have fc10 := HB1.out w5 hk5 10
    simp only [List.getElem?_toArray, List.getElem?_cons_succ, List.getElem?_cons_zero] at fc0 fc1 fc2 fc3 fc4 fc5 fc6 fc7 fc8 fc9 fc10
    have HK5 := Lib.hid hk5
    clear hk4 hb5 fb0 fb1 fb2 fb3 fb4 fb5 fb6 fb7 fb8 fb9 fb10
    cases b with
    | false =>
      go_wp2_with fail
      go_ret
      exact ⟨rfl, HBW.out.trans (HK5.out.mono HBW.out.size)⟩
    | true =>
      obtain ⟨i0, hi, hz0, hz1, hz2⟩ := info_parts str_info
      have HI := Lib.hid hi
      have HZ0 := Lib.hid hz0
      have HZ1 := Lib.hid hz1
      have HZ2 := Lib.hid hz2
      clear hi hz0 hz1 hz2
      obtain ⟨fl, hfl⟩ : ∃ fl, ddS (t0.occ []) = fl := ⟨_, rfl⟩
      rw [hfl] at CF
      have HFL := Lib.hid hfl
      clear hfl
      go_wp2_with (go_at_call 26; (with_reducible refine (CF.out _ hk5).mono ?_); rintro e w6 ⟨A6, q6, c6, rfl, hq6, hr6, hb6, hk6⟩)
      have HR6 := Lib.hid hr6
      have HK6 := Lib.hid hk6
      clear hr6 hb6 hk5 hk6 fc0 fc1 fc2 fc3 fc4 fc5 fc6 fc7 fc8 fc9 fc10
      go_loopw [7, 27] (fun v i wr => ∃ j : Nat, i = .int .i64 j ∧ j ≤ q6 ∧ wr.ownsRow w6.heap.size 9 1 v (withoutS (fl.take j) [a2]).length (nmVals (withoutS (fl.take j) [a2])) ∧ Below w6.heap.size w6 wr) (fun _ i _ => q6 - (intOf i).toNat)
      case atStart => exact ⟨0, rfl, Nat.zero_le _, World.ownsRow_nil _ _ _ _, Below.refl _ _⟩
      case round =>
        obtain ⟨j, rfl, hj, hown, hbe⟩ := hrel
        have hzr := hbe.size
        have hlw : (withoutS (fl.take j) [a2]).length ≤ j := Nat.le_trans (List.length_filter_le _ _) (List.length_take_le _ _)
        have HOW := Lib.hid hown
        have HBE := Lib.hid hbe
        clear hown hbe
        by_cases hlt : j < q6
        · obtain ⟨ad, rfl, hbl, hl, hc⟩ := nm_at (HR6.out.later HBE.out).2.2 hlt
          obtain ⟨x, hx⟩ : ∃ x, fl[j] = x := ⟨_, rfl⟩
          rw [hx] at hc
          have hst : withoutS (fl.take (j + 1)) [a2] = withoutS (fl.take j) [a2] ++ (if nmEq a2 x then [] else [x]) := by
            unfold withoutS
            rw [List.take_succ_eq_append_getElem hl, List.filter_append, hx]
            have e : hasS [a2] x = nmEq a2 x := by simp [hasS]
            cases h : nmEq a2 x <;> simp [e, h]
          cases hh : nmEq a2 x
          · have b1 := nm_no (by rw [nmEq_comm]; exact hh : nmEq x a2 = false)
            have HST := Lib.hid (show withoutS (fl.take (j + 1)) [a2] = withoutS (fl.take j) [a2] ++ [x] by rw [hst, hh]; rfl)
            clear hst hh hx
            obtain ⟨q, hq⟩ : ∃ q, (withoutS (fl.take j) [a2]).length = q := ⟨_, rfl⟩
            have ho := HOW.out
            rw [hq] at ho hlw
            have HOQ := Lib.hid ho
            have HQ := Lib.hid hq
            clear ho hq
            go_wp2_with (at_builtin; refine wpList_append_own _ rfl (.tmp 34) (.tmp 36) 50 rfl w6.heap.size 9 i0 (.string ⟨#[]⟩) 1 16 Try.underlying50 HI.out HZ0.out HZ1.out HZ2.out rfl (by decide) _ _ _ rfl (HOQ.out.alloc _) ⟨wr.heap.size, 0, none⟩ 1 1 [.string x] rfl rfl (one_new _ _ _) (one_is rfl) (by unfold maxLen; omega) (by omega) (by simp; omega) ?_)
            intro v' wn hown' hgrow _
            have HN := Lib.hid (show wn.ownsRow w6.heap.size 9 1 v' (withoutS (fl.take (j + 1)) [a2]).length (nmVals (withoutS (fl.take (j + 1)) [a2])) by
              rw [HST.out, List.length_append, HQ.out]; simpa using hown')
            have HB2' := Lib.hid ((HBE.out.alloc hzr _).grown hgrow (by simp; omega) (own_base HOW.out))
            clear hown' hgrow
            go_wp2_with fail
            go_roundw
            case rel => exact ⟨j + 1, by go_num, by omega, HN.out, HB2'.out⟩
            case measure => simp [intOf]; omega
          · have b1 := nm_yes (by rw [nmEq_comm]; exact hh : nmEq x a2 = true)
            have HST := Lib.hid (show withoutS (fl.take (j + 1)) [a2] = withoutS (fl.take j) [a2] by rw [hst, hh]; simp)
            clear hst hh hx
            go_wp2_with fail
            go_roundw
            case rel => exact ⟨j + 1, by go_num, by omega, by rw [HST.out]; exact HOW.out, HBE.out⟩
            case measure => simp [intOf]; omega
        · have hown := HOW.out
          rw [List.take_of_length_le (by have := HR6.out.1; omega)] at hown
          obtain ⟨wl, hwl⟩ : ∃ wl, withoutS fl [a2] = wl := ⟨_, rfl⟩
          rw [hwl] at hown
          obtain ⟨A7, c7, rfl, hr7⟩ := own_shape hown
          have h77 : NmR wr A7 wl.length wl := ⟨rfl, by rw [← hwl]; exact Nat.le_trans (List.length_filter_le _ _) (by have := HR6.out.1; have := HR6.out.2.1; omega), hr7⟩
          obtain ⟨q7, hq7⟩ : ∃ q, wl.length = q := ⟨_, rfl⟩
          rw [hq7] at h77 ⊢
          have HR7 := Lib.hid h77
          have HWL := Lib.hid hwl
          have HBR := Lib.hid (HK6.out.trans (HBE.out.mono HK6.out.size))
          have hbr := HBR.out
          clear hown hr7 h77 hwl hq7 HOW
          have fc0 := HB1.out wr hbr 0
          have fc1 := HB1.out wr hbr 1
          have fc2 := HB1.out wr hbr 2
          have fc3 := HB1.out wr hbr 3
          have fc4 := HB1.out wr hbr 4
          have fc5 := HB1.out wr hbr 5
          have fc6 := HB1.out wr hbr 6
          have fc7 := HB1.out wr hbr 7
          have fc8 := HB1.out wr hbr 8
          have fc9 := HB1.out wr hbr 9
          have fc10 := HB1.out wr hbr 10
          simp only [List.getElem?_toArray, List.getElem?_cons_succ, List.getElem?_cons_zero] at fc0 fc1 fc2 fc3 fc4 fc5 fc6 fc7 fc8 fc9 fc10
          have fd0 := HB2.out wr hbr 0
          have fd1 := HB2.out wr hbr 1
          have fd2 := HB2.out wr hbr 2
          have fd3 := HB2.out wr hbr 3
          have fd4 := HB2.out wr hbr 4
          have fd5 := HB2.out wr hbr 5
          have fd6 := HB2.out wr hbr 6
          have fd7 := HB2.out wr hbr 7
          have fd8 := HB2.out wr hbr 8
          have fd9 := HB2.out wr hbr 9
          have fd10 := HB2.out wr hbr 10
          simp only [List.getElem?_toArray, List.getElem?_cons_succ, List.getElem?_cons_zero] at fd0 fd1 fd2 fd3 fd4 fd5 fd6 fd7 fd8 fd9 fd10
          obtain ⟨V2, hV2⟩ : ∃ V, (wr.alloc (.cells #[x0, x1, x2, x3, x4, x5, x6, x7, x8, x9, x10] 29)).alloc (.cells #[.int .i64 6, .string a2, .int .i64 0, .int .i64 0, .string ⟨#[]⟩, .int .i64 0, .slice none 0 0, .slice (some ⟨wr.heap.size, 0, none⟩) 1 1, .slice none 0 0, .slice none 0 0, .int .i64 0] 29) = V := ⟨_, rfl⟩
          have bE1 : Blk V2 wr.heap.size 29 #[x0, x1, x2, x3, x4, x5, x6, x7, x8, x9, x10] := by rw [← hV2]; exact (Blk.new wr 29 #[x0, x1, x2, x3, x4, x5, x6, x7, x8, x9, x10]).alloc _
          have bLam : Blk V2 (wr.heap.size + 1) 29 #[.int .i64 6, .string a2, .int .i64 0, .int .i64 0, .string ⟨#[]⟩, .int .i64 0, .slice none 0 0, .slice (some ⟨wr.heap.size, 0, none⟩) 1 1, .slice none 0 0, .slice none 0 0, .int .i64 0] := by
            rw [← hV2]
            have := Blk.new (wr.alloc (.cells #[x0, x1, x2, x3, x4, x5, x6, x7, x8, x9, x10] 29)) 29 #[.int .i64 6, .string a2, .int .i64 0, .int .i64 0, .string ⟨#[]⟩, .int .i64 0, .slice none 0 0, .slice (some ⟨wr.heap.size, 0, none⟩) 1 1, .slice none 0 0, .slice none 0 0, .int .i64 0]
            rw [World.size_alloc] at this
            exact this
          have hwV2 : Below wr.heap.size wr V2 := by rw [← hV2]; exact ((Below.refl _ _).alloc (Nat.le_refl _) _).alloc (by simp) _
          have HV2 := Lib.hid hV2
          have HWV2 := Lib.hid hwV2
          have BE1 := Lib.hid bE1
          have BLAM := Lib.hid bLam
          clear hV2 bE1 bLam
          go_upto_region 13 with fail
          rw [HV2.out]
          have hk2 : Below W2.heap.size W2 V2 := HBR.out.trans (hwV2.mono HBR.out.size)
          clear hbr fc0 fc1 fc2 fc3 fc4 fc5 fc6 fc7 fc8 fc9 fc10 fd0 fd1 fd2 fd3 fd4 fd5 fd6 fd7 fd8 fd9 fd10
          have ga0 := HB2.out V2 hk2 0
          have ga1 := HB2.out V2 hk2 1
          have ga2 := HB2.out V2 hk2 2
          have ga3 := HB2.out V2 hk2 3
          have ga4 := HB2.out V2 hk2 4
          have ga5 := HB2.out V2 hk2 5
          have ga6 := HB2.out V2 hk2 6
          have ga7 := HB2.out V2 hk2 7
          have ga8 := HB2.out V2 hk2 8
          have ga9 := HB2.out V2 hk2 9
          have ga10 := HB2.out V2 hk2 10
          simp only [List.getElem?_toArray, List.getElem?_cons_succ, List.getElem?_cons_zero] at ga0 ga1 ga2 ga3 ga4 ga5 ga6 ga7 ga8 ga9 ga10
          have hk2b : Below W2.heap.size W2 (V2.alloc (.cells #[.string a2, y0, y1, y2, y3, y4, y5, y6, y7, y8, y9, y10, .int .i64 0] 54)) := hk2.trans ((below_new _ _).mono hk2.size)
          have gb0 := HB1.out (V2.alloc (.cells #[.string a2, y0, y1, y2, y3, y4, y5, y6, y7, y8, y9, y10, .int .i64 0] 54)) hk2b 0
          have gb1 := HB1.out (V2.alloc (.cells #[.string a2, y0, y1, y2, y3, y4, y5, y6, y7, y8, y9, y10, .int .i64 0] 54)) hk2b 1
          have gb2 := HB1.out (V2.alloc (.cells #[.string a2, y0, y1, y2, y3, y4, y5, y6, y7, y8, y9, y10, .int .i64 0] 54)) hk2b 2
          have gb3 := HB1.out (V2.alloc (.cells #[.string a2, y0, y1, y2, y3, y4, y5, y6, y7, y8, y9, y10, .int .i64 0] 54)) hk2b 3
          have gb4 := HB1.out (V2.alloc (.cells #[.string a2, y0, y1, y2, y3, y4, y5, y6, y7, y8, y9, y10, .int .i64 0] 54)) hk2b 4
          have gb5 := HB1.out (V2.alloc (.cells #[.string a2, y0, y1, y2, y3, y4, y5, y6, y7, y8, y9, y10, .int .i64 0] 54)) hk2b 5
          have gb6 := HB1.out (V2.alloc (.cells #[.string a2, y0, y1, y2, y3, y4, y5, y6, y7, y8, y9, y10, .int .i64 0] 54)) hk2b 6
          have gb7 := HB1.out (V2.alloc (.cells #[.string a2, y0, y1, y2, y3, y4, y5, y6, y7, y8, y9, y10, .int .i64 0] 54)) hk2b 7
          have gb8 := HB1.out (V2.alloc (.cells #[.string a2, y0, y1, y2, y3, y4, y5, y6, y7, y8, y9, y10, .int .i64 0] 54)) hk2b 8
          have gb9 := HB1.out (V2.alloc (.cells #[.string a2, y0, y1, y2, y3, y4, y5, y6, y7, y8, y9, y10, .int .i64 0] 54)) hk2b 9
          have gb10 := HB1.out (V2.alloc (.cells #[.string a2, y0, y1, y2, y3, y4, y5, y6, y7, y8, y9, y10, .int .i64 0] 54)) hk2b 10
          simp only [List.getElem?_toArray, List.getElem?_cons_succ, List.getElem?_cons_zero] at gb0 gb1 gb2 gb3 gb4 gb5 gb6 gb7 gb8 gb9 gb10
          obtain ⟨V5, hV5⟩ : ∃ V, ((V2.alloc (.cells #[.string a2, y0, y1, y2, y3, y4, y5, y6, y7, y8, y9, y10, .int .i64 0] 54)).alloc (.cells #[x0, x1, x2, x3, x4, x5, x6, x7, x8, x9, x10] 29)).alloc (.cells #[.int .i64 7, .string ⟨#[]⟩, .int .i64 0, .int .i64 0, .string ⟨#[]⟩, .int .i64 0, .slice none 0 0, .slice (some ⟨V2.heap.size + 1, 0, none⟩) 1 1, .slice none 0 0, .slice (some ⟨V2.heap.size, 0, none⟩) 1 1, .int .i64 0] 29) = V := ⟨_, rfl⟩
          have bB : Blk V5 V2.heap.size 54 #[.string a2, y0, y1, y2, y3, y4, y5, y6, y7, y8, y9, y10, .int .i64 0] := by rw [← hV5]; exact ((Blk.new V2 54 #[.string a2, y0, y1, y2, y3, y4, y5, y6, y7, y8, y9, y10, .int .i64 0]).alloc _).alloc _
          have bE2 : Blk V5 (V2.heap.size + 1) 29 #[x0, x1, x2, x3, x4, x5, x6, x7, x8, x9, x10] := by
            rw [← hV5]
            have := (Blk.new (V2.alloc (.cells #[.string a2, y0, y1, y2, y3, y4, y5, y6, y7, y8, y9, y10, .int .i64 0] 54)) 29 #[x0, x1, x2, x3, x4, x5, x6, x7, x8, x9, x10]).alloc (.cells #[.int .i64 7, .string ⟨#[]⟩, .int .i64 0, .int .i64 0, .string ⟨#[]⟩, .int .i64 0, .slice none 0 0, .slice (some ⟨V2.heap.size + 1, 0, none⟩) 1 1, .slice none 0 0, .slice (some ⟨V2.heap.size, 0, none⟩) 1 1, .int .i64 0] 29)
            rw [World.size_alloc] at this
            exact this
          have bLet : Blk V5 (V2.heap.size + 1 + 1) 29 #[.int .i64 7, .string ⟨#[]⟩, .int .i64 0, .int .i64 0, .string ⟨#[]⟩, .int .i64 0, .slice none 0 0, .slice (some ⟨V2.heap.size + 1, 0, none⟩) 1 1, .slice none 0 0, .slice (some ⟨V2.heap.size, 0, none⟩) 1 1, .int .i64 0] := by
            rw [← hV5]
            have := Blk.new ((V2.alloc (.cells #[.string a2, y0, y1, y2, y3, y4, y5, y6, y7, y8, y9, y10, .int .i64 0] 54)).alloc (.cells #[x0, x1, x2, x3, x4, x5, x6, x7, x8, x9, x10] 29)) 29 #[.int .i64 7, .string ⟨#[]⟩, .int .i64 0, .int .i64 0, .string ⟨#[]⟩, .int .i64 0, .slice none 0 0, .slice (some ⟨V2.heap.size + 1, 0, none⟩) 1 1, .slice none 0 0, .slice (some ⟨V2.heap.size, 0, none⟩) 1 1, .int .i64 0]
            rw [World.size_alloc, World.size_alloc] at this
            exact this
          have h25 : Below V2.heap.size V2 V5 := by rw [← hV5]; exact (((Below.refl _ _).alloc (Nat.le_refl _) _).alloc (by simp) _).alloc (by simp; omega) _
          have HV5 := Lib.hid hV5
          have H25 := Lib.hid h25
          have BB := Lib.hid bB
          have BE2 := Lib.hid bE2
          have BLET := Lib.hid bLet
          have HK2 := Lib.hid hk2
          clear hV5 bB bE2 bLet
          go_upto_region 14 with fail
          rw [HV5.out]
          have hk5' : Below W2.heap.size W2 V5 := HK2.out.trans (h25.mono HK2.out.size)
          have bLam5 := BLAM.out.below h25 BLAM.out.lt
          clear hk2 hk2b ga0 ga1 ga2 ga3 ga4 ga5 ga6 ga7 ga8 ga9 ga10 gb0 gb1 gb2 gb3 gb4 gb5 gb6 gb7 gb8 gb9 gb10
          have gc0 := HB2.out V5 hk5' 0
          have gc1 := HB2.out V5 hk5' 1
          have gc2 := HB2.out V5 hk5' 2
          have gc3 := HB2.out V5 hk5' 3
          have gc4 := HB2.out V5 hk5' 4
          have gc5 := HB2.out V5 hk5' 5
          have gc6 := HB2.out V5 hk5' 6
          have gc7 := HB2.out V5 hk5' 7
          have gc8 := HB2.out V5 hk5' 8
          have gc9 := HB2.out V5 hk5' 9
          have gc10 := HB2.out V5 hk5' 10
          simp only [List.getElem?_toArray, List.getElem?_cons_succ, List.getElem?_cons_zero] at gc0 gc1 gc2 gc3 gc4 gc5 gc6 gc7 gc8 gc9 gc10
          have gd0 := bLam5.cell 0
          have gd1 := bLam5.cell 1
          have gd2 := bLam5.cell 2
          have gd3 := bLam5.cell 3
          have gd4 := bLam5.cell 4
          have gd5 := bLam5.cell 5
          have gd6 := bLam5.cell 6
          have gd7 := bLam5.cell 7
          have gd8 := bLam5.cell 8
          have gd9 := bLam5.cell 9
          have gd10 := bLam5.cell 10
          simp only [List.getElem?_toArray, List.getElem?_cons_succ, List.getElem?_cons_zero] at gd0 gd1 gd2 gd3 gd4 gd5 gd6 gd7 gd8 gd9 gd10
          obtain ⟨V7, hV7⟩ : ∃ V, (V5.alloc (.cells #[.int .i64 6, .string a2, .int .i64 0, .int .i64 0, .string ⟨#[]⟩, .int .i64 0, .slice none 0 0, .slice (some ⟨wr.heap.size, 0, none⟩) 1 1, .slice none 0 0, .slice none 0 0, .int .i64 0, y0, y1, y2, y3, y4, y5, y6, y7, y8, y9, y10] 29)).alloc (.cells #[.int .i64 5, .string ⟨#[]⟩, .int .i64 0, .int .i64 0, .string ⟨#[]⟩, .int .i64 0, .slice none 0 0, .slice (some ⟨V5.heap.size, 0, none⟩) 2 2, .slice none 0 0, .slice none 0 0, .int .i64 0] 29) = V := ⟨_, rfl⟩
          have bP : Blk V7 V5.heap.size 29 #[.int .i64 6, .string a2, .int .i64 0, .int .i64 0, .string ⟨#[]⟩, .int .i64 0, .slice none 0 0, .slice (some ⟨wr.heap.size, 0, none⟩) 1 1, .slice none 0 0, .slice none 0 0, .int .i64 0, y0, y1, y2, y3, y4, y5, y6, y7, y8, y9, y10] := by rw [← hV7]; exact (Blk.new V5 29 #[.int .i64 6, .string a2, .int .i64 0, .int .i64 0, .string ⟨#[]⟩, .int .i64 0, .slice none 0 0, .slice (some ⟨wr.heap.size, 0, none⟩) 1 1, .slice none 0 0, .slice none 0 0, .int .i64 0, y0, y1, y2, y3, y4, y5, y6, y7, y8, y9, y10]).alloc _
          have bCall : Blk V7 (V5.heap.size + 1) 29 #[.int .i64 5, .string ⟨#[]⟩, .int .i64 0, .int .i64 0, .string ⟨#[]⟩, .int .i64 0, .slice none 0 0, .slice (some ⟨V5.heap.size, 0, none⟩) 2 2, .slice none 0 0, .slice none 0 0, .int .i64 0] := by
            rw [← hV7]
            have := Blk.new (V5.alloc (.cells #[.int .i64 6, .string a2, .int .i64 0, .int .i64 0, .string ⟨#[]⟩, .int .i64 0, .slice none 0 0, .slice (some ⟨wr.heap.size, 0, none⟩) 1 1, .slice none 0 0, .slice none 0 0, .int .i64 0, y0, y1, y2, y3, y4, y5, y6, y7, y8, y9, y10] 29)) 29 #[.int .i64 5, .string ⟨#[]⟩, .int .i64 0, .int .i64 0, .string ⟨#[]⟩, .int .i64 0, .slice none 0 0, .slice (some ⟨V5.heap.size, 0, none⟩) 2 2, .slice none 0 0, .slice none 0 0, .int .i64 0]
            rw [World.size_alloc] at this
            exact this
          have h57 : Below V5.heap.size V5 V7 := by rw [← hV7]; exact ((Below.refl _ _).alloc (Nat.le_refl _) _).alloc (by simp) _
          have HV7 := Lib.hid hV7
          have H57 := Lib.hid h57
          have BP := Lib.hid bP
          have BCALL := Lib.hid bCall
          have HK5' := Lib.hid hk5'
          clear hV7 bP bCall
          go_upto_region 15 with fail
          rw [HV7.out]
          have h27 : Below V2.heap.size V2 V7 := H25.out.trans (H57.out.mono H25.out.size)
          have hw7 : Below wr.heap.size wr V7 := HWV2.out.trans (h27.mono HWV2.out.size)
          have hk7 : Below W2.heap.size W2 V7 := HBR.out.trans (hw7.mono HBR.out.size)
          have bE1 := BE1.out.below h27 BE1.out.lt
          have bLam := BLAM.out.below h27 BLAM.out.lt
          have bB := BB.out.below H57.out BB.out.lt
          have bE2 := BE2.out.below H57.out BE2.out.lt
          have bLet := BLET.out.below H57.out BLET.out.lt
          have hB7 : w.heap.size ≤ V7.heap.size := (HM.out V7 hk7).1
          have hE := (HM.out V7 hk7).2.1.more hB7
          have hF := (HM.out V7 hk7).2.2.more hB7
          have HLAM := Lib.hid (show ExAt V7 V7.heap.size [.int .i64 6, .string a2, .int .i64 0, .int .i64 0, .string ⟨#[]⟩, .int .i64 0, .slice none 0 0, .slice (some ⟨wr.heap.size, 0, none⟩) 1 1, .slice none 0 0, .slice none 0 0, .int .i64 0] (lamE a2 t0) from lam_at hnmx bE1 bE1.lt hE)
          have HLET := Lib.hid (show ExAt V7 V7.heap.size [.int .i64 7, .string ⟨#[]⟩, .int .i64 0, .int .i64 0, .string ⟨#[]⟩, .int .i64 0, .slice none 0 0, .slice (some ⟨V2.heap.size + 1, 0, none⟩) 1 1, .slice none 0 0, .slice (some ⟨V2.heap.size, 0, none⟩) 1 1, .int .i64 0] (letE a2 t1 t0) from let_at hnmx bE2 bE2.lt bB bB.lt hE hF)
          have HCALL := Lib.hid (show ExAt V7 V7.heap.size [.int .i64 5, .string ⟨#[]⟩, .int .i64 0, .int .i64 0, .string ⟨#[]⟩, .int .i64 0, .slice none 0 0, .slice (some ⟨V5.heap.size, 0, none⟩) 2 2, .slice none 0 0, .slice none 0 0, .int .i64 0] (callE (lamE a2 t0) t1) from call_at (xs := [.int .i64 6, .string a2, .int .i64 0, .int .i64 0, .string ⟨#[]⟩, .int .i64 0, .slice none 0 0, .slice (some ⟨wr.heap.size, 0, none⟩) 1 1, .slice none 0 0, .slice none 0 0, .int .i64 0]) BP.out BP.out.lt HLAM.out hF)
          have HK7 := Lib.hid hk7
          have HW7 := Lib.hid hw7
          have H27 := Lib.hid h27
          have HE7 := Lib.hid hE
          have HF7 := Lib.hid hF
          clear h25 h57 hwV2 hk5' bLam5 gc0 gc1 gc2 gc3 gc4 gc5 gc6 gc7 gc8 gc9 gc10 gd0 gd1 gd2 gd3 gd4 gd5 gd6 gd7 gd8 gd9 gd10 h27 hw7 hB7 hE hF bE1 bLam bB bE2 bLet
          have ge0 := HB2.out V7 HK7.out 0
          have ge1 := HB2.out V7 HK7.out 1
          have ge2 := HB2.out V7 HK7.out 2
          have ge3 := HB2.out V7 HK7.out 3
          have ge4 := HB2.out V7 HK7.out 4
          have ge5 := HB2.out V7 HK7.out 5
          have ge6 := HB2.out V7 HK7.out 6
          have ge7 := HB2.out V7 HK7.out 7
          have ge8 := HB2.out V7 HK7.out 8
          have ge9 := HB2.out V7 HK7.out 9
          have ge10 := HB2.out V7 HK7.out 10
          simp only [List.getElem?_toArray, List.getElem?_cons_succ, List.getElem?_cons_zero] at ge0 ge1 ge2 ge3 ge4 ge5 ge6 ge7 ge8 ge9 ge10
          have CFF := Lib.hid (pfreeP (cs := [y0, y1, y2, y3, y4, y5, y6, y7, y8, y9, y10]) (Below.refl V7.heap.size V7) (show t1.mass ≤ 4000000 by have := HMY.out; omega) (Nat.le_refl _) HF7.out)
          obtain ⟨ff, hff⟩ : ∃ l, ddS (t1.occ []) = l := ⟨_, rfl⟩
          rw [hff] at CFF
          obtain ⟨wn, hwn⟩ : ∃ l, joinS ff wl = l := ⟨_, rfl⟩
          have hwlet : ddS ((letE a2 t1 t0).occ []) = wn := by rw [let_free, hff, HFL.out, HWL.out, hwn]
          have hwlam : ddS ((lamE a2 t0).occ []) = wl := by rw [lam_free, HFL.out, HWL.out]
          have hmx := HMX.out
          have hmy := HMY.out
          have mlam : (lamE a2 t0).mass ≤ 4000000 := by rw [lam_masses]; omega
          have mlet : (letE a2 t1 t0).mass ≤ 4000000 := by rw [let_masses]; omega
          have mcall : (callE (lamE a2 t0) t1).mass ≤ 4000000 := by rw [call_masses, lam_masses]; omega
          have hwn9 : wn.length ≤ 4000000 := by rw [← hwlet]; exact Nat.le_trans (dd_len _) (Nat.le_trans (occ_len _ _) mlet)
          have CJF := Lib.hid (fun (W : World) (A' : Option Addr) (q' c' : Nat) (hb : Below V7.heap.size V7 W) (h1 : NmR W A' q' ff) => show Calls Try.prog 30 #[.slice A' q' c', .slice A7 q7 c7] W (NmPost wn W V7) from by
            have h := joinP (c := c') (c' := c7) hb h1 ((HR7.out.later HW7.out).later hb) (by rw [hwn]; exact hwn9)
            rw [hwn] at h; exact h)
          have HLETW := Lib.hid hwlet
          have HLAMW := Lib.hid hwlam
          have MLAM := Lib.hid mlam
          have MLET := Lib.hid mlet
          have MCALL := Lib.hid mcall
          have hsx : t0.size ≤ 1048576 ∧ t0.deep ≤ 1048576 := ⟨Nat.le_trans (size_mass t0).1 hmx, Nat.le_trans (size_mass t0).2 hmx⟩
          have hsy : t1.size ≤ 1048576 := Nat.le_trans (size_mass t1).1 hmy
          have hsc0 := call_sizes a2 t1 t0
          have hdl0 := lam_deeps a2 t0
          clear hwlet hwlam hff hwn hwn9 mlam mlet mcall hmx hmy
          go_wp2_with (first | (go_at_call 26; (with_reducible refine CFF.out.mono ?_); rintro e w8 ⟨A8, q8, c8, rfl, hq8, hr8, hb8, hk8⟩) | (go_at_call 30; (with_reducible refine (CJF.out _ _ _ _ hk8 hr8).mono ?_); rintro e w9 ⟨A9, q9, c9, rfl, hq9, hr9, hb9, hk9⟩))
          have HR9 := Lib.hid hr9
          have HK9 := Lib.hid hk9
          have hke := HK7.out.trans (hk9.mono HK7.out.size)
          have hk59 := H57.out.trans (hk9.mono H57.out.size)
          have hk29 := H27.out.trans (hk9.mono H27.out.size)
          have bLam := BLAM.out.below hk29 BLAM.out.lt
          have bLet := BLET.out.below hk59 BLET.out.lt
          have bCall := BCALL.out.below hk9 BCALL.out.lt
          have ma0 := HB1.out w9 hke 0
          have ma1 := HB1.out w9 hke 1
          have ma2 := HB1.out w9 hke 2
          have ma3 := HB1.out w9 hke 3
          have ma4 := HB1.out w9 hke 4
          have ma5 := HB1.out w9 hke 5
          have ma6 := HB1.out w9 hke 6
          have ma7 := HB1.out w9 hke 7
          have ma8 := HB1.out w9 hke 8
          have ma9 := HB1.out w9 hke 9
          have ma10 := HB1.out w9 hke 10
          simp only [List.getElem?_toArray, List.getElem?_cons_succ, List.getElem?_cons_zero] at ma0 ma1 ma2 ma3 ma4 ma5 ma6 ma7 ma8 ma9 ma10
          have mb0 := HB2.out w9 hke 0
          have mb1 := HB2.out w9 hke 1
          have mb2 := HB2.out w9 hke 2
          have mb3 := HB2.out w9 hke 3
          have mb4 := HB2.out w9 hke 4
          have mb5 := HB2.out w9 hke 5
          have mb6 := HB2.out w9 hke 6
          have mb7 := HB2.out w9 hke 7
          have mb8 := HB2.out w9 hke 8
          have mb9 := HB2.out w9 hke 9
          have mb10 := HB2.out w9 hke 10
          simp only [List.getElem?_toArray, List.getElem?_cons_succ, List.getElem?_cons_zero] at mb0 mb1 mb2 mb3 mb4 mb5 mb6 mb7 mb8 mb9 mb10
          have mc0 := bLam.cell 0
          have mc1 := bLam.cell 1
          have mc2 := bLam.cell 2
          have mc3 := bLam.cell 3
          have mc4 := bLam.cell 4
          have mc5 := bLam.cell 5
          have mc6 := bLam.cell 6
          have mc7 := bLam.cell 7
          have mc8 := bLam.cell 8
          have mc9 := bLam.cell 9
          have mc10 := bLam.cell 10
          simp only [List.getElem?_toArray, List.getElem?_cons_succ, List.getElem?_cons_zero] at mc0 mc1 mc2 mc3 mc4 mc5 mc6 mc7 mc8 mc9 mc10
          have md0 := bLet.cell 0
          have md1 := bLet.cell 1
          have md2 := bLet.cell 2
          have md3 := bLet.cell 3
          have md4 := bLet.cell 4
          have md5 := bLet.cell 5
          have md6 := bLet.cell 6
          have md7 := bLet.cell 7
          have md8 := bLet.cell 8
          have md9 := bLet.cell 9
          have md10 := bLet.cell 10
          simp only [List.getElem?_toArray, List.getElem?_cons_succ, List.getElem?_cons_zero] at md0 md1 md2 md3 md4 md5 md6 md7 md8 md9 md10
          have me0 := bCall.cell 0
          have me1 := bCall.cell 1
          have me2 := bCall.cell 2
          have me3 := bCall.cell 3
          have me4 := bCall.cell 4
          have me5 := bCall.cell 5
          have me6 := bCall.cell 6
          have me7 := bCall.cell 7
          have me8 := bCall.cell 8
          have me9 := bCall.cell 9
          have me10 := bCall.cell 10
          simp only [List.getElem?_toArray, List.getElem?_cons_succ, List.getElem?_cons_zero] at me0 me1 me2 me3 me4 me5 me6 me7 me8 me9 me10
          have l0 : w.heap.size < w9.heap.size := by have := HZ.out; have := hke.size; omega
          have l1 : w.heap.size + 1 < w9.heap.size := by have := HZ.out; have := hke.size; omega
          have l2 := bLam.lt
          have l3 := bLet.lt
          have l4 := bCall.lt
          clear ge0 ge1 ge2 ge3 ge4 ge5 ge6 ge7 ge8 ge9 ge10 hr8 hb8 hk8 hr9 hb9 hke hk59 hk29 bLam bLet bCall
          have HG := Lib.hid (fun W (hb : Below w9.heap.size w9 W) => (⟨Nat.le_trans HK9.out.size hb.size, HK9.out.trans (hb.mono HK9.out.size)⟩ : V7.heap.size ≤ W.heap.size ∧ Below V7.heap.size V7 W))
          clear hk9
          have D1 := Lib.hid (fun W (hb : Below w9.heap.size w9 W) => show Calls Try.prog 26 #[.agg #[.int .i64 6, .string a2, .int .i64 0, .int .i64 0, .string ⟨#[]⟩, .int .i64 0, .slice none 0 0, .slice (some ⟨wr.heap.size, 0, none⟩) 1 1, .slice none 0 0, .slice none 0 0, .int .i64 0]] W (NmPost wl W w9) from by
            have h := pfreeP (cs := [.int .i64 6, .string a2, .int .i64 0, .int .i64 0, .string ⟨#[]⟩, .int .i64 0, .slice none 0 0, .slice (some ⟨wr.heap.size, 0, none⟩) 1 1, .slice none 0 0, .slice none 0 0, .int .i64 0]) hb MLAM.out (HG.out W hb).1 (HLAM.out.later (HG.out W hb).2); rw [HLAMW.out] at h; exact h)
          have D2 := Lib.hid (fun W (hb : Below w9.heap.size w9 W) => show Calls Try.prog 26 #[.agg #[.int .i64 7, .string ⟨#[]⟩, .int .i64 0, .int .i64 0, .string ⟨#[]⟩, .int .i64 0, .slice none 0 0, .slice (some ⟨V2.heap.size + 1, 0, none⟩) 1 1, .slice none 0 0, .slice (some ⟨V2.heap.size, 0, none⟩) 1 1, .int .i64 0]] W (NmPost wn W w9) from by
            have h := pfreeP (cs := [.int .i64 7, .string ⟨#[]⟩, .int .i64 0, .int .i64 0, .string ⟨#[]⟩, .int .i64 0, .slice none 0 0, .slice (some ⟨V2.heap.size + 1, 0, none⟩) 1 1, .slice none 0 0, .slice (some ⟨V2.heap.size, 0, none⟩) 1 1, .int .i64 0]) hb MLET.out (HG.out W hb).1 (HLET.out.later (HG.out W hb).2); rw [HLETW.out] at h; exact h)
          have D3 := Lib.hid (fun (W : World) (A' : Option Addr) (q' c' : Nat) (hb : Below w9.heap.size w9 W) (h1 : NmR W A' q' wl) => textsP (c := c') (c' := c7) hb h1 ((HR7.out.later HW7.out).later (HG.out W hb).2))
          have D4 := Lib.hid (fun (W : World) (A' : Option Addr) (q' c' : Nat) (hb : Below w9.heap.size w9 W) (h1 : NmR W A' q' wn) => textsP (c := c') (c' := c9) hb h1 (HR9.out.later hb))
          have D5 := Lib.hid (fun W (hb : Below w9.heap.size w9 W) => valueP (cs := [.int .i64 6, .string a2, .int .i64 0, .int .i64 0, .string ⟨#[]⟩, .int .i64 0, .slice none 0 0, .slice (some ⟨wr.heap.size, 0, none⟩) 1 1, .slice none 0 0, .slice none 0 0, .int .i64 0]) hb (lam_val a2 t0) (HG.out W hb).1 (HLAM.out.later (HG.out W hb).2))
          have D6 := Lib.hid (fun W (hb : Below w9.heap.size w9 W) => valueP (cs := [.int .i64 5, .string ⟨#[]⟩, .int .i64 0, .int .i64 0, .string ⟨#[]⟩, .int .i64 0, .slice none 0 0, .slice (some ⟨V5.heap.size, 0, none⟩) 2 2, .slice none 0 0, .slice none 0 0, .int .i64 0]) hb (call_val a2 t1 t0) (HG.out W hb).1 (HCALL.out.later (HG.out W hb).2))
          have D7 := Lib.hid (fun W (hb : Below w9.heap.size w9 W) => valueP (cs := [.int .i64 7, .string ⟨#[]⟩, .int .i64 0, .int .i64 0, .string ⟨#[]⟩, .int .i64 0, .slice none 0 0, .slice (some ⟨V2.heap.size + 1, 0, none⟩) 1 1, .slice none 0 0, .slice (some ⟨V2.heap.size, 0, none⟩) 1 1, .int .i64 0]) hb (let_val a2 t1 t0) (HG.out W hb).1 (HLET.out.later (HG.out W hb).2))
          obtain ⟨sc, hsc⟩ : ∃ z : Int, (((callE (lamE a2 t0) t1).size : Nat) : Int) = z := ⟨_, rfl⟩
          obtain ⟨se, hse⟩ : ∃ z : Int, ((t0.size : Nat) : Int) = z := ⟨_, rfl⟩
          obtain ⟨sf, hsf⟩ : ∃ z : Int, ((t1.size : Nat) : Int) = z := ⟨_, rfl⟩
          obtain ⟨de, hde⟩ : ∃ z : Int, ((t0.deep : Nat) : Int) = z := ⟨_, rfl⟩
          obtain ⟨dl, hdl⟩ : ∃ z : Int, (((lamE a2 t0).deep : Nat) : Int) = z := ⟨_, rfl⟩
          have D8 := Lib.hid (fun W (hb : Below w9.heap.size w9 W) => show Calls Try.prog 10 #[.agg #[.int .i64 5, .string ⟨#[]⟩, .int .i64 0, .int .i64 0, .string ⟨#[]⟩, .int .i64 0, .slice none 0 0, .slice (some ⟨V5.heap.size, 0, none⟩) 2 2, .slice none 0 0, .slice none 0 0, .int .i64 0]] W (fun e' w' => e' = .returned (.int .i64 sc) ∧ Below W.heap.size W w') from by
            have h := psize_any _ (callE (lamE a2 t0) t1) (Nat.le_refl _) MCALL.out V7.heap.size W [.int .i64 5, .string ⟨#[]⟩, .int .i64 0, .int .i64 0, .string ⟨#[]⟩, .int .i64 0, .slice none 0 0, .slice (some ⟨V5.heap.size, 0, none⟩) 2 2, .slice none 0 0, .slice none 0 0, .int .i64 0] (HG.out W hb).1 (HCALL.out.later (HG.out W hb).2); rw [hsc] at h; exact h)
          have D9 := Lib.hid (fun W (hb : Below w9.heap.size w9 W) => show Calls Try.prog 10 #[.agg #[x0, x1, x2, x3, x4, x5, x6, x7, x8, x9, x10]] W (fun e' w' => e' = .returned (.int .i64 se) ∧ Below W.heap.size W w') from by
            have h := psize_any _ t0 (Nat.le_refl _) (by have := HMX.out; omega) V7.heap.size W [x0, x1, x2, x3, x4, x5, x6, x7, x8, x9, x10] (HG.out W hb).1 (HE7.out.later (HG.out W hb).2); rw [hse] at h; exact h)
          have D10 := Lib.hid (fun W (hb : Below w9.heap.size w9 W) => show Calls Try.prog 10 #[.agg #[y0, y1, y2, y3, y4, y5, y6, y7, y8, y9, y10]] W (fun e' w' => e' = .returned (.int .i64 sf) ∧ Below W.heap.size W w') from by
            have h := psize_any _ t1 (Nat.le_refl _) (by have := HMY.out; omega) V7.heap.size W [y0, y1, y2, y3, y4, y5, y6, y7, y8, y9, y10] (HG.out W hb).1 (HF7.out.later (HG.out W hb).2); rw [hsf] at h; exact h)
          have D11 := Lib.hid (fun W (hb : Below w9.heap.size w9 W) => show Calls Try.prog 12 #[.agg #[.int .i64 6, .string a2, .int .i64 0, .int .i64 0, .string ⟨#[]⟩, .int .i64 0, .slice none 0 0, .slice (some ⟨wr.heap.size, 0, none⟩) 1 1, .slice none 0 0, .slice none 0 0, .int .i64 0]] W (fun e' w' => e' = .returned (.int .i64 dl) ∧ Below W.heap.size W w') from by
            have h := pdeep_any _ (lamE a2 t0) (Nat.le_refl _) MLAM.out V7.heap.size W [.int .i64 6, .string a2, .int .i64 0, .int .i64 0, .string ⟨#[]⟩, .int .i64 0, .slice none 0 0, .slice (some ⟨wr.heap.size, 0, none⟩) 1 1, .slice none 0 0, .slice none 0 0, .int .i64 0] (HG.out W hb).1 (HLAM.out.later (HG.out W hb).2); rw [hdl] at h; exact h)
          have D12 := Lib.hid (fun W (hb : Below w9.heap.size w9 W) => show Calls Try.prog 12 #[.agg #[x0, x1, x2, x3, x4, x5, x6, x7, x8, x9, x10]] W (fun e' w' => e' = .returned (.int .i64 de) ∧ Below W.heap.size W w') from by
            have h := pdeep_any _ t0 (Nat.le_refl _) (by have := HMX.out; omega) V7.heap.size W [x0, x1, x2, x3, x4, x5, x6, x7, x8, x9, x10] (HG.out W hb).1 (HE7.out.later (HG.out W hb).2); rw [hde] at h; exact h)
          obtain ⟨ss, hss⟩ : ∃ z : Int, se + sf = z := ⟨_, rfl⟩
          have wb1 : 0 ≤ ss ∧ ss ≤ 3000000 := by omega
          have hw1 : IntKind.i64.wrap (se + sf) = ss := by rw [hss]; exact IntWalk.i64_in _ (by omega)
          have hw2 : IntKind.i64.wrap (ss + 2) = sc := by rw [IntWalk.i64_in _ (by omega)]; omega
          have hw3 : IntKind.i64.wrap (de + 1) = dl := by rw [IntWalk.i64_in _ (by omega)]; omega
          clear hsc hse hsf hde hdl hss hsx hsy hsc0 hdl0 wb1
          have hS0 : Below w9.heap.size w9 w9.drew ∧ w9.drew.cell? ⟨w.heap.size, 0, none⟩ = some (x0) ∧ w9.drew.cell? ⟨w.heap.size, 1, none⟩ = some (x1) ∧ w9.drew.cell? ⟨w.heap.size, 2, none⟩ = some (x2) ∧ w9.drew.cell? ⟨w.heap.size, 3, none⟩ = some (x3) ∧ w9.drew.cell? ⟨w.heap.size, 4, none⟩ = some (x4) ∧ w9.drew.cell? ⟨w.heap.size, 5, none⟩ = some (x5) ∧ w9.drew.cell? ⟨w.heap.size, 6, none⟩ = some (x6) ∧ w9.drew.cell? ⟨w.heap.size, 7, none⟩ = some (x7) ∧ w9.drew.cell? ⟨w.heap.size, 8, none⟩ = some (x8) ∧ w9.drew.cell? ⟨w.heap.size, 9, none⟩ = some (x9) ∧ w9.drew.cell? ⟨w.heap.size, 10, none⟩ = some (x10) ∧ w9.drew.cell? ⟨w.heap.size + 1, 0, none⟩ = some (y0) ∧ w9.drew.cell? ⟨w.heap.size + 1, 1, none⟩ = some (y1) ∧ w9.drew.cell? ⟨w.heap.size + 1, 2, none⟩ = some (y2) ∧ w9.drew.cell? ⟨w.heap.size + 1, 3, none⟩ = some (y3) ∧ w9.drew.cell? ⟨w.heap.size + 1, 4, none⟩ = some (y4) ∧ w9.drew.cell? ⟨w.heap.size + 1, 5, none⟩ = some (y5) ∧ w9.drew.cell? ⟨w.heap.size + 1, 6, none⟩ = some (y6) ∧ w9.drew.cell? ⟨w.heap.size + 1, 7, none⟩ = some (y7) ∧ w9.drew.cell? ⟨w.heap.size + 1, 8, none⟩ = some (y8) ∧ w9.drew.cell? ⟨w.heap.size + 1, 9, none⟩ = some (y9) ∧ w9.drew.cell? ⟨w.heap.size + 1, 10, none⟩ = some (y10) ∧ w9.drew.cell? ⟨wr.heap.size + 1, 0, none⟩ = some (.int .i64 6) ∧ w9.drew.cell? ⟨wr.heap.size + 1, 1, none⟩ = some (.string a2) ∧ w9.drew.cell? ⟨wr.heap.size + 1, 2, none⟩ = some (.int .i64 0) ∧ w9.drew.cell? ⟨wr.heap.size + 1, 3, none⟩ = some (.int .i64 0) ∧ w9.drew.cell? ⟨wr.heap.size + 1, 4, none⟩ = some (.string ⟨#[]⟩) ∧ w9.drew.cell? ⟨wr.heap.size + 1, 5, none⟩ = some (.int .i64 0) ∧ w9.drew.cell? ⟨wr.heap.size + 1, 6, none⟩ = some (.slice none 0 0) ∧ w9.drew.cell? ⟨wr.heap.size + 1, 7, none⟩ = some (.slice (some ⟨wr.heap.size, 0, none⟩) 1 1) ∧ w9.drew.cell? ⟨wr.heap.size + 1, 8, none⟩ = some (.slice none 0 0) ∧ w9.drew.cell? ⟨wr.heap.size + 1, 9, none⟩ = some (.slice none 0 0) ∧ w9.drew.cell? ⟨wr.heap.size + 1, 10, none⟩ = some (.int .i64 0) ∧ w9.drew.cell? ⟨V2.heap.size + 1 + 1, 0, none⟩ = some (.int .i64 7) ∧ w9.drew.cell? ⟨V2.heap.size + 1 + 1, 1, none⟩ = some (.string ⟨#[]⟩) ∧ w9.drew.cell? ⟨V2.heap.size + 1 + 1, 2, none⟩ = some (.int .i64 0) ∧ w9.drew.cell? ⟨V2.heap.size + 1 + 1, 3, none⟩ = some (.int .i64 0) ∧ w9.drew.cell? ⟨V2.heap.size + 1 + 1, 4, none⟩ = some (.string ⟨#[]⟩) ∧ w9.drew.cell? ⟨V2.heap.size + 1 + 1, 5, none⟩ = some (.int .i64 0) ∧ w9.drew.cell? ⟨V2.heap.size + 1 + 1, 6, none⟩ = some (.slice none 0 0) ∧ w9.drew.cell? ⟨V2.heap.size + 1 + 1, 7, none⟩ = some (.slice (some ⟨V2.heap.size + 1, 0, none⟩) 1 1) ∧ w9.drew.cell? ⟨V2.heap.size + 1 + 1, 8, none⟩ = some (.slice none 0 0) ∧ w9.drew.cell? ⟨V2.heap.size + 1 + 1, 9, none⟩ = some (.slice (some ⟨V2.heap.size, 0, none⟩) 1 1) ∧ w9.drew.cell? ⟨V2.heap.size + 1 + 1, 10, none⟩ = some (.int .i64 0) ∧ w9.drew.cell? ⟨V5.heap.size + 1, 0, none⟩ = some (.int .i64 5) ∧ w9.drew.cell? ⟨V5.heap.size + 1, 1, none⟩ = some (.string ⟨#[]⟩) ∧ w9.drew.cell? ⟨V5.heap.size + 1, 2, none⟩ = some (.int .i64 0) ∧ w9.drew.cell? ⟨V5.heap.size + 1, 3, none⟩ = some (.int .i64 0) ∧ w9.drew.cell? ⟨V5.heap.size + 1, 4, none⟩ = some (.string ⟨#[]⟩) ∧ w9.drew.cell? ⟨V5.heap.size + 1, 5, none⟩ = some (.int .i64 0) ∧ w9.drew.cell? ⟨V5.heap.size + 1, 6, none⟩ = some (.slice none 0 0) ∧ w9.drew.cell? ⟨V5.heap.size + 1, 7, none⟩ = some (.slice (some ⟨V5.heap.size, 0, none⟩) 2 2) ∧ w9.drew.cell? ⟨V5.heap.size + 1, 8, none⟩ = some (.slice none 0 0) ∧ w9.drew.cell? ⟨V5.heap.size + 1, 9, none⟩ = some (.slice none 0 0) ∧ w9.drew.cell? ⟨V5.heap.size + 1, 10, none⟩ = some (.int .i64 0) := ⟨(Below.refl _ _).drew, ma0, ma1, ma2, ma3, ma4, ma5, ma6, ma7, ma8, ma9, ma10, mb0, mb1, mb2, mb3, mb4, mb5, mb6, mb7, mb8, mb9, mb10, mc0, mc1, mc2, mc3, mc4, mc5, mc6, mc7, mc8, mc9, mc10, md0, md1, md2, md3, md4, md5, md6, md7, md8, md9, md10, me0, me1, me2, me3, me4, me5, me6, me7, me8, me9, me10⟩
          go_wp2_with fail
          go_region_held3 (fun w' => Below w9.heap.size w9 w' ∧ w'.cell? ⟨w.heap.size, 0, none⟩ = some (x0) ∧ w'.cell? ⟨w.heap.size, 1, none⟩ = some (x1) ∧ w'.cell? ⟨w.heap.size, 2, none⟩ = some (x2) ∧ w'.cell? ⟨w.heap.size, 3, none⟩ = some (x3) ∧ w'.cell? ⟨w.heap.size, 4, none⟩ = some (x4) ∧ w'.cell? ⟨w.heap.size, 5, none⟩ = some (x5) ∧ w'.cell? ⟨w.heap.size, 6, none⟩ = some (x6) ∧ w'.cell? ⟨w.heap.size, 7, none⟩ = some (x7) ∧ w'.cell? ⟨w.heap.size, 8, none⟩ = some (x8) ∧ w'.cell? ⟨w.heap.size, 9, none⟩ = some (x9) ∧ w'.cell? ⟨w.heap.size, 10, none⟩ = some (x10) ∧ w'.cell? ⟨w.heap.size + 1, 0, none⟩ = some (y0) ∧ w'.cell? ⟨w.heap.size + 1, 1, none⟩ = some (y1) ∧ w'.cell? ⟨w.heap.size + 1, 2, none⟩ = some (y2) ∧ w'.cell? ⟨w.heap.size + 1, 3, none⟩ = some (y3) ∧ w'.cell? ⟨w.heap.size + 1, 4, none⟩ = some (y4) ∧ w'.cell? ⟨w.heap.size + 1, 5, none⟩ = some (y5) ∧ w'.cell? ⟨w.heap.size + 1, 6, none⟩ = some (y6) ∧ w'.cell? ⟨w.heap.size + 1, 7, none⟩ = some (y7) ∧ w'.cell? ⟨w.heap.size + 1, 8, none⟩ = some (y8) ∧ w'.cell? ⟨w.heap.size + 1, 9, none⟩ = some (y9) ∧ w'.cell? ⟨w.heap.size + 1, 10, none⟩ = some (y10) ∧ w'.cell? ⟨wr.heap.size + 1, 0, none⟩ = some (.int .i64 6) ∧ w'.cell? ⟨wr.heap.size + 1, 1, none⟩ = some (.string a2) ∧ w'.cell? ⟨wr.heap.size + 1, 2, none⟩ = some (.int .i64 0) ∧ w'.cell? ⟨wr.heap.size + 1, 3, none⟩ = some (.int .i64 0) ∧ w'.cell? ⟨wr.heap.size + 1, 4, none⟩ = some (.string ⟨#[]⟩) ∧ w'.cell? ⟨wr.heap.size + 1, 5, none⟩ = some (.int .i64 0) ∧ w'.cell? ⟨wr.heap.size + 1, 6, none⟩ = some (.slice none 0 0) ∧ w'.cell? ⟨wr.heap.size + 1, 7, none⟩ = some (.slice (some ⟨wr.heap.size, 0, none⟩) 1 1) ∧ w'.cell? ⟨wr.heap.size + 1, 8, none⟩ = some (.slice none 0 0) ∧ w'.cell? ⟨wr.heap.size + 1, 9, none⟩ = some (.slice none 0 0) ∧ w'.cell? ⟨wr.heap.size + 1, 10, none⟩ = some (.int .i64 0) ∧ w'.cell? ⟨V2.heap.size + 1 + 1, 0, none⟩ = some (.int .i64 7) ∧ w'.cell? ⟨V2.heap.size + 1 + 1, 1, none⟩ = some (.string ⟨#[]⟩) ∧ w'.cell? ⟨V2.heap.size + 1 + 1, 2, none⟩ = some (.int .i64 0) ∧ w'.cell? ⟨V2.heap.size + 1 + 1, 3, none⟩ = some (.int .i64 0) ∧ w'.cell? ⟨V2.heap.size + 1 + 1, 4, none⟩ = some (.string ⟨#[]⟩) ∧ w'.cell? ⟨V2.heap.size + 1 + 1, 5, none⟩ = some (.int .i64 0) ∧ w'.cell? ⟨V2.heap.size + 1 + 1, 6, none⟩ = some (.slice none 0 0) ∧ w'.cell? ⟨V2.heap.size + 1 + 1, 7, none⟩ = some (.slice (some ⟨V2.heap.size + 1, 0, none⟩) 1 1) ∧ w'.cell? ⟨V2.heap.size + 1 + 1, 8, none⟩ = some (.slice none 0 0) ∧ w'.cell? ⟨V2.heap.size + 1 + 1, 9, none⟩ = some (.slice (some ⟨V2.heap.size, 0, none⟩) 1 1) ∧ w'.cell? ⟨V2.heap.size + 1 + 1, 10, none⟩ = some (.int .i64 0) ∧ w'.cell? ⟨V5.heap.size + 1, 0, none⟩ = some (.int .i64 5) ∧ w'.cell? ⟨V5.heap.size + 1, 1, none⟩ = some (.string ⟨#[]⟩) ∧ w'.cell? ⟨V5.heap.size + 1, 2, none⟩ = some (.int .i64 0) ∧ w'.cell? ⟨V5.heap.size + 1, 3, none⟩ = some (.int .i64 0) ∧ w'.cell? ⟨V5.heap.size + 1, 4, none⟩ = some (.string ⟨#[]⟩) ∧ w'.cell? ⟨V5.heap.size + 1, 5, none⟩ = some (.int .i64 0) ∧ w'.cell? ⟨V5.heap.size + 1, 6, none⟩ = some (.slice none 0 0) ∧ w'.cell? ⟨V5.heap.size + 1, 7, none⟩ = some (.slice (some ⟨V5.heap.size, 0, none⟩) 2 2) ∧ w'.cell? ⟨V5.heap.size + 1, 8, none⟩ = some (.slice none 0 0) ∧ w'.cell? ⟨V5.heap.size + 1, 9, none⟩ = some (.slice none 0 0) ∧ w'.cell? ⟨V5.heap.size + 1, 10, none⟩ = some (.int .i64 0))
            (first | assumption | exact boxes5_keep (by assumption) (by assumption) l0 l1 l2 l3 l4)
            (first | (go_at_call 26; (with_reducible refine (D1.out _ (by first | assumption | exact And.left (by assumption))).mono ?_); rintro e wa ⟨Aa', qa, ca', rfl, hqa, hra, hba, -⟩) | (go_at_call 26; (with_reducible refine (D2.out _ (by first | assumption | exact And.left (by assumption))).mono ?_); rintro e wa ⟨Aa', qa, ca', rfl, hqa, hra, hba, -⟩) | (go_at_call 23; (with_reducible refine (D3.out _ _ _ _ (by first | assumption | exact And.left (by assumption)) hra).mono ?_); rintro e wa ⟨rfl, hba, -⟩) | (go_at_call 23; (with_reducible refine (D4.out _ _ _ _ (by first | assumption | exact And.left (by assumption)) hra).mono ?_); rintro e wa ⟨rfl, hba, -⟩) | (go_at_call 28; (with_reducible refine (D5.out _ (by first | assumption | exact And.left (by assumption))).mono ?_); rintro e wa ⟨rfl, hba, -⟩) | (go_at_call 28; (with_reducible refine (D6.out _ (by first | assumption | exact And.left (by assumption))).mono ?_); rintro e wa ⟨rfl, hba, -⟩) | (go_at_call 28; (with_reducible refine (D7.out _ (by first | assumption | exact And.left (by assumption))).mono ?_); rintro e wa ⟨rfl, hba, -⟩) | (go_at_call 10; (with_reducible refine (D8.out _ (by first | assumption | exact And.left (by assumption))).mono ?_); rintro e wa ⟨rfl, hba⟩) | (go_at_call 10; (with_reducible refine (D9.out _ (by first | assumption | exact And.left (by assumption))).mono ?_); rintro e wa ⟨rfl, hba⟩) | (go_at_call 10; (with_reducible refine (D10.out _ (by first | assumption | exact And.left (by assumption))).mono ?_); rintro e wa ⟨rfl, hba⟩) | (go_at_call 12; (with_reducible refine (D11.out _ (by first | assumption | exact And.left (by assumption))).mono ?_); rintro e wa ⟨rfl, hba⟩) | (go_at_call 12; (with_reducible refine (D12.out _ (by first | assumption | exact And.left (by assumption))).mono ?_); rintro e wa ⟨rfl, hba⟩))
          have hend : Below w9.heap.size w9 wa := by first | exact (boxes5_keep (by assumption) (by assumption) l0 l1 l2 l3 l4).1 | exact And.left (by assumption)
          have HEND := Lib.hid hend
          clear hS0 hend hw1 hw2 hw3
          go_wp2_with fail
          go_ret
          exact ⟨by simp, HBW.out.trans ((HK7.out.trans ((HK9.out.trans (HEND.out.mono HK9.out.size)).mono HK7.out.size)).mono HBW.out.size)⟩

set_option maxRecDepth 100000 in
theorem contract (H : Type) (enc : TypeId × Value → H) (W : World) (base : Nat) (args : Array Value) (ds gs : List (DataW H)) (before : List MemPlace)
    (hval0 : ∀ (j : Nat) t v, Try.f7.params[j]? = some t → args[j]? = some v → Value.okWide Try.prog W .any base t v)
    (hW : DataW.Whole enc Try.prog Try.f7.params.toList Rows.treeBindsSpec.vars false W args.toList ds gs before) (hk : Rows.uptoSmall H (ds ++ gs) = true)
    (hsz0 : (DataW.weightsEach Try.prog (Try.f7.params.toList ++ Rows.treeBindsSpec.plain.varTypes Try.prog) (ds ++ gs)).all (· ≤ reachBytes) = true) :
    Calls Try.prog 7 args W fun e W' => ∃ v, e = .returned v ∧ Rows.treeBindsSpec.post enc Try.prog Try.f7 false true false false W args v W' := by
  have hbk := of_decide_eq_true hk
  clear hk
  have hsz := hsz0
  rw [Try.params7] at hsz
  clear hsz0
  have hval : ∀ (j : Nat) t v, Try.f7.params[j]? = some t → args[j]? = some v → Value.okWide Try.prog W .any base t v := hval0
  have hW' := hW
  obtain ⟨p, q, hA0, hV, rfl, hfz, hnd⟩ := hW
  have hA : DataW.TrodAll enc Try.prog W 0 (fun _ => true) true Try.f7.params.toList args.toList ds p := hA0
  rw [Try.params7] at hA hval
  obtain ⟨v0, vs0, d0, ds0, p0, q0, hargs, rfl, rfl, h0, r0⟩ := trodAll_cons hA
  obtain ⟨v1, vs1, d1, ds1, p1, q1, rfl, rfl, rfl, h1, r1⟩ := trodAll_cons r0
  obtain ⟨v2, vs2, d2, ds2, p2, q2, rfl, rfl, rfl, h2, r2⟩ := trodAll_cons r1
  obtain ⟨rfl, rfl, rfl⟩ := trodAll_nil r2
  obtain rfl : args = #[v0, v1, v2] := by cases args; simp_all
  obtain ⟨rfl, rfl⟩ := trodVars_none hV
  have k0 := h0
  have lt0 : ∀ x ∈ p0, x.block < W.heap.size := by obtain ⟨m, hm⟩ := k0; exact DataW.trod_lt m _ _ _ hm
  obtain ⟨y0, rfl, _⟩ := okWide_struct Try.underlying29 (hval 0 29 v0 rfl rfl)
  obtain ⟨x0, t0, w0, rfl, m0⟩ : ∃ xs t, ExAt W W.heap.size xs t ∧ y0 = xs.toArray ∧ t.mass ≤ 1048576 := by
    obtain ⟨fuel, hf⟩ := h0
    obtain ⟨t, ht, hm⟩ := openb_ex fuel _ _ hf (fits_param hsz (j := 0) rfl rfl)
    exact ⟨y0.toList, t, ht, by simp, by simp only [List.append_nil, Rows.uptoBulkAll] at hbk; dsimp only at hm; omega⟩
  have k1 := h1
  have lt1 : ∀ x ∈ p1, x.block < W.heap.size := by obtain ⟨m, hm⟩ := k1; exact DataW.trod_lt m _ _ _ hm
  obtain ⟨y1, rfl, _⟩ := okWide_struct Try.underlying29 (hval 1 29 v1 rfl rfl)
  obtain ⟨x1, t1, w1, rfl, m1⟩ : ∃ xs t, ExAt W W.heap.size xs t ∧ y1 = xs.toArray ∧ t.mass ≤ 1048576 := by
    obtain ⟨fuel, hf⟩ := h1
    obtain ⟨t, ht, hm⟩ := openb_ex fuel _ _ hf (fits_param hsz (j := 1) rfl rfl)
    exact ⟨y1.toList, t, ht, by simp, by simp only [List.append_nil, Rows.uptoBulkAll] at hbk; dsimp only at hm; omega⟩
  have k2 := h2
  have lt2 : ∀ x ∈ p2, x.block < W.heap.size := by obtain ⟨m, hm⟩ := k2; exact DataW.trod_lt m _ _ _ hm
  obtain ⟨a2, rfl, rfl, rfl, w2⟩ := open_string Try.underlying9 (hval 2 9 v2 rfl rfl) h2
  clear hA0 hval0
  refine (walk x0 t0 x1 t1 a2 W w0 m0 w1 m1 w2).mono fun e W' ⟨he, bel⟩ => ?_
  subst he
  exact ⟨_, rfl, _, _, _, [], _, [], hW', trodAll_mk1 (shut_bool Try.underlying4 _), (trodAll_cons_mk (Below.trod laidOut (by kernel_rfl) (of_decide_eq_true (by kernel_rfl)) k0 bel lt0) (trodAll_cons_mk (Below.trod laidOut (by kernel_rfl) (of_decide_eq_true (by kernel_rfl)) k1 bel lt1) (trodAll_cons_mk (Below.trod laidOut (by kernel_rfl) (of_decide_eq_true (by kernel_rfl)) k2 bel lt2) trodAll_mk0))), rfl, bel.frame _, fun h => by cases h⟩

set_option maxRecDepth 100000 in
theorem lifted (os : Os) (started : os.Started) (H : Type) (enc : TypeId × Value → H) (F : Stop.Interp) :
    ReturnsInHanded {} Try.checked os 7 .any ((Rows.OpenSpec.upto Rows.treeBindsSpec).pre6 enc Try.prog Try.f7 Rows.treeBindsUptoRow.domain false) (((Rows.OpenSpec.upto Rows.treeBindsSpec).at F).post enc Try.prog Try.f7 false true false false) := by
  refine returnsInHanded_of_cond_sized (C := Try.checked) (s := Rows.OpenSpec.upto Rows.treeBindsSpec) (k := Rows.uptoSmall) rfl own started (by kernel_rfl) Try.func7
    (OpenSpec.witness (enc := enc) (C := Try.checked) (s := Rows.OpenSpec.upto Rows.treeBindsSpec) (k := Rows.uptoSmall) rfl false ⟨#[], #[.agg #[.int .i64 0, .string ⟨#[]⟩, .int .i64 0, .int .i64 0, .string ⟨#[]⟩, .int .i64 0, .slice none 0 0, .slice none 0 0, .slice none 0 0, .slice none 0 0, .int .i64 0], .agg #[.int .i64 0, .string ⟨#[]⟩, .int .i64 0, .int .i64 0, .string ⟨#[]⟩, .int .i64 0, .slice none 0 0, .slice none 0 0, .slice none 0 0, .slice none 0 0, .int .i64 0], .string ByteArray.empty], []⟩ 8 (by kernel_rfl) (by kernel_rfl) (by kernel_rfl)
      (x := ([.agg [.lit (.int .i64 0), .lit (.string []), .lit (.int .i64 0), .agg [.lit (.int .i64 0), .lit (.string []), .lit (.int .i64 0), .nil], .nil, .nil, .nil, .lit (.int .i64 0)], .agg [.lit (.int .i64 0), .lit (.string []), .lit (.int .i64 0), .agg [.lit (.int .i64 0), .lit (.string []), .lit (.int .i64 0), .nil], .nil, .nil, .nil, .lit (.int .i64 0)], .lit (.string [])], [], [])) (by kernel_rfl) rfl (by kernel_rfl)) ?_
  intro W base args ds gs before hval hW _ hk hsz _
  exact contract H enc W base args ds gs before hval hW hk hsz

theorem over : Rows.treeBindsUptoRow.holds Try.pinned (Rows.OpenSpec.upto Rows.treeBindsSpec) :=
  OpenClaim.holds_of_cond 7 Try.f7 rfl rfl rfl rfl rfl rfl rfl ⟨rfl, rfl, rfl, rfl, rfl⟩ rfl rfl rfl rfl rfl (by kernel_rfl) Try.func7 (by kernel_rfl)
    (of_decide_eq_true (by kernel_rfl)) (by unfold Func.isWrapper; first | (rw [if_pos (by decide +kernel)]; kernel_rfl) | (rw [if_neg (by decide +kernel)]; exact ⟨rfl, rfl⟩))
    (fun os started H enc _ F => lifted os started H enc F)

/-- The statement. -/
theorem proved : Rows.TreeBindsUptoSaid := over
#print axioms proved
end Go.Proofs.Ytglamoiimmahgaa.treeBinds
