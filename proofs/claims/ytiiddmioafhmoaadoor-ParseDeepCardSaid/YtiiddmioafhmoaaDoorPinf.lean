/- Walks: an operator between its operands. -/
import Derived.Test.YtiiddmioafhmoaaDoorPex
namespace Go.Proofs.YtiiddmioafhmoaaDoor
open Go.RowKit
set_option linter.unusedVariables false
set_option linter.unusedSimpArgs false
set_option maxRecDepth 100000

theorem Low.cell {X : Nat → Bool} {W W' : World} (h : Low X W W') {p : Addr} {u : Value} (hc : W.cell? p = some u) (hp : p.block < W.heap.size) (hX : X p.block = false) : W'.cell? p = some u :=
  (World.cell?_of_block (w := W) (h.block _ hp (by simp [hX]))).trans hc
theorem Low.step {X : Nat → Bool} {W w w' : World} (h : Low X W w) (hb : Below w.heap.size w w') : Low X W w' := h.trans (Low.of_below hb)
theorem Low.drew_ {X : Nat → Bool} (W : World) : Low X W W.drew := Low.of_below (Below.refl _ _).drew
def oneX (g : Nat) : Nat → Bool := fun k => k == g
theorem oneX_no {g k : Nat} (h : k ≠ g) : oneX g k = false := by simp [oneX, h]
theorem oneX_self (g : Nat) : oneX g g = true := by simp [oneX]

set_option maxHeartbeats 3200000 in
theorem infix_any (t : Tk) (cs es : List Value) (a b : Ex) (X : Nat → Bool) (W : World) (hX : OldX X W.heap.size) (hx : rEx.M X W cs a) (hy : rEx.M X W es b) (hq : t.pos ≤ 60000) (hs : t.text.length ≤ 60000) :
    Calls Tryd.prog 36 #[tkV t, .agg cs.toArray, .agg es.toArray] W (ExPost X (infixE t a b) W) := by
  have hpos : ok64 (t.pos : Int) := ok_lit _ (by omega) (by omega)
  obtain ⟨x0, x1, x2, x3, x4, x5, x6, x7, x8, x9, x10, rfl⟩ := eleven_of (ex_len' hx)
  obtain ⟨y0, y1, y2, y3, y4, y5, y6, y7, y8, y9, y10, rfl⟩ := eleven_of (ex_len' hy)
  have s0 := store_one' x0 (ex_ones' hx x0 (by simp))
  have t0 := store_one' y0 (ex_ones' hy y0 (by simp))
  have s1 := store_one' x1 (ex_ones' hx x1 (by simp))
  have t1 := store_one' y1 (ex_ones' hy y1 (by simp))
  have s2 := store_one' x2 (ex_ones' hx x2 (by simp))
  have t2 := store_one' y2 (ex_ones' hy y2 (by simp))
  have s3 := store_one' x3 (ex_ones' hx x3 (by simp))
  have t3 := store_one' y3 (ex_ones' hy y3 (by simp))
  have s4 := store_one' x4 (ex_ones' hx x4 (by simp))
  have t4 := store_one' y4 (ex_ones' hy y4 (by simp))
  have s5 := store_one' x5 (ex_ones' hx x5 (by simp))
  have t5 := store_one' y5 (ex_ones' hy y5 (by simp))
  have s6 := store_one' x6 (ex_ones' hx x6 (by simp))
  have t6 := store_one' y6 (ex_ones' hy y6 (by simp))
  have s7 := store_one' x7 (ex_ones' hx x7 (by simp))
  have t7 := store_one' y7 (ex_ones' hy y7 (by simp))
  have s8 := store_one' x8 (ex_ones' hx x8 (by simp))
  have t8 := store_one' y8 (ex_ones' hy y8 (by simp))
  have s9 := store_one' x9 (ex_ones' hx x9 (by simp))
  have t9 := store_one' y9 (ex_ones' hy y9 (by simp))
  have s10 := store_one' x10 (ex_ones' hx x10 (by simp))
  have t10 := store_one' y10 (ex_ones' hy y10 (by simp))
  rw [tk_cells]
  obtain ⟨w0, hw0⟩ : ∃ w0, W.alloc (.cells #[.int .i64 t.kind, .string ⟨t.text.toArray⟩, .int .i64 t.num, .int .i64 t.pos] 52) = w0 := ⟨_, rfl⟩
  have hb0 : Below W.heap.size W w0 := by rw [← hw0]; exact below_new' _ _
  have ht0 : Blk w0 W.heap.size 52 #[.int .i64 t.kind, .string ⟨t.text.toArray⟩, .int .i64 t.num, .int .i64 t.pos] := by rw [← hw0]; exact Blk.new _ _ _
  have hz0 : w0.heap.size = W.heap.size + 1 := by rw [← hw0]; simp
  obtain ⟨w1, hw1⟩ : ∃ w1, w0.alloc (.cells #[x0, x1, x2, x3, x4, x5, x6, x7, x8, x9, x10] 32) = w1 := ⟨_, rfl⟩
  have hb01 : Below w0.heap.size w0 w1 := by rw [← hw1]; exact below_new' _ _
  have hx1 : Blk w1 (W.heap.size + 1) 32 #[x0, x1, x2, x3, x4, x5, x6, x7, x8, x9, x10] := by rw [← hw1, ← hz0]; exact Blk.new _ _ _
  have hz1 : w1.heap.size = W.heap.size + 1 + 1 := by rw [← hw1]; simp [hz0]
  obtain ⟨w2, hw2⟩ : ∃ w2, w1.alloc (.cells #[y0, y1, y2, y3, y4, y5, y6, y7, y8, y9, y10] 32) = w2 := ⟨_, rfl⟩
  have hb12 : Below w1.heap.size w1 w2 := by rw [← hw2]; exact below_new' _ _
  have hy2 : Blk w2 (W.heap.size + 1 + 1) 32 #[y0, y1, y2, y3, y4, y5, y6, y7, y8, y9, y10] := by rw [← hw2, ← hz1]; exact Blk.new _ _ _
  have hz2 : w2.heap.size = W.heap.size + 1 + 1 + 1 := by rw [← hw2]; simp [hz1]
  obtain ⟨w3, hw3⟩ : ∃ w3, w2.alloc (.cells #[.int .i64 0, .string ⟨#[]⟩, .int .i64 0, .int .i64 0, .string ⟨#[]⟩, .int .i64 0, .slice none 0 0, .slice none 0 0, .slice none 0 0, .slice none 0 0, .int .i64 0] 32) = w3 := ⟨_, rfl⟩
  have hb23 : Below w2.heap.size w2 w3 := by rw [← hw3]; exact below_new' _ _
  have hBw3 : Blk w3 (W.heap.size + 1 + 1 + 1) 32 #[.int .i64 0, .string ⟨#[]⟩, .int .i64 0, .int .i64 0, .string ⟨#[]⟩, .int .i64 0, .slice none 0 0, .slice none 0 0, .slice none 0 0, .slice none 0 0, .int .i64 0] := by rw [← hw3, ← hz2]; exact Blk.new _ _ _
  have hz3 : w3.heap.size = W.heap.size + 1 + 1 + 1 + 1 := by rw [← hw3]; simp [hz2]
  have ht3 := ((ht0.below hb01 ht0.lt).below hb12 (ht0.below hb01 ht0.lt).lt).below hb23 ((ht0.below hb01 ht0.lt).below hb12 (ht0.below hb01 ht0.lt).lt).lt
  have hx3 := (hx1.below hb12 hx1.lt).below hb23 (hx1.below hb12 hx1.lt).lt
  have hy3 := hy2.below hb23 hy2.lt
  have hb3 : Below W.heap.size W w3 := ((hb0.trans (hb01.mono hb0.size)).trans (hb12.mono (by omega))).trans (hb23.mono (by omega))
  have k0 := ht3.cell 0
  have k1 := ht3.cell 1
  have k2 := ht3.cell 2
  have k3 := ht3.cell 3
  simp only [List.getElem?_toArray, List.getElem?_cons_succ, List.getElem?_cons_zero] at k0 k1 k2 k3
  have u0 := hx3.cell 0
  have u1 := hx3.cell 1
  have u2 := hx3.cell 2
  have u3 := hx3.cell 3
  have u4 := hx3.cell 4
  have u5 := hx3.cell 5
  have u6 := hx3.cell 6
  have u7 := hx3.cell 7
  have u8 := hx3.cell 8
  have u9 := hx3.cell 9
  have u10 := hx3.cell 10
  simp only [List.getElem?_toArray, List.getElem?_cons_succ, List.getElem?_cons_zero] at u0 u1 u2 u3 u4 u5 u6 u7 u8 u9 u10
  have v0 := hy3.cell 0
  have v1 := hy3.cell 1
  have v2 := hy3.cell 2
  have v3 := hy3.cell 3
  have v4 := hy3.cell 4
  have v5 := hy3.cell 5
  have v6 := hy3.cell 6
  have v7 := hy3.cell 7
  have v8 := hy3.cell 8
  have v9 := hy3.cell 9
  have v10 := hy3.cell 10
  simp only [List.getElem?_toArray, List.getElem?_cons_succ, List.getElem?_cons_zero] at v0 v1 v2 v3 v4 v5 v6 v7 v8 v9 v10
  have HW0 := Lib.hid hw0
  have HW1 := Lib.hid hw1
  have HW2 := Lib.hid hw2
  have HW3 := Lib.hid hw3
  clear hw0 hw1 hw2 hw3
  by_cases h1 : t.text = [38, 38]
  · have d1 : (t.text == [38, 38]) = true := by simpa using h1
    have hre : infixE t a b = exK 10 ⟨#[]⟩ 0 [a, b] t.pos := by unfold infixE; rw [if_pos h1]
    rw [hre]
    clear h1 hre
    go_enter Tryd.func36, Tryd.ntmps36
    go_upto_region 1 with fail
    rw [HW0.out, HW1.out, HW2.out, HW3.out]
    obtain ⟨w4, hw4⟩ : ∃ w4, w3.alloc (.cells #[x0, x1, x2, x3, x4, x5, x6, x7, x8, x9, x10, y0, y1, y2, y3, y4, y5, y6, y7, y8, y9, y10] 32) = w4 := ⟨_, rfl⟩
    have hb34 : Below w3.heap.size w3 w4 := by rw [← hw4]; exact below_new' _ _
    have hk4 : Blk w4 w3.heap.size 32 #[x0, x1, x2, x3, x4, x5, x6, x7, x8, x9, x10, y0, y1, y2, y3, y4, y5, y6, y7, y8, y9, y10] := by rw [← hw4]; exact Blk.new _ _ _
    have hBw4 := hBw3.below hb34 hBw3.lt
    have ht4 := ht3.below hb34 ht3.lt
    have r0 := hBw4.cell 0
    have r1 := hBw4.cell 1
    have r2 := hBw4.cell 2
    have r3 := hBw4.cell 3
    have r4 := hBw4.cell 4
    have r5 := hBw4.cell 5
    have r6 := hBw4.cell 6
    have r7 := hBw4.cell 7
    have r8 := hBw4.cell 8
    have r9 := hBw4.cell 9
    have r10 := hBw4.cell 10
    simp only [List.getElem?_toArray, List.getElem?_cons_succ, List.getElem?_cons_zero] at r0 r1 r2 r3 r4 r5 r6 r7 r8 r9 r10
    have f0 := hBw4.frozen 0
    have f1 := hBw4.frozen 1
    have f2 := hBw4.frozen 2
    have f3 := hBw4.frozen 3
    have f4 := hBw4.frozen 4
    have f5 := hBw4.frozen 5
    have f6 := hBw4.frozen 6
    have f7 := hBw4.frozen 7
    have f8 := hBw4.frozen 8
    have f9 := hBw4.frozen 9
    have f10 := hBw4.frozen 10
    have j0 := ht4.cell 0
    have j1 := ht4.cell 1
    have j2 := ht4.cell 2
    have j3 := ht4.cell 3
    simp only [List.getElem?_toArray, List.getElem?_cons_succ, List.getElem?_cons_zero] at j0 j1 j2 j3
    go_wp2_with fail
    have hbw4 : Below W.heap.size W w4 := hb3.trans (hb34.mono hb3.size)
    have hgg : W.heap.size ≤ W.heap.size + 1 + 1 + 1 := by omega
    have hxe := ((hx.to_exX (g := W.heap.size + 1 + 1 + 1) (by omega)).later (Low.of_below hbw4))
    have hye := ((hy.to_exX (g := W.heap.size + 1 + 1 + 1) (by omega)).later (Low.of_below hbw4))
    have hrow : RowM rEx 11 (exX X (W.heap.size + 1 + 1 + 1)) w4 (some ⟨w3.heap.size, 0, none⟩) [a, b] := RowM.two (xs := [x0, x1, x2, x3, x4, x5, x6, x7, x8, x9, x10]) (ys := [y0, y1, y2, y3, y4, y5, y6, y7, y8, y9, y10]) (by simpa using hk4) (exX_no (hX _ (by omega)) (by omega)) hxe hye
    rw [hz3] at hrow
    have hty := ExM.kids (k := 10) (n := 0) (q := t.pos) (nm := ⟨#[]⟩) (c := 2) (ok_lit _ (by omega) (by omega)) (by simp [ByteArray.size]) (ok_lit _ (by omega) (by omega)) hpos (by simp) (by simp [maxLen]) (by simp) hrow
    obtain ⟨w9, hw9⟩ : ∃ w9, (((((((((((w4).setCell ⟨W.heap.size + 1 + 1 + 1, 0, none⟩ (.int .i64 10)).setCell ⟨W.heap.size + 1 + 1 + 1, 1, none⟩ (.string ⟨#[]⟩)).setCell ⟨W.heap.size + 1 + 1 + 1, 2, none⟩ (.int .i64 0)).setCell ⟨W.heap.size + 1 + 1 + 1, 3, none⟩ (.int .i64 0)).setCell ⟨W.heap.size + 1 + 1 + 1, 4, none⟩ (.string ⟨#[]⟩)).setCell ⟨W.heap.size + 1 + 1 + 1, 5, none⟩ (.int .i64 0)).setCell ⟨W.heap.size + 1 + 1 + 1, 6, none⟩ (.slice none 0 0)).setCell ⟨W.heap.size + 1 + 1 + 1, 7, none⟩ (.slice (some ⟨W.heap.size + 1 + 1 + 1 + 1, 0, none⟩) 2 2)).setCell ⟨W.heap.size + 1 + 1 + 1, 8, none⟩ (.slice none 0 0)).setCell ⟨W.heap.size + 1 + 1 + 1, 9, none⟩ (.slice none 0 0)).setCell ⟨W.heap.size + 1 + 1 + 1, 10, none⟩ (.int .i64 t.pos) = w9 := ⟨_, rfl⟩
    have hB9 := set11 hBw4 (.int .i64 10) (.string ⟨#[]⟩) (.int .i64 0) (.int .i64 0) (.string ⟨#[]⟩) (.int .i64 0) (.slice none 0 0) (.slice (some ⟨W.heap.size + 1 + 1 + 1 + 1, 0, none⟩) 2 2) (.slice none 0 0) (.slice none 0 0) (.int .i64 t.pos)
    have hb9 := Below.set11 hbw4 hgg (.int .i64 10) (.string ⟨#[]⟩) (.int .i64 0) (.int .i64 0) (.string ⟨#[]⟩) (.int .i64 0) (.slice none 0 0) (.slice (some ⟨W.heap.size + 1 + 1 + 1 + 1, 0, none⟩) 2 2) (.slice none 0 0) (.slice none 0 0) (.int .i64 t.pos)
    have hL9 : Low (exX X (W.heap.size + 1 + 1 + 1)) w4 _ := Low.set11 (Chg.refl _ _) (.inl (exX_self _ _)) (.int .i64 10) (.string ⟨#[]⟩) (.int .i64 0) (.int .i64 0) (.string ⟨#[]⟩) (.int .i64 0) (.slice none 0 0) (.slice (some ⟨W.heap.size + 1 + 1 + 1 + 1, 0, none⟩) 2 2) (.slice none 0 0) (.slice none 0 0) (.int .i64 t.pos)
    rw [hw9] at hB9 hb9 hL9 ⊢
    have d0 := hB9.cell 0
    have d1 := hB9.cell 1
    have d2 := hB9.cell 2
    have d3 := hB9.cell 3
    have d4 := hB9.cell 4
    have d5 := hB9.cell 5
    have d6 := hB9.cell 6
    have d7 := hB9.cell 7
    have d8 := hB9.cell 8
    have d9 := hB9.cell 9
    have d10 := hB9.cell 10
    simp only [List.getElem?_toArray, List.getElem?_cons_succ, List.getElem?_cons_zero] at d0 d1 d2 d3 d4 d5 d6 d7 d8 d9 d10
    exact bodyPost_ret (v := .agg #[.int .i64 10, .string ⟨#[]⟩, .int .i64 0, .int .i64 0, .string ⟨#[]⟩, .int .i64 0, .slice none 0 0, .slice (some ⟨W.heap.size + 1 + 1 + 1 + 1, 0, none⟩) 2 2, .slice none 0 0, .slice none 0 0, .int .i64 t.pos]) (by simp [results, Tryd.results36, go_sem, d0, d1, d2, d3, d4, d5, d6, d7, d8, d9, d10]) rfl ⟨hb9, [.int .i64 10, .string ⟨#[]⟩, .int .i64 0, .int .i64 0, .string ⟨#[]⟩, .int .i64 0, .slice none 0 0, .slice (some ⟨W.heap.size + 1 + 1 + 1 + 1, 0, none⟩) 2 2, .slice none 0 0, .slice none 0 0, .int .i64 t.pos], rfl, rfl, (hty.later hL9).of_exX⟩
  · have d1 : (t.text == [38, 38]) = false := by simpa using h1
    by_cases h2 : t.text = [124, 124]
    · have d2 : (t.text == [124, 124]) = true := by simpa using h2
      have hre : infixE t a b = exK 11 ⟨#[]⟩ 0 [a, b] t.pos := by unfold infixE; rw [if_neg h1, if_pos h2]
      rw [hre]
      clear h1 h2 hre
      go_enter Tryd.func36, Tryd.ntmps36
      go_upto_region 1 with fail
      rw [HW0.out, HW1.out, HW2.out, HW3.out]
      obtain ⟨w4, hw4⟩ : ∃ w4, w3.alloc (.cells #[x0, x1, x2, x3, x4, x5, x6, x7, x8, x9, x10, y0, y1, y2, y3, y4, y5, y6, y7, y8, y9, y10] 32) = w4 := ⟨_, rfl⟩
      have hb34 : Below w3.heap.size w3 w4 := by rw [← hw4]; exact below_new' _ _
      have hk4 : Blk w4 w3.heap.size 32 #[x0, x1, x2, x3, x4, x5, x6, x7, x8, x9, x10, y0, y1, y2, y3, y4, y5, y6, y7, y8, y9, y10] := by rw [← hw4]; exact Blk.new _ _ _
      have hBw4 := hBw3.below hb34 hBw3.lt
      have ht4 := ht3.below hb34 ht3.lt
      have r0 := hBw4.cell 0
      have r1 := hBw4.cell 1
      have r2 := hBw4.cell 2
      have r3 := hBw4.cell 3
      have r4 := hBw4.cell 4
      have r5 := hBw4.cell 5
      have r6 := hBw4.cell 6
      have r7 := hBw4.cell 7
      have r8 := hBw4.cell 8
      have r9 := hBw4.cell 9
      have r10 := hBw4.cell 10
      simp only [List.getElem?_toArray, List.getElem?_cons_succ, List.getElem?_cons_zero] at r0 r1 r2 r3 r4 r5 r6 r7 r8 r9 r10
      have f0 := hBw4.frozen 0
      have f1 := hBw4.frozen 1
      have f2 := hBw4.frozen 2
      have f3 := hBw4.frozen 3
      have f4 := hBw4.frozen 4
      have f5 := hBw4.frozen 5
      have f6 := hBw4.frozen 6
      have f7 := hBw4.frozen 7
      have f8 := hBw4.frozen 8
      have f9 := hBw4.frozen 9
      have f10 := hBw4.frozen 10
      have j0 := ht4.cell 0
      have j1 := ht4.cell 1
      have j2 := ht4.cell 2
      have j3 := ht4.cell 3
      simp only [List.getElem?_toArray, List.getElem?_cons_succ, List.getElem?_cons_zero] at j0 j1 j2 j3
      go_wp2_with fail
      have hbw4 : Below W.heap.size W w4 := hb3.trans (hb34.mono hb3.size)
      have hgg : W.heap.size ≤ W.heap.size + 1 + 1 + 1 := by omega
      have hxe := ((hx.to_exX (g := W.heap.size + 1 + 1 + 1) (by omega)).later (Low.of_below hbw4))
      have hye := ((hy.to_exX (g := W.heap.size + 1 + 1 + 1) (by omega)).later (Low.of_below hbw4))
      have hrow : RowM rEx 11 (exX X (W.heap.size + 1 + 1 + 1)) w4 (some ⟨w3.heap.size, 0, none⟩) [a, b] := RowM.two (xs := [x0, x1, x2, x3, x4, x5, x6, x7, x8, x9, x10]) (ys := [y0, y1, y2, y3, y4, y5, y6, y7, y8, y9, y10]) (by simpa using hk4) (exX_no (hX _ (by omega)) (by omega)) hxe hye
      rw [hz3] at hrow
      have hty := ExM.kids (k := 11) (n := 0) (q := t.pos) (nm := ⟨#[]⟩) (c := 2) (ok_lit _ (by omega) (by omega)) (by simp [ByteArray.size]) (ok_lit _ (by omega) (by omega)) hpos (by simp) (by simp [maxLen]) (by simp) hrow
      obtain ⟨w9, hw9⟩ : ∃ w9, (((((((((((w4).setCell ⟨W.heap.size + 1 + 1 + 1, 0, none⟩ (.int .i64 11)).setCell ⟨W.heap.size + 1 + 1 + 1, 1, none⟩ (.string ⟨#[]⟩)).setCell ⟨W.heap.size + 1 + 1 + 1, 2, none⟩ (.int .i64 0)).setCell ⟨W.heap.size + 1 + 1 + 1, 3, none⟩ (.int .i64 0)).setCell ⟨W.heap.size + 1 + 1 + 1, 4, none⟩ (.string ⟨#[]⟩)).setCell ⟨W.heap.size + 1 + 1 + 1, 5, none⟩ (.int .i64 0)).setCell ⟨W.heap.size + 1 + 1 + 1, 6, none⟩ (.slice none 0 0)).setCell ⟨W.heap.size + 1 + 1 + 1, 7, none⟩ (.slice (some ⟨W.heap.size + 1 + 1 + 1 + 1, 0, none⟩) 2 2)).setCell ⟨W.heap.size + 1 + 1 + 1, 8, none⟩ (.slice none 0 0)).setCell ⟨W.heap.size + 1 + 1 + 1, 9, none⟩ (.slice none 0 0)).setCell ⟨W.heap.size + 1 + 1 + 1, 10, none⟩ (.int .i64 t.pos) = w9 := ⟨_, rfl⟩
      have hB9 := set11 hBw4 (.int .i64 11) (.string ⟨#[]⟩) (.int .i64 0) (.int .i64 0) (.string ⟨#[]⟩) (.int .i64 0) (.slice none 0 0) (.slice (some ⟨W.heap.size + 1 + 1 + 1 + 1, 0, none⟩) 2 2) (.slice none 0 0) (.slice none 0 0) (.int .i64 t.pos)
      have hb9 := Below.set11 hbw4 hgg (.int .i64 11) (.string ⟨#[]⟩) (.int .i64 0) (.int .i64 0) (.string ⟨#[]⟩) (.int .i64 0) (.slice none 0 0) (.slice (some ⟨W.heap.size + 1 + 1 + 1 + 1, 0, none⟩) 2 2) (.slice none 0 0) (.slice none 0 0) (.int .i64 t.pos)
      have hL9 : Low (exX X (W.heap.size + 1 + 1 + 1)) w4 _ := Low.set11 (Chg.refl _ _) (.inl (exX_self _ _)) (.int .i64 11) (.string ⟨#[]⟩) (.int .i64 0) (.int .i64 0) (.string ⟨#[]⟩) (.int .i64 0) (.slice none 0 0) (.slice (some ⟨W.heap.size + 1 + 1 + 1 + 1, 0, none⟩) 2 2) (.slice none 0 0) (.slice none 0 0) (.int .i64 t.pos)
      rw [hw9] at hB9 hb9 hL9 ⊢
      have d0 := hB9.cell 0
      have d1 := hB9.cell 1
      have d2 := hB9.cell 2
      have d3 := hB9.cell 3
      have d4 := hB9.cell 4
      have d5 := hB9.cell 5
      have d6 := hB9.cell 6
      have d7 := hB9.cell 7
      have d8 := hB9.cell 8
      have d9 := hB9.cell 9
      have d10 := hB9.cell 10
      simp only [List.getElem?_toArray, List.getElem?_cons_succ, List.getElem?_cons_zero] at d0 d1 d2 d3 d4 d5 d6 d7 d8 d9 d10
      exact bodyPost_ret (v := .agg #[.int .i64 11, .string ⟨#[]⟩, .int .i64 0, .int .i64 0, .string ⟨#[]⟩, .int .i64 0, .slice none 0 0, .slice (some ⟨W.heap.size + 1 + 1 + 1 + 1, 0, none⟩) 2 2, .slice none 0 0, .slice none 0 0, .int .i64 t.pos]) (by simp [results, Tryd.results36, go_sem, d0, d1, d2, d3, d4, d5, d6, d7, d8, d9, d10]) rfl ⟨hb9, [.int .i64 11, .string ⟨#[]⟩, .int .i64 0, .int .i64 0, .string ⟨#[]⟩, .int .i64 0, .slice none 0 0, .slice (some ⟨W.heap.size + 1 + 1 + 1 + 1, 0, none⟩) 2 2, .slice none 0 0, .slice none 0 0, .int .i64 t.pos], rfl, rfl, (hty.later hL9).of_exX⟩
    · have d2 : (t.text == [124, 124]) = false := by simpa using h2
      have hre : infixE t a b = applyE (applyE (namedE 3 t) a t.pos) b t.pos := by unfold infixE; rw [if_neg h1, if_neg h2]
      rw [hre]
      clear h1 h2 hre
      have C1 := Lib.hid (fun W2 (hW : OldX (exX X (W.heap.size + 1 + 1 + 1)) W2.heap.size) => named_any 3 t _ W2 hW (ok_lit _ (by omega) (by omega)) hs hq)
      have C2 := Lib.hid (fun (zs ls : List Value) (f x : Ex) W2 (hW : OldX (exX X (W.heap.size + 1 + 1 + 1)) W2.heap.size) (h1 : rEx.M (exX X (W.heap.size + 1 + 1 + 1)) W2 zs f) (h2 : rEx.M (exX X (W.heap.size + 1 + 1 + 1)) W2 ls x) => apply_any zs ls f x t.pos _ W2 hW h1 h2 hpos)
      go_enter Tryd.func36, Tryd.ntmps36
      go_upto_region 1 with fail
      rw [HW0.out, HW1.out, HW2.out, HW3.out]
      go_upto_region 6 with fail
      refine wp_region_held_drew (S := fun w' => Low (oneX (W.heap.size + 1 + 1 + 1)) w3 w') (by kernel_rfl) (Low.drew_ w3) (fun hHeld => ?_)
      refine takeH' (i := 0) (d := 25) (v := .agg #[.int .i64 t.kind, .string ⟨t.text.toArray⟩, .int .i64 t.num, .int .i64 t.pos]) rfl (by kernel_rfl) (by kernel_rfl) (by kernel_rfl) (fun _ _ _ h => h) (Or.inl ⟨by rfl, fun w' hS' => by (have q0 := hS'.cell k0 (by show W.heap.size < _; omega) (oneX_no (by show W.heap.size ≠ W.heap.size + 1 + 1 + 1; omega))); (have q1 := hS'.cell k1 (by show W.heap.size < _; omega) (oneX_no (by show W.heap.size ≠ W.heap.size + 1 + 1 + 1; omega))); (have q2 := hS'.cell k2 (by show W.heap.size < _; omega) (oneX_no (by show W.heap.size ≠ W.heap.size + 1 + 1 + 1; omega))); (have q3 := hS'.cell k3 (by show W.heap.size < _; omega) (oneX_no (by show W.heap.size ≠ W.heap.size + 1 + 1 + 1; omega))); (first | rfl | go_simp)⟩) hHeld rfl ?_
      try simp only [Act.put, List.setIfInBounds_toArray, List.set_cons_zero, List.set_cons_succ]
      refine takeH' (i := 2) (d := 27) (v := .agg #[x0, x1, x2, x3, x4, x5, x6, x7, x8, x9, x10]) rfl (by kernel_rfl) (by kernel_rfl) (by kernel_rfl) (fun _ _ _ h => h) (Or.inl ⟨by rfl, fun w' hS' => by (have q0 := hS'.cell u0 (by show W.heap.size + 1 < _; omega) (oneX_no (by show W.heap.size + 1 ≠ W.heap.size + 1 + 1 + 1; omega))); (have q1 := hS'.cell u1 (by show W.heap.size + 1 < _; omega) (oneX_no (by show W.heap.size + 1 ≠ W.heap.size + 1 + 1 + 1; omega))); (have q2 := hS'.cell u2 (by show W.heap.size + 1 < _; omega) (oneX_no (by show W.heap.size + 1 ≠ W.heap.size + 1 + 1 + 1; omega))); (have q3 := hS'.cell u3 (by show W.heap.size + 1 < _; omega) (oneX_no (by show W.heap.size + 1 ≠ W.heap.size + 1 + 1 + 1; omega))); (have q4 := hS'.cell u4 (by show W.heap.size + 1 < _; omega) (oneX_no (by show W.heap.size + 1 ≠ W.heap.size + 1 + 1 + 1; omega))); (have q5 := hS'.cell u5 (by show W.heap.size + 1 < _; omega) (oneX_no (by show W.heap.size + 1 ≠ W.heap.size + 1 + 1 + 1; omega))); (have q6 := hS'.cell u6 (by show W.heap.size + 1 < _; omega) (oneX_no (by show W.heap.size + 1 ≠ W.heap.size + 1 + 1 + 1; omega))); (have q7 := hS'.cell u7 (by show W.heap.size + 1 < _; omega) (oneX_no (by show W.heap.size + 1 ≠ W.heap.size + 1 + 1 + 1; omega))); (have q8 := hS'.cell u8 (by show W.heap.size + 1 < _; omega) (oneX_no (by show W.heap.size + 1 ≠ W.heap.size + 1 + 1 + 1; omega))); (have q9 := hS'.cell u9 (by show W.heap.size + 1 < _; omega) (oneX_no (by show W.heap.size + 1 ≠ W.heap.size + 1 + 1 + 1; omega))); (have q10 := hS'.cell u10 (by show W.heap.size + 1 < _; omega) (oneX_no (by show W.heap.size + 1 ≠ W.heap.size + 1 + 1 + 1; omega))); (first | rfl | go_simp)⟩) hHeld rfl ?_
      try simp only [Act.put, List.setIfInBounds_toArray, List.set_cons_zero, List.set_cons_succ]
      refine takeH' (i := 3) (d := 28) (v := .pointer (some ⟨W.heap.size, 3, none⟩)) rfl (by kernel_rfl) (by kernel_rfl) (by kernel_rfl) (fun _ _ _ h => h) (Or.inl ⟨by rfl, fun w' hS' => by (first | rfl | go_simp)⟩) hHeld rfl ?_
      try simp only [Act.put, List.setIfInBounds_toArray, List.set_cons_zero, List.set_cons_succ]
      refine takeH' (i := 4) (d := 29) (v := .int .i64 t.pos) rfl (by kernel_rfl) (by kernel_rfl) (by kernel_rfl) (fun _ _ _ h => h) (Or.inl ⟨by rfl, fun w' hS' => by (have q3 := hS'.cell k3 (by show W.heap.size < _; omega) (oneX_no (by show W.heap.size ≠ W.heap.size + 1 + 1 + 1; omega))); (first | rfl | go_simp)⟩) hHeld rfl ?_
      try simp only [Act.put, List.setIfInBounds_toArray, List.set_cons_zero, List.set_cons_succ]
      refine takeH' (i := 6) (d := 31) (v := .agg #[y0, y1, y2, y3, y4, y5, y6, y7, y8, y9, y10]) rfl (by kernel_rfl) (by kernel_rfl) (by kernel_rfl) (fun _ _ _ h => h) (Or.inl ⟨by rfl, fun w' hS' => by (have q0 := hS'.cell v0 (by show W.heap.size + 1 + 1 < _; omega) (oneX_no (by show W.heap.size + 1 + 1 ≠ W.heap.size + 1 + 1 + 1; omega))); (have q1 := hS'.cell v1 (by show W.heap.size + 1 + 1 < _; omega) (oneX_no (by show W.heap.size + 1 + 1 ≠ W.heap.size + 1 + 1 + 1; omega))); (have q2 := hS'.cell v2 (by show W.heap.size + 1 + 1 < _; omega) (oneX_no (by show W.heap.size + 1 + 1 ≠ W.heap.size + 1 + 1 + 1; omega))); (have q3 := hS'.cell v3 (by show W.heap.size + 1 + 1 < _; omega) (oneX_no (by show W.heap.size + 1 + 1 ≠ W.heap.size + 1 + 1 + 1; omega))); (have q4 := hS'.cell v4 (by show W.heap.size + 1 + 1 < _; omega) (oneX_no (by show W.heap.size + 1 + 1 ≠ W.heap.size + 1 + 1 + 1; omega))); (have q5 := hS'.cell v5 (by show W.heap.size + 1 + 1 < _; omega) (oneX_no (by show W.heap.size + 1 + 1 ≠ W.heap.size + 1 + 1 + 1; omega))); (have q6 := hS'.cell v6 (by show W.heap.size + 1 + 1 < _; omega) (oneX_no (by show W.heap.size + 1 + 1 ≠ W.heap.size + 1 + 1 + 1; omega))); (have q7 := hS'.cell v7 (by show W.heap.size + 1 + 1 < _; omega) (oneX_no (by show W.heap.size + 1 + 1 ≠ W.heap.size + 1 + 1 + 1; omega))); (have q8 := hS'.cell v8 (by show W.heap.size + 1 + 1 < _; omega) (oneX_no (by show W.heap.size + 1 + 1 ≠ W.heap.size + 1 + 1 + 1; omega))); (have q9 := hS'.cell v9 (by show W.heap.size + 1 + 1 < _; omega) (oneX_no (by show W.heap.size + 1 + 1 ≠ W.heap.size + 1 + 1 + 1; omega))); (have q10 := hS'.cell v10 (by show W.heap.size + 1 + 1 < _; omega) (oneX_no (by show W.heap.size + 1 + 1 ≠ W.heap.size + 1 + 1 + 1; omega))); (first | rfl | go_simp)⟩) hHeld rfl ?_
      try simp only [Act.put, List.setIfInBounds_toArray, List.set_cons_zero, List.set_cons_succ]
      refine takeH' (i := 7) (d := 32) (v := .pointer (some ⟨W.heap.size, 3, none⟩)) rfl (by kernel_rfl) (by kernel_rfl) (by kernel_rfl) (fun _ _ _ h => h) (Or.inl ⟨by rfl, fun w' hS' => by (first | rfl | go_simp)⟩) hHeld rfl ?_
      try simp only [Act.put, List.setIfInBounds_toArray, List.set_cons_zero, List.set_cons_succ]
      refine takeH' (i := 8) (d := 33) (v := .int .i64 t.pos) rfl (by kernel_rfl) (by kernel_rfl) (by kernel_rfl) (fun _ _ _ h => h) (Or.inl ⟨by rfl, fun w' hS' => by (have q3 := hS'.cell k3 (by show W.heap.size < _; omega) (oneX_no (by show W.heap.size ≠ W.heap.size + 1 + 1 + 1; omega))); (first | rfl | go_simp)⟩) hHeld rfl ?_
      try simp only [Act.put, List.setIfInBounds_toArray, List.set_cons_zero, List.set_cons_succ]
      refine wpAnyH_ready (rs := [1]) (by kernel_rfl) (by simp) ?_
      refine AllReadyH.cons rfl (fun K hK => ?_) AllReadyH.nil
      try go_simp
      refine (C1.out w3.drew (hX.ex (by show W.heap.size ≤ w3.heap.size; omega) (by show _ < w3.heap.size; omega))).mono ?_
      rintro e w4 ⟨hb4, ls, hlen, rfl, hty4⟩
      have hS4 : Low (oneX (W.heap.size + 1 + 1 + 1)) w3 w4 := (Low.drew_ w3).step hb4
      go_wp2_with fail
      refine hK.out _ _ hS4 (fun hHeld => ?_)
      clear hK K
      try simp only [Act.put, List.setIfInBounds_toArray, List.set_cons_zero, List.set_cons_succ]
      refine wpAnyH_ready (rs := [5]) (by kernel_rfl) (by simp) ?_
      refine AllReadyH.cons rfl (fun K hK => ?_) AllReadyH.nil
      try go_simp
      have hW4 : Below W.heap.size W w4 := (hb3.drew).trans (hb4.mono (by show W.heap.size ≤ w3.heap.size; omega))
      have hz4 : w3.heap.size ≤ w4.heap.size := hb4.size
      refine (C2.out ls [x0, x1, x2, x3, x4, x5, x6, x7, x8, x9, x10] _ _ w4 (hX.ex (by omega) (by omega)) hty4 ((hx.to_exX (by omega)).later (Low.of_below hW4))).mono ?_
      rintro e w5 ⟨hb5, ls5, hlen5, rfl, hty5⟩
      have hS5 : Low (oneX (W.heap.size + 1 + 1 + 1)) w3 w5 := hS4.step hb5
      go_wp2_with fail
      refine hK.out _ _ hS5 (fun hHeld => ?_)
      clear hK K
      try simp only [Act.put, List.setIfInBounds_toArray, List.set_cons_zero, List.set_cons_succ]
      refine wpAnyH_ready (rs := [9]) (by kernel_rfl) (by simp) ?_
      refine AllReadyH.cons rfl (fun K hK => ?_) AllReadyH.nil
      try go_simp
      have hW5 : Below W.heap.size W w5 := hW4.trans (hb5.mono hW4.size)
      have hz5 : w4.heap.size ≤ w5.heap.size := hb5.size
      refine (C2.out ls5 [y0, y1, y2, y3, y4, y5, y6, y7, y8, y9, y10] _ _ w5 (hX.ex (by omega) (by omega)) hty5 ((hy.to_exX (by omega)).later (Low.of_below hW5))).mono ?_
      rintro e w6 ⟨hb6, ls6, hlen6, rfl, hty6⟩
      have hS6 : Low (oneX (W.heap.size + 1 + 1 + 1)) w3 w6 := hS5.step hb6
      have hW6 : Below W.heap.size W w6 := hW5.trans (hb6.mono hW5.size)
      have hz6 : w5.heap.size ≤ w6.heap.size := hb6.size
      obtain ⟨z0, z1, z2, z3, z4, z5, z6, z7, z8, z9, z10, rfl⟩ := eleven_of hlen6
      have o0 := store_one' z0 (ex_ones' hty6 z0 (by simp))
      have o1 := store_one' z1 (ex_ones' hty6 z1 (by simp))
      have o2 := store_one' z2 (ex_ones' hty6 z2 (by simp))
      have o3 := store_one' z3 (ex_ones' hty6 z3 (by simp))
      have o4 := store_one' z4 (ex_ones' hty6 z4 (by simp))
      have o5 := store_one' z5 (ex_ones' hty6 z5 (by simp))
      have o6 := store_one' z6 (ex_ones' hty6 z6 (by simp))
      have o7 := store_one' z7 (ex_ones' hty6 z7 (by simp))
      have o8 := store_one' z8 (ex_ones' hty6 z8 (by simp))
      have o9 := store_one' z9 (ex_ones' hty6 z9 (by simp))
      have o10 := store_one' z10 (ex_ones' hty6 z10 (by simp))
      go_wp2_with fail
      refine hK.out _ _ hS6 (fun hHeld => ?_)
      clear hK K
      try simp only [Act.put, List.setIfInBounds_toArray, List.set_cons_zero, List.set_cons_succ]
      have hBw6 : Blk w6 (W.heap.size + 1 + 1 + 1) 32 #[.int .i64 0, .string ⟨#[]⟩, .int .i64 0, .int .i64 0, .string ⟨#[]⟩, .int .i64 0, .slice none 0 0, .slice none 0 0, .slice none 0 0, .slice none 0 0, .int .i64 0] := (((Below.refl w3.heap.size w3).drew.trans hb4).trans (hb5.mono (by omega))).trans (hb6.mono (by omega)) |> fun h => hBw3.below h hBw3.lt
      have r0 := hBw6.cell 0
      have r1 := hBw6.cell 1
      have r2 := hBw6.cell 2
      have r3 := hBw6.cell 3
      have r4 := hBw6.cell 4
      have r5 := hBw6.cell 5
      have r6 := hBw6.cell 6
      have r7 := hBw6.cell 7
      have r8 := hBw6.cell 8
      have r9 := hBw6.cell 9
      have r10 := hBw6.cell 10
      simp only [List.getElem?_toArray, List.getElem?_cons_succ, List.getElem?_cons_zero] at r0 r1 r2 r3 r4 r5 r6 r7 r8 r9 r10
      have f0 := hBw6.frozen 0
      have f1 := hBw6.frozen 1
      have f2 := hBw6.frozen 2
      have f3 := hBw6.frozen 3
      have f4 := hBw6.frozen 4
      have f5 := hBw6.frozen 5
      have f6 := hBw6.frozen 6
      have f7 := hBw6.frozen 7
      have f8 := hBw6.frozen 8
      have f9 := hBw6.frozen 9
      have f10 := hBw6.frozen 10
      refine wpAnyH_ready (rs := [10]) (by kernel_rfl) (by simp) ?_
      refine AllReadyH.cons rfl (fun K hK => ?_) AllReadyH.nil
      go_simp
      refine hK.out _ _ (Low.set11 hS6 (.inl (oneX_self _)) _ _ _ _ _ _ _ _ _ _ _) (fun hHeld => ?_)
      clear hK K
      try simp only [Act.put, List.setIfInBounds_toArray, List.set_cons_zero, List.set_cons_succ]
      refine wpAnyH_done (by kernel_rfl) ?_ _
      go_wp2_with fail
      have hgg : W.heap.size ≤ W.heap.size + 1 + 1 + 1 := by omega
      have hbw6 := hW6
      obtain ⟨w9, hw9⟩ : ∃ w9, (((((((((((w6).setCell ⟨W.heap.size + 1 + 1 + 1, 0, none⟩ (z0)).setCell ⟨W.heap.size + 1 + 1 + 1, 1, none⟩ (z1)).setCell ⟨W.heap.size + 1 + 1 + 1, 2, none⟩ (z2)).setCell ⟨W.heap.size + 1 + 1 + 1, 3, none⟩ (z3)).setCell ⟨W.heap.size + 1 + 1 + 1, 4, none⟩ (z4)).setCell ⟨W.heap.size + 1 + 1 + 1, 5, none⟩ (z5)).setCell ⟨W.heap.size + 1 + 1 + 1, 6, none⟩ (z6)).setCell ⟨W.heap.size + 1 + 1 + 1, 7, none⟩ (z7)).setCell ⟨W.heap.size + 1 + 1 + 1, 8, none⟩ (z8)).setCell ⟨W.heap.size + 1 + 1 + 1, 9, none⟩ (z9)).setCell ⟨W.heap.size + 1 + 1 + 1, 10, none⟩ (z10) = w9 := ⟨_, rfl⟩
      have hB9 := set11 hBw6 (z0) (z1) (z2) (z3) (z4) (z5) (z6) (z7) (z8) (z9) (z10)
      have hb9 := Below.set11 hbw6 hgg (z0) (z1) (z2) (z3) (z4) (z5) (z6) (z7) (z8) (z9) (z10)
      have hL9 : Low (exX X (W.heap.size + 1 + 1 + 1)) w6 _ := Low.set11 (Chg.refl _ _) (.inl (exX_self _ _)) (z0) (z1) (z2) (z3) (z4) (z5) (z6) (z7) (z8) (z9) (z10)
      rw [hw9] at hB9 hb9 hL9 ⊢
      have d0 := hB9.cell 0
      have d1 := hB9.cell 1
      have d2 := hB9.cell 2
      have d3 := hB9.cell 3
      have d4 := hB9.cell 4
      have d5 := hB9.cell 5
      have d6 := hB9.cell 6
      have d7 := hB9.cell 7
      have d8 := hB9.cell 8
      have d9 := hB9.cell 9
      have d10 := hB9.cell 10
      simp only [List.getElem?_toArray, List.getElem?_cons_succ, List.getElem?_cons_zero] at d0 d1 d2 d3 d4 d5 d6 d7 d8 d9 d10
      exact bodyPost_ret (v := .agg #[z0, z1, z2, z3, z4, z5, z6, z7, z8, z9, z10]) (by simp [results, Tryd.results36, go_sem, d0, d1, d2, d3, d4, d5, d6, d7, d8, d9, d10]) rfl ⟨hb9, [z0, z1, z2, z3, z4, z5, z6, z7, z8, z9, z10], rfl, rfl, (hty6.later hL9).of_exX⟩

end Go.Proofs.YtiiddmioafhmoaaDoor
