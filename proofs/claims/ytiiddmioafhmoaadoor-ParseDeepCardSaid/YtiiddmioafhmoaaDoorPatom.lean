/- Walks: atoms. -/
import Derived.Test.YtiiddmioafhmoaaDoorPcs
namespace Go.Proofs.YtiiddmioafhmoaaDoor
open Go.RowKit
set_option linter.unusedVariables false
set_option linter.unusedSimpArgs false
set_option maxRecDepth 100000

def atomP (E : Nat → List Tk → Res Ex) (T : Nat → List Tk → Res Ty) (P : Nat → List Tk → Res Pt) (lv : Nat) (ts : List Tk) : Res Ex :=
  if seesAtomP ts = false then .bad 110 (posH ts) else
  if kindH ts = 1 then .ok (namedE 3 (headT ts)) (restT ts)
  else if kindH ts = 2 then .ok (namedE 4 (headT ts)) (restT ts)
  else if kindH ts = 4 then .ok (namedE 2 (headT ts)) (restT ts)
  else if kindH ts = 3 then .ok (exK 1 ⟨#[]⟩ (headT ts).num [] (posH ts)) (restT ts)
  else if kindH ts = 7 then brackP E T lv (posH ts) (restT ts)
  else casesP E P lv (posH ts) (restT ts)
set_option maxHeartbeats 6400000 in
theorem atom_any (E : Nat → List Tk → Res Ex) (T : Nat → List Tk → Res Ty) (P : Nat → List Tk → Res Pt) (HE : LvOk rEx 11 7 E) (HT : TyOk 76 T) (HP : LvOk rPt 5 77 P) (pb lv : Nat) (ts : List Tk) (W : World) (h : PsAt W pb ts lv) (hf : Fine ts) (hlv : lv ≤ 300) (r : Res Ex) (hr : atomP E T P lv ts = r) (ho : r ≠ .out) :
    Calls Tryd.prog 32 #[.pointer (some ⟨pb, 0, none⟩)] W (PaPost pb lv 11 rEx r W) := by
  obtain ⟨t, tl, rfl⟩ := hf.ne
  obtain ⟨W1, hW1⟩ : ∃ W1, W.alloc (.cells #[.int .i64 0, .string ⟨#[]⟩, .int .i64 0, .int .i64 0, .string ⟨#[]⟩, .int .i64 0, .slice none 0 0, .slice none 0 0, .slice none 0 0, .slice none 0 0, .int .i64 0] 32) = W1 := ⟨_, rfl⟩
  have hnew : Below W.heap.size W W1 := by rw [← hW1]; exact (Below.refl _ _).alloc (Nat.le_refl _) _
  have hres : Blk W1 W.heap.size 32 #[.int .i64 0, .string ⟨#[]⟩, .int .i64 0, .int .i64 0, .string ⟨#[]⟩, .int .i64 0, .slice none 0 0, .slice none 0 0, .slice none 0 0, .slice none 0 0, .int .i64 0] := by rw [← hW1]; exact Blk.new _ _ _
  have hs1 := h.later hnew
  have hlt := h.lt
  have hsz : W1.heap.size = W.heap.size + 1 := by rw [← hW1]; simp
  have HW1 := Lib.hid hW1
  have HN := Lib.hid hnew
  have HRS := Lib.hid hres
  have HS1 := Lib.hid hs1
  have HSZ := Lib.hid hsz
  have hp1 : Par pb W1 W1 := Chg.refl _ _
  clear hW1 hnew hres hs1 hsz h
  have HF := Lib.hid hf
  have HR := Lib.hid hr
  have HO := Lib.hid ho
  have hgood := hf.good t (by simp)
  have HG := Lib.hid hgood
  have HPOS := Lib.hid (show ok64 (t.pos : Int) from ok_lit _ (by omega) (by have := hgood.2.2; omega))
  clear hf hr ho hgood
  cases hb : seesAtomP (t :: tl) with
  | false =>
    obtain rfl : r = .bad 110 t.pos := by rw [← HR.out]; unfold atomP; simp [hb, posH_cons]
    have C1 := Lib.hid (seesAtom_any pb lv t tl W1 HS1.out false hb)
    have C2 := Lib.hid (fun W2 (hb2 : Below W1.heap.size W1 W2) => wrong_any pb lv t tl 110 W2 (HS1.out.later hb2))
    go_enter Tryd.func32, Tryd.ntmps32
    go_upto_region 1 with fail
    rw [HW1.out]
    go_wp2_with (first | (go_at_call 33; (with_reducible refine (C1.out).mono ?_); rintro e w2 ⟨rfl, hb2⟩) | (go_at_call 17; (with_reducible refine (C2.out _ hb2).mono ?_); rintro e w3 ⟨rfl, hb3⟩))
    exact ⟨rfl, (Par.of_below HN.out).trans ((Par.of_below hb2).trans (Par.of_below hb3)), rfl⟩
  | true =>
    have C1 := Lib.hid (seesAtom_any pb lv t tl W1 HS1.out true hb)
    have C2 := Lib.hid (fun W2 (hb2 : Below W1.heap.size W1 W2) => take_any pb lv t tl W2 (HS1.out.later hb2))
    have CN := Lib.hid (fun (k : Int) (hk : ok64 k) W2 (hX : OldX (lowX (W.heap.size + 1)) W2.heap.size) => named_any k t (lowX (W.heap.size + 1)) W2 hX hk HG.out.1 HG.out.2.2)
    have HFR := Lib.hid HF.out.rest
    have HFT := Lib.hid (fun hk => HF.out.tail_ hk)
    by_cases h1 : t.kind = 1
    · have d1 : (t.kind == 1) = true := by simpa using h1
      obtain rfl : r = .ok (namedE 3 t) (restT (t :: tl)) := by rw [← HR.out]; unfold atomP; simp [hb, kindH_cons, posH_cons, headT_cons, h1]
      clear h1
      go_enter Tryd.func32, Tryd.ntmps32
      go_upto_region 1 with fail
      rw [HW1.out]
      go_upto_region 4 with (first | (go_at_call 33; (with_reducible refine (C1.out).mono ?_); rintro e w2 ⟨rfl, hb2⟩) | (go_at_call 18; (with_reducible refine (C2.out _ hb2).mono ?_); rintro e w3 ⟨rfl, hp3, hsw3⟩; rw [tk_cells]; (have hpw3 : Par pb W1 w3 := (Par.of_below hb2).trans hp3)))
      obtain ⟨w4, hw4⟩ : ∃ w4, w3.alloc (.cells #[.int .i64 t.kind, .string ⟨t.text.toArray⟩, .int .i64 t.num, .int .i64 t.pos] 52) = w4 := ⟨_, rfl⟩
      have hb4 : Below w3.heap.size w3 w4 := by rw [← hw4]; exact below_new' _ _
      have hx4 : Blk w4 w3.heap.size 52 #[.int .i64 t.kind, .string ⟨t.text.toArray⟩, .int .i64 t.num, .int .i64 t.pos] := by rw [← hw4]; exact Blk.new _ _ _
      rw [hw4]
      have hpw4 : Par pb W1 w4 := hpw3.trans (Par.of_below hb4)
      have hsw4 := hsw3.later hb4
      have k0 := hx4.cell 0
      have k1 := hx4.cell 1
      have k2 := hx4.cell 2
      have k3 := hx4.cell 3
      simp only [List.getElem?_toArray, List.getElem?_cons_succ, List.getElem?_cons_zero] at k0 k1 k2 k3
      clear hw4
      have hsz := HSZ.out
      have hz4 := hpw4.size
      have hl4 := hsw4.lt
      have CAL : (.agg #[.int .i64 t.kind, .string ⟨t.text.toArray⟩, .int .i64 t.num, .int .i64 t.pos] : Value) = tkV t := (tk_cells t).symm
      go_wp2_with (first | (rw [CAL]; fail) | (go_at_call 51; rw [CAL]; (with_reducible refine (CN.out 3 (ok_lit _ (by omega) (by omega)) w4 (OldX.low (by omega))).mono ?_); rintro e w5 ⟨hb5, cs, hlen, rfl, hty⟩; (obtain ⟨x0, x1, x2, x3, x4, x5, x6, x7, x8, x9, x10, rfl⟩ := eleven_of hlen); (have s0 := store_one' x0 (ex_ones' hty x0 (by simp))); (have s1 := store_one' x1 (ex_ones' hty x1 (by simp))); (have s2 := store_one' x2 (ex_ones' hty x2 (by simp))); (have s3 := store_one' x3 (ex_ones' hty x3 (by simp))); (have s4 := store_one' x4 (ex_ones' hty x4 (by simp))); (have s5 := store_one' x5 (ex_ones' hty x5 (by simp))); (have s6 := store_one' x6 (ex_ones' hty x6 (by simp))); (have s7 := store_one' x7 (ex_ones' hty x7 (by simp))); (have s8 := store_one' x8 (ex_ones' hty x8 (by simp))); (have s9 := store_one' x9 (ex_ones' hty x9 (by simp))); (have s10 := store_one' x10 (ex_ones' hty x10 (by simp))); (have hpw5 : Par pb W1 w5 := hpw4.trans (Par.of_below hb5)); (have hsw5 := hsw4.later hb5); (have hBw5 : Blk w5 W.heap.size 32 #[.int .i64 0, .string ⟨#[]⟩, .int .i64 0, .int .i64 0, .string ⟨#[]⟩, .int .i64 0, .slice none 0 0, .slice none 0 0, .slice none 0 0, .slice none 0 0, .int .i64 0] := (hpw5.block _ HRS.out.lt (by omega : ¬ W.heap.size = pb)).trans HRS.out); (have r0w5 := hBw5.cell 0); (have r1w5 := hBw5.cell 1); (have r2w5 := hBw5.cell 2); (have r3w5 := hBw5.cell 3); (have r4w5 := hBw5.cell 4); (have r5w5 := hBw5.cell 5); (have r6w5 := hBw5.cell 6); (have r7w5 := hBw5.cell 7); (have r8w5 := hBw5.cell 8); (have r9w5 := hBw5.cell 9); (have r10w5 := hBw5.cell 10); (simp only [List.getElem?_toArray, List.getElem?_cons_succ, List.getElem?_cons_zero] at r0w5 r1w5 r2w5 r3w5 r4w5 r5w5 r6w5 r7w5 r8w5 r9w5 r10w5); (have f0w5 := hBw5.frozen 0); (have f1w5 := hBw5.frozen 1); (have f2w5 := hBw5.frozen 2); (have f3w5 := hBw5.frozen 3); (have f4w5 := hBw5.frozen 4); (have f5w5 := hBw5.frozen 5); (have f6w5 := hBw5.frozen 6); (have f7w5 := hBw5.frozen 7); (have f8w5 := hBw5.frozen 8); (have f9w5 := hBw5.frozen 9); (have f10w5 := hBw5.frozen 10)))
      obtain ⟨w9, hw9⟩ : ∃ w9, (((((((((((w5).setCell ⟨W.heap.size, 0, none⟩ (x0)).setCell ⟨W.heap.size, 1, none⟩ (x1)).setCell ⟨W.heap.size, 2, none⟩ (x2)).setCell ⟨W.heap.size, 3, none⟩ (x3)).setCell ⟨W.heap.size, 4, none⟩ (x4)).setCell ⟨W.heap.size, 5, none⟩ (x5)).setCell ⟨W.heap.size, 6, none⟩ (x6)).setCell ⟨W.heap.size, 7, none⟩ (x7)).setCell ⟨W.heap.size, 8, none⟩ (x8)).setCell ⟨W.heap.size, 9, none⟩ (x9)).setCell ⟨W.heap.size, 10, none⟩ (x10) = w9 := ⟨_, rfl⟩
      have hPW := (Par.of_below (pb := pb) HN.out).trans hpw5
      have hB9 := set11 hBw5 (x0) (x1) (x2) (x3) (x4) (x5) (x6) (x7) (x8) (x9) (x10)
      have hb9 := Par.set11 hPW (Nat.le_refl _) (x0) (x1) (x2) (x3) (x4) (x5) (x6) (x7) (x8) (x9) (x10)
      have hS9 := PsAt.set11 hsw5 (g := W.heap.size) hlt (x0) (x1) (x2) (x3) (x4) (x5) (x6) (x7) (x8) (x9) (x10)
      have hL9 : Low (lowX (W.heap.size + 1)) w5 _ := Low.set11 (Chg.refl _ _) (.inl (lowX_self _)) (x0) (x1) (x2) (x3) (x4) (x5) (x6) (x7) (x8) (x9) (x10)
      rw [hw9] at hB9 hb9 hS9 hL9 ⊢
      have d0 := hB9.cell 0
      have d1 := hB9.cell 1
      have d2 := hB9.cell 2
      have d3 := hB9.cell 3
      have d4 := hB9.cell 4
      have d5 := hB9.cell 5
      have d6 := hB9.cell 6
      have d7 := hB9.cell 7
      have d8 := hB9.cell 8
      have d9 := hB9.cell 9
      have d10 := hB9.cell 10
      simp only [List.getElem?_toArray, List.getElem?_cons_succ, List.getElem?_cons_zero] at d0 d1 d2 d3 d4 d5 d6 d7 d8 d9 d10
      exact bodyPost_ret (v := .agg #[x0, x1, x2, x3, x4, x5, x6, x7, x8, x9, x10]) (by simp [results, Tryd.results32, go_sem, d0, d1, d2, d3, d4, d5, d6, d7, d8, d9, d10]) rfl ⟨hb9, ⟨[x0, x1, x2, x3, x4, x5, x6, x7, x8, x9, x10], rfl, rfl, (hty.later hL9).wk (by omega)⟩, hS9, HFR.out⟩
    · have d1 : (t.kind == 1) = false := by simpa using h1
      by_cases h2 : t.kind = 2
      · have d2 : (t.kind == 2) = true := by simpa using h2
        obtain rfl : r = .ok (namedE 4 t) (restT (t :: tl)) := by rw [← HR.out]; unfold atomP; simp [hb, kindH_cons, posH_cons, headT_cons, h1, h2]
        clear h1 h2
        go_enter Tryd.func32, Tryd.ntmps32
        go_upto_region 1 with fail
        rw [HW1.out]
        go_upto_region 4 with (first | (go_at_call 33; (with_reducible refine (C1.out).mono ?_); rintro e w2 ⟨rfl, hb2⟩) | (go_at_call 18; (with_reducible refine (C2.out _ hb2).mono ?_); rintro e w3 ⟨rfl, hp3, hsw3⟩; rw [tk_cells]; (have hpw3 : Par pb W1 w3 := (Par.of_below hb2).trans hp3)))
        obtain ⟨w4, hw4⟩ : ∃ w4, w3.alloc (.cells #[.int .i64 t.kind, .string ⟨t.text.toArray⟩, .int .i64 t.num, .int .i64 t.pos] 52) = w4 := ⟨_, rfl⟩
        have hb4 : Below w3.heap.size w3 w4 := by rw [← hw4]; exact below_new' _ _
        have hx4 : Blk w4 w3.heap.size 52 #[.int .i64 t.kind, .string ⟨t.text.toArray⟩, .int .i64 t.num, .int .i64 t.pos] := by rw [← hw4]; exact Blk.new _ _ _
        rw [hw4]
        have hpw4 : Par pb W1 w4 := hpw3.trans (Par.of_below hb4)
        have hsw4 := hsw3.later hb4
        have k0 := hx4.cell 0
        have k1 := hx4.cell 1
        have k2 := hx4.cell 2
        have k3 := hx4.cell 3
        simp only [List.getElem?_toArray, List.getElem?_cons_succ, List.getElem?_cons_zero] at k0 k1 k2 k3
        clear hw4
        have hsz := HSZ.out
        have hz4 := hpw4.size
        have hl4 := hsw4.lt
        have CAL : (.agg #[.int .i64 t.kind, .string ⟨t.text.toArray⟩, .int .i64 t.num, .int .i64 t.pos] : Value) = tkV t := (tk_cells t).symm
        go_wp2_with (first | (rw [CAL]; fail) | (go_at_call 51; rw [CAL]; (with_reducible refine (CN.out 4 (ok_lit _ (by omega) (by omega)) w4 (OldX.low (by omega))).mono ?_); rintro e w5 ⟨hb5, cs, hlen, rfl, hty⟩; (obtain ⟨x0, x1, x2, x3, x4, x5, x6, x7, x8, x9, x10, rfl⟩ := eleven_of hlen); (have s0 := store_one' x0 (ex_ones' hty x0 (by simp))); (have s1 := store_one' x1 (ex_ones' hty x1 (by simp))); (have s2 := store_one' x2 (ex_ones' hty x2 (by simp))); (have s3 := store_one' x3 (ex_ones' hty x3 (by simp))); (have s4 := store_one' x4 (ex_ones' hty x4 (by simp))); (have s5 := store_one' x5 (ex_ones' hty x5 (by simp))); (have s6 := store_one' x6 (ex_ones' hty x6 (by simp))); (have s7 := store_one' x7 (ex_ones' hty x7 (by simp))); (have s8 := store_one' x8 (ex_ones' hty x8 (by simp))); (have s9 := store_one' x9 (ex_ones' hty x9 (by simp))); (have s10 := store_one' x10 (ex_ones' hty x10 (by simp))); (have hpw5 : Par pb W1 w5 := hpw4.trans (Par.of_below hb5)); (have hsw5 := hsw4.later hb5); (have hBw5 : Blk w5 W.heap.size 32 #[.int .i64 0, .string ⟨#[]⟩, .int .i64 0, .int .i64 0, .string ⟨#[]⟩, .int .i64 0, .slice none 0 0, .slice none 0 0, .slice none 0 0, .slice none 0 0, .int .i64 0] := (hpw5.block _ HRS.out.lt (by omega : ¬ W.heap.size = pb)).trans HRS.out); (have r0w5 := hBw5.cell 0); (have r1w5 := hBw5.cell 1); (have r2w5 := hBw5.cell 2); (have r3w5 := hBw5.cell 3); (have r4w5 := hBw5.cell 4); (have r5w5 := hBw5.cell 5); (have r6w5 := hBw5.cell 6); (have r7w5 := hBw5.cell 7); (have r8w5 := hBw5.cell 8); (have r9w5 := hBw5.cell 9); (have r10w5 := hBw5.cell 10); (simp only [List.getElem?_toArray, List.getElem?_cons_succ, List.getElem?_cons_zero] at r0w5 r1w5 r2w5 r3w5 r4w5 r5w5 r6w5 r7w5 r8w5 r9w5 r10w5); (have f0w5 := hBw5.frozen 0); (have f1w5 := hBw5.frozen 1); (have f2w5 := hBw5.frozen 2); (have f3w5 := hBw5.frozen 3); (have f4w5 := hBw5.frozen 4); (have f5w5 := hBw5.frozen 5); (have f6w5 := hBw5.frozen 6); (have f7w5 := hBw5.frozen 7); (have f8w5 := hBw5.frozen 8); (have f9w5 := hBw5.frozen 9); (have f10w5 := hBw5.frozen 10)))
        obtain ⟨w9, hw9⟩ : ∃ w9, (((((((((((w5).setCell ⟨W.heap.size, 0, none⟩ (x0)).setCell ⟨W.heap.size, 1, none⟩ (x1)).setCell ⟨W.heap.size, 2, none⟩ (x2)).setCell ⟨W.heap.size, 3, none⟩ (x3)).setCell ⟨W.heap.size, 4, none⟩ (x4)).setCell ⟨W.heap.size, 5, none⟩ (x5)).setCell ⟨W.heap.size, 6, none⟩ (x6)).setCell ⟨W.heap.size, 7, none⟩ (x7)).setCell ⟨W.heap.size, 8, none⟩ (x8)).setCell ⟨W.heap.size, 9, none⟩ (x9)).setCell ⟨W.heap.size, 10, none⟩ (x10) = w9 := ⟨_, rfl⟩
        have hPW := (Par.of_below (pb := pb) HN.out).trans hpw5
        have hB9 := set11 hBw5 (x0) (x1) (x2) (x3) (x4) (x5) (x6) (x7) (x8) (x9) (x10)
        have hb9 := Par.set11 hPW (Nat.le_refl _) (x0) (x1) (x2) (x3) (x4) (x5) (x6) (x7) (x8) (x9) (x10)
        have hS9 := PsAt.set11 hsw5 (g := W.heap.size) hlt (x0) (x1) (x2) (x3) (x4) (x5) (x6) (x7) (x8) (x9) (x10)
        have hL9 : Low (lowX (W.heap.size + 1)) w5 _ := Low.set11 (Chg.refl _ _) (.inl (lowX_self _)) (x0) (x1) (x2) (x3) (x4) (x5) (x6) (x7) (x8) (x9) (x10)
        rw [hw9] at hB9 hb9 hS9 hL9 ⊢
        have d0 := hB9.cell 0
        have d1 := hB9.cell 1
        have d2 := hB9.cell 2
        have d3 := hB9.cell 3
        have d4 := hB9.cell 4
        have d5 := hB9.cell 5
        have d6 := hB9.cell 6
        have d7 := hB9.cell 7
        have d8 := hB9.cell 8
        have d9 := hB9.cell 9
        have d10 := hB9.cell 10
        simp only [List.getElem?_toArray, List.getElem?_cons_succ, List.getElem?_cons_zero] at d0 d1 d2 d3 d4 d5 d6 d7 d8 d9 d10
        exact bodyPost_ret (v := .agg #[x0, x1, x2, x3, x4, x5, x6, x7, x8, x9, x10]) (by simp [results, Tryd.results32, go_sem, d0, d1, d2, d3, d4, d5, d6, d7, d8, d9, d10]) rfl ⟨hb9, ⟨[x0, x1, x2, x3, x4, x5, x6, x7, x8, x9, x10], rfl, rfl, (hty.later hL9).wk (by omega)⟩, hS9, HFR.out⟩
      · have d2 : (t.kind == 2) = false := by simpa using h2
        by_cases h4 : t.kind = 4
        · have d4 : (t.kind == 4) = true := by simpa using h4
          obtain rfl : r = .ok (namedE 2 t) (restT (t :: tl)) := by rw [← HR.out]; unfold atomP; simp [hb, kindH_cons, posH_cons, headT_cons, h1, h2, h4]
          clear h1 h2 h4
          go_enter Tryd.func32, Tryd.ntmps32
          go_upto_region 1 with fail
          rw [HW1.out]
          go_upto_region 4 with (first | (go_at_call 33; (with_reducible refine (C1.out).mono ?_); rintro e w2 ⟨rfl, hb2⟩) | (go_at_call 18; (with_reducible refine (C2.out _ hb2).mono ?_); rintro e w3 ⟨rfl, hp3, hsw3⟩; rw [tk_cells]; (have hpw3 : Par pb W1 w3 := (Par.of_below hb2).trans hp3)))
          obtain ⟨w4, hw4⟩ : ∃ w4, w3.alloc (.cells #[.int .i64 t.kind, .string ⟨t.text.toArray⟩, .int .i64 t.num, .int .i64 t.pos] 52) = w4 := ⟨_, rfl⟩
          have hb4 : Below w3.heap.size w3 w4 := by rw [← hw4]; exact below_new' _ _
          have hx4 : Blk w4 w3.heap.size 52 #[.int .i64 t.kind, .string ⟨t.text.toArray⟩, .int .i64 t.num, .int .i64 t.pos] := by rw [← hw4]; exact Blk.new _ _ _
          rw [hw4]
          have hpw4 : Par pb W1 w4 := hpw3.trans (Par.of_below hb4)
          have hsw4 := hsw3.later hb4
          have k0 := hx4.cell 0
          have k1 := hx4.cell 1
          have k2 := hx4.cell 2
          have k3 := hx4.cell 3
          simp only [List.getElem?_toArray, List.getElem?_cons_succ, List.getElem?_cons_zero] at k0 k1 k2 k3
          clear hw4
          have hsz := HSZ.out
          have hz4 := hpw4.size
          have hl4 := hsw4.lt
          have CAL : (.agg #[.int .i64 t.kind, .string ⟨t.text.toArray⟩, .int .i64 t.num, .int .i64 t.pos] : Value) = tkV t := (tk_cells t).symm
          go_wp2_with (first | (rw [CAL]; fail) | (go_at_call 51; rw [CAL]; (with_reducible refine (CN.out 2 (ok_lit _ (by omega) (by omega)) w4 (OldX.low (by omega))).mono ?_); rintro e w5 ⟨hb5, cs, hlen, rfl, hty⟩; (obtain ⟨x0, x1, x2, x3, x4, x5, x6, x7, x8, x9, x10, rfl⟩ := eleven_of hlen); (have s0 := store_one' x0 (ex_ones' hty x0 (by simp))); (have s1 := store_one' x1 (ex_ones' hty x1 (by simp))); (have s2 := store_one' x2 (ex_ones' hty x2 (by simp))); (have s3 := store_one' x3 (ex_ones' hty x3 (by simp))); (have s4 := store_one' x4 (ex_ones' hty x4 (by simp))); (have s5 := store_one' x5 (ex_ones' hty x5 (by simp))); (have s6 := store_one' x6 (ex_ones' hty x6 (by simp))); (have s7 := store_one' x7 (ex_ones' hty x7 (by simp))); (have s8 := store_one' x8 (ex_ones' hty x8 (by simp))); (have s9 := store_one' x9 (ex_ones' hty x9 (by simp))); (have s10 := store_one' x10 (ex_ones' hty x10 (by simp))); (have hpw5 : Par pb W1 w5 := hpw4.trans (Par.of_below hb5)); (have hsw5 := hsw4.later hb5); (have hBw5 : Blk w5 W.heap.size 32 #[.int .i64 0, .string ⟨#[]⟩, .int .i64 0, .int .i64 0, .string ⟨#[]⟩, .int .i64 0, .slice none 0 0, .slice none 0 0, .slice none 0 0, .slice none 0 0, .int .i64 0] := (hpw5.block _ HRS.out.lt (by omega : ¬ W.heap.size = pb)).trans HRS.out); (have r0w5 := hBw5.cell 0); (have r1w5 := hBw5.cell 1); (have r2w5 := hBw5.cell 2); (have r3w5 := hBw5.cell 3); (have r4w5 := hBw5.cell 4); (have r5w5 := hBw5.cell 5); (have r6w5 := hBw5.cell 6); (have r7w5 := hBw5.cell 7); (have r8w5 := hBw5.cell 8); (have r9w5 := hBw5.cell 9); (have r10w5 := hBw5.cell 10); (simp only [List.getElem?_toArray, List.getElem?_cons_succ, List.getElem?_cons_zero] at r0w5 r1w5 r2w5 r3w5 r4w5 r5w5 r6w5 r7w5 r8w5 r9w5 r10w5); (have f0w5 := hBw5.frozen 0); (have f1w5 := hBw5.frozen 1); (have f2w5 := hBw5.frozen 2); (have f3w5 := hBw5.frozen 3); (have f4w5 := hBw5.frozen 4); (have f5w5 := hBw5.frozen 5); (have f6w5 := hBw5.frozen 6); (have f7w5 := hBw5.frozen 7); (have f8w5 := hBw5.frozen 8); (have f9w5 := hBw5.frozen 9); (have f10w5 := hBw5.frozen 10)))
          obtain ⟨w9, hw9⟩ : ∃ w9, (((((((((((w5).setCell ⟨W.heap.size, 0, none⟩ (x0)).setCell ⟨W.heap.size, 1, none⟩ (x1)).setCell ⟨W.heap.size, 2, none⟩ (x2)).setCell ⟨W.heap.size, 3, none⟩ (x3)).setCell ⟨W.heap.size, 4, none⟩ (x4)).setCell ⟨W.heap.size, 5, none⟩ (x5)).setCell ⟨W.heap.size, 6, none⟩ (x6)).setCell ⟨W.heap.size, 7, none⟩ (x7)).setCell ⟨W.heap.size, 8, none⟩ (x8)).setCell ⟨W.heap.size, 9, none⟩ (x9)).setCell ⟨W.heap.size, 10, none⟩ (x10) = w9 := ⟨_, rfl⟩
          have hPW := (Par.of_below (pb := pb) HN.out).trans hpw5
          have hB9 := set11 hBw5 (x0) (x1) (x2) (x3) (x4) (x5) (x6) (x7) (x8) (x9) (x10)
          have hb9 := Par.set11 hPW (Nat.le_refl _) (x0) (x1) (x2) (x3) (x4) (x5) (x6) (x7) (x8) (x9) (x10)
          have hS9 := PsAt.set11 hsw5 (g := W.heap.size) hlt (x0) (x1) (x2) (x3) (x4) (x5) (x6) (x7) (x8) (x9) (x10)
          have hL9 : Low (lowX (W.heap.size + 1)) w5 _ := Low.set11 (Chg.refl _ _) (.inl (lowX_self _)) (x0) (x1) (x2) (x3) (x4) (x5) (x6) (x7) (x8) (x9) (x10)
          rw [hw9] at hB9 hb9 hS9 hL9 ⊢
          have d0 := hB9.cell 0
          have d1 := hB9.cell 1
          have d2 := hB9.cell 2
          have d3 := hB9.cell 3
          have d4 := hB9.cell 4
          have d5 := hB9.cell 5
          have d6 := hB9.cell 6
          have d7 := hB9.cell 7
          have d8 := hB9.cell 8
          have d9 := hB9.cell 9
          have d10 := hB9.cell 10
          simp only [List.getElem?_toArray, List.getElem?_cons_succ, List.getElem?_cons_zero] at d0 d1 d2 d3 d4 d5 d6 d7 d8 d9 d10
          exact bodyPost_ret (v := .agg #[x0, x1, x2, x3, x4, x5, x6, x7, x8, x9, x10]) (by simp [results, Tryd.results32, go_sem, d0, d1, d2, d3, d4, d5, d6, d7, d8, d9, d10]) rfl ⟨hb9, ⟨[x0, x1, x2, x3, x4, x5, x6, x7, x8, x9, x10], rfl, rfl, (hty.later hL9).wk (by omega)⟩, hS9, HFR.out⟩
        · have d4 : (t.kind == 4) = false := by simpa using h4
          by_cases h3 : t.kind = 3
          · have d3 : (t.kind == 3) = true := by simpa using h3
            obtain rfl : r = .ok (exK 1 ⟨#[]⟩ t.num [] t.pos) (restT (t :: tl)) := by rw [← HR.out]; unfold atomP; simp [hb, kindH_cons, posH_cons, headT_cons, h1, h2, h4, h3]
            clear h1 h2 h4 h3
            go_enter Tryd.func32, Tryd.ntmps32
            go_upto_region 1 with fail
            rw [HW1.out]
            go_upto_region 4 with (first | (go_at_call 33; (with_reducible refine (C1.out).mono ?_); rintro e w2 ⟨rfl, hb2⟩) | (go_at_call 18; (with_reducible refine (C2.out _ hb2).mono ?_); rintro e w3 ⟨rfl, hp3, hsw3⟩; rw [tk_cells]; (have hpw3 : Par pb W1 w3 := (Par.of_below hb2).trans hp3)))
            obtain ⟨w4, hw4⟩ : ∃ w4, w3.alloc (.cells #[.int .i64 t.kind, .string ⟨t.text.toArray⟩, .int .i64 t.num, .int .i64 t.pos] 52) = w4 := ⟨_, rfl⟩
            have hb4 : Below w3.heap.size w3 w4 := by rw [← hw4]; exact below_new' _ _
            have hx4 : Blk w4 w3.heap.size 52 #[.int .i64 t.kind, .string ⟨t.text.toArray⟩, .int .i64 t.num, .int .i64 t.pos] := by rw [← hw4]; exact Blk.new _ _ _
            rw [hw4]
            have hpw4 : Par pb W1 w4 := hpw3.trans (Par.of_below hb4)
            have hsw4 := hsw3.later hb4
            have k0 := hx4.cell 0
            have k1 := hx4.cell 1
            have k2 := hx4.cell 2
            have k3 := hx4.cell 3
            simp only [List.getElem?_toArray, List.getElem?_cons_succ, List.getElem?_cons_zero] at k0 k1 k2 k3
            clear hw4
            have hsz := HSZ.out
            have hz4 := hpw4.size
            have hl4 := hsw4.lt
            have hBw4 : Blk w4 W.heap.size 32 #[.int .i64 0, .string ⟨#[]⟩, .int .i64 0, .int .i64 0, .string ⟨#[]⟩, .int .i64 0, .slice none 0 0, .slice none 0 0, .slice none 0 0, .slice none 0 0, .int .i64 0] := (hpw4.block _ HRS.out.lt (by omega : ¬ W.heap.size = pb)).trans HRS.out
            have r0w4 := hBw4.cell 0
            have r1w4 := hBw4.cell 1
            have r2w4 := hBw4.cell 2
            have r3w4 := hBw4.cell 3
            have r4w4 := hBw4.cell 4
            have r5w4 := hBw4.cell 5
            have r6w4 := hBw4.cell 6
            have r7w4 := hBw4.cell 7
            have r8w4 := hBw4.cell 8
            have r9w4 := hBw4.cell 9
            have r10w4 := hBw4.cell 10
            simp only [List.getElem?_toArray, List.getElem?_cons_succ, List.getElem?_cons_zero] at r0w4 r1w4 r2w4 r3w4 r4w4 r5w4 r6w4 r7w4 r8w4 r9w4 r10w4
            have f0w4 := hBw4.frozen 0
            have f1w4 := hBw4.frozen 1
            have f2w4 := hBw4.frozen 2
            have f3w4 := hBw4.frozen 3
            have f4w4 := hBw4.frozen 4
            have f5w4 := hBw4.frozen 5
            have f6w4 := hBw4.frozen 6
            have f7w4 := hBw4.frozen 7
            have f8w4 := hBw4.frozen 8
            have f9w4 := hBw4.frozen 9
            have f10w4 := hBw4.frozen 10
            go_wp2_with fail
            obtain ⟨w9, hw9⟩ : ∃ w9, (((((((((((w4).setCell ⟨W.heap.size, 0, none⟩ (.int .i64 1)).setCell ⟨W.heap.size, 1, none⟩ (.string ⟨#[]⟩)).setCell ⟨W.heap.size, 2, none⟩ (.int .i64 t.num)).setCell ⟨W.heap.size, 3, none⟩ (.int .i64 0)).setCell ⟨W.heap.size, 4, none⟩ (.string ⟨#[]⟩)).setCell ⟨W.heap.size, 5, none⟩ (.int .i64 0)).setCell ⟨W.heap.size, 6, none⟩ (.slice none 0 0)).setCell ⟨W.heap.size, 7, none⟩ (.slice none 0 0)).setCell ⟨W.heap.size, 8, none⟩ (.slice none 0 0)).setCell ⟨W.heap.size, 9, none⟩ (.slice none 0 0)).setCell ⟨W.heap.size, 10, none⟩ (.int .i64 t.pos) = w9 := ⟨_, rfl⟩
            have hPW := (Par.of_below (pb := pb) HN.out).trans hpw4
            have hB9 := set11 hBw4 (.int .i64 1) (.string ⟨#[]⟩) (.int .i64 t.num) (.int .i64 0) (.string ⟨#[]⟩) (.int .i64 0) (.slice none 0 0) (.slice none 0 0) (.slice none 0 0) (.slice none 0 0) (.int .i64 t.pos)
            have hb9 := Par.set11 hPW (Nat.le_refl _) (.int .i64 1) (.string ⟨#[]⟩) (.int .i64 t.num) (.int .i64 0) (.string ⟨#[]⟩) (.int .i64 0) (.slice none 0 0) (.slice none 0 0) (.slice none 0 0) (.slice none 0 0) (.int .i64 t.pos)
            have hS9 := PsAt.set11 hsw4 (g := W.heap.size) hlt (.int .i64 1) (.string ⟨#[]⟩) (.int .i64 t.num) (.int .i64 0) (.string ⟨#[]⟩) (.int .i64 0) (.slice none 0 0) (.slice none 0 0) (.slice none 0 0) (.slice none 0 0) (.int .i64 t.pos)
            have hL9 : Low (lowX (W.heap.size + 1)) w4 _ := Low.set11 (Chg.refl _ _) (.inl (lowX_self _)) (.int .i64 1) (.string ⟨#[]⟩) (.int .i64 t.num) (.int .i64 0) (.string ⟨#[]⟩) (.int .i64 0) (.slice none 0 0) (.slice none 0 0) (.slice none 0 0) (.slice none 0 0) (.int .i64 t.pos)
            rw [hw9] at hB9 hb9 hS9 hL9 ⊢
            have d0 := hB9.cell 0
            have d1 := hB9.cell 1
            have d2 := hB9.cell 2
            have d3 := hB9.cell 3
            have d4 := hB9.cell 4
            have d5 := hB9.cell 5
            have d6 := hB9.cell 6
            have d7 := hB9.cell 7
            have d8 := hB9.cell 8
            have d9 := hB9.cell 9
            have d10 := hB9.cell 10
            simp only [List.getElem?_toArray, List.getElem?_cons_succ, List.getElem?_cons_zero] at d0 d1 d2 d3 d4 d5 d6 d7 d8 d9 d10
            exact bodyPost_ret (v := .agg #[.int .i64 1, .string ⟨#[]⟩, .int .i64 t.num, .int .i64 0, .string ⟨#[]⟩, .int .i64 0, .slice none 0 0, .slice none 0 0, .slice none 0 0, .slice none 0 0, .int .i64 t.pos]) (by simp [results, Tryd.results32, go_sem, d0, d1, d2, d3, d4, d5, d6, d7, d8, d9, d10]) rfl ⟨hb9, ⟨[.int .i64 1, .string ⟨#[]⟩, .int .i64 t.num, .int .i64 0, .string ⟨#[]⟩, .int .i64 0, .slice none 0 0, .slice none 0 0, .slice none 0 0, .slice none 0 0, .int .i64 t.pos], rfl, rfl, ExM.leaf _ _ (ok_lit _ (by omega) (by omega)) (by simp [ByteArray.size]) HG.out.2.1 HPOS.out⟩, hS9, HFR.out⟩
          · have d3 : (t.kind == 3) = false := by simpa using h3
            have HK1 := Lib.hid h1
            have HK2 := Lib.hid h2
            have HK3 := Lib.hid h3
            have HK4 := Lib.hid h4
            clear h1 h2 h3 h4
            have h0 : t.kind ≠ 0 := by
              intro h0
              simp [seesAtomP, kindH, seesH, seesB, h0] at hb
            have hrl : restT (t :: tl) = tl := by simp [restT, h0]
            rw [hrl] at C2
            have HFR2 := Lib.hid (HFT.out h0)
            clear h0
            by_cases h7 : t.kind = 7
            · have d7 : (t.kind == 7) = true := by simpa using h7
              have hre : atomP E T P lv (t :: tl) = brackP E T lv t.pos tl := by unfold atomP; simp [hb, kindH_cons, posH_cons, HK1.out, HK2.out, HK3.out, HK4.out, h7, hrl]
              rw [hre] at HR
              clear h7 hre hrl
              have C3 := Lib.hid (fun W2 (hs : PsAt W2 pb tl lv) => brack_any E T HE HT t.pos HPOS.out pb lv tl W2 hs HFR2.out hlv r HR.out HO.out)
              cases r with
              | out => exact absurd rfl HO.out
              | bad c p =>
                go_enter Tryd.func32, Tryd.ntmps32
                go_upto_region 1 with fail
                rw [HW1.out]
                go_upto_region 4 with (first | (go_at_call 33; (with_reducible refine (C1.out).mono ?_); rintro e w2 ⟨rfl, hb2⟩) | (go_at_call 18; (with_reducible refine (C2.out _ hb2).mono ?_); rintro e w3 ⟨rfl, hp3, hsw3⟩; rw [tk_cells]; (have hpw3 : Par pb W1 w3 := (Par.of_below hb2).trans hp3)))
                obtain ⟨w4, hw4⟩ : ∃ w4, w3.alloc (.cells #[.int .i64 t.kind, .string ⟨t.text.toArray⟩, .int .i64 t.num, .int .i64 t.pos] 52) = w4 := ⟨_, rfl⟩
                have hb4 : Below w3.heap.size w3 w4 := by rw [← hw4]; exact below_new' _ _
                have hx4 : Blk w4 w3.heap.size 52 #[.int .i64 t.kind, .string ⟨t.text.toArray⟩, .int .i64 t.num, .int .i64 t.pos] := by rw [← hw4]; exact Blk.new _ _ _
                rw [hw4]
                have hpw4 : Par pb W1 w4 := hpw3.trans (Par.of_below hb4)
                have hsw4 := hsw3.later hb4
                have k0 := hx4.cell 0
                have k1 := hx4.cell 1
                have k2 := hx4.cell 2
                have k3 := hx4.cell 3
                simp only [List.getElem?_toArray, List.getElem?_cons_succ, List.getElem?_cons_zero] at k0 k1 k2 k3
                clear hw4
                have hsz := HSZ.out
                have hz4 := hpw4.size
                have hl4 := hsw4.lt
                go_wp2_with (go_at_call 52; (with_reducible refine (C3.out _ hsw4).mono ?_); rintro e w5 ⟨hp5, rfl⟩)
                exact ⟨rfl, (Par.of_below HN.out).trans (hpw4.trans hp5), rfl⟩
              | ok x ts2 =>
                go_enter Tryd.func32, Tryd.ntmps32
                go_upto_region 1 with fail
                rw [HW1.out]
                go_upto_region 4 with (first | (go_at_call 33; (with_reducible refine (C1.out).mono ?_); rintro e w2 ⟨rfl, hb2⟩) | (go_at_call 18; (with_reducible refine (C2.out _ hb2).mono ?_); rintro e w3 ⟨rfl, hp3, hsw3⟩; rw [tk_cells]; (have hpw3 : Par pb W1 w3 := (Par.of_below hb2).trans hp3)))
                obtain ⟨w4, hw4⟩ : ∃ w4, w3.alloc (.cells #[.int .i64 t.kind, .string ⟨t.text.toArray⟩, .int .i64 t.num, .int .i64 t.pos] 52) = w4 := ⟨_, rfl⟩
                have hb4 : Below w3.heap.size w3 w4 := by rw [← hw4]; exact below_new' _ _
                have hx4 : Blk w4 w3.heap.size 52 #[.int .i64 t.kind, .string ⟨t.text.toArray⟩, .int .i64 t.num, .int .i64 t.pos] := by rw [← hw4]; exact Blk.new _ _ _
                rw [hw4]
                have hpw4 : Par pb W1 w4 := hpw3.trans (Par.of_below hb4)
                have hsw4 := hsw3.later hb4
                have k0 := hx4.cell 0
                have k1 := hx4.cell 1
                have k2 := hx4.cell 2
                have k3 := hx4.cell 3
                simp only [List.getElem?_toArray, List.getElem?_cons_succ, List.getElem?_cons_zero] at k0 k1 k2 k3
                clear hw4
                have hsz := HSZ.out
                have hz4 := hpw4.size
                have hl4 := hsw4.lt
                go_wp2_with (go_at_call 52; (with_reducible refine (C3.out _ hsw4).mono ?_); rintro e w5 ⟨hp5, ⟨cs, hlen, rfl, hty⟩, hsw5, hf5⟩; (obtain ⟨x0, x1, x2, x3, x4, x5, x6, x7, x8, x9, x10, rfl⟩ := eleven_of hlen); (have s0 := store_one' x0 (ex_ones' hty x0 (by simp))); (have s1 := store_one' x1 (ex_ones' hty x1 (by simp))); (have s2 := store_one' x2 (ex_ones' hty x2 (by simp))); (have s3 := store_one' x3 (ex_ones' hty x3 (by simp))); (have s4 := store_one' x4 (ex_ones' hty x4 (by simp))); (have s5 := store_one' x5 (ex_ones' hty x5 (by simp))); (have s6 := store_one' x6 (ex_ones' hty x6 (by simp))); (have s7 := store_one' x7 (ex_ones' hty x7 (by simp))); (have s8 := store_one' x8 (ex_ones' hty x8 (by simp))); (have s9 := store_one' x9 (ex_ones' hty x9 (by simp))); (have s10 := store_one' x10 (ex_ones' hty x10 (by simp))); (have hpw5 : Par pb W1 w5 := hpw4.trans hp5); (have hBw5 : Blk w5 W.heap.size 32 #[.int .i64 0, .string ⟨#[]⟩, .int .i64 0, .int .i64 0, .string ⟨#[]⟩, .int .i64 0, .slice none 0 0, .slice none 0 0, .slice none 0 0, .slice none 0 0, .int .i64 0] := (hpw5.block _ HRS.out.lt (by omega : ¬ W.heap.size = pb)).trans HRS.out); (have r0w5 := hBw5.cell 0); (have r1w5 := hBw5.cell 1); (have r2w5 := hBw5.cell 2); (have r3w5 := hBw5.cell 3); (have r4w5 := hBw5.cell 4); (have r5w5 := hBw5.cell 5); (have r6w5 := hBw5.cell 6); (have r7w5 := hBw5.cell 7); (have r8w5 := hBw5.cell 8); (have r9w5 := hBw5.cell 9); (have r10w5 := hBw5.cell 10); (simp only [List.getElem?_toArray, List.getElem?_cons_succ, List.getElem?_cons_zero] at r0w5 r1w5 r2w5 r3w5 r4w5 r5w5 r6w5 r7w5 r8w5 r9w5 r10w5); (have f0w5 := hBw5.frozen 0); (have f1w5 := hBw5.frozen 1); (have f2w5 := hBw5.frozen 2); (have f3w5 := hBw5.frozen 3); (have f4w5 := hBw5.frozen 4); (have f5w5 := hBw5.frozen 5); (have f6w5 := hBw5.frozen 6); (have f7w5 := hBw5.frozen 7); (have f8w5 := hBw5.frozen 8); (have f9w5 := hBw5.frozen 9); (have f10w5 := hBw5.frozen 10))
                have hty5 := hty.wk (B' := W.heap.size + 1) (by omega)
                obtain ⟨w9, hw9⟩ : ∃ w9, (((((((((((w5).setCell ⟨W.heap.size, 0, none⟩ (x0)).setCell ⟨W.heap.size, 1, none⟩ (x1)).setCell ⟨W.heap.size, 2, none⟩ (x2)).setCell ⟨W.heap.size, 3, none⟩ (x3)).setCell ⟨W.heap.size, 4, none⟩ (x4)).setCell ⟨W.heap.size, 5, none⟩ (x5)).setCell ⟨W.heap.size, 6, none⟩ (x6)).setCell ⟨W.heap.size, 7, none⟩ (x7)).setCell ⟨W.heap.size, 8, none⟩ (x8)).setCell ⟨W.heap.size, 9, none⟩ (x9)).setCell ⟨W.heap.size, 10, none⟩ (x10) = w9 := ⟨_, rfl⟩
                have hPW := (Par.of_below (pb := pb) HN.out).trans hpw5
                have hB9 := set11 hBw5 (x0) (x1) (x2) (x3) (x4) (x5) (x6) (x7) (x8) (x9) (x10)
                have hb9 := Par.set11 hPW (Nat.le_refl _) (x0) (x1) (x2) (x3) (x4) (x5) (x6) (x7) (x8) (x9) (x10)
                have hS9 := PsAt.set11 hsw5 (g := W.heap.size) hlt (x0) (x1) (x2) (x3) (x4) (x5) (x6) (x7) (x8) (x9) (x10)
                have hL9 : Low (lowX (W.heap.size + 1)) w5 _ := Low.set11 (Chg.refl _ _) (.inl (lowX_self _)) (x0) (x1) (x2) (x3) (x4) (x5) (x6) (x7) (x8) (x9) (x10)
                rw [hw9] at hB9 hb9 hS9 hL9 ⊢
                have d0 := hB9.cell 0
                have d1 := hB9.cell 1
                have d2 := hB9.cell 2
                have d3 := hB9.cell 3
                have d4 := hB9.cell 4
                have d5 := hB9.cell 5
                have d6 := hB9.cell 6
                have d7 := hB9.cell 7
                have d8 := hB9.cell 8
                have d9 := hB9.cell 9
                have d10 := hB9.cell 10
                simp only [List.getElem?_toArray, List.getElem?_cons_succ, List.getElem?_cons_zero] at d0 d1 d2 d3 d4 d5 d6 d7 d8 d9 d10
                exact bodyPost_ret (v := .agg #[x0, x1, x2, x3, x4, x5, x6, x7, x8, x9, x10]) (by simp [results, Tryd.results32, go_sem, d0, d1, d2, d3, d4, d5, d6, d7, d8, d9, d10]) rfl ⟨hb9, ⟨[x0, x1, x2, x3, x4, x5, x6, x7, x8, x9, x10], rfl, rfl, (hty5.later hL9).wk (by omega)⟩, hS9, hf5⟩
            · have d7 : (t.kind == 7) = false := by simpa using h7
              have hre : atomP E T P lv (t :: tl) = casesP E P lv t.pos tl := by unfold atomP; simp [hb, kindH_cons, posH_cons, HK1.out, HK2.out, HK3.out, HK4.out, h7, hrl]
              rw [hre] at HR
              clear h7 hre hrl
              have C3 := Lib.hid (fun W2 (hs : PsAt W2 pb tl lv) => cases_any E P HE HP t.pos HPOS.out pb lv tl W2 hs HFR2.out hlv r HR.out HO.out)
              cases r with
              | out => exact absurd rfl HO.out
              | bad c p =>
                go_enter Tryd.func32, Tryd.ntmps32
                go_upto_region 1 with fail
                rw [HW1.out]
                go_upto_region 4 with (first | (go_at_call 33; (with_reducible refine (C1.out).mono ?_); rintro e w2 ⟨rfl, hb2⟩) | (go_at_call 18; (with_reducible refine (C2.out _ hb2).mono ?_); rintro e w3 ⟨rfl, hp3, hsw3⟩; rw [tk_cells]; (have hpw3 : Par pb W1 w3 := (Par.of_below hb2).trans hp3)))
                obtain ⟨w4, hw4⟩ : ∃ w4, w3.alloc (.cells #[.int .i64 t.kind, .string ⟨t.text.toArray⟩, .int .i64 t.num, .int .i64 t.pos] 52) = w4 := ⟨_, rfl⟩
                have hb4 : Below w3.heap.size w3 w4 := by rw [← hw4]; exact below_new' _ _
                have hx4 : Blk w4 w3.heap.size 52 #[.int .i64 t.kind, .string ⟨t.text.toArray⟩, .int .i64 t.num, .int .i64 t.pos] := by rw [← hw4]; exact Blk.new _ _ _
                rw [hw4]
                have hpw4 : Par pb W1 w4 := hpw3.trans (Par.of_below hb4)
                have hsw4 := hsw3.later hb4
                have k0 := hx4.cell 0
                have k1 := hx4.cell 1
                have k2 := hx4.cell 2
                have k3 := hx4.cell 3
                simp only [List.getElem?_toArray, List.getElem?_cons_succ, List.getElem?_cons_zero] at k0 k1 k2 k3
                clear hw4
                have hsz := HSZ.out
                have hz4 := hpw4.size
                have hl4 := hsw4.lt
                go_wp2_with (go_at_call 53; (with_reducible refine (C3.out _ hsw4).mono ?_); rintro e w5 ⟨hp5, rfl⟩)
                exact ⟨rfl, (Par.of_below HN.out).trans (hpw4.trans hp5), rfl⟩
              | ok x ts2 =>
                go_enter Tryd.func32, Tryd.ntmps32
                go_upto_region 1 with fail
                rw [HW1.out]
                go_upto_region 4 with (first | (go_at_call 33; (with_reducible refine (C1.out).mono ?_); rintro e w2 ⟨rfl, hb2⟩) | (go_at_call 18; (with_reducible refine (C2.out _ hb2).mono ?_); rintro e w3 ⟨rfl, hp3, hsw3⟩; rw [tk_cells]; (have hpw3 : Par pb W1 w3 := (Par.of_below hb2).trans hp3)))
                obtain ⟨w4, hw4⟩ : ∃ w4, w3.alloc (.cells #[.int .i64 t.kind, .string ⟨t.text.toArray⟩, .int .i64 t.num, .int .i64 t.pos] 52) = w4 := ⟨_, rfl⟩
                have hb4 : Below w3.heap.size w3 w4 := by rw [← hw4]; exact below_new' _ _
                have hx4 : Blk w4 w3.heap.size 52 #[.int .i64 t.kind, .string ⟨t.text.toArray⟩, .int .i64 t.num, .int .i64 t.pos] := by rw [← hw4]; exact Blk.new _ _ _
                rw [hw4]
                have hpw4 : Par pb W1 w4 := hpw3.trans (Par.of_below hb4)
                have hsw4 := hsw3.later hb4
                have k0 := hx4.cell 0
                have k1 := hx4.cell 1
                have k2 := hx4.cell 2
                have k3 := hx4.cell 3
                simp only [List.getElem?_toArray, List.getElem?_cons_succ, List.getElem?_cons_zero] at k0 k1 k2 k3
                clear hw4
                have hsz := HSZ.out
                have hz4 := hpw4.size
                have hl4 := hsw4.lt
                go_wp2_with (go_at_call 53; (with_reducible refine (C3.out _ hsw4).mono ?_); rintro e w5 ⟨hp5, ⟨cs, hlen, rfl, hty⟩, hsw5, hf5⟩; (obtain ⟨x0, x1, x2, x3, x4, x5, x6, x7, x8, x9, x10, rfl⟩ := eleven_of hlen); (have s0 := store_one' x0 (ex_ones' hty x0 (by simp))); (have s1 := store_one' x1 (ex_ones' hty x1 (by simp))); (have s2 := store_one' x2 (ex_ones' hty x2 (by simp))); (have s3 := store_one' x3 (ex_ones' hty x3 (by simp))); (have s4 := store_one' x4 (ex_ones' hty x4 (by simp))); (have s5 := store_one' x5 (ex_ones' hty x5 (by simp))); (have s6 := store_one' x6 (ex_ones' hty x6 (by simp))); (have s7 := store_one' x7 (ex_ones' hty x7 (by simp))); (have s8 := store_one' x8 (ex_ones' hty x8 (by simp))); (have s9 := store_one' x9 (ex_ones' hty x9 (by simp))); (have s10 := store_one' x10 (ex_ones' hty x10 (by simp))); (have hpw5 : Par pb W1 w5 := hpw4.trans hp5); (have hBw5 : Blk w5 W.heap.size 32 #[.int .i64 0, .string ⟨#[]⟩, .int .i64 0, .int .i64 0, .string ⟨#[]⟩, .int .i64 0, .slice none 0 0, .slice none 0 0, .slice none 0 0, .slice none 0 0, .int .i64 0] := (hpw5.block _ HRS.out.lt (by omega : ¬ W.heap.size = pb)).trans HRS.out); (have r0w5 := hBw5.cell 0); (have r1w5 := hBw5.cell 1); (have r2w5 := hBw5.cell 2); (have r3w5 := hBw5.cell 3); (have r4w5 := hBw5.cell 4); (have r5w5 := hBw5.cell 5); (have r6w5 := hBw5.cell 6); (have r7w5 := hBw5.cell 7); (have r8w5 := hBw5.cell 8); (have r9w5 := hBw5.cell 9); (have r10w5 := hBw5.cell 10); (simp only [List.getElem?_toArray, List.getElem?_cons_succ, List.getElem?_cons_zero] at r0w5 r1w5 r2w5 r3w5 r4w5 r5w5 r6w5 r7w5 r8w5 r9w5 r10w5); (have f0w5 := hBw5.frozen 0); (have f1w5 := hBw5.frozen 1); (have f2w5 := hBw5.frozen 2); (have f3w5 := hBw5.frozen 3); (have f4w5 := hBw5.frozen 4); (have f5w5 := hBw5.frozen 5); (have f6w5 := hBw5.frozen 6); (have f7w5 := hBw5.frozen 7); (have f8w5 := hBw5.frozen 8); (have f9w5 := hBw5.frozen 9); (have f10w5 := hBw5.frozen 10))
                have hty5 := hty.wk (B' := W.heap.size + 1) (by omega)
                obtain ⟨w9, hw9⟩ : ∃ w9, (((((((((((w5).setCell ⟨W.heap.size, 0, none⟩ (x0)).setCell ⟨W.heap.size, 1, none⟩ (x1)).setCell ⟨W.heap.size, 2, none⟩ (x2)).setCell ⟨W.heap.size, 3, none⟩ (x3)).setCell ⟨W.heap.size, 4, none⟩ (x4)).setCell ⟨W.heap.size, 5, none⟩ (x5)).setCell ⟨W.heap.size, 6, none⟩ (x6)).setCell ⟨W.heap.size, 7, none⟩ (x7)).setCell ⟨W.heap.size, 8, none⟩ (x8)).setCell ⟨W.heap.size, 9, none⟩ (x9)).setCell ⟨W.heap.size, 10, none⟩ (x10) = w9 := ⟨_, rfl⟩
                have hPW := (Par.of_below (pb := pb) HN.out).trans hpw5
                have hB9 := set11 hBw5 (x0) (x1) (x2) (x3) (x4) (x5) (x6) (x7) (x8) (x9) (x10)
                have hb9 := Par.set11 hPW (Nat.le_refl _) (x0) (x1) (x2) (x3) (x4) (x5) (x6) (x7) (x8) (x9) (x10)
                have hS9 := PsAt.set11 hsw5 (g := W.heap.size) hlt (x0) (x1) (x2) (x3) (x4) (x5) (x6) (x7) (x8) (x9) (x10)
                have hL9 : Low (lowX (W.heap.size + 1)) w5 _ := Low.set11 (Chg.refl _ _) (.inl (lowX_self _)) (x0) (x1) (x2) (x3) (x4) (x5) (x6) (x7) (x8) (x9) (x10)
                rw [hw9] at hB9 hb9 hS9 hL9 ⊢
                have d0 := hB9.cell 0
                have d1 := hB9.cell 1
                have d2 := hB9.cell 2
                have d3 := hB9.cell 3
                have d4 := hB9.cell 4
                have d5 := hB9.cell 5
                have d6 := hB9.cell 6
                have d7 := hB9.cell 7
                have d8 := hB9.cell 8
                have d9 := hB9.cell 9
                have d10 := hB9.cell 10
                simp only [List.getElem?_toArray, List.getElem?_cons_succ, List.getElem?_cons_zero] at d0 d1 d2 d3 d4 d5 d6 d7 d8 d9 d10
                exact bodyPost_ret (v := .agg #[x0, x1, x2, x3, x4, x5, x6, x7, x8, x9, x10]) (by simp [results, Tryd.results32, go_sem, d0, d1, d2, d3, d4, d5, d6, d7, d8, d9, d10]) rfl ⟨hb9, ⟨[x0, x1, x2, x3, x4, x5, x6, x7, x8, x9, x10], rfl, rfl, (hty5.later hL9).wk (by omega)⟩, hS9, hf5⟩

end Go.Proofs.YtiiddmioafhmoaaDoor
