/- Walks: brackets; names. -/
import Derived.Test.YtiiddmioafhmoaaDoorPbr
namespace Go.Proofs.YtiiddmioafhmoaaDoor
open Go.RowKit
set_option linter.unusedVariables false
set_option linter.unusedSimpArgs false
set_option maxRecDepth 100000


set_option maxHeartbeats 6400000 in
theorem brack_any (E : Nat → List Tk → Res Ex) (T : Nat → List Tk → Res Ty) (HE : LvOk rEx 11 7 E) (HT : TyOk 76 T) (q : Int) (hq : ok64 q) (pb lv : Nat) (ts : List Tk) (W : World) (h : PsAt W pb ts lv) (hf : Fine ts) (hlv : lv ≤ 300) (r : Res Ex) (hr : brackP E T lv q ts = r) (ho : r ≠ .out) :
    Calls Tryd.prog 52 #[.pointer (some ⟨pb, 0, none⟩), .int .i64 q] W (PaPost pb lv 11 rEx r W) := by
  obtain ⟨t, tl, rfl⟩ := hf.ne
  obtain ⟨W1, hW1⟩ : ∃ W1, W.alloc (.cells #[.int .i64 0, .string ⟨#[]⟩, .int .i64 0, .int .i64 0, .string ⟨#[]⟩, .int .i64 0, .slice none 0 0, .slice none 0 0, .slice none 0 0, .slice none 0 0, .int .i64 0] 32) = W1 := ⟨_, rfl⟩
  have hnew : Below W.heap.size W W1 := by rw [← hW1]; exact (Below.refl _ _).alloc (Nat.le_refl _) _
  have hres : Blk W1 W.heap.size 32 #[.int .i64 0, .string ⟨#[]⟩, .int .i64 0, .int .i64 0, .string ⟨#[]⟩, .int .i64 0, .slice none 0 0, .slice none 0 0, .slice none 0 0, .slice none 0 0, .int .i64 0] := by rw [← hW1]; exact Blk.new _ _ _
  have hs1 := h.later hnew
  have hlt := h.lt
  have hsz : W1.heap.size = W.heap.size + 1 := by rw [← hW1]; simp
  have HW1 := Lib.hid hW1
  have HN := Lib.hid hnew
  have HRS := Lib.hid hres
  have HS1 := Lib.hid hs1
  have HSZ := Lib.hid hsz
  have hp1 : Par pb W1 W1 := Chg.refl _ _
  clear hW1 hnew hres hs1 hsz h
  have HF := Lib.hid hf
  have HR := Lib.hid hr
  have HO := Lib.hid ho
  have hgood := hf.good t (by simp)
  have HSIZE := Lib.hid (show (⟨t.text.toArray⟩ : ByteArray).size ≤ 60000 by simpa [ByteArray.size] using hgood.1)
  clear hf hr ho hgood
  cases hS : seesB t sRpar with
  | true =>
    obtain rfl : r = .ok (exK 4 sUnit 0 [] q) tl := by rw [← HR.out]; unfold brackP; simp [seesH_cons, hS]
    have C1 := Lib.hid (skip_any pb lv t tl sRpar W1 HS1.out true hS)
    go_enter Tryd.func52, Tryd.ntmps52
    go_upto_region 1 with fail
    rw [HW1.out]
    go_wp2_with (go_at_call 28; (with_reducible refine (C1.out).mono ?_); rintro e w2 ⟨rfl, hp2, hsw2⟩; (have hpw2 : Par pb W1 w2 := hp2); (have hBw2 : Blk w2 W.heap.size 32 #[.int .i64 0, .string ⟨#[]⟩, .int .i64 0, .int .i64 0, .string ⟨#[]⟩, .int .i64 0, .slice none 0 0, .slice none 0 0, .slice none 0 0, .slice none 0 0, .int .i64 0] := (hpw2.block _ HRS.out.lt (by omega : ¬ W.heap.size = pb)).trans HRS.out); (have r0w2 := hBw2.cell 0); (have r1w2 := hBw2.cell 1); (have r2w2 := hBw2.cell 2); (have r3w2 := hBw2.cell 3); (have r4w2 := hBw2.cell 4); (have r5w2 := hBw2.cell 5); (have r6w2 := hBw2.cell 6); (have r7w2 := hBw2.cell 7); (have r8w2 := hBw2.cell 8); (have r9w2 := hBw2.cell 9); (have r10w2 := hBw2.cell 10); (simp only [List.getElem?_toArray, List.getElem?_cons_succ, List.getElem?_cons_zero] at r0w2 r1w2 r2w2 r3w2 r4w2 r5w2 r6w2 r7w2 r8w2 r9w2 r10w2); (have f0w2 := hBw2.frozen 0); (have f1w2 := hBw2.frozen 1); (have f2w2 := hBw2.frozen 2); (have f3w2 := hBw2.frozen 3); (have f4w2 := hBw2.frozen 4); (have f5w2 := hBw2.frozen 5); (have f6w2 := hBw2.frozen 6); (have f7w2 := hBw2.frozen 7); (have f8w2 := hBw2.frozen 8); (have f9w2 := hBw2.frozen 9); (have f10w2 := hBw2.frozen 10))
    obtain ⟨w9, hw9⟩ : ∃ w9, (((((((((((w2).setCell ⟨W.heap.size, 0, none⟩ (.int .i64 4)).setCell ⟨W.heap.size, 1, none⟩ (.string ⟨#[85, 110, 105, 116]⟩)).setCell ⟨W.heap.size, 2, none⟩ (.int .i64 0)).setCell ⟨W.heap.size, 3, none⟩ (.int .i64 0)).setCell ⟨W.heap.size, 4, none⟩ (.string ⟨#[]⟩)).setCell ⟨W.heap.size, 5, none⟩ (.int .i64 0)).setCell ⟨W.heap.size, 6, none⟩ (.slice none 0 0)).setCell ⟨W.heap.size, 7, none⟩ (.slice none 0 0)).setCell ⟨W.heap.size, 8, none⟩ (.slice none 0 0)).setCell ⟨W.heap.size, 9, none⟩ (.slice none 0 0)).setCell ⟨W.heap.size, 10, none⟩ (.int .i64 q) = w9 := ⟨_, rfl⟩
    have hPW := (Par.of_below (pb := pb) HN.out).trans hpw2
    have hB9 := set11 hBw2 (.int .i64 4) (.string ⟨#[85, 110, 105, 116]⟩) (.int .i64 0) (.int .i64 0) (.string ⟨#[]⟩) (.int .i64 0) (.slice none 0 0) (.slice none 0 0) (.slice none 0 0) (.slice none 0 0) (.int .i64 q)
    have hb9 := Par.set11 hPW (Nat.le_refl _) (.int .i64 4) (.string ⟨#[85, 110, 105, 116]⟩) (.int .i64 0) (.int .i64 0) (.string ⟨#[]⟩) (.int .i64 0) (.slice none 0 0) (.slice none 0 0) (.slice none 0 0) (.slice none 0 0) (.int .i64 q)
    have hS9 := PsAt.set11 hsw2 (g := W.heap.size) hlt (.int .i64 4) (.string ⟨#[85, 110, 105, 116]⟩) (.int .i64 0) (.int .i64 0) (.string ⟨#[]⟩) (.int .i64 0) (.slice none 0 0) (.slice none 0 0) (.slice none 0 0) (.slice none 0 0) (.int .i64 q)
    have hL9 : Low (lowX (W.heap.size + 1)) w2 _ := Low.set11 (Chg.refl _ _) (.inl (lowX_self _)) (.int .i64 4) (.string ⟨#[85, 110, 105, 116]⟩) (.int .i64 0) (.int .i64 0) (.string ⟨#[]⟩) (.int .i64 0) (.slice none 0 0) (.slice none 0 0) (.slice none 0 0) (.slice none 0 0) (.int .i64 q)
    rw [hw9] at hB9 hb9 hS9 hL9 ⊢
    have d0 := hB9.cell 0
    have d1 := hB9.cell 1
    have d2 := hB9.cell 2
    have d3 := hB9.cell 3
    have d4 := hB9.cell 4
    have d5 := hB9.cell 5
    have d6 := hB9.cell 6
    have d7 := hB9.cell 7
    have d8 := hB9.cell 8
    have d9 := hB9.cell 9
    have d10 := hB9.cell 10
    simp only [List.getElem?_toArray, List.getElem?_cons_succ, List.getElem?_cons_zero] at d0 d1 d2 d3 d4 d5 d6 d7 d8 d9 d10
    exact bodyPost_ret (v := .agg #[.int .i64 4, .string ⟨#[85, 110, 105, 116]⟩, .int .i64 0, .int .i64 0, .string ⟨#[]⟩, .int .i64 0, .slice none 0 0, .slice none 0 0, .slice none 0 0, .slice none 0 0, .int .i64 q]) (by simp [results, Tryd.results52, go_sem, d0, d1, d2, d3, d4, d5, d6, d7, d8, d9, d10]) rfl ⟨hb9, ⟨[.int .i64 4, .string ⟨#[85, 110, 105, 116]⟩, .int .i64 0, .int .i64 0, .string ⟨#[]⟩, .int .i64 0, .slice none 0 0, .slice none 0 0, .slice none 0 0, .slice none 0 0, .int .i64 q], rfl, rfl, ExM.leaf _ _ (nm := sUnit) (ok_lit _ (by omega) (by omega)) (by simp [ByteArray.size]) (ok_lit _ (by omega) (by omega)) hq⟩, hS9, (HF.out.tail_ (seesB_kind hS))⟩
  | false =>
    have C1 := Lib.hid (skip_any pb lv t tl sRpar W1 HS1.out false hS)
    have hre : brackP E T lv q (t :: tl) = (inBrP E T lv q (t :: tl)).andThen fun e ts1 => (needP sRpar ts1).andThen fun _ ts2 => .ok e ts2 := by unfold brackP; simp [seesH_cons, hS]
    rw [hre] at HR
    clear hS hre
    cases hA : inBrP E T lv q (t :: tl) with
    | out => exact absurd (by rw [← HR.out, hA]; rfl) HO.out
    | bad c p =>
      obtain rfl : r = .bad c p := by rw [← HR.out, hA]; rfl
      have C2 := Lib.hid (fun W2 (hs : PsAt W2 pb (t :: tl) lv) => inBr_any E T HE HT q hq pb lv (t :: tl) W2 hs HF.out hlv _ hA (by simp))
      go_enter Tryd.func52, Tryd.ntmps52
      go_upto_region 1 with fail
      rw [HW1.out]
      go_wp2_with (first | (go_at_call 28; (with_reducible refine (C1.out).mono ?_); rintro e w2 ⟨rfl, hp2, hsw2⟩; (have hpw2 : Par pb W1 w2 := hp2)) | (go_at_call 66; (with_reducible refine (C2.out _ hsw2).mono ?_); rintro e w3 ⟨hp3, rfl⟩))
      exact ⟨rfl, (Par.of_below HN.out).trans (hpw2.trans hp3), rfl⟩
    | ok x ts1 =>
      have C2 := Lib.hid (fun W2 (hs : PsAt W2 pb (t :: tl) lv) => inBr_any E T HE HT q hq pb lv (t :: tl) W2 hs HF.out hlv _ hA (by simp))
      have hre : r = (needP sRpar ts1).andThen fun _ ts2 => .ok x ts2 := by rw [← HR.out, hA]; rfl
      cases hS : seesH sRpar ts1 with
      | false =>
        obtain rfl : r = .bad 110 (posH ts1) := by rw [hre]; simp [needP, hS, Res.andThen]
        have C3 := Lib.hid (fun (v : Tk) (tq : List Tk) (hS : seesH sRpar (v :: tq) = false) W2 (hs : PsAt W2 pb (v :: tq) lv) => need_no pb lv v tq sRpar W2 hs hS)
        clear hA hre
        go_enter Tryd.func52, Tryd.ntmps52
        go_upto_region 1 with fail
        rw [HW1.out]
        go_wp2_with (first | (go_at_call 28; (with_reducible refine (C1.out).mono ?_); rintro e w2 ⟨rfl, hp2, hsw2⟩; (have hpw2 : Par pb W1 w2 := hp2)) | (go_at_call 66; (with_reducible refine (C2.out _ hsw2).mono ?_); rintro e w3 ⟨hp3, ⟨cs, hlen, rfl, hty⟩, hsw3, hf3⟩; (obtain ⟨x0, x1, x2, x3, x4, x5, x6, x7, x8, x9, x10, rfl⟩ := eleven_of hlen); (have s0 := store_one' x0 (ex_ones' hty x0 (by simp))); (have s1 := store_one' x1 (ex_ones' hty x1 (by simp))); (have s2 := store_one' x2 (ex_ones' hty x2 (by simp))); (have s3 := store_one' x3 (ex_ones' hty x3 (by simp))); (have s4 := store_one' x4 (ex_ones' hty x4 (by simp))); (have s5 := store_one' x5 (ex_ones' hty x5 (by simp))); (have s6 := store_one' x6 (ex_ones' hty x6 (by simp))); (have s7 := store_one' x7 (ex_ones' hty x7 (by simp))); (have s8 := store_one' x8 (ex_ones' hty x8 (by simp))); (have s9 := store_one' x9 (ex_ones' hty x9 (by simp))); (have s10 := store_one' x10 (ex_ones' hty x10 (by simp))); (obtain ⟨v, tq, rfl⟩ := hf3.ne); (have hpw3 : Par pb W1 w3 := hpw2.trans hp3)) | (go_at_call 47; (with_reducible refine (C3.out _ _ hS _ (hsw3.later (below_new' _ _))).mono ?_); rintro e w5 ⟨rfl, hp5⟩))
        exact ⟨rfl, (Par.of_below HN.out).trans ((hpw3.trans (Par.of_below (below_new' _ _))).trans hp5), rfl⟩
      | true =>
        obtain rfl : r = .ok x ts1.tail := by rw [hre]; simp [needP, hS, Res.andThen]
        have C3 := Lib.hid (fun (v : Tk) (tq : List Tk) (hS : seesH sRpar (v :: tq) = true) W2 (hs : PsAt W2 pb (v :: tq) lv) => need_yes pb lv v tq sRpar W2 hs hS)
        clear hA hre
        go_enter Tryd.func52, Tryd.ntmps52
        go_upto_region 1 with fail
        rw [HW1.out]
        go_wp2_with (first | (go_at_call 28; (with_reducible refine (C1.out).mono ?_); rintro e w2 ⟨rfl, hp2, hsw2⟩; (have hpw2 : Par pb W1 w2 := hp2)) | (go_at_call 66; (with_reducible refine (C2.out _ hsw2).mono ?_); rintro e w3 ⟨hp3, ⟨cs, hlen, rfl, hty⟩, hsw3, hf3⟩; (obtain ⟨x0, x1, x2, x3, x4, x5, x6, x7, x8, x9, x10, rfl⟩ := eleven_of hlen); (have s0 := store_one' x0 (ex_ones' hty x0 (by simp))); (have s1 := store_one' x1 (ex_ones' hty x1 (by simp))); (have s2 := store_one' x2 (ex_ones' hty x2 (by simp))); (have s3 := store_one' x3 (ex_ones' hty x3 (by simp))); (have s4 := store_one' x4 (ex_ones' hty x4 (by simp))); (have s5 := store_one' x5 (ex_ones' hty x5 (by simp))); (have s6 := store_one' x6 (ex_ones' hty x6 (by simp))); (have s7 := store_one' x7 (ex_ones' hty x7 (by simp))); (have s8 := store_one' x8 (ex_ones' hty x8 (by simp))); (have s9 := store_one' x9 (ex_ones' hty x9 (by simp))); (have s10 := store_one' x10 (ex_ones' hty x10 (by simp))); (obtain ⟨v, tq, rfl⟩ := hf3.ne); (have hpw3 : Par pb W1 w3 := hpw2.trans hp3)) | (go_at_call 47; (with_reducible refine (C3.out _ _ hS _ (hsw3.later (below_new' _ _))).mono ?_); rintro e w5 ⟨rfl, hp5, hsw5⟩; (have hx5 : Blk w5 w3.heap.size 32 #[x0, x1, x2, x3, x4, x5, x6, x7, x8, x9, x10] := (hp5.block _ (Blk.new w3 32 #[x0, x1, x2, x3, x4, x5, x6, x7, x8, x9, x10]).lt (by have := hsw3.lt; omega)).trans (Blk.new w3 32 #[x0, x1, x2, x3, x4, x5, x6, x7, x8, x9, x10])); (have u0 := hx5.cell 0); (have u1 := hx5.cell 1); (have u2 := hx5.cell 2); (have u3 := hx5.cell 3); (have u4 := hx5.cell 4); (have u5 := hx5.cell 5); (have u6 := hx5.cell 6); (have u7 := hx5.cell 7); (have u8 := hx5.cell 8); (have u9 := hx5.cell 9); (have u10 := hx5.cell 10); (simp only [List.getElem?_toArray, List.getElem?_cons_succ, List.getElem?_cons_zero] at u0 u1 u2 u3 u4 u5 u6 u7 u8 u9 u10); (have hpw5 : Par pb W1 w5 := (hpw3.trans (Par.of_below (below_new' _ _))).trans hp5); (have hBw5 : Blk w5 W.heap.size 32 #[.int .i64 0, .string ⟨#[]⟩, .int .i64 0, .int .i64 0, .string ⟨#[]⟩, .int .i64 0, .slice none 0 0, .slice none 0 0, .slice none 0 0, .slice none 0 0, .int .i64 0] := (hpw5.block _ HRS.out.lt (by omega : ¬ W.heap.size = pb)).trans HRS.out); (have r0w5 := hBw5.cell 0); (have r1w5 := hBw5.cell 1); (have r2w5 := hBw5.cell 2); (have r3w5 := hBw5.cell 3); (have r4w5 := hBw5.cell 4); (have r5w5 := hBw5.cell 5); (have r6w5 := hBw5.cell 6); (have r7w5 := hBw5.cell 7); (have r8w5 := hBw5.cell 8); (have r9w5 := hBw5.cell 9); (have r10w5 := hBw5.cell 10); (simp only [List.getElem?_toArray, List.getElem?_cons_succ, List.getElem?_cons_zero] at r0w5 r1w5 r2w5 r3w5 r4w5 r5w5 r6w5 r7w5 r8w5 r9w5 r10w5); (have f0w5 := hBw5.frozen 0); (have f1w5 := hBw5.frozen 1); (have f2w5 := hBw5.frozen 2); (have f3w5 := hBw5.frozen 3); (have f4w5 := hBw5.frozen 4); (have f5w5 := hBw5.frozen 5); (have f6w5 := hBw5.frozen 6); (have f7w5 := hBw5.frozen 7); (have f8w5 := hBw5.frozen 8); (have f9w5 := hBw5.frozen 9); (have f10w5 := hBw5.frozen 10)))
        have hsz := HSZ.out
        have hz1 := hpw2.size
        have hty5 : rEx.M (lowX (W.heap.size + 1)) w5 [x0, x1, x2, x3, x4, x5, x6, x7, x8, x9, x10] x := ((hty.wk (B' := W.heap.size + 1) (by omega)).later (Low.of_below (below_new' w3 (.cells #[x0, x1, x2, x3, x4, x5, x6, x7, x8, x9, x10] 32)))).later (Low.of_par hp5 (by omega))
        obtain ⟨w9, hw9⟩ : ∃ w9, (((((((((((w5).setCell ⟨W.heap.size, 0, none⟩ (x0)).setCell ⟨W.heap.size, 1, none⟩ (x1)).setCell ⟨W.heap.size, 2, none⟩ (x2)).setCell ⟨W.heap.size, 3, none⟩ (x3)).setCell ⟨W.heap.size, 4, none⟩ (x4)).setCell ⟨W.heap.size, 5, none⟩ (x5)).setCell ⟨W.heap.size, 6, none⟩ (x6)).setCell ⟨W.heap.size, 7, none⟩ (x7)).setCell ⟨W.heap.size, 8, none⟩ (x8)).setCell ⟨W.heap.size, 9, none⟩ (x9)).setCell ⟨W.heap.size, 10, none⟩ (x10) = w9 := ⟨_, rfl⟩
        have hPW := (Par.of_below (pb := pb) HN.out).trans hpw5
        have hB9 := set11 hBw5 (x0) (x1) (x2) (x3) (x4) (x5) (x6) (x7) (x8) (x9) (x10)
        have hb9 := Par.set11 hPW (Nat.le_refl _) (x0) (x1) (x2) (x3) (x4) (x5) (x6) (x7) (x8) (x9) (x10)
        have hS9 := PsAt.set11 hsw5 (g := W.heap.size) hlt (x0) (x1) (x2) (x3) (x4) (x5) (x6) (x7) (x8) (x9) (x10)
        have hL9 : Low (lowX (W.heap.size + 1)) w5 _ := Low.set11 (Chg.refl _ _) (.inl (lowX_self _)) (x0) (x1) (x2) (x3) (x4) (x5) (x6) (x7) (x8) (x9) (x10)
        rw [hw9] at hB9 hb9 hS9 hL9 ⊢
        have d0 := hB9.cell 0
        have d1 := hB9.cell 1
        have d2 := hB9.cell 2
        have d3 := hB9.cell 3
        have d4 := hB9.cell 4
        have d5 := hB9.cell 5
        have d6 := hB9.cell 6
        have d7 := hB9.cell 7
        have d8 := hB9.cell 8
        have d9 := hB9.cell 9
        have d10 := hB9.cell 10
        simp only [List.getElem?_toArray, List.getElem?_cons_succ, List.getElem?_cons_zero] at d0 d1 d2 d3 d4 d5 d6 d7 d8 d9 d10
        exact bodyPost_ret (v := .agg #[x0, x1, x2, x3, x4, x5, x6, x7, x8, x9, x10]) (by simp [results, Tryd.results52, go_sem, d0, d1, d2, d3, d4, d5, d6, d7, d8, d9, d10]) rfl ⟨hb9, ⟨[x0, x1, x2, x3, x4, x5, x6, x7, x8, x9, x10], rfl, rfl, (hty5.later hL9).wk (by omega)⟩, hS9, (hf3.sees hS)⟩

def nameP (ts : List Tk) : Res Tk := if seesH sLpar ts then (kindP 5 ts.tail).andThen fun op ts2 => (needP sRpar ts2).andThen fun _ ts3 => .ok ⟨op.kind, op.text, op.num, posH ts⟩ ts3 else kindP 1 ts
def TkPost (pb lv : Nat) (r : Res Tk) (W : World) (e : Ending) (W' : World) : Prop :=
  Par pb W W' ∧ match r with
  | .ok t ts => e = .returned (tkV t) ∧ PsAt W' pb ts lv ∧ Fine ts ∧ t.text.length ≤ 60000 ∧ ok64 t.num ∧ t.pos ≤ 60000
  | .bad c p => e = diagE c p
  | .out => True
theorem seesB_rest {t : Tk} {ts : List Tk} {s : ByteArray} (h : seesB t s = true) : restT (t :: ts) = ts := by
  unfold restT; simp [seesB_kind h]
set_option maxHeartbeats 3200000 in
theorem name_any (pb lv : Nat) (ts : List Tk) (W : World) (h : PsAt W pb ts lv) (hf : Fine ts) (r : Res Tk) (hr : nameP ts = r) :
    Calls Tryd.prog 65 #[.pointer (some ⟨pb, 0, none⟩)] W (TkPost pb lv r W) := by
  obtain ⟨t, tl, rfl⟩ := hf.ne
  obtain ⟨W1, hW1⟩ : ∃ W1, W.alloc (.cells #[.int .i64 0, .string ⟨#[]⟩, .int .i64 0, .int .i64 0] 52) = W1 := ⟨_, rfl⟩
  have hnew : Below W.heap.size W W1 := by rw [← hW1]; exact (Below.refl _ _).alloc (Nat.le_refl _) _
  have hres : Blk W1 W.heap.size 52 #[.int .i64 0, .string ⟨#[]⟩, .int .i64 0, .int .i64 0] := by rw [← hW1]; exact Blk.new _ _ _
  have hs1 := h.later hnew
  have hlt := h.lt
  have hsz : W1.heap.size = W.heap.size + 1 := by rw [← hW1]; simp
  have HW1 := Lib.hid hW1
  have HN := Lib.hid hnew
  have HRS := Lib.hid hres
  have HS1 := Lib.hid hs1
  have HSZ := Lib.hid hsz
  have hp1 : Par pb W1 W1 := Chg.refl _ _
  clear hW1 hnew hres hs1 hsz h
  have HF := Lib.hid hf
  have HR := Lib.hid hr
  clear hf hr
  have hf3 := field_tk3
  have hbx : Blk W1 W.heap.size 52 #[.int .i64 0, .string ⟨#[]⟩, .int .i64 0, .int .i64 0] := HRS.out
  cases hS : seesB t sLpar with
  | false =>
    have C1 := Lib.hid (sees_any pb lv t tl sLpar W1 HS1.out false hS)
    have hre : nameP (t :: tl) = kindP 1 (t :: tl) := by unfold nameP; simp [seesH_cons, hS]
    rw [hre] at HR
    clear hS hre
    by_cases h1 : t.kind = 1
    · obtain rfl : r = .ok t (restT (t :: tl)) := by rw [← HR.out]; unfold kindP; simp [kindH_cons, h1, headT_cons]
      have C2 := Lib.hid (fun W2 (hs : PsAt W2 pb (t :: tl) lv) => needKind_yes pb lv t tl 1 W2 hs h1)
      have hgood := HF.out.good t (by simp)
      clear h1
      go_enter Tryd.func65, Tryd.ntmps65
      go_upto_region 1 with fail
      rw [HW1.out]
      go_wp2_with (first | (go_at_call 45; (with_reducible refine (C1.out).mono ?_); rintro e w2 ⟨rfl, hb2⟩; (have hpw2 : Par pb W1 w2 := Par.of_below hb2); (have hsw2 := HS1.out.later hb2)) | (go_at_call 10; (with_reducible refine (C2.out _ hsw2).mono ?_); rintro e w3 ⟨rfl, hp3, hsw3⟩; rw [tk_cells]; (have hpw3 : Par pb W1 w3 := hpw2.trans hp3); (have hBw3 : Blk w3 W.heap.size 52 #[.int .i64 0, .string ⟨#[]⟩, .int .i64 0, .int .i64 0] := (hpw3.block _ HRS.out.lt (by omega : ¬ W.heap.size = pb)).trans HRS.out); (have r0w3 := hBw3.cell 0); (have r1w3 := hBw3.cell 1); (have r2w3 := hBw3.cell 2); (have r3w3 := hBw3.cell 3); (simp only [List.getElem?_toArray, List.getElem?_cons_succ, List.getElem?_cons_zero] at r0w3 r1w3 r2w3 r3w3); (have f0w3 := hBw3.frozen 0); (have f1w3 := hBw3.frozen 1); (have f2w3 := hBw3.frozen 2); (have f3w3 := hBw3.frozen 3)))
      obtain ⟨w9, hw9⟩ : ∃ w9, (((w3.setCell ⟨W.heap.size, 0, none⟩ (.int .i64 t.kind)).setCell ⟨W.heap.size, 1, none⟩ (.string ⟨t.text.toArray⟩)).setCell ⟨W.heap.size, 2, none⟩ (.int .i64 t.num)).setCell ⟨W.heap.size, 3, none⟩ (.int .i64 t.pos) = w9 := ⟨_, rfl⟩
      have hPW := (Par.of_below (pb := pb) HN.out).trans hpw3
      have hB9 := four_set' hBw3 (.int .i64 t.kind) (.string ⟨t.text.toArray⟩) (.int .i64 t.num) (.int .i64 t.pos)
      have hb9 := Par.four hPW (Nat.le_refl _) (.int .i64 t.kind) (.string ⟨t.text.toArray⟩) (.int .i64 t.num) (.int .i64 t.pos)
      have hS9 := hsw3.four (g := W.heap.size) hlt (.int .i64 t.kind) (.string ⟨t.text.toArray⟩) (.int .i64 t.num) (.int .i64 t.pos)
      rw [hw9] at hB9 hb9 hS9 ⊢
      have d0 := hB9.cell 0
      have d1 := hB9.cell 1
      have d2 := hB9.cell 2
      have d3 := hB9.cell 3
      simp only [List.getElem?_toArray, List.getElem?_cons_succ, List.getElem?_cons_zero] at d0 d1 d2 d3
      exact bodyPost_ret (v := .agg #[.int .i64 t.kind, .string ⟨t.text.toArray⟩, .int .i64 t.num, .int .i64 t.pos]) (by simp [results, Tryd.results65, go_sem, d0, d1, d2, d3]) rfl ⟨hb9, by rw [tk_cells], hS9, HF.out.rest, hgood.1, hgood.2.1, hgood.2.2⟩
    · obtain rfl : r = .bad 110 t.pos := by rw [← HR.out]; unfold kindP; simp [kindH_cons, h1, posH_cons]
      have C2 := Lib.hid (fun W2 (hs : PsAt W2 pb (t :: tl) lv) => needKind_no pb lv t tl 1 W2 hs h1)
      go_enter Tryd.func65, Tryd.ntmps65
      go_upto_region 1 with fail
      rw [HW1.out]
      go_wp2_with (first | (go_at_call 45; (with_reducible refine (C1.out).mono ?_); rintro e w2 ⟨rfl, hb2⟩; (have hpw2 : Par pb W1 w2 := Par.of_below hb2); (have hsw2 := HS1.out.later hb2)) | (go_at_call 10; (with_reducible refine (C2.out _ hsw2).mono ?_); rintro e w3 ⟨rfl, hp3⟩))
      exact ⟨rfl, (Par.of_below HN.out).trans (hpw2.trans hp3), rfl⟩
  | true =>
    have C1 := Lib.hid (sees_any pb lv t tl sLpar W1 HS1.out true hS)
    have C2 := Lib.hid (fun W2 (hs : PsAt W2 pb (t :: tl) lv) => take_any pb lv t tl W2 hs)
    rw [seesB_rest hS] at C2
    have HF2 := Lib.hid (HF.out.tail_ (seesB_kind hS))
    have hre : nameP (t :: tl) = (kindP 5 tl).andThen fun op ts2 => (needP sRpar ts2).andThen fun _ ts3 => .ok ⟨op.kind, op.text, op.num, t.pos⟩ ts3 := by unfold nameP; simp [seesH_cons, hS, posH_cons]
    rw [hre] at HR
    have hpos := (HF.out.good t (by simp)).2.2
    clear hS hre
    obtain ⟨v, tq, rfl⟩ := HF2.out.ne
    by_cases h5 : v.kind = 5
    · have C3 := Lib.hid (fun W2 (hs : PsAt W2 pb (v :: tq) lv) => needKind_yes pb lv v tq 5 W2 hs h5)
      have hk : kindP 5 (v :: tq) = .ok v tq := by unfold kindP; simp [kindH_cons, h5, headT_cons, restT]
      rw [show restT (v :: tq) = tq by simp [restT, h5]] at C3
      rw [hk] at HR
      have HF3 := Lib.hid (HF2.out.tail_ (show v.kind ≠ 0 by omega))
      have hgood := HF2.out.good v (by simp)
      clear hk h5
      obtain ⟨u, tr, rfl⟩ := HF3.out.ne
      cases hS : seesB u sRpar with
      | false =>
        obtain rfl : r = .bad 110 u.pos := by rw [← HR.out]; simp [needP, seesH_cons, hS, Res.andThen, posH_cons]
        have C4 := Lib.hid (fun W2 (hs : PsAt W2 pb (u :: tr) lv) => need_no pb lv u tr sRpar W2 hs hS)
        go_enter Tryd.func65, Tryd.ntmps65
        go_upto_region 1 with fail
        rw [HW1.out]
        go_wp2_with (first | (go_at_call 45; (with_reducible refine (C1.out).mono ?_); rintro e w2 ⟨rfl, hb2⟩; (have hpw2 : Par pb W1 w2 := Par.of_below hb2); (have hsw2 := HS1.out.later hb2)) | (go_at_call 18; (with_reducible refine (C2.out _ hsw2).mono ?_); rintro e w3 ⟨rfl, hp3, hsw3⟩; rw [tk_cells]; (have hpw3 : Par pb W1 w3 := hpw2.trans hp3)) | (go_at_call 10; (with_reducible refine (C3.out _ hsw3).mono ?_); rintro e w4 ⟨rfl, hp4, hsw4⟩; rw [tk_cells]; (have hpw4 : Par pb W1 w4 := hpw3.trans hp4)) | (go_at_call 47; (with_reducible refine (C4.out _ (hsw4.later (below_new' _ _))).mono ?_); rintro e w5 ⟨rfl, hp5⟩))
        exact ⟨rfl, (Par.of_below HN.out).trans ((hpw4.trans (Par.of_below (below_new' _ _))).trans hp5), rfl⟩
      | true =>
        obtain rfl : r = .ok ⟨v.kind, v.text, v.num, t.pos⟩ tr := by rw [← HR.out]; simp [needP, seesH_cons, hS, Res.andThen]
        have C4 := Lib.hid (fun W2 (hs : PsAt W2 pb (u :: tr) lv) => need_yes pb lv u tr sRpar W2 hs hS)
        go_enter Tryd.func65, Tryd.ntmps65
        go_upto_region 1 with fail
        rw [HW1.out]
        go_upto_region 6 with (first | (go_at_call 45; (with_reducible refine (C1.out).mono ?_); rintro e w2 ⟨rfl, hb2⟩; (have hpw2 : Par pb W1 w2 := Par.of_below hb2); (have hsw2 := HS1.out.later hb2)) | (go_at_call 18; (with_reducible refine (C2.out _ hsw2).mono ?_); rintro e w3 ⟨rfl, hp3, hsw3⟩; rw [tk_cells]; (have hpw3 : Par pb W1 w3 := hpw2.trans hp3)) | (go_at_call 10; (with_reducible refine (C3.out _ hsw3).mono ?_); rintro e w4 ⟨rfl, hp4, hsw4⟩; rw [tk_cells]; (have hpw4 : Par pb W1 w4 := hpw3.trans hp4)) | (go_at_call 47; (with_reducible refine (C4.out _ (hsw4.later (below_new' _ _))).mono ?_); rintro e w5 ⟨rfl, hp5, hsw5⟩; (have hx5 : Blk w5 w4.heap.size 52 #[.int .i64 v.kind, .string ⟨v.text.toArray⟩, .int .i64 v.num, .int .i64 v.pos] := (hp5.block _ (Blk.new w4 52 #[.int .i64 v.kind, .string ⟨v.text.toArray⟩, .int .i64 v.num, .int .i64 v.pos]).lt (by have := hsw4.lt; omega)).trans (Blk.new w4 52 #[.int .i64 v.kind, .string ⟨v.text.toArray⟩, .int .i64 v.num, .int .i64 v.pos])); (have u0 := hx5.cell 0); (have u1 := hx5.cell 1); (have u2 := hx5.cell 2); (have u3 := hx5.cell 3); (simp only [List.getElem?_toArray, List.getElem?_cons_succ, List.getElem?_cons_zero] at u0 u1 u2 u3); (have g3 := hx5.frozen 3); (have hpw5 : Par pb W1 w5 := (hpw4.trans (Par.of_below (below_new' _ _))).trans hp5)))
        obtain ⟨w6, hw6⟩ : ∃ w6, w5.setCell ⟨w4.heap.size, 3, none⟩ (.int .i64 t.pos) = w6 := ⟨_, rfl⟩
        have hz4 := hpw4.size
        have hsz := HSZ.out
        have hl4 := hsw4.lt
        have hx6 : Blk w6 w4.heap.size 52 #[.int .i64 v.kind, .string ⟨v.text.toArray⟩, .int .i64 v.num, .int .i64 t.pos] := by rw [← hw6]; simpa using hx5.set_ 3 (.int .i64 t.pos)
        have hpw6 : Par pb W1 w6 := by rw [← hw6]; exact hpw5.set_ (p := ⟨w4.heap.size, 3, none⟩) (.inr (by show W1.heap.size ≤ w4.heap.size; omega)) _
        have hsw6 : PsAt w6 pb tr lv := by
          rw [← hw6]
          obtain ⟨A, cap, q1, q2, q3, q4⟩ := hsw5.ex
          exact ⟨A, cap, q1.far (p := ⟨w4.heap.size, 3, none⟩) (by show pb ≠ w4.heap.size; omega) _, q2, q3, q4.keep fun p hp => World.cell?_of_block (w := w5) (Below.heap_setCell _ _ _ _ (by show p.block ≠ w4.heap.size; omega))⟩
        have k0 := hx6.cell 0
        have k1 := hx6.cell 1
        have k2 := hx6.cell 2
        have k3 := hx6.cell 3
        simp only [List.getElem?_toArray, List.getElem?_cons_succ, List.getElem?_cons_zero] at k0 k1 k2 k3
        have hBw6 : Blk w6 W.heap.size 52 #[.int .i64 0, .string ⟨#[]⟩, .int .i64 0, .int .i64 0] := (hpw6.block _ HRS.out.lt (by omega : ¬ W.heap.size = pb)).trans HRS.out
        have r0w6 := hBw6.cell 0
        have r1w6 := hBw6.cell 1
        have r2w6 := hBw6.cell 2
        have r3w6 := hBw6.cell 3
        simp only [List.getElem?_toArray, List.getElem?_cons_succ, List.getElem?_cons_zero] at r0w6 r1w6 r2w6 r3w6
        have f0w6 := hBw6.frozen 0
        have f1w6 := hBw6.frozen 1
        have f2w6 := hBw6.frozen 2
        have f3w6 := hBw6.frozen 3
        go_wp2_with fail
        obtain ⟨w9, hw9⟩ : ∃ w9, (((w6.setCell ⟨W.heap.size, 0, none⟩ (.int .i64 v.kind)).setCell ⟨W.heap.size, 1, none⟩ (.string ⟨v.text.toArray⟩)).setCell ⟨W.heap.size, 2, none⟩ (.int .i64 v.num)).setCell ⟨W.heap.size, 3, none⟩ (.int .i64 t.pos) = w9 := ⟨_, rfl⟩
        have hPW := (Par.of_below (pb := pb) HN.out).trans hpw6
        have hB9 := four_set' hBw6 (.int .i64 v.kind) (.string ⟨v.text.toArray⟩) (.int .i64 v.num) (.int .i64 t.pos)
        have hb9 := Par.four hPW (Nat.le_refl _) (.int .i64 v.kind) (.string ⟨v.text.toArray⟩) (.int .i64 v.num) (.int .i64 t.pos)
        have hS9 := hsw6.four (g := W.heap.size) hlt (.int .i64 v.kind) (.string ⟨v.text.toArray⟩) (.int .i64 v.num) (.int .i64 t.pos)
        rw [hw9] at hB9 hb9 hS9 ⊢
        have d0 := hB9.cell 0
        have d1 := hB9.cell 1
        have d2 := hB9.cell 2
        have d3 := hB9.cell 3
        simp only [List.getElem?_toArray, List.getElem?_cons_succ, List.getElem?_cons_zero] at d0 d1 d2 d3
        exact bodyPost_ret (v := .agg #[.int .i64 v.kind, .string ⟨v.text.toArray⟩, .int .i64 v.num, .int .i64 t.pos]) (by simp [results, Tryd.results65, go_sem, d0, d1, d2, d3]) rfl ⟨hb9, by rw [tk_cells], hS9, HF3.out.tail_ (seesB_kind hS), hgood.1, hgood.2.1, hpos⟩
    · obtain rfl : r = .bad 110 v.pos := by rw [← HR.out]; unfold kindP; simp [kindH_cons, h5, posH_cons, Res.andThen]
      have C3 := Lib.hid (fun W2 (hs : PsAt W2 pb (v :: tq) lv) => needKind_no pb lv v tq 5 W2 hs h5)
      go_enter Tryd.func65, Tryd.ntmps65
      go_upto_region 1 with fail
      rw [HW1.out]
      go_wp2_with (first | (go_at_call 45; (with_reducible refine (C1.out).mono ?_); rintro e w2 ⟨rfl, hb2⟩; (have hpw2 : Par pb W1 w2 := Par.of_below hb2); (have hsw2 := HS1.out.later hb2)) | (go_at_call 18; (with_reducible refine (C2.out _ hsw2).mono ?_); rintro e w3 ⟨rfl, hp3, hsw3⟩; rw [tk_cells]; (have hpw3 : Par pb W1 w3 := hpw2.trans hp3)) | (go_at_call 10; (with_reducible refine (C3.out _ hsw3).mono ?_); rintro e w4 ⟨rfl, hp4⟩))
      exact ⟨rfl, (Par.of_below HN.out).trans (hpw3.trans hp4), rfl⟩

end Go.Proofs.YtiiddmioafhmoaaDoor
