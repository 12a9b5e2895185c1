/- Walks: expressions in brackets. -/
import Derived.Test.YtiiddmioafhmoaaDoorPinf
namespace Go.Proofs.YtiiddmioafhmoaaDoor
open Go.RowKit
set_option linter.unusedVariables false
set_option linter.unusedSimpArgs false
set_option maxRecDepth 100000

abbrev sColon : ByteArray := ⟨#[58]⟩
def inBrP (E : Nat → List Tk → Res Ex) (T : Nat → List Tk → Res Ty) (lv : Nat) (q : Int) (ts : List Tk) : Res Ex :=
  if kindH ts = 5 then .ok (exK 3 (bytesOf (headT ts)) 0 [] q) (restT ts) else
  (E lv ts).andThen fun e ts1 => if seesH sColon ts1 then (T lv ts1.tail).andThen fun t ts2 => .ok (.mk 12 ⟨#[]⟩ 0 t [e] [] [] q) ts2 else .ok e ts1
def brackP (E : Nat → List Tk → Res Ex) (T : Nat → List Tk → Res Ty) (lv : Nat) (q : Int) (ts : List Tk) : Res Ex :=
  if seesH sRpar ts then .ok (exK 4 sUnit 0 [] q) ts.tail else
  (inBrP E T lv q ts).andThen fun e ts1 => (needP sRpar ts1).andThen fun _ ts2 => .ok e ts2
def twoX (g pb : Nat) : Nat → Bool := fun k => k == g || k == pb
theorem twoX_no {g pb k : Nat} (h : k ≠ g) (h2 : k ≠ pb) : twoX g pb k = false := by simp [twoX, h, h2]
theorem twoX_g (g pb : Nat) : twoX g pb g = true := by simp [twoX]
theorem twoX_p (g pb : Nat) : twoX g pb pb = true := by simp [twoX]
theorem Low.par_ {g pb : Nat} {W w w' : World} (h : Low (twoX g pb) W w) (hp : Par pb w w') : Low (twoX g pb) W w' := h.trans (hp.mono fun k _ hk => by subst hk; exact twoX_p _ _)
theorem Par.below_ {pb : Nat} {W w w' : World} (h : Par pb W w) (hb : Below w.heap.size w w') : Par pb W w' := h.trans (Par.of_below hb)

set_option maxHeartbeats 6400000 in
theorem inBr_any (E : Nat → List Tk → Res Ex) (T : Nat → List Tk → Res Ty) (HE : LvOk rEx 11 7 E) (HT : TyOk 76 T) (q : Int) (hq : ok64 q) (pb lv : Nat) (ts : List Tk) (W : World) (h : PsAt W pb ts lv) (hf : Fine ts) (hlv : lv ≤ 300) (r : Res Ex) (hr : inBrP E T lv q ts = r) (ho : r ≠ .out) :
    Calls Tryd.prog 66 #[.pointer (some ⟨pb, 0, none⟩), .int .i64 q] W (PaPost pb lv 11 rEx r W) := by
  obtain ⟨t, tl, rfl⟩ := hf.ne
  obtain ⟨W1, hW1⟩ : ∃ W1, W.alloc (.cells #[.int .i64 0, .string ⟨#[]⟩, .int .i64 0, .int .i64 0, .string ⟨#[]⟩, .int .i64 0, .slice none 0 0, .slice none 0 0, .slice none 0 0, .slice none 0 0, .int .i64 0] 32) = W1 := ⟨_, rfl⟩
  have hnew : Below W.heap.size W W1 := by rw [← hW1]; exact (Below.refl _ _).alloc (Nat.le_refl _) _
  have hres : Blk W1 W.heap.size 32 #[.int .i64 0, .string ⟨#[]⟩, .int .i64 0, .int .i64 0, .string ⟨#[]⟩, .int .i64 0, .slice none 0 0, .slice none 0 0, .slice none 0 0, .slice none 0 0, .int .i64 0] := by rw [← hW1]; exact Blk.new _ _ _
  have hs1 := h.later hnew
  have hlt := h.lt
  have hsz : W1.heap.size = W.heap.size + 1 := by rw [← hW1]; simp
  have HW1 := Lib.hid hW1
  have HN := Lib.hid hnew
  have HRS := Lib.hid hres
  have HS1 := Lib.hid hs1
  have HSZ := Lib.hid hsz
  have hp1 : Par pb W1 W1 := Chg.refl _ _
  clear hW1 hnew hres hs1 hsz h
  have HF := Lib.hid hf
  have HR := Lib.hid hr
  have HO := Lib.hid ho
  have hgood := hf.good t (by simp)
  have HSIZE := Lib.hid (show (⟨t.text.toArray⟩ : ByteArray).size ≤ 60000 by simpa [ByteArray.size] using hgood.1)
  clear hf hr ho hgood
  have CA := Lib.hid (ahead_any pb lv t tl W1 HS1.out)
  have hf0 := field_tk0
  have hf1 := field_tk1
  by_cases h5 : t.kind = 5
  · have d5 : (t.kind == 5) = true := by simpa using h5
    obtain rfl : r = .ok (exK 3 ⟨t.text.toArray⟩ 0 [] q) (restT (t :: tl)) := by rw [← HR.out]; unfold inBrP; simp [kindH_cons, h5, headT_cons, bytesOf]
    have CT := Lib.hid (fun W2 (hs : PsAt W2 pb (t :: tl) lv) => take_any pb lv t tl W2 hs)
    clear h5
    go_enter Tryd.func66, Tryd.ntmps66
    go_upto_region 1 with fail
    rw [HW1.out]
    go_wp2_with (first | (go_at_call 16; (with_reducible refine CA.out.mono ?_); rintro e w2 ⟨rfl, hb2⟩; rw [tk_cells]; (have hpw2 : Par pb W1 w2 := Par.of_below hb2); (have hsw2 := HS1.out.later hb2)) | (go_at_call 18; (with_reducible refine (CT.out _ hsw2).mono ?_); rintro e w3 ⟨rfl, hp3, hsw3⟩; rw [tk_cells]; (have hpw3 : Par pb W1 w3 := hpw2.trans hp3); (have hBw3 : Blk w3 W.heap.size 32 #[.int .i64 0, .string ⟨#[]⟩, .int .i64 0, .int .i64 0, .string ⟨#[]⟩, .int .i64 0, .slice none 0 0, .slice none 0 0, .slice none 0 0, .slice none 0 0, .int .i64 0] := (hpw3.block _ HRS.out.lt (by omega : ¬ W.heap.size = pb)).trans HRS.out); (have r0w3 := hBw3.cell 0); (have r1w3 := hBw3.cell 1); (have r2w3 := hBw3.cell 2); (have r3w3 := hBw3.cell 3); (have r4w3 := hBw3.cell 4); (have r5w3 := hBw3.cell 5); (have r6w3 := hBw3.cell 6); (have r7w3 := hBw3.cell 7); (have r8w3 := hBw3.cell 8); (have r9w3 := hBw3.cell 9); (have r10w3 := hBw3.cell 10); (simp only [List.getElem?_toArray, List.getElem?_cons_succ, List.getElem?_cons_zero] at r0w3 r1w3 r2w3 r3w3 r4w3 r5w3 r6w3 r7w3 r8w3 r9w3 r10w3); (have f0w3 := hBw3.frozen 0); (have f1w3 := hBw3.frozen 1); (have f2w3 := hBw3.frozen 2); (have f3w3 := hBw3.frozen 3); (have f4w3 := hBw3.frozen 4); (have f5w3 := hBw3.frozen 5); (have f6w3 := hBw3.frozen 6); (have f7w3 := hBw3.frozen 7); (have f8w3 := hBw3.frozen 8); (have f9w3 := hBw3.frozen 9); (have f10w3 := hBw3.frozen 10)))
    obtain ⟨w9, hw9⟩ : ∃ w9, (((((((((((w3).setCell ⟨W.heap.size, 0, none⟩ (.int .i64 3)).setCell ⟨W.heap.size, 1, none⟩ (.string ⟨t.text.toArray⟩)).setCell ⟨W.heap.size, 2, none⟩ (.int .i64 0)).setCell ⟨W.heap.size, 3, none⟩ (.int .i64 0)).setCell ⟨W.heap.size, 4, none⟩ (.string ⟨#[]⟩)).setCell ⟨W.heap.size, 5, none⟩ (.int .i64 0)).setCell ⟨W.heap.size, 6, none⟩ (.slice none 0 0)).setCell ⟨W.heap.size, 7, none⟩ (.slice none 0 0)).setCell ⟨W.heap.size, 8, none⟩ (.slice none 0 0)).setCell ⟨W.heap.size, 9, none⟩ (.slice none 0 0)).setCell ⟨W.heap.size, 10, none⟩ (.int .i64 q) = w9 := ⟨_, rfl⟩
    have hPW := (Par.of_below (pb := pb) HN.out).trans hpw3
    have hB9 := set11 hBw3 (.int .i64 3) (.string ⟨t.text.toArray⟩) (.int .i64 0) (.int .i64 0) (.string ⟨#[]⟩) (.int .i64 0) (.slice none 0 0) (.slice none 0 0) (.slice none 0 0) (.slice none 0 0) (.int .i64 q)
    have hb9 := Par.set11 hPW (Nat.le_refl _) (.int .i64 3) (.string ⟨t.text.toArray⟩) (.int .i64 0) (.int .i64 0) (.string ⟨#[]⟩) (.int .i64 0) (.slice none 0 0) (.slice none 0 0) (.slice none 0 0) (.slice none 0 0) (.int .i64 q)
    have hS9 := PsAt.set11 hsw3 (g := W.heap.size) hlt (.int .i64 3) (.string ⟨t.text.toArray⟩) (.int .i64 0) (.int .i64 0) (.string ⟨#[]⟩) (.int .i64 0) (.slice none 0 0) (.slice none 0 0) (.slice none 0 0) (.slice none 0 0) (.int .i64 q)
    have hL9 : Low (lowX (W.heap.size + 1)) w3 _ := Low.set11 (Chg.refl _ _) (.inl (lowX_self _)) (.int .i64 3) (.string ⟨t.text.toArray⟩) (.int .i64 0) (.int .i64 0) (.string ⟨#[]⟩) (.int .i64 0) (.slice none 0 0) (.slice none 0 0) (.slice none 0 0) (.slice none 0 0) (.int .i64 q)
    rw [hw9] at hB9 hb9 hS9 hL9 ⊢
    have d0 := hB9.cell 0
    have d1 := hB9.cell 1
    have d2 := hB9.cell 2
    have d3 := hB9.cell 3
    have d4 := hB9.cell 4
    have d5 := hB9.cell 5
    have d6 := hB9.cell 6
    have d7 := hB9.cell 7
    have d8 := hB9.cell 8
    have d9 := hB9.cell 9
    have d10 := hB9.cell 10
    simp only [List.getElem?_toArray, List.getElem?_cons_succ, List.getElem?_cons_zero] at d0 d1 d2 d3 d4 d5 d6 d7 d8 d9 d10
    exact bodyPost_ret (v := .agg #[.int .i64 3, .string ⟨t.text.toArray⟩, .int .i64 0, .int .i64 0, .string ⟨#[]⟩, .int .i64 0, .slice none 0 0, .slice none 0 0, .slice none 0 0, .slice none 0 0, .int .i64 q]) (by simp [results, Tryd.results66, go_sem, d0, d1, d2, d3, d4, d5, d6, d7, d8, d9, d10]) rfl ⟨hb9, ⟨[.int .i64 3, .string ⟨t.text.toArray⟩, .int .i64 0, .int .i64 0, .string ⟨#[]⟩, .int .i64 0, .slice none 0 0, .slice none 0 0, .slice none 0 0, .slice none 0 0, .int .i64 q], rfl, rfl, ExM.leaf _ _ (ok_lit _ (by omega) (by omega)) HSIZE.out (ok_lit _ (by omega) (by omega)) hq⟩, hS9, HF.out.rest⟩
  · have d5 : (t.kind == 5) = false := by simpa using h5
    have hre : inBrP E T lv q (t :: tl) = (E lv (t :: tl)).andThen fun e ts1 => if seesH sColon ts1 then (T lv ts1.tail).andThen fun t ts2 => .ok (.mk 12 ⟨#[]⟩ 0 t [e] [] [] q) ts2 else .ok e ts1 := by unfold inBrP; simp [kindH_cons, h5]
    rw [hre] at HR
    clear h5 hre
    cases hA : E lv (t :: tl) with
    | out => exact absurd (by rw [← HR.out, hA]; rfl) HO.out
    | bad c p =>
      obtain rfl : r = .bad c p := by rw [← HR.out, hA]; rfl
      have C2 := Lib.hid (fun W2 (hs : PsAt W2 pb (t :: tl) lv) => HE pb lv (t :: tl) W2 hs HF.out hlv _ hA (by simp))
      go_enter Tryd.func66, Tryd.ntmps66
      go_upto_region 1 with fail
      rw [HW1.out]
      go_wp2_with (first | (go_at_call 16; (with_reducible refine CA.out.mono ?_); rintro e w2 ⟨rfl, hb2⟩; rw [tk_cells]; (have hpw2 : Par pb W1 w2 := Par.of_below hb2); (have hsw2 := HS1.out.later hb2)) | (go_at_call 7; (with_reducible refine (C2.out _ hsw2).mono ?_); rintro e w3 ⟨hp3, rfl⟩))
      exact ⟨rfl, (Par.of_below HN.out).trans (hpw2.trans hp3), rfl⟩
    | ok x ts1 =>
      have C2 := Lib.hid (fun W2 (hs : PsAt W2 pb (t :: tl) lv) => HE pb lv (t :: tl) W2 hs HF.out hlv _ hA (by simp))
      have hre : r = if seesH sColon ts1 then (T lv ts1.tail).andThen fun t ts2 => .ok (.mk 12 ⟨#[]⟩ 0 t [x] [] [] q) ts2 else .ok x ts1 := by rw [← HR.out, hA]; rfl
      cases hS : seesH sColon ts1 with
      | false =>
        obtain rfl : r = .ok x ts1 := by rw [hre, hS]; rfl
        have C3 := Lib.hid (fun (v : Tk) (tq : List Tk) (hS : seesH sColon (v :: tq) = false) W2 (hs : PsAt W2 pb (v :: tq) lv) => skip_any pb lv v tq sColon W2 hs false hS)
        clear hA hre
        go_enter Tryd.func66, Tryd.ntmps66
        go_upto_region 1 with fail
        rw [HW1.out]
        go_upto_region 4 with (first | (go_at_call 16; (with_reducible refine CA.out.mono ?_); rintro e w2 ⟨rfl, hb2⟩; rw [tk_cells]; (have hpw2 : Par pb W1 w2 := Par.of_below hb2); (have hsw2 := HS1.out.later hb2)) | (go_at_call 7; (with_reducible refine (C2.out _ hsw2).mono ?_); rintro e w3 ⟨hp3, ⟨cs, hlen, rfl, hty⟩, hsw3, hf3⟩; (obtain ⟨x0, x1, x2, x3, x4, x5, x6, x7, x8, x9, x10, rfl⟩ := eleven_of hlen); (have s0 := store_one' x0 (ex_ones' hty x0 (by simp))); (have s1 := store_one' x1 (ex_ones' hty x1 (by simp))); (have s2 := store_one' x2 (ex_ones' hty x2 (by simp))); (have s3 := store_one' x3 (ex_ones' hty x3 (by simp))); (have s4 := store_one' x4 (ex_ones' hty x4 (by simp))); (have s5 := store_one' x5 (ex_ones' hty x5 (by simp))); (have s6 := store_one' x6 (ex_ones' hty x6 (by simp))); (have s7 := store_one' x7 (ex_ones' hty x7 (by simp))); (have s8 := store_one' x8 (ex_ones' hty x8 (by simp))); (have s9 := store_one' x9 (ex_ones' hty x9 (by simp))); (have s10 := store_one' x10 (ex_ones' hty x10 (by simp))); (obtain ⟨v, tq, rfl⟩ := hf3.ne); (have hpw3 : Par pb W1 w3 := hpw2.trans hp3)))
        obtain ⟨w4, hw4⟩ : ∃ w4, w3.alloc (.cells #[x0, x1, x2, x3, x4, x5, x6, x7, x8, x9, x10] 32) = w4 := ⟨_, rfl⟩
        have hb4 : Below w3.heap.size w3 w4 := by rw [← hw4]; exact below_new' _ _
        have hx4 : Blk w4 w3.heap.size 32 #[x0, x1, x2, x3, x4, x5, x6, x7, x8, x9, x10] := by rw [← hw4]; exact Blk.new _ _ _
        rw [hw4]
        have hpw4 : Par pb W1 w4 := hpw3.trans (Par.of_below hb4)
        have hsw4 := hsw3.later hb4
        clear hw4
        have hlt3 := hsw3.lt
        have hsz := HSZ.out
        have hz1 := hpw2.size
        have hz3 := hpw3.size
        have hty4 : rEx.M (lowX (W.heap.size + 1)) w4 [x0, x1, x2, x3, x4, x5, x6, x7, x8, x9, x10] x := (hty.wk (B' := W.heap.size + 1) (by omega)).later (Low.of_below hb4)
        go_wp2_with (go_at_call 28; (with_reducible refine (C3.out _ _ hS _ hsw4).mono ?_); rintro e w5 ⟨rfl, hp5, hsw5⟩; (have hx5 : Blk w5 w3.heap.size 32 #[x0, x1, x2, x3, x4, x5, x6, x7, x8, x9, x10] := (hp5.block _ hx4.lt (by omega)).trans hx4); (have u0 := hx5.cell 0); (have u1 := hx5.cell 1); (have u2 := hx5.cell 2); (have u3 := hx5.cell 3); (have u4 := hx5.cell 4); (have u5 := hx5.cell 5); (have u6 := hx5.cell 6); (have u7 := hx5.cell 7); (have u8 := hx5.cell 8); (have u9 := hx5.cell 9); (have u10 := hx5.cell 10); (simp only [List.getElem?_toArray, List.getElem?_cons_succ, List.getElem?_cons_zero] at u0 u1 u2 u3 u4 u5 u6 u7 u8 u9 u10); (have hpw5 : Par pb W1 w5 := hpw4.trans hp5); (have hBw5 : Blk w5 W.heap.size 32 #[.int .i64 0, .string ⟨#[]⟩, .int .i64 0, .int .i64 0, .string ⟨#[]⟩, .int .i64 0, .slice none 0 0, .slice none 0 0, .slice none 0 0, .slice none 0 0, .int .i64 0] := (hpw5.block _ HRS.out.lt (by omega : ¬ W.heap.size = pb)).trans HRS.out); (have r0w5 := hBw5.cell 0); (have r1w5 := hBw5.cell 1); (have r2w5 := hBw5.cell 2); (have r3w5 := hBw5.cell 3); (have r4w5 := hBw5.cell 4); (have r5w5 := hBw5.cell 5); (have r6w5 := hBw5.cell 6); (have r7w5 := hBw5.cell 7); (have r8w5 := hBw5.cell 8); (have r9w5 := hBw5.cell 9); (have r10w5 := hBw5.cell 10); (simp only [List.getElem?_toArray, List.getElem?_cons_succ, List.getElem?_cons_zero] at r0w5 r1w5 r2w5 r3w5 r4w5 r5w5 r6w5 r7w5 r8w5 r9w5 r10w5); (have f0w5 := hBw5.frozen 0); (have f1w5 := hBw5.frozen 1); (have f2w5 := hBw5.frozen 2); (have f3w5 := hBw5.frozen 3); (have f4w5 := hBw5.frozen 4); (have f5w5 := hBw5.frozen 5); (have f6w5 := hBw5.frozen 6); (have f7w5 := hBw5.frozen 7); (have f8w5 := hBw5.frozen 8); (have f9w5 := hBw5.frozen 9); (have f10w5 := hBw5.frozen 10))
        have hty5 := hty4.later (Low.of_par hp5 (by omega))
        obtain ⟨w9, hw9⟩ : ∃ w9, (((((((((((w5).setCell ⟨W.heap.size, 0, none⟩ (x0)).setCell ⟨W.heap.size, 1, none⟩ (x1)).setCell ⟨W.heap.size, 2, none⟩ (x2)).setCell ⟨W.heap.size, 3, none⟩ (x3)).setCell ⟨W.heap.size, 4, none⟩ (x4)).setCell ⟨W.heap.size, 5, none⟩ (x5)).setCell ⟨W.heap.size, 6, none⟩ (x6)).setCell ⟨W.heap.size, 7, none⟩ (x7)).setCell ⟨W.heap.size, 8, none⟩ (x8)).setCell ⟨W.heap.size, 9, none⟩ (x9)).setCell ⟨W.heap.size, 10, none⟩ (x10) = w9 := ⟨_, rfl⟩
        have hPW := (Par.of_below (pb := pb) HN.out).trans hpw5
        have hB9 := set11 hBw5 (x0) (x1) (x2) (x3) (x4) (x5) (x6) (x7) (x8) (x9) (x10)
        have hb9 := Par.set11 hPW (Nat.le_refl _) (x0) (x1) (x2) (x3) (x4) (x5) (x6) (x7) (x8) (x9) (x10)
        have hS9 := PsAt.set11 hsw5 (g := W.heap.size) hlt (x0) (x1) (x2) (x3) (x4) (x5) (x6) (x7) (x8) (x9) (x10)
        have hL9 : Low (lowX (W.heap.size + 1)) w5 _ := Low.set11 (Chg.refl _ _) (.inl (lowX_self _)) (x0) (x1) (x2) (x3) (x4) (x5) (x6) (x7) (x8) (x9) (x10)
        rw [hw9] at hB9 hb9 hS9 hL9 ⊢
        have d0 := hB9.cell 0
        have d1 := hB9.cell 1
        have d2 := hB9.cell 2
        have d3 := hB9.cell 3
        have d4 := hB9.cell 4
        have d5 := hB9.cell 5
        have d6 := hB9.cell 6
        have d7 := hB9.cell 7
        have d8 := hB9.cell 8
        have d9 := hB9.cell 9
        have d10 := hB9.cell 10
        simp only [List.getElem?_toArray, List.getElem?_cons_succ, List.getElem?_cons_zero] at d0 d1 d2 d3 d4 d5 d6 d7 d8 d9 d10
        exact bodyPost_ret (v := .agg #[x0, x1, x2, x3, x4, x5, x6, x7, x8, x9, x10]) (by simp [results, Tryd.results66, go_sem, d0, d1, d2, d3, d4, d5, d6, d7, d8, d9, d10]) rfl ⟨hb9, ⟨[x0, x1, x2, x3, x4, x5, x6, x7, x8, x9, x10], rfl, rfl, (hty5.later hL9).wk (by omega)⟩, hS9, hf3⟩
      | true =>
        have C3 := Lib.hid (fun (v : Tk) (tq : List Tk) (hS : seesH sColon (v :: tq) = true) W2 (hs : PsAt W2 pb (v :: tq) lv) => skip_any pb lv v tq sColon W2 hs true hS)
        cases hT : T lv ts1.tail with
        | out => exact absurd (by rw [hre, hS, hT]; rfl) HO.out
        | bad c p =>
          obtain rfl : r = .bad c p := by rw [hre, hS, hT]; rfl
          have C4 := Lib.hid (fun (hf : Fine ts1.tail) W2 (hs : PsAt W2 pb ts1.tail lv) => HT pb lv ts1.tail W2 hs hf hlv _ hT (by simp))
          clear hA hre hT
          go_enter Tryd.func66, Tryd.ntmps66
          go_upto_region 1 with fail
          rw [HW1.out]
          go_upto_region 4 with (first | (go_at_call 16; (with_reducible refine CA.out.mono ?_); rintro e w2 ⟨rfl, hb2⟩; rw [tk_cells]; (have hpw2 : Par pb W1 w2 := Par.of_below hb2); (have hsw2 := HS1.out.later hb2)) | (go_at_call 7; (with_reducible refine (C2.out _ hsw2).mono ?_); rintro e w3 ⟨hp3, ⟨cs, hlen, rfl, hty⟩, hsw3, hf3⟩; (obtain ⟨x0, x1, x2, x3, x4, x5, x6, x7, x8, x9, x10, rfl⟩ := eleven_of hlen); (have s0 := store_one' x0 (ex_ones' hty x0 (by simp))); (have s1 := store_one' x1 (ex_ones' hty x1 (by simp))); (have s2 := store_one' x2 (ex_ones' hty x2 (by simp))); (have s3 := store_one' x3 (ex_ones' hty x3 (by simp))); (have s4 := store_one' x4 (ex_ones' hty x4 (by simp))); (have s5 := store_one' x5 (ex_ones' hty x5 (by simp))); (have s6 := store_one' x6 (ex_ones' hty x6 (by simp))); (have s7 := store_one' x7 (ex_ones' hty x7 (by simp))); (have s8 := store_one' x8 (ex_ones' hty x8 (by simp))); (have s9 := store_one' x9 (ex_ones' hty x9 (by simp))); (have s10 := store_one' x10 (ex_ones' hty x10 (by simp))); (obtain ⟨v, tq, rfl⟩ := hf3.ne); (have hpw3 : Par pb W1 w3 := hpw2.trans hp3)))
          obtain ⟨w4, hw4⟩ : ∃ w4, w3.alloc (.cells #[x0, x1, x2, x3, x4, x5, x6, x7, x8, x9, x10] 32) = w4 := ⟨_, rfl⟩
          have hb4 : Below w3.heap.size w3 w4 := by rw [← hw4]; exact below_new' _ _
          have hx4 : Blk w4 w3.heap.size 32 #[x0, x1, x2, x3, x4, x5, x6, x7, x8, x9, x10] := by rw [← hw4]; exact Blk.new _ _ _
          rw [hw4]
          have hpw4 : Par pb W1 w4 := hpw3.trans (Par.of_below hb4)
          have hsw4 := hsw3.later hb4
          clear hw4
          have hlt3 := hsw3.lt
          have hsz := HSZ.out
          have hz1 := hpw2.size
          have hz3 := hpw3.size
          have hty4 : rEx.M (lowX (W.heap.size + 1)) w4 [x0, x1, x2, x3, x4, x5, x6, x7, x8, x9, x10] x := (hty.wk (B' := W.heap.size + 1) (by omega)).later (Low.of_below hb4)
          go_upto_region 5 with (go_at_call 28; (with_reducible refine (C3.out _ _ hS _ hsw4).mono ?_); rintro e w5 ⟨rfl, hp5, hsw5⟩; (have hx5 : Blk w5 w3.heap.size 32 #[x0, x1, x2, x3, x4, x5, x6, x7, x8, x9, x10] := (hp5.block _ hx4.lt (by omega)).trans hx4); (have u0 := hx5.cell 0); (have u1 := hx5.cell 1); (have u2 := hx5.cell 2); (have u3 := hx5.cell 3); (have u4 := hx5.cell 4); (have u5 := hx5.cell 5); (have u6 := hx5.cell 6); (have u7 := hx5.cell 7); (have u8 := hx5.cell 8); (have u9 := hx5.cell 9); (have u10 := hx5.cell 10); (simp only [List.getElem?_toArray, List.getElem?_cons_succ, List.getElem?_cons_zero] at u0 u1 u2 u3 u4 u5 u6 u7 u8 u9 u10); (have hpw5 : Par pb W1 w5 := hpw4.trans hp5); (have hBw5 : Blk w5 W.heap.size 32 #[.int .i64 0, .string ⟨#[]⟩, .int .i64 0, .int .i64 0, .string ⟨#[]⟩, .int .i64 0, .slice none 0 0, .slice none 0 0, .slice none 0 0, .slice none 0 0, .int .i64 0] := (hpw5.block _ HRS.out.lt (by omega : ¬ W.heap.size = pb)).trans HRS.out); (have r0w5 := hBw5.cell 0); (have r1w5 := hBw5.cell 1); (have r2w5 := hBw5.cell 2); (have r3w5 := hBw5.cell 3); (have r4w5 := hBw5.cell 4); (have r5w5 := hBw5.cell 5); (have r6w5 := hBw5.cell 6); (have r7w5 := hBw5.cell 7); (have r8w5 := hBw5.cell 8); (have r9w5 := hBw5.cell 9); (have r10w5 := hBw5.cell 10); (simp only [List.getElem?_toArray, List.getElem?_cons_succ, List.getElem?_cons_zero] at r0w5 r1w5 r2w5 r3w5 r4w5 r5w5 r6w5 r7w5 r8w5 r9w5 r10w5); (have f0w5 := hBw5.frozen 0); (have f1w5 := hBw5.frozen 1); (have f2w5 := hBw5.frozen 2); (have f3w5 := hBw5.frozen 3); (have f4w5 := hBw5.frozen 4); (have f5w5 := hBw5.frozen 5); (have f6w5 := hBw5.frozen 6); (have f7w5 := hBw5.frozen 7); (have f8w5 := hBw5.frozen 8); (have f9w5 := hBw5.frozen 9); (have f10w5 := hBw5.frozen 10))
          have hsq : PsAt w5 pb tq lv := hsw5
          have hfq : Fine tq := hf3.sees hS
          have hz5 := hx5.lt
          have hz35 : w3.heap.size < w5.heap.size := hz5
          refine wp_region_held_drew (S := fun w' => Low (twoX W.heap.size pb) w5 w') (by kernel_rfl) (Low.drew_ w5) (fun hHeld => ?_)
          refine takeH' (i := 0) (d := 25) (v := .pointer (some ⟨pb, 0, none⟩)) rfl (by kernel_rfl) (by kernel_rfl) (by kernel_rfl) (fun _ _ _ h => h) (Or.inl ⟨by rfl, fun w' hS' => by (first | rfl | go_simp)⟩) hHeld rfl ?_
          try simp only [Act.put, List.setIfInBounds_toArray, List.set_cons_zero, List.set_cons_succ]
          refine takeH' (i := 2) (d := 27) (v := .agg #[x0, x1, x2, x3, x4, x5, x6, x7, x8, x9, x10]) rfl (by kernel_rfl) (by kernel_rfl) (by kernel_rfl) (fun _ _ _ h => h) (Or.inl ⟨by rfl, fun w' hS' => by (have q0 := hS'.cell u0 (by show w3.heap.size < _; omega) (twoX_no (by show w3.heap.size ≠ W.heap.size; omega) (by show w3.heap.size ≠ pb; omega))); (have q1 := hS'.cell u1 (by show w3.heap.size < _; omega) (twoX_no (by show w3.heap.size ≠ W.heap.size; omega) (by show w3.heap.size ≠ pb; omega))); (have q2 := hS'.cell u2 (by show w3.heap.size < _; omega) (twoX_no (by show w3.heap.size ≠ W.heap.size; omega) (by show w3.heap.size ≠ pb; omega))); (have q3 := hS'.cell u3 (by show w3.heap.size < _; omega) (twoX_no (by show w3.heap.size ≠ W.heap.size; omega) (by show w3.heap.size ≠ pb; omega))); (have q4 := hS'.cell u4 (by show w3.heap.size < _; omega) (twoX_no (by show w3.heap.size ≠ W.heap.size; omega) (by show w3.heap.size ≠ pb; omega))); (have q5 := hS'.cell u5 (by show w3.heap.size < _; omega) (twoX_no (by show w3.heap.size ≠ W.heap.size; omega) (by show w3.heap.size ≠ pb; omega))); (have q6 := hS'.cell u6 (by show w3.heap.size < _; omega) (twoX_no (by show w3.heap.size ≠ W.heap.size; omega) (by show w3.heap.size ≠ pb; omega))); (have q7 := hS'.cell u7 (by show w3.heap.size < _; omega) (twoX_no (by show w3.heap.size ≠ W.heap.size; omega) (by show w3.heap.size ≠ pb; omega))); (have q8 := hS'.cell u8 (by show w3.heap.size < _; omega) (twoX_no (by show w3.heap.size ≠ W.heap.size; omega) (by show w3.heap.size ≠ pb; omega))); (have q9 := hS'.cell u9 (by show w3.heap.size < _; omega) (twoX_no (by show w3.heap.size ≠ W.heap.size; omega) (by show w3.heap.size ≠ pb; omega))); (have q10 := hS'.cell u10 (by show w3.heap.size < _; omega) (twoX_no (by show w3.heap.size ≠ W.heap.size; omega) (by show w3.heap.size ≠ pb; omega))); (first | rfl | go_simp)⟩) hHeld rfl ?_
          try simp only [Act.put, List.setIfInBounds_toArray, List.set_cons_zero, List.set_cons_succ]
          refine takeH' (i := 4) (d := 29) (v := .int .i64 q) rfl (by kernel_rfl) (by kernel_rfl) (by kernel_rfl) (fun _ _ _ h => h) (Or.inl ⟨by rfl, fun w' hS' => by (first | rfl | go_simp)⟩) hHeld rfl ?_
          try simp only [Act.put, List.setIfInBounds_toArray, List.set_cons_zero, List.set_cons_succ]
          refine wpAnyH_ready (rs := [1, 3]) (by kernel_rfl) (by simp) ?_
          refine AllReadyH.cons rfl (fun K hK => ?_) (AllReadyH.cons rfl (fun K hK => ?_) AllReadyH.nil)
          · try go_simp
            refine (C4.out hfq _ hsq.drew_).mono ?_
            rintro e w6 ⟨hp6, rfl⟩
            exact ⟨rfl, (Par.of_below HN.out).trans (hpw5.trans (Par.drew_ hp6)), rfl⟩
          · go_simp
            have hn6 := below_new' w5.drew (.cells #[x0, x1, x2, x3, x4, x5, x6, x7, x8, x9, x10] 32)
            refine hK.out _ _ ((Low.drew_ w5).step hn6) (fun hHeld => ?_)
            clear hK K
            try simp only [Act.put, List.setIfInBounds_toArray, List.set_cons_zero, List.set_cons_succ]
            refine wpAnyH_ready (rs := [1]) (by kernel_rfl) (by simp) ?_
            refine AllReadyH.cons rfl (fun K hK => ?_) AllReadyH.nil
            try go_simp
            refine (C4.out hfq _ (hsq.drew_.later hn6)).mono ?_
            rintro e w6 ⟨hp6, rfl⟩
            exact ⟨rfl, (Par.of_below HN.out).trans (hpw5.trans (Par.drew_ ((Par.of_below hn6).trans hp6))), rfl⟩
        | ok u ts2 =>
          obtain rfl : r = .ok (.mk 12 ⟨#[]⟩ 0 u [x] [] [] q) ts2 := by rw [hre, hS, hT]; rfl
          have C4 := Lib.hid (fun (hf : Fine ts1.tail) W2 (hs : PsAt W2 pb ts1.tail lv) => HT pb lv ts1.tail W2 hs hf hlv _ hT (by simp))
          clear hA hre hT
          go_enter Tryd.func66, Tryd.ntmps66
          go_upto_region 1 with fail
          rw [HW1.out]
          go_upto_region 4 with (first | (go_at_call 16; (with_reducible refine CA.out.mono ?_); rintro e w2 ⟨rfl, hb2⟩; rw [tk_cells]; (have hpw2 : Par pb W1 w2 := Par.of_below hb2); (have hsw2 := HS1.out.later hb2)) | (go_at_call 7; (with_reducible refine (C2.out _ hsw2).mono ?_); rintro e w3 ⟨hp3, ⟨cs, hlen, rfl, hty⟩, hsw3, hf3⟩; (obtain ⟨x0, x1, x2, x3, x4, x5, x6, x7, x8, x9, x10, rfl⟩ := eleven_of hlen); (have s0 := store_one' x0 (ex_ones' hty x0 (by simp))); (have s1 := store_one' x1 (ex_ones' hty x1 (by simp))); (have s2 := store_one' x2 (ex_ones' hty x2 (by simp))); (have s3 := store_one' x3 (ex_ones' hty x3 (by simp))); (have s4 := store_one' x4 (ex_ones' hty x4 (by simp))); (have s5 := store_one' x5 (ex_ones' hty x5 (by simp))); (have s6 := store_one' x6 (ex_ones' hty x6 (by simp))); (have s7 := store_one' x7 (ex_ones' hty x7 (by simp))); (have s8 := store_one' x8 (ex_ones' hty x8 (by simp))); (have s9 := store_one' x9 (ex_ones' hty x9 (by simp))); (have s10 := store_one' x10 (ex_ones' hty x10 (by simp))); (obtain ⟨v, tq, rfl⟩ := hf3.ne); (have hpw3 : Par pb W1 w3 := hpw2.trans hp3)))
          obtain ⟨w4, hw4⟩ : ∃ w4, w3.alloc (.cells #[x0, x1, x2, x3, x4, x5, x6, x7, x8, x9, x10] 32) = w4 := ⟨_, rfl⟩
          have hb4 : Below w3.heap.size w3 w4 := by rw [← hw4]; exact below_new' _ _
          have hx4 : Blk w4 w3.heap.size 32 #[x0, x1, x2, x3, x4, x5, x6, x7, x8, x9, x10] := by rw [← hw4]; exact Blk.new _ _ _
          rw [hw4]
          have hpw4 : Par pb W1 w4 := hpw3.trans (Par.of_below hb4)
          have hsw4 := hsw3.later hb4
          clear hw4
          have hlt3 := hsw3.lt
          have hsz := HSZ.out
          have hz1 := hpw2.size
          have hz3 := hpw3.size
          have hty4 : rEx.M (lowX (W.heap.size + 1)) w4 [x0, x1, x2, x3, x4, x5, x6, x7, x8, x9, x10] x := (hty.wk (B' := W.heap.size + 1) (by omega)).later (Low.of_below hb4)
          go_upto_region 5 with (go_at_call 28; (with_reducible refine (C3.out _ _ hS _ hsw4).mono ?_); rintro e w5 ⟨rfl, hp5, hsw5⟩; (have hx5 : Blk w5 w3.heap.size 32 #[x0, x1, x2, x3, x4, x5, x6, x7, x8, x9, x10] := (hp5.block _ hx4.lt (by omega)).trans hx4); (have u0 := hx5.cell 0); (have u1 := hx5.cell 1); (have u2 := hx5.cell 2); (have u3 := hx5.cell 3); (have u4 := hx5.cell 4); (have u5 := hx5.cell 5); (have u6 := hx5.cell 6); (have u7 := hx5.cell 7); (have u8 := hx5.cell 8); (have u9 := hx5.cell 9); (have u10 := hx5.cell 10); (simp only [List.getElem?_toArray, List.getElem?_cons_succ, List.getElem?_cons_zero] at u0 u1 u2 u3 u4 u5 u6 u7 u8 u9 u10); (have hpw5 : Par pb W1 w5 := hpw4.trans hp5); (have hBw5 : Blk w5 W.heap.size 32 #[.int .i64 0, .string ⟨#[]⟩, .int .i64 0, .int .i64 0, .string ⟨#[]⟩, .int .i64 0, .slice none 0 0, .slice none 0 0, .slice none 0 0, .slice none 0 0, .int .i64 0] := (hpw5.block _ HRS.out.lt (by omega : ¬ W.heap.size = pb)).trans HRS.out); (have r0w5 := hBw5.cell 0); (have r1w5 := hBw5.cell 1); (have r2w5 := hBw5.cell 2); (have r3w5 := hBw5.cell 3); (have r4w5 := hBw5.cell 4); (have r5w5 := hBw5.cell 5); (have r6w5 := hBw5.cell 6); (have r7w5 := hBw5.cell 7); (have r8w5 := hBw5.cell 8); (have r9w5 := hBw5.cell 9); (have r10w5 := hBw5.cell 10); (simp only [List.getElem?_toArray, List.getElem?_cons_succ, List.getElem?_cons_zero] at r0w5 r1w5 r2w5 r3w5 r4w5 r5w5 r6w5 r7w5 r8w5 r9w5 r10w5); (have f0w5 := hBw5.frozen 0); (have f1w5 := hBw5.frozen 1); (have f2w5 := hBw5.frozen 2); (have f3w5 := hBw5.frozen 3); (have f4w5 := hBw5.frozen 4); (have f5w5 := hBw5.frozen 5); (have f6w5 := hBw5.frozen 6); (have f7w5 := hBw5.frozen 7); (have f8w5 := hBw5.frozen 8); (have f9w5 := hBw5.frozen 9); (have f10w5 := hBw5.frozen 10))
          have hsq : PsAt w5 pb tq lv := hsw5
          have hfq : Fine tq := hf3.sees hS
          have hz5 := hx5.lt
          have hz35 : w3.heap.size < w5.heap.size := hz5
          refine wp_region_held_drew (S := fun w' => Low (twoX W.heap.size pb) w5 w') (by kernel_rfl) (Low.drew_ w5) (fun hHeld => ?_)
          refine takeH' (i := 0) (d := 25) (v := .pointer (some ⟨pb, 0, none⟩)) rfl (by kernel_rfl) (by kernel_rfl) (by kernel_rfl) (fun _ _ _ h => h) (Or.inl ⟨by rfl, fun w' hS' => by (first | rfl | go_simp)⟩) hHeld rfl ?_
          try simp only [Act.put, List.setIfInBounds_toArray, List.set_cons_zero, List.set_cons_succ]
          refine takeH' (i := 2) (d := 27) (v := .agg #[x0, x1, x2, x3, x4, x5, x6, x7, x8, x9, x10]) rfl (by kernel_rfl) (by kernel_rfl) (by kernel_rfl) (fun _ _ _ h => h) (Or.inl ⟨by rfl, fun w' hS' => by (have q0 := hS'.cell u0 (by show w3.heap.size < _; omega) (twoX_no (by show w3.heap.size ≠ W.heap.size; omega) (by show w3.heap.size ≠ pb; omega))); (have q1 := hS'.cell u1 (by show w3.heap.size < _; omega) (twoX_no (by show w3.heap.size ≠ W.heap.size; omega) (by show w3.heap.size ≠ pb; omega))); (have q2 := hS'.cell u2 (by show w3.heap.size < _; omega) (twoX_no (by show w3.heap.size ≠ W.heap.size; omega) (by show w3.heap.size ≠ pb; omega))); (have q3 := hS'.cell u3 (by show w3.heap.size < _; omega) (twoX_no (by show w3.heap.size ≠ W.heap.size; omega) (by show w3.heap.size ≠ pb; omega))); (have q4 := hS'.cell u4 (by show w3.heap.size < _; omega) (twoX_no (by show w3.heap.size ≠ W.heap.size; omega) (by show w3.heap.size ≠ pb; omega))); (have q5 := hS'.cell u5 (by show w3.heap.size < _; omega) (twoX_no (by show w3.heap.size ≠ W.heap.size; omega) (by show w3.heap.size ≠ pb; omega))); (have q6 := hS'.cell u6 (by show w3.heap.size < _; omega) (twoX_no (by show w3.heap.size ≠ W.heap.size; omega) (by show w3.heap.size ≠ pb; omega))); (have q7 := hS'.cell u7 (by show w3.heap.size < _; omega) (twoX_no (by show w3.heap.size ≠ W.heap.size; omega) (by show w3.heap.size ≠ pb; omega))); (have q8 := hS'.cell u8 (by show w3.heap.size < _; omega) (twoX_no (by show w3.heap.size ≠ W.heap.size; omega) (by show w3.heap.size ≠ pb; omega))); (have q9 := hS'.cell u9 (by show w3.heap.size < _; omega) (twoX_no (by show w3.heap.size ≠ W.heap.size; omega) (by show w3.heap.size ≠ pb; omega))); (have q10 := hS'.cell u10 (by show w3.heap.size < _; omega) (twoX_no (by show w3.heap.size ≠ W.heap.size; omega) (by show w3.heap.size ≠ pb; omega))); (first | rfl | go_simp)⟩) hHeld rfl ?_
          try simp only [Act.put, List.setIfInBounds_toArray, List.set_cons_zero, List.set_cons_succ]
          refine takeH' (i := 4) (d := 29) (v := .int .i64 q) rfl (by kernel_rfl) (by kernel_rfl) (by kernel_rfl) (fun _ _ _ h => h) (Or.inl ⟨by rfl, fun w' hS' => by (first | rfl | go_simp)⟩) hHeld rfl ?_
          try simp only [Act.put, List.setIfInBounds_toArray, List.set_cons_zero, List.set_cons_succ]
          refine wpAnyH_ready (rs := [1, 3]) (by kernel_rfl) (by simp) ?_
          refine AllReadyH.cons rfl (fun K hK => ?_) (AllReadyH.cons rfl (fun K hK => ?_) AllReadyH.nil)
          · try go_simp
            refine (C4.out hfq _ hsq.drew_).mono ?_
            rintro e w6 ⟨hp6, ⟨es, hlen2, rfl, hty6⟩, hsw6, hf7⟩
            obtain ⟨z0, z1, z2, z3, rfl⟩ := four_of hlen2
            have o0 := store_one' z0 (ty_ones' hty6 z0 (by simp))
            have o1 := store_one' z1 (ty_ones' hty6 z1 (by simp))
            have o2 := store_one' z2 (ty_ones' hty6 z2 (by simp))
            have o3 := store_one' z3 (ty_ones' hty6 z3 (by simp))
            have hp56 := Par.drew_ hp6
            have hS6 : Low (twoX W.heap.size pb) w5 w6 := Low.par_ (Chg.refl _ _) hp56
            have hz6 : w5.heap.size ≤ w6.heap.size := hp56.size
            go_wp2_with fail
            refine hK.out _ _ hS6 (fun hHeld => ?_)
            clear hK K
            try simp only [Act.put, List.setIfInBounds_toArray, List.set_cons_zero, List.set_cons_succ]
            refine wpAnyH_ready (rs := [3]) (by kernel_rfl) (by simp) ?_
            refine AllReadyH.cons rfl (fun K hK => ?_) AllReadyH.nil
            go_simp
            obtain ⟨w7, hw7⟩ : ∃ w7, w6.alloc (.cells #[x0, x1, x2, x3, x4, x5, x6, x7, x8, x9, x10] 32) = w7 := ⟨_, rfl⟩
            have hn7 : Below w6.heap.size w6 w7 := by rw [← hw7]; exact below_new' _ _
            have hk7 : Blk w7 w6.heap.size 32 #[x0, x1, x2, x3, x4, x5, x6, x7, x8, x9, x10] := by rw [← hw7]; exact Blk.new _ _ _
            have hS7 : Low (twoX W.heap.size pb) w5 w7 := hS6.step hn7
            have hp57 : Par pb w5 w7 := hp56.below_ hn7
            have hsw7 := hsw6.later hn7
            have hty7 : rEx.M (lowX (W.heap.size + 1)) w7 [x0, x1, x2, x3, x4, x5, x6, x7, x8, x9, x10] x := ((hty4.later (Low.of_par hp5 (by omega))).later (Low.of_par hp56 (by omega))).later (Low.of_below hn7)
            have hz7 : rTy.M (lowX (W.heap.size + 1)) w7 [z0, z1, z2, z3] u := (hty6.wk (by show _ ≤ w5.heap.size; omega)).later (Low.of_below hn7)
            rw [hw7]
            refine hK.out _ _ hS7 (fun hHeld => ?_)
            clear hK K
            try simp only [Act.put, List.setIfInBounds_toArray, List.set_cons_zero, List.set_cons_succ]
            have hpw7 : Par pb W1 w7 := hpw5.trans hp57
            have hBw7 : Blk w7 W.heap.size 32 #[.int .i64 0, .string ⟨#[]⟩, .int .i64 0, .int .i64 0, .string ⟨#[]⟩, .int .i64 0, .slice none 0 0, .slice none 0 0, .slice none 0 0, .slice none 0 0, .int .i64 0] := (hpw7.block _ HRS.out.lt (by omega : ¬ W.heap.size = pb)).trans HRS.out
            have r0w7 := hBw7.cell 0
            have r1w7 := hBw7.cell 1
            have r2w7 := hBw7.cell 2
            have r3w7 := hBw7.cell 3
            have r4w7 := hBw7.cell 4
            have r5w7 := hBw7.cell 5
            have r6w7 := hBw7.cell 6
            have r7w7 := hBw7.cell 7
            have r8w7 := hBw7.cell 8
            have r9w7 := hBw7.cell 9
            have r10w7 := hBw7.cell 10
            simp only [List.getElem?_toArray, List.getElem?_cons_succ, List.getElem?_cons_zero] at r0w7 r1w7 r2w7 r3w7 r4w7 r5w7 r6w7 r7w7 r8w7 r9w7 r10w7
            have f0w7 := hBw7.frozen 0
            have f1w7 := hBw7.frozen 1
            have f2w7 := hBw7.frozen 2
            have f3w7 := hBw7.frozen 3
            have f4w7 := hBw7.frozen 4
            have f5w7 := hBw7.frozen 5
            have f6w7 := hBw7.frozen 6
            have f7w7 := hBw7.frozen 7
            have f8w7 := hBw7.frozen 8
            have f9w7 := hBw7.frozen 9
            have f10w7 := hBw7.frozen 10
            refine takeH' (i := 5) (d := 30) (v := .agg #[.int .i64 12, .string ⟨#[]⟩, .int .i64 0, z0, z1, z2, z3, .slice (some ⟨w6.heap.size, 0, none⟩) 1 1, .slice none 0 0, .slice none 0 0, .int .i64 q]) rfl (by kernel_rfl) (by kernel_rfl) (by kernel_rfl) (fun _ _ _ h => h) (Or.inl ⟨by rfl, fun w' hS' => by (first | rfl | go_simp)⟩) hHeld rfl ?_
            try simp only [Act.put, List.setIfInBounds_toArray, List.set_cons_zero, List.set_cons_succ]
            refine wpAnyH_ready (rs := [6]) (by kernel_rfl) (by simp) ?_
            refine AllReadyH.cons rfl (fun K hK => ?_) AllReadyH.nil
            go_simp
            refine hK.out _ _ (Low.set11 hS7 (.inl (twoX_g _ _)) _ _ _ _ _ _ _ _ _ _ _) (fun hHeld => ?_)
            clear hK K
            try simp only [Act.put, List.setIfInBounds_toArray, List.set_cons_zero, List.set_cons_succ]
            refine wpAnyH_done (by kernel_rfl) ?_ _
            go_wp2_with fail
            have hrow : RowM rEx 11 (lowX (W.heap.size + 1)) w7 (some ⟨w6.heap.size, 0, none⟩) [x] := RowM.one (xs := [x0, x1, x2, x3, x4, x5, x6, x7, x8, x9, x10]) (by simpa using hk7) (lowX_no (by omega)) hty7
            have hfin : rEx.M (lowX (W.heap.size + 1)) w7 [.int .i64 12, .string ⟨#[]⟩, .int .i64 0, z0, z1, z2, z3, .slice (some ⟨w6.heap.size, 0, none⟩) 1 1, .slice none 0 0, .slice none 0 0, .int .i64 q] (.mk 12 ⟨#[]⟩ 0 u [x] [] [] q) := ExM.mk_ (T := [z0, z1, z2, z3]) (ks := [x]) (als := []) (bs := []) (ok_lit _ (by omega) (by omega)) (by simp [ByteArray.size]) (ok_lit _ (by omega) (by omega)) hq hz7 (by simp) (by simp [maxLen]) (by simp) (by simp [maxLen]) (by simp) (by simp [maxLen]) (by simp) (by simp) (by simp) hrow (RowM.nil_ _ _ _ _) (RowM.nil_ _ _ _ _)
            obtain ⟨w9, hw9⟩ : ∃ w9, (((((((((((w7).setCell ⟨W.heap.size, 0, none⟩ (.int .i64 12)).setCell ⟨W.heap.size, 1, none⟩ (.string ⟨#[]⟩)).setCell ⟨W.heap.size, 2, none⟩ (.int .i64 0)).setCell ⟨W.heap.size, 3, none⟩ (z0)).setCell ⟨W.heap.size, 4, none⟩ (z1)).setCell ⟨W.heap.size, 5, none⟩ (z2)).setCell ⟨W.heap.size, 6, none⟩ (z3)).setCell ⟨W.heap.size, 7, none⟩ (.slice (some ⟨w6.heap.size, 0, none⟩) 1 1)).setCell ⟨W.heap.size, 8, none⟩ (.slice none 0 0)).setCell ⟨W.heap.size, 9, none⟩ (.slice none 0 0)).setCell ⟨W.heap.size, 10, none⟩ (.int .i64 q) = w9 := ⟨_, rfl⟩
            have hPW := (Par.of_below (pb := pb) HN.out).trans hpw7
            have hB9 := set11 hBw7 (.int .i64 12) (.string ⟨#[]⟩) (.int .i64 0) (z0) (z1) (z2) (z3) (.slice (some ⟨w6.heap.size, 0, none⟩) 1 1) (.slice none 0 0) (.slice none 0 0) (.int .i64 q)
            have hb9 := Par.set11 hPW (Nat.le_refl _) (.int .i64 12) (.string ⟨#[]⟩) (.int .i64 0) (z0) (z1) (z2) (z3) (.slice (some ⟨w6.heap.size, 0, none⟩) 1 1) (.slice none 0 0) (.slice none 0 0) (.int .i64 q)
            have hS9 := PsAt.set11 hsw7 (g := W.heap.size) hlt (.int .i64 12) (.string ⟨#[]⟩) (.int .i64 0) (z0) (z1) (z2) (z3) (.slice (some ⟨w6.heap.size, 0, none⟩) 1 1) (.slice none 0 0) (.slice none 0 0) (.int .i64 q)
            have hL9 : Low (lowX (W.heap.size + 1)) w7 _ := Low.set11 (Chg.refl _ _) (.inl (lowX_self _)) (.int .i64 12) (.string ⟨#[]⟩) (.int .i64 0) (z0) (z1) (z2) (z3) (.slice (some ⟨w6.heap.size, 0, none⟩) 1 1) (.slice none 0 0) (.slice none 0 0) (.int .i64 q)
            rw [hw9] at hB9 hb9 hS9 hL9 ⊢
            have d0 := hB9.cell 0
            have d1 := hB9.cell 1
            have d2 := hB9.cell 2
            have d3 := hB9.cell 3
            have d4 := hB9.cell 4
            have d5 := hB9.cell 5
            have d6 := hB9.cell 6
            have d7 := hB9.cell 7
            have d8 := hB9.cell 8
            have d9 := hB9.cell 9
            have d10 := hB9.cell 10
            simp only [List.getElem?_toArray, List.getElem?_cons_succ, List.getElem?_cons_zero] at d0 d1 d2 d3 d4 d5 d6 d7 d8 d9 d10
            exact bodyPost_ret (v := .agg #[.int .i64 12, .string ⟨#[]⟩, .int .i64 0, z0, z1, z2, z3, .slice (some ⟨w6.heap.size, 0, none⟩) 1 1, .slice none 0 0, .slice none 0 0, .int .i64 q]) (by simp [results, Tryd.results66, go_sem, d0, d1, d2, d3, d4, d5, d6, d7, d8, d9, d10]) rfl ⟨hb9, ⟨[.int .i64 12, .string ⟨#[]⟩, .int .i64 0, z0, z1, z2, z3, .slice (some ⟨w6.heap.size, 0, none⟩) 1 1, .slice none 0 0, .slice none 0 0, .int .i64 q], rfl, rfl, (hfin.later hL9).wk (by omega)⟩, hS9, hf7⟩
          · go_simp
            obtain ⟨w6, hw6⟩ : ∃ w6, (w5.alloc (.cells #[x0, x1, x2, x3, x4, x5, x6, x7, x8, x9, x10] 32)).drew = w6 := ⟨_, rfl⟩
            have hn6 : Below w5.heap.size w5 w6 := by rw [← hw6]; exact (below_new' _ _).drew
            have hS6 : Low (twoX W.heap.size pb) w5 w6 := Low.of_below hn6
            have hk6 : Blk w6 w5.heap.size 32 #[x0, x1, x2, x3, x4, x5, x6, x7, x8, x9, x10] := by rw [← hw6]; exact Blk.new _ _ _
            have hp56 : Par pb w5 w6 := Par.of_below hn6
            have hz6 : w5.heap.size ≤ w6.heap.size := hp56.size
            rw [hw6]
            refine hK.out _ _ hS6 (fun hHeld => ?_)
            clear hK K
            try simp only [Act.put, List.setIfInBounds_toArray, List.set_cons_zero, List.set_cons_succ]
            refine wpAnyH_ready (rs := [1]) (by kernel_rfl) (by simp) ?_
            refine AllReadyH.cons rfl (fun K hK => ?_) AllReadyH.nil
            try go_simp
            refine (C4.out hfq _ (hsq.later hn6)).mono ?_
            rintro e w7 ⟨hp7, ⟨es, hlen2, rfl, hty6⟩, hsw7, hf7⟩
            obtain ⟨z0, z1, z2, z3, rfl⟩ := four_of hlen2
            have o0 := store_one' z0 (ty_ones' hty6 z0 (by simp))
            have o1 := store_one' z1 (ty_ones' hty6 z1 (by simp))
            have o2 := store_one' z2 (ty_ones' hty6 z2 (by simp))
            have o3 := store_one' z3 (ty_ones' hty6 z3 (by simp))
            have hp57 : Par pb w5 w7 := hp56.trans hp7
            have hS7 : Low (twoX W.heap.size pb) w5 w7 := hS6.par_ hp7
            have hk7 : Blk w7 w5.heap.size 32 #[x0, x1, x2, x3, x4, x5, x6, x7, x8, x9, x10] := (hp7.block _ hk6.lt (by omega)).trans hk6
            have hty7 : rEx.M (lowX (W.heap.size + 1)) w7 [x0, x1, x2, x3, x4, x5, x6, x7, x8, x9, x10] x := (hty4.later (Low.of_par hp5 (by omega))).later (Low.of_par hp57 (by omega))
            have hz7 : rTy.M (lowX (W.heap.size + 1)) w7 [z0, z1, z2, z3] u := hty6.wk (by omega)
            go_wp2_with fail
            refine hK.out _ _ hS7 (fun hHeld => ?_)
            clear hK K
            try simp only [Act.put, List.setIfInBounds_toArray, List.set_cons_zero, List.set_cons_succ]
            have hpw7 : Par pb W1 w7 := hpw5.trans hp57
            have hBw7 : Blk w7 W.heap.size 32 #[.int .i64 0, .string ⟨#[]⟩, .int .i64 0, .int .i64 0, .string ⟨#[]⟩, .int .i64 0, .slice none 0 0, .slice none 0 0, .slice none 0 0, .slice none 0 0, .int .i64 0] := (hpw7.block _ HRS.out.lt (by omega : ¬ W.heap.size = pb)).trans HRS.out
            have r0w7 := hBw7.cell 0
            have r1w7 := hBw7.cell 1
            have r2w7 := hBw7.cell 2
            have r3w7 := hBw7.cell 3
            have r4w7 := hBw7.cell 4
            have r5w7 := hBw7.cell 5
            have r6w7 := hBw7.cell 6
            have r7w7 := hBw7.cell 7
            have r8w7 := hBw7.cell 8
            have r9w7 := hBw7.cell 9
            have r10w7 := hBw7.cell 10
            simp only [List.getElem?_toArray, List.getElem?_cons_succ, List.getElem?_cons_zero] at r0w7 r1w7 r2w7 r3w7 r4w7 r5w7 r6w7 r7w7 r8w7 r9w7 r10w7
            have f0w7 := hBw7.frozen 0
            have f1w7 := hBw7.frozen 1
            have f2w7 := hBw7.frozen 2
            have f3w7 := hBw7.frozen 3
            have f4w7 := hBw7.frozen 4
            have f5w7 := hBw7.frozen 5
            have f6w7 := hBw7.frozen 6
            have f7w7 := hBw7.frozen 7
            have f8w7 := hBw7.frozen 8
            have f9w7 := hBw7.frozen 9
            have f10w7 := hBw7.frozen 10
            refine takeH' (i := 5) (d := 30) (v := .agg #[.int .i64 12, .string ⟨#[]⟩, .int .i64 0, z0, z1, z2, z3, .slice (some ⟨w5.heap.size, 0, none⟩) 1 1, .slice none 0 0, .slice none 0 0, .int .i64 q]) rfl (by kernel_rfl) (by kernel_rfl) (by kernel_rfl) (fun _ _ _ h => h) (Or.inl ⟨by rfl, fun w' hS' => by (first | rfl | go_simp)⟩) hHeld rfl ?_
            try simp only [Act.put, List.setIfInBounds_toArray, List.set_cons_zero, List.set_cons_succ]
            refine wpAnyH_ready (rs := [6]) (by kernel_rfl) (by simp) ?_
            refine AllReadyH.cons rfl (fun K hK => ?_) AllReadyH.nil
            go_simp
            refine hK.out _ _ (Low.set11 hS7 (.inl (twoX_g _ _)) _ _ _ _ _ _ _ _ _ _ _) (fun hHeld => ?_)
            clear hK K
            try simp only [Act.put, List.setIfInBounds_toArray, List.set_cons_zero, List.set_cons_succ]
            refine wpAnyH_done (by kernel_rfl) ?_ _
            go_wp2_with fail
            have hrow : RowM rEx 11 (lowX (W.heap.size + 1)) w7 (some ⟨w5.heap.size, 0, none⟩) [x] := RowM.one (xs := [x0, x1, x2, x3, x4, x5, x6, x7, x8, x9, x10]) (by simpa using hk7) (lowX_no (by omega)) hty7
            have hfin : rEx.M (lowX (W.heap.size + 1)) w7 [.int .i64 12, .string ⟨#[]⟩, .int .i64 0, z0, z1, z2, z3, .slice (some ⟨w5.heap.size, 0, none⟩) 1 1, .slice none 0 0, .slice none 0 0, .int .i64 q] (.mk 12 ⟨#[]⟩ 0 u [x] [] [] q) := ExM.mk_ (T := [z0, z1, z2, z3]) (ks := [x]) (als := []) (bs := []) (ok_lit _ (by omega) (by omega)) (by simp [ByteArray.size]) (ok_lit _ (by omega) (by omega)) hq hz7 (by simp) (by simp [maxLen]) (by simp) (by simp [maxLen]) (by simp) (by simp [maxLen]) (by simp) (by simp) (by simp) hrow (RowM.nil_ _ _ _ _) (RowM.nil_ _ _ _ _)
            obtain ⟨w9, hw9⟩ : ∃ w9, (((((((((((w7).setCell ⟨W.heap.size, 0, none⟩ (.int .i64 12)).setCell ⟨W.heap.size, 1, none⟩ (.string ⟨#[]⟩)).setCell ⟨W.heap.size, 2, none⟩ (.int .i64 0)).setCell ⟨W.heap.size, 3, none⟩ (z0)).setCell ⟨W.heap.size, 4, none⟩ (z1)).setCell ⟨W.heap.size, 5, none⟩ (z2)).setCell ⟨W.heap.size, 6, none⟩ (z3)).setCell ⟨W.heap.size, 7, none⟩ (.slice (some ⟨w5.heap.size, 0, none⟩) 1 1)).setCell ⟨W.heap.size, 8, none⟩ (.slice none 0 0)).setCell ⟨W.heap.size, 9, none⟩ (.slice none 0 0)).setCell ⟨W.heap.size, 10, none⟩ (.int .i64 q) = w9 := ⟨_, rfl⟩
            have hPW := (Par.of_below (pb := pb) HN.out).trans hpw7
            have hB9 := set11 hBw7 (.int .i64 12) (.string ⟨#[]⟩) (.int .i64 0) (z0) (z1) (z2) (z3) (.slice (some ⟨w5.heap.size, 0, none⟩) 1 1) (.slice none 0 0) (.slice none 0 0) (.int .i64 q)
            have hb9 := Par.set11 hPW (Nat.le_refl _) (.int .i64 12) (.string ⟨#[]⟩) (.int .i64 0) (z0) (z1) (z2) (z3) (.slice (some ⟨w5.heap.size, 0, none⟩) 1 1) (.slice none 0 0) (.slice none 0 0) (.int .i64 q)
            have hS9 := PsAt.set11 hsw7 (g := W.heap.size) hlt (.int .i64 12) (.string ⟨#[]⟩) (.int .i64 0) (z0) (z1) (z2) (z3) (.slice (some ⟨w5.heap.size, 0, none⟩) 1 1) (.slice none 0 0) (.slice none 0 0) (.int .i64 q)
            have hL9 : Low (lowX (W.heap.size + 1)) w7 _ := Low.set11 (Chg.refl _ _) (.inl (lowX_self _)) (.int .i64 12) (.string ⟨#[]⟩) (.int .i64 0) (z0) (z1) (z2) (z3) (.slice (some ⟨w5.heap.size, 0, none⟩) 1 1) (.slice none 0 0) (.slice none 0 0) (.int .i64 q)
            rw [hw9] at hB9 hb9 hS9 hL9 ⊢
            have d0 := hB9.cell 0
            have d1 := hB9.cell 1
            have d2 := hB9.cell 2
            have d3 := hB9.cell 3
            have d4 := hB9.cell 4
            have d5 := hB9.cell 5
            have d6 := hB9.cell 6
            have d7 := hB9.cell 7
            have d8 := hB9.cell 8
            have d9 := hB9.cell 9
            have d10 := hB9.cell 10
            simp only [List.getElem?_toArray, List.getElem?_cons_succ, List.getElem?_cons_zero] at d0 d1 d2 d3 d4 d5 d6 d7 d8 d9 d10
            exact bodyPost_ret (v := .agg #[.int .i64 12, .string ⟨#[]⟩, .int .i64 0, z0, z1, z2, z3, .slice (some ⟨w5.heap.size, 0, none⟩) 1 1, .slice none 0 0, .slice none 0 0, .int .i64 q]) (by simp [results, Tryd.results66, go_sem, d0, d1, d2, d3, d4, d5, d6, d7, d8, d9, d10]) rfl ⟨hb9, ⟨[.int .i64 12, .string ⟨#[]⟩, .int .i64 0, z0, z1, z2, z3, .slice (some ⟨w5.heap.size, 0, none⟩) 1 1, .slice none 0 0, .slice none 0 0, .int .i64 q], rfl, rfl, (hfin.later hL9).wk (by omega)⟩, hS9, hf7⟩

end Go.Proofs.YtiiddmioafhmoaaDoor
