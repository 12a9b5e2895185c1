/- Walks: the parser's types. -/
import Derived.Test.YtiiddmioafhmoaaDoorMgf
import Derived.Deep.RegionHeld3
namespace Go.Proofs.YtiiddmioafhmoaaDoor
open Go.RowKit
set_option linter.unusedVariables false
set_option linter.unusedSimpArgs false
set_option maxRecDepth 100000

set_option maxHeartbeats 1600000 in
theorem up_yes (pb lv : Nat) (t : Tk) (ts : List Tk) (W : World) (h : PsAt W pb (t :: ts) lv) (hk : t.kind = 2) :
    Calls Tryd.prog 92 #[.pointer (some ⟨pb, 0, none⟩)] W fun e W' => e = .returned (.string ⟨t.text.toArray⟩) ∧ Par pb W W' ∧ PsAt W' pb (restT (t :: ts)) lv := by
  have C := Lib.hid (needKind_yes pb lv t ts 2 W h hk)
  clear h hk
  have hf1 := field_tk1
  go_enter Tryd.func92, Tryd.ntmps92
  go_wp2_with (go_at_call 10; (with_reducible refine C.out.mono ?_); rintro e w2 ⟨rfl, hp2, hs2⟩; rw [tk_cells])
  go_ret
  exact ⟨rfl, hp2, hs2⟩
set_option maxHeartbeats 1600000 in
theorem low_yes (pb lv : Nat) (t : Tk) (ts : List Tk) (W : World) (h : PsAt W pb (t :: ts) lv) (hk : t.kind = 1) :
    Calls Tryd.prog 95 #[.pointer (some ⟨pb, 0, none⟩)] W fun e W' => e = .returned (.string ⟨t.text.toArray⟩) ∧ Par pb W W' ∧ PsAt W' pb (restT (t :: ts)) lv := by
  have C := Lib.hid (needKind_yes pb lv t ts 1 W h hk)
  clear h hk
  have hf1 := field_tk1
  go_enter Tryd.func95, Tryd.ntmps95
  go_wp2_with (go_at_call 10; (with_reducible refine C.out.mono ?_); rintro e w2 ⟨rfl, hp2, hs2⟩; rw [tk_cells])
  go_ret
  exact ⟨rfl, hp2, hs2⟩
set_option maxHeartbeats 1600000 in
theorem seesLow_any (pb lv : Nat) (t : Tk) (ts : List Tk) (W : World) (h : PsAt W pb (t :: ts) lv) :
    Calls Tryd.prog 46 #[.pointer (some ⟨pb, 0, none⟩)] W fun e W' => e = .returned (.bool (t.kind == 1)) ∧ Below W.heap.size W W' := by
  have C := Lib.hid (ahead_any pb lv t ts W h)
  clear h
  have hf0 := field_tk0
  go_enter Tryd.func46, Tryd.ntmps46
  go_wp2_with (go_at_call 16; (with_reducible refine C.out.mono ?_); rintro e w2 ⟨rfl, hb2⟩; rw [tk_cells])
  go_ret
  exact ⟨rfl, hb2⟩
set_option maxHeartbeats 1600000 in
theorem seesType_any (pb lv : Nat) (t : Tk) (ts : List Tk) (W : World) (h : PsAt W pb (t :: ts) lv) (b : Bool) (hb : seesTyP (t :: ts) = b) :
    Calls Tryd.prog 94 #[.pointer (some ⟨pb, 0, none⟩)] W fun e W' => e = .returned (.bool b) ∧ Below W.heap.size W W' := by
  have C := Lib.hid (ahead_any pb lv t ts W h)
  have D := Lib.hid (fun W' (hb : Below W.heap.size W W') => sees_any pb lv t ts sLpar W' (h.later hb) _ rfl)
  have hf0 := field_tk0
  have HB := Lib.hid hb
  clear h hb
  by_cases h2 : t.kind = 2
  · have d2 : (t.kind == 2) = true := by simpa using h2
    have HE := Lib.hid (show b = true by rw [← HB.out]; simp [seesTyP, kindH, h2])
    clear h2
    go_enter Tryd.func94, Tryd.ntmps94
    go_wp2_with (go_at_call 16; (with_reducible refine C.out.mono ?_); rintro e w2 ⟨rfl, hb2⟩; rw [tk_cells])
    go_ret
    exact ⟨ret_bool HE.out.symm, hb2⟩
  · have d2 : (t.kind == 2) = false := by simpa using h2
    by_cases h1 : t.kind = 1
    · have d1 : (t.kind == 1) = true := by simpa using h1
      have HE := Lib.hid (show b = true by rw [← HB.out]; simp [seesTyP, kindH, h1])
      clear h1 h2
      go_enter Tryd.func94, Tryd.ntmps94
      go_wp2_with (go_at_call 16; (with_reducible refine C.out.mono ?_); rintro e w2 ⟨rfl, hb2⟩; rw [tk_cells])
      go_ret
      exact ⟨ret_bool HE.out.symm, hb2⟩
    · have d1 : (t.kind == 1) = false := by simpa using h1
      have HE := Lib.hid (show seesB t sLpar = b by rw [← HB.out]; simp [seesTyP, kindH, seesH, h1, h2])
      clear h1 h2
      go_enter Tryd.func94, Tryd.ntmps94
      go_wp2_with (first | (go_at_call 16; (with_reducible refine C.out.mono ?_); rintro e w2 ⟨rfl, hb2⟩; rw [tk_cells]) | (go_at_call 45; (with_reducible refine (D.out _ hb2).mono ?_); rintro e w3 ⟨rfl, hb3⟩))
      go_ret
      exact ⟨ret_bool HE.out, hb2.trans (hb3.mono hb2.size)⟩

/-- What is asked of whatever reads types. -/
def TyOk (f : Nat) (T : Nat → List Tk → Res Ty) : Prop := ∀ (pb lv : Nat) (ts : List Tk) (W : World), PsAt W pb ts lv → Fine ts → lv ≤ 300 → ∀ r, T lv ts = r → r ≠ .out →
  Calls Tryd.prog f #[.pointer (some ⟨pb, 0, none⟩)] W (PaPost pb lv 4 rTy r W)

set_option maxHeartbeats 3200000 in
theorem atype_any (T : Nat → List Tk → Res Ty) (HT : TyOk 76 T) (pb lv : Nat) (ts : List Tk) (W : World) (h : PsAt W pb ts lv) (hf : Fine ts) (hlv : lv ≤ 300) (r : Res Ty) (hr : atypeP T lv ts = r) (ho : r ≠ .out) :
    Calls Tryd.prog 91 #[.pointer (some ⟨pb, 0, none⟩)] W (PaPost pb lv 4 rTy r W) := by
  obtain ⟨t, tl, rfl⟩ := hf.ne
  have hgood := hf.good t (by simp)
  obtain ⟨W1, hW1⟩ : ∃ W1, W.alloc (.cells #[.int .i64 0, .string ⟨#[]⟩, .int .i64 0, .slice none 0 0] 27) = W1 := ⟨_, rfl⟩
  have hnew : Below W.heap.size W W1 := by rw [← hW1]; exact (Below.refl _ _).alloc (Nat.le_refl _) _
  have hres : Blk W1 W.heap.size 27 #[.int .i64 0, .string ⟨#[]⟩, .int .i64 0, .slice none 0 0] := by rw [← hW1]; exact Blk.new _ _ _
  have hs1 := h.later hnew
  have hlt := h.lt
  have hsz : W1.heap.size = W.heap.size + 1 := by rw [← hW1]; simp
  have HW1 := Lib.hid hW1
  have HN := Lib.hid hnew
  have HRS := Lib.hid hres
  have HS1 := Lib.hid hs1
  have HSZ := Lib.hid hsz
  have hp1 : Par pb W1 W1 := Chg.refl _ _
  clear hW1 hnew hres hs1 hsz h
  have CA := Lib.hid (ahead_any pb lv t tl W1 HS1.out)
  have hf0 := field_tk0
  have HF := Lib.hid hf
  have HR := Lib.hid hr
  have HO := Lib.hid ho
  have HG := Lib.hid hgood
  clear hf hr ho hgood
  have hsize : (⟨t.text.toArray⟩ : ByteArray).size ≤ 60000 := by have := HG.out.1; simpa [ByteArray.size] using this
  have HSIZE := Lib.hid hsize
  clear hsize
  by_cases h2 : t.kind = 2
  · have d2 : (t.kind == 2) = true := by simpa using h2
    obtain rfl : r = .ok (.mk 3 ⟨t.text.toArray⟩ 0 []) (restT (t :: tl)) := by rw [← HR.out]; unfold atypeP; simp [kindH, headT, bytesOf, h2]
    have C2 := Lib.hid (fun W2 (hs : PsAt W2 pb (t :: tl) lv) => up_yes pb lv t tl W2 hs h2)
    clear h2
    go_enter Tryd.func91, Tryd.ntmps91
    go_upto_region 1 with fail
    rw [HW1.out]
    go_wp2_with (first | (go_at_call 16; (with_reducible refine CA.out.mono ?_); rintro e w2 ⟨rfl, hb2⟩; rw [tk_cells]; (have hpw2 : Par pb W1 w2 := Par.of_below hb2); (have hs2 := HS1.out.later hb2)) | (go_at_call 92; (with_reducible refine (C2.out _ hs2).mono ?_); rintro e w3 ⟨rfl, hp3, hsw3⟩; (have hpw3 : Par pb W1 w3 := hpw2.trans hp3); (have hBw3 : Blk w3 W.heap.size 27 #[.int .i64 0, .string ⟨#[]⟩, .int .i64 0, .slice none 0 0] := (hpw3.block _ HRS.out.lt (by omega : ¬ W.heap.size = pb)).trans HRS.out); (have r0w3 := hBw3.cell 0); (have r1w3 := hBw3.cell 1); (have r2w3 := hBw3.cell 2); (have r3w3 := hBw3.cell 3); (simp only [List.getElem?_toArray, List.getElem?_cons_succ, List.getElem?_cons_zero] at r0w3 r1w3 r2w3 r3w3); (have f0w3 := hBw3.frozen 0); (have f1w3 := hBw3.frozen 1); (have f2w3 := hBw3.frozen 2); (have f3w3 := hBw3.frozen 3)))
    obtain ⟨w5, hw5⟩ : ∃ w5, (((w3.setCell ⟨W.heap.size, 0, none⟩ (.int .i64 3)).setCell ⟨W.heap.size, 1, none⟩ (.string ⟨t.text.toArray⟩)).setCell ⟨W.heap.size, 2, none⟩ (.int .i64 0)).setCell ⟨W.heap.size, 3, none⟩ (.slice none 0 0) = w5 := ⟨_, rfl⟩
    have hPW := (Par.of_below (pb := pb) HN.out).trans hpw3
    have hB5 := four_set' hBw3 (.int .i64 3) (.string ⟨t.text.toArray⟩) (.int .i64 0) (.slice none 0 0)
    have hb5 := Par.four hPW (Nat.le_refl _) (.int .i64 3) (.string ⟨t.text.toArray⟩) (.int .i64 0) (.slice none 0 0)
    have hS5 := hsw3.four (g := W.heap.size) hlt (.int .i64 3) (.string ⟨t.text.toArray⟩) (.int .i64 0) (.slice none 0 0)
    have hL5 : Low (lowX (W.heap.size + 1)) w3 _ := Low.four (Chg.refl _ _) (.inl (lowX_self _)) (.int .i64 3) (.string ⟨t.text.toArray⟩) (.int .i64 0) (.slice none 0 0)
    rw [hw5] at hB5 hb5 hS5 hL5 ⊢
    have d0 := hB5.cell 0
    have d1 := hB5.cell 1
    have d2 := hB5.cell 2
    have d3 := hB5.cell 3
    simp only [List.getElem?_toArray, List.getElem?_cons_succ, List.getElem?_cons_zero] at d0 d1 d2 d3
    exact bodyPost_ret (v := .agg #[.int .i64 3, .string ⟨t.text.toArray⟩, .int .i64 0, .slice none 0 0]) (by simp [results, Tryd.results91, go_sem, d0, d1, d2, d3]) rfl ⟨hb5, ⟨[.int .i64 3, .string ⟨t.text.toArray⟩, .int .i64 0, .slice none 0 0], rfl, rfl, TyM.leaf _ _ _ _ (ok_lit _ (by omega) (by omega)) HSIZE.out⟩, hS5, HF.out.rest⟩
  · have d2 : (t.kind == 2) = false := by simpa using h2
    by_cases h1 : t.kind = 1
    · have d1 : (t.kind == 1) = true := by simpa using h1
      obtain rfl : r = .ok (.mk 1 ⟨t.text.toArray⟩ 0 []) (restT (t :: tl)) := by rw [← HR.out]; unfold atypeP; simp [kindH, headT, bytesOf, h1, h2]
      have C2 := Lib.hid (fun W2 (hs : PsAt W2 pb (t :: tl) lv) => low_yes pb lv t tl W2 hs h1)
      clear h1 h2
      go_enter Tryd.func91, Tryd.ntmps91
      go_upto_region 1 with fail
      rw [HW1.out]
      go_wp2_with (first | (go_at_call 16; (with_reducible refine CA.out.mono ?_); rintro e w2 ⟨rfl, hb2⟩; rw [tk_cells]; (have hpw2 : Par pb W1 w2 := Par.of_below hb2); (have hs2 := HS1.out.later hb2)) | (go_at_call 95; (with_reducible refine (C2.out _ hs2).mono ?_); rintro e w3 ⟨rfl, hp3, hsw3⟩; (have hpw3 : Par pb W1 w3 := hpw2.trans hp3); (have hBw3 : Blk w3 W.heap.size 27 #[.int .i64 0, .string ⟨#[]⟩, .int .i64 0, .slice none 0 0] := (hpw3.block _ HRS.out.lt (by omega : ¬ W.heap.size = pb)).trans HRS.out); (have r0w3 := hBw3.cell 0); (have r1w3 := hBw3.cell 1); (have r2w3 := hBw3.cell 2); (have r3w3 := hBw3.cell 3); (simp only [List.getElem?_toArray, List.getElem?_cons_succ, List.getElem?_cons_zero] at r0w3 r1w3 r2w3 r3w3); (have f0w3 := hBw3.frozen 0); (have f1w3 := hBw3.frozen 1); (have f2w3 := hBw3.frozen 2); (have f3w3 := hBw3.frozen 3)))
      obtain ⟨w5, hw5⟩ : ∃ w5, (((w3.setCell ⟨W.heap.size, 0, none⟩ (.int .i64 1)).setCell ⟨W.heap.size, 1, none⟩ (.string ⟨t.text.toArray⟩)).setCell ⟨W.heap.size, 2, none⟩ (.int .i64 0)).setCell ⟨W.heap.size, 3, none⟩ (.slice none 0 0) = w5 := ⟨_, rfl⟩
      have hPW := (Par.of_below (pb := pb) HN.out).trans hpw3
      have hB5 := four_set' hBw3 (.int .i64 1) (.string ⟨t.text.toArray⟩) (.int .i64 0) (.slice none 0 0)
      have hb5 := Par.four hPW (Nat.le_refl _) (.int .i64 1) (.string ⟨t.text.toArray⟩) (.int .i64 0) (.slice none 0 0)
      have hS5 := hsw3.four (g := W.heap.size) hlt (.int .i64 1) (.string ⟨t.text.toArray⟩) (.int .i64 0) (.slice none 0 0)
      have hL5 : Low (lowX (W.heap.size + 1)) w3 _ := Low.four (Chg.refl _ _) (.inl (lowX_self _)) (.int .i64 1) (.string ⟨t.text.toArray⟩) (.int .i64 0) (.slice none 0 0)
      rw [hw5] at hB5 hb5 hS5 hL5 ⊢
      have d0 := hB5.cell 0
      have d1 := hB5.cell 1
      have d2 := hB5.cell 2
      have d3 := hB5.cell 3
      simp only [List.getElem?_toArray, List.getElem?_cons_succ, List.getElem?_cons_zero] at d0 d1 d2 d3
      exact bodyPost_ret (v := .agg #[.int .i64 1, .string ⟨t.text.toArray⟩, .int .i64 0, .slice none 0 0]) (by simp [results, Tryd.results91, go_sem, d0, d1, d2, d3]) rfl ⟨hb5, ⟨[.int .i64 1, .string ⟨t.text.toArray⟩, .int .i64 0, .slice none 0 0], rfl, rfl, TyM.leaf _ _ _ _ (ok_lit _ (by omega) (by omega)) HSIZE.out⟩, hS5, HF.out.rest⟩
    · have d1 : (t.kind == 1) = false := by simpa using h1
      have HK1 := Lib.hid h1
      have HK2 := Lib.hid h2
      clear h1 h2
      cases hL : seesB t sLpar with
      | false =>
        obtain rfl : r = .bad 110 t.pos := by rw [← HR.out]; unfold atypeP; simp [kindH_cons, posH_cons, headT_cons, needP, seesH_cons, Res.andThen, HK1.out, HK2.out, hL]
        have C2 := Lib.hid (fun W2 (hs : PsAt W2 pb (t :: tl) lv) => need_no pb lv t tl sLpar W2 hs hL)
        go_enter Tryd.func91, Tryd.ntmps91
        go_upto_region 1 with fail
        rw [HW1.out]
        go_wp2_with (first | (go_at_call 16; (with_reducible refine CA.out.mono ?_); rintro e w2 ⟨rfl, hb2⟩; rw [tk_cells]; (have hpw2 : Par pb W1 w2 := Par.of_below hb2); (have hs2 := HS1.out.later hb2)) | (go_at_call 47; (with_reducible refine (C2.out _ hs2).mono ?_); rintro e w3 ⟨rfl, hp3⟩))
        exact ⟨rfl, (Par.of_below HN.out).trans (hpw2.trans hp3), rfl⟩
      | true =>
        have hk0 := seesB_kind hL
        obtain ⟨u, tr, rfl⟩ := HF.out.more hk0
        have hF2 := HF.out.tail_ hk0
        have HF2 := Lib.hid hF2
        clear hk0 hF2
        have C2 := Lib.hid (fun W2 (hs : PsAt W2 pb (t :: u :: tr) lv) => need_yes pb lv t (u :: tr) sLpar W2 hs hL)
        cases hR : seesB u sRpar with
        | true =>
          obtain rfl : r = .ok (.mk 3 sUnit 0 []) tr := by rw [← HR.out]; unfold atypeP; simp [kindH_cons, posH_cons, headT_cons, needP, seesH_cons, Res.andThen, HK1.out, HK2.out, hL, hR, List.tail]
          have C3 := Lib.hid (fun W2 (hs : PsAt W2 pb (u :: tr) lv) => skip_any pb lv u tr sRpar W2 hs true hR)
          go_enter Tryd.func91, Tryd.ntmps91
          go_upto_region 1 with fail
          rw [HW1.out]
          go_wp2_with (first | (go_at_call 16; (with_reducible refine CA.out.mono ?_); rintro e w2 ⟨rfl, hb2⟩; rw [tk_cells]; (have hpw2 : Par pb W1 w2 := Par.of_below hb2); (have hs2 := HS1.out.later hb2)) | (go_at_call 47; (with_reducible refine (C2.out _ hs2).mono ?_); rintro e w3 ⟨rfl, hp3, hsw3⟩; (have hpw3 : Par pb W1 w3 := hpw2.trans hp3)) | (go_at_call 28; (with_reducible refine (C3.out _ hsw3).mono ?_); rintro e w4 ⟨rfl, hp4, hsw4⟩; (have hpw4 : Par pb W1 w4 := hpw3.trans hp4); (have hBw4 : Blk w4 W.heap.size 27 #[.int .i64 0, .string ⟨#[]⟩, .int .i64 0, .slice none 0 0] := (hpw4.block _ HRS.out.lt (by omega : ¬ W.heap.size = pb)).trans HRS.out); (have r0w4 := hBw4.cell 0); (have r1w4 := hBw4.cell 1); (have r2w4 := hBw4.cell 2); (have r3w4 := hBw4.cell 3); (simp only [List.getElem?_toArray, List.getElem?_cons_succ, List.getElem?_cons_zero] at r0w4 r1w4 r2w4 r3w4); (have f0w4 := hBw4.frozen 0); (have f1w4 := hBw4.frozen 1); (have f2w4 := hBw4.frozen 2); (have f3w4 := hBw4.frozen 3)))
          obtain ⟨w5, hw5⟩ : ∃ w5, (((w4.setCell ⟨W.heap.size, 0, none⟩ (.int .i64 3)).setCell ⟨W.heap.size, 1, none⟩ (.string ⟨#[85, 110, 105, 116]⟩)).setCell ⟨W.heap.size, 2, none⟩ (.int .i64 0)).setCell ⟨W.heap.size, 3, none⟩ (.slice none 0 0) = w5 := ⟨_, rfl⟩
          have hPW := (Par.of_below (pb := pb) HN.out).trans hpw4
          have hB5 := four_set' hBw4 (.int .i64 3) (.string ⟨#[85, 110, 105, 116]⟩) (.int .i64 0) (.slice none 0 0)
          have hb5 := Par.four hPW (Nat.le_refl _) (.int .i64 3) (.string ⟨#[85, 110, 105, 116]⟩) (.int .i64 0) (.slice none 0 0)
          have hS5 := hsw4.four (g := W.heap.size) hlt (.int .i64 3) (.string ⟨#[85, 110, 105, 116]⟩) (.int .i64 0) (.slice none 0 0)
          have hL5 : Low (lowX (W.heap.size + 1)) w4 _ := Low.four (Chg.refl _ _) (.inl (lowX_self _)) (.int .i64 3) (.string ⟨#[85, 110, 105, 116]⟩) (.int .i64 0) (.slice none 0 0)
          rw [hw5] at hB5 hb5 hS5 hL5 ⊢
          have d0 := hB5.cell 0
          have d1 := hB5.cell 1
          have d2 := hB5.cell 2
          have d3 := hB5.cell 3
          simp only [List.getElem?_toArray, List.getElem?_cons_succ, List.getElem?_cons_zero] at d0 d1 d2 d3
          exact bodyPost_ret (v := .agg #[.int .i64 3, .string ⟨#[85, 110, 105, 116]⟩, .int .i64 0, .slice none 0 0]) (by simp [results, Tryd.results91, go_sem, d0, d1, d2, d3]) rfl ⟨hb5, ⟨[.int .i64 3, .string ⟨#[85, 110, 105, 116]⟩, .int .i64 0, .slice none 0 0], rfl, rfl, TyM.leaf _ _ 3 sUnit (ok_lit _ (by omega) (by omega)) (by simp [ByteArray.size])⟩, hS5, (HF2.out.tail_ (seesB_kind hR))⟩
        | false =>
          have C3 := Lib.hid (fun W2 (hs : PsAt W2 pb (u :: tr) lv) => skip_any pb lv u tr sRpar W2 hs false hR)
          cases hT : T lv (u :: tr) with
          | out =>
            exact absurd (show r = .out from by rw [← HR.out]; unfold atypeP; simp [kindH_cons, posH_cons, headT_cons, needP, seesH_cons, Res.andThen, HK1.out, HK2.out, hL, hR, hT]) HO.out
          | bad c p =>
            obtain rfl : r = .bad c p := by rw [← HR.out]; unfold atypeP; simp [kindH_cons, posH_cons, headT_cons, needP, seesH_cons, Res.andThen, HK1.out, HK2.out, hL, hR, hT]
            have C4 := Lib.hid (fun W2 (hs : PsAt W2 pb (u :: tr) lv) => HT pb lv (u :: tr) W2 hs HF2.out hlv _ hT (by simp))
            go_enter Tryd.func91, Tryd.ntmps91
            go_upto_region 1 with fail
            rw [HW1.out]
            go_wp2_with (first | (go_at_call 16; (with_reducible refine CA.out.mono ?_); rintro e w2 ⟨rfl, hb2⟩; rw [tk_cells]; (have hpw2 : Par pb W1 w2 := Par.of_below hb2); (have hs2 := HS1.out.later hb2)) | (go_at_call 47; (with_reducible refine (C2.out _ hs2).mono ?_); rintro e w3 ⟨rfl, hp3, hsw3⟩; (have hpw3 : Par pb W1 w3 := hpw2.trans hp3)) | (go_at_call 28; (with_reducible refine (C3.out _ hsw3).mono ?_); rintro e w4 ⟨rfl, hp4, hsw4⟩) | (go_at_call 76; (with_reducible refine (C4.out _ hsw4).mono ?_); rintro e w6 ⟨hp6, rfl⟩))
            exact ⟨rfl, (Par.of_below HN.out).trans ((hpw3.trans hp4).trans hp6), rfl⟩
          | ok x ts2 =>
            have C4 := Lib.hid (fun W2 (hs : PsAt W2 pb (u :: tr) lv) => HT pb lv (u :: tr) W2 hs HF2.out hlv _ hT (by simp))
            cases hS : seesH sRpar ts2 with
            | false =>
              obtain rfl : r = .bad 110 (posH ts2) := by rw [← HR.out]; unfold atypeP; simp [kindH_cons, posH_cons, headT_cons, needP, seesH_cons, Res.andThen, HK1.out, HK2.out, hL, hR, hT, hS]
              have C5 := Lib.hid (fun (v : Tk) (tq : List Tk) (hS : seesH sRpar (v :: tq) = false) W2 (hs : PsAt W2 pb (v :: tq) lv) => need_no pb lv v tq sRpar W2 hs hS)
              go_enter Tryd.func91, Tryd.ntmps91
              go_upto_region 1 with fail
              rw [HW1.out]
              go_wp2_with (first | (go_at_call 16; (with_reducible refine CA.out.mono ?_); rintro e w2 ⟨rfl, hb2⟩; rw [tk_cells]; (have hpw2 : Par pb W1 w2 := Par.of_below hb2); (have hs2 := HS1.out.later hb2)) | (go_at_call 47; (with_reducible refine (C2.out _ hs2).mono ?_); rintro e w3 ⟨rfl, hp3, hsw3⟩; (have hpw3 : Par pb W1 w3 := hpw2.trans hp3)) | (go_at_call 28; (with_reducible refine (C3.out _ hsw3).mono ?_); rintro e w4 ⟨rfl, hp4, hsw4⟩) | (go_at_call 76; (with_reducible refine (C4.out _ hsw4).mono ?_); rintro e w6 ⟨hp6, ⟨cs, hlen, rfl, hty⟩, hs6, hf6⟩; (obtain ⟨k', nm', n', A', q', c', rfl⟩ := ty_form hty); (obtain ⟨v, tq, rfl⟩ := hf6.ne)) | (go_at_call 47; (with_reducible refine (C5.out _ _ hS _ (hs6.later (below_new' _ _))).mono ?_); rintro e w7 ⟨rfl, hp7⟩))
              exact ⟨rfl, (Par.of_below HN.out).trans ((((hpw3.trans hp4).trans hp6).trans (Par.of_below (below_new' _ _))).trans hp7), rfl⟩
            | true =>
              obtain rfl : r = .ok x ts2.tail := by rw [← HR.out]; unfold atypeP; simp [kindH_cons, posH_cons, headT_cons, needP, seesH_cons, Res.andThen, HK1.out, HK2.out, hL, hR, hT, hS]
              have C5 := Lib.hid (fun (v : Tk) (tq : List Tk) (hS : seesH sRpar (v :: tq) = true) W2 (hs : PsAt W2 pb (v :: tq) lv) => need_yes pb lv v tq sRpar W2 hs hS)
              go_enter Tryd.func91, Tryd.ntmps91
              go_upto_region 1 with fail
              rw [HW1.out]
              go_wp2_with (first | (go_at_call 16; (with_reducible refine CA.out.mono ?_); rintro e w2 ⟨rfl, hb2⟩; rw [tk_cells]; (have hpw2 : Par pb W1 w2 := Par.of_below hb2); (have hs2 := HS1.out.later hb2)) | (go_at_call 47; (with_reducible refine (C2.out _ hs2).mono ?_); rintro e w3 ⟨rfl, hp3, hsw3⟩; (have hpw3 : Par pb W1 w3 := hpw2.trans hp3)) | (go_at_call 28; (with_reducible refine (C3.out _ hsw3).mono ?_); rintro e w4 ⟨rfl, hp4, hsw4⟩) | (go_at_call 76; (with_reducible refine (C4.out _ hsw4).mono ?_); rintro e w6 ⟨hp6, ⟨cs, hlen, rfl, hty⟩, hs6, hf6⟩; (obtain ⟨k', nm', n', A', q', c', rfl⟩ := ty_form hty); (obtain ⟨v, tq, rfl⟩ := hf6.ne)) | (go_at_call 47; (with_reducible refine (C5.out _ _ hS _ (hs6.later (below_new' _ _))).mono ?_); rintro e w7 ⟨rfl, hp7, hsw7⟩; (have hbx := (hp7.block _ (Blk.new w6 27 #[.int .i64 k', .string nm', .int .i64 n', .slice A' q' c']).lt (by have := hs6.lt; omega)).trans (Blk.new w6 27 #[.int .i64 k', .string nm', .int .i64 n', .slice A' q' c'])); (have hbx : Blk w7 w6.heap.size 27 #[.int .i64 k', .string nm', .int .i64 n', .slice A' q' c'] := hbx); (have x0 := hbx.cell 0); (have x1 := hbx.cell 1); (have x2 := hbx.cell 2); (have x3 := hbx.cell 3); (simp only [List.getElem?_toArray, List.getElem?_cons_succ, List.getElem?_cons_zero] at x0 x1 x2 x3); (have hpw7 : Par pb W1 w7 := (((hpw3.trans hp4).trans hp6).trans (Par.of_below (below_new' _ _))).trans hp7); (have hBw7 : Blk w7 W.heap.size 27 #[.int .i64 0, .string ⟨#[]⟩, .int .i64 0, .slice none 0 0] := (hpw7.block _ HRS.out.lt (by omega : ¬ W.heap.size = pb)).trans HRS.out); (have r0w7 := hBw7.cell 0); (have r1w7 := hBw7.cell 1); (have r2w7 := hBw7.cell 2); (have r3w7 := hBw7.cell 3); (simp only [List.getElem?_toArray, List.getElem?_cons_succ, List.getElem?_cons_zero] at r0w7 r1w7 r2w7 r3w7); (have f0w7 := hBw7.frozen 0); (have f1w7 := hBw7.frozen 1); (have f2w7 := hBw7.frozen 2); (have f3w7 := hBw7.frozen 3)))
              have hty7 : TyM (lowX (W.heap.size + 1)) w7 _ x := ((hty.wk (by have := HSZ.out; have := (hpw3.trans hp4).size; omega)).later (Low.of_below (below_new' _ _))).later (Low.of_par hp7 (by omega))
              obtain ⟨w5, hw5⟩ : ∃ w5, (((w7.setCell ⟨W.heap.size, 0, none⟩ (.int .i64 k')).setCell ⟨W.heap.size, 1, none⟩ (.string nm')).setCell ⟨W.heap.size, 2, none⟩ (.int .i64 n')).setCell ⟨W.heap.size, 3, none⟩ (.slice A' q' c') = w5 := ⟨_, rfl⟩
              have hPW := (Par.of_below (pb := pb) HN.out).trans hpw7
              have hB5 := four_set' hBw7 (.int .i64 k') (.string nm') (.int .i64 n') (.slice A' q' c')
              have hb5 := Par.four hPW (Nat.le_refl _) (.int .i64 k') (.string nm') (.int .i64 n') (.slice A' q' c')
              have hS5 := hsw7.four (g := W.heap.size) hlt (.int .i64 k') (.string nm') (.int .i64 n') (.slice A' q' c')
              have hL5 : Low (lowX (W.heap.size + 1)) w7 _ := Low.four (Chg.refl _ _) (.inl (lowX_self _)) (.int .i64 k') (.string nm') (.int .i64 n') (.slice A' q' c')
              rw [hw5] at hB5 hb5 hS5 hL5 ⊢
              have d0 := hB5.cell 0
              have d1 := hB5.cell 1
              have d2 := hB5.cell 2
              have d3 := hB5.cell 3
              simp only [List.getElem?_toArray, List.getElem?_cons_succ, List.getElem?_cons_zero] at d0 d1 d2 d3
              exact bodyPost_ret (v := .agg #[.int .i64 k', .string nm', .int .i64 n', .slice A' q' c']) (by simp [results, Tryd.results91, go_sem, d0, d1, d2, d3]) rfl ⟨hb5, ⟨[.int .i64 k', .string nm', .int .i64 n', .slice A' q' c'], rfl, rfl, (hty7.later hL5).wk (by omega)⟩, hS5, (hf6.sees hS)⟩

end Go.Proofs.YtiiddmioafhmoaaDoor
