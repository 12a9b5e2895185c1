/- Walks: the parser's types, to the end. -/
import Derived.Test.YtiiddmioafhmoaaDoorPty
import Derived.Test.YtiiddmioafhmoaaDoorMgg
namespace Go.Proofs.YtiiddmioafhmoaaDoor
open Go.RowKit
set_option linter.unusedVariables false
set_option linter.unusedSimpArgs false
set_option maxRecDepth 100000

theorem seesTy_ok (lv : Nat) : BegOk 94 lv seesTyP := fun pb ts W h hf => by
  obtain ⟨t, tl, rfl⟩ := hf.ne
  exact seesType_any pb lv t tl W h _ rfl
theorem atype_ok (T : Nat → List Tk → Res Ty) (HT : TyOk 76 T) (lv : Nat) (hlv : lv ≤ 300) : RdOk rTy 4 91 lv (atypeP T lv) := fun pb ts W h hf r hr ho => atype_any T HT pb lv ts W h hf hlv r hr ho
theorem takeH' {P : Program} {md : Region.Mode} {ops : Array Oper} {Q : Exit → Act → World → Prop} {S : World → Prop} {i d : Nat} {oi : Oper} {v : Value} {fuel : Nat} {listed : Array Bool} {a : Act} {w : World} (hi : ops[i]? = some oi)
    (hs : Region.noSelect ops = true) (hf : Region.free md ops listed i = true) (hr : (Region.ready md ops listed).contains i = true)
    (hQ : ∀ c a w, Q (.panic c) (a.put oi.dst v) w → Q (.panic c) a w) (hy : YieldsIf P ops S oi v a) (hS : S w) (hd : oi.dst = some d)
    (h : wpAnyH P md ops Q S fuel (listed.setIfInBounds i true) (a.put (some d) v) w) : wpAnyH P md ops Q S (fuel + 1) listed a w :=
  wpAnyH_take hi hs hf hr hQ hy hS (by rw [hd]; exact h)
theorem Par.drew_ {pb : Nat} {W W' : World} (h : Par pb W.drew W') : Par pb W W' := ⟨h.os, h.tape, h.output, h.size, h.block⟩
theorem PsAt.drew_ {W : World} {pb lv : Nat} {ts : List Tk} (h : PsAt W pb ts lv) : PsAt W.drew pb ts lv := h.later (Below.refl _ _).drew

set_option maxHeartbeats 3200000 in
theorem btype_any (T : Nat → List Tk → Res Ty) (HT : TyOk 76 T) (pb lv : Nat) (ts : List Tk) (W : World) (h : PsAt W pb ts lv) (hf : Fine ts) (hlv : lv ≤ 300) (r : Res Ty) (hr : btypeP T lv ts = r) (ho : r ≠ .out) :
    Calls Tryd.prog 87 #[.pointer (some ⟨pb, 0, none⟩)] W (PaPost pb lv 4 rTy r W) := by
  obtain ⟨t, tl, rfl⟩ := hf.ne
  obtain ⟨W1, hW1⟩ : ∃ W1, W.alloc (.cells #[.int .i64 0, .string ⟨#[]⟩, .int .i64 0, .slice none 0 0] 27) = W1 := ⟨_, rfl⟩
  have hnew : Below W.heap.size W W1 := by rw [← hW1]; exact (Below.refl _ _).alloc (Nat.le_refl _) _
  have hres : Blk W1 W.heap.size 27 #[.int .i64 0, .string ⟨#[]⟩, .int .i64 0, .slice none 0 0] := by rw [← hW1]; exact Blk.new _ _ _
  have hs1 := h.later hnew
  have hlt := h.lt
  have hsz : W1.heap.size = W.heap.size + 1 := by rw [← hW1]; simp
  have HW1 := Lib.hid hW1
  have HN := Lib.hid hnew
  have HRS := Lib.hid hres
  have HS1 := Lib.hid hs1
  have HSZ := Lib.hid hsz
  have hp1 : Par pb W1 W1 := Chg.refl _ _
  clear hW1 hnew hres hs1 hsz h
  have HF := Lib.hid hf
  have HR := Lib.hid hr
  have HO := Lib.hid ho
  clear hf hr ho
  have hsize : (⟨t.text.toArray⟩ : ByteArray).size ≤ 60000 := by have := (HF.out.good t (by simp)).1; simpa [ByteArray.size] using this
  have HSIZE := Lib.hid hsize
  clear hsize
  have CA := Lib.hid (ahead_any pb lv t tl W1 HS1.out)
  have hf0 := field_tk0
  by_cases h2 : t.kind = 2
  · have d2 : (t.kind != 2) = false := by simpa using h2
    have hrest : restT (t :: tl) = tl := by simp [restT, h2]
    have C2 := Lib.hid (fun W2 (hs : PsAt W2 pb (t :: tl) lv) => up_yes pb lv t tl W2 hs h2)
    have HRT := Lib.hid hrest
    have HF2 := Lib.hid (HF.out.tail_ (show t.kind ≠ 0 by omega))
    rw [hrest] at C2
    have hlen : tl.length + 1 ≤ 60002 := by have := HF.out.len; simp at this; omega
    have hre : btypeP T lv (t :: tl) = (manyP seesTyP (atypeP T lv) tl).andThen fun l ts' => .ok (.mk 3 ⟨t.text.toArray⟩ 0 l) ts' := by unfold btypeP; simp [kindH_cons, h2, headT_cons, bytesOf, hrest]
    rw [hre] at HR
    cases hM : manyP seesTyP (atypeP T lv) tl with
    | out => exact absurd (by rw [← HR.out, hM]; rfl) HO.out
    | bad c p =>
      obtain rfl : r = .bad c p := by rw [← HR.out, hM]; rfl
      have C3 := Lib.hid (fun W2 (hs : PsAt W2 pb tl lv) => many_ty lv seesTyP (atypeP T lv) (seesTy_ok lv) (atype_ok T HT lv hlv) _ pb tl W2 hs HF2.out hlen _ hM (by simp))
      clear h2 hrest hre hM hlen
      go_enter Tryd.func87, Tryd.ntmps87
      go_upto_region 1 with fail
      rw [HW1.out]
      go_wp2_with (first | (go_at_call 16; (with_reducible refine CA.out.mono ?_); rintro e w2 ⟨rfl, hb2⟩; rw [tk_cells]; (have hpw2 : Par pb W1 w2 := Par.of_below hb2); (have hsw2 := HS1.out.later hb2)) | (go_at_call 92; (with_reducible refine (C2.out _ hsw2).mono ?_); rintro e w3 ⟨rfl, hp3, hsw3⟩) | (go_at_call 93; (with_reducible refine (C3.out _ hsw3).mono ?_); rintro e w4 ⟨hp4, rfl⟩))
      exact ⟨rfl, (Par.of_below HN.out).trans ((hpw2.trans hp3).trans hp4), rfl⟩
    | ok l ts2 =>
      obtain rfl : r = .ok (.mk 3 ⟨t.text.toArray⟩ 0 l) ts2 := by rw [← HR.out, hM]; rfl
      have C3 := Lib.hid (fun W2 (hs : PsAt W2 pb tl lv) => many_ty lv seesTyP (atypeP T lv) (seesTy_ok lv) (atype_ok T HT lv hlv) _ pb tl W2 hs HF2.out hlen _ hM (by simp))
      clear h2 hrest hre hM hlen
      go_enter Tryd.func87, Tryd.ntmps87
      go_upto_region 1 with fail
      rw [HW1.out]
      go_wp2_with (first | (go_at_call 16; (with_reducible refine CA.out.mono ?_); rintro e w2 ⟨rfl, hb2⟩; rw [tk_cells]; (have hpw2 : Par pb W1 w2 := Par.of_below hb2); (have hsw2 := HS1.out.later hb2)) | (go_at_call 92; (with_reducible refine (C2.out _ hsw2).mono ?_); rintro e w3 ⟨rfl, hp3, hsw3⟩) | (go_at_call 93; (with_reducible refine (C3.out _ hsw3).mono ?_); rintro e w4 ⟨hp4, ⟨A4, c4, rfl, g1, g2, g3, hrow⟩, hsw4, hf4⟩; (obtain ⟨q, hq⟩ : ∃ q, l.length = q := ⟨_, rfl⟩); rw [hq]; (have hpw4 : Par pb W1 w4 := (hpw2.trans hp3).trans hp4); (have hBw4 : Blk w4 W.heap.size 27 #[.int .i64 0, .string ⟨#[]⟩, .int .i64 0, .slice none 0 0] := (hpw4.block _ HRS.out.lt (by omega : ¬ W.heap.size = pb)).trans HRS.out); (have r0w4 := hBw4.cell 0); (have r1w4 := hBw4.cell 1); (have r2w4 := hBw4.cell 2); (have r3w4 := hBw4.cell 3); (simp only [List.getElem?_toArray, List.getElem?_cons_succ, List.getElem?_cons_zero] at r0w4 r1w4 r2w4 r3w4); (have f0w4 := hBw4.frozen 0); (have f1w4 := hBw4.frozen 1); (have f2w4 := hBw4.frozen 2); (have f3w4 := hBw4.frozen 3)))
      subst hq
      have hz3 := (hpw2.trans hp3).size
      have hsz := HSZ.out
      have hty : rTy.M (lowX (W.heap.size + 1)) w4 [.int .i64 3, .string ⟨t.text.toArray⟩, .int .i64 0, .slice A4 l.length c4] (.mk 3 ⟨t.text.toArray⟩ 0 l) := TyM.mk_ (ok_lit _ (by omega) (by omega)) HSIZE.out g1 g2 g3 (hrow.weaken fun k _ hk => by rw [lowX_iff] at hk ⊢; omega)
      obtain ⟨w9, hw9⟩ : ∃ w9, (((w4.setCell ⟨W.heap.size, 0, none⟩ (.int .i64 3)).setCell ⟨W.heap.size, 1, none⟩ (.string ⟨t.text.toArray⟩)).setCell ⟨W.heap.size, 2, none⟩ (.int .i64 0)).setCell ⟨W.heap.size, 3, none⟩ (.slice A4 l.length c4) = w9 := ⟨_, rfl⟩
      have hPW := (Par.of_below (pb := pb) HN.out).trans hpw4
      have hB5 := four_set' hBw4 (.int .i64 3) (.string ⟨t.text.toArray⟩) (.int .i64 0) (.slice A4 l.length c4)
      have hb5 := Par.four hPW (Nat.le_refl _) (.int .i64 3) (.string ⟨t.text.toArray⟩) (.int .i64 0) (.slice A4 l.length c4)
      have hS5 := hsw4.four (g := W.heap.size) hlt (.int .i64 3) (.string ⟨t.text.toArray⟩) (.int .i64 0) (.slice A4 l.length c4)
      have hL5 : Low (lowX (W.heap.size + 1)) w4 _ := Low.four (Chg.refl _ _) (.inl (lowX_self _)) (.int .i64 3) (.string ⟨t.text.toArray⟩) (.int .i64 0) (.slice A4 l.length c4)
      rw [hw9] at hB5 hb5 hS5 hL5 ⊢
      have d0 := hB5.cell 0
      have d1 := hB5.cell 1
      have d2 := hB5.cell 2
      have d3 := hB5.cell 3
      simp only [List.getElem?_toArray, List.getElem?_cons_succ, List.getElem?_cons_zero] at d0 d1 d2 d3
      exact bodyPost_ret (v := .agg #[.int .i64 3, .string ⟨t.text.toArray⟩, .int .i64 0, .slice A4 l.length c4]) (by simp [results, Tryd.results87, go_sem, d0, d1, d2, d3]) rfl ⟨hb5, ⟨[.int .i64 3, .string ⟨t.text.toArray⟩, .int .i64 0, .slice A4 l.length c4], rfl, rfl, (hty.later hL5).wk (by omega)⟩, hS5, hf4⟩
  · have d2 : (t.kind != 2) = true := by simpa using h2
    have hre : btypeP T lv (t :: tl) = atypeP T lv (t :: tl) := by unfold btypeP; simp [kindH_cons, h2]
    rw [hre] at HR
    have C2 := Lib.hid (fun W2 (hs : PsAt W2 pb (t :: tl) lv) => atype_any T HT pb lv (t :: tl) W2 hs HF.out hlv r HR.out HO.out)
    clear h2 hre
    cases r with
    | out => exact absurd rfl HO.out
    | bad c p =>
      go_enter Tryd.func87, Tryd.ntmps87
      go_upto_region 1 with fail
      rw [HW1.out]
      go_wp2_with (first | (go_at_call 16; (with_reducible refine CA.out.mono ?_); rintro e w2 ⟨rfl, hb2⟩; rw [tk_cells]; (have hpw2 : Par pb W1 w2 := Par.of_below hb2); (have hsw2 := HS1.out.later hb2)) | (go_at_call 91; (with_reducible refine (C2.out _ hsw2).mono ?_); rintro e w3 ⟨hp3, rfl⟩))
      exact ⟨rfl, (Par.of_below HN.out).trans (hpw2.trans hp3), rfl⟩
    | ok x ts2 =>
      go_enter Tryd.func87, Tryd.ntmps87
      go_upto_region 1 with fail
      rw [HW1.out]
      go_wp2_with (first | (go_at_call 16; (with_reducible refine CA.out.mono ?_); rintro e w2 ⟨rfl, hb2⟩; rw [tk_cells]; (have hpw2 : Par pb W1 w2 := Par.of_below hb2); (have hsw2 := HS1.out.later hb2)) | (go_at_call 91; (with_reducible refine (C2.out _ hsw2).mono ?_); rintro e w3 ⟨hp3, ⟨cs, hlen, rfl, hty⟩, hsw3, hf3⟩; (obtain ⟨x0, x1, x2, x3, rfl⟩ := four_of hlen); (have s0 := store_one' x0 (ty_ones' hty x0 (by simp))); (have s1 := store_one' x1 (ty_ones' hty x1 (by simp))); (have s2 := store_one' x2 (ty_ones' hty x2 (by simp))); (have s3 := store_one' x3 (ty_ones' hty x3 (by simp))); (have hpw3 : Par pb W1 w3 := hpw2.trans hp3); (have hBw3 : Blk w3 W.heap.size 27 #[.int .i64 0, .string ⟨#[]⟩, .int .i64 0, .slice none 0 0] := (hpw3.block _ HRS.out.lt (by omega : ¬ W.heap.size = pb)).trans HRS.out); (have r0w3 := hBw3.cell 0); (have r1w3 := hBw3.cell 1); (have r2w3 := hBw3.cell 2); (have r3w3 := hBw3.cell 3); (simp only [List.getElem?_toArray, List.getElem?_cons_succ, List.getElem?_cons_zero] at r0w3 r1w3 r2w3 r3w3); (have f0w3 := hBw3.frozen 0); (have f1w3 := hBw3.frozen 1); (have f2w3 := hBw3.frozen 2); (have f3w3 := hBw3.frozen 3)))
      have hz3 := hpw2.size
      have hsz := HSZ.out
      have hty2 := hty.wk (B' := W.heap.size + 1) (by omega)
      obtain ⟨w9, hw9⟩ : ∃ w9, (((w3.setCell ⟨W.heap.size, 0, none⟩ (x0)).setCell ⟨W.heap.size, 1, none⟩ (x1)).setCell ⟨W.heap.size, 2, none⟩ (x2)).setCell ⟨W.heap.size, 3, none⟩ (x3) = w9 := ⟨_, rfl⟩
      have hPW := (Par.of_below (pb := pb) HN.out).trans hpw3
      have hB5 := four_set' hBw3 (x0) (x1) (x2) (x3)
      have hb5 := Par.four hPW (Nat.le_refl _) (x0) (x1) (x2) (x3)
      have hS5 := hsw3.four (g := W.heap.size) hlt (x0) (x1) (x2) (x3)
      have hL5 : Low (lowX (W.heap.size + 1)) w3 _ := Low.four (Chg.refl _ _) (.inl (lowX_self _)) (x0) (x1) (x2) (x3)
      rw [hw9] at hB5 hb5 hS5 hL5 ⊢
      have d0 := hB5.cell 0
      have d1 := hB5.cell 1
      have d2 := hB5.cell 2
      have d3 := hB5.cell 3
      simp only [List.getElem?_toArray, List.getElem?_cons_succ, List.getElem?_cons_zero] at d0 d1 d2 d3
      exact bodyPost_ret (v := .agg #[x0, x1, x2, x3]) (by simp [results, Tryd.results87, go_sem, d0, d1, d2, d3]) rfl ⟨hb5, ⟨[x0, x1, x2, x3], rfl, rfl, (hty2.later hL5).wk (by omega)⟩, hS5, hf3⟩

set_option maxHeartbeats 3200000 in
theorem func_any (T : Nat → List Tk → Res Ty) (HT : TyOk 76 T) (pb lv : Nat) (ts : List Tk) (W : World) (h : PsAt W pb ts lv) (hf : Fine ts) (hlv : lv ≤ 300) (r : Res Ty) (hr : funcP T lv ts = r) (ho : r ≠ .out) :
    Calls Tryd.prog 81 #[.pointer (some ⟨pb, 0, none⟩)] W (PaPost pb lv 4 rTy r W) := by
  obtain ⟨t, tl, rfl⟩ := hf.ne
  obtain ⟨W1, hW1⟩ : ∃ W1, W.alloc (.cells #[.int .i64 0, .string ⟨#[]⟩, .int .i64 0, .slice none 0 0] 27) = W1 := ⟨_, rfl⟩
  have hnew : Below W.heap.size W W1 := by rw [← hW1]; exact (Below.refl _ _).alloc (Nat.le_refl _) _
  have hres : Blk W1 W.heap.size 27 #[.int .i64 0, .string ⟨#[]⟩, .int .i64 0, .slice none 0 0] := by rw [← hW1]; exact Blk.new _ _ _
  have hs1 := h.later hnew
  have hlt := h.lt
  have hsz : W1.heap.size = W.heap.size + 1 := by rw [← hW1]; simp
  have HW1 := Lib.hid hW1
  have HN := Lib.hid hnew
  have HRS := Lib.hid hres
  have HS1 := Lib.hid hs1
  have HSZ := Lib.hid hsz
  have hp1 : Par pb W1 W1 := Chg.refl _ _
  clear hW1 hnew hres hs1 hsz h
  have HF := Lib.hid hf
  have HR := Lib.hid hr
  have HO := Lib.hid ho
  clear hf hr ho
  cases hA : btypeP T lv (t :: tl) with
  | out => exact absurd (by rw [← HR.out]; unfold funcP; rw [hA]; rfl) HO.out
  | bad c p =>
    obtain rfl : r = .bad c p := by rw [← HR.out]; unfold funcP; rw [hA]; rfl
    have C2 := Lib.hid (btype_any T HT pb lv (t :: tl) W1 HS1.out HF.out hlv _ hA (by simp))
    go_enter Tryd.func81, Tryd.ntmps81
    go_upto_region 1 with fail
    rw [HW1.out]
    go_wp2_with (first | (go_at_call 87; (with_reducible refine (C2.out).mono ?_); rintro e w3 ⟨hp3, rfl⟩))
    exact ⟨rfl, (Par.of_below HN.out).trans hp3, rfl⟩
  | ok x ts1 =>
    have hre : r = if seesH sArrow ts1 then (T lv ts1.tail).andThen fun u ts2 => .ok (.mk 3 sArrow 0 [x, u]) ts2 else .ok x ts1 := by rw [← HR.out]; unfold funcP; rw [hA]; rfl
    have C2 := Lib.hid (btype_any T HT pb lv (t :: tl) W1 HS1.out HF.out hlv _ hA (by simp))
    cases hS : seesH sArrow ts1 with
    | false =>
      obtain rfl : r = .ok x ts1 := by rw [hre, hS]; rfl
      have C3 := Lib.hid (fun (v : Tk) (tq : List Tk) (hS : seesH sArrow (v :: tq) = false) W2 (hs : PsAt W2 pb (v :: tq) lv) => skip_any pb lv v tq sArrow W2 hs false hS)
      clear hA hre
      go_enter Tryd.func81, Tryd.ntmps81
      go_upto_region 1 with fail
      rw [HW1.out]
      go_wp2_with (first | (go_at_call 87; (with_reducible refine (C2.out).mono ?_); rintro e w3 ⟨hp3, ⟨cs, hlen, rfl, hty⟩, hsw3, hf3⟩; (obtain ⟨x0, x1, x2, x3, rfl⟩ := four_of hlen); (have s0 := store_one' x0 (ty_ones' hty x0 (by simp))); (have s1 := store_one' x1 (ty_ones' hty x1 (by simp))); (have s2 := store_one' x2 (ty_ones' hty x2 (by simp))); (have s3 := store_one' x3 (ty_ones' hty x3 (by simp))); (obtain ⟨v, tq, rfl⟩ := hf3.ne)) | (go_at_call 28; (with_reducible refine (C3.out _ _ hS _ (hsw3.later (below_new' _ _))).mono ?_); rintro e w5 ⟨rfl, hp5, hsw5⟩; (have hpw5 : Par pb W1 w5 := (hp3.trans (Par.of_below (below_new' _ _))).trans hp5); (have yx : Blk w5 w3.heap.size 27 #[x0, x1, x2, x3] := (hp5.block _ (Blk.new w3 27 #[x0, x1, x2, x3]).lt (by have := hsw3.lt; omega)).trans (Blk.new w3 27 #[x0, x1, x2, x3])); (have y0 := yx.cell 0); (have y1 := yx.cell 1); (have y2 := yx.cell 2); (have y3 := yx.cell 3); (simp only [List.getElem?_toArray, List.getElem?_cons_succ, List.getElem?_cons_zero] at y0 y1 y2 y3); (have hBw5 : Blk w5 W.heap.size 27 #[.int .i64 0, .string ⟨#[]⟩, .int .i64 0, .slice none 0 0] := (hpw5.block _ HRS.out.lt (by omega : ¬ W.heap.size = pb)).trans HRS.out); (have r0w5 := hBw5.cell 0); (have r1w5 := hBw5.cell 1); (have r2w5 := hBw5.cell 2); (have r3w5 := hBw5.cell 3); (simp only [List.getElem?_toArray, List.getElem?_cons_succ, List.getElem?_cons_zero] at r0w5 r1w5 r2w5 r3w5); (have f0w5 := hBw5.frozen 0); (have f1w5 := hBw5.frozen 1); (have f2w5 := hBw5.frozen 2); (have f3w5 := hBw5.frozen 3)))
      have hsz := HSZ.out
      have hty2 := ((hty.wk (B' := W.heap.size + 1) (by omega)).later (Low.of_below (below_new' w3 (.cells #[x0, x1, x2, x3] 27)))).later (Low.of_par hp5 (by omega))
      obtain ⟨w9, hw9⟩ : ∃ w9, (((w5.setCell ⟨W.heap.size, 0, none⟩ (x0)).setCell ⟨W.heap.size, 1, none⟩ (x1)).setCell ⟨W.heap.size, 2, none⟩ (x2)).setCell ⟨W.heap.size, 3, none⟩ (x3) = w9 := ⟨_, rfl⟩
      have hPW := (Par.of_below (pb := pb) HN.out).trans hpw5
      have hB5 := four_set' hBw5 (x0) (x1) (x2) (x3)
      have hb5 := Par.four hPW (Nat.le_refl _) (x0) (x1) (x2) (x3)
      have hS5 := hsw5.four (g := W.heap.size) hlt (x0) (x1) (x2) (x3)
      have hL5 : Low (lowX (W.heap.size + 1)) w5 _ := Low.four (Chg.refl _ _) (.inl (lowX_self _)) (x0) (x1) (x2) (x3)
      rw [hw9] at hB5 hb5 hS5 hL5 ⊢
      have d0 := hB5.cell 0
      have d1 := hB5.cell 1
      have d2 := hB5.cell 2
      have d3 := hB5.cell 3
      simp only [List.getElem?_toArray, List.getElem?_cons_succ, List.getElem?_cons_zero] at d0 d1 d2 d3
      exact bodyPost_ret (v := .agg #[x0, x1, x2, x3]) (by simp [results, Tryd.results81, go_sem, d0, d1, d2, d3]) rfl ⟨hb5, ⟨[x0, x1, x2, x3], rfl, rfl, (hty2.later hL5).wk (by omega)⟩, hS5, hf3⟩
    | true =>
      have C3 := Lib.hid (fun (v : Tk) (tq : List Tk) (hS : seesH sArrow (v :: tq) = true) W2 (hs : PsAt W2 pb (v :: tq) lv) => skip_any pb lv v tq sArrow W2 hs true hS)
      cases hT : T lv ts1.tail with
      | out => exact absurd (by rw [hre, hS, hT]; rfl) HO.out
      | bad c p =>
        obtain rfl : r = .bad c p := by rw [hre, hS, hT]; rfl
        have C4 := Lib.hid (fun (hf : Fine ts1.tail) W2 (hs : PsAt W2 pb ts1.tail lv) => HT pb lv ts1.tail W2 hs hf hlv _ hT (by simp))
        clear hA hre hT
        go_enter Tryd.func81, Tryd.ntmps81
        go_upto_region 1 with fail
        rw [HW1.out]
        go_wp2_with (first | (go_at_call 87; (with_reducible refine (C2.out).mono ?_); rintro e w3 ⟨hp3, ⟨cs, hlen, rfl, hty⟩, hsw3, hf3⟩; (obtain ⟨x0, x1, x2, x3, rfl⟩ := four_of hlen); (have s0 := store_one' x0 (ty_ones' hty x0 (by simp))); (have s1 := store_one' x1 (ty_ones' hty x1 (by simp))); (have s2 := store_one' x2 (ty_ones' hty x2 (by simp))); (have s3 := store_one' x3 (ty_ones' hty x3 (by simp))); (obtain ⟨v, tq, rfl⟩ := hf3.ne)) | (go_at_call 28; (with_reducible refine (C3.out _ _ hS _ (hsw3.later (below_new' _ _))).mono ?_); rintro e w5 ⟨rfl, hp5, hsw5⟩; (have hpw5 : Par pb W1 w5 := (hp3.trans (Par.of_below (below_new' _ _))).trans hp5); (have yx : Blk w5 w3.heap.size 27 #[x0, x1, x2, x3] := (hp5.block _ (Blk.new w3 27 #[x0, x1, x2, x3]).lt (by have := hsw3.lt; omega)).trans (Blk.new w3 27 #[x0, x1, x2, x3])); (have y0 := yx.cell 0); (have y1 := yx.cell 1); (have y2 := yx.cell 2); (have y3 := yx.cell 3); (simp only [List.getElem?_toArray, List.getElem?_cons_succ, List.getElem?_cons_zero] at y0 y1 y2 y3); (have hBw5 : Blk w5 W.heap.size 27 #[.int .i64 0, .string ⟨#[]⟩, .int .i64 0, .slice none 0 0] := (hpw5.block _ HRS.out.lt (by omega : ¬ W.heap.size = pb)).trans HRS.out); (have r0w5 := hBw5.cell 0); (have r1w5 := hBw5.cell 1); (have r2w5 := hBw5.cell 2); (have r3w5 := hBw5.cell 3); (simp only [List.getElem?_toArray, List.getElem?_cons_succ, List.getElem?_cons_zero] at r0w5 r1w5 r2w5 r3w5); (have f0w5 := hBw5.frozen 0); (have f1w5 := hBw5.frozen 1); (have f2w5 := hBw5.frozen 2); (have f3w5 := hBw5.frozen 3)))
        have C4q : ∀ W2, PsAt W2 pb tq lv → Calls Tryd.prog 76 #[.pointer (some ⟨pb, 0, none⟩)] W2 (PaPost pb lv 4 rTy (.bad c p) W2) := fun W2 hs => C4.out (hf3.sees hS) W2 hs
        have hsq : PsAt w5 pb tq lv := hsw5
        have hS0 : w5.drew.cell? ⟨w3.heap.size, 0, none⟩ = some x0 ∧ w5.drew.cell? ⟨w3.heap.size, 1, none⟩ = some x1 ∧ w5.drew.cell? ⟨w3.heap.size, 2, none⟩ = some x2 ∧ w5.drew.cell? ⟨w3.heap.size, 3, none⟩ = some x3 := ⟨y0, y1, y2, y3⟩
        refine wp_region_held_drew (S := fun w' => w'.cell? ⟨w3.heap.size, 0, none⟩ = some x0 ∧ w'.cell? ⟨w3.heap.size, 1, none⟩ = some x1 ∧ w'.cell? ⟨w3.heap.size, 2, none⟩ = some x2 ∧ w'.cell? ⟨w3.heap.size, 3, none⟩ = some x3) (by kernel_rfl) hS0 (fun hHeld => ?_)
        refine takeH' (i := 0) (d := 10) (v := .agg #[x0, x1, x2, x3]) rfl (by kernel_rfl) (by kernel_rfl) (by kernel_rfl) (fun _ _ _ h => h) (Or.inl ⟨by rfl, fun w' hS' => by obtain ⟨q0, q1, q2, q3⟩ := hS'; go_simp⟩) hHeld rfl ?_
        try simp only [Act.put, List.setIfInBounds_toArray, List.set_cons_zero, List.set_cons_succ]
        refine takeH' (i := 1) (d := 11) (v := .pointer (some ⟨pb, 0, none⟩)) rfl (by kernel_rfl) (by kernel_rfl) (by kernel_rfl) (fun _ _ _ h => h) (Or.inl ⟨by rfl, fun w' hS' => by go_simp⟩) hHeld rfl ?_
        try simp only [Act.put, List.setIfInBounds_toArray, List.set_cons_zero, List.set_cons_succ]
        refine wpAnyH_ready (rs := [2]) (by kernel_rfl) (by simp) ?_
        refine AllReadyH.cons rfl (fun K hK => ?_) AllReadyH.nil
        try go_simp
        refine (C4q _ hsq.drew_).mono ?_
        rintro e w6 ⟨hp6, rfl⟩
        exact ⟨rfl, (Par.of_below HN.out).trans (hpw5.trans (Par.drew_ hp6)), rfl⟩
      | ok u ts2 =>
        obtain rfl : r = .ok (.mk 3 sArrow 0 [x, u]) ts2 := by rw [hre, hS, hT]; rfl
        have C4 := Lib.hid (fun (hf : Fine ts1.tail) W2 (hs : PsAt W2 pb ts1.tail lv) => HT pb lv ts1.tail W2 hs hf hlv _ hT (by simp))
        clear hA hre hT
        go_enter Tryd.func81, Tryd.ntmps81
        go_upto_region 1 with fail
        rw [HW1.out]
        go_wp2_with (first | (go_at_call 87; (with_reducible refine (C2.out).mono ?_); rintro e w3 ⟨hp3, ⟨cs, hlen, rfl, hty⟩, hsw3, hf3⟩; (obtain ⟨x0, x1, x2, x3, rfl⟩ := four_of hlen); (have s0 := store_one' x0 (ty_ones' hty x0 (by simp))); (have s1 := store_one' x1 (ty_ones' hty x1 (by simp))); (have s2 := store_one' x2 (ty_ones' hty x2 (by simp))); (have s3 := store_one' x3 (ty_ones' hty x3 (by simp))); (obtain ⟨v, tq, rfl⟩ := hf3.ne)) | (go_at_call 28; (with_reducible refine (C3.out _ _ hS _ (hsw3.later (below_new' _ _))).mono ?_); rintro e w5 ⟨rfl, hp5, hsw5⟩; (have hpw5 : Par pb W1 w5 := (hp3.trans (Par.of_below (below_new' _ _))).trans hp5); (have yx : Blk w5 w3.heap.size 27 #[x0, x1, x2, x3] := (hp5.block _ (Blk.new w3 27 #[x0, x1, x2, x3]).lt (by have := hsw3.lt; omega)).trans (Blk.new w3 27 #[x0, x1, x2, x3])); (have y0 := yx.cell 0); (have y1 := yx.cell 1); (have y2 := yx.cell 2); (have y3 := yx.cell 3); (simp only [List.getElem?_toArray, List.getElem?_cons_succ, List.getElem?_cons_zero] at y0 y1 y2 y3); (have hBw5 : Blk w5 W.heap.size 27 #[.int .i64 0, .string ⟨#[]⟩, .int .i64 0, .slice none 0 0] := (hpw5.block _ HRS.out.lt (by omega : ¬ W.heap.size = pb)).trans HRS.out); (have r0w5 := hBw5.cell 0); (have r1w5 := hBw5.cell 1); (have r2w5 := hBw5.cell 2); (have r3w5 := hBw5.cell 3); (simp only [List.getElem?_toArray, List.getElem?_cons_succ, List.getElem?_cons_zero] at r0w5 r1w5 r2w5 r3w5); (have f0w5 := hBw5.frozen 0); (have f1w5 := hBw5.frozen 1); (have f2w5 := hBw5.frozen 2); (have f3w5 := hBw5.frozen 3)))
        have C4q : ∀ W2, PsAt W2 pb tq lv → Calls Tryd.prog 76 #[.pointer (some ⟨pb, 0, none⟩)] W2 (PaPost pb lv 4 rTy (.ok u ts2) W2) := fun W2 hs => C4.out (hf3.sees hS) W2 hs
        have hsq : PsAt w5 pb tq lv := hsw5
        go_region_with (first | (go_at_call 76; (with_reducible refine (C4q _ (by first | exact hsq.drew_ | exact hsq)).mono ?_); rintro e w6 ⟨hp6, ⟨es, hlen2, rfl, hty2⟩, hsw6, hf6⟩; (obtain ⟨z0, z1, z2, z3, rfl⟩ := four_of hlen2); (have hp6' := Par.drew_ hp6); (have t0 := store_one' z0 (ty_ones' hty2 z0 (by simp))); (have t1 := store_one' z1 (ty_ones' hty2 z1 (by simp))); (have t2 := store_one' z2 (ty_ones' hty2 z2 (by simp))); (have t3 := store_one' z3 (ty_ones' hty2 z3 (by simp))); (have ux : Blk w6 w3.heap.size 27 #[x0, x1, x2, x3] := (hp6'.block _ yx.lt (by have := hsw3.lt; omega)).trans yx); (have u0 := ux.cell 0); (have u1 := ux.cell 1); (have u2 := ux.cell 2); (have u3 := ux.cell 3); (simp only [List.getElem?_toArray, List.getElem?_cons_succ, List.getElem?_cons_zero] at u0 u1 u2 u3); (have hpw6 : Par pb W1 w6 := hpw5.trans hp6'); (have hBw6 : Blk w6 W.heap.size 27 #[.int .i64 0, .string ⟨#[]⟩, .int .i64 0, .slice none 0 0] := (hpw6.block _ HRS.out.lt (by omega : ¬ W.heap.size = pb)).trans HRS.out); (have hB7 := hBw6.alloc (.cells #[x0, x1, x2, x3, z0, z1, z2, z3] 27)); (have r0 := hB7.cell 0); (have r1 := hB7.cell 1); (have r2 := hB7.cell 2); (have r3 := hB7.cell 3); (simp only [List.getElem?_toArray, List.getElem?_cons_succ, List.getElem?_cons_zero] at r0 r1 r2 r3); (have f0 := hB7.frozen 0); (have f1 := hB7.frozen 1); (have f2 := hB7.frozen 2); (have f3 := hB7.frozen 3)))
        all_goals
          go_wp2_with fail
          clear r0 r1 r2 r3 f0 f1 f2 f3
          have hblk := Blk.new w6 27 #[x0, x1, x2, x3, z0, z1, z2, z3]
          have hn67 := below_new' w6 (.cells #[x0, x1, x2, x3, z0, z1, z2, z3] 27)
          obtain ⟨w7, hw7⟩ : ∃ w7, w6.alloc (.cells #[x0, x1, x2, x3, z0, z1, z2, z3] 27) = w7 := ⟨_, rfl⟩
          have hBw7 := hB7
          rw [hw7] at hBw7 hblk hn67 ⊢
          have hpw7 : Par pb W1 w7 := hpw6.trans (Par.of_below hn67)
          have hsw7 := hsw6.later hn67
          have hsz := HSZ.out
          have hz5 := hpw5.size
          have hz6 := hpw6.size
          have hx7 : rTy.M (lowX (W.heap.size + 1)) w7 [x0, x1, x2, x3] x := ((((hty.wk (B' := W.heap.size + 1) (by omega)).later (Low.of_below (below_new' w3 (.cells #[x0, x1, x2, x3] 27)))).later (Low.of_par hp5 (by omega))).later (Low.of_par hp6' (by omega))).later (Low.of_below hn67)
          have hu7 : rTy.M (lowX (W.heap.size + 1)) w7 [z0, z1, z2, z3] u := (hty2.wk (by have h9 : w5.drew.heap.size = w5.heap.size := rfl; omega)).later (Low.of_below hn67)
          have hty7 : rTy.M (lowX (W.heap.size + 1)) w7 [.int .i64 3, .string sArrow, .int .i64 0, .slice (some ⟨w6.heap.size, 0, none⟩) 2 2] (.mk 3 sArrow 0 [x, u]) :=
            TyM.mk_ (ks := [x, u]) (ok_lit _ (by omega) (by omega)) (by simp [ByteArray.size]) (by simp) (by simp [maxLen]) (by simp) ⟨[[x0, x1, x2, x3], [z0, z1, z2, z3]], row_blkM (by simpa using hblk) (by cases hx : lowX (W.heap.size + 1) w6.heap.size with
              | false => rfl
              | true => rw [lowX_iff] at hx; omega) rfl (fun l hl => by simp only [List.mem_cons, List.not_mem_nil, or_false] at hl; rcases hl with rfl | rfl <;> rfl), fun i k1 k2 => by
              match i, k1 with
              | 0, _ => exact hx7
              | 1, _ => exact hu7⟩
          obtain ⟨w9, hw9⟩ : ∃ w9, (((w7.setCell ⟨W.heap.size, 0, none⟩ (.int .i64 3)).setCell ⟨W.heap.size, 1, none⟩ (.string ⟨#[45, 62]⟩)).setCell ⟨W.heap.size, 2, none⟩ (.int .i64 0)).setCell ⟨W.heap.size, 3, none⟩ (.slice (some ⟨w6.heap.size, 0, none⟩) 2 2) = w9 := ⟨_, rfl⟩
          have hPW := (Par.of_below (pb := pb) HN.out).trans hpw7
          have hB5 := four_set' hBw7 (.int .i64 3) (.string ⟨#[45, 62]⟩) (.int .i64 0) (.slice (some ⟨w6.heap.size, 0, none⟩) 2 2)
          have hb5 := Par.four hPW (Nat.le_refl _) (.int .i64 3) (.string ⟨#[45, 62]⟩) (.int .i64 0) (.slice (some ⟨w6.heap.size, 0, none⟩) 2 2)
          have hS5 := hsw7.four (g := W.heap.size) hlt (.int .i64 3) (.string ⟨#[45, 62]⟩) (.int .i64 0) (.slice (some ⟨w6.heap.size, 0, none⟩) 2 2)
          have hL5 : Low (lowX (W.heap.size + 1)) w7 _ := Low.four (Chg.refl _ _) (.inl (lowX_self _)) (.int .i64 3) (.string ⟨#[45, 62]⟩) (.int .i64 0) (.slice (some ⟨w6.heap.size, 0, none⟩) 2 2)
          rw [hw9] at hB5 hb5 hS5 hL5 ⊢
          have d0 := hB5.cell 0
          have d1 := hB5.cell 1
          have d2 := hB5.cell 2
          have d3 := hB5.cell 3
          simp only [List.getElem?_toArray, List.getElem?_cons_succ, List.getElem?_cons_zero] at d0 d1 d2 d3
          exact bodyPost_ret (v := .agg #[.int .i64 3, .string ⟨#[45, 62]⟩, .int .i64 0, .slice (some ⟨w6.heap.size, 0, none⟩) 2 2]) (by simp [results, Tryd.results81, go_sem, d0, d1, d2, d3]) rfl ⟨hb5, ⟨[.int .i64 3, .string ⟨#[45, 62]⟩, .int .i64 0, .slice (some ⟨w6.heap.size, 0, none⟩) 2 2], rfl, rfl, (hty7.later hL5).wk (by omega)⟩, hS5, hf6⟩

end Go.Proofs.YtiiddmioafhmoaaDoor
