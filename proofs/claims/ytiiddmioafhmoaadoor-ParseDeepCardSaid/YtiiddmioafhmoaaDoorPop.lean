/- Walks: an operand, given the function's reader. -/
import Derived.Test.YtiiddmioafhmoaaDoorPbex
namespace Go.Proofs.YtiiddmioafhmoaaDoor
open Go.RowKit
set_option linter.unusedVariables false
set_option linter.unusedSimpArgs false
set_option maxRecDepth 100000

theorem least_ex {S : Nat → Prop} : ∀ m, S m → ∃ m, S m ∧ ∀ k, S k → m ≤ k := by
  intro m
  induction m using Nat.strongRecOn with
  | _ m ih =>
    intro hm
    by_cases hk : ∃ k, k < m ∧ S k
    · obtain ⟨k, h1, h2⟩ := hk; exact ih k h1 h2
    · exact ⟨m, hm, fun k h => by
        rcases Nat.lt_or_ge k m with h1 | h1
        · exact absurd ⟨k, h1, h⟩ hk
        · exact h1⟩
open Classical in
/-- The least number of which S speaks. -/
noncomputable def least (S : Nat → Prop) : Nat := if h : ∃ m, S m ∧ ∀ k, S k → m ≤ k then Classical.choose h else 0
theorem least_spec {S : Nat → Prop} {m : Nat} (h : S m) : S (least S) := by
  have he := least_ex m h
  unfold least
  rw [dif_pos he]
  exact (Classical.choose_spec he).1
theorem least_le {S : Nat → Prop} {m : Nat} (h : S m) : least S ≤ m := by
  have he := least_ex m h
  unfold least
  rw [dif_pos he]
  exact (Classical.choose_spec he).2 m h
abbrev sLam : ByteArray := ⟨#[92]⟩
abbrev sLet : ByteArray := ⟨#[108, 101, 116]⟩
abbrev sIf : ByteArray := ⟨#[105, 102]⟩
def appF (A : List Tk → Res Ex) (q : Int) : Nat → Ex → List Tk → Res Ex
  | 0, _, _ => .out
  | m + 1, e, ts => if seesAtomP ts then (A ts).andThen fun x ts1 => appF A q m (applyE e x q) ts1 else .ok e ts
def operP (L : Nat → Int → List Tk → Res Ex) (E : Nat → List Tk → Res Ex) (T : Nat → List Tk → Res Ty) (P : Nat → List Tk → Res Pt) (lv : Nat) (ts : List Tk) : Res Ex :=
  if seesH sLam ts then L lv (posH ts) ts.tail else if seesH sLet ts then letP E lv (posH ts) ts.tail else if seesH sIf ts then choP E lv (posH ts) ts.tail
  else (atomP E T P lv ts).andThen fun e ts1 => appF (atomP E T P lv) (posH ts) (ts1.length + 1) e ts1
/-- Behind some atoms. -/
def OpInv (A : List Tk → Res Ex) (q : Int) (r : Res Ex) (pb lv R K : Nat) (W1 wr : World) (mm : Nat) : Prop :=
  ∃ (e : Ex) (ts : List Tk) (cs : List Value), r = appF A q mm e ts ∧ Blk wr K 32 cs.toArray ∧ rEx.M (exX (lowX (R + 1)) K) wr cs e ∧ Par pb W1 wr ∧ PsAt wr pb ts lv ∧ Fine ts
set_option maxHeartbeats 6400000 in
theorem oper_any (L : Nat → Int → List Tk → Res Ex) (E : Nat → List Tk → Res Ex) (T : Nat → List Tk → Res Ty) (P : Nat → List Tk → Res Pt) (HE : LvOk rEx 11 7 E) (HT : TyOk 76 T) (HP : LvOk rPt 5 77 P)
    (HL : ∀ (q : Nat), q ≤ 60000 → ∀ (pb lv : Nat) (ts : List Tk) (W : World), PsAt W pb ts lv → Fine ts → lv ≤ 300 → ∀ r, L lv (q : Int) ts = r → r ≠ .out → Calls Tryd.prog 29 #[.pointer (some ⟨pb, 0, none⟩), .int .i64 (q : Int)] W (PaPost pb lv 11 rEx r W))
    (pb lv : Nat) (ts : List Tk) (W : World) (h : PsAt W pb ts lv) (hf : Fine ts) (hlv : lv ≤ 300) (r : Res Ex) (hr : operP L E T P lv ts = r) (ho : r ≠ .out) :
    Calls Tryd.prog 19 #[.pointer (some ⟨pb, 0, none⟩)] W (PaPost pb lv 11 rEx r W) := by
  obtain ⟨t, tl, rfl⟩ := hf.ne
  obtain ⟨W1, hW1⟩ : ∃ W1, W.alloc (.cells #[.int .i64 0, .string ⟨#[]⟩, .int .i64 0, .int .i64 0, .string ⟨#[]⟩, .int .i64 0, .slice none 0 0, .slice none 0 0, .slice none 0 0, .slice none 0 0, .int .i64 0] 32) = W1 := ⟨_, rfl⟩
  have hnew : Below W.heap.size W W1 := by rw [← hW1]; exact (Below.refl _ _).alloc (Nat.le_refl _) _
  have hres : Blk W1 W.heap.size 32 #[.int .i64 0, .string ⟨#[]⟩, .int .i64 0, .int .i64 0, .string ⟨#[]⟩, .int .i64 0, .slice none 0 0, .slice none 0 0, .slice none 0 0, .slice none 0 0, .int .i64 0] := by rw [← hW1]; exact Blk.new _ _ _
  have hs1 := h.later hnew
  have hlt := h.lt
  have hsz : W1.heap.size = W.heap.size + 1 := by rw [← hW1]; simp
  have HW1 := Lib.hid hW1
  have HN := Lib.hid hnew
  have HRS := Lib.hid hres
  have HS1 := Lib.hid hs1
  have HSZ := Lib.hid hsz
  have hp1 : Par pb W1 W1 := Chg.refl _ _
  clear hW1 hnew hres hs1 hsz h
  have HF := Lib.hid hf
  have HO := Lib.hid ho
  have HR := Lib.hid hr
  have hgood := hf.good t (by simp)
  have HPOS := Lib.hid (show ok64 (t.pos : Int) from ok_lit _ (by omega) (by have := hgood.2.2; omega))
  have HPN := Lib.hid (show t.pos ≤ 60000 from hgood.2.2)
  clear hf hr ho hgood
  have hf3 := field_tk3
  have CA := Lib.hid (ahead_any pb lv t tl W1 HS1.out)
  cases b0 : seesB t sLam with
  | true =>
    have hre : operP L E T P lv (t :: tl) = L lv t.pos tl := by unfold operP; simp [seesH_cons, posH_cons, b0]
    rw [hre] at HR
    have D0 := Lib.hid (fun W2 (hs : PsAt W2 pb (t :: tl) lv) => skip_any pb lv t tl sLam W2 hs true b0)
    have HFT := Lib.hid (HF.out.tail_ (seesB_kind b0))
    have CC := Lib.hid (fun W2 (hs : PsAt W2 pb tl lv) => HL t.pos HPN.out pb lv tl W2 hs HFT.out hlv r HR.out HO.out)
    clear hre b0
    cases r with
    | out => exact absurd rfl HO.out
    | bad c p =>
      go_enter Tryd.func19, Tryd.ntmps19
      go_upto_region 1 with fail
      rw [HW1.out]
      go_wp2_with (first | (go_at_call 16; (with_reducible refine CA.out.mono ?_); rintro e w2 ⟨rfl, hb2⟩; rw [tk_cells]; (have hpw2 : Par pb W1 w2 := Par.of_below hb2); (have hsw2 := HS1.out.later hb2)) | (go_at_call 28; (with_reducible refine (D0.out _ hsw2).mono ?_); rintro e w3 ⟨rfl, hp3, hsw3⟩; (have hpw3 : Par pb W1 w3 := hpw2.trans hp3)) | (go_at_call 29; (with_reducible refine (CC.out _ hsw3).mono ?_); rintro e w9 ⟨hp9, rfl⟩))
      exact ⟨rfl, (Par.of_below HN.out).trans (hpw3.trans hp9), rfl⟩
    | ok x ts2 =>
      go_enter Tryd.func19, Tryd.ntmps19
      go_upto_region 1 with fail
      rw [HW1.out]
      go_wp2_with (first | (go_at_call 16; (with_reducible refine CA.out.mono ?_); rintro e w2 ⟨rfl, hb2⟩; rw [tk_cells]; (have hpw2 : Par pb W1 w2 := Par.of_below hb2); (have hsw2 := HS1.out.later hb2)) | (go_at_call 28; (with_reducible refine (D0.out _ hsw2).mono ?_); rintro e w3 ⟨rfl, hp3, hsw3⟩; (have hpw3 : Par pb W1 w3 := hpw2.trans hp3)) | (go_at_call 29; (with_reducible refine (CC.out _ hsw3).mono ?_); rintro e w8 ⟨hp8, ⟨cs, hlen, rfl, hty⟩, hsw8, hf8⟩; (obtain ⟨x0, x1, x2, x3, x4, x5, x6, x7, x8, x9, x10, rfl⟩ := eleven_of hlen); (have s0 := store_one' x0 (ex_ones' hty x0 (by simp))); (have s1 := store_one' x1 (ex_ones' hty x1 (by simp))); (have s2 := store_one' x2 (ex_ones' hty x2 (by simp))); (have s3 := store_one' x3 (ex_ones' hty x3 (by simp))); (have s4 := store_one' x4 (ex_ones' hty x4 (by simp))); (have s5 := store_one' x5 (ex_ones' hty x5 (by simp))); (have s6 := store_one' x6 (ex_ones' hty x6 (by simp))); (have s7 := store_one' x7 (ex_ones' hty x7 (by simp))); (have s8 := store_one' x8 (ex_ones' hty x8 (by simp))); (have s9 := store_one' x9 (ex_ones' hty x9 (by simp))); (have s10 := store_one' x10 (ex_ones' hty x10 (by simp))); (have hpw8 : Par pb W1 w8 := hpw3.trans hp8); (have hBw8 : Blk w8 W.heap.size 32 #[.int .i64 0, .string ⟨#[]⟩, .int .i64 0, .int .i64 0, .string ⟨#[]⟩, .int .i64 0, .slice none 0 0, .slice none 0 0, .slice none 0 0, .slice none 0 0, .int .i64 0] := (hpw8.block _ HRS.out.lt (by omega : ¬ W.heap.size = pb)).trans HRS.out); (have r0w8 := hBw8.cell 0); (have r1w8 := hBw8.cell 1); (have r2w8 := hBw8.cell 2); (have r3w8 := hBw8.cell 3); (have r4w8 := hBw8.cell 4); (have r5w8 := hBw8.cell 5); (have r6w8 := hBw8.cell 6); (have r7w8 := hBw8.cell 7); (have r8w8 := hBw8.cell 8); (have r9w8 := hBw8.cell 9); (have r10w8 := hBw8.cell 10); (simp only [List.getElem?_toArray, List.getElem?_cons_succ, List.getElem?_cons_zero] at r0w8 r1w8 r2w8 r3w8 r4w8 r5w8 r6w8 r7w8 r8w8 r9w8 r10w8); (have f0w8 := hBw8.frozen 0); (have f1w8 := hBw8.frozen 1); (have f2w8 := hBw8.frozen 2); (have f3w8 := hBw8.frozen 3); (have f4w8 := hBw8.frozen 4); (have f5w8 := hBw8.frozen 5); (have f6w8 := hBw8.frozen 6); (have f7w8 := hBw8.frozen 7); (have f8w8 := hBw8.frozen 8); (have f9w8 := hBw8.frozen 9); (have f10w8 := hBw8.frozen 10)))
      have hsz := HSZ.out
      have hzz := hpw3.size
      have hty8 := hty.wk (B' := W.heap.size + 1) (by omega)
      obtain ⟨w9, hw9⟩ : ∃ w9, (((((((((((w8).setCell ⟨W.heap.size, 0, none⟩ (x0)).setCell ⟨W.heap.size, 1, none⟩ (x1)).setCell ⟨W.heap.size, 2, none⟩ (x2)).setCell ⟨W.heap.size, 3, none⟩ (x3)).setCell ⟨W.heap.size, 4, none⟩ (x4)).setCell ⟨W.heap.size, 5, none⟩ (x5)).setCell ⟨W.heap.size, 6, none⟩ (x6)).setCell ⟨W.heap.size, 7, none⟩ (x7)).setCell ⟨W.heap.size, 8, none⟩ (x8)).setCell ⟨W.heap.size, 9, none⟩ (x9)).setCell ⟨W.heap.size, 10, none⟩ (x10) = w9 := ⟨_, rfl⟩
      have hPW := (Par.of_below (pb := pb) HN.out).trans hpw8
      have hB9 := set11 hBw8 (x0) (x1) (x2) (x3) (x4) (x5) (x6) (x7) (x8) (x9) (x10)
      have hb9 := Par.set11 hPW (Nat.le_refl _) (x0) (x1) (x2) (x3) (x4) (x5) (x6) (x7) (x8) (x9) (x10)
      have hS9 := PsAt.set11 hsw8 (g := W.heap.size) hlt (x0) (x1) (x2) (x3) (x4) (x5) (x6) (x7) (x8) (x9) (x10)
      have hL9 : Low (lowX (W.heap.size + 1)) w8 _ := Low.set11 (Chg.refl _ _) (.inl (lowX_self _)) (x0) (x1) (x2) (x3) (x4) (x5) (x6) (x7) (x8) (x9) (x10)
      rw [hw9] at hB9 hb9 hS9 hL9 ⊢
      have d0 := hB9.cell 0
      have d1 := hB9.cell 1
      have d2 := hB9.cell 2
      have d3 := hB9.cell 3
      have d4 := hB9.cell 4
      have d5 := hB9.cell 5
      have d6 := hB9.cell 6
      have d7 := hB9.cell 7
      have d8 := hB9.cell 8
      have d9 := hB9.cell 9
      have d10 := hB9.cell 10
      simp only [List.getElem?_toArray, List.getElem?_cons_succ, List.getElem?_cons_zero] at d0 d1 d2 d3 d4 d5 d6 d7 d8 d9 d10
      exact bodyPost_ret (v := .agg #[x0, x1, x2, x3, x4, x5, x6, x7, x8, x9, x10]) (by simp [results, Tryd.results19, go_sem, d0, d1, d2, d3, d4, d5, d6, d7, d8, d9, d10]) rfl ⟨hb9, ⟨[x0, x1, x2, x3, x4, x5, x6, x7, x8, x9, x10], rfl, rfl, (hty8.later hL9).wk (by omega)⟩, hS9, hf8⟩
  | false =>
    have D0 := Lib.hid (fun W2 (hs : PsAt W2 pb (t :: tl) lv) => skip_any pb lv t tl sLam W2 hs false b0)
    cases b1 : seesB t sLet with
    | true =>
      have hre : operP L E T P lv (t :: tl) = letP E lv t.pos tl := by unfold operP; simp [seesH_cons, posH_cons, b0, b1]
      rw [hre] at HR
      have D1 := Lib.hid (fun W2 (hs : PsAt W2 pb (t :: tl) lv) => skip_any pb lv t tl sLet W2 hs true b1)
      have HFT := Lib.hid (HF.out.tail_ (seesB_kind b1))
      have CC := Lib.hid (fun W2 (hs : PsAt W2 pb tl lv) => let_any E HE t.pos HPOS.out pb lv tl W2 hs HFT.out hlv r HR.out HO.out)
      clear hre b0 b1
      cases r with
      | out => exact absurd rfl HO.out
      | bad c p =>
        go_enter Tryd.func19, Tryd.ntmps19
        go_upto_region 1 with fail
        rw [HW1.out]
        go_wp2_with (first | (go_at_call 16; (with_reducible refine CA.out.mono ?_); rintro e w2 ⟨rfl, hb2⟩; rw [tk_cells]; (have hpw2 : Par pb W1 w2 := Par.of_below hb2); (have hsw2 := HS1.out.later hb2)) | (go_at_call 28; (with_reducible refine (D0.out _ hsw2).mono ?_); rintro e w3 ⟨rfl, hp3, hsw3⟩; (have hpw3 : Par pb W1 w3 := hpw2.trans hp3)) | (go_at_call 28; (with_reducible refine (D1.out _ hsw3).mono ?_); rintro e w4 ⟨rfl, hp4, hsw4⟩; (have hpw4 : Par pb W1 w4 := hpw3.trans hp4)) | (go_at_call 30; (with_reducible refine (CC.out _ hsw4).mono ?_); rintro e w9 ⟨hp9, rfl⟩))
        exact ⟨rfl, (Par.of_below HN.out).trans (hpw4.trans hp9), rfl⟩
      | ok x ts2 =>
        go_enter Tryd.func19, Tryd.ntmps19
        go_upto_region 1 with fail
        rw [HW1.out]
        go_wp2_with (first | (go_at_call 16; (with_reducible refine CA.out.mono ?_); rintro e w2 ⟨rfl, hb2⟩; rw [tk_cells]; (have hpw2 : Par pb W1 w2 := Par.of_below hb2); (have hsw2 := HS1.out.later hb2)) | (go_at_call 28; (with_reducible refine (D0.out _ hsw2).mono ?_); rintro e w3 ⟨rfl, hp3, hsw3⟩; (have hpw3 : Par pb W1 w3 := hpw2.trans hp3)) | (go_at_call 28; (with_reducible refine (D1.out _ hsw3).mono ?_); rintro e w4 ⟨rfl, hp4, hsw4⟩; (have hpw4 : Par pb W1 w4 := hpw3.trans hp4)) | (go_at_call 30; (with_reducible refine (CC.out _ hsw4).mono ?_); rintro e w8 ⟨hp8, ⟨cs, hlen, rfl, hty⟩, hsw8, hf8⟩; (obtain ⟨x0, x1, x2, x3, x4, x5, x6, x7, x8, x9, x10, rfl⟩ := eleven_of hlen); (have s0 := store_one' x0 (ex_ones' hty x0 (by simp))); (have s1 := store_one' x1 (ex_ones' hty x1 (by simp))); (have s2 := store_one' x2 (ex_ones' hty x2 (by simp))); (have s3 := store_one' x3 (ex_ones' hty x3 (by simp))); (have s4 := store_one' x4 (ex_ones' hty x4 (by simp))); (have s5 := store_one' x5 (ex_ones' hty x5 (by simp))); (have s6 := store_one' x6 (ex_ones' hty x6 (by simp))); (have s7 := store_one' x7 (ex_ones' hty x7 (by simp))); (have s8 := store_one' x8 (ex_ones' hty x8 (by simp))); (have s9 := store_one' x9 (ex_ones' hty x9 (by simp))); (have s10 := store_one' x10 (ex_ones' hty x10 (by simp))); (have hpw8 : Par pb W1 w8 := hpw4.trans hp8); (have hBw8 : Blk w8 W.heap.size 32 #[.int .i64 0, .string ⟨#[]⟩, .int .i64 0, .int .i64 0, .string ⟨#[]⟩, .int .i64 0, .slice none 0 0, .slice none 0 0, .slice none 0 0, .slice none 0 0, .int .i64 0] := (hpw8.block _ HRS.out.lt (by omega : ¬ W.heap.size = pb)).trans HRS.out); (have r0w8 := hBw8.cell 0); (have r1w8 := hBw8.cell 1); (have r2w8 := hBw8.cell 2); (have r3w8 := hBw8.cell 3); (have r4w8 := hBw8.cell 4); (have r5w8 := hBw8.cell 5); (have r6w8 := hBw8.cell 6); (have r7w8 := hBw8.cell 7); (have r8w8 := hBw8.cell 8); (have r9w8 := hBw8.cell 9); (have r10w8 := hBw8.cell 10); (simp only [List.getElem?_toArray, List.getElem?_cons_succ, List.getElem?_cons_zero] at r0w8 r1w8 r2w8 r3w8 r4w8 r5w8 r6w8 r7w8 r8w8 r9w8 r10w8); (have f0w8 := hBw8.frozen 0); (have f1w8 := hBw8.frozen 1); (have f2w8 := hBw8.frozen 2); (have f3w8 := hBw8.frozen 3); (have f4w8 := hBw8.frozen 4); (have f5w8 := hBw8.frozen 5); (have f6w8 := hBw8.frozen 6); (have f7w8 := hBw8.frozen 7); (have f8w8 := hBw8.frozen 8); (have f9w8 := hBw8.frozen 9); (have f10w8 := hBw8.frozen 10)))
        have hsz := HSZ.out
        have hzz := hpw4.size
        have hty8 := hty.wk (B' := W.heap.size + 1) (by omega)
        obtain ⟨w9, hw9⟩ : ∃ w9, (((((((((((w8).setCell ⟨W.heap.size, 0, none⟩ (x0)).setCell ⟨W.heap.size, 1, none⟩ (x1)).setCell ⟨W.heap.size, 2, none⟩ (x2)).setCell ⟨W.heap.size, 3, none⟩ (x3)).setCell ⟨W.heap.size, 4, none⟩ (x4)).setCell ⟨W.heap.size, 5, none⟩ (x5)).setCell ⟨W.heap.size, 6, none⟩ (x6)).setCell ⟨W.heap.size, 7, none⟩ (x7)).setCell ⟨W.heap.size, 8, none⟩ (x8)).setCell ⟨W.heap.size, 9, none⟩ (x9)).setCell ⟨W.heap.size, 10, none⟩ (x10) = w9 := ⟨_, rfl⟩
        have hPW := (Par.of_below (pb := pb) HN.out).trans hpw8
        have hB9 := set11 hBw8 (x0) (x1) (x2) (x3) (x4) (x5) (x6) (x7) (x8) (x9) (x10)
        have hb9 := Par.set11 hPW (Nat.le_refl _) (x0) (x1) (x2) (x3) (x4) (x5) (x6) (x7) (x8) (x9) (x10)
        have hS9 := PsAt.set11 hsw8 (g := W.heap.size) hlt (x0) (x1) (x2) (x3) (x4) (x5) (x6) (x7) (x8) (x9) (x10)
        have hL9 : Low (lowX (W.heap.size + 1)) w8 _ := Low.set11 (Chg.refl _ _) (.inl (lowX_self _)) (x0) (x1) (x2) (x3) (x4) (x5) (x6) (x7) (x8) (x9) (x10)
        rw [hw9] at hB9 hb9 hS9 hL9 ⊢
        have d0 := hB9.cell 0
        have d1 := hB9.cell 1
        have d2 := hB9.cell 2
        have d3 := hB9.cell 3
        have d4 := hB9.cell 4
        have d5 := hB9.cell 5
        have d6 := hB9.cell 6
        have d7 := hB9.cell 7
        have d8 := hB9.cell 8
        have d9 := hB9.cell 9
        have d10 := hB9.cell 10
        simp only [List.getElem?_toArray, List.getElem?_cons_succ, List.getElem?_cons_zero] at d0 d1 d2 d3 d4 d5 d6 d7 d8 d9 d10
        exact bodyPost_ret (v := .agg #[x0, x1, x2, x3, x4, x5, x6, x7, x8, x9, x10]) (by simp [results, Tryd.results19, go_sem, d0, d1, d2, d3, d4, d5, d6, d7, d8, d9, d10]) rfl ⟨hb9, ⟨[x0, x1, x2, x3, x4, x5, x6, x7, x8, x9, x10], rfl, rfl, (hty8.later hL9).wk (by omega)⟩, hS9, hf8⟩
    | false =>
      have D1 := Lib.hid (fun W2 (hs : PsAt W2 pb (t :: tl) lv) => skip_any pb lv t tl sLet W2 hs false b1)
      cases b2 : seesB t sIf with
      | true =>
        have hre : operP L E T P lv (t :: tl) = choP E lv t.pos tl := by unfold operP; simp [seesH_cons, posH_cons, b0, b1, b2]
        rw [hre] at HR
        have D2 := Lib.hid (fun W2 (hs : PsAt W2 pb (t :: tl) lv) => skip_any pb lv t tl sIf W2 hs true b2)
        have HFT := Lib.hid (HF.out.tail_ (seesB_kind b2))
        have CC := Lib.hid (fun W2 (hs : PsAt W2 pb tl lv) => choice_any E HE t.pos HPOS.out pb lv tl W2 hs HFT.out hlv r HR.out HO.out)
        clear hre b0 b1 b2
        cases r with
        | out => exact absurd rfl HO.out
        | bad c p =>
          go_enter Tryd.func19, Tryd.ntmps19
          go_upto_region 1 with fail
          rw [HW1.out]
          go_wp2_with (first | (go_at_call 16; (with_reducible refine CA.out.mono ?_); rintro e w2 ⟨rfl, hb2⟩; rw [tk_cells]; (have hpw2 : Par pb W1 w2 := Par.of_below hb2); (have hsw2 := HS1.out.later hb2)) | (go_at_call 28; (with_reducible refine (D0.out _ hsw2).mono ?_); rintro e w3 ⟨rfl, hp3, hsw3⟩; (have hpw3 : Par pb W1 w3 := hpw2.trans hp3)) | (go_at_call 28; (with_reducible refine (D1.out _ hsw3).mono ?_); rintro e w4 ⟨rfl, hp4, hsw4⟩; (have hpw4 : Par pb W1 w4 := hpw3.trans hp4)) | (go_at_call 28; (with_reducible refine (D2.out _ hsw4).mono ?_); rintro e w5 ⟨rfl, hp5, hsw5⟩; (have hpw5 : Par pb W1 w5 := hpw4.trans hp5)) | (go_at_call 31; (with_reducible refine (CC.out _ hsw5).mono ?_); rintro e w9 ⟨hp9, rfl⟩))
          exact ⟨rfl, (Par.of_below HN.out).trans (hpw5.trans hp9), rfl⟩
        | ok x ts2 =>
          go_enter Tryd.func19, Tryd.ntmps19
          go_upto_region 1 with fail
          rw [HW1.out]
          go_wp2_with (first | (go_at_call 16; (with_reducible refine CA.out.mono ?_); rintro e w2 ⟨rfl, hb2⟩; rw [tk_cells]; (have hpw2 : Par pb W1 w2 := Par.of_below hb2); (have hsw2 := HS1.out.later hb2)) | (go_at_call 28; (with_reducible refine (D0.out _ hsw2).mono ?_); rintro e w3 ⟨rfl, hp3, hsw3⟩; (have hpw3 : Par pb W1 w3 := hpw2.trans hp3)) | (go_at_call 28; (with_reducible refine (D1.out _ hsw3).mono ?_); rintro e w4 ⟨rfl, hp4, hsw4⟩; (have hpw4 : Par pb W1 w4 := hpw3.trans hp4)) | (go_at_call 28; (with_reducible refine (D2.out _ hsw4).mono ?_); rintro e w5 ⟨rfl, hp5, hsw5⟩; (have hpw5 : Par pb W1 w5 := hpw4.trans hp5)) | (go_at_call 31; (with_reducible refine (CC.out _ hsw5).mono ?_); rintro e w8 ⟨hp8, ⟨cs, hlen, rfl, hty⟩, hsw8, hf8⟩; (obtain ⟨x0, x1, x2, x3, x4, x5, x6, x7, x8, x9, x10, rfl⟩ := eleven_of hlen); (have s0 := store_one' x0 (ex_ones' hty x0 (by simp))); (have s1 := store_one' x1 (ex_ones' hty x1 (by simp))); (have s2 := store_one' x2 (ex_ones' hty x2 (by simp))); (have s3 := store_one' x3 (ex_ones' hty x3 (by simp))); (have s4 := store_one' x4 (ex_ones' hty x4 (by simp))); (have s5 := store_one' x5 (ex_ones' hty x5 (by simp))); (have s6 := store_one' x6 (ex_ones' hty x6 (by simp))); (have s7 := store_one' x7 (ex_ones' hty x7 (by simp))); (have s8 := store_one' x8 (ex_ones' hty x8 (by simp))); (have s9 := store_one' x9 (ex_ones' hty x9 (by simp))); (have s10 := store_one' x10 (ex_ones' hty x10 (by simp))); (have hpw8 : Par pb W1 w8 := hpw5.trans hp8); (have hBw8 : Blk w8 W.heap.size 32 #[.int .i64 0, .string ⟨#[]⟩, .int .i64 0, .int .i64 0, .string ⟨#[]⟩, .int .i64 0, .slice none 0 0, .slice none 0 0, .slice none 0 0, .slice none 0 0, .int .i64 0] := (hpw8.block _ HRS.out.lt (by omega : ¬ W.heap.size = pb)).trans HRS.out); (have r0w8 := hBw8.cell 0); (have r1w8 := hBw8.cell 1); (have r2w8 := hBw8.cell 2); (have r3w8 := hBw8.cell 3); (have r4w8 := hBw8.cell 4); (have r5w8 := hBw8.cell 5); (have r6w8 := hBw8.cell 6); (have r7w8 := hBw8.cell 7); (have r8w8 := hBw8.cell 8); (have r9w8 := hBw8.cell 9); (have r10w8 := hBw8.cell 10); (simp only [List.getElem?_toArray, List.getElem?_cons_succ, List.getElem?_cons_zero] at r0w8 r1w8 r2w8 r3w8 r4w8 r5w8 r6w8 r7w8 r8w8 r9w8 r10w8); (have f0w8 := hBw8.frozen 0); (have f1w8 := hBw8.frozen 1); (have f2w8 := hBw8.frozen 2); (have f3w8 := hBw8.frozen 3); (have f4w8 := hBw8.frozen 4); (have f5w8 := hBw8.frozen 5); (have f6w8 := hBw8.frozen 6); (have f7w8 := hBw8.frozen 7); (have f8w8 := hBw8.frozen 8); (have f9w8 := hBw8.frozen 9); (have f10w8 := hBw8.frozen 10)))
          have hsz := HSZ.out
          have hzz := hpw5.size
          have hty8 := hty.wk (B' := W.heap.size + 1) (by omega)
          obtain ⟨w9, hw9⟩ : ∃ w9, (((((((((((w8).setCell ⟨W.heap.size, 0, none⟩ (x0)).setCell ⟨W.heap.size, 1, none⟩ (x1)).setCell ⟨W.heap.size, 2, none⟩ (x2)).setCell ⟨W.heap.size, 3, none⟩ (x3)).setCell ⟨W.heap.size, 4, none⟩ (x4)).setCell ⟨W.heap.size, 5, none⟩ (x5)).setCell ⟨W.heap.size, 6, none⟩ (x6)).setCell ⟨W.heap.size, 7, none⟩ (x7)).setCell ⟨W.heap.size, 8, none⟩ (x8)).setCell ⟨W.heap.size, 9, none⟩ (x9)).setCell ⟨W.heap.size, 10, none⟩ (x10) = w9 := ⟨_, rfl⟩
          have hPW := (Par.of_below (pb := pb) HN.out).trans hpw8
          have hB9 := set11 hBw8 (x0) (x1) (x2) (x3) (x4) (x5) (x6) (x7) (x8) (x9) (x10)
          have hb9 := Par.set11 hPW (Nat.le_refl _) (x0) (x1) (x2) (x3) (x4) (x5) (x6) (x7) (x8) (x9) (x10)
          have hS9 := PsAt.set11 hsw8 (g := W.heap.size) hlt (x0) (x1) (x2) (x3) (x4) (x5) (x6) (x7) (x8) (x9) (x10)
          have hL9 : Low (lowX (W.heap.size + 1)) w8 _ := Low.set11 (Chg.refl _ _) (.inl (lowX_self _)) (x0) (x1) (x2) (x3) (x4) (x5) (x6) (x7) (x8) (x9) (x10)
          rw [hw9] at hB9 hb9 hS9 hL9 ⊢
          have d0 := hB9.cell 0
          have d1 := hB9.cell 1
          have d2 := hB9.cell 2
          have d3 := hB9.cell 3
          have d4 := hB9.cell 4
          have d5 := hB9.cell 5
          have d6 := hB9.cell 6
          have d7 := hB9.cell 7
          have d8 := hB9.cell 8
          have d9 := hB9.cell 9
          have d10 := hB9.cell 10
          simp only [List.getElem?_toArray, List.getElem?_cons_succ, List.getElem?_cons_zero] at d0 d1 d2 d3 d4 d5 d6 d7 d8 d9 d10
          exact bodyPost_ret (v := .agg #[x0, x1, x2, x3, x4, x5, x6, x7, x8, x9, x10]) (by simp [results, Tryd.results19, go_sem, d0, d1, d2, d3, d4, d5, d6, d7, d8, d9, d10]) rfl ⟨hb9, ⟨[x0, x1, x2, x3, x4, x5, x6, x7, x8, x9, x10], rfl, rfl, (hty8.later hL9).wk (by omega)⟩, hS9, hf8⟩
      | false =>
        have D2 := Lib.hid (fun W2 (hs : PsAt W2 pb (t :: tl) lv) => skip_any pb lv t tl sIf W2 hs false b2)
        have hre : operP L E T P lv (t :: tl) = (atomP E T P lv (t :: tl)).andThen fun e ts1 => appF (atomP E T P lv) t.pos (ts1.length + 1) e ts1 := by unfold operP; simp [seesH_cons, posH_cons, b0, b1, b2]
        rw [hre] at HR
        clear hre b0 b1 b2
        have HAT := Lib.hid (fun (ts : List Tk) W2 (hs : PsAt W2 pb ts lv) (hf : Fine ts) r (hr : atomP E T P lv ts = r) (ho : r ≠ .out) => atom_any E T P HE HT HP pb lv ts W2 hs hf hlv r hr ho)
        obtain ⟨A, hAA⟩ : ∃ A, atomP E T P lv = A := ⟨_, rfl⟩
        rw [hAA] at HR HAT
        clear hAA
        cases hA : A (t :: tl) with
        | out => exact absurd (by rw [← HR.out, hA]; rfl) HO.out
        | bad c p =>
          obtain rfl : r = .bad c p := by rw [← HR.out, hA]; rfl
          have CC := Lib.hid (fun W2 (hs : PsAt W2 pb (t :: tl) lv) => HAT.out (t :: tl) W2 hs HF.out _ hA (by simp))
          go_enter Tryd.func19, Tryd.ntmps19
          go_upto_region 1 with fail
          rw [HW1.out]
          go_wp2_with (first | (go_at_call 16; (with_reducible refine CA.out.mono ?_); rintro e w2 ⟨rfl, hb2⟩; rw [tk_cells]; (have hpw2 : Par pb W1 w2 := Par.of_below hb2); (have hsw2 := HS1.out.later hb2)) | (go_at_call 28; (with_reducible refine (D0.out _ hsw2).mono ?_); rintro e w3 ⟨rfl, hp3, hsw3⟩; (have hpw3 : Par pb W1 w3 := hpw2.trans hp3)) | (go_at_call 28; (with_reducible refine (D1.out _ hsw3).mono ?_); rintro e w4 ⟨rfl, hp4, hsw4⟩; (have hpw4 : Par pb W1 w4 := hpw3.trans hp4)) | (go_at_call 28; (with_reducible refine (D2.out _ hsw4).mono ?_); rintro e w5 ⟨rfl, hp5, hsw5⟩; (have hpw5 : Par pb W1 w5 := hpw4.trans hp5)) | (go_at_call 32; (with_reducible refine (CC.out _ hsw5).mono ?_); rintro e w9 ⟨hp9, rfl⟩))
          exact ⟨rfl, (Par.of_below HN.out).trans (hpw5.trans hp9), rfl⟩
        | ok e0 ts0 =>
          have CC := Lib.hid (fun W2 (hs : PsAt W2 pb (t :: tl) lv) => HAT.out (t :: tl) W2 hs HF.out _ hA (by simp))
          have HR1 := Lib.hid (show r = appF A t.pos (ts0.length + 1) e0 ts0 by rw [← HR.out, hA]; rfl)
          clear hA
          go_enter Tryd.func19, Tryd.ntmps19
          go_upto_region 1 with fail
          rw [HW1.out]
          go_wp2_with (first | (go_at_call 16; (with_reducible refine CA.out.mono ?_); rintro e w2 ⟨rfl, hb2⟩; rw [tk_cells]; (have hpw2 : Par pb W1 w2 := Par.of_below hb2); (have hsw2 := HS1.out.later hb2)) | (go_at_call 28; (with_reducible refine (D0.out _ hsw2).mono ?_); rintro e w3 ⟨rfl, hp3, hsw3⟩; (have hpw3 : Par pb W1 w3 := hpw2.trans hp3)) | (go_at_call 28; (with_reducible refine (D1.out _ hsw3).mono ?_); rintro e w4 ⟨rfl, hp4, hsw4⟩; (have hpw4 : Par pb W1 w4 := hpw3.trans hp4)) | (go_at_call 28; (with_reducible refine (D2.out _ hsw4).mono ?_); rintro e w5 ⟨rfl, hp5, hsw5⟩; (have hpw5 : Par pb W1 w5 := hpw4.trans hp5)) | (go_at_call 32; (with_reducible refine (CC.out _ hsw5).mono ?_); rintro e w6 ⟨hp6, ⟨cs, hlen, rfl, hty⟩, hsw6, hf6⟩; (obtain ⟨x0, x1, x2, x3, x4, x5, x6, x7, x8, x9, x10, rfl⟩ := eleven_of hlen); (have s0 := store_one' x0 (ex_ones' hty x0 (by simp))); (have s1 := store_one' x1 (ex_ones' hty x1 (by simp))); (have s2 := store_one' x2 (ex_ones' hty x2 (by simp))); (have s3 := store_one' x3 (ex_ones' hty x3 (by simp))); (have s4 := store_one' x4 (ex_ones' hty x4 (by simp))); (have s5 := store_one' x5 (ex_ones' hty x5 (by simp))); (have s6 := store_one' x6 (ex_ones' hty x6 (by simp))); (have s7 := store_one' x7 (ex_ones' hty x7 (by simp))); (have s8 := store_one' x8 (ex_ones' hty x8 (by simp))); (have s9 := store_one' x9 (ex_ones' hty x9 (by simp))); (have s10 := store_one' x10 (ex_ones' hty x10 (by simp)))))
          have hsz := HSZ.out
          have hz6 := (hpw5.trans hp6).size
          obtain ⟨w7, hw7⟩ : ∃ w7, w6.alloc (.cells #[x0, x1, x2, x3, x4, x5, x6, x7, x8, x9, x10] 32) = w7 := ⟨_, rfl⟩
          have hn7 : Below w6.heap.size w6 w7 := by rw [← hw7]; exact below_new' _ _
          have hx7 : Blk w7 w6.heap.size 32 #[x0, x1, x2, x3, x4, x5, x6, x7, x8, x9, x10] := by rw [← hw7]; exact Blk.new _ _ _
          rw [hw7]
          clear hw7
          obtain ⟨K, hK⟩ : ∃ K, w6.heap.size = K := ⟨_, rfl⟩
          have hlt6 := hsw6.lt
          rw [hK] at hx7 hz6 hlt6 ⊢
          have HI0 := Lib.hid (show OpInv A t.pos r pb lv W.heap.size K W1 w7 (ts0.length + 1) from ⟨e0, ts0, [x0, x1, x2, x3, x4, x5, x6, x7, x8, x9, x10], HR1.out, hx7, ((hty.wk (B' := W.heap.size + 1) (by have := hpw5.size; omega)).to_exX (by omega)).later (Low.of_below hn7), (hpw5.trans hp6).trans (Par.of_below hn7), hsw6.later hn7, hf6⟩)
          clear hx7 hty
          go_loopw [37] (fun v wr => ∃ mm, OpInv A t.pos r pb lv W.heap.size K W1 wr mm) (fun v wr => least (OpInv A t.pos r pb lv W.heap.size K W1 wr))
          case atStart => exact ⟨_, HI0.out⟩
          case round =>
            obtain ⟨m0, hm0⟩ := hrel
            have hinv := least_spec hm0
            obtain ⟨mm, hmm⟩ : ∃ mm, least (OpInv A t.pos r pb lv W.heap.size K W1 wr) = mm := ⟨_, rfl⟩
            have HMM := Lib.hid hmm
            rw [hmm] at hinv
            clear hm0 hmm
            obtain ⟨e, ts', cs0, hrr, hbK, hme, hpar, hps, hfi⟩ := hinv
            obtain ⟨c0, c1, c2, c3, c4, c5, c6, c7, c8, c9, c10, rfl⟩ := eleven_of (ex_len' hme)
            obtain ⟨u, tu, rfl⟩ := hfi.ne
            have HPAR := Lib.hid hpar
            have HPS := Lib.hid hps
            have HFI := Lib.hid hfi
            have HR2 := Lib.hid hrr
            have HME := Lib.hid hme
            have HBK := Lib.hid hbK
            have hwz : W1.heap.size ≤ wr.heap.size := hpar.size
            clear hrr hbK hpar hps hfi
            (have s0 := store_one' c0 (ex_ones' hme c0 (by simp)))
            (have s1 := store_one' c1 (ex_ones' hme c1 (by simp)))
            (have s2 := store_one' c2 (ex_ones' hme c2 (by simp)))
            (have s3 := store_one' c3 (ex_ones' hme c3 (by simp)))
            (have s4 := store_one' c4 (ex_ones' hme c4 (by simp)))
            (have s5 := store_one' c5 (ex_ones' hme c5 (by simp)))
            (have s6 := store_one' c6 (ex_ones' hme c6 (by simp)))
            (have s7 := store_one' c7 (ex_ones' hme c7 (by simp)))
            (have s8 := store_one' c8 (ex_ones' hme c8 (by simp)))
            (have s9 := store_one' c9 (ex_ones' hme c9 (by simp)))
            (have s10 := store_one' c10 (ex_ones' hme c10 (by simp)))
            clear hme
            cases mm with
            | zero => exact absurd (by rw [HR2.out]; rfl) HO.out
            | succ k =>
              cases hb : seesAtomP (u :: tu) with
              | false =>
                obtain rfl : r = .ok e (u :: tu) := by rw [HR2.out]; simp [appF, hb]
                have CB := Lib.hid (seesAtom_any pb lv u tu wr HPS.out false hb)
                go_wp2_with (go_at_call 33; (with_reducible refine CB.out.mono ?_); rintro e' wa ⟨rfl, hba⟩; (have hbk := HBK.out.below hba HBK.out.lt); (have h0 := hbk.cell 0); (have h1 := hbk.cell 1); (have h2 := hbk.cell 2); (have h3 := hbk.cell 3); (have h4 := hbk.cell 4); (have h5 := hbk.cell 5); (have h6 := hbk.cell 6); (have h7 := hbk.cell 7); (have h8 := hbk.cell 8); (have h9 := hbk.cell 9); (have h10 := hbk.cell 10); (simp only [List.getElem?_toArray, List.getElem?_cons_succ, List.getElem?_cons_zero] at h0 h1 h2 h3 h4 h5 h6 h7 h8 h9 h10); (have hpwa : Par pb W1 wa := HPAR.out.trans (Par.of_below hba)); (have hBwa : Blk wa W.heap.size 32 #[.int .i64 0, .string ⟨#[]⟩, .int .i64 0, .int .i64 0, .string ⟨#[]⟩, .int .i64 0, .slice none 0 0, .slice none 0 0, .slice none 0 0, .slice none 0 0, .int .i64 0] := (hpwa.block _ HRS.out.lt (by omega : ¬ W.heap.size = pb)).trans HRS.out); (have r0wa := hBwa.cell 0); (have r1wa := hBwa.cell 1); (have r2wa := hBwa.cell 2); (have r3wa := hBwa.cell 3); (have r4wa := hBwa.cell 4); (have r5wa := hBwa.cell 5); (have r6wa := hBwa.cell 6); (have r7wa := hBwa.cell 7); (have r8wa := hBwa.cell 8); (have r9wa := hBwa.cell 9); (have r10wa := hBwa.cell 10); (simp only [List.getElem?_toArray, List.getElem?_cons_succ, List.getElem?_cons_zero] at r0wa r1wa r2wa r3wa r4wa r5wa r6wa r7wa r8wa r9wa r10wa); (have f0wa := hBwa.frozen 0); (have f1wa := hBwa.frozen 1); (have f2wa := hBwa.frozen 2); (have f3wa := hBwa.frozen 3); (have f4wa := hBwa.frozen 4); (have f5wa := hBwa.frozen 5); (have f6wa := hBwa.frozen 6); (have f7wa := hBwa.frozen 7); (have f8wa := hBwa.frozen 8); (have f9wa := hBwa.frozen 9); (have f10wa := hBwa.frozen 10))
                have hma := (HME.out.later (Low.of_below hba)).of_exX
                obtain ⟨w9, hw9⟩ : ∃ w9, (((((((((((wa).setCell ⟨W.heap.size, 0, none⟩ (c0)).setCell ⟨W.heap.size, 1, none⟩ (c1)).setCell ⟨W.heap.size, 2, none⟩ (c2)).setCell ⟨W.heap.size, 3, none⟩ (c3)).setCell ⟨W.heap.size, 4, none⟩ (c4)).setCell ⟨W.heap.size, 5, none⟩ (c5)).setCell ⟨W.heap.size, 6, none⟩ (c6)).setCell ⟨W.heap.size, 7, none⟩ (c7)).setCell ⟨W.heap.size, 8, none⟩ (c8)).setCell ⟨W.heap.size, 9, none⟩ (c9)).setCell ⟨W.heap.size, 10, none⟩ (c10) = w9 := ⟨_, rfl⟩
                have hPW := (Par.of_below (pb := pb) HN.out).trans hpwa
                have hB9 := set11 hBwa (c0) (c1) (c2) (c3) (c4) (c5) (c6) (c7) (c8) (c9) (c10)
                have hb9 := Par.set11 hPW (Nat.le_refl _) (c0) (c1) (c2) (c3) (c4) (c5) (c6) (c7) (c8) (c9) (c10)
                have hS9 := PsAt.set11 (HPS.out.later hba) (g := W.heap.size) hlt (c0) (c1) (c2) (c3) (c4) (c5) (c6) (c7) (c8) (c9) (c10)
                have hL9 : Low (lowX (W.heap.size + 1)) wa _ := Low.set11 (Chg.refl _ _) (.inl (lowX_self _)) (c0) (c1) (c2) (c3) (c4) (c5) (c6) (c7) (c8) (c9) (c10)
                rw [hw9] at hB9 hb9 hS9 hL9 ⊢
                have d0 := hB9.cell 0
                have d1 := hB9.cell 1
                have d2 := hB9.cell 2
                have d3 := hB9.cell 3
                have d4 := hB9.cell 4
                have d5 := hB9.cell 5
                have d6 := hB9.cell 6
                have d7 := hB9.cell 7
                have d8 := hB9.cell 8
                have d9 := hB9.cell 9
                have d10 := hB9.cell 10
                simp only [List.getElem?_toArray, List.getElem?_cons_succ, List.getElem?_cons_zero] at d0 d1 d2 d3 d4 d5 d6 d7 d8 d9 d10
                exact bodyPost_ret (v := .agg #[c0, c1, c2, c3, c4, c5, c6, c7, c8, c9, c10]) (by simp [results, Tryd.results19, go_sem, d0, d1, d2, d3, d4, d5, d6, d7, d8, d9, d10]) rfl ⟨hb9, ⟨[c0, c1, c2, c3, c4, c5, c6, c7, c8, c9, c10], rfl, rfl, (hma.later hL9).wk (by omega)⟩, hS9, HFI.out⟩
              | true =>
                have CB := Lib.hid (seesAtom_any pb lv u tu wr HPS.out true hb)
                cases hx : A (u :: tu) with
                | out => exact absurd (by rw [HR2.out]; simp [appF, hb, hx, Res.andThen]) HO.out
                | bad c p =>
                  obtain rfl : r = .bad c p := by rw [HR2.out]; simp [appF, hb, hx, Res.andThen]
                  have CX := Lib.hid (fun W2 (hs : PsAt W2 pb (u :: tu) lv) => HAT.out (u :: tu) W2 hs HFI.out _ hx (by simp))
                  go_upto_region 10 with (go_at_call 33; (with_reducible refine CB.out.mono ?_); rintro e' wa ⟨rfl, hba⟩; (have hbk := HBK.out.below hba HBK.out.lt); (have h0 := hbk.cell 0); (have h1 := hbk.cell 1); (have h2 := hbk.cell 2); (have h3 := hbk.cell 3); (have h4 := hbk.cell 4); (have h5 := hbk.cell 5); (have h6 := hbk.cell 6); (have h7 := hbk.cell 7); (have h8 := hbk.cell 8); (have h9 := hbk.cell 9); (have h10 := hbk.cell 10); (simp only [List.getElem?_toArray, List.getElem?_cons_succ, List.getElem?_cons_zero] at h0 h1 h2 h3 h4 h5 h6 h7 h8 h9 h10); (have hpwa : Par pb W1 wa := HPAR.out.trans (Par.of_below hba)); (have hsa := HPS.out.later hba))
                  have hlk := hbk.lt
                  refine wp_region_held_drew (S := fun w' => Low (oneX pb) wa w') (by kernel_rfl) (Low.drew_ wa) (fun hHeld => ?_)
                  refine takeH' (i := 0) (d := 38) (v := .agg #[c0, c1, c2, c3, c4, c5, c6, c7, c8, c9, c10]) rfl (by kernel_rfl) (by kernel_rfl) (by kernel_rfl) (fun _ _ _ h => h) (Or.inl ⟨by rfl, fun w' hS' => by (have q0 := hS'.cell h0 (by show K < _; omega) (oneX_no (by show K ≠ pb; omega))); (have q1 := hS'.cell h1 (by show K < _; omega) (oneX_no (by show K ≠ pb; omega))); (have q2 := hS'.cell h2 (by show K < _; omega) (oneX_no (by show K ≠ pb; omega))); (have q3 := hS'.cell h3 (by show K < _; omega) (oneX_no (by show K ≠ pb; omega))); (have q4 := hS'.cell h4 (by show K < _; omega) (oneX_no (by show K ≠ pb; omega))); (have q5 := hS'.cell h5 (by show K < _; omega) (oneX_no (by show K ≠ pb; omega))); (have q6 := hS'.cell h6 (by show K < _; omega) (oneX_no (by show K ≠ pb; omega))); (have q7 := hS'.cell h7 (by show K < _; omega) (oneX_no (by show K ≠ pb; omega))); (have q8 := hS'.cell h8 (by show K < _; omega) (oneX_no (by show K ≠ pb; omega))); (have q9 := hS'.cell h9 (by show K < _; omega) (oneX_no (by show K ≠ pb; omega))); (have q10 := hS'.cell h10 (by show K < _; omega) (oneX_no (by show K ≠ pb; omega))); (first | rfl | go_simp)⟩) hHeld rfl ?_
                  try simp only [Act.put, List.setIfInBounds_toArray, List.set_cons_zero, List.set_cons_succ]
                  refine takeH' (i := 1) (d := 39) (v := .pointer (some ⟨pb, 0, none⟩)) rfl (by kernel_rfl) (by kernel_rfl) (by kernel_rfl) (fun _ _ _ h => h) (Or.inl ⟨by rfl, fun w' hS' => by (first | rfl | go_simp)⟩) hHeld rfl ?_
                  try simp only [Act.put, List.setIfInBounds_toArray, List.set_cons_zero, List.set_cons_succ]
                  refine takeH' (i := 3) (d := 41) (v := .int .i64 t.pos) rfl (by kernel_rfl) (by kernel_rfl) (by kernel_rfl) (fun _ _ _ h => h) (Or.inl ⟨by rfl, fun w' hS' => by (first | rfl | go_simp)⟩) hHeld rfl ?_
                  try simp only [Act.put, List.setIfInBounds_toArray, List.set_cons_zero, List.set_cons_succ]
                  refine wpAnyH_ready (rs := [2]) (by kernel_rfl) (by simp) ?_
                  refine AllReadyH.cons rfl (fun K hK => ?_) AllReadyH.nil
                  try go_simp
                  refine (CX.out _ hsa.drew_).mono ?_
                  rintro e' wb ⟨hpb, rfl⟩
                  exact ⟨rfl, (Par.of_below HN.out).trans (hpwa.trans (Par.drew_ hpb)), rfl⟩
                | ok x ts1 =>
                  have HR3 := Lib.hid (show r = appF A t.pos k (applyE e x t.pos) ts1 by rw [HR2.out]; simp [appF, hb, hx, Res.andThen])
                  have CX := Lib.hid (fun W2 (hs : PsAt W2 pb (u :: tu) lv) => HAT.out (u :: tu) W2 hs HFI.out _ hx (by simp))
                  have CY := Lib.hid (fun (ys : List Value) W2 (hX : OldX (exX (lowX (W.heap.size + 1)) K) W2.heap.size) (h1 : rEx.M (exX (lowX (W.heap.size + 1)) K) W2 [c0, c1, c2, c3, c4, c5, c6, c7, c8, c9, c10] e) (h2 : rEx.M (exX (lowX (W.heap.size + 1)) K) W2 ys x) => apply_any [c0, c1, c2, c3, c4, c5, c6, c7, c8, c9, c10] ys e x t.pos _ W2 hX h1 h2 HPOS.out)
                  clear hb hx
                  go_upto_region 10 with (go_at_call 33; (with_reducible refine CB.out.mono ?_); rintro e' wa ⟨rfl, hba⟩; (have hbk := HBK.out.below hba HBK.out.lt); (have h0 := hbk.cell 0); (have h1 := hbk.cell 1); (have h2 := hbk.cell 2); (have h3 := hbk.cell 3); (have h4 := hbk.cell 4); (have h5 := hbk.cell 5); (have h6 := hbk.cell 6); (have h7 := hbk.cell 7); (have h8 := hbk.cell 8); (have h9 := hbk.cell 9); (have h10 := hbk.cell 10); (simp only [List.getElem?_toArray, List.getElem?_cons_succ, List.getElem?_cons_zero] at h0 h1 h2 h3 h4 h5 h6 h7 h8 h9 h10); (have hpwa : Par pb W1 wa := HPAR.out.trans (Par.of_below hba)); (have hsa := HPS.out.later hba))
                  have hlk0 := hbk.lt
                  have hpB : exX (lowX (W.heap.size + 1)) K pb = true := by rw [exX_iff, lowX_iff]; left; omega
                  have hLp : ∀ {a b : World}, Par pb a b → Low (exX (lowX (W.heap.size + 1)) K) a b := fun h => h.mono fun k _ hk => by subst hk; exact hpB
                  go_region_with (first | (go_at_call 32; (with_reducible refine (CX.out _ (by first | exact hsa.drew_ | exact hsa)).mono ?_); rintro e' wb ⟨hpb, ⟨cs2, hlen2, rfl, htyb⟩, hsb, hfb⟩; (obtain ⟨y0, y1, y2, y3, y4, y5, y6, y7, y8, y9, y10, rfl⟩ := eleven_of hlen2); (have o0 := store_one' y0 (ex_ones' htyb y0 (by simp))); (have o1 := store_one' y1 (ex_ones' htyb y1 (by simp))); (have o2 := store_one' y2 (ex_ones' htyb y2 (by simp))); (have o3 := store_one' y3 (ex_ones' htyb y3 (by simp))); (have o4 := store_one' y4 (ex_ones' htyb y4 (by simp))); (have o5 := store_one' y5 (ex_ones' htyb y5 (by simp))); (have o6 := store_one' y6 (ex_ones' htyb y6 (by simp))); (have o7 := store_one' y7 (ex_ones' htyb y7 (by simp))); (have o8 := store_one' y8 (ex_ones' htyb y8 (by simp))); (have o9 := store_one' y9 (ex_ones' htyb y9 (by simp))); (have o10 := store_one' y10 (ex_ones' htyb y10 (by simp))); (have hpb' := Par.drew_ hpb); (have hbk2 : Blk wb K 32 #[c0, c1, c2, c3, c4, c5, c6, c7, c8, c9, c10] := (hpb'.block _ hbk.lt (by omega)).trans hbk); (have g0 := hbk2.cell 0); (have g1 := hbk2.cell 1); (have g2 := hbk2.cell 2); (have g3 := hbk2.cell 3); (have g4 := hbk2.cell 4); (have g5 := hbk2.cell 5); (have g6 := hbk2.cell 6); (have g7 := hbk2.cell 7); (have g8 := hbk2.cell 8); (have g9 := hbk2.cell 9); (have g10 := hbk2.cell 10); (simp only [List.getElem?_toArray, List.getElem?_cons_succ, List.getElem?_cons_zero] at g0 g1 g2 g3 g4 g5 g6 g7 g8 g9 g10)) | (go_at_call 34; (have hzb : wa.heap.size ≤ wb.heap.size := hpb'.size); (have hza := hba.size); (have hlk := hbk2.lt); (have hme3 := (HME.out.later (Low.of_below hba)).later (hLp hpb')); (have hty3 : rEx.M (exX (lowX (W.heap.size + 1)) K) wb _ x := htyb.weaken fun k _ hk => by (have h9 : wa.drew.heap.size = wa.heap.size := rfl); rw [exX_iff, lowX_iff] at hk; rw [lowX_iff]; omega); (with_reducible refine (CY.out _ _ ((OldX.low (Nat.le_refl _)).ex (by omega) (by omega)) hme3 hty3).mono ?_); rintro e' wc ⟨hbc, ls, hlen3, rfl, htyc⟩; (obtain ⟨z0, z1, z2, z3, z4, z5, z6, z7, z8, z9, z10, rfl⟩ := eleven_of hlen3); (have t0 := store_one' z0 (ex_ones' htyc z0 (by simp))); (have t1 := store_one' z1 (ex_ones' htyc z1 (by simp))); (have t2 := store_one' z2 (ex_ones' htyc z2 (by simp))); (have t3 := store_one' z3 (ex_ones' htyc z3 (by simp))); (have t4 := store_one' z4 (ex_ones' htyc z4 (by simp))); (have t5 := store_one' z5 (ex_ones' htyc z5 (by simp))); (have t6 := store_one' z6 (ex_ones' htyc z6 (by simp))); (have t7 := store_one' z7 (ex_ones' htyc z7 (by simp))); (have t8 := store_one' z8 (ex_ones' htyc z8 (by simp))); (have t9 := store_one' z9 (ex_ones' htyc z9 (by simp))); (have t10 := store_one' z10 (ex_ones' htyc z10 (by simp))); (have hbk3 := hbk2.below hbc hbk2.lt); (have r0 := hbk3.cell 0); (have r1 := hbk3.cell 1); (have r2 := hbk3.cell 2); (have r3 := hbk3.cell 3); (have r4 := hbk3.cell 4); (have r5 := hbk3.cell 5); (have r6 := hbk3.cell 6); (have r7 := hbk3.cell 7); (have r8 := hbk3.cell 8); (have r9 := hbk3.cell 9); (have r10 := hbk3.cell 10); (simp only [List.getElem?_toArray, List.getElem?_cons_succ, List.getElem?_cons_zero] at r0 r1 r2 r3 r4 r5 r6 r7 r8 r9 r10); (have f0 := hbk3.frozen 0); (have f1 := hbk3.frozen 1); (have f2 := hbk3.frozen 2); (have f3 := hbk3.frozen 3); (have f4 := hbk3.frozen 4); (have f5 := hbk3.frozen 5); (have f6 := hbk3.frozen 6); (have f7 := hbk3.frozen 7); (have f8 := hbk3.frozen 8); (have f9 := hbk3.frozen 9); (have f10 := hbk3.frozen 10)))
                  all_goals
                    go_wp2_with fail
                    obtain ⟨w9, hw9⟩ : ∃ w9, (((((((((((wc).setCell ⟨K, 0, none⟩ z0).setCell ⟨K, 1, none⟩ z1).setCell ⟨K, 2, none⟩ z2).setCell ⟨K, 3, none⟩ z3).setCell ⟨K, 4, none⟩ z4).setCell ⟨K, 5, none⟩ z5).setCell ⟨K, 6, none⟩ z6).setCell ⟨K, 7, none⟩ z7).setCell ⟨K, 8, none⟩ z8).setCell ⟨K, 9, none⟩ z9).setCell ⟨K, 10, none⟩ z10 = w9 := ⟨_, rfl⟩
                    have hB9 := set11 hbk3 z0 z1 z2 z3 z4 z5 z6 z7 z8 z9 z10
                    have hP9 := Par.set11 ((hpwa.trans hpb').trans (Par.of_below hbc)) (g := K) (by omega) z0 z1 z2 z3 z4 z5 z6 z7 z8 z9 z10
                    have hS9 := PsAt.set11 (hsb.later hbc) (g := K) (by omega) z0 z1 z2 z3 z4 z5 z6 z7 z8 z9 z10
                    have hL9 : Low (exX (lowX (W.heap.size + 1)) K) wc _ := Low.set11 (Chg.refl _ _) (.inl (exX_self _ _)) z0 z1 z2 z3 z4 z5 z6 z7 z8 z9 z10
                    rw [hw9] at hB9 hP9 hS9 hL9 ⊢
                    have hfin := htyc.later hL9
                    clear hw9
                    have hnew : OpInv A t.pos r pb lv W.heap.size K W1 w9 k := ⟨_, ts1, _, HR3.out, hB9, hfin, hP9, hS9, hfb⟩
                    go_roundw
                    case rel => exact ⟨_, hnew⟩
                    case measure => have := least_le hnew; have := HMM.out; omega

end Go.Proofs.YtiiddmioafhmoaaDoor
