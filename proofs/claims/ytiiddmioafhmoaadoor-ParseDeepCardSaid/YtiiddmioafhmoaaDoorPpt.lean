/- Walks: the parser's patterns. -/
import Derived.Test.YtiiddmioafhmoaaDoorPbel
namespace Go.Proofs.YtiiddmioafhmoaaDoor
open Go.RowKit
set_option linter.unusedVariables false
set_option linter.unusedSimpArgs false
set_option maxRecDepth 100000

abbrev sUnder : ByteArray := ⟨#[95]⟩
def seesPatP (ts : List Tk) : Bool := kindH ts == 1 || (kindH ts == 2 || (kindH ts == 3 || (seesH sUnder ts || seesH sLpar ts)))
def apatP (P : Nat → List Tk → Res Pt) (lv : Nat) (ts : List Tk) : Res Pt :=
  if seesPatP ts = false then .bad 110 (posH ts) else
  if kindH ts = 1 then .ok (.mk 2 (bytesOf (headT ts)) 0 [] (posH ts)) (restT ts)
  else if kindH ts = 2 then .ok (.mk 3 (bytesOf (headT ts)) 0 [] (posH ts)) (restT ts)
  else if kindH ts = 3 then .ok (.mk 4 ⟨#[]⟩ (headT ts).num [] (posH ts)) (restT ts)
  else if textH ts = [95] then .ok (.mk 1 ⟨#[]⟩ 0 [] (posH ts)) (restT ts)
  else if seesH sRpar (restT ts) then .ok (.mk 3 sUnit 0 [] (posH ts)) (restT ts).tail
  else (P lv (restT ts)).andThen fun p ts2 => (needP sRpar ts2).andThen fun _ ts3 => .ok p ts3
def applP (P : Nat → List Tk → Res Pt) (lv : Nat) (ts : List Tk) : Res Pt :=
  if kindH ts = 2 then (manyP seesPatP (apatP P lv) (restT ts)).andThen fun l ts' => .ok (.mk 3 (bytesOf (headT ts)) 0 l (posH ts)) ts' else apatP P lv ts
def patF : Nat → Nat → List Tk → Res Pt
  | 0, _, _ => .out
  | n + 1, lv, ts => belowP lv (applP (patF n)) ts
theorem textH_cons (t : Tk) (ts : List Tk) : textH (t :: ts) = t.text := rfl
theorem PtM.mk_ {X : Nat → Bool} {W : World} {k n q : Int} {nm : ByteArray} {A : Option Addr} {c : Nat} {ks : List Pt} (hk : ok64 k) (hs : nm.size ≤ 60000) (hn : ok64 n) (hc : ks.length ≤ c) (hm : c ≤ maxLen) (hb : ks.length ≤ 60001) (hq : ok64 q) (hr : RowM rPt 5 X W A ks) :
    rPt.M X W [.int .i64 k, .string nm, .int .i64 n, .slice A ks.length c, .int .i64 q] (.mk k nm n ks q) := by
  obtain ⟨L, h1, h2⟩ := hr.ex
  exact PtAt.mk hk (by unfold maxLen; omega) hn hc hm hq (by omega) h1 h2
theorem PtM.leaf (X : Nat → Bool) (W : World) (k n q : Int) (nm : ByteArray) (hk : ok64 k) (hs : nm.size ≤ 60000) (hn : ok64 n) (hq : ok64 q) : rPt.M X W [.int .i64 k, .string nm, .int .i64 n, .slice none 0 0, .int .i64 q] (.mk k nm n [] q) :=
  PtM.mk_ (ks := []) hk hs hn (by simp) (by simp [maxLen]) (by simp) hq (RowM.nil_ _ _ _ _)
theorem set5 {w : World} {g : Nat} {t : TypeId} {x0 x1 x2 x3 x4 : Value} (h : Blk w g t #[x0, x1, x2, x3, x4]) (y0 y1 y2 y3 y4 : Value) : Blk ((((((w).setCell ⟨g, 0, none⟩ y0).setCell ⟨g, 1, none⟩ y1).setCell ⟨g, 2, none⟩ y2).setCell ⟨g, 3, none⟩ y3).setCell ⟨g, 4, none⟩ y4) g t #[y0, y1, y2, y3, y4] := by
  have := (((((h).set_ 0 y0).set_ 1 y1).set_ 2 y2).set_ 3 y3).set_ 4 y4
  simpa using this
theorem Par.set5 {pb g : Nat} {W w : World} (h : Par pb W w) (hg : W.heap.size ≤ g) (y0 y1 y2 y3 y4 : Value) : Par pb W ((((((w).setCell ⟨g, 0, none⟩ y0).setCell ⟨g, 1, none⟩ y1).setCell ⟨g, 2, none⟩ y2).setCell ⟨g, 3, none⟩ y3).setCell ⟨g, 4, none⟩ y4) :=
  (((((h).set_ (p := ⟨g, 0, none⟩) (.inr hg) y0).set_ (p := ⟨g, 1, none⟩) (.inr hg) y1).set_ (p := ⟨g, 2, none⟩) (.inr hg) y2).set_ (p := ⟨g, 3, none⟩) (.inr hg) y3).set_ (p := ⟨g, 4, none⟩) (.inr hg) y4
theorem PsAt.set5 {w : World} {pb lv g : Nat} {ts : List Tk} (h : PsAt w pb ts lv) (hg : pb < g) (y0 y1 y2 y3 y4 : Value) : PsAt ((((((w).setCell ⟨g, 0, none⟩ y0).setCell ⟨g, 1, none⟩ y1).setCell ⟨g, 2, none⟩ y2).setCell ⟨g, 3, none⟩ y3).setCell ⟨g, 4, none⟩ y4) pb ts lv := by
  obtain ⟨A, cap, h1, h2, h3, h4⟩ := h.ex
  have hne : pb ≠ g := by omega
  exact ⟨A, cap, (((((h1).far (p := ⟨g, 0, none⟩) hne y0).far (p := ⟨g, 1, none⟩) hne y1).far (p := ⟨g, 2, none⟩) hne y2).far (p := ⟨g, 3, none⟩) hne y3).far (p := ⟨g, 4, none⟩) hne y4, h2, h3, h4.keep fun p hp => World.cell?_of_block (w := w) (by
    have hp2 : p.block ≠ g := by omega
    rw [Below.heap_setCell _ ⟨g, 4, none⟩ _ _ hp2, Below.heap_setCell _ ⟨g, 3, none⟩ _ _ hp2, Below.heap_setCell _ ⟨g, 2, none⟩ _ _ hp2, Below.heap_setCell _ ⟨g, 1, none⟩ _ _ hp2, Below.heap_setCell _ ⟨g, 0, none⟩ _ _ hp2])⟩
theorem Low.set5 {X : Nat → Bool} {g : Nat} {W w : World} (h : Low X W w) (hg : X g = true ∨ W.heap.size ≤ g) (y0 y1 y2 y3 y4 : Value) : Low X W ((((((w).setCell ⟨g, 0, none⟩ y0).setCell ⟨g, 1, none⟩ y1).setCell ⟨g, 2, none⟩ y2).setCell ⟨g, 3, none⟩ y3).setCell ⟨g, 4, none⟩ y4) :=
  (((((h).set_ (p := ⟨g, 0, none⟩) hg y0).set_ (p := ⟨g, 1, none⟩) hg y1).set_ (p := ⟨g, 2, none⟩) hg y2).set_ (p := ⟨g, 3, none⟩) hg y3).set_ (p := ⟨g, 4, none⟩) hg y4

set_option maxHeartbeats 1600000 in
theorem seesPat_any (pb lv : Nat) (t : Tk) (ts : List Tk) (W : World) (h : PsAt W pb (t :: ts) lv) (b : Bool) (hb : seesPatP (t :: ts) = b) :
    Calls Tryd.prog 90 #[.pointer (some ⟨pb, 0, none⟩)] W fun e W' => e = .returned (.bool b) ∧ Below W.heap.size W W' := by
  have CA := Lib.hid (ahead_any pb lv t ts W h)
  have D1 := Lib.hid (fun W' (hb : Below W.heap.size W W') => sees_any pb lv t ts sUnder W' (h.later hb) _ rfl)
  have D2 := Lib.hid (fun W' (hb : Below W.heap.size W W') => sees_any pb lv t ts sLpar W' (h.later hb) _ rfl)
  have hf0 := field_tk0
  have HB := Lib.hid hb
  clear h hb
  by_cases h1 : t.kind = 1
  · have d1 : (t.kind == 1) = true := by simpa using h1
    have HE := Lib.hid (show b = true by rw [← HB.out]; simp [seesPatP, kindH, h1])
    clear h1
    go_enter Tryd.func90, Tryd.ntmps90
    go_wp2_with (go_at_call 16; (with_reducible refine CA.out.mono ?_); rintro e w2 ⟨rfl, hb2⟩; rw [tk_cells])
    go_ret
    exact ⟨ret_bool HE.out.symm, hb2⟩
  · have d1 : (t.kind == 1) = false := by simpa using h1
    by_cases h2 : t.kind = 2
    · have d2 : (t.kind == 2) = true := by simpa using h2
      have HE := Lib.hid (show b = true by rw [← HB.out]; simp [seesPatP, kindH, h2])
      clear h2 h1
      go_enter Tryd.func90, Tryd.ntmps90
      go_wp2_with (go_at_call 16; (with_reducible refine CA.out.mono ?_); rintro e w2 ⟨rfl, hb2⟩; rw [tk_cells])
      go_ret
      exact ⟨ret_bool HE.out.symm, hb2⟩
    · have d2 : (t.kind == 2) = false := by simpa using h2
      by_cases h3 : t.kind = 3
      · have d3 : (t.kind == 3) = true := by simpa using h3
        have HE := Lib.hid (show b = true by rw [← HB.out]; simp [seesPatP, kindH, h3])
        clear h3 h1 h2
        go_enter Tryd.func90, Tryd.ntmps90
        go_wp2_with (go_at_call 16; (with_reducible refine CA.out.mono ?_); rintro e w2 ⟨rfl, hb2⟩; rw [tk_cells])
        go_ret
        exact ⟨ret_bool HE.out.symm, hb2⟩
      · have d3 : (t.kind == 3) = false := by simpa using h3
        cases hu : seesB t sUnder with
        | true =>
          rw [hu] at D1
          have HE := Lib.hid (show b = true by rw [← HB.out]; simp [seesPatP, seesH, hu])
          clear h1 h2 h3 hu
          go_enter Tryd.func90, Tryd.ntmps90
          go_wp2_with (first | (go_at_call 16; (with_reducible refine CA.out.mono ?_); rintro e w2 ⟨rfl, hb2⟩; rw [tk_cells]) | (go_at_call 45; (with_reducible refine (D1.out _ hb2).mono ?_); rintro e w3 ⟨rfl, hb3⟩))
          go_ret
          exact ⟨ret_bool HE.out.symm, hb2.trans (hb3.mono hb2.size)⟩
        | false =>
          rw [hu] at D1
          have HE := Lib.hid (show seesB t sLpar = b by rw [← HB.out]; simp [seesPatP, kindH, seesH, hu, d1, d2, d3])
          clear h1 h2 h3 hu
          go_enter Tryd.func90, Tryd.ntmps90
          go_wp2_with (first | (go_at_call 16; (with_reducible refine CA.out.mono ?_); rintro e w2 ⟨rfl, hb2⟩; rw [tk_cells]) | (go_at_call 45; (with_reducible refine (D1.out _ hb2).mono ?_); rintro e w3 ⟨rfl, hb3⟩) | (go_at_call 45; (with_reducible refine (D2.out _ (hb2.trans (hb3.mono hb2.size))).mono ?_); rintro e w4 ⟨rfl, hb4⟩))
          go_ret
          exact ⟨ret_bool HE.out, (hb2.trans (hb3.mono hb2.size)).trans (hb4.mono (hb2.trans (hb3.mono hb2.size)).size)⟩

set_option maxHeartbeats 6400000 in
theorem apat_any (P : Nat → List Tk → Res Pt) (HT : LvOk rPt 5 77 P) (pb lv : Nat) (ts : List Tk) (W : World) (h : PsAt W pb ts lv) (hf : Fine ts) (hlv : lv ≤ 300) (r : Res Pt) (hr : apatP P lv ts = r) (ho : r ≠ .out) :
    Calls Tryd.prog 88 #[.pointer (some ⟨pb, 0, none⟩)] W (PaPost pb lv 5 rPt r W) := by
  obtain ⟨t, tl, rfl⟩ := hf.ne
  obtain ⟨W1, hW1⟩ : ∃ W1, W.alloc (.cells #[.int .i64 0, .string ⟨#[]⟩, .int .i64 0, .slice none 0 0, .int .i64 0] 114) = W1 := ⟨_, rfl⟩
  have hnew : Below W.heap.size W W1 := by rw [← hW1]; exact (Below.refl _ _).alloc (Nat.le_refl _) _
  have hres : Blk W1 W.heap.size 114 #[.int .i64 0, .string ⟨#[]⟩, .int .i64 0, .slice none 0 0, .int .i64 0] := by rw [← hW1]; exact Blk.new _ _ _
  have hs1 := h.later hnew
  have hlt := h.lt
  have hsz : W1.heap.size = W.heap.size + 1 := by rw [← hW1]; simp
  have HW1 := Lib.hid hW1
  have HN := Lib.hid hnew
  have HRS := Lib.hid hres
  have HS1 := Lib.hid hs1
  have HSZ := Lib.hid hsz
  have hp1 : Par pb W1 W1 := Chg.refl _ _
  clear hW1 hnew hres hs1 hsz h
  have HF := Lib.hid hf
  have HR := Lib.hid hr
  have HO := Lib.hid ho
  have hgood := hf.good t (by simp)
  have HSIZE := Lib.hid (show (⟨t.text.toArray⟩ : ByteArray).size ≤ 60000 by simpa [ByteArray.size] using hgood.1)
  have HNUM := Lib.hid hgood.2.1
  have HPOS := Lib.hid (show ok64 (t.pos : Int) from ok_lit _ (by omega) (by have := hgood.2.2; omega))
  clear hf hr ho hgood
  cases hb : seesPatP (t :: tl) with
  | false =>
    obtain rfl : r = .bad 110 t.pos := by rw [← HR.out]; unfold apatP; simp [hb, posH_cons]
    have C1 := Lib.hid (seesPat_any pb lv t tl W1 HS1.out false hb)
    have C2 := Lib.hid (fun W2 (hb2 : Below W1.heap.size W1 W2) => wrong_any pb lv t tl 110 W2 (HS1.out.later hb2))
    go_enter Tryd.func88, Tryd.ntmps88
    go_upto_region 1 with fail
    rw [HW1.out]
    go_wp2_with (first | (go_at_call 90; (with_reducible refine (C1.out).mono ?_); rintro e w2 ⟨rfl, hb2⟩) | (go_at_call 17; (with_reducible refine (C2.out _ hb2).mono ?_); rintro e w3 ⟨rfl, hb3⟩))
    exact ⟨rfl, (Par.of_below HN.out).trans ((Par.of_below hb2).trans (Par.of_below hb3)), rfl⟩
  | true =>
    have C1 := Lib.hid (seesPat_any pb lv t tl W1 HS1.out true hb)
    have C2 := Lib.hid (fun W2 (hb2 : Below W1.heap.size W1 W2) => take_any pb lv t tl W2 (HS1.out.later hb2))
    by_cases h1 : t.kind = 1
    · have d1 : (t.kind == 1) = true := by simpa using h1
      obtain rfl : r = .ok (.mk 2 ⟨t.text.toArray⟩ 0 [] t.pos) (restT (t :: tl)) := by rw [← HR.out]; unfold apatP; simp [hb, kindH_cons, posH_cons, headT_cons, textH_cons, bytesOf, h1]
      clear h1
      go_enter Tryd.func88, Tryd.ntmps88
      go_upto_region 1 with fail
      rw [HW1.out]
      go_upto_region 4 with (first | (go_at_call 90; (with_reducible refine (C1.out).mono ?_); rintro e w2 ⟨rfl, hb2⟩) | (go_at_call 18; (with_reducible refine (C2.out _ hb2).mono ?_); rintro e w3 ⟨rfl, hp3, hsw3⟩; rw [tk_cells]; (have hpw3 : Par pb W1 w3 := (Par.of_below hb2).trans hp3)))
      obtain ⟨w4, hw4⟩ : ∃ w4, w3.alloc (.cells #[.int .i64 t.kind, .string ⟨t.text.toArray⟩, .int .i64 t.num, .int .i64 t.pos] 52) = w4 := ⟨_, rfl⟩
      have hb4 : Below w3.heap.size w3 w4 := by rw [← hw4]; exact below_new' _ _
      have hx4 : Blk w4 w3.heap.size 52 #[.int .i64 t.kind, .string ⟨t.text.toArray⟩, .int .i64 t.num, .int .i64 t.pos] := by rw [← hw4]; exact Blk.new _ _ _
      rw [hw4]
      have hpw4 : Par pb W1 w4 := hpw3.trans (Par.of_below hb4)
      have hsw4 := hsw3.later hb4
      have k0 := hx4.cell 0
      have k1 := hx4.cell 1
      have k2 := hx4.cell 2
      have k3 := hx4.cell 3
      simp only [List.getElem?_toArray, List.getElem?_cons_succ, List.getElem?_cons_zero] at k0 k1 k2 k3
      clear hw4
      have hBw4 : Blk w4 W.heap.size 114 #[.int .i64 0, .string ⟨#[]⟩, .int .i64 0, .slice none 0 0, .int .i64 0] := (hpw4.block _ HRS.out.lt (by omega : ¬ W.heap.size = pb)).trans HRS.out
      have r0w4 := hBw4.cell 0
      have r1w4 := hBw4.cell 1
      have r2w4 := hBw4.cell 2
      have r3w4 := hBw4.cell 3
      have r4w4 := hBw4.cell 4
      simp only [List.getElem?_toArray, List.getElem?_cons_succ, List.getElem?_cons_zero] at r0w4 r1w4 r2w4 r3w4 r4w4
      have f0w4 := hBw4.frozen 0
      have f1w4 := hBw4.frozen 1
      have f2w4 := hBw4.frozen 2
      have f3w4 := hBw4.frozen 3
      have f4w4 := hBw4.frozen 4
      go_wp2_with fail
      obtain ⟨w9, hw9⟩ : ∃ w9, (((((w4).setCell ⟨W.heap.size, 0, none⟩ (.int .i64 2)).setCell ⟨W.heap.size, 1, none⟩ (.string ⟨t.text.toArray⟩)).setCell ⟨W.heap.size, 2, none⟩ (.int .i64 0)).setCell ⟨W.heap.size, 3, none⟩ (.slice none 0 0)).setCell ⟨W.heap.size, 4, none⟩ (.int .i64 t.pos) = w9 := ⟨_, rfl⟩
      have hPW := (Par.of_below (pb := pb) HN.out).trans hpw4
      have hB9 := set5 hBw4 (.int .i64 2) (.string ⟨t.text.toArray⟩) (.int .i64 0) (.slice none 0 0) (.int .i64 t.pos)
      have hb9 := Par.set5 hPW (Nat.le_refl _) (.int .i64 2) (.string ⟨t.text.toArray⟩) (.int .i64 0) (.slice none 0 0) (.int .i64 t.pos)
      have hS9 := PsAt.set5 hsw4 (g := W.heap.size) hlt (.int .i64 2) (.string ⟨t.text.toArray⟩) (.int .i64 0) (.slice none 0 0) (.int .i64 t.pos)
      have hL9 : Low (lowX (W.heap.size + 1)) w4 _ := Low.set5 (Chg.refl _ _) (.inl (lowX_self _)) (.int .i64 2) (.string ⟨t.text.toArray⟩) (.int .i64 0) (.slice none 0 0) (.int .i64 t.pos)
      rw [hw9] at hB9 hb9 hS9 hL9 ⊢
      have d0 := hB9.cell 0
      have d1 := hB9.cell 1
      have d2 := hB9.cell 2
      have d3 := hB9.cell 3
      have d4 := hB9.cell 4
      simp only [List.getElem?_toArray, List.getElem?_cons_succ, List.getElem?_cons_zero] at d0 d1 d2 d3 d4
      exact bodyPost_ret (v := .agg #[.int .i64 2, .string ⟨t.text.toArray⟩, .int .i64 0, .slice none 0 0, .int .i64 t.pos]) (by simp [results, Tryd.results88, go_sem, d0, d1, d2, d3, d4]) rfl ⟨hb9, ⟨[.int .i64 2, .string ⟨t.text.toArray⟩, .int .i64 0, .slice none 0 0, .int .i64 t.pos], rfl, rfl, PtM.leaf _ _ _ _ _ _ (ok_lit _ (by omega) (by omega)) HSIZE.out (ok_lit _ (by omega) (by omega)) HPOS.out⟩, hS9, HF.out.rest⟩
    · have d1 : (t.kind == 1) = false := by simpa using h1
      by_cases h2 : t.kind = 2
      · have d2 : (t.kind == 2) = true := by simpa using h2
        obtain rfl : r = .ok (.mk 3 ⟨t.text.toArray⟩ 0 [] t.pos) (restT (t :: tl)) := by rw [← HR.out]; unfold apatP; simp [hb, kindH_cons, posH_cons, headT_cons, textH_cons, bytesOf, h1, h2]
        clear h1 h2
        go_enter Tryd.func88, Tryd.ntmps88
        go_upto_region 1 with fail
        rw [HW1.out]
        go_upto_region 4 with (first | (go_at_call 90; (with_reducible refine (C1.out).mono ?_); rintro e w2 ⟨rfl, hb2⟩) | (go_at_call 18; (with_reducible refine (C2.out _ hb2).mono ?_); rintro e w3 ⟨rfl, hp3, hsw3⟩; rw [tk_cells]; (have hpw3 : Par pb W1 w3 := (Par.of_below hb2).trans hp3)))
        obtain ⟨w4, hw4⟩ : ∃ w4, w3.alloc (.cells #[.int .i64 t.kind, .string ⟨t.text.toArray⟩, .int .i64 t.num, .int .i64 t.pos] 52) = w4 := ⟨_, rfl⟩
        have hb4 : Below w3.heap.size w3 w4 := by rw [← hw4]; exact below_new' _ _
        have hx4 : Blk w4 w3.heap.size 52 #[.int .i64 t.kind, .string ⟨t.text.toArray⟩, .int .i64 t.num, .int .i64 t.pos] := by rw [← hw4]; exact Blk.new _ _ _
        rw [hw4]
        have hpw4 : Par pb W1 w4 := hpw3.trans (Par.of_below hb4)
        have hsw4 := hsw3.later hb4
        have k0 := hx4.cell 0
        have k1 := hx4.cell 1
        have k2 := hx4.cell 2
        have k3 := hx4.cell 3
        simp only [List.getElem?_toArray, List.getElem?_cons_succ, List.getElem?_cons_zero] at k0 k1 k2 k3
        clear hw4
        have hBw4 : Blk w4 W.heap.size 114 #[.int .i64 0, .string ⟨#[]⟩, .int .i64 0, .slice none 0 0, .int .i64 0] := (hpw4.block _ HRS.out.lt (by omega : ¬ W.heap.size = pb)).trans HRS.out
        have r0w4 := hBw4.cell 0
        have r1w4 := hBw4.cell 1
        have r2w4 := hBw4.cell 2
        have r3w4 := hBw4.cell 3
        have r4w4 := hBw4.cell 4
        simp only [List.getElem?_toArray, List.getElem?_cons_succ, List.getElem?_cons_zero] at r0w4 r1w4 r2w4 r3w4 r4w4
        have f0w4 := hBw4.frozen 0
        have f1w4 := hBw4.frozen 1
        have f2w4 := hBw4.frozen 2
        have f3w4 := hBw4.frozen 3
        have f4w4 := hBw4.frozen 4
        go_wp2_with fail
        obtain ⟨w9, hw9⟩ : ∃ w9, (((((w4).setCell ⟨W.heap.size, 0, none⟩ (.int .i64 3)).setCell ⟨W.heap.size, 1, none⟩ (.string ⟨t.text.toArray⟩)).setCell ⟨W.heap.size, 2, none⟩ (.int .i64 0)).setCell ⟨W.heap.size, 3, none⟩ (.slice none 0 0)).setCell ⟨W.heap.size, 4, none⟩ (.int .i64 t.pos) = w9 := ⟨_, rfl⟩
        have hPW := (Par.of_below (pb := pb) HN.out).trans hpw4
        have hB9 := set5 hBw4 (.int .i64 3) (.string ⟨t.text.toArray⟩) (.int .i64 0) (.slice none 0 0) (.int .i64 t.pos)
        have hb9 := Par.set5 hPW (Nat.le_refl _) (.int .i64 3) (.string ⟨t.text.toArray⟩) (.int .i64 0) (.slice none 0 0) (.int .i64 t.pos)
        have hS9 := PsAt.set5 hsw4 (g := W.heap.size) hlt (.int .i64 3) (.string ⟨t.text.toArray⟩) (.int .i64 0) (.slice none 0 0) (.int .i64 t.pos)
        have hL9 : Low (lowX (W.heap.size + 1)) w4 _ := Low.set5 (Chg.refl _ _) (.inl (lowX_self _)) (.int .i64 3) (.string ⟨t.text.toArray⟩) (.int .i64 0) (.slice none 0 0) (.int .i64 t.pos)
        rw [hw9] at hB9 hb9 hS9 hL9 ⊢
        have d0 := hB9.cell 0
        have d1 := hB9.cell 1
        have d2 := hB9.cell 2
        have d3 := hB9.cell 3
        have d4 := hB9.cell 4
        simp only [List.getElem?_toArray, List.getElem?_cons_succ, List.getElem?_cons_zero] at d0 d1 d2 d3 d4
        exact bodyPost_ret (v := .agg #[.int .i64 3, .string ⟨t.text.toArray⟩, .int .i64 0, .slice none 0 0, .int .i64 t.pos]) (by simp [results, Tryd.results88, go_sem, d0, d1, d2, d3, d4]) rfl ⟨hb9, ⟨[.int .i64 3, .string ⟨t.text.toArray⟩, .int .i64 0, .slice none 0 0, .int .i64 t.pos], rfl, rfl, PtM.leaf _ _ _ _ _ _ (ok_lit _ (by omega) (by omega)) HSIZE.out (ok_lit _ (by omega) (by omega)) HPOS.out⟩, hS9, HF.out.rest⟩
      · have d2 : (t.kind == 2) = false := by simpa using h2
        by_cases h3 : t.kind = 3
        · have d3 : (t.kind == 3) = true := by simpa using h3
          obtain rfl : r = .ok (.mk 4 ⟨#[]⟩ t.num [] t.pos) (restT (t :: tl)) := by rw [← HR.out]; unfold apatP; simp [hb, kindH_cons, posH_cons, headT_cons, textH_cons, bytesOf, h1, h2, h3]
          clear h1 h2 h3
          go_enter Tryd.func88, Tryd.ntmps88
          go_upto_region 1 with fail
          rw [HW1.out]
          go_upto_region 4 with (first | (go_at_call 90; (with_reducible refine (C1.out).mono ?_); rintro e w2 ⟨rfl, hb2⟩) | (go_at_call 18; (with_reducible refine (C2.out _ hb2).mono ?_); rintro e w3 ⟨rfl, hp3, hsw3⟩; rw [tk_cells]; (have hpw3 : Par pb W1 w3 := (Par.of_below hb2).trans hp3)))
          obtain ⟨w4, hw4⟩ : ∃ w4, w3.alloc (.cells #[.int .i64 t.kind, .string ⟨t.text.toArray⟩, .int .i64 t.num, .int .i64 t.pos] 52) = w4 := ⟨_, rfl⟩
          have hb4 : Below w3.heap.size w3 w4 := by rw [← hw4]; exact below_new' _ _
          have hx4 : Blk w4 w3.heap.size 52 #[.int .i64 t.kind, .string ⟨t.text.toArray⟩, .int .i64 t.num, .int .i64 t.pos] := by rw [← hw4]; exact Blk.new _ _ _
          rw [hw4]
          have hpw4 : Par pb W1 w4 := hpw3.trans (Par.of_below hb4)
          have hsw4 := hsw3.later hb4
          have k0 := hx4.cell 0
          have k1 := hx4.cell 1
          have k2 := hx4.cell 2
          have k3 := hx4.cell 3
          simp only [List.getElem?_toArray, List.getElem?_cons_succ, List.getElem?_cons_zero] at k0 k1 k2 k3
          clear hw4
          have hBw4 : Blk w4 W.heap.size 114 #[.int .i64 0, .string ⟨#[]⟩, .int .i64 0, .slice none 0 0, .int .i64 0] := (hpw4.block _ HRS.out.lt (by omega : ¬ W.heap.size = pb)).trans HRS.out
          have r0w4 := hBw4.cell 0
          have r1w4 := hBw4.cell 1
          have r2w4 := hBw4.cell 2
          have r3w4 := hBw4.cell 3
          have r4w4 := hBw4.cell 4
          simp only [List.getElem?_toArray, List.getElem?_cons_succ, List.getElem?_cons_zero] at r0w4 r1w4 r2w4 r3w4 r4w4
          have f0w4 := hBw4.frozen 0
          have f1w4 := hBw4.frozen 1
          have f2w4 := hBw4.frozen 2
          have f3w4 := hBw4.frozen 3
          have f4w4 := hBw4.frozen 4
          go_wp2_with fail
          obtain ⟨w9, hw9⟩ : ∃ w9, (((((w4).setCell ⟨W.heap.size, 0, none⟩ (.int .i64 4)).setCell ⟨W.heap.size, 1, none⟩ (.string ⟨#[]⟩)).setCell ⟨W.heap.size, 2, none⟩ (.int .i64 t.num)).setCell ⟨W.heap.size, 3, none⟩ (.slice none 0 0)).setCell ⟨W.heap.size, 4, none⟩ (.int .i64 t.pos) = w9 := ⟨_, rfl⟩
          have hPW := (Par.of_below (pb := pb) HN.out).trans hpw4
          have hB9 := set5 hBw4 (.int .i64 4) (.string ⟨#[]⟩) (.int .i64 t.num) (.slice none 0 0) (.int .i64 t.pos)
          have hb9 := Par.set5 hPW (Nat.le_refl _) (.int .i64 4) (.string ⟨#[]⟩) (.int .i64 t.num) (.slice none 0 0) (.int .i64 t.pos)
          have hS9 := PsAt.set5 hsw4 (g := W.heap.size) hlt (.int .i64 4) (.string ⟨#[]⟩) (.int .i64 t.num) (.slice none 0 0) (.int .i64 t.pos)
          have hL9 : Low (lowX (W.heap.size + 1)) w4 _ := Low.set5 (Chg.refl _ _) (.inl (lowX_self _)) (.int .i64 4) (.string ⟨#[]⟩) (.int .i64 t.num) (.slice none 0 0) (.int .i64 t.pos)
          rw [hw9] at hB9 hb9 hS9 hL9 ⊢
          have d0 := hB9.cell 0
          have d1 := hB9.cell 1
          have d2 := hB9.cell 2
          have d3 := hB9.cell 3
          have d4 := hB9.cell 4
          simp only [List.getElem?_toArray, List.getElem?_cons_succ, List.getElem?_cons_zero] at d0 d1 d2 d3 d4
          exact bodyPost_ret (v := .agg #[.int .i64 4, .string ⟨#[]⟩, .int .i64 t.num, .slice none 0 0, .int .i64 t.pos]) (by simp [results, Tryd.results88, go_sem, d0, d1, d2, d3, d4]) rfl ⟨hb9, ⟨[.int .i64 4, .string ⟨#[]⟩, .int .i64 t.num, .slice none 0 0, .int .i64 t.pos], rfl, rfl, PtM.leaf _ _ _ _ _ _ (ok_lit _ (by omega) (by omega)) (by simp [ByteArray.size]) HNUM.out HPOS.out⟩, hS9, HF.out.rest⟩
        · have d3 : (t.kind == 3) = false := by simpa using h3
          obtain ⟨u, tr, hrl⟩ := HF.out.rest.ne
          have HF2 := Lib.hid (show Fine (u :: tr) by rw [← hrl]; exact HF.out.rest)
          rw [hrl] at C2
          have HRL := Lib.hid hrl
          have HK1 := Lib.hid h1
          have HK2 := Lib.hid h2
          have HK3 := Lib.hid h3
          clear h1 h2 h3 hrl
          by_cases h4 : t.text = [95]
          · have d4 : (t.text == [95]) = true := by simpa using h4
            obtain rfl : r = .ok (.mk 1 ⟨#[]⟩ 0 [] t.pos) (u :: tr) := by rw [← HR.out]; unfold apatP; simp [hb, kindH_cons, posH_cons, headT_cons, textH_cons, bytesOf, HK1.out, HK2.out, HK3.out, HRL.out, h4, seesH_cons, needP, Res.andThen]
            clear h4
            go_enter Tryd.func88, Tryd.ntmps88
            go_upto_region 1 with fail
            rw [HW1.out]
            go_upto_region 4 with (first | (go_at_call 90; (with_reducible refine (C1.out).mono ?_); rintro e w2 ⟨rfl, hb2⟩) | (go_at_call 18; (with_reducible refine (C2.out _ hb2).mono ?_); rintro e w3 ⟨rfl, hp3, hsw3⟩; rw [tk_cells]; (have hpw3 : Par pb W1 w3 := (Par.of_below hb2).trans hp3)))
            obtain ⟨w4, hw4⟩ : ∃ w4, w3.alloc (.cells #[.int .i64 t.kind, .string ⟨t.text.toArray⟩, .int .i64 t.num, .int .i64 t.pos] 52) = w4 := ⟨_, rfl⟩
            have hb4 : Below w3.heap.size w3 w4 := by rw [← hw4]; exact below_new' _ _
            have hx4 : Blk w4 w3.heap.size 52 #[.int .i64 t.kind, .string ⟨t.text.toArray⟩, .int .i64 t.num, .int .i64 t.pos] := by rw [← hw4]; exact Blk.new _ _ _
            rw [hw4]
            have hpw4 : Par pb W1 w4 := hpw3.trans (Par.of_below hb4)
            have hsw4 := hsw3.later hb4
            have k0 := hx4.cell 0
            have k1 := hx4.cell 1
            have k2 := hx4.cell 2
            have k3 := hx4.cell 3
            simp only [List.getElem?_toArray, List.getElem?_cons_succ, List.getElem?_cons_zero] at k0 k1 k2 k3
            clear hw4
            have hBw4 : Blk w4 W.heap.size 114 #[.int .i64 0, .string ⟨#[]⟩, .int .i64 0, .slice none 0 0, .int .i64 0] := (hpw4.block _ HRS.out.lt (by omega : ¬ W.heap.size = pb)).trans HRS.out
            have r0w4 := hBw4.cell 0
            have r1w4 := hBw4.cell 1
            have r2w4 := hBw4.cell 2
            have r3w4 := hBw4.cell 3
            have r4w4 := hBw4.cell 4
            simp only [List.getElem?_toArray, List.getElem?_cons_succ, List.getElem?_cons_zero] at r0w4 r1w4 r2w4 r3w4 r4w4
            have f0w4 := hBw4.frozen 0
            have f1w4 := hBw4.frozen 1
            have f2w4 := hBw4.frozen 2
            have f3w4 := hBw4.frozen 3
            have f4w4 := hBw4.frozen 4
            go_wp2_with fail
            obtain ⟨w9, hw9⟩ : ∃ w9, (((((w4).setCell ⟨W.heap.size, 0, none⟩ (.int .i64 1)).setCell ⟨W.heap.size, 1, none⟩ (.string ⟨#[]⟩)).setCell ⟨W.heap.size, 2, none⟩ (.int .i64 0)).setCell ⟨W.heap.size, 3, none⟩ (.slice none 0 0)).setCell ⟨W.heap.size, 4, none⟩ (.int .i64 t.pos) = w9 := ⟨_, rfl⟩
            have hPW := (Par.of_below (pb := pb) HN.out).trans hpw4
            have hB9 := set5 hBw4 (.int .i64 1) (.string ⟨#[]⟩) (.int .i64 0) (.slice none 0 0) (.int .i64 t.pos)
            have hb9 := Par.set5 hPW (Nat.le_refl _) (.int .i64 1) (.string ⟨#[]⟩) (.int .i64 0) (.slice none 0 0) (.int .i64 t.pos)
            have hS9 := PsAt.set5 hsw4 (g := W.heap.size) hlt (.int .i64 1) (.string ⟨#[]⟩) (.int .i64 0) (.slice none 0 0) (.int .i64 t.pos)
            have hL9 : Low (lowX (W.heap.size + 1)) w4 _ := Low.set5 (Chg.refl _ _) (.inl (lowX_self _)) (.int .i64 1) (.string ⟨#[]⟩) (.int .i64 0) (.slice none 0 0) (.int .i64 t.pos)
            rw [hw9] at hB9 hb9 hS9 hL9 ⊢
            have d0 := hB9.cell 0
            have d1 := hB9.cell 1
            have d2 := hB9.cell 2
            have d3 := hB9.cell 3
            have d4 := hB9.cell 4
            simp only [List.getElem?_toArray, List.getElem?_cons_succ, List.getElem?_cons_zero] at d0 d1 d2 d3 d4
            exact bodyPost_ret (v := .agg #[.int .i64 1, .string ⟨#[]⟩, .int .i64 0, .slice none 0 0, .int .i64 t.pos]) (by simp [results, Tryd.results88, go_sem, d0, d1, d2, d3, d4]) rfl ⟨hb9, ⟨[.int .i64 1, .string ⟨#[]⟩, .int .i64 0, .slice none 0 0, .int .i64 t.pos], rfl, rfl, PtM.leaf _ _ _ _ _ _ (ok_lit _ (by omega) (by omega)) (by simp [ByteArray.size]) (ok_lit _ (by omega) (by omega)) HPOS.out⟩, hS9, HF2.out⟩
          · have d4 : (t.text == [95]) = false := by simpa using h4
            cases hR : seesB u sRpar with
            | true =>
              obtain rfl : r = .ok (.mk 3 sUnit 0 [] t.pos) tr := by rw [← HR.out]; unfold apatP; simp [hb, kindH_cons, posH_cons, headT_cons, textH_cons, bytesOf, HK1.out, HK2.out, HK3.out, HRL.out, h4, seesH_cons, needP, Res.andThen, hR]
              clear h4
              have C3 := Lib.hid (fun W2 (hs : PsAt W2 pb (u :: tr) lv) => skip_any pb lv u tr sRpar W2 hs true hR)
              go_enter Tryd.func88, Tryd.ntmps88
              go_upto_region 1 with fail
              rw [HW1.out]
              go_upto_region 4 with (first | (go_at_call 90; (with_reducible refine (C1.out).mono ?_); rintro e w2 ⟨rfl, hb2⟩) | (go_at_call 18; (with_reducible refine (C2.out _ hb2).mono ?_); rintro e w3 ⟨rfl, hp3, hsw3⟩; rw [tk_cells]; (have hpw3 : Par pb W1 w3 := (Par.of_below hb2).trans hp3)))
              obtain ⟨w4, hw4⟩ : ∃ w4, w3.alloc (.cells #[.int .i64 t.kind, .string ⟨t.text.toArray⟩, .int .i64 t.num, .int .i64 t.pos] 52) = w4 := ⟨_, rfl⟩
              have hb4 : Below w3.heap.size w3 w4 := by rw [← hw4]; exact below_new' _ _
              have hx4 : Blk w4 w3.heap.size 52 #[.int .i64 t.kind, .string ⟨t.text.toArray⟩, .int .i64 t.num, .int .i64 t.pos] := by rw [← hw4]; exact Blk.new _ _ _
              rw [hw4]
              have hpw4 : Par pb W1 w4 := hpw3.trans (Par.of_below hb4)
              have hsw4 := hsw3.later hb4
              have k0 := hx4.cell 0
              have k1 := hx4.cell 1
              have k2 := hx4.cell 2
              have k3 := hx4.cell 3
              simp only [List.getElem?_toArray, List.getElem?_cons_succ, List.getElem?_cons_zero] at k0 k1 k2 k3
              clear hw4
              have hBw4 : Blk w4 W.heap.size 114 #[.int .i64 0, .string ⟨#[]⟩, .int .i64 0, .slice none 0 0, .int .i64 0] := (hpw4.block _ HRS.out.lt (by omega : ¬ W.heap.size = pb)).trans HRS.out
              have r0w4 := hBw4.cell 0
              have r1w4 := hBw4.cell 1
              have r2w4 := hBw4.cell 2
              have r3w4 := hBw4.cell 3
              have r4w4 := hBw4.cell 4
              simp only [List.getElem?_toArray, List.getElem?_cons_succ, List.getElem?_cons_zero] at r0w4 r1w4 r2w4 r3w4 r4w4
              have f0w4 := hBw4.frozen 0
              have f1w4 := hBw4.frozen 1
              have f2w4 := hBw4.frozen 2
              have f3w4 := hBw4.frozen 3
              have f4w4 := hBw4.frozen 4
              go_wp2_with (go_at_call 28; (with_reducible refine (C3.out _ hsw4).mono ?_); rintro e w5 ⟨rfl, hp5, hsw5⟩; (have hx5 : Blk w5 w3.heap.size 52 #[.int .i64 t.kind, .string ⟨t.text.toArray⟩, .int .i64 t.num, .int .i64 t.pos] := (hp5.block _ hx4.lt (by have := hsw3.lt; omega)).trans hx4); (have j3 := hx5.cell 3); (simp only [List.getElem?_toArray, List.getElem?_cons_succ, List.getElem?_cons_zero] at j3); (have hpw5 : Par pb W1 w5 := hpw4.trans hp5); (have hBw5 : Blk w5 W.heap.size 114 #[.int .i64 0, .string ⟨#[]⟩, .int .i64 0, .slice none 0 0, .int .i64 0] := (hpw5.block _ HRS.out.lt (by omega : ¬ W.heap.size = pb)).trans HRS.out); (have r0w5 := hBw5.cell 0); (have r1w5 := hBw5.cell 1); (have r2w5 := hBw5.cell 2); (have r3w5 := hBw5.cell 3); (have r4w5 := hBw5.cell 4); (simp only [List.getElem?_toArray, List.getElem?_cons_succ, List.getElem?_cons_zero] at r0w5 r1w5 r2w5 r3w5 r4w5); (have f0w5 := hBw5.frozen 0); (have f1w5 := hBw5.frozen 1); (have f2w5 := hBw5.frozen 2); (have f3w5 := hBw5.frozen 3); (have f4w5 := hBw5.frozen 4))
              obtain ⟨w9, hw9⟩ : ∃ w9, (((((w5).setCell ⟨W.heap.size, 0, none⟩ (.int .i64 3)).setCell ⟨W.heap.size, 1, none⟩ (.string ⟨#[85, 110, 105, 116]⟩)).setCell ⟨W.heap.size, 2, none⟩ (.int .i64 0)).setCell ⟨W.heap.size, 3, none⟩ (.slice none 0 0)).setCell ⟨W.heap.size, 4, none⟩ (.int .i64 t.pos) = w9 := ⟨_, rfl⟩
              have hPW := (Par.of_below (pb := pb) HN.out).trans hpw5
              have hB9 := set5 hBw5 (.int .i64 3) (.string ⟨#[85, 110, 105, 116]⟩) (.int .i64 0) (.slice none 0 0) (.int .i64 t.pos)
              have hb9 := Par.set5 hPW (Nat.le_refl _) (.int .i64 3) (.string ⟨#[85, 110, 105, 116]⟩) (.int .i64 0) (.slice none 0 0) (.int .i64 t.pos)
              have hS9 := PsAt.set5 hsw5 (g := W.heap.size) hlt (.int .i64 3) (.string ⟨#[85, 110, 105, 116]⟩) (.int .i64 0) (.slice none 0 0) (.int .i64 t.pos)
              have hL9 : Low (lowX (W.heap.size + 1)) w5 _ := Low.set5 (Chg.refl _ _) (.inl (lowX_self _)) (.int .i64 3) (.string ⟨#[85, 110, 105, 116]⟩) (.int .i64 0) (.slice none 0 0) (.int .i64 t.pos)
              rw [hw9] at hB9 hb9 hS9 hL9 ⊢
              have d0 := hB9.cell 0
              have d1 := hB9.cell 1
              have d2 := hB9.cell 2
              have d3 := hB9.cell 3
              have d4 := hB9.cell 4
              simp only [List.getElem?_toArray, List.getElem?_cons_succ, List.getElem?_cons_zero] at d0 d1 d2 d3 d4
              exact bodyPost_ret (v := .agg #[.int .i64 3, .string ⟨#[85, 110, 105, 116]⟩, .int .i64 0, .slice none 0 0, .int .i64 t.pos]) (by simp [results, Tryd.results88, go_sem, d0, d1, d2, d3, d4]) rfl ⟨hb9, ⟨[.int .i64 3, .string ⟨#[85, 110, 105, 116]⟩, .int .i64 0, .slice none 0 0, .int .i64 t.pos], rfl, rfl, PtM.leaf _ _ _ _ _ sUnit (ok_lit _ (by omega) (by omega)) (by simp [ByteArray.size]) (ok_lit _ (by omega) (by omega)) HPOS.out⟩, hS9, (HF2.out.tail_ (seesB_kind hR))⟩
            | false =>
              have C3 := Lib.hid (fun W2 (hs : PsAt W2 pb (u :: tr) lv) => skip_any pb lv u tr sRpar W2 hs false hR)
              cases hT : P lv (u :: tr) with
              | out => exact absurd (show r = .out from by rw [← HR.out]; unfold apatP; simp [hb, kindH_cons, posH_cons, headT_cons, textH_cons, bytesOf, HK1.out, HK2.out, HK3.out, HRL.out, h4, seesH_cons, needP, Res.andThen, hR, hT]) HO.out
              | bad c p =>
                obtain rfl : r = .bad c p := by rw [← HR.out]; unfold apatP; simp [hb, kindH_cons, posH_cons, headT_cons, textH_cons, bytesOf, HK1.out, HK2.out, HK3.out, HRL.out, h4, seesH_cons, needP, Res.andThen, hR, hT]
                have C4 := Lib.hid (fun W2 (hs : PsAt W2 pb (u :: tr) lv) => HT pb lv (u :: tr) W2 hs HF2.out hlv _ hT (by simp))
                clear h4
                go_enter Tryd.func88, Tryd.ntmps88
                go_upto_region 1 with fail
                rw [HW1.out]
                go_upto_region 4 with (first | (go_at_call 90; (with_reducible refine (C1.out).mono ?_); rintro e w2 ⟨rfl, hb2⟩) | (go_at_call 18; (with_reducible refine (C2.out _ hb2).mono ?_); rintro e w3 ⟨rfl, hp3, hsw3⟩; rw [tk_cells]; (have hpw3 : Par pb W1 w3 := (Par.of_below hb2).trans hp3)))
                obtain ⟨w4, hw4⟩ : ∃ w4, w3.alloc (.cells #[.int .i64 t.kind, .string ⟨t.text.toArray⟩, .int .i64 t.num, .int .i64 t.pos] 52) = w4 := ⟨_, rfl⟩
                have hb4 : Below w3.heap.size w3 w4 := by rw [← hw4]; exact below_new' _ _
                have hx4 : Blk w4 w3.heap.size 52 #[.int .i64 t.kind, .string ⟨t.text.toArray⟩, .int .i64 t.num, .int .i64 t.pos] := by rw [← hw4]; exact Blk.new _ _ _
                rw [hw4]
                have hpw4 : Par pb W1 w4 := hpw3.trans (Par.of_below hb4)
                have hsw4 := hsw3.later hb4
                have k0 := hx4.cell 0
                have k1 := hx4.cell 1
                have k2 := hx4.cell 2
                have k3 := hx4.cell 3
                simp only [List.getElem?_toArray, List.getElem?_cons_succ, List.getElem?_cons_zero] at k0 k1 k2 k3
                clear hw4
                have hBw4 : Blk w4 W.heap.size 114 #[.int .i64 0, .string ⟨#[]⟩, .int .i64 0, .slice none 0 0, .int .i64 0] := (hpw4.block _ HRS.out.lt (by omega : ¬ W.heap.size = pb)).trans HRS.out
                have r0w4 := hBw4.cell 0
                have r1w4 := hBw4.cell 1
                have r2w4 := hBw4.cell 2
                have r3w4 := hBw4.cell 3
                have r4w4 := hBw4.cell 4
                simp only [List.getElem?_toArray, List.getElem?_cons_succ, List.getElem?_cons_zero] at r0w4 r1w4 r2w4 r3w4 r4w4
                have f0w4 := hBw4.frozen 0
                have f1w4 := hBw4.frozen 1
                have f2w4 := hBw4.frozen 2
                have f3w4 := hBw4.frozen 3
                have f4w4 := hBw4.frozen 4
                go_wp2_with (first | (go_at_call 28; (with_reducible refine (C3.out _ hsw4).mono ?_); rintro e w5 ⟨rfl, hp5, hsw5⟩) | (go_at_call 77; (with_reducible refine (C4.out _ hsw5).mono ?_); rintro e w6 ⟨hp6, rfl⟩))
                exact ⟨rfl, (Par.of_below HN.out).trans ((hpw4.trans hp5).trans hp6), rfl⟩
              | ok x ts2 =>
                have C4 := Lib.hid (fun W2 (hs : PsAt W2 pb (u :: tr) lv) => HT pb lv (u :: tr) W2 hs HF2.out hlv _ hT (by simp))
                cases hS : seesH sRpar ts2 with
                | false =>
                  obtain rfl : r = .bad 110 (posH ts2) := by rw [← HR.out]; unfold apatP; simp [hb, kindH_cons, posH_cons, headT_cons, textH_cons, bytesOf, HK1.out, HK2.out, HK3.out, HRL.out, h4, seesH_cons, needP, Res.andThen, hR, hT, hS]
                  have C5 := Lib.hid (fun (v : Tk) (tq : List Tk) (hS : seesH sRpar (v :: tq) = false) W2 (hs : PsAt W2 pb (v :: tq) lv) => need_no pb lv v tq sRpar W2 hs hS)
                  clear h4
                  go_enter Tryd.func88, Tryd.ntmps88
                  go_upto_region 1 with fail
                  rw [HW1.out]
                  go_upto_region 4 with (first | (go_at_call 90; (with_reducible refine (C1.out).mono ?_); rintro e w2 ⟨rfl, hb2⟩) | (go_at_call 18; (with_reducible refine (C2.out _ hb2).mono ?_); rintro e w3 ⟨rfl, hp3, hsw3⟩; rw [tk_cells]; (have hpw3 : Par pb W1 w3 := (Par.of_below hb2).trans hp3)))
                  obtain ⟨w4, hw4⟩ : ∃ w4, w3.alloc (.cells #[.int .i64 t.kind, .string ⟨t.text.toArray⟩, .int .i64 t.num, .int .i64 t.pos] 52) = w4 := ⟨_, rfl⟩
                  have hb4 : Below w3.heap.size w3 w4 := by rw [← hw4]; exact below_new' _ _
                  have hx4 : Blk w4 w3.heap.size 52 #[.int .i64 t.kind, .string ⟨t.text.toArray⟩, .int .i64 t.num, .int .i64 t.pos] := by rw [← hw4]; exact Blk.new _ _ _
                  rw [hw4]
                  have hpw4 : Par pb W1 w4 := hpw3.trans (Par.of_below hb4)
                  have hsw4 := hsw3.later hb4
                  have k0 := hx4.cell 0
                  have k1 := hx4.cell 1
                  have k2 := hx4.cell 2
                  have k3 := hx4.cell 3
                  simp only [List.getElem?_toArray, List.getElem?_cons_succ, List.getElem?_cons_zero] at k0 k1 k2 k3
                  clear hw4
                  have hBw4 : Blk w4 W.heap.size 114 #[.int .i64 0, .string ⟨#[]⟩, .int .i64 0, .slice none 0 0, .int .i64 0] := (hpw4.block _ HRS.out.lt (by omega : ¬ W.heap.size = pb)).trans HRS.out
                  have r0w4 := hBw4.cell 0
                  have r1w4 := hBw4.cell 1
                  have r2w4 := hBw4.cell 2
                  have r3w4 := hBw4.cell 3
                  have r4w4 := hBw4.cell 4
                  simp only [List.getElem?_toArray, List.getElem?_cons_succ, List.getElem?_cons_zero] at r0w4 r1w4 r2w4 r3w4 r4w4
                  have f0w4 := hBw4.frozen 0
                  have f1w4 := hBw4.frozen 1
                  have f2w4 := hBw4.frozen 2
                  have f3w4 := hBw4.frozen 3
                  have f4w4 := hBw4.frozen 4
                  go_wp2_with (first | (go_at_call 28; (with_reducible refine (C3.out _ hsw4).mono ?_); rintro e w5 ⟨rfl, hp5, hsw5⟩) | (go_at_call 77; (with_reducible refine (C4.out _ hsw5).mono ?_); rintro e w6 ⟨hp6, ⟨cs, hlen, rfl, hty⟩, hsw6, hf6⟩; (obtain ⟨x0, x1, x2, x3, x4, rfl⟩ := five_of hlen); (have s0 := store_one' x0 (pt_ones' hty x0 (by simp))); (have s1 := store_one' x1 (pt_ones' hty x1 (by simp))); (have s2 := store_one' x2 (pt_ones' hty x2 (by simp))); (have s3 := store_one' x3 (pt_ones' hty x3 (by simp))); (have s4 := store_one' x4 (pt_ones' hty x4 (by simp))); (obtain ⟨v, tq, rfl⟩ := hf6.ne)) | (go_at_call 47; (with_reducible refine (C5.out _ _ hS _ (hsw6.later (below_new' _ _))).mono ?_); rintro e w7 ⟨rfl, hp7⟩))
                  exact ⟨rfl, (Par.of_below HN.out).trans ((((hpw4.trans hp5).trans hp6).trans (Par.of_below (below_new' _ _))).trans hp7), rfl⟩
                | true =>
                  obtain rfl : r = .ok x ts2.tail := by rw [← HR.out]; unfold apatP; simp [hb, kindH_cons, posH_cons, headT_cons, textH_cons, bytesOf, HK1.out, HK2.out, HK3.out, HRL.out, h4, seesH_cons, needP, Res.andThen, hR, hT, hS]
                  have C5 := Lib.hid (fun (v : Tk) (tq : List Tk) (hS : seesH sRpar (v :: tq) = true) W2 (hs : PsAt W2 pb (v :: tq) lv) => need_yes pb lv v tq sRpar W2 hs hS)
                  clear h4
                  go_enter Tryd.func88, Tryd.ntmps88
                  go_upto_region 1 with fail
                  rw [HW1.out]
                  go_upto_region 4 with (first | (go_at_call 90; (with_reducible refine (C1.out).mono ?_); rintro e w2 ⟨rfl, hb2⟩) | (go_at_call 18; (with_reducible refine (C2.out _ hb2).mono ?_); rintro e w3 ⟨rfl, hp3, hsw3⟩; rw [tk_cells]; (have hpw3 : Par pb W1 w3 := (Par.of_below hb2).trans hp3)))
                  obtain ⟨w4, hw4⟩ : ∃ w4, w3.alloc (.cells #[.int .i64 t.kind, .string ⟨t.text.toArray⟩, .int .i64 t.num, .int .i64 t.pos] 52) = w4 := ⟨_, rfl⟩
                  have hb4 : Below w3.heap.size w3 w4 := by rw [← hw4]; exact below_new' _ _
                  have hx4 : Blk w4 w3.heap.size 52 #[.int .i64 t.kind, .string ⟨t.text.toArray⟩, .int .i64 t.num, .int .i64 t.pos] := by rw [← hw4]; exact Blk.new _ _ _
                  rw [hw4]
                  have hpw4 : Par pb W1 w4 := hpw3.trans (Par.of_below hb4)
                  have hsw4 := hsw3.later hb4
                  have k0 := hx4.cell 0
                  have k1 := hx4.cell 1
                  have k2 := hx4.cell 2
                  have k3 := hx4.cell 3
                  simp only [List.getElem?_toArray, List.getElem?_cons_succ, List.getElem?_cons_zero] at k0 k1 k2 k3
                  clear hw4
                  have hBw4 : Blk w4 W.heap.size 114 #[.int .i64 0, .string ⟨#[]⟩, .int .i64 0, .slice none 0 0, .int .i64 0] := (hpw4.block _ HRS.out.lt (by omega : ¬ W.heap.size = pb)).trans HRS.out
                  have r0w4 := hBw4.cell 0
                  have r1w4 := hBw4.cell 1
                  have r2w4 := hBw4.cell 2
                  have r3w4 := hBw4.cell 3
                  have r4w4 := hBw4.cell 4
                  simp only [List.getElem?_toArray, List.getElem?_cons_succ, List.getElem?_cons_zero] at r0w4 r1w4 r2w4 r3w4 r4w4
                  have f0w4 := hBw4.frozen 0
                  have f1w4 := hBw4.frozen 1
                  have f2w4 := hBw4.frozen 2
                  have f3w4 := hBw4.frozen 3
                  have f4w4 := hBw4.frozen 4
                  go_wp2_with (first | (go_at_call 28; (with_reducible refine (C3.out _ hsw4).mono ?_); rintro e w5 ⟨rfl, hp5, hsw5⟩) | (go_at_call 77; (with_reducible refine (C4.out _ hsw5).mono ?_); rintro e w6 ⟨hp6, ⟨cs, hlen, rfl, hty⟩, hsw6, hf6⟩; (obtain ⟨x0, x1, x2, x3, x4, rfl⟩ := five_of hlen); (have s0 := store_one' x0 (pt_ones' hty x0 (by simp))); (have s1 := store_one' x1 (pt_ones' hty x1 (by simp))); (have s2 := store_one' x2 (pt_ones' hty x2 (by simp))); (have s3 := store_one' x3 (pt_ones' hty x3 (by simp))); (have s4 := store_one' x4 (pt_ones' hty x4 (by simp))); (obtain ⟨v, tq, rfl⟩ := hf6.ne)) | (go_at_call 47; (with_reducible refine (C5.out _ _ hS _ (hsw6.later (below_new' _ _))).mono ?_); rintro e w7 ⟨rfl, hp7, hsw7⟩; (have bx : Blk w7 w6.heap.size 114 #[x0, x1, x2, x3, x4] := (hp7.block _ (Blk.new w6 114 #[x0, x1, x2, x3, x4]).lt (by have := hsw6.lt; omega)).trans (Blk.new w6 114 #[x0, x1, x2, x3, x4])); (have z0 := bx.cell 0); (have z1 := bx.cell 1); (have z2 := bx.cell 2); (have z3 := bx.cell 3); (have z4 := bx.cell 4); (simp only [List.getElem?_toArray, List.getElem?_cons_succ, List.getElem?_cons_zero] at z0 z1 z2 z3 z4); (have hpw7 : Par pb W1 w7 := (((hpw4.trans hp5).trans hp6).trans (Par.of_below (below_new' _ _))).trans hp7); (have hBw7 : Blk w7 W.heap.size 114 #[.int .i64 0, .string ⟨#[]⟩, .int .i64 0, .slice none 0 0, .int .i64 0] := (hpw7.block _ HRS.out.lt (by omega : ¬ W.heap.size = pb)).trans HRS.out); (have r0w7 := hBw7.cell 0); (have r1w7 := hBw7.cell 1); (have r2w7 := hBw7.cell 2); (have r3w7 := hBw7.cell 3); (have r4w7 := hBw7.cell 4); (simp only [List.getElem?_toArray, List.getElem?_cons_succ, List.getElem?_cons_zero] at r0w7 r1w7 r2w7 r3w7 r4w7); (have f0w7 := hBw7.frozen 0); (have f1w7 := hBw7.frozen 1); (have f2w7 := hBw7.frozen 2); (have f3w7 := hBw7.frozen 3); (have f4w7 := hBw7.frozen 4)))
                  have hsz := HSZ.out
                  have hz5 := (hpw4.trans hp5).size
                  have hty7 := ((hty.wk (B' := W.heap.size + 1) (by omega)).later (Low.of_below (below_new' w6 (.cells #[x0, x1, x2, x3, x4] 114)))).later (Low.of_par hp7 (by omega))
                  obtain ⟨w9, hw9⟩ : ∃ w9, (((((w7).setCell ⟨W.heap.size, 0, none⟩ (x0)).setCell ⟨W.heap.size, 1, none⟩ (x1)).setCell ⟨W.heap.size, 2, none⟩ (x2)).setCell ⟨W.heap.size, 3, none⟩ (x3)).setCell ⟨W.heap.size, 4, none⟩ (x4) = w9 := ⟨_, rfl⟩
                  have hPW := (Par.of_below (pb := pb) HN.out).trans hpw7
                  have hB9 := set5 hBw7 (x0) (x1) (x2) (x3) (x4)
                  have hb9 := Par.set5 hPW (Nat.le_refl _) (x0) (x1) (x2) (x3) (x4)
                  have hS9 := PsAt.set5 hsw7 (g := W.heap.size) hlt (x0) (x1) (x2) (x3) (x4)
                  have hL9 : Low (lowX (W.heap.size + 1)) w7 _ := Low.set5 (Chg.refl _ _) (.inl (lowX_self _)) (x0) (x1) (x2) (x3) (x4)
                  rw [hw9] at hB9 hb9 hS9 hL9 ⊢
                  have d0 := hB9.cell 0
                  have d1 := hB9.cell 1
                  have d2 := hB9.cell 2
                  have d3 := hB9.cell 3
                  have d4 := hB9.cell 4
                  simp only [List.getElem?_toArray, List.getElem?_cons_succ, List.getElem?_cons_zero] at d0 d1 d2 d3 d4
                  exact bodyPost_ret (v := .agg #[x0, x1, x2, x3, x4]) (by simp [results, Tryd.results88, go_sem, d0, d1, d2, d3, d4]) rfl ⟨hb9, ⟨[x0, x1, x2, x3, x4], rfl, rfl, (hty7.later hL9).wk (by omega)⟩, hS9, (hf6.sees hS)⟩

end Go.Proofs.YtiiddmioafhmoaaDoor
