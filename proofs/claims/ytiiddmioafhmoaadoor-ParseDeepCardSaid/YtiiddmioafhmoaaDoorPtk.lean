/- Walks: a parser's tokens: looking, taking, needing. -/
import Derived.Test.YtiiddmioafhmoaaDoorMgb
import Derived.Test.YtiiddmioafhmoaaDoorRng
import Derived.Test.YtiiddmioafhmoaaDoorTrees
import Derived.Deep.DeepCutAuto
import Derived.Deep.CutBlock
import Derived.Deep.CutRange
namespace Go.Proofs.YtiiddmioafhmoaaDoor
open Go.RowKit
set_option linter.unusedVariables false
set_option maxRecDepth 100000

/-- A token's value. -/
def tkV (t : Tk) : Value := .agg #[.int .i64 t.kind, .string ⟨t.text.toArray⟩, .int .i64 t.num, .int .i64 t.pos]
/-- A parser: what is unread, and the level. -/
structure PsAt (W : World) (pb : Nat) (ts : List Tk) (lv : Nat) : Prop where
  ex : ∃ A cap, Blk W pb 50 #[.slice A ts.length cap, .int .i64 lv] ∧ ts.length ≤ cap ∧ cap ≤ maxLen ∧ TkRow W pb A ts
theorem PsAt.lt {W : World} {pb lv : Nat} {ts : List Tk} (h : PsAt W pb ts lv) : pb < W.heap.size := by
  obtain ⟨A, cap, hb, _⟩ := h.ex
  exact hb.lt
theorem PsAt.later {W W' : World} {pb lv : Nat} {ts : List Tk} (h : PsAt W pb ts lv) (hb : Below W.heap.size W W') : PsAt W' pb ts lv := by
  obtain ⟨A, cap, h1, h2, h3, h4⟩ := h.ex
  exact ⟨A, cap, h1.below hb h1.lt, h2, h3, h4.below (hb.mono (Nat.le_of_lt h1.lt))⟩
/-- What may change is the parser's own block. -/
abbrev Par (pb : Nat) (W W' : World) : Prop := Chg (· = pb) W W'
theorem Par.of_below {pb : Nat} {W W' : World} (h : Below W.heap.size W W') : Par pb W W' := Chg.of_old h

theorem four_set' {w : World} {g : Nat} {t : TypeId} {x0 x1 x2 x3 : Value} (h : Blk w g t #[x0, x1, x2, x3]) (y0 y1 y2 y3 : Value) :
    Blk ((((w.setCell ⟨g, 0, none⟩ y0).setCell ⟨g, 1, none⟩ y1).setCell ⟨g, 2, none⟩ y2).setCell ⟨g, 3, none⟩ y3) g t #[y0, y1, y2, y3] := by
  have := (((h.set_ 0 y0).set_ 1 y1).set_ 2 y2).set_ 3 y3
  simpa using this
theorem four_below' {w w' : World} {g B : Nat} (hg : B ≤ g) (h : Below B w w') (y0 y1 y2 y3 : Value) :
    Below B w ((((w'.setCell ⟨g, 0, none⟩ y0).setCell ⟨g, 1, none⟩ y1).setCell ⟨g, 2, none⟩ y2).setCell ⟨g, 3, none⟩ y3) :=
  (((h.setCell (p := ⟨g, 0, none⟩) hg y0).setCell (p := ⟨g, 1, none⟩) hg y1).setCell (p := ⟨g, 2, none⟩) hg y2).setCell (p := ⟨g, 3, none⟩) hg y3

theorem Par.set_ {pb : Nat} {W w : World} {p : Addr} (h : Par pb W w) (hp : p.block = pb ∨ W.heap.size ≤ p.block) (u : Value) : Par pb W (w.setCell p u) :=
  ⟨h.os, h.tape, h.output, Nat.le_trans h.size (by simp [World.setCell]), fun k hk hx => (Below.heap_setCell w p u k (by rintro rfl; rcases hp with h1 | h1; exact hx h1; omega)).trans (h.block k hk hx)⟩
theorem Par.four {pb g : Nat} {W w : World} (h : Par pb W w) (hg : W.heap.size ≤ g) (y0 y1 y2 y3 : Value) :
    Par pb W ((((w.setCell ⟨g, 0, none⟩ y0).setCell ⟨g, 1, none⟩ y1).setCell ⟨g, 2, none⟩ y2).setCell ⟨g, 3, none⟩ y3) :=
  (((h.set_ (p := ⟨g, 0, none⟩) (.inr hg) y0).set_ (p := ⟨g, 1, none⟩) (.inr hg) y1).set_ (p := ⟨g, 2, none⟩) (.inr hg) y2).set_ (p := ⟨g, 3, none⟩) (.inr hg) y3
theorem four_far {w : World} {g b : Nat} {t : TypeId} {cs : Array Value} (h : Blk w b t cs) (hne : b ≠ g) (y0 y1 y2 y3 : Value) :
    Blk ((((w.setCell ⟨g, 0, none⟩ y0).setCell ⟨g, 1, none⟩ y1).setCell ⟨g, 2, none⟩ y2).setCell ⟨g, 3, none⟩ y3) b t cs :=
  (((h.far (p := ⟨g, 0, none⟩) hne y0).far (p := ⟨g, 1, none⟩) hne y1).far (p := ⟨g, 2, none⟩) hne y2).far (p := ⟨g, 3, none⟩) hne y3
theorem Par.cell_low {pb : Nat} {W W' : World} (h : Par pb W W') (hlt : pb < W.heap.size) {p : Addr} (hp : p.block < pb) : W'.cell? p = W.cell? p := Chg.cell h (by omega) (by omega)

set_option maxHeartbeats 1600000 in
theorem ahead_any (pb lv : Nat) (t : Tk) (ts : List Tk) (W : World) (h : PsAt W pb (t :: ts) lv) :
    Calls Tryd.prog 16 #[.pointer (some ⟨pb, 0, none⟩)] W fun e W' => e = .returned (tkV t) ∧ Below W.heap.size W W' := by
  obtain ⟨A, cap, hb, hc, hm, hr⟩ := h.ex
  obtain ⟨g, o, rfl, hg, hcell⟩ := hr (by simp)
  obtain ⟨k0, k1, k2, k3⟩ := hcell 0 (by simp)
  simp only [Nat.zero_mul, Nat.add_zero, List.getElem_cons_zero] at k0 k1 k2 k3
  have hc0 := hb.cell 0
  simp only [List.getElem?_toArray, List.getElem?_cons_zero] at hc0
  have hl : ts.length + 1 ≤ cap := hc
  have hlt := hb.lt
  have hgl : g < W.heap.size := by omega
  rw [List.length_cons] at hc0
  clear hb hc hr hcell
  go_enter Tryd.func16, Tryd.ntmps16
  go_wp2_with fail
  refine bodyPost_ret (v := tkV t) (by simp [results, Tryd.results16, go_sem, tkV]) rfl ⟨rfl, (Below.refl _ _).alloc (Nat.le_refl _) _⟩

/-- What may be said of a token's sign. -/
def seesB (t : Tk) (s : ByteArray) : Bool := (t.kind == 6 || t.kind == 7) && t.text == s.data.toList
/-- The tokens behind the next one. -/
def restT : List Tk → List Tk
  | [] => []
  | t :: ts => if t.kind = 0 then t :: ts else ts

theorem tk_cells (t : Tk) : tkV t = .agg #[.int .i64 t.kind, .string ⟨t.text.toArray⟩, .int .i64 t.num, .int .i64 t.pos] := rfl
theorem PsAt.step {W W' : World} {pb lv : Nat} {t : Tk} {ts : List Tk} {g o cap : Nat} (hc : ts.length + 1 ≤ cap) (hm : cap ≤ maxLen) (hr : TkRow W pb (some ⟨g, o, none⟩) (t :: ts)) (hb : Blk W' pb 50 #[.slice (if cap = 1 then some ⟨g, o, none⟩ else some ⟨g, o + 4, none⟩) ts.length (cap - 1), .int .i64 lv]) (hk : ∀ p : Addr, p.block < pb → W'.cell? p = W.cell? p) : PsAt W' pb ts lv := by
  refine ⟨_, _, hb, by omega, by omega, ?_⟩
  have := (hr.keep hk).drop_ 1 cap (by simpa using hc)
  simpa [Addr.add] using this

set_option maxHeartbeats 1600000 in
theorem take_any (pb lv : Nat) (t : Tk) (ts : List Tk) (W : World) (h : PsAt W pb (t :: ts) lv) :
    Calls Tryd.prog 18 #[.pointer (some ⟨pb, 0, none⟩)] W fun e W' => e = .returned (tkV t) ∧ Par pb W W' ∧ PsAt W' pb (restT (t :: ts)) lv := by
  have hlt := h.lt
  obtain ⟨kd, tx, nm, po⟩ := t
  have C := Lib.hid (fun W' (hb : Below W.heap.size W W') => ahead_any pb lv ⟨kd, tx, nm, po⟩ ts W' (h.later hb))
  obtain ⟨A, cap, hb, hc, hm, hr⟩ := h.ex
  obtain ⟨g, o, rfl, hg, hcell⟩ := hr (by simp)
  have hl : ts.length + 1 ≤ cap := hc
  have HR := Lib.hid hr
  have HB := Lib.hid hb
  have HPS := Lib.hid h
  clear hb hc hr hcell h
  obtain ⟨W1, hW1⟩ : ∃ W1, W.alloc (.cells #[.int .i64 0, .string ⟨#[]⟩, .int .i64 0, .int .i64 0] 52) = W1 := ⟨_, rfl⟩
  have hnew : Below W.heap.size W W1 := by rw [← hW1]; exact (Below.refl _ _).alloc (Nat.le_refl _) _
  have hres : Blk W1 W.heap.size 52 #[.int .i64 0, .string ⟨#[]⟩, .int .i64 0, .int .i64 0] := by rw [← hW1]; exact Blk.new _ _ _
  have HW1 := Lib.hid hW1
  have HN := Lib.hid hnew
  have HRS := Lib.hid hres
  clear hW1 hnew hres
  go_enter Tryd.func18, Tryd.ntmps18
  go_upto_region 1 with fail
  rw [HW1.out]
  go_upto_region 2 with (go_at_call 16; (with_reducible refine (C.out _ HN.out).mono ?_); rintro e w2 ⟨rfl, hb2⟩; rw [tk_cells]; dsimp only)
  obtain ⟨w3, hw3⟩ : ∃ w3, w2.alloc (.cells #[.int .i64 kd, .string ⟨tx.toArray⟩, .int .i64 nm, .int .i64 po] 52) = w3 := ⟨_, rfl⟩
  have h23 : Below w2.heap.size w2 w3 := by rw [← hw3]; exact (Below.refl _ _).alloc (Nat.le_refl _) _
  have hbt : Blk w3 w2.heap.size 52 #[.int .i64 kd, .string ⟨tx.toArray⟩, .int .i64 nm, .int .i64 po] := by rw [← hw3]; exact Blk.new _ _ _
  have h13 : Below W1.heap.size W1 w3 := hb2.trans (h23.mono hb2.size)
  have hs1 : W1.heap.size = W.heap.size + 1 := by rw [← HW1.out]; simp
  have h03 : Below W.heap.size W w3 := HN.out.trans (h13.mono HN.out.size)
  have hrs3 := HRS.out.below h13 HRS.out.lt
  have hps3 := HB.out.below h03 hlt
  have hz2 : W1.heap.size ≤ w2.heap.size := hb2.size
  rw [hw3]
  have t0 := hbt.cell 0
  have t1 := hbt.cell 1
  have t2 := hbt.cell 2
  have t3 := hbt.cell 3
  have p0 := hps3.cell 0
  have r0 := hrs3.cell 0
  have r1 := hrs3.cell 1
  have r2 := hrs3.cell 2
  have r3 := hrs3.cell 3
  simp only [List.getElem?_toArray, List.getElem?_cons_succ, List.getElem?_cons_zero] at t0 t1 t2 t3 p0 r0 r1 r2 r3
  have fr0 := hrs3.frozen 0
  have fr1 := hrs3.frozen 1
  have fr2 := hrs3.frozen 2
  have fr3 := hrs3.frozen 3
  have fp0 := hps3.frozen 0
  rw [List.length_cons] at p0
  have H03 := Lib.hid h03
  have HRS3 := Lib.hid hrs3
  have HPS3 := Lib.hid hps3
  have HBT := Lib.hid hbt
  clear hw3 h23 hbt h13 h03 hrs3 hps3 hb2
  have hne : pb ≠ W.heap.size := by omega
  by_cases hk : kd = 0
  · subst hk
    go_wp2_with fail
    obtain ⟨w5, hw5⟩ : ∃ w5, (((w3.setCell ⟨W.heap.size, 0, none⟩ (.int .i64 0)).setCell ⟨W.heap.size, 1, none⟩ (.string ⟨tx.toArray⟩)).setCell ⟨W.heap.size, 2, none⟩ (.int .i64 nm)).setCell ⟨W.heap.size, 3, none⟩ (.int .i64 po) = w5 := ⟨_, rfl⟩
    have hB5 := four_set' HRS3.out (.int .i64 0) (.string ⟨tx.toArray⟩) (.int .i64 nm) (.int .i64 po)
    have hb5 := four_below' (Nat.le_refl _) H03.out (.int .i64 0) (.string ⟨tx.toArray⟩) (.int .i64 nm) (.int .i64 po)
    rw [hw5] at hB5 hb5 ⊢
    have d0 := hB5.cell 0
    have d1 := hB5.cell 1
    have d2 := hB5.cell 2
    have d3 := hB5.cell 3
    simp only [List.getElem?_toArray, List.getElem?_cons_succ, List.getElem?_cons_zero] at d0 d1 d2 d3
    exact bodyPost_ret (v := tkV ⟨0, tx, nm, po⟩) (by simp [results, Tryd.results18, go_sem, tkV, d0, d1, d2, d3]) rfl ⟨rfl, Par.of_below hb5, HPS.out.later hb5⟩
  · have d0 : (kd != 0) = true := by simpa using hk
    have HREST := Lib.hid (show restT (⟨kd, tx, nm, po⟩ :: ts) = ts by simp [restT, hk])
    have HL := Lib.hid hl
    by_cases hcap : cap = 1
    · subst hcap
      obtain rfl : ts = [] := List.eq_nil_of_length_eq_zero (by omega)
      go_wp2_with fail
      have hB4 := HPS3.out.set_ 0 (.slice (some ⟨g, o, none⟩) 0 0)
      have hR4 := HRS3.out.far (p := ⟨pb, 0, none⟩) (by show W.heap.size ≠ pb; omega) (.slice (some ⟨g, o, none⟩) 0 0)
      have hP4 := (Par.of_below H03.out).set_ (pb := pb) (p := ⟨pb, 0, none⟩) (.inl rfl) (.slice (some ⟨g, o, none⟩) 0 0)
      obtain ⟨w5, hw5⟩ : ∃ w5, ((((w3.setCell ⟨pb, 0, none⟩ (.slice (some ⟨g, o, none⟩) 0 0)).setCell ⟨W.heap.size, 0, none⟩ (.int .i64 kd)).setCell ⟨W.heap.size, 1, none⟩ (.string ⟨tx.toArray⟩)).setCell ⟨W.heap.size, 2, none⟩ (.int .i64 nm)).setCell ⟨W.heap.size, 3, none⟩ (.int .i64 po) = w5 := ⟨_, rfl⟩
      have hB5 := four_set' hR4 (.int .i64 kd) (.string ⟨tx.toArray⟩) (.int .i64 nm) (.int .i64 po)
      have hb5 := Par.four hP4 (Nat.le_refl _) (.int .i64 kd) (.string ⟨tx.toArray⟩) (.int .i64 nm) (.int .i64 po)
      have hS5 := four_far hB4 hne (.int .i64 kd) (.string ⟨tx.toArray⟩) (.int .i64 nm) (.int .i64 po)
      rw [hw5] at hB5 hb5 hS5 ⊢
      have d0 := hB5.cell 0
      have d1 := hB5.cell 1
      have d2 := hB5.cell 2
      have d3 := hB5.cell 3
      simp only [List.getElem?_toArray, List.getElem?_cons_succ, List.getElem?_cons_zero] at d0 d1 d2 d3
      exact bodyPost_ret (v := tkV ⟨kd, tx, nm, po⟩) (by simp [results, Tryd.results18, go_sem, tkV, d0, d1, d2, d3]) rfl ⟨rfl, hb5, by
        rw [HREST.out]
        exact PsAt.step HL.out hm HR.out (by simpa [Nat.sub_self] using hS5) (fun p hp => Par.cell_low hb5 hlt hp)⟩
    · have HCAP := Lib.hid hcap
      go_wp2_with fail
      have hB4 := HPS3.out.set_ 0 (.slice (some ⟨g, o + 4, none⟩) ts.length (cap - 1))
      have hR4 := HRS3.out.far (p := ⟨pb, 0, none⟩) (by show W.heap.size ≠ pb; omega) (.slice (some ⟨g, o + 4, none⟩) ts.length (cap - 1))
      have hP4 := (Par.of_below H03.out).set_ (pb := pb) (p := ⟨pb, 0, none⟩) (.inl rfl) (.slice (some ⟨g, o + 4, none⟩) ts.length (cap - 1))
      obtain ⟨w5, hw5⟩ : ∃ w5, ((((w3.setCell ⟨pb, 0, none⟩ (.slice (some ⟨g, o + 4, none⟩) ts.length (cap - 1))).setCell ⟨W.heap.size, 0, none⟩ (.int .i64 kd)).setCell ⟨W.heap.size, 1, none⟩ (.string ⟨tx.toArray⟩)).setCell ⟨W.heap.size, 2, none⟩ (.int .i64 nm)).setCell ⟨W.heap.size, 3, none⟩ (.int .i64 po) = w5 := ⟨_, rfl⟩
      have hB5 := four_set' hR4 (.int .i64 kd) (.string ⟨tx.toArray⟩) (.int .i64 nm) (.int .i64 po)
      have hb5 := Par.four hP4 (Nat.le_refl _) (.int .i64 kd) (.string ⟨tx.toArray⟩) (.int .i64 nm) (.int .i64 po)
      have hS5 := four_far hB4 hne (.int .i64 kd) (.string ⟨tx.toArray⟩) (.int .i64 nm) (.int .i64 po)
      rw [hw5] at hB5 hb5 hS5 ⊢
      have d0 := hB5.cell 0
      have d1 := hB5.cell 1
      have d2 := hB5.cell 2
      have d3 := hB5.cell 3
      simp only [List.getElem?_toArray, List.getElem?_cons_succ, List.getElem?_cons_zero] at d0 d1 d2 d3
      exact bodyPost_ret (v := tkV ⟨kd, tx, nm, po⟩) (by simp [results, Tryd.results18, go_sem, tkV, d0, d1, d2, d3]) rfl ⟨rfl, hb5, by
        rw [HREST.out]
        exact PsAt.step HL.out hm HR.out (by simpa [HCAP.out] using hS5) (fun p hp => Par.cell_low hb5 hlt hp)⟩


theorem PsAt.four {W : World} {pb lv g : Nat} {ts : List Tk} (h : PsAt W pb ts lv) (hg : pb < g) (y0 y1 y2 y3 : Value) :
    PsAt ((((W.setCell ⟨g, 0, none⟩ y0).setCell ⟨g, 1, none⟩ y1).setCell ⟨g, 2, none⟩ y2).setCell ⟨g, 3, none⟩ y3) pb ts lv := by
  obtain ⟨A, cap, h1, h2, h3, h4⟩ := h.ex
  exact ⟨A, cap, four_far h1 (by omega) y0 y1 y2 y3, h2, h3, h4.below (four_below' (Nat.le_of_lt hg) (Below.refl _ _) y0 y1 y2 y3)⟩
theorem below_new' (W : World) (o : Obj) : Below W.heap.size W (W.alloc o) := (Below.refl _ _).alloc (Nat.le_refl _) o

end Go.Proofs.YtiiddmioafhmoaaDoor
