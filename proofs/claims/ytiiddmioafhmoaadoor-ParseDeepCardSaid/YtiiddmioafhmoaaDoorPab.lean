/- Walks: alternatives, bindings. -/
import Derived.Test.YtiiddmioafhmoaaDoorPbk
namespace Go.Proofs.YtiiddmioafhmoaaDoor
open Go.RowKit
set_option linter.unusedVariables false
set_option linter.unusedSimpArgs false
set_option maxRecDepth 100000

abbrev sEq : ByteArray := ⟨#[61]⟩
def altP (E : Nat → List Tk → Res Ex) (P : Nat → List Tk → Res Pt) (lv : Nat) (ts : List Tk) : Res Al :=
  (P lv ts).andThen fun p ts1 => (needP sArrow ts1).andThen fun _ ts2 => (E lv ts2).andThen fun e ts3 => .ok (.mk p e) ts3
def bindP (E : Nat → List Tk → Res Ex) (lv : Nat) (ts : List Tk) : Res Bd :=
  (nameP ts).andThen fun t ts1 => (needP sEq ts1).andThen fun _ ts2 => (E lv ts2).andThen fun e ts3 => .ok (.mk (bytesOf t) e t.pos) ts3
theorem AlM.mk_ {X : Nat → Bool} {W : World} {P E : List Value} {p : Pt} {e : Ex} (hp : rPt.M X W P p) (he : rEx.M X W E e) : rAl.M X W (P ++ E) (.mk p e) := AlAt.mk hp he
theorem BdM.mk_ {X : Nat → Bool} {W : World} {nm : ByteArray} {q : Int} {E : List Value} {e : Ex} (hs : nm.size ≤ 60000) (he : rEx.M X W E e) (hq : ok64 q) : rBd.M X W ([.string nm] ++ E ++ [.int .i64 q]) (.mk nm e q) := BdAt.mk (by unfold maxLen; omega) he hq
theorem set16 {w : World} {g : Nat} {t : TypeId} {x0 x1 x2 x3 x4 x5 x6 x7 x8 x9 x10 x11 x12 x13 x14 x15 : Value} (h : Blk w g t #[x0, x1, x2, x3, x4, x5, x6, x7, x8, x9, x10, x11, x12, x13, x14, x15]) (y0 y1 y2 y3 y4 y5 y6 y7 y8 y9 y10 y11 y12 y13 y14 y15 : Value) : Blk (((((((((((((((((w).setCell ⟨g, 0, none⟩ y0).setCell ⟨g, 1, none⟩ y1).setCell ⟨g, 2, none⟩ y2).setCell ⟨g, 3, none⟩ y3).setCell ⟨g, 4, none⟩ y4).setCell ⟨g, 5, none⟩ y5).setCell ⟨g, 6, none⟩ y6).setCell ⟨g, 7, none⟩ y7).setCell ⟨g, 8, none⟩ y8).setCell ⟨g, 9, none⟩ y9).setCell ⟨g, 10, none⟩ y10).setCell ⟨g, 11, none⟩ y11).setCell ⟨g, 12, none⟩ y12).setCell ⟨g, 13, none⟩ y13).setCell ⟨g, 14, none⟩ y14).setCell ⟨g, 15, none⟩ y15) g t #[y0, y1, y2, y3, y4, y5, y6, y7, y8, y9, y10, y11, y12, y13, y14, y15] := by
  have := ((((((((((((((((h).set_ 0 y0).set_ 1 y1).set_ 2 y2).set_ 3 y3).set_ 4 y4).set_ 5 y5).set_ 6 y6).set_ 7 y7).set_ 8 y8).set_ 9 y9).set_ 10 y10).set_ 11 y11).set_ 12 y12).set_ 13 y13).set_ 14 y14).set_ 15 y15
  simpa using this
theorem Par.set16 {pb g : Nat} {W w : World} (h : Par pb W w) (hg : W.heap.size ≤ g) (y0 y1 y2 y3 y4 y5 y6 y7 y8 y9 y10 y11 y12 y13 y14 y15 : Value) : Par pb W (((((((((((((((((w).setCell ⟨g, 0, none⟩ y0).setCell ⟨g, 1, none⟩ y1).setCell ⟨g, 2, none⟩ y2).setCell ⟨g, 3, none⟩ y3).setCell ⟨g, 4, none⟩ y4).setCell ⟨g, 5, none⟩ y5).setCell ⟨g, 6, none⟩ y6).setCell ⟨g, 7, none⟩ y7).setCell ⟨g, 8, none⟩ y8).setCell ⟨g, 9, none⟩ y9).setCell ⟨g, 10, none⟩ y10).setCell ⟨g, 11, none⟩ y11).setCell ⟨g, 12, none⟩ y12).setCell ⟨g, 13, none⟩ y13).setCell ⟨g, 14, none⟩ y14).setCell ⟨g, 15, none⟩ y15) :=
  ((((((((((((((((h).set_ (p := ⟨g, 0, none⟩) (.inr hg) y0).set_ (p := ⟨g, 1, none⟩) (.inr hg) y1).set_ (p := ⟨g, 2, none⟩) (.inr hg) y2).set_ (p := ⟨g, 3, none⟩) (.inr hg) y3).set_ (p := ⟨g, 4, none⟩) (.inr hg) y4).set_ (p := ⟨g, 5, none⟩) (.inr hg) y5).set_ (p := ⟨g, 6, none⟩) (.inr hg) y6).set_ (p := ⟨g, 7, none⟩) (.inr hg) y7).set_ (p := ⟨g, 8, none⟩) (.inr hg) y8).set_ (p := ⟨g, 9, none⟩) (.inr hg) y9).set_ (p := ⟨g, 10, none⟩) (.inr hg) y10).set_ (p := ⟨g, 11, none⟩) (.inr hg) y11).set_ (p := ⟨g, 12, none⟩) (.inr hg) y12).set_ (p := ⟨g, 13, none⟩) (.inr hg) y13).set_ (p := ⟨g, 14, none⟩) (.inr hg) y14).set_ (p := ⟨g, 15, none⟩) (.inr hg) y15
theorem PsAt.set16 {w : World} {pb lv g : Nat} {ts : List Tk} (h : PsAt w pb ts lv) (hg : pb < g) (y0 y1 y2 y3 y4 y5 y6 y7 y8 y9 y10 y11 y12 y13 y14 y15 : Value) : PsAt (((((((((((((((((w).setCell ⟨g, 0, none⟩ y0).setCell ⟨g, 1, none⟩ y1).setCell ⟨g, 2, none⟩ y2).setCell ⟨g, 3, none⟩ y3).setCell ⟨g, 4, none⟩ y4).setCell ⟨g, 5, none⟩ y5).setCell ⟨g, 6, none⟩ y6).setCell ⟨g, 7, none⟩ y7).setCell ⟨g, 8, none⟩ y8).setCell ⟨g, 9, none⟩ y9).setCell ⟨g, 10, none⟩ y10).setCell ⟨g, 11, none⟩ y11).setCell ⟨g, 12, none⟩ y12).setCell ⟨g, 13, none⟩ y13).setCell ⟨g, 14, none⟩ y14).setCell ⟨g, 15, none⟩ y15) pb ts lv := by
  obtain ⟨A, cap, h1, h2, h3, h4⟩ := h.ex
  have hne : pb ≠ g := by omega
  exact ⟨A, cap, ((((((((((((((((h1).far (p := ⟨g, 0, none⟩) hne y0).far (p := ⟨g, 1, none⟩) hne y1).far (p := ⟨g, 2, none⟩) hne y2).far (p := ⟨g, 3, none⟩) hne y3).far (p := ⟨g, 4, none⟩) hne y4).far (p := ⟨g, 5, none⟩) hne y5).far (p := ⟨g, 6, none⟩) hne y6).far (p := ⟨g, 7, none⟩) hne y7).far (p := ⟨g, 8, none⟩) hne y8).far (p := ⟨g, 9, none⟩) hne y9).far (p := ⟨g, 10, none⟩) hne y10).far (p := ⟨g, 11, none⟩) hne y11).far (p := ⟨g, 12, none⟩) hne y12).far (p := ⟨g, 13, none⟩) hne y13).far (p := ⟨g, 14, none⟩) hne y14).far (p := ⟨g, 15, none⟩) hne y15, h2, h3, h4.keep fun p hp => World.cell?_of_block (w := w) (by
    have hp2 : p.block ≠ g := by omega
    rw [Below.heap_setCell _ ⟨g, 15, none⟩ _ _ hp2, Below.heap_setCell _ ⟨g, 14, none⟩ _ _ hp2, Below.heap_setCell _ ⟨g, 13, none⟩ _ _ hp2, Below.heap_setCell _ ⟨g, 12, none⟩ _ _ hp2, Below.heap_setCell _ ⟨g, 11, none⟩ _ _ hp2, Below.heap_setCell _ ⟨g, 10, none⟩ _ _ hp2, Below.heap_setCell _ ⟨g, 9, none⟩ _ _ hp2, Below.heap_setCell _ ⟨g, 8, none⟩ _ _ hp2, Below.heap_setCell _ ⟨g, 7, none⟩ _ _ hp2, Below.heap_setCell _ ⟨g, 6, none⟩ _ _ hp2, Below.heap_setCell _ ⟨g, 5, none⟩ _ _ hp2, Below.heap_setCell _ ⟨g, 4, none⟩ _ _ hp2, Below.heap_setCell _ ⟨g, 3, none⟩ _ _ hp2, Below.heap_setCell _ ⟨g, 2, none⟩ _ _ hp2, Below.heap_setCell _ ⟨g, 1, none⟩ _ _ hp2, Below.heap_setCell _ ⟨g, 0, none⟩ _ _ hp2])⟩
theorem Low.set16 {X : Nat → Bool} {g : Nat} {W w : World} (h : Low X W w) (hg : X g = true ∨ W.heap.size ≤ g) (y0 y1 y2 y3 y4 y5 y6 y7 y8 y9 y10 y11 y12 y13 y14 y15 : Value) : Low X W (((((((((((((((((w).setCell ⟨g, 0, none⟩ y0).setCell ⟨g, 1, none⟩ y1).setCell ⟨g, 2, none⟩ y2).setCell ⟨g, 3, none⟩ y3).setCell ⟨g, 4, none⟩ y4).setCell ⟨g, 5, none⟩ y5).setCell ⟨g, 6, none⟩ y6).setCell ⟨g, 7, none⟩ y7).setCell ⟨g, 8, none⟩ y8).setCell ⟨g, 9, none⟩ y9).setCell ⟨g, 10, none⟩ y10).setCell ⟨g, 11, none⟩ y11).setCell ⟨g, 12, none⟩ y12).setCell ⟨g, 13, none⟩ y13).setCell ⟨g, 14, none⟩ y14).setCell ⟨g, 15, none⟩ y15) :=
  ((((((((((((((((h).set_ (p := ⟨g, 0, none⟩) hg y0).set_ (p := ⟨g, 1, none⟩) hg y1).set_ (p := ⟨g, 2, none⟩) hg y2).set_ (p := ⟨g, 3, none⟩) hg y3).set_ (p := ⟨g, 4, none⟩) hg y4).set_ (p := ⟨g, 5, none⟩) hg y5).set_ (p := ⟨g, 6, none⟩) hg y6).set_ (p := ⟨g, 7, none⟩) hg y7).set_ (p := ⟨g, 8, none⟩) hg y8).set_ (p := ⟨g, 9, none⟩) hg y9).set_ (p := ⟨g, 10, none⟩) hg y10).set_ (p := ⟨g, 11, none⟩) hg y11).set_ (p := ⟨g, 12, none⟩) hg y12).set_ (p := ⟨g, 13, none⟩) hg y13).set_ (p := ⟨g, 14, none⟩) hg y14).set_ (p := ⟨g, 15, none⟩) hg y15
theorem set13 {w : World} {g : Nat} {t : TypeId} {x0 x1 x2 x3 x4 x5 x6 x7 x8 x9 x10 x11 x12 : Value} (h : Blk w g t #[x0, x1, x2, x3, x4, x5, x6, x7, x8, x9, x10, x11, x12]) (y0 y1 y2 y3 y4 y5 y6 y7 y8 y9 y10 y11 y12 : Value) : Blk ((((((((((((((w).setCell ⟨g, 0, none⟩ y0).setCell ⟨g, 1, none⟩ y1).setCell ⟨g, 2, none⟩ y2).setCell ⟨g, 3, none⟩ y3).setCell ⟨g, 4, none⟩ y4).setCell ⟨g, 5, none⟩ y5).setCell ⟨g, 6, none⟩ y6).setCell ⟨g, 7, none⟩ y7).setCell ⟨g, 8, none⟩ y8).setCell ⟨g, 9, none⟩ y9).setCell ⟨g, 10, none⟩ y10).setCell ⟨g, 11, none⟩ y11).setCell ⟨g, 12, none⟩ y12) g t #[y0, y1, y2, y3, y4, y5, y6, y7, y8, y9, y10, y11, y12] := by
  have := (((((((((((((h).set_ 0 y0).set_ 1 y1).set_ 2 y2).set_ 3 y3).set_ 4 y4).set_ 5 y5).set_ 6 y6).set_ 7 y7).set_ 8 y8).set_ 9 y9).set_ 10 y10).set_ 11 y11).set_ 12 y12
  simpa using this
theorem Par.set13 {pb g : Nat} {W w : World} (h : Par pb W w) (hg : W.heap.size ≤ g) (y0 y1 y2 y3 y4 y5 y6 y7 y8 y9 y10 y11 y12 : Value) : Par pb W ((((((((((((((w).setCell ⟨g, 0, none⟩ y0).setCell ⟨g, 1, none⟩ y1).setCell ⟨g, 2, none⟩ y2).setCell ⟨g, 3, none⟩ y3).setCell ⟨g, 4, none⟩ y4).setCell ⟨g, 5, none⟩ y5).setCell ⟨g, 6, none⟩ y6).setCell ⟨g, 7, none⟩ y7).setCell ⟨g, 8, none⟩ y8).setCell ⟨g, 9, none⟩ y9).setCell ⟨g, 10, none⟩ y10).setCell ⟨g, 11, none⟩ y11).setCell ⟨g, 12, none⟩ y12) :=
  (((((((((((((h).set_ (p := ⟨g, 0, none⟩) (.inr hg) y0).set_ (p := ⟨g, 1, none⟩) (.inr hg) y1).set_ (p := ⟨g, 2, none⟩) (.inr hg) y2).set_ (p := ⟨g, 3, none⟩) (.inr hg) y3).set_ (p := ⟨g, 4, none⟩) (.inr hg) y4).set_ (p := ⟨g, 5, none⟩) (.inr hg) y5).set_ (p := ⟨g, 6, none⟩) (.inr hg) y6).set_ (p := ⟨g, 7, none⟩) (.inr hg) y7).set_ (p := ⟨g, 8, none⟩) (.inr hg) y8).set_ (p := ⟨g, 9, none⟩) (.inr hg) y9).set_ (p := ⟨g, 10, none⟩) (.inr hg) y10).set_ (p := ⟨g, 11, none⟩) (.inr hg) y11).set_ (p := ⟨g, 12, none⟩) (.inr hg) y12
theorem PsAt.set13 {w : World} {pb lv g : Nat} {ts : List Tk} (h : PsAt w pb ts lv) (hg : pb < g) (y0 y1 y2 y3 y4 y5 y6 y7 y8 y9 y10 y11 y12 : Value) : PsAt ((((((((((((((w).setCell ⟨g, 0, none⟩ y0).setCell ⟨g, 1, none⟩ y1).setCell ⟨g, 2, none⟩ y2).setCell ⟨g, 3, none⟩ y3).setCell ⟨g, 4, none⟩ y4).setCell ⟨g, 5, none⟩ y5).setCell ⟨g, 6, none⟩ y6).setCell ⟨g, 7, none⟩ y7).setCell ⟨g, 8, none⟩ y8).setCell ⟨g, 9, none⟩ y9).setCell ⟨g, 10, none⟩ y10).setCell ⟨g, 11, none⟩ y11).setCell ⟨g, 12, none⟩ y12) pb ts lv := by
  obtain ⟨A, cap, h1, h2, h3, h4⟩ := h.ex
  have hne : pb ≠ g := by omega
  exact ⟨A, cap, (((((((((((((h1).far (p := ⟨g, 0, none⟩) hne y0).far (p := ⟨g, 1, none⟩) hne y1).far (p := ⟨g, 2, none⟩) hne y2).far (p := ⟨g, 3, none⟩) hne y3).far (p := ⟨g, 4, none⟩) hne y4).far (p := ⟨g, 5, none⟩) hne y5).far (p := ⟨g, 6, none⟩) hne y6).far (p := ⟨g, 7, none⟩) hne y7).far (p := ⟨g, 8, none⟩) hne y8).far (p := ⟨g, 9, none⟩) hne y9).far (p := ⟨g, 10, none⟩) hne y10).far (p := ⟨g, 11, none⟩) hne y11).far (p := ⟨g, 12, none⟩) hne y12, h2, h3, h4.keep fun p hp => World.cell?_of_block (w := w) (by
    have hp2 : p.block ≠ g := by omega
    rw [Below.heap_setCell _ ⟨g, 12, none⟩ _ _ hp2, Below.heap_setCell _ ⟨g, 11, none⟩ _ _ hp2, Below.heap_setCell _ ⟨g, 10, none⟩ _ _ hp2, Below.heap_setCell _ ⟨g, 9, none⟩ _ _ hp2, Below.heap_setCell _ ⟨g, 8, none⟩ _ _ hp2, Below.heap_setCell _ ⟨g, 7, none⟩ _ _ hp2, Below.heap_setCell _ ⟨g, 6, none⟩ _ _ hp2, Below.heap_setCell _ ⟨g, 5, none⟩ _ _ hp2, Below.heap_setCell _ ⟨g, 4, none⟩ _ _ hp2, Below.heap_setCell _ ⟨g, 3, none⟩ _ _ hp2, Below.heap_setCell _ ⟨g, 2, none⟩ _ _ hp2, Below.heap_setCell _ ⟨g, 1, none⟩ _ _ hp2, Below.heap_setCell _ ⟨g, 0, none⟩ _ _ hp2])⟩
theorem Low.set13 {X : Nat → Bool} {g : Nat} {W w : World} (h : Low X W w) (hg : X g = true ∨ W.heap.size ≤ g) (y0 y1 y2 y3 y4 y5 y6 y7 y8 y9 y10 y11 y12 : Value) : Low X W ((((((((((((((w).setCell ⟨g, 0, none⟩ y0).setCell ⟨g, 1, none⟩ y1).setCell ⟨g, 2, none⟩ y2).setCell ⟨g, 3, none⟩ y3).setCell ⟨g, 4, none⟩ y4).setCell ⟨g, 5, none⟩ y5).setCell ⟨g, 6, none⟩ y6).setCell ⟨g, 7, none⟩ y7).setCell ⟨g, 8, none⟩ y8).setCell ⟨g, 9, none⟩ y9).setCell ⟨g, 10, none⟩ y10).setCell ⟨g, 11, none⟩ y11).setCell ⟨g, 12, none⟩ y12) :=
  (((((((((((((h).set_ (p := ⟨g, 0, none⟩) hg y0).set_ (p := ⟨g, 1, none⟩) hg y1).set_ (p := ⟨g, 2, none⟩) hg y2).set_ (p := ⟨g, 3, none⟩) hg y3).set_ (p := ⟨g, 4, none⟩) hg y4).set_ (p := ⟨g, 5, none⟩) hg y5).set_ (p := ⟨g, 6, none⟩) hg y6).set_ (p := ⟨g, 7, none⟩) hg y7).set_ (p := ⟨g, 8, none⟩) hg y8).set_ (p := ⟨g, 9, none⟩) hg y9).set_ (p := ⟨g, 10, none⟩) hg y10).set_ (p := ⟨g, 11, none⟩) hg y11).set_ (p := ⟨g, 12, none⟩) hg y12

set_option maxHeartbeats 6400000 in
theorem alt_any (E : Nat → List Tk → Res Ex) (P : Nat → List Tk → Res Pt) (HE : LvOk rEx 11 7 E) (HP : LvOk rPt 5 77 P) (pb lv : Nat) (ts : List Tk) (W : World) (h : PsAt W pb ts lv) (hf : Fine ts) (hlv : lv ≤ 300) (r : Res Al) (hr : altP E P lv ts = r) (ho : r ≠ .out) :
    Calls Tryd.prog 68 #[.pointer (some ⟨pb, 0, none⟩)] W (PaPost pb lv 16 rAl r W) := by
  obtain ⟨W1, hW1⟩ : ∃ W1, W.alloc (.cells #[.int .i64 0, .string ⟨#[]⟩, .int .i64 0, .slice none 0 0, .int .i64 0, .int .i64 0, .string ⟨#[]⟩, .int .i64 0, .int .i64 0, .string ⟨#[]⟩, .int .i64 0, .slice none 0 0, .slice none 0 0, .slice none 0 0, .slice none 0 0, .int .i64 0] 116) = W1 := ⟨_, rfl⟩
  have hnew : Below W.heap.size W W1 := by rw [← hW1]; exact (Below.refl _ _).alloc (Nat.le_refl _) _
  have hres : Blk W1 W.heap.size 116 #[.int .i64 0, .string ⟨#[]⟩, .int .i64 0, .slice none 0 0, .int .i64 0, .int .i64 0, .string ⟨#[]⟩, .int .i64 0, .int .i64 0, .string ⟨#[]⟩, .int .i64 0, .slice none 0 0, .slice none 0 0, .slice none 0 0, .slice none 0 0, .int .i64 0] := by rw [← hW1]; exact Blk.new _ _ _
  have hs1 := h.later hnew
  have hlt := h.lt
  have hsz : W1.heap.size = W.heap.size + 1 := by rw [← hW1]; simp
  have HW1 := Lib.hid hW1
  have HN := Lib.hid hnew
  have HRS := Lib.hid hres
  have HS1 := Lib.hid hs1
  have HSZ := Lib.hid hsz
  have hp1 : Par pb W1 W1 := Chg.refl _ _
  clear hW1 hnew hres hs1 hsz h
  have HF := Lib.hid hf
  have HO := Lib.hid ho
  have HR := Lib.hid hr
  clear hf hr ho
  cases hA : P lv ts with
  | out => exact absurd (by rw [← HR.out]; unfold altP; rw [hA]; rfl) HO.out
  | bad c p =>
    obtain rfl : r = .bad c p := by rw [← HR.out]; unfold altP; rw [hA]; rfl
    have C1 := Lib.hid (HP pb lv ts W1 HS1.out HF.out hlv _ hA (by simp))
    go_enter Tryd.func68, Tryd.ntmps68
    go_upto_region 1 with fail
    rw [HW1.out]
    go_wp2_with (go_at_call 77; (with_reducible refine (C1.out).mono ?_); rintro e w2 ⟨hp2, rfl⟩)
    exact ⟨rfl, (Par.of_below HN.out).trans hp2, rfl⟩
  | ok p ts1 =>
    have C1 := Lib.hid (HP pb lv ts W1 HS1.out HF.out hlv _ hA (by simp))
    have hre : r = (needP sArrow ts1).andThen fun _ ts2 => (E lv ts2).andThen fun e ts3 => .ok (.mk p e) ts3 := by rw [← HR.out]; unfold altP; rw [hA]; rfl
    cases hS : seesH sArrow ts1 with
    | false =>
      obtain rfl : r = .bad 110 (posH ts1) := by rw [hre]; simp [needP, hS, Res.andThen]
      have C2 := Lib.hid (fun (v : Tk) (tq : List Tk) (hS : seesH sArrow (v :: tq) = false) W2 (hs : PsAt W2 pb (v :: tq) lv) => need_no pb lv v tq sArrow W2 hs hS)
      clear hA hre
      go_enter Tryd.func68, Tryd.ntmps68
      go_upto_region 1 with fail
      rw [HW1.out]
      go_wp2_with (first | (go_at_call 77; (with_reducible refine (C1.out).mono ?_); rintro e w2 ⟨hp2, ⟨cs, hlen, rfl, hty⟩, hsw2, hf2⟩; (obtain ⟨p0, p1, p2, p3, p4, rfl⟩ := five_of hlen); (have s0 := store_one' p0 (pt_ones' hty p0 (by simp))); (have s1 := store_one' p1 (pt_ones' hty p1 (by simp))); (have s2 := store_one' p2 (pt_ones' hty p2 (by simp))); (have s3 := store_one' p3 (pt_ones' hty p3 (by simp))); (have s4 := store_one' p4 (pt_ones' hty p4 (by simp))); (obtain ⟨v, tq, rfl⟩ := hf2.ne)) | (go_at_call 47; (with_reducible refine (C2.out _ _ hS _ (hsw2.later (below_new' _ _))).mono ?_); rintro e w4 ⟨rfl, hp4⟩))
      exact ⟨rfl, (Par.of_below HN.out).trans ((hp2.trans (Par.of_below (below_new' _ _))).trans hp4), rfl⟩
    | true =>
      have hre2 : r = (E lv ts1.tail).andThen fun e ts3 => .ok (.mk p e) ts3 := by rw [hre]; simp [needP, hS, Res.andThen]
      have C2 := Lib.hid (fun (v : Tk) (tq : List Tk) (hS : seesH sArrow (v :: tq) = true) W2 (hs : PsAt W2 pb (v :: tq) lv) => need_yes pb lv v tq sArrow W2 hs hS)
      cases hB : E lv ts1.tail with
      | out => exact absurd (by rw [hre2, hB]; rfl) HO.out
      | bad c q =>
        obtain rfl : r = .bad c q := by rw [hre2, hB]; rfl
        have C3 := Lib.hid (fun (hf : Fine ts1.tail) W2 (hs : PsAt W2 pb ts1.tail lv) => HE pb lv ts1.tail W2 hs hf hlv _ hB (by simp))
        clear hA hre hre2 hB
        go_enter Tryd.func68, Tryd.ntmps68
        go_upto_region 1 with fail
        rw [HW1.out]
        go_upto_region 3 with (first | (go_at_call 77; (with_reducible refine (C1.out).mono ?_); rintro e w2 ⟨hp2, ⟨cs, hlen, rfl, hty⟩, hsw2, hf2⟩; (obtain ⟨p0, p1, p2, p3, p4, rfl⟩ := five_of hlen); (have s0 := store_one' p0 (pt_ones' hty p0 (by simp))); (have s1 := store_one' p1 (pt_ones' hty p1 (by simp))); (have s2 := store_one' p2 (pt_ones' hty p2 (by simp))); (have s3 := store_one' p3 (pt_ones' hty p3 (by simp))); (have s4 := store_one' p4 (pt_ones' hty p4 (by simp))); (obtain ⟨v, tq, rfl⟩ := hf2.ne)) | (go_at_call 47; (with_reducible refine (C2.out _ _ hS _ (hsw2.later (below_new' _ _))).mono ?_); rintro e w4 ⟨rfl, hp4, hsw4⟩; (have bx : Blk w4 w2.heap.size 114 #[p0, p1, p2, p3, p4] := (hp4.block _ (Blk.new w2 114 #[p0, p1, p2, p3, p4]).lt (by have := hsw2.lt; omega)).trans (Blk.new w2 114 #[p0, p1, p2, p3, p4])); (have k0 := bx.cell 0); (have k1 := bx.cell 1); (have k2 := bx.cell 2); (have k3 := bx.cell 3); (have k4 := bx.cell 4); (simp only [List.getElem?_toArray, List.getElem?_cons_succ, List.getElem?_cons_zero] at k0 k1 k2 k3 k4); (have hpw4 : Par pb W1 w4 := (hp2.trans (Par.of_below (below_new' _ _))).trans hp4)))
        have hsq : PsAt w4 pb tq lv := hsw4
        have hfq : Fine tq := hf2.sees hS
        have hl4 := bx.lt
        have hl2 := hsw2.lt
        have hz2 := hp2.size
        have hsz := HSZ.out
        refine wp_region_held_drew (S := fun w' => Low (twoX W.heap.size pb) w4 w') (by kernel_rfl) (Low.drew_ w4) (fun hHeld => ?_)
        refine takeH' (i := 0) (d := 10) (v := .agg #[p0, p1, p2, p3, p4]) rfl (by kernel_rfl) (by kernel_rfl) (by kernel_rfl) (fun _ _ _ h => h) (Or.inl ⟨by rfl, fun w' hS' => by (have q0 := hS'.cell k0 (by show w2.heap.size < _; omega) (twoX_no (by show w2.heap.size ≠ W.heap.size; omega) (by show w2.heap.size ≠ pb; omega))); (have q1 := hS'.cell k1 (by show w2.heap.size < _; omega) (twoX_no (by show w2.heap.size ≠ W.heap.size; omega) (by show w2.heap.size ≠ pb; omega))); (have q2 := hS'.cell k2 (by show w2.heap.size < _; omega) (twoX_no (by show w2.heap.size ≠ W.heap.size; omega) (by show w2.heap.size ≠ pb; omega))); (have q3 := hS'.cell k3 (by show w2.heap.size < _; omega) (twoX_no (by show w2.heap.size ≠ W.heap.size; omega) (by show w2.heap.size ≠ pb; omega))); (have q4 := hS'.cell k4 (by show w2.heap.size < _; omega) (twoX_no (by show w2.heap.size ≠ W.heap.size; omega) (by show w2.heap.size ≠ pb; omega))); (first | rfl | go_simp)⟩) hHeld rfl ?_
        try simp only [Act.put, List.setIfInBounds_toArray, List.set_cons_zero, List.set_cons_succ]
        refine takeH' (i := 1) (d := 11) (v := .pointer (some ⟨pb, 0, none⟩)) rfl (by kernel_rfl) (by kernel_rfl) (by kernel_rfl) (fun _ _ _ h => h) (Or.inl ⟨by rfl, fun w' hS' => by (first | rfl | go_simp)⟩) hHeld rfl ?_
        try simp only [Act.put, List.setIfInBounds_toArray, List.set_cons_zero, List.set_cons_succ]
        refine wpAnyH_ready (rs := [2]) (by kernel_rfl) (by simp) ?_
        refine AllReadyH.cons rfl (fun K hK => ?_) AllReadyH.nil
        try go_simp
        refine (C3.out hfq _ hsq.drew_).mono ?_
        rintro e w5 ⟨hp5, rfl⟩
        exact ⟨rfl, (Par.of_below HN.out).trans (hpw4.trans (Par.drew_ hp5)), rfl⟩
      | ok e ts3 =>
        obtain rfl : r = .ok (.mk p e) ts3 := by rw [hre2, hB]; rfl
        have C3 := Lib.hid (fun (hf : Fine ts1.tail) W2 (hs : PsAt W2 pb ts1.tail lv) => HE pb lv ts1.tail W2 hs hf hlv _ hB (by simp))
        clear hA hre hre2 hB
        go_enter Tryd.func68, Tryd.ntmps68
        go_upto_region 1 with fail
        rw [HW1.out]
        go_upto_region 3 with (first | (go_at_call 77; (with_reducible refine (C1.out).mono ?_); rintro e w2 ⟨hp2, ⟨cs, hlen, rfl, hty⟩, hsw2, hf2⟩; (obtain ⟨p0, p1, p2, p3, p4, rfl⟩ := five_of hlen); (have s0 := store_one' p0 (pt_ones' hty p0 (by simp))); (have s1 := store_one' p1 (pt_ones' hty p1 (by simp))); (have s2 := store_one' p2 (pt_ones' hty p2 (by simp))); (have s3 := store_one' p3 (pt_ones' hty p3 (by simp))); (have s4 := store_one' p4 (pt_ones' hty p4 (by simp))); (obtain ⟨v, tq, rfl⟩ := hf2.ne)) | (go_at_call 47; (with_reducible refine (C2.out _ _ hS _ (hsw2.later (below_new' _ _))).mono ?_); rintro e w4 ⟨rfl, hp4, hsw4⟩; (have bx : Blk w4 w2.heap.size 114 #[p0, p1, p2, p3, p4] := (hp4.block _ (Blk.new w2 114 #[p0, p1, p2, p3, p4]).lt (by have := hsw2.lt; omega)).trans (Blk.new w2 114 #[p0, p1, p2, p3, p4])); (have k0 := bx.cell 0); (have k1 := bx.cell 1); (have k2 := bx.cell 2); (have k3 := bx.cell 3); (have k4 := bx.cell 4); (simp only [List.getElem?_toArray, List.getElem?_cons_succ, List.getElem?_cons_zero] at k0 k1 k2 k3 k4); (have hpw4 : Par pb W1 w4 := (hp2.trans (Par.of_below (below_new' _ _))).trans hp4)))
        have hsq : PsAt w4 pb tq lv := hsw4
        have hfq : Fine tq := hf2.sees hS
        have hl4 := bx.lt
        have hl2 := hsw2.lt
        have hz2 := hp2.size
        have hsz := HSZ.out
        refine wp_region_held_drew (S := fun w' => Low (twoX W.heap.size pb) w4 w') (by kernel_rfl) (Low.drew_ w4) (fun hHeld => ?_)
        refine takeH' (i := 0) (d := 10) (v := .agg #[p0, p1, p2, p3, p4]) rfl (by kernel_rfl) (by kernel_rfl) (by kernel_rfl) (fun _ _ _ h => h) (Or.inl ⟨by rfl, fun w' hS' => by (have q0 := hS'.cell k0 (by show w2.heap.size < _; omega) (twoX_no (by show w2.heap.size ≠ W.heap.size; omega) (by show w2.heap.size ≠ pb; omega))); (have q1 := hS'.cell k1 (by show w2.heap.size < _; omega) (twoX_no (by show w2.heap.size ≠ W.heap.size; omega) (by show w2.heap.size ≠ pb; omega))); (have q2 := hS'.cell k2 (by show w2.heap.size < _; omega) (twoX_no (by show w2.heap.size ≠ W.heap.size; omega) (by show w2.heap.size ≠ pb; omega))); (have q3 := hS'.cell k3 (by show w2.heap.size < _; omega) (twoX_no (by show w2.heap.size ≠ W.heap.size; omega) (by show w2.heap.size ≠ pb; omega))); (have q4 := hS'.cell k4 (by show w2.heap.size < _; omega) (twoX_no (by show w2.heap.size ≠ W.heap.size; omega) (by show w2.heap.size ≠ pb; omega))); (first | rfl | go_simp)⟩) hHeld rfl ?_
        try simp only [Act.put, List.setIfInBounds_toArray, List.set_cons_zero, List.set_cons_succ]
        refine takeH' (i := 1) (d := 11) (v := .pointer (some ⟨pb, 0, none⟩)) rfl (by kernel_rfl) (by kernel_rfl) (by kernel_rfl) (fun _ _ _ h => h) (Or.inl ⟨by rfl, fun w' hS' => by (first | rfl | go_simp)⟩) hHeld rfl ?_
        try simp only [Act.put, List.setIfInBounds_toArray, List.set_cons_zero, List.set_cons_succ]
        refine wpAnyH_ready (rs := [2]) (by kernel_rfl) (by simp) ?_
        refine AllReadyH.cons rfl (fun K hK => ?_) AllReadyH.nil
        try go_simp
        refine (C3.out hfq _ hsq.drew_).mono ?_
        rintro e' w5 ⟨hp5, ⟨ls, hlen2, rfl, hty5⟩, hsw5, hf5⟩
        obtain ⟨x0, x1, x2, x3, x4, x5, x6, x7, x8, x9, x10, rfl⟩ := eleven_of hlen2
        (have t0 := store_one' x0 (ex_ones' hty5 x0 (by simp)))
        (have t1 := store_one' x1 (ex_ones' hty5 x1 (by simp)))
        (have t2 := store_one' x2 (ex_ones' hty5 x2 (by simp)))
        (have t3 := store_one' x3 (ex_ones' hty5 x3 (by simp)))
        (have t4 := store_one' x4 (ex_ones' hty5 x4 (by simp)))
        (have t5 := store_one' x5 (ex_ones' hty5 x5 (by simp)))
        (have t6 := store_one' x6 (ex_ones' hty5 x6 (by simp)))
        (have t7 := store_one' x7 (ex_ones' hty5 x7 (by simp)))
        (have t8 := store_one' x8 (ex_ones' hty5 x8 (by simp)))
        (have t9 := store_one' x9 (ex_ones' hty5 x9 (by simp)))
        (have t10 := store_one' x10 (ex_ones' hty5 x10 (by simp)))
        have hp45 := Par.drew_ hp5
        have hS5 : Low (twoX W.heap.size pb) w4 w5 := Low.par_ (Chg.refl _ _) hp45
        have hpw5 : Par pb W1 w5 := hpw4.trans hp45
        go_wp2_with fail
        refine hK.out _ _ hS5 (fun hHeld => ?_)
        clear hK K
        try simp only [Act.put, List.setIfInBounds_toArray, List.set_cons_zero, List.set_cons_succ]
        have hBw5 : Blk w5 W.heap.size 116 #[.int .i64 0, .string ⟨#[]⟩, .int .i64 0, .slice none 0 0, .int .i64 0, .int .i64 0, .string ⟨#[]⟩, .int .i64 0, .int .i64 0, .string ⟨#[]⟩, .int .i64 0, .slice none 0 0, .slice none 0 0, .slice none 0 0, .slice none 0 0, .int .i64 0] := (hpw5.block _ HRS.out.lt (by omega : ¬ W.heap.size = pb)).trans HRS.out
        have r0w5 := hBw5.cell 0
        have r1w5 := hBw5.cell 1
        have r2w5 := hBw5.cell 2
        have r3w5 := hBw5.cell 3
        have r4w5 := hBw5.cell 4
        have r5w5 := hBw5.cell 5
        have r6w5 := hBw5.cell 6
        have r7w5 := hBw5.cell 7
        have r8w5 := hBw5.cell 8
        have r9w5 := hBw5.cell 9
        have r10w5 := hBw5.cell 10
        have r11w5 := hBw5.cell 11
        have r12w5 := hBw5.cell 12
        have r13w5 := hBw5.cell 13
        have r14w5 := hBw5.cell 14
        have r15w5 := hBw5.cell 15
        simp only [List.getElem?_toArray, List.getElem?_cons_succ, List.getElem?_cons_zero] at r0w5 r1w5 r2w5 r3w5 r4w5 r5w5 r6w5 r7w5 r8w5 r9w5 r10w5 r11w5 r12w5 r13w5 r14w5 r15w5
        have f0w5 := hBw5.frozen 0
        have f1w5 := hBw5.frozen 1
        have f2w5 := hBw5.frozen 2
        have f3w5 := hBw5.frozen 3
        have f4w5 := hBw5.frozen 4
        have f5w5 := hBw5.frozen 5
        have f6w5 := hBw5.frozen 6
        have f7w5 := hBw5.frozen 7
        have f8w5 := hBw5.frozen 8
        have f9w5 := hBw5.frozen 9
        have f10w5 := hBw5.frozen 10
        have f11w5 := hBw5.frozen 11
        have f12w5 := hBw5.frozen 12
        have f13w5 := hBw5.frozen 13
        have f14w5 := hBw5.frozen 14
        have f15w5 := hBw5.frozen 15
        refine takeH' (i := 3) (d := 13) (v := .agg #[p0, p1, p2, p3, p4, x0, x1, x2, x3, x4, x5, x6, x7, x8, x9, x10]) rfl (by kernel_rfl) (by kernel_rfl) (by kernel_rfl) (fun _ _ _ h => h) (Or.inl ⟨by rfl, fun w' hS' => by (first | rfl | go_simp)⟩) hHeld rfl ?_
        try simp only [Act.put, List.setIfInBounds_toArray, List.set_cons_zero, List.set_cons_succ]
        refine wpAnyH_ready (rs := [4]) (by kernel_rfl) (by simp) ?_
        refine AllReadyH.cons rfl (fun K hK => ?_) AllReadyH.nil
        go_simp
        refine hK.out _ _ (Low.set16 hS5 (.inl (twoX_g _ _)) _ _ _ _ _ _ _ _ _ _ _ _ _ _ _ _) (fun hHeld => ?_)
        clear hK K
        try simp only [Act.put, List.setIfInBounds_toArray, List.set_cons_zero, List.set_cons_succ]
        refine wpAnyH_done (by kernel_rfl) ?_ _
        go_wp2_with fail
        have hz4 := hpw4.size
        have h9 : w4.drew.heap.size = w4.heap.size := rfl
        have hfin : rAl.M (lowX (W.heap.size + 1)) w5 [p0, p1, p2, p3, p4, x0, x1, x2, x3, x4, x5, x6, x7, x8, x9, x10] (.mk p e) := AlM.mk_ (P := [p0, p1, p2, p3, p4]) (E := [x0, x1, x2, x3, x4, x5, x6, x7, x8, x9, x10]) ((((hty.wk (B' := W.heap.size + 1) (by omega)).later (Low.of_below (below_new' w2 (.cells #[p0, p1, p2, p3, p4] 114)))).later (Low.of_par hp4 (by omega))).later (Low.of_par hp45 (by omega))) (hty5.wk (by omega))
        obtain ⟨w9, hw9⟩ : ∃ w9, ((((((((((((((((w5).setCell ⟨W.heap.size, 0, none⟩ (p0)).setCell ⟨W.heap.size, 1, none⟩ (p1)).setCell ⟨W.heap.size, 2, none⟩ (p2)).setCell ⟨W.heap.size, 3, none⟩ (p3)).setCell ⟨W.heap.size, 4, none⟩ (p4)).setCell ⟨W.heap.size, 5, none⟩ (x0)).setCell ⟨W.heap.size, 6, none⟩ (x1)).setCell ⟨W.heap.size, 7, none⟩ (x2)).setCell ⟨W.heap.size, 8, none⟩ (x3)).setCell ⟨W.heap.size, 9, none⟩ (x4)).setCell ⟨W.heap.size, 10, none⟩ (x5)).setCell ⟨W.heap.size, 11, none⟩ (x6)).setCell ⟨W.heap.size, 12, none⟩ (x7)).setCell ⟨W.heap.size, 13, none⟩ (x8)).setCell ⟨W.heap.size, 14, none⟩ (x9)).setCell ⟨W.heap.size, 15, none⟩ (x10) = w9 := ⟨_, rfl⟩
        have hPW := (Par.of_below (pb := pb) HN.out).trans hpw5
        have hB9 := set16 hBw5 (p0) (p1) (p2) (p3) (p4) (x0) (x1) (x2) (x3) (x4) (x5) (x6) (x7) (x8) (x9) (x10)
        have hb9 := Par.set16 hPW (Nat.le_refl _) (p0) (p1) (p2) (p3) (p4) (x0) (x1) (x2) (x3) (x4) (x5) (x6) (x7) (x8) (x9) (x10)
        have hS9 := PsAt.set16 hsw5 (g := W.heap.size) hlt (p0) (p1) (p2) (p3) (p4) (x0) (x1) (x2) (x3) (x4) (x5) (x6) (x7) (x8) (x9) (x10)
        have hL9 : Low (lowX (W.heap.size + 1)) w5 _ := Low.set16 (Chg.refl _ _) (.inl (lowX_self _)) (p0) (p1) (p2) (p3) (p4) (x0) (x1) (x2) (x3) (x4) (x5) (x6) (x7) (x8) (x9) (x10)
        rw [hw9] at hB9 hb9 hS9 hL9 ⊢
        have d0 := hB9.cell 0
        have d1 := hB9.cell 1
        have d2 := hB9.cell 2
        have d3 := hB9.cell 3
        have d4 := hB9.cell 4
        have d5 := hB9.cell 5
        have d6 := hB9.cell 6
        have d7 := hB9.cell 7
        have d8 := hB9.cell 8
        have d9 := hB9.cell 9
        have d10 := hB9.cell 10
        have d11 := hB9.cell 11
        have d12 := hB9.cell 12
        have d13 := hB9.cell 13
        have d14 := hB9.cell 14
        have d15 := hB9.cell 15
        simp only [List.getElem?_toArray, List.getElem?_cons_succ, List.getElem?_cons_zero] at d0 d1 d2 d3 d4 d5 d6 d7 d8 d9 d10 d11 d12 d13 d14 d15
        exact bodyPost_ret (v := .agg #[p0, p1, p2, p3, p4, x0, x1, x2, x3, x4, x5, x6, x7, x8, x9, x10]) (by simp [results, Tryd.results68, go_sem, d0, d1, d2, d3, d4, d5, d6, d7, d8, d9, d10, d11, d12, d13, d14, d15]) rfl ⟨hb9, ⟨[p0, p1, p2, p3, p4, x0, x1, x2, x3, x4, x5, x6, x7, x8, x9, x10], rfl, rfl, (hfin.later hL9).wk (by omega)⟩, hS9, hf5⟩

set_option maxHeartbeats 6400000 in
theorem bind_any (E : Nat → List Tk → Res Ex) (HE : LvOk rEx 11 7 E) (pb lv : Nat) (ts : List Tk) (W : World) (h : PsAt W pb ts lv) (hf : Fine ts) (hlv : lv ≤ 300) (r : Res Bd) (hr : bindP E lv ts = r) (ho : r ≠ .out) :
    Calls Tryd.prog 50 #[.pointer (some ⟨pb, 0, none⟩)] W (PaPost pb lv 13 rBd r W) := by
  obtain ⟨W1, hW1⟩ : ∃ W1, W.alloc (.cells #[.string ⟨#[]⟩, .int .i64 0, .string ⟨#[]⟩, .int .i64 0, .int .i64 0, .string ⟨#[]⟩, .int .i64 0, .slice none 0 0, .slice none 0 0, .slice none 0 0, .slice none 0 0, .int .i64 0, .int .i64 0] 97) = W1 := ⟨_, rfl⟩
  have hnew : Below W.heap.size W W1 := by rw [← hW1]; exact (Below.refl _ _).alloc (Nat.le_refl _) _
  have hres : Blk W1 W.heap.size 97 #[.string ⟨#[]⟩, .int .i64 0, .string ⟨#[]⟩, .int .i64 0, .int .i64 0, .string ⟨#[]⟩, .int .i64 0, .slice none 0 0, .slice none 0 0, .slice none 0 0, .slice none 0 0, .int .i64 0, .int .i64 0] := by rw [← hW1]; exact Blk.new _ _ _
  have hs1 := h.later hnew
  have hlt := h.lt
  have hsz : W1.heap.size = W.heap.size + 1 := by rw [← hW1]; simp
  have HW1 := Lib.hid hW1
  have HN := Lib.hid hnew
  have HRS := Lib.hid hres
  have HS1 := Lib.hid hs1
  have HSZ := Lib.hid hsz
  have hp1 : Par pb W1 W1 := Chg.refl _ _
  clear hW1 hnew hres hs1 hsz h
  have HF := Lib.hid hf
  have HO := Lib.hid ho
  have HR := Lib.hid hr
  clear hf hr ho
  cases hA : nameP ts with
  | out => exact absurd (by rw [← HR.out]; unfold bindP; rw [hA]; rfl) HO.out
  | bad c p =>
    obtain rfl : r = .bad c p := by rw [← HR.out]; unfold bindP; rw [hA]; rfl
    have C1 := Lib.hid (name_any pb lv ts W1 HS1.out HF.out _ hA)
    go_enter Tryd.func50, Tryd.ntmps50
    go_upto_region 1 with fail
    rw [HW1.out]
    go_wp2_with (go_at_call 65; (with_reducible refine (C1.out).mono ?_); rintro e w2 ⟨hp2, rfl⟩)
    exact ⟨rfl, (Par.of_below HN.out).trans hp2, rfl⟩
  | ok t ts1 =>
    have C1 := Lib.hid (name_any pb lv ts W1 HS1.out HF.out _ hA)
    have hre : r = (needP sEq ts1).andThen fun _ ts2 => (E lv ts2).andThen fun e ts3 => .ok (.mk (bytesOf t) e t.pos) ts3 := by rw [← HR.out]; unfold bindP; rw [hA]; rfl
    cases hS : seesH sEq ts1 with
    | false =>
      obtain rfl : r = .bad 110 (posH ts1) := by rw [hre]; simp [needP, hS, Res.andThen]
      have C2 := Lib.hid (fun (v : Tk) (tq : List Tk) (hS : seesH sEq (v :: tq) = false) W2 (hs : PsAt W2 pb (v :: tq) lv) => need_no pb lv v tq sEq W2 hs hS)
      clear hA hre
      go_enter Tryd.func50, Tryd.ntmps50
      go_upto_region 1 with fail
      rw [HW1.out]
      go_wp2_with (first | (go_at_call 65; (with_reducible refine (C1.out).mono ?_); rintro e w2 ⟨hp2, rfl, hsw2, hf2, hg1, hg2, hg3⟩; rw [tk_cells]; (obtain ⟨v, tq, rfl⟩ := hf2.ne)) | (go_at_call 47; (with_reducible refine (C2.out _ _ hS _ (hsw2.later (below_new' _ _))).mono ?_); rintro e w4 ⟨rfl, hp4⟩))
      exact ⟨rfl, (Par.of_below HN.out).trans ((hp2.trans (Par.of_below (below_new' _ _))).trans hp4), rfl⟩
    | true =>
      have hre2 : r = (E lv ts1.tail).andThen fun e ts3 => .ok (.mk (bytesOf t) e t.pos) ts3 := by rw [hre]; simp [needP, hS, Res.andThen]
      have C2 := Lib.hid (fun (v : Tk) (tq : List Tk) (hS : seesH sEq (v :: tq) = true) W2 (hs : PsAt W2 pb (v :: tq) lv) => need_yes pb lv v tq sEq W2 hs hS)
      cases hB : E lv ts1.tail with
      | out => exact absurd (by rw [hre2, hB]; rfl) HO.out
      | bad c q =>
        obtain rfl : r = .bad c q := by rw [hre2, hB]; rfl
        have C3 := Lib.hid (fun (hf : Fine ts1.tail) W2 (hs : PsAt W2 pb ts1.tail lv) => HE pb lv ts1.tail W2 hs hf hlv _ hB (by simp))
        clear hA hre hre2 hB
        go_enter Tryd.func50, Tryd.ntmps50
        go_upto_region 1 with fail
        rw [HW1.out]
        go_upto_region 3 with (first | (go_at_call 65; (with_reducible refine (C1.out).mono ?_); rintro e w2 ⟨hp2, rfl, hsw2, hf2, hg1, hg2, hg3⟩; rw [tk_cells]; (obtain ⟨v, tq, rfl⟩ := hf2.ne)) | (go_at_call 47; (with_reducible refine (C2.out _ _ hS _ (hsw2.later (below_new' _ _))).mono ?_); rintro e w4 ⟨rfl, hp4, hsw4⟩; (have bx : Blk w4 w2.heap.size 52 #[.int .i64 t.kind, .string ⟨t.text.toArray⟩, .int .i64 t.num, .int .i64 t.pos] := (hp4.block _ (Blk.new w2 52 #[.int .i64 t.kind, .string ⟨t.text.toArray⟩, .int .i64 t.num, .int .i64 t.pos]).lt (by have := hsw2.lt; omega)).trans (Blk.new w2 52 #[.int .i64 t.kind, .string ⟨t.text.toArray⟩, .int .i64 t.num, .int .i64 t.pos])); (have k0 := bx.cell 0); (have k1 := bx.cell 1); (have k2 := bx.cell 2); (have k3 := bx.cell 3); (simp only [List.getElem?_toArray, List.getElem?_cons_succ, List.getElem?_cons_zero] at k0 k1 k2 k3); (have hpw4 : Par pb W1 w4 := (hp2.trans (Par.of_below (below_new' _ _))).trans hp4)))
        have hsq : PsAt w4 pb tq lv := hsw4
        have hfq : Fine tq := hf2.sees hS
        have hl4 := bx.lt
        have hl2 := hsw2.lt
        have hz2 := hp2.size
        have hsz := HSZ.out
        refine wp_region_held_drew (S := fun w' => Low (twoX W.heap.size pb) w4 w') (by kernel_rfl) (Low.drew_ w4) (fun hHeld => ?_)
        refine takeH' (i := 0) (d := 12) (v := .pointer (some ⟨w2.heap.size, 1, none⟩)) rfl (by kernel_rfl) (by kernel_rfl) (by kernel_rfl) (fun _ _ _ h => h) (Or.inl ⟨by rfl, fun w' hS' => by (first | rfl | go_simp)⟩) hHeld rfl ?_
        try simp only [Act.put, List.setIfInBounds_toArray, List.set_cons_zero, List.set_cons_succ]
        refine takeH' (i := 1) (d := 13) (v := .string ⟨t.text.toArray⟩) rfl (by kernel_rfl) (by kernel_rfl) (by kernel_rfl) (fun _ _ _ h => h) (Or.inl ⟨by rfl, fun w' hS' => by (have q0 := hS'.cell k1 (by show w2.heap.size < _; omega) (twoX_no (by show w2.heap.size ≠ W.heap.size; omega) (by show w2.heap.size ≠ pb; omega))); (first | rfl | go_simp)⟩) hHeld rfl ?_
        try simp only [Act.put, List.setIfInBounds_toArray, List.set_cons_zero, List.set_cons_succ]
        refine takeH' (i := 2) (d := 14) (v := .pointer (some ⟨pb, 0, none⟩)) rfl (by kernel_rfl) (by kernel_rfl) (by kernel_rfl) (fun _ _ _ h => h) (Or.inl ⟨by rfl, fun w' hS' => by (first | rfl | go_simp)⟩) hHeld rfl ?_
        try simp only [Act.put, List.setIfInBounds_toArray, List.set_cons_zero, List.set_cons_succ]
        refine takeH' (i := 4) (d := 16) (v := .pointer (some ⟨w2.heap.size, 3, none⟩)) rfl (by kernel_rfl) (by kernel_rfl) (by kernel_rfl) (fun _ _ _ h => h) (Or.inl ⟨by rfl, fun w' hS' => by (first | rfl | go_simp)⟩) hHeld rfl ?_
        try simp only [Act.put, List.setIfInBounds_toArray, List.set_cons_zero, List.set_cons_succ]
        refine takeH' (i := 5) (d := 17) (v := .int .i64 t.pos) rfl (by kernel_rfl) (by kernel_rfl) (by kernel_rfl) (fun _ _ _ h => h) (Or.inl ⟨by rfl, fun w' hS' => by (have q0 := hS'.cell k3 (by show w2.heap.size < _; omega) (twoX_no (by show w2.heap.size ≠ W.heap.size; omega) (by show w2.heap.size ≠ pb; omega))); (first | rfl | go_simp)⟩) hHeld rfl ?_
        try simp only [Act.put, List.setIfInBounds_toArray, List.set_cons_zero, List.set_cons_succ]
        refine wpAnyH_ready (rs := [3]) (by kernel_rfl) (by simp) ?_
        refine AllReadyH.cons rfl (fun K hK => ?_) AllReadyH.nil
        try go_simp
        refine (C3.out hfq _ hsq.drew_).mono ?_
        rintro e w5 ⟨hp5, rfl⟩
        exact ⟨rfl, (Par.of_below HN.out).trans (hpw4.trans (Par.drew_ hp5)), rfl⟩
      | ok e ts3 =>
        obtain rfl : r = .ok (.mk (bytesOf t) e t.pos) ts3 := by rw [hre2, hB]; rfl
        have C3 := Lib.hid (fun (hf : Fine ts1.tail) W2 (hs : PsAt W2 pb ts1.tail lv) => HE pb lv ts1.tail W2 hs hf hlv _ hB (by simp))
        clear hA hre hre2 hB
        go_enter Tryd.func50, Tryd.ntmps50
        go_upto_region 1 with fail
        rw [HW1.out]
        go_upto_region 3 with (first | (go_at_call 65; (with_reducible refine (C1.out).mono ?_); rintro e w2 ⟨hp2, rfl, hsw2, hf2, hg1, hg2, hg3⟩; rw [tk_cells]; (obtain ⟨v, tq, rfl⟩ := hf2.ne)) | (go_at_call 47; (with_reducible refine (C2.out _ _ hS _ (hsw2.later (below_new' _ _))).mono ?_); rintro e w4 ⟨rfl, hp4, hsw4⟩; (have bx : Blk w4 w2.heap.size 52 #[.int .i64 t.kind, .string ⟨t.text.toArray⟩, .int .i64 t.num, .int .i64 t.pos] := (hp4.block _ (Blk.new w2 52 #[.int .i64 t.kind, .string ⟨t.text.toArray⟩, .int .i64 t.num, .int .i64 t.pos]).lt (by have := hsw2.lt; omega)).trans (Blk.new w2 52 #[.int .i64 t.kind, .string ⟨t.text.toArray⟩, .int .i64 t.num, .int .i64 t.pos])); (have k0 := bx.cell 0); (have k1 := bx.cell 1); (have k2 := bx.cell 2); (have k3 := bx.cell 3); (simp only [List.getElem?_toArray, List.getElem?_cons_succ, List.getElem?_cons_zero] at k0 k1 k2 k3); (have hpw4 : Par pb W1 w4 := (hp2.trans (Par.of_below (below_new' _ _))).trans hp4)))
        have hsq : PsAt w4 pb tq lv := hsw4
        have hfq : Fine tq := hf2.sees hS
        have hl4 := bx.lt
        have hl2 := hsw2.lt
        have hz2 := hp2.size
        have hsz := HSZ.out
        refine wp_region_held_drew (S := fun w' => Low (twoX W.heap.size pb) w4 w') (by kernel_rfl) (Low.drew_ w4) (fun hHeld => ?_)
        refine takeH' (i := 0) (d := 12) (v := .pointer (some ⟨w2.heap.size, 1, none⟩)) rfl (by kernel_rfl) (by kernel_rfl) (by kernel_rfl) (fun _ _ _ h => h) (Or.inl ⟨by rfl, fun w' hS' => by (first | rfl | go_simp)⟩) hHeld rfl ?_
        try simp only [Act.put, List.setIfInBounds_toArray, List.set_cons_zero, List.set_cons_succ]
        refine takeH' (i := 1) (d := 13) (v := .string ⟨t.text.toArray⟩) rfl (by kernel_rfl) (by kernel_rfl) (by kernel_rfl) (fun _ _ _ h => h) (Or.inl ⟨by rfl, fun w' hS' => by (have q0 := hS'.cell k1 (by show w2.heap.size < _; omega) (twoX_no (by show w2.heap.size ≠ W.heap.size; omega) (by show w2.heap.size ≠ pb; omega))); (first | rfl | go_simp)⟩) hHeld rfl ?_
        try simp only [Act.put, List.setIfInBounds_toArray, List.set_cons_zero, List.set_cons_succ]
        refine takeH' (i := 2) (d := 14) (v := .pointer (some ⟨pb, 0, none⟩)) rfl (by kernel_rfl) (by kernel_rfl) (by kernel_rfl) (fun _ _ _ h => h) (Or.inl ⟨by rfl, fun w' hS' => by (first | rfl | go_simp)⟩) hHeld rfl ?_
        try simp only [Act.put, List.setIfInBounds_toArray, List.set_cons_zero, List.set_cons_succ]
        refine takeH' (i := 4) (d := 16) (v := .pointer (some ⟨w2.heap.size, 3, none⟩)) rfl (by kernel_rfl) (by kernel_rfl) (by kernel_rfl) (fun _ _ _ h => h) (Or.inl ⟨by rfl, fun w' hS' => by (first | rfl | go_simp)⟩) hHeld rfl ?_
        try simp only [Act.put, List.setIfInBounds_toArray, List.set_cons_zero, List.set_cons_succ]
        refine takeH' (i := 5) (d := 17) (v := .int .i64 t.pos) rfl (by kernel_rfl) (by kernel_rfl) (by kernel_rfl) (fun _ _ _ h => h) (Or.inl ⟨by rfl, fun w' hS' => by (have q0 := hS'.cell k3 (by show w2.heap.size < _; omega) (twoX_no (by show w2.heap.size ≠ W.heap.size; omega) (by show w2.heap.size ≠ pb; omega))); (first | rfl | go_simp)⟩) hHeld rfl ?_
        try simp only [Act.put, List.setIfInBounds_toArray, List.set_cons_zero, List.set_cons_succ]
        refine wpAnyH_ready (rs := [3]) (by kernel_rfl) (by simp) ?_
        refine AllReadyH.cons rfl (fun K hK => ?_) AllReadyH.nil
        try go_simp
        refine (C3.out hfq _ hsq.drew_).mono ?_
        rintro e' w5 ⟨hp5, ⟨ls, hlen2, rfl, hty5⟩, hsw5, hf5⟩
        obtain ⟨x0, x1, x2, x3, x4, x5, x6, x7, x8, x9, x10, rfl⟩ := eleven_of hlen2
        (have t0 := store_one' x0 (ex_ones' hty5 x0 (by simp)))
        (have t1 := store_one' x1 (ex_ones' hty5 x1 (by simp)))
        (have t2 := store_one' x2 (ex_ones' hty5 x2 (by simp)))
        (have t3 := store_one' x3 (ex_ones' hty5 x3 (by simp)))
        (have t4 := store_one' x4 (ex_ones' hty5 x4 (by simp)))
        (have t5 := store_one' x5 (ex_ones' hty5 x5 (by simp)))
        (have t6 := store_one' x6 (ex_ones' hty5 x6 (by simp)))
        (have t7 := store_one' x7 (ex_ones' hty5 x7 (by simp)))
        (have t8 := store_one' x8 (ex_ones' hty5 x8 (by simp)))
        (have t9 := store_one' x9 (ex_ones' hty5 x9 (by simp)))
        (have t10 := store_one' x10 (ex_ones' hty5 x10 (by simp)))
        have hp45 := Par.drew_ hp5
        have hS5 : Low (twoX W.heap.size pb) w4 w5 := Low.par_ (Chg.refl _ _) hp45
        have hpw5 : Par pb W1 w5 := hpw4.trans hp45
        go_wp2_with fail
        refine hK.out _ _ hS5 (fun hHeld => ?_)
        clear hK K
        try simp only [Act.put, List.setIfInBounds_toArray, List.set_cons_zero, List.set_cons_succ]
        have hBw5 : Blk w5 W.heap.size 97 #[.string ⟨#[]⟩, .int .i64 0, .string ⟨#[]⟩, .int .i64 0, .int .i64 0, .string ⟨#[]⟩, .int .i64 0, .slice none 0 0, .slice none 0 0, .slice none 0 0, .slice none 0 0, .int .i64 0, .int .i64 0] := (hpw5.block _ HRS.out.lt (by omega : ¬ W.heap.size = pb)).trans HRS.out
        have r0w5 := hBw5.cell 0
        have r1w5 := hBw5.cell 1
        have r2w5 := hBw5.cell 2
        have r3w5 := hBw5.cell 3
        have r4w5 := hBw5.cell 4
        have r5w5 := hBw5.cell 5
        have r6w5 := hBw5.cell 6
        have r7w5 := hBw5.cell 7
        have r8w5 := hBw5.cell 8
        have r9w5 := hBw5.cell 9
        have r10w5 := hBw5.cell 10
        have r11w5 := hBw5.cell 11
        have r12w5 := hBw5.cell 12
        simp only [List.getElem?_toArray, List.getElem?_cons_succ, List.getElem?_cons_zero] at r0w5 r1w5 r2w5 r3w5 r4w5 r5w5 r6w5 r7w5 r8w5 r9w5 r10w5 r11w5 r12w5
        have f0w5 := hBw5.frozen 0
        have f1w5 := hBw5.frozen 1
        have f2w5 := hBw5.frozen 2
        have f3w5 := hBw5.frozen 3
        have f4w5 := hBw5.frozen 4
        have f5w5 := hBw5.frozen 5
        have f6w5 := hBw5.frozen 6
        have f7w5 := hBw5.frozen 7
        have f8w5 := hBw5.frozen 8
        have f9w5 := hBw5.frozen 9
        have f10w5 := hBw5.frozen 10
        have f11w5 := hBw5.frozen 11
        have f12w5 := hBw5.frozen 12
        refine takeH' (i := 6) (d := 18) (v := .agg #[.string ⟨t.text.toArray⟩, x0, x1, x2, x3, x4, x5, x6, x7, x8, x9, x10, .int .i64 t.pos]) rfl (by kernel_rfl) (by kernel_rfl) (by kernel_rfl) (fun _ _ _ h => h) (Or.inl ⟨by rfl, fun w' hS' => by (first | rfl | go_simp)⟩) hHeld rfl ?_
        try simp only [Act.put, List.setIfInBounds_toArray, List.set_cons_zero, List.set_cons_succ]
        refine wpAnyH_ready (rs := [7]) (by kernel_rfl) (by simp) ?_
        refine AllReadyH.cons rfl (fun K hK => ?_) AllReadyH.nil
        go_simp
        refine hK.out _ _ (Low.set13 hS5 (.inl (twoX_g _ _)) _ _ _ _ _ _ _ _ _ _ _ _ _) (fun hHeld => ?_)
        clear hK K
        try simp only [Act.put, List.setIfInBounds_toArray, List.set_cons_zero, List.set_cons_succ]
        refine wpAnyH_done (by kernel_rfl) ?_ _
        go_wp2_with fail
        have hz4 := hpw4.size
        have h9 : w4.drew.heap.size = w4.heap.size := rfl
        have hfin : rBd.M (lowX (W.heap.size + 1)) w5 [.string ⟨t.text.toArray⟩, x0, x1, x2, x3, x4, x5, x6, x7, x8, x9, x10, .int .i64 t.pos] (.mk (bytesOf t) e t.pos) := BdM.mk_ (E := [x0, x1, x2, x3, x4, x5, x6, x7, x8, x9, x10]) (by simpa [bytesOf, ByteArray.size] using hg1) (hty5.wk (by omega)) (ok_lit _ (by omega) (by omega))
        obtain ⟨w9, hw9⟩ : ∃ w9, (((((((((((((w5).setCell ⟨W.heap.size, 0, none⟩ (.string ⟨t.text.toArray⟩)).setCell ⟨W.heap.size, 1, none⟩ (x0)).setCell ⟨W.heap.size, 2, none⟩ (x1)).setCell ⟨W.heap.size, 3, none⟩ (x2)).setCell ⟨W.heap.size, 4, none⟩ (x3)).setCell ⟨W.heap.size, 5, none⟩ (x4)).setCell ⟨W.heap.size, 6, none⟩ (x5)).setCell ⟨W.heap.size, 7, none⟩ (x6)).setCell ⟨W.heap.size, 8, none⟩ (x7)).setCell ⟨W.heap.size, 9, none⟩ (x8)).setCell ⟨W.heap.size, 10, none⟩ (x9)).setCell ⟨W.heap.size, 11, none⟩ (x10)).setCell ⟨W.heap.size, 12, none⟩ (.int .i64 t.pos) = w9 := ⟨_, rfl⟩
        have hPW := (Par.of_below (pb := pb) HN.out).trans hpw5
        have hB9 := set13 hBw5 (.string ⟨t.text.toArray⟩) (x0) (x1) (x2) (x3) (x4) (x5) (x6) (x7) (x8) (x9) (x10) (.int .i64 t.pos)
        have hb9 := Par.set13 hPW (Nat.le_refl _) (.string ⟨t.text.toArray⟩) (x0) (x1) (x2) (x3) (x4) (x5) (x6) (x7) (x8) (x9) (x10) (.int .i64 t.pos)
        have hS9 := PsAt.set13 hsw5 (g := W.heap.size) hlt (.string ⟨t.text.toArray⟩) (x0) (x1) (x2) (x3) (x4) (x5) (x6) (x7) (x8) (x9) (x10) (.int .i64 t.pos)
        have hL9 : Low (lowX (W.heap.size + 1)) w5 _ := Low.set13 (Chg.refl _ _) (.inl (lowX_self _)) (.string ⟨t.text.toArray⟩) (x0) (x1) (x2) (x3) (x4) (x5) (x6) (x7) (x8) (x9) (x10) (.int .i64 t.pos)
        rw [hw9] at hB9 hb9 hS9 hL9 ⊢
        have d0 := hB9.cell 0
        have d1 := hB9.cell 1
        have d2 := hB9.cell 2
        have d3 := hB9.cell 3
        have d4 := hB9.cell 4
        have d5 := hB9.cell 5
        have d6 := hB9.cell 6
        have d7 := hB9.cell 7
        have d8 := hB9.cell 8
        have d9 := hB9.cell 9
        have d10 := hB9.cell 10
        have d11 := hB9.cell 11
        have d12 := hB9.cell 12
        simp only [List.getElem?_toArray, List.getElem?_cons_succ, List.getElem?_cons_zero] at d0 d1 d2 d3 d4 d5 d6 d7 d8 d9 d10 d11 d12
        exact bodyPost_ret (v := .agg #[.string ⟨t.text.toArray⟩, x0, x1, x2, x3, x4, x5, x6, x7, x8, x9, x10, .int .i64 t.pos]) (by simp [results, Tryd.results50, go_sem, d0, d1, d2, d3, d4, d5, d6, d7, d8, d9, d10, d11, d12]) rfl ⟨hb9, ⟨[.string ⟨t.text.toArray⟩, x0, x1, x2, x3, x4, x5, x6, x7, x8, x9, x10, .int .i64 t.pos], rfl, rfl, (hfin.later hL9).wk (by omega)⟩, hS9, hf5⟩

end Go.Proofs.YtiiddmioafhmoaaDoor
