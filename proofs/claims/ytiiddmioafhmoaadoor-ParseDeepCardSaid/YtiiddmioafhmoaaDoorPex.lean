/- Walks: the parser's expressions: what is made of them. -/
import Derived.Test.YtiiddmioafhmoaaDoorPap
namespace Go.Proofs.YtiiddmioafhmoaaDoor
open Go.RowKit
set_option linter.unusedVariables false
set_option linter.unusedSimpArgs false
set_option maxRecDepth 100000

abbrev tyZ : Ty := .mk 0 ⟨#[]⟩ 0 []
abbrev tyZc : List Value := [.int .i64 0, .string ⟨#[]⟩, .int .i64 0, .slice none 0 0]
/-- An expression of parts that are expressions. -/
def exK (k : Int) (nm : ByteArray) (n : Int) (ks : List Ex) (q : Int) : Ex := .mk k nm n tyZ ks [] [] q
def namedE (k : Int) (t : Tk) : Ex := exK k (bytesOf t) 0 [] t.pos
def applyE (f x : Ex) (q : Int) : Ex := exK 5 ⟨#[]⟩ 0 [f, x] q
def infixE (op : Tk) (a b : Ex) : Ex := if op.text = [38, 38] then exK 10 ⟨#[]⟩ 0 [a, b] op.pos else if op.text = [124, 124] then exK 11 ⟨#[]⟩ 0 [a, b] op.pos else applyE (applyE (namedE 3 op) a op.pos) b op.pos
abbrev sCase : ByteArray := ⟨#[99, 97, 115, 101]⟩
def seesAtomP (ts : List Tk) : Bool := kindH ts == 1 || (kindH ts == 2 || (kindH ts == 3 || (kindH ts == 4 || (seesH sLpar ts || seesH sCase ts))))

theorem AlAt.imp {w w' : World} {B : Nat} {cs : List Value} {a : Al} (h : AlAt w B cs a) (hk : ∀ p u, p.block < B → w.cell? p = some u → w'.cell? p = some u) : AlAt w' B cs a := by
  cases h with
  | mk hp he => exact .mk (hp.imp hk) (he.imp hk)
theorem BdAt.imp {w w' : World} {B : Nat} {cs : List Value} {b : Bd} (h : BdAt w B cs b) (hk : ∀ p u, p.block < B → w.cell? p = some u → w'.cell? p = some u) : BdAt w' B cs b := by
  cases h with
  | mk hs he hq => exact .mk hs (he.imp hk) hq
theorem AlAt.more' {w : World} {B B' : Nat} {cs : List Value} {a : Al} (h : AlAt w B cs a) (hB : B ≤ B') : AlAt w B' cs a := by
  cases h with
  | mk hp he => exact .mk (hp.more hB) (he.more hB)
theorem BdAt.more' {w : World} {B B' : Nat} {cs : List Value} {b : Bd} (h : BdAt w B cs b) (hB : B ≤ B') : BdAt w B' cs b := by
  cases h with
  | mk hs he hq => exact .mk hs (he.more hB) hq
def rAl : Rd Al := ⟨AlAt, fun h hk => AlAt.imp h hk, fun h hB => h.more' hB⟩
def rBd : Rd Bd := ⟨BdAt, fun h hk => BdAt.imp h hk, fun h hB => h.more' hB⟩
theorem ExM.mk_ {X : Nat → Bool} {W : World} {k n q : Int} {nm : ByteArray} {t : Ty} {T : List Value} {A Aa Ab : Option Addr} {c ca cb : Nat} {ks : List Ex} {als : List Al} {bs : List Bd} (hk : ok64 k) (hs : nm.size ≤ 60000) (hn : ok64 n) (hq : ok64 q) (ht : rTy.M X W T t)
    (hc : ks.length ≤ c) (hm : c ≤ maxLen) (hca : als.length ≤ ca) (hma : ca ≤ maxLen) (hcb : bs.length ≤ cb) (hmb : cb ≤ maxLen) (hb : ks.length ≤ 60001) (hba : als.length ≤ 60001) (hbb : bs.length ≤ 60001)
    (hr : RowM rEx 11 X W A ks) (hra : RowM rAl 16 X W Aa als) (hrb : RowM rBd 13 X W Ab bs) :
    rEx.M X W ([.int .i64 k, .string nm, .int .i64 n] ++ T ++ [.slice A ks.length c, .slice Aa als.length ca, .slice Ab bs.length cb, .int .i64 q]) (.mk k nm n t ks als bs q) := by
  obtain ⟨L, h1, h2⟩ := hr.ex
  obtain ⟨La, ha1, ha2⟩ := hra.ex
  obtain ⟨Lb, hb1, hb2⟩ := hrb.ex
  exact ExAt.mk hk (by unfold maxLen; omega) hn hq ht hc hm hca hma hcb hmb (by omega) (by omega) (by omega) h1 h2 ha1 ha2 hb1 hb2
/-- An expression whose parts are expressions alone. -/
theorem ExM.kids {X : Nat → Bool} {W : World} {k n q : Int} {nm : ByteArray} {A : Option Addr} {c : Nat} {ks : List Ex} (hk : ok64 k) (hs : nm.size ≤ 60000) (hn : ok64 n) (hq : ok64 q)
    (hc : ks.length ≤ c) (hm : c ≤ maxLen) (hb : ks.length ≤ 60001) (hr : RowM rEx 11 X W A ks) :
    rEx.M X W [.int .i64 k, .string nm, .int .i64 n, .int .i64 0, .string ⟨#[]⟩, .int .i64 0, .slice none 0 0, .slice A ks.length c, .slice none 0 0, .slice none 0 0, .int .i64 q] (exK k nm n ks q) :=
  ExM.mk_ (T := tyZc) (als := []) (bs := []) hk hs hn hq (TyM.leaf X W 0 ⟨#[]⟩ (ok_lit _ (by omega) (by omega)) (by simp [ByteArray.size])) hc hm (by simp) (by simp [maxLen]) (by simp) (by simp [maxLen]) hb (by simp) (by simp) hr (RowM.nil_ _ _ _ _) (RowM.nil_ _ _ _ _)
theorem ExM.leaf (X : Nat → Bool) (W : World) {k n q : Int} {nm : ByteArray} (hk : ok64 k) (hs : nm.size ≤ 60000) (hn : ok64 n) (hq : ok64 q) :
    rEx.M X W [.int .i64 k, .string nm, .int .i64 n, .int .i64 0, .string ⟨#[]⟩, .int .i64 0, .slice none 0 0, .slice none 0 0, .slice none 0 0, .slice none 0 0, .int .i64 q] (exK k nm n [] q) :=
  ExM.kids (ks := []) hk hs hn hq (by simp) (by simp [maxLen]) (by simp) (RowM.nil_ _ _ _ _)
theorem ex_ones' {w : World} {B : Nat} {cs : List Value} {t : Ex} (h : ExAt w B cs t) : ∀ u ∈ cs, u.oneCell' = true := by
  cases h with
  | mk hk hs hn hq ht => 
    intro u hu
    simp only [List.mem_append, List.mem_cons, List.not_mem_nil, or_false] at hu
    rcases hu with (hu | hu) | hu
    · rcases hu with rfl | rfl | rfl <;> rfl
    · exact ty_ones' ht u hu
    · rcases hu with rfl | rfl | rfl | rfl <;> rfl
theorem ex_len' {w : World} {B : Nat} {cs : List Value} {t : Ex} (h : ExAt w B cs t) : cs.length = 11 := by
  cases h with
  | mk hk hs hn hq ht => cases ht; simp
theorem set11 {w : World} {g : Nat} {t : TypeId} {x0 x1 x2 x3 x4 x5 x6 x7 x8 x9 x10 : Value} (h : Blk w g t #[x0, x1, x2, x3, x4, x5, x6, x7, x8, x9, x10]) (y0 y1 y2 y3 y4 y5 y6 y7 y8 y9 y10 : Value) : Blk ((((((((((((w).setCell ⟨g, 0, none⟩ y0).setCell ⟨g, 1, none⟩ y1).setCell ⟨g, 2, none⟩ y2).setCell ⟨g, 3, none⟩ y3).setCell ⟨g, 4, none⟩ y4).setCell ⟨g, 5, none⟩ y5).setCell ⟨g, 6, none⟩ y6).setCell ⟨g, 7, none⟩ y7).setCell ⟨g, 8, none⟩ y8).setCell ⟨g, 9, none⟩ y9).setCell ⟨g, 10, none⟩ y10) g t #[y0, y1, y2, y3, y4, y5, y6, y7, y8, y9, y10] := by
  have := (((((((((((h).set_ 0 y0).set_ 1 y1).set_ 2 y2).set_ 3 y3).set_ 4 y4).set_ 5 y5).set_ 6 y6).set_ 7 y7).set_ 8 y8).set_ 9 y9).set_ 10 y10
  simpa using this
theorem Par.set11 {pb g : Nat} {W w : World} (h : Par pb W w) (hg : W.heap.size ≤ g) (y0 y1 y2 y3 y4 y5 y6 y7 y8 y9 y10 : Value) : Par pb W ((((((((((((w).setCell ⟨g, 0, none⟩ y0).setCell ⟨g, 1, none⟩ y1).setCell ⟨g, 2, none⟩ y2).setCell ⟨g, 3, none⟩ y3).setCell ⟨g, 4, none⟩ y4).setCell ⟨g, 5, none⟩ y5).setCell ⟨g, 6, none⟩ y6).setCell ⟨g, 7, none⟩ y7).setCell ⟨g, 8, none⟩ y8).setCell ⟨g, 9, none⟩ y9).setCell ⟨g, 10, none⟩ y10) :=
  (((((((((((h).set_ (p := ⟨g, 0, none⟩) (.inr hg) y0).set_ (p := ⟨g, 1, none⟩) (.inr hg) y1).set_ (p := ⟨g, 2, none⟩) (.inr hg) y2).set_ (p := ⟨g, 3, none⟩) (.inr hg) y3).set_ (p := ⟨g, 4, none⟩) (.inr hg) y4).set_ (p := ⟨g, 5, none⟩) (.inr hg) y5).set_ (p := ⟨g, 6, none⟩) (.inr hg) y6).set_ (p := ⟨g, 7, none⟩) (.inr hg) y7).set_ (p := ⟨g, 8, none⟩) (.inr hg) y8).set_ (p := ⟨g, 9, none⟩) (.inr hg) y9).set_ (p := ⟨g, 10, none⟩) (.inr hg) y10
theorem PsAt.set11 {w : World} {pb lv g : Nat} {ts : List Tk} (h : PsAt w pb ts lv) (hg : pb < g) (y0 y1 y2 y3 y4 y5 y6 y7 y8 y9 y10 : Value) : PsAt ((((((((((((w).setCell ⟨g, 0, none⟩ y0).setCell ⟨g, 1, none⟩ y1).setCell ⟨g, 2, none⟩ y2).setCell ⟨g, 3, none⟩ y3).setCell ⟨g, 4, none⟩ y4).setCell ⟨g, 5, none⟩ y5).setCell ⟨g, 6, none⟩ y6).setCell ⟨g, 7, none⟩ y7).setCell ⟨g, 8, none⟩ y8).setCell ⟨g, 9, none⟩ y9).setCell ⟨g, 10, none⟩ y10) pb ts lv := by
  obtain ⟨A, cap, h1, h2, h3, h4⟩ := h.ex
  have hne : pb ≠ g := by omega
  exact ⟨A, cap, (((((((((((h1).far (p := ⟨g, 0, none⟩) hne y0).far (p := ⟨g, 1, none⟩) hne y1).far (p := ⟨g, 2, none⟩) hne y2).far (p := ⟨g, 3, none⟩) hne y3).far (p := ⟨g, 4, none⟩) hne y4).far (p := ⟨g, 5, none⟩) hne y5).far (p := ⟨g, 6, none⟩) hne y6).far (p := ⟨g, 7, none⟩) hne y7).far (p := ⟨g, 8, none⟩) hne y8).far (p := ⟨g, 9, none⟩) hne y9).far (p := ⟨g, 10, none⟩) hne y10, h2, h3, h4.keep fun p hp => World.cell?_of_block (w := w) (by
    have hp2 : p.block ≠ g := by omega
    rw [Below.heap_setCell _ ⟨g, 10, none⟩ _ _ hp2, Below.heap_setCell _ ⟨g, 9, none⟩ _ _ hp2, Below.heap_setCell _ ⟨g, 8, none⟩ _ _ hp2, Below.heap_setCell _ ⟨g, 7, none⟩ _ _ hp2, Below.heap_setCell _ ⟨g, 6, none⟩ _ _ hp2, Below.heap_setCell _ ⟨g, 5, none⟩ _ _ hp2, Below.heap_setCell _ ⟨g, 4, none⟩ _ _ hp2, Below.heap_setCell _ ⟨g, 3, none⟩ _ _ hp2, Below.heap_setCell _ ⟨g, 2, none⟩ _ _ hp2, Below.heap_setCell _ ⟨g, 1, none⟩ _ _ hp2, Below.heap_setCell _ ⟨g, 0, none⟩ _ _ hp2])⟩
theorem Low.set11 {X : Nat → Bool} {g : Nat} {W w : World} (h : Low X W w) (hg : X g = true ∨ W.heap.size ≤ g) (y0 y1 y2 y3 y4 y5 y6 y7 y8 y9 y10 : Value) : Low X W ((((((((((((w).setCell ⟨g, 0, none⟩ y0).setCell ⟨g, 1, none⟩ y1).setCell ⟨g, 2, none⟩ y2).setCell ⟨g, 3, none⟩ y3).setCell ⟨g, 4, none⟩ y4).setCell ⟨g, 5, none⟩ y5).setCell ⟨g, 6, none⟩ y6).setCell ⟨g, 7, none⟩ y7).setCell ⟨g, 8, none⟩ y8).setCell ⟨g, 9, none⟩ y9).setCell ⟨g, 10, none⟩ y10) :=
  (((((((((((h).set_ (p := ⟨g, 0, none⟩) hg y0).set_ (p := ⟨g, 1, none⟩) hg y1).set_ (p := ⟨g, 2, none⟩) hg y2).set_ (p := ⟨g, 3, none⟩) hg y3).set_ (p := ⟨g, 4, none⟩) hg y4).set_ (p := ⟨g, 5, none⟩) hg y5).set_ (p := ⟨g, 6, none⟩) hg y6).set_ (p := ⟨g, 7, none⟩) hg y7).set_ (p := ⟨g, 8, none⟩) hg y8).set_ (p := ⟨g, 9, none⟩) hg y9).set_ (p := ⟨g, 10, none⟩) hg y10

set_option maxHeartbeats 1600000 in
theorem seesAtom_any (pb lv : Nat) (t : Tk) (ts : List Tk) (W : World) (h : PsAt W pb (t :: ts) lv) (b : Bool) (hb : seesAtomP (t :: ts) = b) :
    Calls Tryd.prog 33 #[.pointer (some ⟨pb, 0, none⟩)] W fun e W' => e = .returned (.bool b) ∧ Below W.heap.size W W' := by
  have CA := Lib.hid (ahead_any pb lv t ts W h)
  have D1 := Lib.hid (fun W' (hb : Below W.heap.size W W') => sees_any pb lv t ts sLpar W' (h.later hb) _ rfl)
  have D2 := Lib.hid (fun W' (hb : Below W.heap.size W W') => sees_any pb lv t ts sCase W' (h.later hb) _ rfl)
  have hf0 := field_tk0
  have HB := Lib.hid hb
  clear h hb
  by_cases h1 : t.kind = 1
  · have d1 : (t.kind == 1) = true := by simpa using h1
    have HE := Lib.hid (show b = true by rw [← HB.out]; simp [seesAtomP, kindH, h1])
    clear h1
    go_enter Tryd.func33, Tryd.ntmps33
    go_wp2_with (go_at_call 16; (with_reducible refine CA.out.mono ?_); rintro e w2 ⟨rfl, hb2⟩; rw [tk_cells])
    go_ret
    exact ⟨ret_bool HE.out.symm, hb2⟩
  · have d1 : (t.kind == 1) = false := by simpa using h1
    by_cases h2 : t.kind = 2
    · have d2 : (t.kind == 2) = true := by simpa using h2
      have HE := Lib.hid (show b = true by rw [← HB.out]; simp [seesAtomP, kindH, h2])
      clear h2 h1
      go_enter Tryd.func33, Tryd.ntmps33
      go_wp2_with (go_at_call 16; (with_reducible refine CA.out.mono ?_); rintro e w2 ⟨rfl, hb2⟩; rw [tk_cells])
      go_ret
      exact ⟨ret_bool HE.out.symm, hb2⟩
    · have d2 : (t.kind == 2) = false := by simpa using h2
      by_cases h3 : t.kind = 3
      · have d3 : (t.kind == 3) = true := by simpa using h3
        have HE := Lib.hid (show b = true by rw [← HB.out]; simp [seesAtomP, kindH, h3])
        clear h3 h1 h2
        go_enter Tryd.func33, Tryd.ntmps33
        go_wp2_with (go_at_call 16; (with_reducible refine CA.out.mono ?_); rintro e w2 ⟨rfl, hb2⟩; rw [tk_cells])
        go_ret
        exact ⟨ret_bool HE.out.symm, hb2⟩
      · have d3 : (t.kind == 3) = false := by simpa using h3
        by_cases h4 : t.kind = 4
        · have d4 : (t.kind == 4) = true := by simpa using h4
          have HE := Lib.hid (show b = true by rw [← HB.out]; simp [seesAtomP, kindH, h4])
          clear h4 h1 h2 h3
          go_enter Tryd.func33, Tryd.ntmps33
          go_wp2_with (go_at_call 16; (with_reducible refine CA.out.mono ?_); rintro e w2 ⟨rfl, hb2⟩; rw [tk_cells])
          go_ret
          exact ⟨ret_bool HE.out.symm, hb2⟩
        · have d4 : (t.kind == 4) = false := by simpa using h4
          cases hu : seesB t sLpar with
          | true =>
            rw [hu] at D1
            have HE := Lib.hid (show b = true by rw [← HB.out]; simp [seesAtomP, seesH, hu])
            clear h1 h2 h3 h4 hu
            go_enter Tryd.func33, Tryd.ntmps33
            go_wp2_with (first | (go_at_call 16; (with_reducible refine CA.out.mono ?_); rintro e w2 ⟨rfl, hb2⟩; rw [tk_cells]) | (go_at_call 45; (with_reducible refine (D1.out _ hb2).mono ?_); rintro e w3 ⟨rfl, hb3⟩))
            go_ret
            exact ⟨ret_bool HE.out.symm, hb2.trans (hb3.mono hb2.size)⟩
          | false =>
            rw [hu] at D1
            have HE := Lib.hid (show seesB t sCase = b by rw [← HB.out]; simp [seesAtomP, kindH, seesH, hu, d1, d2, d3, d4])
            clear h1 h2 h3 h4 hu
            go_enter Tryd.func33, Tryd.ntmps33
            go_wp2_with (first | (go_at_call 16; (with_reducible refine CA.out.mono ?_); rintro e w2 ⟨rfl, hb2⟩; rw [tk_cells]) | (go_at_call 45; (with_reducible refine (D1.out _ hb2).mono ?_); rintro e w3 ⟨rfl, hb3⟩) | (go_at_call 45; (with_reducible refine (D2.out _ (hb2.trans (hb3.mono hb2.size))).mono ?_); rintro e w4 ⟨rfl, hb4⟩))
            go_ret
            exact ⟨ret_bool HE.out, (hb2.trans (hb3.mono hb2.size)).trans (hb4.mono (hb2.trans (hb3.mono hb2.size)).size)⟩

def exX (X : Nat → Bool) (g : Nat) : Nat → Bool := fun k => X k || k == g
theorem exX_self (X : Nat → Bool) (g : Nat) : exX X g g = true := by simp [exX]
theorem exX_iff {X : Nat → Bool} {g k : Nat} : exX X g k = true ↔ X k = true ∨ k = g := by simp [exX]
theorem exX_no {X : Nat → Bool} {g k : Nat} (h : X k = false) (hg : k ≠ g) : exX X g k = false := by simp [exX, h, hg]
theorem Rd.M.to_exX {α : Type} {R : Rd α} {X : Nat → Bool} {g : Nat} {W : World} {cs : List Value} {a : α} (h : R.M X W cs a) (hg : W.heap.size ≤ g) : R.M (exX X g) W cs a :=
  h.weaken fun k hk hx => by rw [exX_iff] at hx; rcases hx with hx | hx; exact hx; omega
theorem Rd.M.of_exX {α : Type} {R : Rd α} {X : Nat → Bool} {g : Nat} {W : World} {cs : List Value} {a : α} (h : R.M (exX X g) W cs a) : R.M X W cs a :=
  h.weaken fun k hk hx => by rw [exX_iff]; exact .inl hx
theorem lowX_no {B k : Nat} (h : B ≤ k) : lowX B k = false := by simp [lowX]; omega
/-- X holds old blocks alone. -/
def OldX (X : Nat → Bool) (n : Nat) : Prop := ∀ k, n ≤ k → X k = false
theorem OldX.low {B n : Nat} (h : B ≤ n) : OldX (lowX B) n := fun k hk => lowX_no (by omega)
theorem OldX.ex {X : Nat → Bool} {n g m : Nat} (h : OldX X n) (hm : n ≤ m) (hg : g < m) : OldX (exX X g) m := fun k hk => exX_no (h k (by omega)) (by omega)
theorem OldX.more {X : Nat → Bool} {n m : Nat} (h : OldX X n) (hm : n ≤ m) : OldX X m := fun k hk => h k (by omega)
/-- A function that makes an expression out of values alone: only new memory. -/
def ExPost (X : Nat → Bool) (t : Ex) (W : World) (e : Ending) (W' : World) : Prop := Below W.heap.size W W' ∧ ∃ cs : List Value, cs.length = 11 ∧ e = .returned (.agg cs.toArray) ∧ rEx.M X W' cs t
theorem Below.set11 {g : Nat} {W w : World} (h : Below W.heap.size W w) (hg : W.heap.size ≤ g) (y0 y1 y2 y3 y4 y5 y6 y7 y8 y9 y10 : Value) : Below W.heap.size W ((((((((((((w).setCell ⟨g, 0, none⟩ y0).setCell ⟨g, 1, none⟩ y1).setCell ⟨g, 2, none⟩ y2).setCell ⟨g, 3, none⟩ y3).setCell ⟨g, 4, none⟩ y4).setCell ⟨g, 5, none⟩ y5).setCell ⟨g, 6, none⟩ y6).setCell ⟨g, 7, none⟩ y7).setCell ⟨g, 8, none⟩ y8).setCell ⟨g, 9, none⟩ y9).setCell ⟨g, 10, none⟩ y10) := (((((((((((h).setCell (p := ⟨g, 0, none⟩) hg y0).setCell (p := ⟨g, 1, none⟩) hg y1).setCell (p := ⟨g, 2, none⟩) hg y2).setCell (p := ⟨g, 3, none⟩) hg y3).setCell (p := ⟨g, 4, none⟩) hg y4).setCell (p := ⟨g, 5, none⟩) hg y5).setCell (p := ⟨g, 6, none⟩) hg y6).setCell (p := ⟨g, 7, none⟩) hg y7).setCell (p := ⟨g, 8, none⟩) hg y8).setCell (p := ⟨g, 9, none⟩) hg y9).setCell (p := ⟨g, 10, none⟩) hg y10
theorem RowM.two {X : Nat → Bool} {W : World} {g : Nat} {t : TypeId} {xs ys : List Value} {a b : Ex} (hb : Blk W g t (xs ++ ys).toArray) (hX : X g = false) (hx : rEx.M X W xs a) (hy : rEx.M X W ys b) : RowM rEx 11 X W (some ⟨g, 0, none⟩) [a, b] :=
  ⟨[xs, ys], row_blkM (by simpa using hb) hX rfl (fun l hl => by simp only [List.mem_cons, List.not_mem_nil, or_false] at hl; rcases hl with rfl | rfl; exact ex_len' hx; exact ex_len' hy), fun i k1 k2 => by
      match i, k1 with
      | 0, _ => exact hx
      | 1, _ => exact hy⟩
theorem RowM.one {X : Nat → Bool} {W : World} {g : Nat} {t : TypeId} {xs : List Value} {a : Ex} (hb : Blk W g t xs.toArray) (hX : X g = false) (hx : rEx.M X W xs a) : RowM rEx 11 X W (some ⟨g, 0, none⟩) [a] :=
  ⟨[xs], row_blkM (by simpa using hb) hX rfl (fun l hl => by simp only [List.mem_cons, List.not_mem_nil, or_false] at hl; subst hl; exact ex_len' hx), fun i k1 k2 => by
      match i, k1 with
      | 0, _ => exact hx⟩

set_option maxHeartbeats 1600000 in
theorem named_any (k : Int) (t : Tk) (X : Nat → Bool) (W : World) (hX : OldX X W.heap.size) (hk : ok64 k) (hs : t.text.length ≤ 60000) (hq : t.pos ≤ 60000) :
    Calls Tryd.prog 51 #[.int .i64 k, tkV t] W (ExPost X (namedE k t) W) := by
  have hsize : (⟨t.text.toArray⟩ : ByteArray).size ≤ 60000 := by simpa [ByteArray.size] using hs
  rw [tk_cells]
  obtain ⟨w1, hw1⟩ : ∃ w1, W.alloc (.cells #[.int .i64 t.kind, .string ⟨t.text.toArray⟩, .int .i64 t.num, .int .i64 t.pos] 52) = w1 := ⟨_, rfl⟩
  have hb1 : Below W.heap.size W w1 := by rw [← hw1]; exact below_new' _ _
  have hx1 : Blk w1 W.heap.size 52 #[.int .i64 t.kind, .string ⟨t.text.toArray⟩, .int .i64 t.num, .int .i64 t.pos] := by rw [← hw1]; exact Blk.new _ _ _
  have hz1 : w1.heap.size = W.heap.size + 1 := by rw [← hw1]; simp
  obtain ⟨w2, hw2⟩ : ∃ w2, w1.alloc (.cells #[.int .i64 0, .string ⟨#[]⟩, .int .i64 0, .int .i64 0, .string ⟨#[]⟩, .int .i64 0, .slice none 0 0, .slice none 0 0, .slice none 0 0, .slice none 0 0, .int .i64 0] 32) = w2 := ⟨_, rfl⟩
  have hb12 : Below w1.heap.size w1 w2 := by rw [← hw2]; exact below_new' _ _
  have hBw2 : Blk w2 (W.heap.size + 1) 32 #[.int .i64 0, .string ⟨#[]⟩, .int .i64 0, .int .i64 0, .string ⟨#[]⟩, .int .i64 0, .slice none 0 0, .slice none 0 0, .slice none 0 0, .slice none 0 0, .int .i64 0] := by rw [← hw2, ← hz1]; exact Blk.new _ _ _
  have hx2 := hx1.below hb12 hx1.lt
  have hbw2 : Below W.heap.size W w2 := hb1.trans (hb12.mono hb1.size)
  have k1 := hx2.cell 1
  have k3 := hx2.cell 3
  simp only [List.getElem?_toArray, List.getElem?_cons_succ, List.getElem?_cons_zero] at k1 k3
  have r0 := hBw2.cell 0
  have r1 := hBw2.cell 1
  have r2 := hBw2.cell 2
  have r3 := hBw2.cell 3
  have r4 := hBw2.cell 4
  have r5 := hBw2.cell 5
  have r6 := hBw2.cell 6
  have r7 := hBw2.cell 7
  have r8 := hBw2.cell 8
  have r9 := hBw2.cell 9
  have r10 := hBw2.cell 10
  simp only [List.getElem?_toArray, List.getElem?_cons_succ, List.getElem?_cons_zero] at r0 r1 r2 r3 r4 r5 r6 r7 r8 r9 r10
  have f0 := hBw2.frozen 0
  have f1 := hBw2.frozen 1
  have f2 := hBw2.frozen 2
  have f3 := hBw2.frozen 3
  have f4 := hBw2.frozen 4
  have f5 := hBw2.frozen 5
  have f6 := hBw2.frozen 6
  have f7 := hBw2.frozen 7
  have f8 := hBw2.frozen 8
  have f9 := hBw2.frozen 9
  have f10 := hBw2.frozen 10
  have HW1 := Lib.hid hw1
  have HW2 := Lib.hid hw2
  have hgg : W.heap.size ≤ W.heap.size + 1 := by omega
  clear hw1 hw2
  go_enter Tryd.func51, Tryd.ntmps51
  go_upto_region 1 with fail
  rw [HW1.out, HW2.out]
  go_wp2_with fail
  obtain ⟨w9, hw9⟩ : ∃ w9, (((((((((((w2).setCell ⟨W.heap.size + 1, 0, none⟩ (.int .i64 k)).setCell ⟨W.heap.size + 1, 1, none⟩ (.string ⟨t.text.toArray⟩)).setCell ⟨W.heap.size + 1, 2, none⟩ (.int .i64 0)).setCell ⟨W.heap.size + 1, 3, none⟩ (.int .i64 0)).setCell ⟨W.heap.size + 1, 4, none⟩ (.string ⟨#[]⟩)).setCell ⟨W.heap.size + 1, 5, none⟩ (.int .i64 0)).setCell ⟨W.heap.size + 1, 6, none⟩ (.slice none 0 0)).setCell ⟨W.heap.size + 1, 7, none⟩ (.slice none 0 0)).setCell ⟨W.heap.size + 1, 8, none⟩ (.slice none 0 0)).setCell ⟨W.heap.size + 1, 9, none⟩ (.slice none 0 0)).setCell ⟨W.heap.size + 1, 10, none⟩ (.int .i64 t.pos) = w9 := ⟨_, rfl⟩
  have hB9 := set11 hBw2 (.int .i64 k) (.string ⟨t.text.toArray⟩) (.int .i64 0) (.int .i64 0) (.string ⟨#[]⟩) (.int .i64 0) (.slice none 0 0) (.slice none 0 0) (.slice none 0 0) (.slice none 0 0) (.int .i64 t.pos)
  have hb9 := Below.set11 hbw2 hgg (.int .i64 k) (.string ⟨t.text.toArray⟩) (.int .i64 0) (.int .i64 0) (.string ⟨#[]⟩) (.int .i64 0) (.slice none 0 0) (.slice none 0 0) (.slice none 0 0) (.slice none 0 0) (.int .i64 t.pos)
  have hL9 : Low (exX X (W.heap.size + 1)) w2 _ := Low.set11 (Chg.refl _ _) (.inl (exX_self _ _)) (.int .i64 k) (.string ⟨t.text.toArray⟩) (.int .i64 0) (.int .i64 0) (.string ⟨#[]⟩) (.int .i64 0) (.slice none 0 0) (.slice none 0 0) (.slice none 0 0) (.slice none 0 0) (.int .i64 t.pos)
  rw [hw9] at hB9 hb9 hL9 ⊢
  have d0 := hB9.cell 0
  have d1 := hB9.cell 1
  have d2 := hB9.cell 2
  have d3 := hB9.cell 3
  have d4 := hB9.cell 4
  have d5 := hB9.cell 5
  have d6 := hB9.cell 6
  have d7 := hB9.cell 7
  have d8 := hB9.cell 8
  have d9 := hB9.cell 9
  have d10 := hB9.cell 10
  simp only [List.getElem?_toArray, List.getElem?_cons_succ, List.getElem?_cons_zero] at d0 d1 d2 d3 d4 d5 d6 d7 d8 d9 d10
  exact bodyPost_ret (v := .agg #[.int .i64 k, .string ⟨t.text.toArray⟩, .int .i64 0, .int .i64 0, .string ⟨#[]⟩, .int .i64 0, .slice none 0 0, .slice none 0 0, .slice none 0 0, .slice none 0 0, .int .i64 t.pos]) (by simp [results, Tryd.results51, go_sem, d0, d1, d2, d3, d4, d5, d6, d7, d8, d9, d10]) rfl ⟨hb9, [.int .i64 k, .string ⟨t.text.toArray⟩, .int .i64 0, .int .i64 0, .string ⟨#[]⟩, .int .i64 0, .slice none 0 0, .slice none 0 0, .slice none 0 0, .slice none 0 0, .int .i64 t.pos], rfl, rfl, ExM.leaf _ _ hk hsize (ok_lit _ (by omega) (by omega)) (ok_lit _ (by omega) (by omega))⟩

set_option maxHeartbeats 3200000 in
theorem apply_any (cs es : List Value) (f x : Ex) (q : Int) (X : Nat → Bool) (W : World) (hX : OldX X W.heap.size) (hx : rEx.M X W cs f) (hy : rEx.M X W es x) (hq : ok64 q) :
    Calls Tryd.prog 34 #[.agg cs.toArray, .agg es.toArray, .int .i64 q] W (ExPost X (applyE f x q) W) := by
  obtain ⟨x0, x1, x2, x3, x4, x5, x6, x7, x8, x9, x10, rfl⟩ := eleven_of (ex_len' hx)
  obtain ⟨y0, y1, y2, y3, y4, y5, y6, y7, y8, y9, y10, rfl⟩ := eleven_of (ex_len' hy)
  have s0 := store_one' x0 (ex_ones' hx x0 (by simp))
  have t0 := store_one' y0 (ex_ones' hy y0 (by simp))
  have s1 := store_one' x1 (ex_ones' hx x1 (by simp))
  have t1 := store_one' y1 (ex_ones' hy y1 (by simp))
  have s2 := store_one' x2 (ex_ones' hx x2 (by simp))
  have t2 := store_one' y2 (ex_ones' hy y2 (by simp))
  have s3 := store_one' x3 (ex_ones' hx x3 (by simp))
  have t3 := store_one' y3 (ex_ones' hy y3 (by simp))
  have s4 := store_one' x4 (ex_ones' hx x4 (by simp))
  have t4 := store_one' y4 (ex_ones' hy y4 (by simp))
  have s5 := store_one' x5 (ex_ones' hx x5 (by simp))
  have t5 := store_one' y5 (ex_ones' hy y5 (by simp))
  have s6 := store_one' x6 (ex_ones' hx x6 (by simp))
  have t6 := store_one' y6 (ex_ones' hy y6 (by simp))
  have s7 := store_one' x7 (ex_ones' hx x7 (by simp))
  have t7 := store_one' y7 (ex_ones' hy y7 (by simp))
  have s8 := store_one' x8 (ex_ones' hx x8 (by simp))
  have t8 := store_one' y8 (ex_ones' hy y8 (by simp))
  have s9 := store_one' x9 (ex_ones' hx x9 (by simp))
  have t9 := store_one' y9 (ex_ones' hy y9 (by simp))
  have s10 := store_one' x10 (ex_ones' hx x10 (by simp))
  have t10 := store_one' y10 (ex_ones' hy y10 (by simp))
  obtain ⟨w1, hw1⟩ : ∃ w1, W.alloc (.cells #[x0, x1, x2, x3, x4, x5, x6, x7, x8, x9, x10] 32) = w1 := ⟨_, rfl⟩
  have hb1 : Below W.heap.size W w1 := by rw [← hw1]; exact below_new' _ _
  have hx1 : Blk w1 W.heap.size 32 #[x0, x1, x2, x3, x4, x5, x6, x7, x8, x9, x10] := by rw [← hw1]; exact Blk.new _ _ _
  have hz1 : w1.heap.size = W.heap.size + 1 := by rw [← hw1]; simp
  obtain ⟨w2, hw2⟩ : ∃ w2, w1.alloc (.cells #[y0, y1, y2, y3, y4, y5, y6, y7, y8, y9, y10] 32) = w2 := ⟨_, rfl⟩
  have hb12 : Below w1.heap.size w1 w2 := by rw [← hw2]; exact below_new' _ _
  have hy2 : Blk w2 (W.heap.size + 1) 32 #[y0, y1, y2, y3, y4, y5, y6, y7, y8, y9, y10] := by rw [← hw2, ← hz1]; exact Blk.new _ _ _
  have hz2 : w2.heap.size = W.heap.size + 1 + 1 := by rw [← hw2]; simp [hz1]
  obtain ⟨w3, hw3⟩ : ∃ w3, w2.alloc (.cells #[.int .i64 0, .string ⟨#[]⟩, .int .i64 0, .int .i64 0, .string ⟨#[]⟩, .int .i64 0, .slice none 0 0, .slice none 0 0, .slice none 0 0, .slice none 0 0, .int .i64 0] 32) = w3 := ⟨_, rfl⟩
  have hb23 : Below w2.heap.size w2 w3 := by rw [← hw3]; exact below_new' _ _
  have hBw3 : Blk w3 (W.heap.size + 1 + 1) 32 #[.int .i64 0, .string ⟨#[]⟩, .int .i64 0, .int .i64 0, .string ⟨#[]⟩, .int .i64 0, .slice none 0 0, .slice none 0 0, .slice none 0 0, .slice none 0 0, .int .i64 0] := by rw [← hw3, ← hz2]; exact Blk.new _ _ _
  have hz3 : w3.heap.size = W.heap.size + 1 + 1 + 1 := by rw [← hw3]; simp [hz2]
  have hx3 := (hx1.below hb12 hx1.lt).below hb23 (hx1.below hb12 hx1.lt).lt
  have hy3 := hy2.below hb23 hy2.lt
  have hb3 : Below W.heap.size W w3 := (hb1.trans (hb12.mono hb1.size)).trans (hb23.mono (hb1.trans (hb12.mono hb1.size)).size)
  have u0 := hx3.cell 0
  have u1 := hx3.cell 1
  have u2 := hx3.cell 2
  have u3 := hx3.cell 3
  have u4 := hx3.cell 4
  have u5 := hx3.cell 5
  have u6 := hx3.cell 6
  have u7 := hx3.cell 7
  have u8 := hx3.cell 8
  have u9 := hx3.cell 9
  have u10 := hx3.cell 10
  simp only [List.getElem?_toArray, List.getElem?_cons_succ, List.getElem?_cons_zero] at u0 u1 u2 u3 u4 u5 u6 u7 u8 u9 u10
  have v0 := hy3.cell 0
  have v1 := hy3.cell 1
  have v2 := hy3.cell 2
  have v3 := hy3.cell 3
  have v4 := hy3.cell 4
  have v5 := hy3.cell 5
  have v6 := hy3.cell 6
  have v7 := hy3.cell 7
  have v8 := hy3.cell 8
  have v9 := hy3.cell 9
  have v10 := hy3.cell 10
  simp only [List.getElem?_toArray, List.getElem?_cons_succ, List.getElem?_cons_zero] at v0 v1 v2 v3 v4 v5 v6 v7 v8 v9 v10
  have HW1 := Lib.hid hw1
  have HW2 := Lib.hid hw2
  have HW3 := Lib.hid hw3
  clear hw1 hw2 hw3
  go_enter Tryd.func34, Tryd.ntmps34
  go_upto_region 1 with fail
  rw [HW1.out, HW2.out, HW3.out]
  obtain ⟨w4, hw4⟩ : ∃ w4, w3.alloc (.cells #[x0, x1, x2, x3, x4, x5, x6, x7, x8, x9, x10, y0, y1, y2, y3, y4, y5, y6, y7, y8, y9, y10] 32) = w4 := ⟨_, rfl⟩
  have hb34 : Below w3.heap.size w3 w4 := by rw [← hw4]; exact below_new' _ _
  have hk4 : Blk w4 w3.heap.size 32 #[x0, x1, x2, x3, x4, x5, x6, x7, x8, x9, x10, y0, y1, y2, y3, y4, y5, y6, y7, y8, y9, y10] := by rw [← hw4]; exact Blk.new _ _ _
  have hBw4 := hBw3.below hb34 hBw3.lt
  have r0 := hBw4.cell 0
  have r1 := hBw4.cell 1
  have r2 := hBw4.cell 2
  have r3 := hBw4.cell 3
  have r4 := hBw4.cell 4
  have r5 := hBw4.cell 5
  have r6 := hBw4.cell 6
  have r7 := hBw4.cell 7
  have r8 := hBw4.cell 8
  have r9 := hBw4.cell 9
  have r10 := hBw4.cell 10
  simp only [List.getElem?_toArray, List.getElem?_cons_succ, List.getElem?_cons_zero] at r0 r1 r2 r3 r4 r5 r6 r7 r8 r9 r10
  have f0 := hBw4.frozen 0
  have f1 := hBw4.frozen 1
  have f2 := hBw4.frozen 2
  have f3 := hBw4.frozen 3
  have f4 := hBw4.frozen 4
  have f5 := hBw4.frozen 5
  have f6 := hBw4.frozen 6
  have f7 := hBw4.frozen 7
  have f8 := hBw4.frozen 8
  have f9 := hBw4.frozen 9
  have f10 := hBw4.frozen 10
  go_wp2_with fail
  have hbw4 : Below W.heap.size W w4 := hb3.trans (hb34.mono hb3.size)
  have hgg : W.heap.size ≤ W.heap.size + 1 + 1 := by omega
  have hxe := ((hx.to_exX (g := W.heap.size + 1 + 1) (by omega)).later (Low.of_below hbw4))
  have hye := ((hy.to_exX (g := W.heap.size + 1 + 1) (by omega)).later (Low.of_below hbw4))
  have hrow : RowM rEx 11 (exX X (W.heap.size + 1 + 1)) w4 (some ⟨w3.heap.size, 0, none⟩) [f, x] := RowM.two (xs := [x0, x1, x2, x3, x4, x5, x6, x7, x8, x9, x10]) (ys := [y0, y1, y2, y3, y4, y5, y6, y7, y8, y9, y10]) (by simpa using hk4) (exX_no (hX _ (by omega)) (by omega)) hxe hye
  rw [hz3] at hrow
  have hty := ExM.kids (k := 5) (n := 0) (q := q) (nm := ⟨#[]⟩) (c := 2) (ok_lit _ (by omega) (by omega)) (by simp [ByteArray.size]) (ok_lit _ (by omega) (by omega)) hq (by simp) (by simp [maxLen]) (by simp) hrow
  obtain ⟨w9, hw9⟩ : ∃ w9, (((((((((((w4).setCell ⟨W.heap.size + 1 + 1, 0, none⟩ (.int .i64 5)).setCell ⟨W.heap.size + 1 + 1, 1, none⟩ (.string ⟨#[]⟩)).setCell ⟨W.heap.size + 1 + 1, 2, none⟩ (.int .i64 0)).setCell ⟨W.heap.size + 1 + 1, 3, none⟩ (.int .i64 0)).setCell ⟨W.heap.size + 1 + 1, 4, none⟩ (.string ⟨#[]⟩)).setCell ⟨W.heap.size + 1 + 1, 5, none⟩ (.int .i64 0)).setCell ⟨W.heap.size + 1 + 1, 6, none⟩ (.slice none 0 0)).setCell ⟨W.heap.size + 1 + 1, 7, none⟩ (.slice (some ⟨W.heap.size + 1 + 1 + 1, 0, none⟩) 2 2)).setCell ⟨W.heap.size + 1 + 1, 8, none⟩ (.slice none 0 0)).setCell ⟨W.heap.size + 1 + 1, 9, none⟩ (.slice none 0 0)).setCell ⟨W.heap.size + 1 + 1, 10, none⟩ (.int .i64 q) = w9 := ⟨_, rfl⟩
  have hB9 := set11 hBw4 (.int .i64 5) (.string ⟨#[]⟩) (.int .i64 0) (.int .i64 0) (.string ⟨#[]⟩) (.int .i64 0) (.slice none 0 0) (.slice (some ⟨W.heap.size + 1 + 1 + 1, 0, none⟩) 2 2) (.slice none 0 0) (.slice none 0 0) (.int .i64 q)
  have hb9 := Below.set11 hbw4 hgg (.int .i64 5) (.string ⟨#[]⟩) (.int .i64 0) (.int .i64 0) (.string ⟨#[]⟩) (.int .i64 0) (.slice none 0 0) (.slice (some ⟨W.heap.size + 1 + 1 + 1, 0, none⟩) 2 2) (.slice none 0 0) (.slice none 0 0) (.int .i64 q)
  have hL9 : Low (exX X (W.heap.size + 1 + 1)) w4 _ := Low.set11 (Chg.refl _ _) (.inl (exX_self _ _)) (.int .i64 5) (.string ⟨#[]⟩) (.int .i64 0) (.int .i64 0) (.string ⟨#[]⟩) (.int .i64 0) (.slice none 0 0) (.slice (some ⟨W.heap.size + 1 + 1 + 1, 0, none⟩) 2 2) (.slice none 0 0) (.slice none 0 0) (.int .i64 q)
  rw [hw9] at hB9 hb9 hL9 ⊢
  have d0 := hB9.cell 0
  have d1 := hB9.cell 1
  have d2 := hB9.cell 2
  have d3 := hB9.cell 3
  have d4 := hB9.cell 4
  have d5 := hB9.cell 5
  have d6 := hB9.cell 6
  have d7 := hB9.cell 7
  have d8 := hB9.cell 8
  have d9 := hB9.cell 9
  have d10 := hB9.cell 10
  simp only [List.getElem?_toArray, List.getElem?_cons_succ, List.getElem?_cons_zero] at d0 d1 d2 d3 d4 d5 d6 d7 d8 d9 d10
  exact bodyPost_ret (v := .agg #[.int .i64 5, .string ⟨#[]⟩, .int .i64 0, .int .i64 0, .string ⟨#[]⟩, .int .i64 0, .slice none 0 0, .slice (some ⟨W.heap.size + 1 + 1 + 1, 0, none⟩) 2 2, .slice none 0 0, .slice none 0 0, .int .i64 q]) (by simp [results, Tryd.results34, go_sem, d0, d1, d2, d3, d4, d5, d6, d7, d8, d9, d10]) rfl ⟨hb9, [.int .i64 5, .string ⟨#[]⟩, .int .i64 0, .int .i64 0, .string ⟨#[]⟩, .int .i64 0, .slice none 0 0, .slice (some ⟨W.heap.size + 1 + 1 + 1, 0, none⟩) 2 2, .slice none 0 0, .slice none 0 0, .int .i64 q], rfl, rfl, (hty.later hL9).of_exX⟩

end Go.Proofs.YtiiddmioafhmoaaDoor
