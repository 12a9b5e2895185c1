/- Joined: Pspec Pmk. -/
import Derived.Test.YtiiddmioafhmoaaDoorPtl
import Derived.Test.YtiiddmioafhmoaaDoorFixdef

section
namespace Go.Proofs.YtiiddmioafhmoaaDoor
set_option linter.unusedVariables false

/-- What reading gives: a thing and what is unread; the first fault; 'out': no fuel. -/
inductive Res (α : Type) where
  | ok (a : α) (ts : List Tk)
  | bad (c : Int) (p : Nat)
  | out
def Res.andThen {α β : Type} (r : Res α) (f : α → List Tk → Res β) : Res β := match r with
  | .ok a ts => f a ts
  | .bad c p => .bad c p
  | .out => .out
def kindH : List Tk → Int
  | [] => 0
  | t :: _ => t.kind
def posH : List Tk → Nat
  | [] => 0
  | t :: _ => t.pos
def textH : List Tk → List UInt8
  | [] => []
  | t :: _ => t.text
def headT : List Tk → Tk
  | [] => ⟨0, [], 0, 0⟩
  | t :: _ => t
def seesH (s : ByteArray) : List Tk → Bool
  | [] => false
  | t :: _ => seesB t s
theorem kindH_cons (t : Tk) (ts : List Tk) : kindH (t :: ts) = t.kind := rfl
theorem posH_cons (t : Tk) (ts : List Tk) : posH (t :: ts) = t.pos := rfl
theorem headT_cons (t : Tk) (ts : List Tk) : headT (t :: ts) = t := rfl
theorem seesH_cons (s : ByteArray) (t : Tk) (ts : List Tk) : seesH s (t :: ts) = seesB t s := rfl
def kindP (k : Int) (ts : List Tk) : Res Tk := if kindH ts = k then .ok (headT ts) (restT ts) else .bad 110 (posH ts)
def needP (s : ByteArray) (ts : List Tk) : Res Unit := if seesH s ts then .ok () ts.tail else .bad 110 (posH ts)
def bytesOf (t : Tk) : ByteArray := ⟨t.text.toArray⟩

def belowP {α : Type} (lv : Nat) (rd : Nat → List Tk → Res α) (ts : List Tk) : Res α := if lv = 300 then .bad 111 (posH ts) else rd (lv + 1) ts
def manyF {α : Type} (b : List Tk → Bool) (rd : List Tk → Res α) : Nat → List Tk → Res (List α)
  | 0, _ => .out
  | m + 1, ts => if b ts then (rd ts).andThen fun a ts' => (manyF b rd m ts').andThen fun l ts'' => .ok (a :: l) ts'' else .ok [] ts
def someF {α : Type} (s : ByteArray) (rd : List Tk → Res α) : Nat → List Tk → Res (List α)
  | 0, _ => .out
  | m + 1, ts => if seesH s ts then (rd ts.tail).andThen fun a ts' => (someF s rd m ts').andThen fun l ts'' => .ok (a :: l) ts'' else .ok [] ts
def manyP {α : Type} (b : List Tk → Bool) (rd : List Tk → Res α) (ts : List Tk) : Res (List α) := manyF b rd (ts.length + 1) ts
def someP {α : Type} (s : ByteArray) (rd : List Tk → Res α) (ts : List Tk) : Res (List α) := (rd ts).andThen fun a ts' => (someF s rd (ts.length + 1) ts').andThen fun l ts'' => .ok (a :: l) ts''

abbrev sLpar : ByteArray := ⟨#[40]⟩
abbrev sRpar : ByteArray := ⟨#[41]⟩
abbrev sArrow : ByteArray := ⟨#[45, 62]⟩
abbrev sUnit : ByteArray := ⟨#[85, 110, 105, 116]⟩
/- types -/
def seesTyP (ts : List Tk) : Bool := kindH ts == 2 || kindH ts == 1 || seesH sLpar ts
def atypeP (T : Nat → List Tk → Res Ty) (lv : Nat) (ts : List Tk) : Res Ty :=
  if kindH ts = 2 then .ok (.mk 3 (bytesOf (headT ts)) 0 []) (restT ts)
  else if kindH ts = 1 then .ok (.mk 1 (bytesOf (headT ts)) 0 []) (restT ts)
  else (needP sLpar ts).andThen fun _ ts1 => if seesH sRpar ts1 then .ok (.mk 3 sUnit 0 []) ts1.tail
    else (T lv ts1).andThen fun t ts2 => (needP sRpar ts2).andThen fun _ ts3 => .ok t ts3
def btypeP (T : Nat → List Tk → Res Ty) (lv : Nat) (ts : List Tk) : Res Ty :=
  if kindH ts = 2 then (manyP seesTyP (atypeP T lv) (restT ts)).andThen fun l ts' => .ok (.mk 3 (bytesOf (headT ts)) 0 l) ts' else atypeP T lv ts
def funcP (T : Nat → List Tk → Res Ty) (lv : Nat) (ts : List Tk) : Res Ty :=
  (btypeP T lv ts).andThen fun t ts1 => if seesH sArrow ts1 then (T lv ts1.tail).andThen fun u ts2 => .ok (.mk 3 sArrow 0 [t, u]) ts2 else .ok t ts1
def typF : Nat → Nat → List Tk → Res Ty
  | 0, _, _ => .out
  | n + 1, lv, ts => belowP lv (funcP (typF n)) ts

/-- The tokens that a parser may have before it. -/
structure Fine (ts : List Tk) : Prop where
  good : ∀ t ∈ ts, t.text.length ≤ 60000 ∧ ok64 t.num ∧ t.pos ≤ 60000
  len : ts.length ≤ 60001
  last : ∃ l e, ts = l ++ [e] ∧ e.kind = 0 ∧ ∀ t ∈ l, t.kind ≠ 0
theorem Fine.ne {ts : List Tk} (h : Fine ts) : ∃ t r, ts = t :: r := by
  obtain ⟨l, e, rfl, _⟩ := h.last
  cases l with
  | nil => exact ⟨e, [], rfl⟩
  | cons a l => exact ⟨a, l ++ [e], rfl⟩
theorem Fine.tail_ {t : Tk} {r : List Tk} (h : Fine (t :: r)) (hk : t.kind ≠ 0) : Fine r := by
  obtain ⟨l, e, he, h0, hl⟩ := h.last
  cases l with
  | nil => simp at he; rw [he.1] at hk; exact absurd h0 hk
  | cons a l =>
    simp only [List.cons_append, List.cons.injEq] at he
    obtain ⟨rfl, rfl⟩ := he
    exact ⟨fun t ht => h.good t (by simp at ht ⊢; exact Or.inr ht), by have := h.len; simp at this ⊢; omega, l, e, rfl, h0, fun t ht => hl t (by simp [ht])⟩
theorem Fine.rest {ts : List Tk} (h : Fine ts) : Fine (restT ts) := by
  obtain ⟨t, r, rfl⟩ := h.ne
  unfold restT
  by_cases hk : t.kind = 0
  · simp only [hk, if_true]; exact h
  · simp only [hk, if_false]; exact h.tail_ hk
theorem Fine.sees {ts : List Tk} {s : ByteArray} (h : Fine ts) (hs : seesH s ts = true) : Fine ts.tail := by
  obtain ⟨t, r, rfl⟩ := h.ne
  exact h.tail_ (seesB_kind hs)

end Go.Proofs.YtiiddmioafhmoaaDoor
end

section
namespace Go.Proofs.YtiiddmioafhmoaaDoor
open Go.RowKit
set_option linter.unusedVariables false

/-- The world without the blocks of X. -/
def mask (X : Nat → Bool) (W : World) : World := { W with heap := W.heap.mapIdx fun i o => if X i then .cells #[] 0 else o }
def lowX (B : Nat) : Nat → Bool := fun k => decide (k < B)
theorem lowX_iff {B k : Nat} : lowX B k = true ↔ k < B := by simp [lowX]
theorem mask_size (X : Nat → Bool) (W : World) : (mask X W).heap.size = W.heap.size := by simp [mask]
theorem mask_heap {X : Nat → Bool} {k : Nat} (W : World) (h : X k = false) : (mask X W).heap[k]? = W.heap[k]? := by
  unfold mask
  simp only [Array.getElem?_mapIdx]
  cases W.heap[k]? with
  | none => rfl
  | some o => simp [h]
theorem mask_dead {X : Nat → Bool} {k : Nat} (W : World) (h : X k = true) (hk : k < W.heap.size) : (mask X W).heap[k]? = some (.cells #[] 0) := by
  unfold mask
  simp only [Array.getElem?_mapIdx]
  rw [Array.getElem?_eq_getElem hk]
  simp [h]
theorem mask_cell {X : Nat → Bool} {W : World} {p : Addr} (h : X p.block = false) : (mask X W).cell? p = W.cell? p := World.cell?_of_block (w := W) (mask_heap W h)
/-- Only blocks of X, or new ones, may have changed. -/
abbrev Low (X : Nat → Bool) (W W' : World) : Prop := Chg (fun k => X k = true) W W'
theorem mask_below {X : Nat → Bool} {W W' : World} (h : Low X W W') : Below W.heap.size (mask X W) (mask X W') := by
  refine ⟨h.os, h.tape, h.output, by rw [mask_size, mask_size]; exact h.size, fun k hk => ?_⟩
  cases hp : X k with
  | true => rw [mask_dead W hp hk, mask_dead W' hp (Nat.lt_of_lt_of_le hk h.size)]
  | false => rw [mask_heap W hp, mask_heap W' hp]; exact h.block k hk (by simp [hp])
theorem mask_none {X : Nat → Bool} {W : World} {p : Addr} {u : Value} (hX : X p.block = true) (h : (mask X W).cell? p = some u) : False := by
  rcases Nat.lt_or_ge p.block W.heap.size with hk | hk
  · simp [World.cell?, mask_dead W hX hk] at h
  · rw [World.cell?, Array.getElem?_eq_none (by rw [mask_size]; exact hk)] at h; cases h
theorem mask_some {X Y : Nat → Bool} {W : World} {p : Addr} {u : Value} (hY : Y p.block = true → X p.block = true) (h : (mask X W).cell? p = some u) : (mask Y W).cell? p = some u := by
  cases hX : X p.block with
  | true => exact (mask_none hX h).elim
  | false =>
    rw [mask_cell hX] at h
    rw [mask_cell (by cases hy : Y p.block with
      | true => rw [hY hy] at hX; cases hX
      | false => rfl)]; exact h
theorem unmask_some {X : Nat → Bool} {W : World} (p : Addr) (u : Value) (h : (mask X W).cell? p = some u) : W.cell? p = some u := by
  cases hX : X p.block with
  | true => exact (mask_none hX h).elim
  | false => rw [mask_cell hX] at h; exact h
theorem mask_blk {X : Nat → Bool} {g : Nat} {W : World} {t : TypeId} {cs : Array Value} (h : Blk W g t cs) (hg : X g = false) : Blk (mask X W) g t cs := (mask_heap W hg).trans h

theorem Reads.imp {w w' : World} {B size n : Nat} {A : Option Addr} {xs : List Value} (h : Reads w B size A n xs) (hk : ∀ p u, p.block < B → w.cell? p = some u → w'.cell? p = some u) : Reads w' B size A n xs :=
  ⟨h.1, fun hn => by obtain ⟨ad, e, hb, hc⟩ := h.2 hn; exact ⟨ad, e, hb, fun j u hu => hk _ _ (by rw [block_of_add]; exact hb) (hc j u hu)⟩⟩
theorem Row.imp {w w' : World} {B size n : Nat} {A : Option Addr} {L : List (List Value)} (h : Row w B size A n L) (hk : ∀ p u, p.block < B → w.cell? p = some u → w'.cell? p = some u) : Row w' B size A n L := ⟨h.len, h.each, h.reads.imp hk⟩
theorem TyAt.imp {w w' : World} {B : Nat} {cs : List Value} {t : Ty} (h : TyAt w B cs t) (hk : ∀ p u, p.block < B → w.cell? p = some u → w'.cell? p = some u) : TyAt w' B cs t := by
  induction h with
  | mk a b c d e g hr _ ih => exact .mk a b c d e g (hr.imp hk) ih
theorem PtAt.imp {w w' : World} {B : Nat} {cs : List Value} {t : Pt} (h : PtAt w B cs t) (hk : ∀ p u, p.block < B → w.cell? p = some u → w'.cell? p = some u) : PtAt w' B cs t := by
  induction h with
  | mk a b c d e q g hr _ ih => exact .mk a b c d e q g (hr.imp hk) ih
theorem ExAt.imp {w w' : World} {B : Nat} {cs : List Value} {t : Ex} (h : ExAt w B cs t) (hk : ∀ p u, p.block < B → w.cell? p = some u → w'.cell? p = some u) : ExAt w' B cs t :=
  ExAt.rec (motive_1 := fun cs t _ => ExAt w' B cs t) (motive_2 := fun cs a _ => AlAt w' B cs a) (motive_3 := fun cs b _ => BdAt w' B cs b)
    (fun a b c d ht e f g i j k b1 b2 b3 hr _ hra _ hrb _ ih iha ihb => .mk a b c d (ht.imp hk) e f g i j k b1 b2 b3 (hr.imp hk) ih (hra.imp hk) iha (hrb.imp hk) ihb)
    (fun hp _ ih => .mk (hp.imp hk) ih) (fun hs _ hq ih => .mk hs ih hq) h

/-- A way of reading cells that memory beside X bears. -/
structure Rd (α : Type) where
  at_ : World → Nat → List Value → α → Prop
  imp : ∀ {w w' : World} {B : Nat} {cs : List Value} {a : α}, at_ w B cs a → (∀ p u, p.block < B → w.cell? p = some u → w'.cell? p = some u) → at_ w' B cs a
  more : ∀ {w : World} {B B' : Nat} {cs : List Value} {a : α}, at_ w B cs a → B ≤ B' → at_ w B' cs a
def Rd.M {α : Type} (R : Rd α) (X : Nat → Bool) (W : World) (cs : List Value) (a : α) : Prop := R.at_ (mask X W) W.heap.size cs a
theorem Rd.M.later {α : Type} {R : Rd α} {X : Nat → Bool} {W W' : World} {cs : List Value} {a : α} (h : R.M X W cs a) (hp : Low X W W') : R.M X W' cs a :=
  R.more (R.imp h fun p u hb hc => ((mask_below hp).cell hb).trans hc) hp.size
theorem Rd.M.weaken {α : Type} {R : Rd α} {X Y : Nat → Bool} {W : World} {cs : List Value} {a : α} (h : R.M X W cs a) (hY : ∀ k, k < W.heap.size → Y k = true → X k = true) : R.M Y W cs a :=
  R.imp h fun p u hb hc => mask_some (hY _ hb) hc
theorem Rd.M.wk {α : Type} {R : Rd α} {B B' : Nat} {W : World} {cs : List Value} {a : α} (h : R.M (lowX B) W cs a) (hB : B' ≤ B) : R.M (lowX B') W cs a :=
  h.weaken fun k _ hk => by rw [lowX_iff] at hk ⊢; omega
def rTy : Rd Ty := ⟨TyAt, fun h hk => TyAt.imp h hk, fun h hB => h.more hB⟩
def rPt : Rd Pt := ⟨PtAt, fun h hk => PtAt.imp h hk, fun h hB => h.more hB⟩
def rEx : Rd Ex := ⟨ExAt, fun h hk => ExAt.imp h hk, fun h hB => h.more hB⟩
abbrev TyM := rTy.M
theorem Low.of_par {pb B : Nat} {W W' : World} (h : Par pb W W') (hB : pb < B) : Low (lowX B) W W' := h.mono fun k _ hk => by subst hk; exact lowX_iff.2 hB
theorem Low.of_below {X : Nat → Bool} {W W' : World} (h : Below W.heap.size W W') : Low X W W' := Chg.of_old h
theorem Low.set_ {X : Nat → Bool} {W w : World} {p : Addr} (h : Low X W w) (hp : X p.block = true ∨ W.heap.size ≤ p.block) (u : Value) : Low X W (w.setCell p u) :=
  ⟨h.os, h.tape, h.output, Nat.le_trans h.size (by simp [World.setCell]), fun k hk hx => (Below.heap_setCell w p u k (by rintro rfl; rcases hp with h1 | h1; exact hx h1; omega)).trans (h.block k hk hx)⟩
theorem Low.four {X : Nat → Bool} {g : Nat} {W w : World} (h : Low X W w) (hg : X g = true ∨ W.heap.size ≤ g) (y0 y1 y2 y3 : Value) :
    Low X W ((((w.setCell ⟨g, 0, none⟩ y0).setCell ⟨g, 1, none⟩ y1).setCell ⟨g, 2, none⟩ y2).setCell ⟨g, 3, none⟩ y3) :=
  (((h.set_ (p := ⟨g, 0, none⟩) hg y0).set_ (p := ⟨g, 1, none⟩) hg y1).set_ (p := ⟨g, 2, none⟩) hg y2).set_ (p := ⟨g, 3, none⟩) hg y3
theorem lowX_self (B : Nat) : lowX (B + 1) B = true := lowX_iff.2 (Nat.lt_succ_self _)
/-- A reader's elements, in a row. -/
structure RowM {α : Type} (R : Rd α) (size : Nat) (X : Nat → Bool) (W : World) (A : Option Addr) (ks : List α) : Prop where
  ex : ∃ L, Row (mask X W) W.heap.size size A ks.length L ∧ ∀ i (h1 : i < L.length) (h2 : i < ks.length), R.M X W L[i] ks[i]
theorem RowM.later {α : Type} {R : Rd α} {size : Nat} {X : Nat → Bool} {W W' : World} {A : Option Addr} {ks : List α} (h : RowM R size X W A ks) (hp : Low X W W') : RowM R size X W' A ks := by
  obtain ⟨L, h1, h2⟩ := h.ex
  exact ⟨L, (h1.imp fun p u hb hc => ((mask_below hp).cell hb).trans hc).more hp.size, fun i k1 k2 => (h2 i k1 k2).later hp⟩
theorem RowM.weaken {α : Type} {R : Rd α} {size : Nat} {X Y : Nat → Bool} {W : World} {A : Option Addr} {ks : List α} (h : RowM R size X W A ks) (hY : ∀ k, k < W.heap.size → Y k = true → X k = true) : RowM R size Y W A ks := by
  obtain ⟨L, h1, h2⟩ := h.ex
  exact ⟨L, h1.imp fun p u hb hc => mask_some (hY _ hb) hc, fun i k1 k2 => (h2 i k1 k2).weaken hY⟩
/-- A whole block as a row. -/
theorem row_blkM {X : Nat → Bool} {W : World} {g n size : Nat} {t : TypeId} {L : List (List Value)} (hb : Blk W g t L.flatten.toArray) (hX : X g = false) (hl : L.length = n) (he : ∀ l ∈ L, l.length = size) : Row (mask X W) W.heap.size size (some ⟨g, 0, none⟩) n L := by
  refine ⟨hl, he, ?_, fun _ => ⟨_, rfl, hb.lt, fun j u hu => ?_⟩⟩
  · have : ∀ (L : List (List Value)), (∀ l ∈ L, l.length = size) → L.flatten.length = L.length * size := by
      intro L
      induction L with
      | nil => intro _; simp
      | cons a L ih => intro h; rw [List.flatten_cons, List.length_append, ih (fun l hl => h l (by simp [hl])), h a (by simp), List.length_cons, Nat.succ_mul]; omega
    rw [this L he, hl]
  · rw [add_flat, Nat.zero_add, (mask_blk hb hX).cell j]
    simpa using hu
theorem ok_lit (n : Int) (h : -9223372036854775808 ≤ n) (h2 : n ≤ 9223372036854775807) : ok64 n := by
  unfold ok64; simp [Lit.wf, IntKind.min, IntKind.max, IntKind.signed, IntKind.bits]; omega
theorem TyM.mk_ {X : Nat → Bool} {W : World} {k : Int} {nm : ByteArray} {A : Option Addr} {c : Nat} {ks : List Ty} (hk : ok64 k) (hs : nm.size ≤ 60000) (hc : ks.length ≤ c) (hm : c ≤ maxLen) (hb : ks.length ≤ 60001) (hr : RowM rTy 4 X W A ks) :
    TyM X W [.int .i64 k, .string nm, .int .i64 0, .slice A ks.length c] (.mk k nm 0 ks) := by
  obtain ⟨L, h1, h2⟩ := hr.ex
  exact TyAt.mk hk (by unfold maxLen; omega) (ok_lit _ (by omega) (by omega)) hc hm (by omega) h1 h2
theorem RowM.nil_ {α : Type} (R : Rd α) (size : Nat) (X : Nat → Bool) (W : World) : RowM R size X W none [] := ⟨[], ⟨rfl, fun l h => by simp at h, Reads.none_⟩, fun i h => by simp at h⟩
/-- A type of no parts. -/
theorem TyM.leaf (X : Nat → Bool) (W : World) (k : Int) (nm : ByteArray) (hk : ok64 k) (hs : nm.size ≤ 60000) : TyM X W [.int .i64 k, .string nm, .int .i64 0, .slice none 0 0] (.mk k nm 0 []) :=
  TyM.mk_ (ks := []) hk hs (by simp) (by simp [maxLen]) (by simp) (RowM.nil_ _ _ _ _)

theorem ty_form {w : World} {B : Nat} {cs : List Value} {t : Ty} (h : TyAt w B cs t) : ∃ k nm n A q c, cs = [.int .i64 k, .string nm, .int .i64 n, .slice A q c] := by
  cases h; exact ⟨_, _, _, _, _, _, rfl⟩
theorem Fine.more {t : Tk} {ts : List Tk} (h : Fine (t :: ts)) (hk : t.kind ≠ 0) : ∃ u r, ts = u :: r := (h.tail_ hk).ne
/-- What a function that reads a thing answers. -/
def PaPost {α : Type} (pb lv n : Nat) (R : Rd α) (r : Res α) (W : World) (e : Ending) (W' : World) : Prop :=
  Par pb W W' ∧ match r with
  | .ok a ts => (∃ cs : List Value, cs.length = n ∧ e = .returned (.agg cs.toArray) ∧ R.M (lowX W.heap.size) W' cs a) ∧ PsAt W' pb ts lv ∧ Fine ts
  | .bad c p => e = diagE c p
  | .out => True

/-- What a function that reads things of a kind, one behind the other, answers. -/
def RowPost {α : Type} (pb lv n : Nat) (R : Rd α) (r : Res (List α)) (W : World) (e : Ending) (W' : World) : Prop :=
  Par pb W W' ∧ match r with
  | .ok l ts => (∃ A c, e = .returned (.slice A l.length c) ∧ l.length ≤ c ∧ c ≤ maxLen ∧ l.length ≤ 60001 ∧ RowM R n (lowX W.heap.size) W' A l) ∧ PsAt W' pb ts lv ∧ Fine ts
  | .bad c p => e = diagE c p
  | .out => True

end Go.Proofs.YtiiddmioafhmoaaDoor
end
