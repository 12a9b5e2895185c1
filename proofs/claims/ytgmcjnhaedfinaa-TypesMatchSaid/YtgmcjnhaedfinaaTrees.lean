/- Types, patterns and expressions as trees, and how they lie in memory: a struct's value is its flat cells; a slice is a row of such cells. -/
import Derived.Test.YtgmcjnhaedfinaaReads
namespace Go.Proofs.Ytgmcjnhaedfinaa
open Go.RowKit
set_option linter.unusedVariables false

inductive Ty where
  | mk (k : Int) (nm : ByteArray) (n : Int) (ks : List Ty)
inductive Pt where
  | mk (k : Int) (nm : ByteArray) (n : Int) (ks : List Pt) (pos : Int)
mutual
inductive Ex where
  | mk (k : Int) (nm : ByteArray) (n : Int) (t : Ty) (ks : List Ex) (als : List Al) (bs : List Bd) (pos : Int)
inductive Al where
  | mk (p : Pt) (e : Ex)
inductive Bd where
  | mk (nm : ByteArray) (e : Ex) (pos : Int)
end

/-- Rows of flat cells: each element 'size' cells. -/
structure Row (w : World) (B size : Nat) (A : Option Addr) (n : Nat) (L : List (List Value)) : Prop where
  len : L.length = n
  each : ∀ l ∈ L, l.length = size
  reads : Reads w B size A n L.flatten

def ok64 (n : Int) : Prop := (Lit.int .i64 n).wf = true

inductive TyAt (w : World) (B : Nat) : List Value → Ty → Prop
  | mk {k n : Int} {nm : ByteArray} {A : Option Addr} {c : Nat} {ks : List Ty} {L : List (List Value)} (hk : ok64 k) (hs : nm.size ≤ maxLen) (hn : ok64 n) (hc : ks.length ≤ c) (hm : c ≤ maxLen)
      (hb : ks.length * 56 ≤ 140737488351232) (hr : Row w B 4 A ks.length L) (hks : ∀ i (h1 : i < L.length) (h2 : i < ks.length), TyAt w B L[i] ks[i]) :
      TyAt w B [.int .i64 k, .string nm, .int .i64 n, .slice A ks.length c] (.mk k nm n ks)
inductive PtAt (w : World) (B : Nat) : List Value → Pt → Prop
  | mk {k n q : Int} {nm : ByteArray} {A : Option Addr} {c : Nat} {ks : List Pt} {L : List (List Value)} (hk : ok64 k) (hs : nm.size ≤ maxLen) (hn : ok64 n) (hc : ks.length ≤ c) (hm : c ≤ maxLen) (hq : ok64 q)
      (hb : ks.length * 64 ≤ 140737488351232) (hr : Row w B 5 A ks.length L) (hks : ∀ i (h1 : i < L.length) (h2 : i < ks.length), PtAt w B L[i] ks[i]) :
      PtAt w B [.int .i64 k, .string nm, .int .i64 n, .slice A ks.length c, .int .i64 q] (.mk k nm n ks q)
mutual
inductive ExAt (w : World) (B : Nat) : List Value → Ex → Prop
  | mk {k n q : Int} {nm : ByteArray} {t : Ty} {T : List Value} {A Aa Ab : Option Addr} {c ca cb : Nat} {ks : List Ex} {als : List Al} {bs : List Bd} {L La Lb : List (List Value)} (hk : ok64 k) (hs : nm.size ≤ maxLen) (hn : ok64 n) (hq : ok64 q)
      (ht : TyAt w B T t) (hc : ks.length ≤ c) (hm : c ≤ maxLen) (hca : als.length ≤ ca) (hma : ca ≤ maxLen) (hcb : bs.length ≤ cb) (hmb : cb ≤ maxLen)
      (hb : ks.length * 168 ≤ 140737488351232) (hba : als.length * 232 ≤ 140737488351232) (hbb : bs.length * 192 ≤ 140737488351232)
      (hr : Row w B 11 A ks.length L) (hks : ∀ i (h1 : i < L.length) (h2 : i < ks.length), ExAt w B L[i] ks[i])
      (hra : Row w B 16 Aa als.length La) (hals : ∀ i (h1 : i < La.length) (h2 : i < als.length), AlAt w B La[i] als[i])
      (hrb : Row w B 13 Ab bs.length Lb) (hbs : ∀ i (h1 : i < Lb.length) (h2 : i < bs.length), BdAt w B Lb[i] bs[i]) :
      ExAt w B ([.int .i64 k, .string nm, .int .i64 n] ++ T ++ [.slice A ks.length c, .slice Aa als.length ca, .slice Ab bs.length cb, .int .i64 q]) (.mk k nm n t ks als bs q)
inductive AlAt (w : World) (B : Nat) : List Value → Al → Prop
  | mk {p : Pt} {e : Ex} {P E : List Value} (hp : PtAt w B P p) (he : ExAt w B E e) : AlAt w B (P ++ E) (.mk p e)
inductive BdAt (w : World) (B : Nat) : List Value → Bd → Prop
  | mk {nm : ByteArray} {e : Ex} {q : Int} {E : List Value} (hs : nm.size ≤ maxLen) (he : ExAt w B E e) (hq : ok64 q) : BdAt w B ([.string nm] ++ E ++ [.int .i64 q]) (.mk nm e q)
end

theorem Row.keep {w w' : World} {B size n : Nat} {A : Option Addr} {L : List (List Value)} (h : Row w B size A n L) (hk : ∀ p : Addr, p.block < B → w'.cell? p = w.cell? p) : Row w' B size A n L := ⟨h.len, h.each, h.reads.keep hk⟩
theorem Row.more {w : World} {B B' size n : Nat} {A : Option Addr} {L : List (List Value)} (h : Row w B size A n L) (hB : B ≤ B') : Row w B' size A n L := ⟨h.len, h.each, h.reads.more hB⟩
theorem flat_at {size : Nat} : ∀ (L : List (List Value)), (∀ l ∈ L, l.length = size) → ∀ i j u, (hi : i < L.length) → L[i][j]? = some u → L.flatten[i * size + j]? = some u
  | [], _, i, j, u, hi, h => by simp at hi
  | l :: L, hl, 0, j, u, hi, h => by
    have hj : j < l.length := by have := (List.getElem?_eq_some_iff.1 h).1; simpa using this
    simp only [List.flatten_cons, Nat.zero_mul, Nat.zero_add]
    rw [List.getElem?_append_left hj]
    simpa using h
  | l :: L, hl, i + 1, j, u, hi, h => by
    have e := hl l (by simp)
    have hi' : i < L.length := by simpa using hi
    simp only [List.flatten_cons]
    rw [List.getElem?_append_right (by rw [e, Nat.succ_mul]; omega), e, show (i + 1) * size + j - size = i * size + j by rw [Nat.succ_mul]; omega]
    exact flat_at L (fun l' h' => hl l' (by simp [h'])) i j u hi' (by simpa using h)
theorem Row.at_ {w : World} {B size n : Nat} {A : Option Addr} {L : List (List Value)} (h : Row w B size A n L) {i : Nat} (hi : i < n) :
    ∃ ad, A = some ad ∧ ad.block < B ∧ ∃ hl : i < L.length, L[i].length = size ∧ ∀ j u, L[i][j]? = some u → w.cell? (ad.add (i * size + j)) = some u := by
  obtain ⟨ad, e, hb, hc⟩ := h.reads.2 (by omega)
  have hl : i < L.length := by rw [h.len]; exact hi
  exact ⟨ad, e, hb, hl, h.each _ (List.getElem_mem _), fun j u hu => hc _ u (flat_at L h.each i j u hl hu)⟩

theorem four_of {l : List Value} (h : l.length = 4) : ∃ c0 c1 c2 c3, l = [c0, c1, c2, c3] := by
  match l, h with
  | [c0, c1, c2, c3], _ => exact ⟨c0, c1, c2, c3, rfl⟩
theorem five_of {l : List Value} (h : l.length = 5) : ∃ c0 c1 c2 c3 c4, l = [c0, c1, c2, c3, c4] := by
  match l, h with
  | [c0, c1, c2, c3, c4], _ => exact ⟨c0, c1, c2, c3, c4, rfl⟩
theorem eleven_of {l : List Value} (h : l.length = 11) : ∃ c0 c1 c2 c3 c4 c5 c6 c7 c8 c9 c10, l = [c0, c1, c2, c3, c4, c5, c6, c7, c8, c9, c10] := by
  match l, h with
  | [c0, c1, c2, c3, c4, c5, c6, c7, c8, c9, c10], _ => exact ⟨c0, c1, c2, c3, c4, c5, c6, c7, c8, c9, c10, rfl⟩
theorem spot_of {w : World} {a : Addr} {u : Value} (h : w.cell? a = some u) : a = ⟨a.block, a.off, none⟩ := by
  obtain ⟨b, o, s⟩ := a
  cases s with
  | none => rfl
  | some x =>
    exfalso
    unfold World.cell? at h
    split at h <;> simp at h
theorem add_flat (g o j : Nat) : (⟨g, o, none⟩ : Addr).add j = ⟨g, o + j, none⟩ := by
  unfold Addr.add
  by_cases h : j = 0
  · subst h; rfl
  · rw [if_neg h]
/-- An element's cells, by block and offset. -/
theorem Row.cells {w : World} {B size n : Nat} {A : Option Addr} {L : List (List Value)} (h : Row w B size A n L) (hs : 0 < size) {i : Nat} (hi : i < n) :
    ∃ g o, A = some ⟨g, o, none⟩ ∧ g < B ∧ ∃ hl : i < L.length, L[i].length = size ∧ ∀ j u, L[i][j]? = some u → w.cell? ⟨g, o + i * size + j, none⟩ = some u := by
  obtain ⟨ad, e, hb, hl, h4, hc⟩ := h.at_ hi
  have h0 := (h.at_ (show 0 < n by omega))
  obtain ⟨ad', e', _, hl0, h40, hc0⟩ := h0
  have e2 : ad' = ad := by rw [e] at e'; injection e' with e'; exact e'.symm
  subst e2
  have hlen : 0 < L[0].length := by omega
  have hc00 := hc0 0 _ (List.getElem?_eq_getElem hlen)
  have hs0 := spot_of hc00
  have hb0 : ad' = ⟨ad'.block, ad'.off, none⟩ := by simpa [Addr.add] using hs0
  refine ⟨ad'.block, ad'.off, by rw [e, ← hb0], hb, hl, h4, fun j u hu => ?_⟩
  have := hc j u hu
  rw [hb0, add_flat, ← Nat.add_assoc] at this
  exact this

theorem TyAt.keep {w w' : World} {B : Nat} {cs : List Value} {t : Ty} (h : TyAt w B cs t) (hk : ∀ p : Addr, p.block < B → w'.cell? p = w.cell? p) : TyAt w' B cs t := by
  induction h with
  | mk a b c d e g hr _ ih => exact .mk a b c d e g (hr.keep hk) ih
theorem PtAt.keep {w w' : World} {B : Nat} {cs : List Value} {t : Pt} (h : PtAt w B cs t) (hk : ∀ p : Addr, p.block < B → w'.cell? p = w.cell? p) : PtAt w' B cs t := by
  induction h with
  | mk a b c d e q g hr _ ih => exact .mk a b c d e q g (hr.keep hk) ih
theorem TyAt.more {w : World} {B B' : Nat} {cs : List Value} {t : Ty} (h : TyAt w B cs t) (hB : B ≤ B') : TyAt w B' cs t := by
  induction h with
  | mk a b c d e g hr _ ih => exact .mk a b c d e g (hr.more hB) ih
theorem PtAt.more {w : World} {B B' : Nat} {cs : List Value} {t : Pt} (h : PtAt w B cs t) (hB : B ≤ B') : PtAt w B' cs t := by
  induction h with
  | mk a b c d e q g hr _ ih => exact .mk a b c d e q g (hr.more hB) ih
theorem ExAt.keep {w w' : World} {B : Nat} {cs : List Value} {t : Ex} (h : ExAt w B cs t) (hk : ∀ p : Addr, p.block < B → w'.cell? p = w.cell? p) : ExAt w' B cs t :=
  ExAt.rec (motive_1 := fun cs t _ => ExAt w' B cs t) (motive_2 := fun cs a _ => AlAt w' B cs a) (motive_3 := fun cs b _ => BdAt w' B cs b)
    (fun a b c d ht e f g i j k b1 b2 b3 hr _ hra _ hrb _ ih iha ihb => .mk a b c d (ht.keep hk) e f g i j k b1 b2 b3 (hr.keep hk) ih (hra.keep hk) iha (hrb.keep hk) ihb)
    (fun hp _ ih => .mk (hp.keep hk) ih) (fun hs _ hq ih => .mk hs ih hq) h
theorem ExAt.more {w : World} {B B' : Nat} {cs : List Value} {t : Ex} (h : ExAt w B cs t) (hB : B ≤ B') : ExAt w B' cs t :=
  ExAt.rec (motive_1 := fun cs t _ => ExAt w B' cs t) (motive_2 := fun cs a _ => AlAt w B' cs a) (motive_3 := fun cs b _ => BdAt w B' cs b)
    (fun a b c d ht e f g i j k b1 b2 b3 hr _ hra _ hrb _ ih iha ihb => .mk a b c d (ht.more hB) e f g i j k b1 b2 b3 (hr.more hB) ih (hra.more hB) iha (hrb.more hB) ihb)
    (fun hp _ ih => .mk (hp.more hB) ih) (fun hs _ hq ih => .mk hs ih hq) h
theorem TyAt.later {w w' : World} {B : Nat} {cs : List Value} {t : Ty} (h : TyAt w B cs t) (hb : Below B w w') : TyAt w' B cs t := h.keep fun _ hp => hb.cell hp
theorem PtAt.later {w w' : World} {B : Nat} {cs : List Value} {t : Pt} (h : PtAt w B cs t) (hb : Below B w w') : PtAt w' B cs t := h.keep fun _ hp => hb.cell hp
theorem ExAt.later {w w' : World} {B : Nat} {cs : List Value} {t : Ex} (h : ExAt w B cs t) (hb : Below B w w') : ExAt w' B cs t := h.keep fun _ hp => hb.cell hp

theorem AlAt.later {w w' : World} {B : Nat} {cs : List Value} {a : Al} (h : AlAt w B cs a) (hb : Below B w w') : AlAt w' B cs a := by
  cases h with
  | mk hp he => exact .mk (hp.later hb) (he.later hb)
theorem BdAt.later {w w' : World} {B : Nat} {cs : List Value} {a : Bd} (h : BdAt w B cs a) (hb : Below B w w') : BdAt w' B cs a := by
  cases h with
  | mk hs he hq => exact .mk hs (he.later hb) hq

mutual
/-- How many nodes, the own one too. -/
def Ty.nodes : Ty → Nat
  | .mk _ _ _ ks => 1 + tysNodes ks
def tysNodes : List Ty → Nat
  | [] => 0
  | t :: ts => Ty.nodes t + tysNodes ts
end
mutual
def Pt.nodes : Pt → Nat
  | .mk _ _ _ ks _ => 1 + ptsNodes ks
def ptsNodes : List Pt → Nat
  | [] => 0
  | t :: ts => Pt.nodes t + ptsNodes ts
end
mutual
def Ex.nodes : Ex → Nat
  | .mk _ _ _ _ ks als bs _ => 1 + exsNodes ks + alsNodes als + bdsNodes bs
def exsNodes : List Ex → Nat
  | [] => 0
  | t :: ts => Ex.nodes t + exsNodes ts
def Al.nodes : Al → Nat
  | .mk _ e => 1 + Ex.nodes e
def alsNodes : List Al → Nat
  | [] => 0
  | t :: ts => Al.nodes t + alsNodes ts
def Bd.nodes : Bd → Nat
  | .mk _ e _ => 1 + Ex.nodes e
def bdsNodes : List Bd → Nat
  | [] => 0
  | t :: ts => Bd.nodes t + bdsNodes ts
end
mutual
/-- Equality of types. -/
def tySame : Ty → Ty → Bool
  | .mk k nm n ks, .mk k' nm' n' ks' => k == k' && (nm.data.toList == nm'.data.toList && (n == n' && (ks.length == ks'.length && tysSame ks ks')))
def tysSame : List Ty → List Ty → Bool
  | [], _ => true
  | t :: ts, [] => true
  | t :: ts, u :: us => tySame t u && tysSame ts us
end
theorem tys_mem : ∀ (l : List Ty) (t : Ty), t ∈ l → t.nodes ≤ tysNodes l
  | [], t, h => by simp at h
  | u :: us, t, h => by
    rw [List.mem_cons] at h
    unfold tysNodes
    rcases h with rfl | h
    · omega
    · have := tys_mem us t h; omega

end Go.Proofs.Ytgmcjnhaedfinaa
