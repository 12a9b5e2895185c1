/- Declarations and programs as trees, and how they lie in memory; their equality. -/
import Derived.Test.YtglamoiimmahgaaPls
import Derived.Test.YtglamoiimmahgaaTexts
import Derived.Test.YtglamoiimmahgaaSames
namespace Go.Proofs.Ytglamoiimmahgaa
open Go.RowKit
set_option linter.unusedVariables false

structure Co where
  nm : ByteArray
  ks : List Ty
structure Me where
  nm : ByteArray
  t : Ty
structure Da where
  nm : ByteArray
  ps : List ByteArray
  cs : List Co
  ds : List ByteArray
structure Cl where
  nm : ByteArray
  vr : ByteArray
  sp : List ByteArray
  ms : List Me
  bs : List Bd
structure Ins where
  nm : ByteArray
  t : Ty
  ps : List Me
  bs : List Bd
structure Pg where
  ds : List Da
  cs : List Cl
  is : List Ins
  bs : List Bd

/-- A row, each element read. -/
structure RowOf {α : Type} (w : World) (B size : Nat) (R : List Value → α → Prop) (A : Option Addr) (ks : List α) : Prop where
  ex : ∃ L, Row w B size A ks.length L ∧ ∀ i (h1 : i < L.length) (h2 : i < ks.length), R L[i] ks[i]
inductive CoAt (w : World) (B : Nat) : List Value → Co → Prop
  | mk {nm : ByteArray} {A : Option Addr} {c : Nat} {ks : List Ty} {q : Int} (hc : ks.length ≤ c) (hm : c ≤ maxLen) (hr : RowOf w B 4 (TyAt w B) A ks) : CoAt w B [.string nm, .slice A ks.length c, .int .i64 q] ⟨nm, ks⟩
inductive MeAt (w : World) (B : Nat) : List Value → Me → Prop
  | mk {nm : ByteArray} {t : Ty} {T : List Value} {q : Int} (ht : TyAt w B T t) : MeAt w B ([.string nm] ++ T ++ [.int .i64 q]) ⟨nm, t⟩
inductive PrAt (w : World) (B : Nat) : List Value → Me → Prop
  | mk {nm : ByteArray} {t : Ty} {T : List Value} (ht : TyAt w B T t) : PrAt w B ([.string nm] ++ T) ⟨nm, t⟩
inductive DaAt (w : World) (B : Nat) : List Value → Da → Prop
  | mk {nm : ByteArray} {A Ac Ad : Option Addr} {c cc cd : Nat} {ps ds : List ByteArray} {cs : List Co} {q : Int} (h1 : ps.length ≤ maxLen) (h2 : cs.length ≤ maxLen) (h3 : ds.length ≤ maxLen)
      (hp : Reads w B 1 A ps.length (nmVals ps)) (hc : RowOf w B 3 (CoAt w B) Ac cs) (hd : Reads w B 1 Ad ds.length (nmVals ds)) :
      DaAt w B [.string nm, .slice A ps.length c, .slice Ac cs.length cc, .slice Ad ds.length cd, .int .i64 q] ⟨nm, ps, cs, ds⟩
inductive ClAt (w : World) (B : Nat) : List Value → Cl → Prop
  | mk {nm vr : ByteArray} {A Am Ab : Option Addr} {c cm cb : Nat} {sp : List ByteArray} {ms : List Me} {bs : List Bd} {q : Int} (h1 : sp.length ≤ maxLen) (h2 : ms.length ≤ maxLen) (h3 : bs.length ≤ maxLen)
      (hs : Reads w B 1 A sp.length (nmVals sp)) (hm : RowOf w B 6 (MeAt w B) Am ms) (hb : RowOf w B 13 (BdAt w B) Ab bs) :
      ClAt w B [.string nm, .string vr, .slice A sp.length c, .slice Am ms.length cm, .slice Ab bs.length cb, .int .i64 q] ⟨nm, vr, sp, ms, bs⟩
inductive InAt (w : World) (B : Nat) : List Value → Ins → Prop
  | mk {nm : ByteArray} {t : Ty} {T : List Value} {A Ab : Option Addr} {c cb : Nat} {ps : List Me} {bs : List Bd} {q : Int} (h1 : ps.length ≤ maxLen) (h2 : bs.length ≤ maxLen)
      (ht : TyAt w B T t) (hp : RowOf w B 5 (PrAt w B) A ps) (hb : RowOf w B 13 (BdAt w B) Ab bs) :
      InAt w B ([.string nm] ++ T ++ [.slice A ps.length c, .slice Ab bs.length cb, .int .i64 q]) ⟨nm, t, ps, bs⟩
inductive PgAt (w : World) (B : Nat) : List Value → Pg → Prop
  | mk {A Ac Ai Ab : Option Addr} {c cc ci cb : Nat} {ds : List Da} {cs : List Cl} {is : List Ins} {bs : List Bd} (h1 : ds.length ≤ maxLen) (h2 : cs.length ≤ maxLen) (h3 : is.length ≤ maxLen) (h4 : bs.length ≤ maxLen)
      (hd : RowOf w B 5 (DaAt w B) A ds) (hc : RowOf w B 6 (ClAt w B) Ac cs) (hi : RowOf w B 8 (InAt w B) Ai is) (hb : RowOf w B 13 (BdAt w B) Ab bs) :
      PgAt w B [.slice A ds.length c, .slice Ac cs.length cc, .slice Ai is.length ci, .slice Ab bs.length cb] ⟨ds, cs, is, bs⟩

theorem RowOf.later {α : Type} {w w' : World} {B size : Nat} {R : World → List Value → α → Prop} {A : Option Addr} {ks : List α} (h : RowOf w B size (R w) A ks) (hb : Below B w w') (hR : ∀ cs k, R w cs k → R w' cs k) : RowOf w' B size (R w') A ks := by
  obtain ⟨L, hr, hk⟩ := h.ex
  exact ⟨L, hr.keep fun _ hp => hb.cell hp, fun i h1 h2 => hR _ _ (hk i h1 h2)⟩
theorem CoAt.later {w w' : World} {B : Nat} {cs : List Value} {x : Co} (h : CoAt w B cs x) (hb : Below B w w') : CoAt w' B cs x := by
  cases h with
  | mk hc hm hr => exact .mk hc hm (RowOf.later (R := fun w => TyAt w B) hr hb fun _ _ h => h.later hb)
theorem MeAt.later {w w' : World} {B : Nat} {cs : List Value} {x : Me} (h : MeAt w B cs x) (hb : Below B w w') : MeAt w' B cs x := by
  cases h with
  | mk ht => exact .mk (ht.later hb)
theorem PrAt.later {w w' : World} {B : Nat} {cs : List Value} {x : Me} (h : PrAt w B cs x) (hb : Below B w w') : PrAt w' B cs x := by
  cases h with
  | mk ht => exact .mk (ht.later hb)
theorem DaAt.later {w w' : World} {B : Nat} {cs : List Value} {x : Da} (h : DaAt w B cs x) (hb : Below B w w') : DaAt w' B cs x := by
  cases h with
  | mk h1 h2 h3 hp hc hd => exact .mk h1 h2 h3 (hp.below hb) (RowOf.later (R := fun w => CoAt w B) hc hb fun _ _ h => h.later hb) (hd.below hb)
theorem ClAt.later {w w' : World} {B : Nat} {cs : List Value} {x : Cl} (h : ClAt w B cs x) (hb : Below B w w') : ClAt w' B cs x := by
  cases h with
  | mk h1 h2 h3 hs hm hbd => exact .mk h1 h2 h3 (hs.below hb) (RowOf.later (R := fun w => MeAt w B) hm hb fun _ _ h => h.later hb) (RowOf.later (R := fun w => BdAt w B) hbd hb fun _ _ h => BdAt.later h hb)
theorem InAt.later {w w' : World} {B : Nat} {cs : List Value} {x : Ins} (h : InAt w B cs x) (hb : Below B w w') : InAt w' B cs x := by
  cases h with
  | mk h1 h2 ht hp hbd => exact .mk h1 h2 (ht.later hb) (RowOf.later (R := fun w => PrAt w B) hp hb fun _ _ h => h.later hb) (RowOf.later (R := fun w => BdAt w B) hbd hb fun _ _ h => BdAt.later h hb)
theorem PgAt.later {w w' : World} {B : Nat} {cs : List Value} {x : Pg} (h : PgAt w B cs x) (hb : Below B w w') : PgAt w' B cs x := by
  cases h with
  | mk h1 h2 h3 h4 hd hc hi hbd => exact .mk h1 h2 h3 h4 (RowOf.later (R := fun w => DaAt w B) hd hb fun _ _ h => h.later hb) (RowOf.later (R := fun w => ClAt w B) hc hb fun _ _ h => h.later hb) (RowOf.later (R := fun w => InAt w B) hi hb fun _ _ h => h.later hb) (RowOf.later (R := fun w => BdAt w B) hbd hb fun _ _ h => BdAt.later h hb)

theorem TyAt.four {w : World} {B : Nat} {cs : List Value} {t : Ty} (h : TyAt w B cs t) : cs.length = 4 := by cases h; rfl
theorem co_ones {w : World} {B : Nat} {cs : List Value} {t : Co} (h : CoAt w B cs t) : ∀ u ∈ cs, u.oneCell' = true := by
  cases h with
  | mk => intro u hu; simp only [List.mem_cons, List.not_mem_nil, or_false] at hu; rcases hu with rfl | rfl | rfl <;> rfl
theorem me_ones {w : World} {B : Nat} {cs : List Value} {t : Me} (h : MeAt w B cs t) : ∀ u ∈ cs, u.oneCell' = true := by
  cases h with
  | mk ht =>
    intro u hu
    simp only [List.mem_append, List.mem_cons, List.not_mem_nil, or_false] at hu
    rcases hu with (rfl | hu) | rfl
    · rfl
    · exact ty_ones ht u hu
    · rfl
theorem pr_ones {w : World} {B : Nat} {cs : List Value} {t : Me} (h : PrAt w B cs t) : ∀ u ∈ cs, u.oneCell' = true := by
  cases h with
  | mk ht =>
    intro u hu
    simp only [List.mem_append, List.mem_cons, List.not_mem_nil, or_false] at hu
    rcases hu with rfl | hu
    · rfl
    · exact ty_ones ht u hu
theorem da_ones {w : World} {B : Nat} {cs : List Value} {t : Da} (h : DaAt w B cs t) : ∀ u ∈ cs, u.oneCell' = true := by
  cases h with
  | mk => intro u hu; simp only [List.mem_cons, List.not_mem_nil, or_false] at hu; rcases hu with rfl | rfl | rfl | rfl | rfl <;> rfl
theorem cl_ones {w : World} {B : Nat} {cs : List Value} {t : Cl} (h : ClAt w B cs t) : ∀ u ∈ cs, u.oneCell' = true := by
  cases h with
  | mk => intro u hu; simp only [List.mem_cons, List.not_mem_nil, or_false] at hu; rcases hu with rfl | rfl | rfl | rfl | rfl | rfl <;> rfl
theorem in_ones {w : World} {B : Nat} {cs : List Value} {t : Ins} (h : InAt w B cs t) : ∀ u ∈ cs, u.oneCell' = true := by
  cases h with
  | mk _ _ ht =>
    intro u hu
    simp only [List.mem_append, List.mem_cons, List.not_mem_nil, or_false] at hu
    rcases hu with (rfl | hu) | (rfl | rfl | rfl)
    · rfl
    · exact ty_ones ht u hu
    · rfl
    · rfl
    · rfl

/-- Two lists, pair by pair. -/
def listSame {α : Type} (f : α → α → Bool) (xs ys : List α) : Bool := xs.length == ys.length && (List.range xs.length).all (pairAt f xs ys)
theorem list_tys (xs ys : List Ty) : listSame tySame xs ys = (xs.length == ys.length && tysSame xs ys) := pairs_all tySame tysSame xs ys (tys_yes xs ys) (tys_no xs ys)
theorem list_bds (xs ys : List Bd) : listSame bdSame xs ys = (xs.length == ys.length && bdsSame xs ys) := pairs_all bdSame bdsSame xs ys (bds_yes xs ys) (bds_no xs ys)
def nmSame (a b : ByteArray) : Bool := a.data.toList == b.data.toList
def coSame (a b : Co) : Bool := nmSame a.nm b.nm && listSame tySame a.ks b.ks
def meSame (a b : Me) : Bool := nmSame a.nm b.nm && tySame a.t b.t
def daSame (a b : Da) : Bool := nmSame a.nm b.nm && (textsS a.ps b.ps && (textsS a.ds b.ds && listSame coSame a.cs b.cs))
def clSame (a b : Cl) : Bool := nmSame a.nm b.nm && (nmSame a.vr b.vr && (textsS a.sp b.sp && (listSame meSame a.ms b.ms && listSame bdSame a.bs b.bs)))
def inSame (a b : Ins) : Bool := nmSame a.nm b.nm && (tySame a.t b.t && (listSame meSame a.ps b.ps && listSame bdSame a.bs b.bs))
def pgSame (a b : Pg) : Bool := listSame daSame a.ds b.ds && (listSame clSame a.cs b.cs && (listSame inSame a.is b.is && listSame bdSame a.bs b.bs))

end Go.Proofs.Ytglamoiimmahgaa
