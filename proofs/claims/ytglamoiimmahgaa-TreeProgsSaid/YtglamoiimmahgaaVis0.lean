/- Plain, and memory: how often each name is bound, as a map; the names' sizes. -/
import Derived.Maps.OwnIn
import Derived.Maps.Views
import Derived.Test.YtglamoiimmahgaaOcc
import Derived.Test.YtglamoiimmahgaaPart
namespace Go.Proofs.Ytglamoiimmahgaa
open Go.RowKit Go.Maps
set_option linter.unusedVariables false
set_option linter.unusedSimpArgs false
set_option maxRecDepth 100000

/-- How often a name stands in a list. -/
def cntF (bl : List ByteArray) (l : List UInt8) : Nat := bl.countP fun x => x.data.toList == l
theorem cnt_app (a b : List ByteArray) (l : List UInt8) : cntF (a ++ b) l = cntF a l + cntF b l := by simp [cntF]
theorem cnt_le (bl : List ByteArray) (l : List UInt8) : cntF bl l ≤ bl.length := List.countP_le_length
theorem cnt_has (bl : List ByteArray) (s : ByteArray) : hasS bl s = false ↔ cntF bl s.data.toList = 0 := by
  unfold hasS cntF
  rw [List.countP_eq_zero, ← Bool.not_eq_true, List.any_eq_true]
  constructor
  · intro h x hx hc
    exact h ⟨x, hx, hc⟩
  · rintro h ⟨x, hx, hc⟩
    exact h x hx hc
/-- One entry written. -/
def updF (f : List UInt8 → Nat) (l : List UInt8) (z : Nat) : List UInt8 → Nat := fun s => if s = l then z else f s
theorem upd_more (bl : List ByteArray) (a : ByteArray) : updF (cntF bl) a.data.toList (cntF bl a.data.toList + 1) = cntF (bl ++ [a]) := by
  funext s
  unfold updF
  rw [cnt_app]
  by_cases h : s = a.data.toList
  · subst h; simp [cntF]
  · have : (a.data.toList == s) = false := by simpa using fun e => h e.symm
    simp [h, cntF, this]
theorem upd_less (bl rest : List ByteArray) (a : ByteArray) : updF (cntF (bl ++ a :: rest)) a.data.toList (cntF (bl ++ a :: rest) a.data.toList - 1) = cntF (bl ++ rest) := by
  funext s
  unfold updF
  rw [cnt_app, cnt_app, cnt_app]
  by_cases h : s = a.data.toList
  · subst h; simp [cntF]
  · have : (a.data.toList == s) = false := by simpa using fun e => h e.symm
    simp [h, cntF, this]

/-- Block mb is a map from names to numbers, f. -/
def MapC (W : World) (mb n : Nat) (f : List UInt8 → Nat) : Prop :=
  ∃ D : DataW Unit, W.ownsMap Try.prog 9 (plainElem Try.prog 3) mb n D ∧ IsMap D ∧ ∀ s : List UInt8, D.atKey (.string s) (.lit (.int .i64 0)) = .lit (.int .i64 (f s : Nat))
theorem MapC.blk {W W' : World} {mb n : Nat} {f : List UInt8 → Nat} (h : MapC W mb n f) (hb : W'.heap[mb]? = W.heap[mb]?) : MapC W' mb n f := by
  obtain ⟨D, ⟨es, clock, h1, h2⟩, h3⟩ := h
  exact ⟨D, ⟨es, clock, hb.trans h1, h2⟩, h3⟩
theorem MapC.lt {W : World} {mb n : Nat} {f : List UInt8 → Nat} (h : MapC W mb n f) : mb < W.heap.size := by
  obtain ⟨D, h1, _⟩ := h
  exact h1.lt
theorem MapC.mono {W : World} {mb n n' : Nat} {f : List UInt8 → Nat} (h : MapC W mb n f) (hn : n ≤ n') : MapC W mb n' f := by
  obtain ⟨D, h1, h2⟩ := h
  exact ⟨D, h1.mono hn, h2⟩
theorem MapC.made (w : World) : MapC (w.alloc (.map #[] 0)) w.heap.size 0 (cntF []) :=
  ⟨.map [], World.ownsMap_made _ _ _ _, ⟨[], rfl⟩, fun s => by simp [DataW.atKey, cntF]⟩
theorem zero_int (W : World) : (zeroValue 3).run Try.prog W = .ok (.int .i64 0) W := Try.zeroValue3 W
theorem MapC.look {W : World} {mb n : Nat} {f : List UInt8 → Nat} (h : MapC W mb n f) {s : ByteArray} (hs : s.size ≤ maxLen) : (Instr.lookup 112 (.map (some mb)) (.string s) false).run Try.prog W = .ok (.int .i64 (f s.data.toList : Nat)) W := by
  obtain ⟨D, h1, _, h3⟩ := h
  obtain ⟨c, hrun, hat, _⟩ := h1.lookup_int (string_keyed Try.underlying9) Try.underlying112 Try.underlying3 (zero_int W) (Go.WideMaps.keyOf_string_mk Try.underlying9 hs)
  rw [h3] at hat
  injection hat with hat
  injection hat with _ hat
  rw [hrun, hat]
theorem MapC.put {W' : World} {mb n z : Nat} {D : DataW Unit} {f : List UInt8 → Nat} (s : List UInt8) (hD : IsMap D) (hf : ∀ s : List UInt8, D.atKey (.string s) (.lit (.int .i64 0)) = .lit (.int .i64 (f s : Nat)))
    (h1 : W'.ownsMap Try.prog 9 (plainElem Try.prog 3) mb (n + 1) (D.put (.string s) (.lit (.int .i64 (z : Nat))))) : MapC W' mb (n + 1) (updF f s z) := by
  refine ⟨_, h1, ?_, fun s' => ?_⟩
  · obtain ⟨es, rfl⟩ := hD
    exact ⟨_, rfl⟩
  · unfold updF
    by_cases h : s' = s
    · subst h
      rw [if_pos rfl]
      exact atKey_put_same hD (by simp [WideAt.IsKeyLit]) _ _
    · rw [if_neg h, atKey_put_other (by simpa using h)]
      exact hf s'

theorem pt_fits {W : World} {B : Nat} {cs : List Value} {p : Pt} (h : PtAt W B cs p) : ∀ s ∈ ptNames p, s.size ≤ maxLen := by
  induction h with
  | @mk k n q nm A c ks L hk hs hn hc hm hq hbt hr hks ih =>
    have hmem : ∀ (l : List Pt) (s : ByteArray), s ∈ ptsNames l → ∃ i, ∃ h : i < l.length, s ∈ ptNames l[i] := by
      intro l; induction l with
      | nil => intro s hs; simp [ptsNames] at hs
      | cons a l ihl =>
        intro s hs
        simp only [ptsNames, List.mem_append] at hs
        rcases hs with hs | hs
        · exact ⟨0, by simp, hs⟩
        · obtain ⟨i, hi, h⟩ := ihl s hs
          exact ⟨i + 1, by simp; omega, by simpa using h⟩
    intro s hs'
    unfold ptNames at hs'
    rw [List.mem_append] at hs'
    rcases hs' with hs' | hs'
    · by_cases h2 : k = 2
      · simp [h2] at hs'; rw [hs']; exact hs
      · simp [h2] at hs'
    · obtain ⟨i, hi, h⟩ := hmem ks s hs'
      exact ih i (by rw [hr.len]; exact hi) hi s h
theorem ex_fits {W : World} {B : Nat} {cs : List Value} {e : Ex} (h : ExAt W B cs e) : ∀ x ∈ e.scL, ∀ s ∈ x.1, s.size ≤ maxLen := by
  cases h with
  | @mk k n q nm t T A Aa Ab c ca cb ks als bs L La Lb hk hs hn hq ht hc hm hca hma hcb hmb hb hba hbb hr hks hra hals hrb hbs =>
    have hbn : ∀ s ∈ bs.map Bd.name, s.size ≤ maxLen := by
      intro s hs'
      obtain ⟨b, hb', rfl⟩ := List.mem_map.1 hs'
      obtain ⟨i, hi, rfl⟩ := List.getElem_of_mem hb'
      have := hbs i (by rw [hrb.len]; exact hi) hi
      generalize bs[i] = b at *
      generalize Lb[i]'(by rw [hrb.len]; exact hi) = lb at *
      cases this with
      | mk h1 h2 h3 => exact h1
    intro x hx s hs'
    unfold Ex.scL at hx
    rw [List.mem_append] at hx
    rcases hx with hx | hx
    · unfold scHead at hx
      by_cases h7 : k = 7
      · by_cases h1 : n = 1
        · simp [h7, h1] at hx; subst hx; exact hbn s hs'
        · simp [h7, h1] at hx
          rcases hx with rfl | rfl
          · simp at hs'
          · exact hbn s hs'
      · by_cases h6 : k = 6
        · simp [h7, h6] at hx
          rcases hx with rfl | rfl
          · simp at hs'; rw [hs']; exact hs
          · simp at hs'
        · simp [h7, h6] at hx
          rcases hx with rfl | rfl <;> simp at hs'
    · obtain ⟨a, ha, rfl⟩ := List.mem_map.1 hx
      obtain ⟨i, hi, rfl⟩ := List.getElem_of_mem ha
      have := hals i (by rw [hra.len]; exact hi) hi
      generalize als[i] = a at *
      generalize La[i]'(by rw [hra.len]; exact hi) = la at *
      cases this with
      | mk h1 h2 => exact pt_fits h1 s hs'
theorem ex_fit {W : World} {B : Nat} {cs : List Value} {e : Ex} (h : ExAt W B cs e) : ∀ k nm n t ks als bs q, e = .mk k nm n t ks als bs q → nm.size ≤ maxLen := by
  rintro k nm n t ks als bs q rfl
  cases h with
  | mk _ hs => exact hs

/-- How many names and parts some scopes hold. -/
def scS : List (List ByteArray × List Ex) → Nat
  | [] => 0
  | x :: l => x.1.length + exsMass x.2 + scS l
theorem scS_app : ∀ a b, scS (a ++ b) = scS a + scS b
  | [], b => by simp [scS]
  | x :: a, b => by simp only [List.cons_append, scS, scS_app a b]; omega
theorem scS_mass (e : Ex) : scS e.scL ≤ e.mass := by
  cases e with
  | mk k nm n t ks als bs q =>
    have h3 : ∀ l : List Al, scS (l.map fun a => (ptNames a.pat, [a.exp])) ≤ alsMass l := by
      intro l; induction l with
      | nil => exact Nat.le_refl _
      | cons a l ih =>
        cases a with
        | mk p e => have := ptNames_le p.nodes p (Nat.le_refl _); have e1 : scS ((Al.mk p e :: l).map fun a => (ptNames a.pat, [a.exp])) = (ptNames p).length + exsMass [e] + scS (l.map fun a => (ptNames a.pat, [a.exp])) := rfl; rw [e1]; simp only [exsMass, alsMass, Al.mass]; omega
    have := h3 als
    have hb := exsMass_bds bs
    unfold Ex.scL Ex.mass
    rw [scS_app]
    unfold scHead
    by_cases h7 : k = 7
    · by_cases h1 : n = 1
      · simp [h7, h1, scS, exsMass_app]; omega
      · simp [h7, h1, scS]; omega
    · by_cases h6 : k = 6
      · simp [h6, scS]; omega
      · simp [h7, h6, scS]; omega
theorem scS_take {l : List (List ByteArray × List Ex)} {k : Nat} {x : List ByteArray × List Ex} (h : l[k]? = some x) : scS (l.take (k + 1)) = scS (l.take k) + x.1.length + exsMass x.2 := by
  obtain ⟨hk, rfl⟩ := List.getElem?_eq_some_iff.1 h
  rw [List.take_succ_eq_append_getElem hk, scS_app]
  simp only [scS]; omega
theorem scS_take_le (l : List (List ByteArray × List Ex)) (k : Nat) : scS (l.take k) ≤ scS l := by
  have : scS l = scS (l.take k) + scS (l.drop k) := by rw [← scS_app, List.take_append_drop]
  omega
theorem scOcc_app (bl : List ByteArray) (a b : List (List ByteArray × List Ex)) : scOcc bl (a ++ b) = scOcc bl a ++ scOcc bl b := by unfold scOcc; rw [List.map_append, List.flatten_append]
theorem scOcc_cons (bl : List ByteArray) (x : List ByteArray × List Ex) (b : List (List ByteArray × List Ex)) : scOcc bl (x :: b) = exsOcc x.2 (bl ++ x.1) ++ scOcc bl b := rfl
theorem scOcc_take {bl : List ByteArray} {l : List (List ByteArray × List Ex)} {k : Nat} {x : List ByteArray × List Ex} (h : l[k]? = some x) : scOcc bl (l.take (k + 1)) = scOcc bl (l.take k) ++ exsOcc x.2 (bl ++ x.1) := by
  obtain ⟨hk, rfl⟩ := List.getElem?_eq_some_iff.1 h
  rw [List.take_succ_eq_append_getElem hk, scOcc_app, scOcc_cons]
  simp [scOcc]
theorem scOcc_split (bl : List ByteArray) {l : List (List ByteArray × List Ex)} {k : Nat} {x : List ByteArray × List Ex} (h : l[k]? = some x) : scOcc bl l = scOcc bl (l.take k) ++ (exsOcc x.2 (bl ++ x.1) ++ scOcc bl (l.drop (k + 1))) := by
  obtain ⟨hk, rfl⟩ := List.getElem?_eq_some_iff.1 h
  conv => lhs; rw [← List.take_append_drop k l, ← List.getElem_cons_drop hk]
  rw [scOcc_app, scOcc_cons]
theorem exsOcc_take {l : List Ex} {j : Nat} (bl : List ByteArray) (h : j < l.length) : exsOcc (l.take (j + 1)) bl = exsOcc (l.take j) bl ++ l[j].occ bl := by
  rw [List.take_succ_eq_append_getElem h, exsOcc_app]
  simp [exsOcc]
theorem exsOcc_split {l : List Ex} {j : Nat} (bl : List ByteArray) (h : j < l.length) : exsOcc l bl = exsOcc (l.take j) bl ++ (l[j].occ bl ++ exsOcc (l.drop (j + 1)) bl) := by
  conv => lhs; rw [← List.take_append_drop j l, ← List.getElem_cons_drop h, exsOcc_app]
  rw [exsOcc]
theorem exsMass_take {l : List Ex} {j : Nat} (h : j < l.length) : exsMass (l.take (j + 1)) = exsMass (l.take j) + l[j].mass := by
  rw [List.take_succ_eq_append_getElem h, exsMass_app]
  simp [exsMass]
theorem exsMass_take_le (l : List Ex) (j : Nat) : exsMass (l.take j) ≤ exsMass l := by
  have : exsMass l = exsMass (l.take j) + exsMass (l.drop j) := by rw [← exsMass_app, List.take_append_drop]
  omega
/-- A list lies in another from t on. -/
def SegAt (all : List ByteArray) (t : Nat) (m : List ByteArray) : Prop := ∀ j x, m[j]? = some x → all[t + j]? = some x
theorem SegAt.left {all a b : List ByteArray} {t : Nat} (h : SegAt all t (a ++ b)) : SegAt all t a := fun j x hx => h j x (by rw [List.getElem?_append_left (List.getElem?_eq_some_iff.1 hx).1]; exact hx)
theorem SegAt.right {all a b : List ByteArray} {t : Nat} (h : SegAt all t (a ++ b)) : SegAt all (t + a.length) b := fun j x hx => by
  have := h (a.length + j) x (by rw [List.getElem?_append_right (by omega), Nat.add_sub_cancel_left]; exact hx)
  rw [← Nat.add_assoc] at this
  exact this

end Go.Proofs.Ytglamoiimmahgaa
