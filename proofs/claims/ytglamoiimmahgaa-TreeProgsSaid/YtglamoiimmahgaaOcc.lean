/- Plain: the names that occur free in an expression, in order, as often as they occur; each once. -/
import Derived.Test.YtglamoiimmahgaaMass
namespace Go.Proofs.Ytglamoiimmahgaa
open Go.RowKit
set_option linter.unusedVariables false
set_option linter.unusedSimpArgs false

mutual
/-- The names that occur free, those of bl being bound around. -/
def Ex.occ : Ex → List ByteArray → List ByteArray
  | .mk k nm n _ ks als bs _, bl => (if k = 3 ∧ hasS bl nm = false then [nm] else []) ++
      ((if k = 7 then (if n = 1 then bdsOcc bs (bl ++ bdsNames bs) ++ exsOcc ks (bl ++ bdsNames bs) else bdsOcc bs bl ++ exsOcc ks (bl ++ bdsNames bs))
        else if k = 6 then exsOcc ks (bl ++ [nm]) ++ bdsOcc bs bl else exsOcc ks bl ++ bdsOcc bs bl) ++ alsOcc als bl)
def exsOcc : List Ex → List ByteArray → List ByteArray
  | [], _ => []
  | t :: ts, bl => Ex.occ t bl ++ exsOcc ts bl
def Al.occ : Al → List ByteArray → List ByteArray
  | .mk p e, bl => Ex.occ e (bl ++ ptNames p)
def alsOcc : List Al → List ByteArray → List ByteArray
  | [], _ => []
  | t :: ts, bl => Al.occ t bl ++ alsOcc ts bl
def Bd.occ : Bd → List ByteArray → List ByteArray
  | .mk _ e _, bl => Ex.occ e bl
def bdsOcc : List Bd → List ByteArray → List ByteArray
  | [], _ => []
  | t :: ts, bl => Bd.occ t bl ++ bdsOcc ts bl
def bdsNames : List Bd → List ByteArray
  | [] => []
  | .mk nm _ _ :: ts => nm :: bdsNames ts
end
theorem bdsNames_map : ∀ bs : List Bd, bdsNames bs = bs.map Bd.name
  | [] => rfl
  | .mk nm e q :: bs => by rw [bdsNames, bdsNames_map bs]; rfl
theorem bdsOcc_map : ∀ (bs : List Bd) (bl : List ByteArray), exsOcc (bs.map Bd.exp) bl = bdsOcc bs bl
  | [], bl => rfl
  | .mk nm e q :: bs, bl => by rw [bdsOcc, ← bdsOcc_map bs bl]; rfl
theorem exsOcc_app : ∀ (a b : List Ex) (bl : List ByteArray), exsOcc (a ++ b) bl = exsOcc a bl ++ exsOcc b bl
  | [], b, bl => rfl
  | x :: a, b, bl => by rw [List.cons_append, exsOcc, exsOcc, exsOcc_app a b bl, List.append_assoc]
/-- What a scope's parts hold. -/
def scOcc (bl : List ByteArray) (l : List (List ByteArray × List Ex)) : List ByteArray := (l.map fun x => exsOcc x.2 (bl ++ x.1)).flatten
theorem scOcc_als : ∀ (als : List Al) (bl : List ByteArray), scOcc bl (als.map fun a => (ptNames a.pat, [a.exp])) = alsOcc als bl
  | [], bl => rfl
  | .mk p e :: als, bl => by
    rw [alsOcc, ← scOcc_als als bl]
    simp [scOcc, exsOcc, Al.occ, Al.pat, Al.exp]
theorem occ_sc (e : Ex) (bl : List ByteArray) : ∃ k nm, (∃ n t ks als bs q, e = .mk k nm n t ks als bs q) ∧ e.occ bl = (if k = 3 ∧ hasS bl nm = false then [nm] else []) ++ scOcc bl e.scL := by
  cases e with
  | mk k nm n t ks als bs q =>
    refine ⟨k, nm, ⟨_, _, _, _, _, _, rfl⟩, ?_⟩
    unfold Ex.occ Ex.scL
    congr 1
    have h3 := scOcc_als als bl
    unfold scOcc at h3 ⊢
    rw [List.map_append, List.flatten_append, h3]
    congr 1
    unfold scHead
    by_cases h7 : k = 7
    · by_cases h1 : n = 1 <;> simp [h7, h1, exsOcc_app, bdsOcc_map, bdsNames_map]
    · by_cases h6 : k = 6 <;> simp [h7, h6, exsOcc_app, bdsOcc_map]

theorem hasS_app (a b : List ByteArray) (s : ByteArray) : hasS (a ++ b) s = (hasS a s || hasS b s) := by simp [hasS]
theorem without_nil (l : List ByteArray) : withoutS l [] = l := by simp [withoutS, hasS]
theorem without_app (a b g : List ByteArray) : withoutS (a ++ b) g = withoutS a g ++ withoutS b g := by simp [withoutS]
theorem without_without (l a b : List ByteArray) : withoutS (withoutS l a) b = withoutS l (a ++ b) := by
  unfold withoutS
  rw [List.filter_filter]
  congr 1
  funext x
  rw [hasS_app]
  cases hasS a x <;> cases hasS b x <;> rfl
theorem nmEq_trans {a b c : ByteArray} (h : nmEq a b = true) : nmEq a c = nmEq b c := by
  unfold nmEq at *
  rw [beq_iff_eq] at h
  rw [h]
theorem nmEq_comm (a b : ByteArray) : nmEq a b = nmEq b a := by unfold nmEq; rw [Bool.eq_iff_iff, beq_iff_eq, beq_iff_eq]; exact eq_comm
theorem nmEq_rfl (a : ByteArray) : nmEq a a = true := by simp [nmEq]
theorem hasS_congr {l : List ByteArray} {a b : ByteArray} (h : nmEq a b = true) : hasS l a = hasS l b := by
  unfold hasS
  congr 1
  funext x
  rw [nmEq_comm x a, nmEq_comm x b]
  exact nmEq_trans h
/-- More names around: fewer occur free. -/
theorem occ_more (N : Nat) : ∀ e : Ex, e.nodes ≤ N → ∀ a b : List ByteArray, e.occ (a ++ b) = withoutS (e.occ a) b := by
  induction N with
  | zero => intro e h; cases e; unfold Ex.nodes at h; omega
  | succ N ih =>
    have hsw : ∀ (a b c : List ByteArray) (e : Ex), e.nodes ≤ N → e.occ (a ++ b ++ c) = withoutS (e.occ (a ++ c)) b := by
      intro a b c e he
      have h1 := ih e he a (b ++ c)
      have h2 := ih e he a c
      rw [List.append_assoc, h1, h2, without_without]
      unfold withoutS
      congr 1
      funext x
      rw [hasS_app, hasS_app, Bool.or_comm]
    have h1 : ∀ l : List Ex, exsNodes l ≤ N → ∀ a b c, exsOcc l (a ++ b ++ c) = withoutS (exsOcc l (a ++ c)) b := by
      intro l; induction l with
      | nil => intros; rfl
      | cons x l ihl => intro hl a b c; unfold exsNodes at hl; unfold exsOcc; rw [hsw a b c x (by omega), ihl (by omega) a b c, without_app]
    have h2 : ∀ l : List Bd, bdsNodes l ≤ N → ∀ a b c, bdsOcc l (a ++ b ++ c) = withoutS (bdsOcc l (a ++ c)) b := by
      intro l; induction l with
      | nil => intros; rfl
      | cons x l ihl => intro hl a b c; cases x with
        | mk nm e q => unfold bdsNodes Bd.nodes at hl; unfold bdsOcc Bd.occ; rw [hsw a b c e (by omega), ihl (by omega) a b c, without_app]
    have h3 : ∀ l : List Al, alsNodes l ≤ N → ∀ a b, alsOcc l (a ++ b) = withoutS (alsOcc l a) b := by
      intro l; induction l with
      | nil => intros; rfl
      | cons x l ihl => intro hl a b; cases x with
        | mk p e => unfold alsNodes Al.nodes at hl; unfold alsOcc Al.occ; rw [hsw a b (ptNames p) e (by omega), ihl (by omega) a b, without_app]
    intro e he a b
    cases e with
    | mk k nm n t ks als bs q =>
      unfold Ex.nodes at he
      have k1 := h1 ks (by omega)
      have k2 := h2 bs (by omega)
      have k3 := h3 als (by omega) a b
      have k10 : exsOcc ks (a ++ b) = withoutS (exsOcc ks a) b := by have := k1 a b []; simpa using this
      have k20 : bdsOcc bs (a ++ b) = withoutS (bdsOcc bs a) b := by have := k2 a b []; simpa using this
      unfold Ex.occ
      rw [without_app, without_app, k3]
      congr 1
      · by_cases h : k = 3
        · rw [hasS_app]
          cases ha : hasS a nm <;> cases hb : hasS b nm <;> simp [h, withoutS, hb]
        · simp [h, withoutS]
      · congr 1
        by_cases h7 : k = 7
        · by_cases hn : n = 1
          · simp only [h7, hn, if_true, without_app, k1, k2]
          · simp only [h7, hn, if_true, if_false, without_app, k1, k20]
        · by_cases h6 : k = 6
          · simp only [h6, if_true, without_app, k1, k20, show ¬ ((6 : Int) = 7) by omega, if_false]
          · simp only [h7, h6, if_false, without_app, k10, k20]

/-- A list, each name once. -/
def ddS (l : List ByteArray) : List ByteArray := joinS [] l
theorem join_cons (l : List ByteArray) (x : ByteArray) (m : List ByteArray) : joinS l (x :: m) = joinS (if hasS l x then l else l ++ [x]) m := rfl
theorem join_app : ∀ (a b l : List ByteArray), joinS l (a ++ b) = joinS (joinS l a) b
  | [], b, l => rfl
  | x :: a, b, l => by rw [List.cons_append, join_cons, join_cons, join_app a b _]
theorem has_without {g : List ByteArray} {x : ByteArray} (hx : hasS g x = false) : ∀ l : List ByteArray, hasS (withoutS l g) x = hasS l x
  | [] => rfl
  | a :: l => by
    have ih := has_without hx l
    cases hg : hasS g a with
    | true =>
      have e : withoutS (a :: l) g = withoutS l g := by simp [withoutS, hg]
      have hn : nmEq a x = false := by
        cases h : nmEq a x with
        | false => rfl
        | true => rw [hasS_congr h, hx] at hg; cases hg
      rw [e, ih]
      simp [hasS, hn]
    | false =>
      have e : withoutS (a :: l) g = a :: withoutS l g := by simp [withoutS, hg]
      rw [e]
      have : hasS (a :: withoutS l g) x = (nmEq a x || hasS (withoutS l g) x) := by simp [hasS]
      rw [this, ih]
      simp [hasS]
theorem hasS_join : ∀ (m l : List ByteArray) (s : ByteArray), hasS (joinS l m) s = (hasS l s || hasS m s)
  | [], l, s => by simp [joinS, hasS]
  | x :: m, l, s => by
    rw [join_cons, hasS_join m]
    by_cases h : hasS l x = true
    · rw [if_pos h]
      by_cases hx : nmEq x s = true
      · rw [← hasS_congr hx, h]; simp
      · simp [hasS, hx]
    · rw [if_neg h, hasS_app]
      simp [hasS, Bool.or_assoc]
theorem join_join : ∀ (b out a : List ByteArray), joinS out (joinS a b) = joinS (joinS out a) b
  | [], out, a => rfl
  | x :: b, out, a => by
    have e1 := join_cons a x b
    have e2 := join_cons (joinS out a) x b
    rw [e1, e2, join_join b out]
    by_cases h : hasS a x = true
    · rw [if_pos h, if_pos (by rw [hasS_join, h]; simp)]
    · rw [if_neg h, join_app]
      rfl
theorem join_dd (out m : List ByteArray) : joinS out (ddS m) = joinS out m := by unfold ddS; rw [join_join]; rfl
theorem without_join : ∀ (m l g : List ByteArray), withoutS (joinS l m) g = joinS (withoutS l g) (withoutS m g)
  | [], l, g => rfl
  | x :: m, l, g => by
    rw [join_cons, without_join m]
    cases hg : hasS g x with
    | true =>
      have e : withoutS (x :: m) g = withoutS m g := by simp [withoutS, hg]
      rw [e]
      by_cases h : hasS l x = true
      · rw [if_pos h]
      · have e2 : withoutS [x] g = [] := by simp [withoutS, hg]
        rw [if_neg h, without_app, e2, List.append_nil]
    | false =>
      have e : withoutS (x :: m) g = x :: withoutS m g := by simp [withoutS, hg]
      rw [e, join_cons, has_without hg]
      by_cases h : hasS l x = true
      · rw [if_pos h, if_pos h]
      · have e2 : withoutS [x] g = [x] := by simp [withoutS, hg]
        rw [if_neg h, if_neg h, without_app, e2]
theorem without_dd (m g : List ByteArray) : withoutS (ddS m) g = ddS (withoutS m g) := without_join m [] g

end Go.Proofs.Ytglamoiimmahgaa
