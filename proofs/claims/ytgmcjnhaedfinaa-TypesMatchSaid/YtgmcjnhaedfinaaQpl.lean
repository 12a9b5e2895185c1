/- Plain: types taken apart, gathered from, replaced in, matched. -/
import Derived.Test.YtgmcjnhaedfinaaQcon
namespace Go.Proofs.Ytgmcjnhaedfinaa
open Go.RowKit
set_option linter.unusedVariables false
set_option linter.unusedSimpArgs false

def Ty.k : Ty → Int
  | .mk k _ _ _ => k
def Ty.nm : Ty → ByteArray
  | .mk _ nm _ _ => nm
def Ty.n : Ty → Int
  | .mk _ _ n _ => n
def Ty.ks : Ty → List Ty
  | .mk _ _ _ ks => ks
def isFunT (t : Ty) : Bool := t.k == 3 && (nmEq t.nm sArrow && t.ks.length == 2)
/-- What a type takes, and what it answers at last. -/
inductive ArgsR : Ty → List Ty → Ty → Prop
  | stop {t : Ty} (h : isFunT t = false) : ArgsR t [] t
  | step {k n : Int} {nm : ByteArray} {a b x : Ty} {l : List Ty} (h : isFunT (.mk k nm n [a, b]) = true) (hb : ArgsR b l x) : ArgsR (.mk k nm n [a, b]) (a :: l) x
theorem fun_two {k n : Int} {nm : ByteArray} {ks : List Ty} (h : isFunT (.mk k nm n ks) = true) : ∃ a b, ks = [a, b] := by
  simp only [isFunT, Ty.ks, Bool.and_eq_true, beq_iff_eq] at h
  match ks, h.2.2 with
  | [a, b], _ => exact ⟨a, b, rfl⟩
theorem args_ex (N : Nat) : ∀ t : Ty, t.nodes ≤ N → ∃ l x, ArgsR t l x ∧ l.length ≤ t.nodes := by
  induction N with
  | zero => intro t h; cases t; unfold Ty.nodes at h; omega
  | succ N ih =>
    intro t hN
    cases hf : isFunT t with
    | false => exact ⟨[], t, .stop hf, by simp⟩
    | true =>
      obtain ⟨k, nm, n, ks⟩ := t
      obtain ⟨a, b, rfl⟩ := fun_two hf
      simp only [Ty.nodes, tysNodes] at hN
      obtain ⟨l, x, h, hl⟩ := ih b (by omega)
      exact ⟨a :: l, x, .step hf h, by simp only [Ty.nodes, tysNodes, List.length_cons]; omega⟩
mutual
/-- A type and all within it, in order. -/
def Ty.all : Ty → List Ty
  | .mk k nm n ks => .mk k nm n ks :: tysAll ks
def tysAll : List Ty → List Ty
  | [] => []
  | t :: ts => t.all ++ tysAll ts
end
mutual
theorem all_len : ∀ t : Ty, t.all.length = t.nodes
  | .mk k nm n ks => by unfold Ty.all Ty.nodes; rw [List.length_cons, tysAll_len ks]; omega
theorem tysAll_len : ∀ l : List Ty, (tysAll l).length = tysNodes l
  | [] => by simp [tysAll, tysNodes]
  | t :: ts => by unfold tysAll tysNodes; rw [List.length_append, all_len t, tysAll_len ts]
end
theorem tysAll_app : ∀ a b : List Ty, tysAll (a ++ b) = tysAll a ++ tysAll b
  | [], b => by simp [tysAll]
  | t :: a, b => by simp only [List.cons_append, tysAll, tysAll_app a b, List.append_assoc]
theorem tysNodes_app : ∀ a b : List Ty, tysNodes (a ++ b) = tysNodes a + tysNodes b
  | [], b => by simp [tysNodes]
  | t :: a, b => by simp only [List.cons_append, tysNodes, tysNodes_app a b]; omega
theorem tysNodes_take (l : List Ty) (i : Nat) : tysNodes (l.take i) ≤ tysNodes l := by
  have := tysNodes_app (l.take i) (l.drop i)
  rw [List.take_append_drop] at this; omega
theorem take_snoc {l : List Ty} {i : Nat} (h : i < l.length) : l.take (i + 1) = l.take i ++ [l[i]] := List.take_succ_eq_append_getElem h
theorem tysNodes_len : ∀ l : List Ty, l.length ≤ tysNodes l
  | [] => by simp
  | t :: l => by have := tysNodes_len l; cases t; simp only [List.length_cons, tysNodes, Ty.nodes]; omega
/-- The names of the variables in a row, as often as they stand. -/
def varL : List Ty → List ByteArray
  | [] => []
  | t :: l => (if t.k = 1 then [t.nm] else []) ++ varL l
def metL : List Ty → List Int
  | [] => []
  | t :: l => (if t.k = 2 then [t.n] else []) ++ metL l
theorem varL_app : ∀ a b, varL (a ++ b) = varL a ++ varL b
  | [], b => rfl
  | t :: a, b => by simp only [List.cons_append, varL, varL_app a b, List.append_assoc]
theorem metL_app : ∀ a b, metL (a ++ b) = metL a ++ metL b
  | [], b => rfl
  | t :: a, b => by simp only [List.cons_append, metL, metL_app a b, List.append_assoc]
theorem varL_len : ∀ l, (varL l).length ≤ l.length
  | [] => by simp [varL]
  | t :: l => by have := varL_len l; unfold varL; by_cases h : t.k = 1 <;> simp [h] <;> omega
theorem metL_len : ∀ l, (metL l).length ≤ l.length
  | [] => by simp [metL]
  | t :: l => by have := metL_len l; unfold metL; by_cases h : t.k = 2 <;> simp [h] <;> omega
theorem joinS_app : ∀ (b a l : List ByteArray), joinS l (a ++ b) = joinS (joinS l a) b := by
  intro b a
  induction a with
  | nil => intro l; rfl
  | cons x a ih => intro l; simp only [List.cons_append, joinS]; exact ih _
theorem joinS_one (l : List ByteArray) (x : ByteArray) : joinS l [x] = if hasS l x then l else l ++ [x] := rfl
def hasI (l : List Int) (x : Int) : Bool := l.any fun y => y == x
def joinI : List Int → List Int → List Int
  | l, [] => l
  | l, x :: xs => joinI (if hasI l x then l else l ++ [x]) xs
theorem joinI_app : ∀ (b a l : List Int), joinI l (a ++ b) = joinI (joinI l a) b := by
  intro b a
  induction a with
  | nil => intro l; rfl
  | cons x a ih => intro l; simp only [List.cons_append, joinI]; exact ih _
theorem joinI_one (l : List Int) (x : Int) : joinI l [x] = if hasI l x then l else l ++ [x] := rfl
theorem joinI_len : ∀ (m l : List Int), (joinI l m).length ≤ l.length + m.length
  | [], l => by simp [joinI]
  | x :: m, l => by
    unfold joinI
    have := joinI_len m (if hasI l x then l else l ++ [x])
    by_cases h : hasI l x = true
    · rw [if_pos h] at this ⊢; simp only [List.length_cons]; omega
    · rw [if_neg h] at this ⊢; simp only [List.length_append, List.length_cons, List.length_nil] at this ⊢; omega
def varsT (t : Ty) : List ByteArray := joinS [] (varL t.all)
def metasT (t : Ty) : List Int := joinI [] (metL t.all)
mutual
/-- A type with every type for which there is another one replaced by that, as it is. -/
def Ty.repl (f : Ty → Option Ty) : Ty → Ty
  | .mk k nm n ks => match f (.mk k nm n ks) with
    | some u => u
    | none => .mk k nm n (tysRepl f ks)
def tysRepl (f : Ty → Option Ty) : List Ty → List Ty
  | [] => []
  | t :: ts => t.repl f :: tysRepl f ts
end
theorem repl_map (f : Ty → Option Ty) : ∀ l, tysRepl f l = l.map fun t => t.repl f
  | [] => rfl
  | t :: l => by unfold tysRepl; rw [repl_map f l]; rfl
/-- What stands for a name: the first that is of this name, if it has a type. -/
def lookT : List ByteArray → List Ty → ByteArray → Option Ty
  | a :: l, t :: ts, x => if nmEq a x then some t else lookT l ts x
  | _, _, _ => none
def putF (names : List ByteArray) (ts : List Ty) (t : Ty) : Option Ty := if t.k = 1 then lookT names ts t.nm else none
structure Sb where
  n : Int
  t : Ty
def lookSb : List Sb → Int → Option Ty
  | [], _ => none
  | s :: l, x => if s.n = x then some s.t else lookSb l x
def appF (l : List Sb) (t : Ty) : Option Ty := if t.k = 2 then lookSb l t.n else none
mutual
/-- What stands where a variable stands first. -/
def partT : Ty → Ty → ByteArray → Option Ty
  | .mk k nm n ks, s, x => if k = 1 ∧ nmEq nm x = true then some s else partL ks s.ks x
def partL : List Ty → List Ty → ByteArray → Option Ty
  | [], _, _ => none
  | _ :: _, [], _ => none
  | a :: l, b :: m, x => match partT a b x with
    | some u => some u
    | none => partL l m x
end
def lookM : List (ByteArray × Ty) → ByteArray → Option Ty
  | [], _ => none
  | p :: l, x => if nmEq p.1 x then some p.2 else lookM l x
mutual
/-- The program's match: what has been found, and more. -/
def matchT : Ty → Ty → List (ByteArray × Ty) → Option (List (ByteArray × Ty))
  | .mk k nm n ks, s, M => if k = 1 then (match lookM M nm with
      | some e => if tySame e s then some M else none
      | none => some (M ++ [(nm, s)]))
    else if k = s.k ∧ nmEq nm s.nm = true ∧ n = s.n ∧ ks.length = s.ks.length then matchL ks s.ks M else none
def matchL : List Ty → List Ty → List (ByteArray × Ty) → Option (List (ByteArray × Ty))
  | [], _, M => some M
  | _ :: _, [], M => some M
  | a :: l, b :: m, M => match matchT a b M with
    | some M' => matchL l m M'
    | none => none
end

end Go.Proofs.Ytgmcjnhaedfinaa
