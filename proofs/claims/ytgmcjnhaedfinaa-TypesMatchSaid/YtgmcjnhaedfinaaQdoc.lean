/- Plain: the document's Match, and that it is the program's. -/
import Derived.Test.YtgmcjnhaedfinaaQback
namespace Go.Proofs.Ytgmcjnhaedfinaa
open Go.RowKit
set_option linter.unusedVariables false
set_option linter.unusedSimpArgs false

open Classical in
mutual
/-- What stands where a variable stood, once types are put. -/
theorem part_put (f : ByteArray → Option Ty) : ∀ (t : Ty), goodT t = true → (∀ x ∈ varL t.all, ∃ u, f x = some u) → ∀ x, partT t (t.repl (nameF f)) x = if x ∈ varL t.all then f x else none
  | .mk k nm n ks, hg, hv, x => by
    by_cases hk : k = 1
    · obtain ⟨rfl, rfl⟩ := good_var hg hk
      subst hk
      have hva : varL (Ty.mk 1 nm 0 []).all = [nm] := by simp [Ty.all, tysAll, varL, Ty.k, Ty.nm]
      obtain ⟨u, hu⟩ := hv nm (by rw [hva]; exact List.mem_cons_self)
      rw [repl_some (u := u) (by rw [nameF_yes (show Ty.k _ = 1 from rfl)]; exact hu), hva]
      unfold partT
      by_cases hx : nmEq nm x = true
      · have := nmEq_eq hx
        subst this
        rw [if_pos ⟨rfl, nmEq_refl nm⟩, if_pos List.mem_cons_self, hu]
      · rw [if_neg (fun h => hx h.2)]
        have hne : ¬ x ∈ [nm] := by
          intro h
          rw [List.mem_singleton] at h
          subst h
          exact hx (nmEq_refl x)
        rw [if_neg hne]
        unfold partL
        rfl
    · have hva : varL (Ty.mk k nm n ks).all = varL (tysAll ks) := by
        rw [show (Ty.mk k nm n ks).all = Ty.mk k nm n ks :: tysAll ks by rw [Ty.all]]
        show (if (Ty.mk k nm n ks).k = 1 then [(Ty.mk k nm n ks).nm] else []) ++ varL (tysAll ks) = _
        rw [if_neg (show ¬ (Ty.mk k nm n ks).k = 1 from hk), List.nil_append]
      rw [hva] at hv ⊢
      rw [repl_none (nameF_no hk)]
      unfold partT
      rw [if_neg (fun h => hk h.1)]
      exact part_puts f ks (good_kids hg) hv x
theorem part_puts (f : ByteArray → Option Ty) : ∀ (l : List Ty), goodL l = true → (∀ x ∈ varL (tysAll l), ∃ u, f x = some u) → ∀ x, partL l (tysRepl (nameF f) l) x = if x ∈ varL (tysAll l) then f x else none
  | [], _, _, x => by simp [partL, tysAll, varL]
  | t :: l, hg, hv, x => by
    simp only [goodL, Bool.and_eq_true] at hg
    simp only [tysAll, varL_app] at hv ⊢
    have h1 := part_put f t hg.1 (fun y hy => hv y (List.mem_append_left _ hy)) x
    have h2 := part_puts f l hg.2 (fun y hy => hv y (List.mem_append_right _ hy)) x
    unfold tysRepl partL
    rw [h1, h2]
    by_cases hx : x ∈ varL t.all
    · obtain ⟨u, hu⟩ := hv x (List.mem_append_left _ hx)
      rw [if_pos hx, if_pos (List.mem_append_left _ hx), hu]
    · rw [if_neg hx]
      by_cases hy : x ∈ varL (tysAll l)
      · rw [if_pos hy, if_pos (List.mem_append_right _ hy)]
      · rw [if_neg hy, if_neg (fun h => (List.mem_append.1 h).elim hx hy)]
end
/-- What the document's Match gathers, name by name. -/
def docTs (g s : Ty) : List ByteArray → Option (List Ty)
  | [] => some []
  | x :: l => match partT g s x with
    | none => none
    | some u => (docTs g s l).map fun r => u :: r
/-- The document's Match. -/
def docM (g s : Ty) : Option (List Ty) := match docTs g s (varsT g) with
  | none => none
  | some ts => if tySame (g.repl (putF (varsT g) ts)) s then some ts else none
theorem docTs_yes {g s : Ty} {M : List (ByteArray × Ty)} (hg : goodT g = true) (h : matchC g s [] = some M) : ∀ l : List ByteArray, (∀ x ∈ l, x ∈ varsT g) → docTs g s l = some (tysOf M l)
  | [], _ => rfl
  | x :: l, hl => by
    have hx := mem_varsT.1 (hl x List.mem_cons_self)
    obtain ⟨_, hv, hs⟩ := match_put g s [] M hg h
    obtain ⟨u, hu⟩ := hv x hx
    have hp := part_put (lookM M) g hg hv x
    rw [hs M (fun _ _ h => h), if_pos hx, hu] at hp
    unfold docTs
    rw [hp, docTs_yes hg h l (fun y hy => hl y (List.mem_cons_of_mem _ hy))]
    show some (u :: tysOf M l) = some (tysOf M (x :: l))
    unfold tysOf
    rw [List.map_cons, hu]
    rfl
/-- The document's Match is the program's. -/
theorem doc_says {g s : Ty} (hg : goodT g = true) : docM g s = (matchC g s []).map fun M => tysOf M (varsT g) := by
  unfold docM
  cases h : matchC g s [] with
  | some M =>
    rw [docTs_yes hg h (varsT g) (fun _ h => h)]
    show (if tySame (g.repl (putF (varsT g) (tysOf M (varsT g)))) s then some (tysOf M (varsT g)) else none) = _
    rw [match_back hg h, sameT_self _ _ (Nat.le_refl _)]
    rfl
  | none =>
    cases hd : docTs g s (varsT g) with
    | none => rfl
    | some ts =>
      show (if tySame (g.repl (putF (varsT g) ts)) s then some ts else none) = none
      by_cases hs : tySame (g.repl (putF (varsT g) ts)) s = true
      · exfalso
        obtain ⟨M, hM⟩ := put_found hg (varsT g) ts
        rw [same_eq _ _ hs, h] at hM
        cases hM
      · rw [if_neg hs]
end Go.Proofs.Ytgmcjnhaedfinaa
