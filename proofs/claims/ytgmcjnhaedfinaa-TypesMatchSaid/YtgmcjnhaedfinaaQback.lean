/- Plain: what is put in matches, and what matches, put in, is the special type; a name that does not occur changes nothing. -/
import Derived.Test.YtgmcjnhaedfinaaQsm
import Derived.Test.YtgmcjnhaedfinaaQmc
import Derived.Test.YtgmcjnhaedfinaaQle
import Derived.Test.YtgmcjnhaedfinaaQad
namespace Go.Proofs.Ytgmcjnhaedfinaa
open Go.RowKit
set_option linter.unusedVariables false
set_option linter.unusedSimpArgs false

theorem nmEq_eq {a b : ByteArray} (h : nmEq a b = true) : a = b := by
  unfold nmEq at h
  exact bytes_ext (by simpa using h)
theorem nmEq_refl (a : ByteArray) : nmEq a a = true := by simp [nmEq]
theorem sameT_self (N : Nat) : ∀ t : Ty, t.nodes ≤ N → tySame t t = true := by
  induction N with
  | zero => intro t h; cases t; unfold Ty.nodes at h; omega
  | succ N ih =>
    intro t h
    cases t with
    | mk k nm n ks =>
    unfold Ty.nodes at h
    have := tys_yes ks ks rfl (fun j h1 h2 => ih _ (by have := tys_mem ks ks[j] (List.getElem_mem h1); omega))
    rw [tySame, this]; simp
mutual
theorem same_eq : ∀ t u : Ty, tySame t u = true → t = u
  | .mk k nm n ks, .mk k' nm' n' ks', h => by
    rw [tySame_top] at h
    simp only [topSame, Ty.k, Ty.nm, Ty.n, Ty.ks, Bool.and_eq_true, beq_iff_eq] at h
    obtain ⟨⟨h1, h2, h3⟩, h4, h5⟩ := h
    rw [h1, nmEq_eq h2, h3, sames_eq ks ks' h4 h5]
theorem sames_eq : ∀ l m : List Ty, l.length = m.length → tysSame l m = true → l = m
  | [], [], _, _ => rfl
  | [], _ :: _, h, _ => by simp at h
  | _ :: _, [], h, _ => by simp at h
  | a :: l, b :: m, h, hs => by
    simp only [tysSame, Bool.and_eq_true] at hs
    rw [same_eq a b hs.1, sames_eq l m (by simpa using h) hs.2]
end
theorem hasS_mem : ∀ {l : List ByteArray} {x : ByteArray}, hasS l x = true → x ∈ l := by
  intro l x h
  unfold hasS at h
  obtain ⟨y, hy, he⟩ := List.any_eq_true.1 h
  have := nmEq_eq he
  subst this; exact hy
theorem mem_joinB : ∀ (a l : List ByteArray) (x : ByteArray), x ∈ joinS l a ↔ (x ∈ l ∨ x ∈ a)
  | [], l, x => by simp [joinS]
  | y :: a, l, x => by
    unfold joinS
    rw [mem_joinB a _ x]
    by_cases h : hasS l y = true
    · rw [if_pos h]
      have := hasS_mem h
      constructor
      · rintro (h1 | h1)
        · exact .inl h1
        · exact .inr (List.mem_cons_of_mem _ h1)
      · rintro (h1 | h1)
        · exact .inl h1
        · rcases List.mem_cons.1 h1 with rfl | h2
          · exact .inl this
          · exact .inr h2
    · rw [if_neg h]
      simp only [List.mem_append, List.mem_cons, List.not_mem_nil, or_false]
      constructor
      · rintro ((h1 | h1) | h1)
        · exact .inl h1
        · exact .inr (.inl h1)
        · exact .inr (.inr h1)
      · rintro (h1 | h1 | h1)
        · exact .inl (.inl h1)
        · exact .inl (.inr h1)
        · exact .inr h1
theorem mem_varsT {t : Ty} {x : ByteArray} : x ∈ varsT t ↔ x ∈ varL t.all := by
  unfold varsT
  rw [mem_joinB]; simp
theorem mem_varB : ∀ (l : List Ty) (x : ByteArray), x ∈ varL l ↔ ∃ t ∈ l, t.k = 1 ∧ t.nm = x
  | [], x => by simp [varL]
  | t :: l, x => by
    unfold varL
    rw [List.mem_append, mem_varB l x]
    by_cases h : t.k = 1
    · rw [if_pos h]
      simp only [List.mem_cons, List.not_mem_nil, or_false]
      constructor
      · rintro (rfl | ⟨u, hu, h2⟩)
        · exact ⟨t, .inl rfl, h, rfl⟩
        · exact ⟨u, .inr hu, h2⟩
      · rintro ⟨u, (rfl | hu), h1, h2⟩
        · exact .inl h2.symm
        · exact .inr ⟨u, hu, h1, h2⟩
    · rw [if_neg h]
      simp only [List.not_mem_nil, false_or]
      constructor
      · rintro ⟨u, hu, h2⟩
        exact ⟨u, List.mem_cons_of_mem _ hu, h2⟩
      · rintro ⟨u, hu, h1, h2⟩
        rcases List.mem_cons.1 hu with rfl | hu
        · exact absurd h1 h
        · exact ⟨u, hu, h1, h2⟩
mutual
theorem repl_congr {f g : Ty → Option Ty} : ∀ t : Ty, (∀ u ∈ t.all, f u = g u) → t.repl f = t.repl g
  | .mk k nm n ks, h => by
    unfold Ty.repl
    rw [h _ (by unfold Ty.all; exact List.mem_cons_self), repls_congr ks (fun u hu => h u (by unfold Ty.all; exact List.mem_cons_of_mem _ hu))]
theorem repls_congr {f g : Ty → Option Ty} : ∀ l : List Ty, (∀ u ∈ tysAll l, f u = g u) → tysRepl f l = tysRepl g l
  | [], _ => rfl
  | t :: l, h => by
    unfold tysRepl
    rw [repl_congr t (fun u hu => h u (by unfold tysAll; exact List.mem_append_left _ hu)), repls_congr l (fun u hu => h u (by unfold tysAll; exact List.mem_append_right _ hu))]
end
mutual
theorem repl_id {f : Ty → Option Ty} : ∀ t : Ty, (∀ u ∈ t.all, f u = none) → t.repl f = t
  | .mk k nm n ks, h => by
    unfold Ty.repl
    rw [h _ (by unfold Ty.all; exact List.mem_cons_self), repls_id ks (fun u hu => h u (by unfold Ty.all; exact List.mem_cons_of_mem _ hu))]
theorem repls_id {f : Ty → Option Ty} : ∀ l : List Ty, (∀ u ∈ tysAll l, f u = none) → tysRepl f l = l
  | [], _ => rfl
  | t :: l, h => by
    unfold tysRepl
    rw [repl_id t (fun u hu => h u (by unfold tysAll; exact List.mem_append_left _ hu)), repls_id l (fun u hu => h u (by unfold tysAll; exact List.mem_append_right _ hu))]
end
/-- What stands for a variable of this name once it is put. -/
def valF (g : ByteArray → Option Ty) (x : ByteArray) : Ty := (g x).getD (.mk 1 x 0 [])
def nameF (g : ByteArray → Option Ty) (t : Ty) : Option Ty := if t.k = 1 then g t.nm else none
theorem nameF_yes {g : ByteArray → Option Ty} {t : Ty} (h : t.k = 1) : nameF g t = g t.nm := by unfold nameF; rw [if_pos h]
theorem nameF_no {g : ByteArray → Option Ty} {t : Ty} (h : t.k ≠ 1) : nameF g t = none := by unfold nameF; rw [if_neg h]
theorem repl_some {f : Ty → Option Ty} {k n : Int} {nm : ByteArray} {ks : List Ty} {u : Ty} (h : f (.mk k nm n ks) = some u) : (Ty.mk k nm n ks).repl f = u := by unfold Ty.repl; rw [h]
theorem repl_none {f : Ty → Option Ty} {k n : Int} {nm : ByteArray} {ks : List Ty} (h : f (.mk k nm n ks) = none) : (Ty.mk k nm n ks).repl f = .mk k nm n (tysRepl f ks) := by unfold Ty.repl; rw [h]
theorem putF_name (names : List ByteArray) (ts : List Ty) : putF names ts = nameF (lookT names ts) := rfl
theorem lookM_cons (a x : ByteArray) (s : Ty) (M : List (ByteArray × Ty)) : lookM ((a, s) :: M) x = if nmEq a x then some s else lookM M x := rfl
theorem good_var {k n : Int} {nm : ByteArray} {ks : List Ty} (h : goodT (.mk k nm n ks) = true) (hk : k = 1) : ks = [] ∧ n = 0 := by
  subst hk
  unfold goodT at h
  simp at h
  exact ⟨h.1.1, h.1.2⟩
theorem good_kids {k n : Int} {nm : ByteArray} {ks : List Ty} (h : goodT (.mk k nm n ks) = true) : goodL ks = true := by
  unfold goodT at h
  simp only [Bool.and_eq_true] at h
  exact h.2
mutual
/-- What is put in matches. -/
theorem put_match (g : ByteArray → Option Ty) : ∀ (t : Ty), goodT t = true → ∀ M, (∀ x e, lookM M x = some e → e = valF g x) → ∃ M', matchC t (t.repl (nameF g)) M = some M' ∧ ∀ x e, lookM M' x = some e → e = valF g x
  | .mk k nm n ks, hg, M, hM => by
    by_cases hk : k = 1
    · obtain ⟨rfl, rfl⟩ := good_var hg hk
      subst hk
      have hr : (Ty.mk 1 nm 0 []).repl (nameF g) = valF g nm := by
        unfold valF
        cases hgn : g nm with
        | some u => rw [repl_some (u := u) (by rw [nameF_yes (show Ty.k _ = 1 from rfl)]; exact hgn)]; rfl
        | none => rw [repl_none (by rw [nameF_yes (show Ty.k _ = 1 from rfl)]; exact hgn)]; rfl
      rw [hr]
      unfold matchC
      rw [if_pos rfl]
      cases he : lookM M nm with
      | some e =>
        have := hM nm e he
        subst this
        refine ⟨M, ?_, hM⟩
        show (if tySame (valF g nm) (valF g nm) then some M else none) = some M
        rw [sameT_self _ _ (Nat.le_refl _)]; rfl
      | none =>
        refine ⟨(nm, valF g nm) :: M, rfl, fun x e h => ?_⟩
        rw [lookM_cons] at h
        by_cases hx : nmEq nm x = true
        · rw [if_pos hx] at h
          have := nmEq_eq hx
          subst this
          exact (Option.some.inj h).symm
        · rw [if_neg hx] at h
          exact hM x e h
    · have hr : (Ty.mk k nm n ks).repl (nameF g) = .mk k nm n (tysRepl (nameF g) ks) := by
        exact repl_none (nameF_no hk)
      rw [hr]
      unfold matchC
      rw [if_neg hk, if_pos (by simp [topSame, Ty.k, Ty.nm, Ty.n, nmEq_refl]), if_pos (by simp [Ty.ks, repl_map])]
      exact put_matches g ks (good_kids hg) M hM
theorem put_matches (g : ByteArray → Option Ty) : ∀ (l : List Ty), goodL l = true → ∀ M, (∀ x e, lookM M x = some e → e = valF g x) → ∃ M', matchD l (tysRepl (nameF g) l) M = some M' ∧ ∀ x e, lookM M' x = some e → e = valF g x
  | [], _, M, hM => ⟨M, rfl, hM⟩
  | t :: l, hg, M, hM => by
    simp only [goodL, Bool.and_eq_true] at hg
    obtain ⟨M1, h1, hM1⟩ := put_match g t hg.1 M hM
    obtain ⟨M2, h2, hM2⟩ := put_matches g l hg.2 M1 hM1
    refine ⟨M2, ?_, hM2⟩
    unfold tysRepl matchD
    rw [h1]
    exact h2
end
/-- What was found stays found. -/
def Ext (M M' : List (ByteArray × Ty)) : Prop := ∀ x e, lookM M x = some e → lookM M' x = some e
mutual
/-- What matches, put in, is the special type. -/
theorem match_put : ∀ (t s : Ty) (M M' : List (ByteArray × Ty)), goodT t = true → matchC t s M = some M' → Ext M M' ∧ (∀ x ∈ varL t.all, ∃ u, lookM M' x = some u) ∧ ∀ M2, Ext M' M2 → t.repl (nameF (lookM M2)) = s
  | .mk k nm n ks, s, M, M', hg, h => by
    by_cases hk : k = 1
    · obtain ⟨rfl, rfl⟩ := good_var hg hk
      subst hk
      have hr : ∀ (M2 : List (ByteArray × Ty)) (s : Ty), lookM M2 nm = some s → (Ty.mk 1 nm 0 []).repl (nameF (lookM M2)) = s := by
        intro M2 s h
        exact repl_some (by rw [nameF_yes (show Ty.k _ = 1 from rfl)]; exact h)
      have hv : ∀ (M2 : List (ByteArray × Ty)) (s : Ty), lookM M2 nm = some s → ∀ x ∈ varL (Ty.mk 1 nm 0 []).all, ∃ u, lookM M2 x = some u := by
        intro M2 s h x hx
        unfold Ty.all tysAll varL varL at hx
        simp [Ty.k, Ty.nm] at hx
        subst hx
        exact ⟨s, h⟩
      unfold matchC at h
      rw [if_pos rfl] at h
      cases he : lookM M nm with
      | some e =>
        rw [he] at h
        by_cases hs : tySame e s = true
        · have h' : some M = some M' := by rw [← h]; show _ = (if tySame e s then some M else none); rw [if_pos hs]
          obtain rfl := Option.some.inj h'
          have := same_eq _ _ hs
          subst this
          exact ⟨fun _ _ h => h, hv _ _ he, fun M2 h2 => hr _ _ (h2 _ _ he)⟩
        · exfalso
          have h' : (none : Option (List (ByteArray × Ty))) = some M' := by rw [← h]; show _ = (if tySame e s then some M else none); rw [if_neg hs]
          cases h'
      | none =>
        rw [he] at h
        obtain rfl := Option.some.inj h
        have h1 : lookM ((nm, s) :: M) nm = some s := by rw [lookM_cons, if_pos (nmEq_refl nm)]
        refine ⟨fun x e hx => ?_, hv _ _ h1, fun M2 h2 => hr _ _ (h2 _ _ h1)⟩
        rw [lookM_cons]
        by_cases hq : nmEq nm x = true
        · have := nmEq_eq hq
          subst this
          rw [he] at hx; cases hx
        · rw [if_neg hq]; exact hx
    · unfold matchC at h
      rw [if_neg hk] at h
      by_cases ht : topSame (.mk k nm n ks) s = true
      · rw [if_pos ht] at h
        by_cases hl : ks.length = s.ks.length
        · rw [if_pos hl] at h
          obtain ⟨k', nm', n', ks'⟩ := s
          simp only [topSame, Ty.k, Ty.nm, Ty.n, Bool.and_eq_true, beq_iff_eq] at ht
          obtain ⟨rfl, h2, rfl⟩ := ht
          have := nmEq_eq h2
          subst this
          obtain ⟨e1, e2, e3⟩ := match_puts ks ks' M M' (good_kids hg) hl h
          refine ⟨e1, fun x hx => ?_, fun M2 h2 => ?_⟩
          · unfold Ty.all varL at hx
            rw [if_neg (show ¬ (Ty.mk k nm n ks).k = 1 from hk), List.nil_append] at hx
            exact e2 x hx
          · rw [repl_none (nameF_no hk), e3 M2 h2]
        · rw [if_neg hl] at h; cases h
      · rw [if_neg ht] at h; cases h
theorem match_puts : ∀ (l m : List Ty) (M M' : List (ByteArray × Ty)), goodL l = true → l.length = m.length → matchD l m M = some M' → Ext M M' ∧ (∀ x ∈ varL (tysAll l), ∃ u, lookM M' x = some u) ∧ ∀ M2, Ext M' M2 → tysRepl (nameF (lookM M2)) l = m
  | [], [], M, M', _, _, h => by
    obtain rfl := Option.some.inj h
    exact ⟨fun _ _ h => h, fun x hx => by simp [tysAll, varL] at hx, fun _ _ => rfl⟩
  | [], _ :: _, _, _, _, h, _ => by simp at h
  | _ :: _, [], _, _, _, h, _ => by simp at h
  | a :: l, b :: m, M, M', hg, hl, h => by
    simp only [goodL, Bool.and_eq_true] at hg
    unfold matchD at h
    cases h1 : matchC a b M with
    | none => rw [h1] at h; cases h
    | some M1 =>
      rw [h1] at h
      obtain ⟨e1, e2, e3⟩ := match_put a b M M1 hg.1 h1
      obtain ⟨f1, f2, f3⟩ := match_puts l m M1 M' hg.2 (by simpa using hl) h
      refine ⟨fun x e hx => f1 x e (e1 x e hx), fun x hx => ?_, fun M2 h2 => ?_⟩
      · unfold tysAll at hx
        rw [varL_app] at hx
        rcases List.mem_append.1 hx with hx | hx
        · obtain ⟨u, hu⟩ := e2 x hx
          exact ⟨u, f1 x u hu⟩
        · exact f2 x hx
      · unfold tysRepl
        rw [e3 M2 (fun x e hx => h2 x e (f1 x e hx)), f3 M2 h2]
end
theorem match_vars {t s : Ty} (hg : goodT t = true) : ∀ M, matchC t s [] = some M → ∀ x ∈ varsT t, ∃ u, lookM M x = some u := fun M h x hx => (match_put t s [] M hg h).2.1 x (mem_varsT.1 hx)
theorem look_of (M : List (ByteArray × Ty)) : ∀ (l : List ByteArray) (x : ByteArray), x ∈ l → (∀ y ∈ l, ∃ u, lookM M y = some u) → lookT l (tysOf M l) x = lookM M x
  | [], x, h, _ => by simp at h
  | a :: l, x, h, hv => by
    obtain ⟨u, hu⟩ := hv a List.mem_cons_self
    unfold tysOf
    rw [List.map_cons, hu]
    show (if nmEq a x then some u else lookT l (tysOf M l) x) = _
    by_cases hx : nmEq a x = true
    · rw [if_pos hx, ← nmEq_eq hx, hu]
    · rw [if_neg hx]
      rcases List.mem_cons.1 h with rfl | h
      · exact absurd (nmEq_refl x) hx
      · exact look_of M l x h (fun y hy => hv y (List.mem_cons_of_mem _ hy))
/-- What matches, put in by its variables' row. -/
theorem match_back {t s : Ty} {M : List (ByteArray × Ty)} (hg : goodT t = true) (h : matchC t s [] = some M) : t.repl (putF (varsT t) (tysOf M (varsT t))) = s := by
  rw [putF_name, ← (match_put t s [] M hg h).2.2 M (fun _ _ h => h)]
  refine repl_congr t fun u hu => ?_
  unfold nameF
  by_cases hk : u.k = 1
  · rw [if_pos hk, if_pos hk]
    exact look_of M _ _ (mem_varsT.2 ((mem_varB _ _).2 ⟨u, hu, hk, rfl⟩)) (match_vars hg M h)
  · rw [if_neg hk, if_neg hk]
theorem put_found {t : Ty} (hg : goodT t = true) (names : List ByteArray) (ts : List Ty) : ∃ M, matchC t (t.repl (putF names ts)) [] = some M := by
  rw [putF_name]
  obtain ⟨M, h, _⟩ := put_match (lookT names ts) t hg [] (fun x e h => by simp [lookM] at h)
  exact ⟨M, h⟩
/-- A name that does not occur. -/
theorem put_other {t u : Ty} {x : ByteArray} (h : ∀ v ∈ varsT t, nmEq v x = false) : t.repl (putF [x] [u]) = t := by
  refine repl_id t fun a ha => ?_
  rw [putF_name]
  unfold nameF
  by_cases hk : a.k = 1
  · rw [if_pos hk]
    have := h a.nm (mem_varsT.2 ((mem_varB _ _).2 ⟨a, ha, hk, rfl⟩))
    show (if nmEq x a.nm then some u else lookT [] [] a.nm) = none
    by_cases hx : nmEq x a.nm = true
    · rw [nmEq_eq hx, nmEq_refl] at this; cases this
    · rw [if_neg hx]; rfl
  · rw [if_neg hk]
mutual
theorem repl_nodes {f : Ty → Option Ty} {K : Nat} (hK : 1 ≤ K) (hf : ∀ t u, f t = some u → u.nodes ≤ K) : ∀ t : Ty, (t.repl f).nodes ≤ K * t.nodes
  | .mk k nm n ks => by
    cases h : f (.mk k nm n ks) with
    | some u =>
      rw [repl_some h]
      have h1 := hf _ _ h
      have h2 : (Ty.mk k nm n ks).nodes = 1 + tysNodes ks := by rw [Ty.nodes]
      rw [h2, Nat.mul_add]
      omega
    | none =>
      rw [repl_none h]
      have := repls_nodes hK hf ks
      unfold Ty.nodes
      rw [Nat.mul_add]
      omega
theorem repls_nodes {f : Ty → Option Ty} {K : Nat} (hK : 1 ≤ K) (hf : ∀ t u, f t = some u → u.nodes ≤ K) : ∀ l : List Ty, tysNodes (tysRepl f l) ≤ K * tysNodes l
  | [] => by simp [tysRepl, tysNodes]
  | t :: l => by
    have h1 := repl_nodes hK hf t
    have h2 := repls_nodes hK hf l
    simp only [tysRepl, tysNodes]
    rw [Nat.mul_add]
    omega
end
theorem lookT_mem : ∀ (names : List ByteArray) (ts : List Ty) (x : ByteArray) (u : Ty), lookT names ts x = some u → u ∈ ts
  | [], ts, x, u, h => by unfold lookT at h; simp at h
  | a :: l, [], x, u, h => by unfold lookT at h; simp at h
  | a :: l, t :: ts, x, u, h => by
    have h' : (if nmEq a x then some t else lookT l ts x) = some u := h
    by_cases hx : nmEq a x = true
    · rw [if_pos hx] at h'
      exact (Option.some.inj h') ▸ List.mem_cons_self
    · rw [if_neg hx] at h'
      exact List.mem_cons_of_mem _ (lookT_mem l ts x u h')
theorem put_nodes {names : List ByteArray} {ts : List Ty} {K : Nat} (hK : 1 ≤ K) (h : ∀ t ∈ ts, t.nodes ≤ K) (t : Ty) : (t.repl (putF names ts)).nodes ≤ K * t.nodes := by
  refine repl_nodes hK (fun a u hu => ?_) t
  unfold putF at hu
  by_cases hk : a.k = 1
  · rw [if_pos hk] at hu
    exact h u (lookT_mem _ _ _ _ hu)
  · rw [if_neg hk] at hu; cases hu
theorem own_str {w : World} {base : Nat} {v : Value} {n : Nat} {xs : List Value} (h : w.ownsRow base 9 1 v n xs) : ∃ (A : Option Addr) (c : Nat), v = .slice A n c ∧ n ≤ c ∧ Reads w w.heap.size 1 A n xs := by
  obtain ⟨A, c, rfl, hc⟩ := own_shape4 h
  obtain ⟨A', c', e, hr⟩ := own_shape h
  injection e with e1 e2 e3
  subst e1
  exact ⟨A, c, rfl, hc, hr⟩
/-- What Match answers, where there is one. -/
theorem MatPost.yes {B nv : Nat} {t s : Ty} {M : List (ByteArray × Ty)} {w w' : World} {e : Ending} (h : matchC t s [] = some M) (hn : (varsT t).length = nv) (hB : B ≤ w.heap.size) (hp : MatPost B t s w e w') :
    ∃ (A A' : Option Addr) (c c' : Nat) (L : List (List Value)), e = .returned (.tuple #[.slice A nv c, .slice A' nv c', .bool true]) ∧ nv ≤ c ∧ Reads w' w'.heap.size 1 A nv (nmVals (varsT t)) ∧ TysAt w' w'.heap.size A' (tysOf M (varsT t)) L ∧ Below w.heap.size w w' := by
  subst hn
  unfold MatPost at hp
  rw [h] at hp
  obtain ⟨hb, v1, v2, L, rfl, h1, h2, h3⟩ := hp
  obtain ⟨A, c, rfl, hc, hr⟩ := own_str h1
  have hl : (tysOf M (varsT t)).length = (varsT t).length := by unfold tysOf; rw [List.length_map]
  rw [← hl] at h2
  obtain ⟨A', c', rfl, _, _, hy⟩ := own_tys h2 h3 (Nat.le_trans hB hb.size)
  rw [hl]
  exact ⟨A, A', c, c', L, rfl, hc, hr, hy, hb⟩
theorem tysOf_len (M : List (ByteArray × Ty)) (l : List ByteArray) : (tysOf M l).length = l.length := by unfold tysOf; rw [List.length_map]
theorem row_1 (w : World) (cs : List Value) (hc : cs.length = 4) (T : TypeId) : Row (w.alloc (.cells cs.toArray T)) (w.heap.size + 1) 4 (some ⟨w.heap.size, 0, none⟩) 1 [cs] := by
  refine ⟨rfl, fun l hl => by simp at hl; subst hl; assumption, ⟨by simp [hc], fun _ => ⟨_, rfl, by simp, fun j u hu => ?_⟩⟩⟩
  exact new_cells w cs j u (by simpa using hu)
theorem tys_1 {W : World} {U : Ty} {cs : List Value} (h : TyAt W W.heap.size cs U) (T : TypeId) : TysAt (W.alloc (.cells cs.toArray T)) (W.heap.size + 1) (some ⟨W.heap.size, 0, none⟩) [U] [cs] :=
  ⟨row_1 W cs h.four T, fun i h1 h2 => by
    have h0 : i = 0 := by simp at h1; omega
    subst h0
    exact (h.later ((Below.refl W.heap.size W).alloc (Nat.le_refl _) _)).more (by omega)⟩
theorem names_1 (W : World) (x : ByteArray) (T : TypeId) : Reads (W.alloc (.cells #[.string x] T)) (W.heap.size + 1) 1 (some ⟨W.heap.size, 0, none⟩) 1 (nmVals [x]) :=
  ⟨rfl, fun _ => ⟨_, rfl, by simp, fun j u hu => new_cells W [.string x] j u hu⟩⟩
end Go.Proofs.Ytgmcjnhaedfinaa
