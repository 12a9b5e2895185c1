/- Walks: the program's equality of types and patterns. -/
import Derived.Test.YtglamoiimmahgaaPla
import Derived.Test.YtglamoiimmahgaaSames
namespace Go.Proofs.Ytglamoiimmahgaa
open Go.RowKit
set_option linter.unusedVariables false
set_option linter.unusedSimpArgs false
set_option maxRecDepth 100000

/-- The verdict on the i-th pair. -/
def pairAt {α : Type} (f : α → α → Bool) (xs ys : List α) (i : Nat) : Bool := match xs[i]?, ys[i]? with
  | some x, some y => f x y
  | _, _ => false
theorem pairAt_of {α : Type} (f : α → α → Bool) (xs ys : List α) (i : Nat) (h1 : i < xs.length) (h2 : i < ys.length) : pairAt f xs ys i = f xs[i] ys[i] := by
  unfold pairAt; rw [List.getElem?_eq_getElem h1, List.getElem?_eq_getElem h2]
theorem pairs_all {α : Type} (f : α → α → Bool) (g : List α → List α → Bool) (xs ys : List α)
    (hy : xs.length = ys.length → (∀ j (h1 : j < xs.length) (h2 : j < ys.length), f xs[j] ys[j] = true) → g xs ys = true)
    (hn : xs.length = ys.length → ∀ k (h1 : k < xs.length) (h2 : k < ys.length), f xs[k] ys[k] = false → g xs ys = false) :
    (xs.length == ys.length && (List.range xs.length).all (pairAt f xs ys)) = (xs.length == ys.length && g xs ys) := by
  by_cases h : xs.length = ys.length
  · congr 1
    by_cases hall : ∀ j, j < xs.length → pairAt f xs ys j = true
    · rw [all_yes hall, hy h (fun j h1 h2 => by rw [← pairAt_of f xs ys j h1 h2]; exact hall j h1)]
    · obtain ⟨k, hk⟩ := Classical.not_forall.1 hall
      obtain ⟨hk1, hk2⟩ := Classical.not_imp.1 hk
      have hk3 : pairAt f xs ys k = false := by simpa using hk2
      rw [all_no hk1 hk3, hn h k hk1 (by omega) (by rw [← pairAt_of f xs ys k hk1 (by omega)]; exact hk3)]
  · rw [show (xs.length == ys.length) = false by simpa using h]; rfl
theorem ty_ones {w : World} {B : Nat} {cs : List Value} {t : Ty} (h : TyAt w B cs t) : ∀ u ∈ cs, u.oneCell' = true := by
  cases h with
  | mk => intro u hu; simp only [List.mem_cons, List.not_mem_nil, or_false] at hu; rcases hu with rfl | rfl | rfl | rfl <;> rfl
theorem pt_ones {w : World} {B : Nat} {cs : List Value} {t : Pt} (h : PtAt w B cs t) : ∀ u ∈ cs, u.oneCell' = true := by
  cases h with
  | mk => intro u hu; simp only [List.mem_cons, List.not_mem_nil, or_false] at hu; rcases hu with rfl | rfl | rfl | rfl | rfl <;> rfl
theorem ex_ones {w : World} {B : Nat} {cs : List Value} {t : Ex} (h : ExAt w B cs t) : ∀ u ∈ cs, u.oneCell' = true := by
  cases h with
  | mk hk hs hn hq ht => 
    have := ty_ones ht
    intro u hu
    simp only [List.mem_append, List.mem_cons, List.not_mem_nil, or_false] at hu
    rcases hu with (((rfl | rfl | rfl) | hu) | (rfl | rfl | rfl | rfl))
    all_goals first | rfl | exact this _ hu
theorem al_ones {w : World} {B : Nat} {cs : List Value} {t : Al} (h : AlAt w B cs t) : ∀ u ∈ cs, u.oneCell' = true := by
  cases h with
  | mk hp he =>
    intro u hu
    rcases List.mem_append.1 hu with hu | hu
    · exact pt_ones hp u hu
    · exact ex_ones he u hu
theorem bd_ones {w : World} {B : Nat} {cs : List Value} {t : Bd} (h : BdAt w B cs t) : ∀ u ∈ cs, u.oneCell' = true := by
  cases h with
  | mk hs he hq =>
    intro u hu
    simp only [List.mem_append, List.mem_cons, List.not_mem_nil, or_false] at hu
    rcases hu with (rfl | hu) | rfl
    · rfl
    · exact ex_ones he u hu
    · rfl

theorem pall_ty (xs ys : List Ty) (A A' : Option Addr) (L L' : List (List Value)) (c c' B : Nat) (w : World) (hB : B ≤ w.heap.size) (hn9 : xs.length ≤ 9223372036854775807) (hr : Row w B 4 A xs.length L) (hx : ∀ i (h1 : i < L.length) (h2 : i < xs.length), TyAt w B L[i] xs[i])
    (hr' : Row w B 4 A' ys.length L') (hy : ∀ i (h1 : i < L'.length) (h2 : i < ys.length), TyAt w B L'[i] ys[i])
    (ih : ∀ t ∈ xs, ∀ (u : Ty) (w : World) (cs ds : List Value), B ≤ w.heap.size → TyAt w B cs t → TyAt w B ds u → Calls Try.prog 16 #[.agg cs.toArray, .agg ds.toArray] w fun e w' => e = .returned (.bool (tySame t u)) ∧ Below w.heap.size w w') :
    Calls Try.prog 40 #[.slice A xs.length c, .slice A' ys.length c', .func (.func 16) #[] #[]] w fun e w' => e = .returned (.bool (xs.length == ys.length && tysSame xs ys)) ∧ Below w.heap.size w w' := by
  rw [← pairs_all tySame tysSame xs ys (tys_yes xs ys) (tys_no xs ys)]
  refine plist_ty xs.length ys.length A A' c c' B w L L' (pairAt tySame xs ys) hB hn9 hr hr' ?_ ?_
  · intro l hl u hu
    obtain ⟨i, hi, rfl⟩ := List.getElem_of_mem hl
    exact ty_ones (hx i hi (by rw [← hr.len]; exact hi)) u hu
  · intro i h1 h2 w' hb
    have k1 : i < xs.length := by rw [← hr.len]; exact h1
    have k2 : i < ys.length := by rw [← hr'.len]; exact h2
    rw [pairAt_of tySame xs ys i k1 k2]
    exact ih xs[i] (List.getElem_mem k1) ys[i] w' L[i] L'[i] (Nat.le_trans hB hb.size) ((hx i h1 k1).later (hb.mono hB)) ((hy i h2 k2).later (hb.mono hB))

theorem pall_pt (xs ys : List Pt) (A A' : Option Addr) (L L' : List (List Value)) (c c' B : Nat) (w : World) (hB : B ≤ w.heap.size) (hn9 : xs.length ≤ 9223372036854775807) (hr : Row w B 5 A xs.length L) (hx : ∀ i (h1 : i < L.length) (h2 : i < xs.length), PtAt w B L[i] xs[i])
    (hr' : Row w B 5 A' ys.length L') (hy : ∀ i (h1 : i < L'.length) (h2 : i < ys.length), PtAt w B L'[i] ys[i])
    (ih : ∀ t ∈ xs, ∀ (u : Pt) (w : World) (cs ds : List Value), B ≤ w.heap.size → PtAt w B cs t → PtAt w B ds u → Calls Try.prog 18 #[.agg cs.toArray, .agg ds.toArray] w fun e w' => e = .returned (.bool (ptSame t u)) ∧ Below w.heap.size w w') :
    Calls Try.prog 42 #[.slice A xs.length c, .slice A' ys.length c', .func (.func 18) #[] #[]] w fun e w' => e = .returned (.bool (xs.length == ys.length && ptsSame xs ys)) ∧ Below w.heap.size w w' := by
  rw [← pairs_all ptSame ptsSame xs ys (pts_yes xs ys) (pts_no xs ys)]
  refine plist_pt xs.length ys.length A A' c c' B w L L' (pairAt ptSame xs ys) hB hn9 hr hr' ?_ ?_
  · intro l hl u hu
    obtain ⟨i, hi, rfl⟩ := List.getElem_of_mem hl
    exact pt_ones (hx i hi (by rw [← hr.len]; exact hi)) u hu
  · intro i h1 h2 w' hb
    have k1 : i < xs.length := by rw [← hr.len]; exact h1
    have k2 : i < ys.length := by rw [← hr'.len]; exact h2
    rw [pairAt_of ptSame xs ys i k1 k2]
    exact ih xs[i] (List.getElem_mem k1) ys[i] w' L[i] L'[i] (Nat.le_trans hB hb.size) ((hx i h1 k1).later (hb.mono hB)) ((hy i h2 k2).later (hb.mono hB))

theorem pall_ex (xs ys : List Ex) (A A' : Option Addr) (L L' : List (List Value)) (c c' B : Nat) (w : World) (hB : B ≤ w.heap.size) (hn9 : xs.length ≤ 9223372036854775807) (hr : Row w B 11 A xs.length L) (hx : ∀ i (h1 : i < L.length) (h2 : i < xs.length), ExAt w B L[i] xs[i])
    (hr' : Row w B 11 A' ys.length L') (hy : ∀ i (h1 : i < L'.length) (h2 : i < ys.length), ExAt w B L'[i] ys[i])
    (ih : ∀ t ∈ xs, ∀ (u : Ex) (w : World) (cs ds : List Value), B ≤ w.heap.size → ExAt w B cs t → ExAt w B ds u → Calls Try.prog 14 #[.agg cs.toArray, .agg ds.toArray] w fun e w' => e = .returned (.bool (exSame t u)) ∧ Below w.heap.size w w') :
    Calls Try.prog 34 #[.slice A xs.length c, .slice A' ys.length c', .func (.func 14) #[] #[]] w fun e w' => e = .returned (.bool (xs.length == ys.length && exsSame xs ys)) ∧ Below w.heap.size w w' := by
  rw [← pairs_all exSame exsSame xs ys (exs_yes xs ys) (exs_no xs ys)]
  refine plist_ex xs.length ys.length A A' c c' B w L L' (pairAt exSame xs ys) hB hn9 hr hr' ?_ ?_
  · intro l hl u hu
    obtain ⟨i, hi, rfl⟩ := List.getElem_of_mem hl
    exact ex_ones (hx i hi (by rw [← hr.len]; exact hi)) u hu
  · intro i h1 h2 w' hb
    have k1 : i < xs.length := by rw [← hr.len]; exact h1
    have k2 : i < ys.length := by rw [← hr'.len]; exact h2
    rw [pairAt_of exSame xs ys i k1 k2]
    exact ih xs[i] (List.getElem_mem k1) ys[i] w' L[i] L'[i] (Nat.le_trans hB hb.size) ((hx i h1 k1).later (hb.mono hB)) ((hy i h2 k2).later (hb.mono hB))

theorem pall_bd (xs ys : List Bd) (A A' : Option Addr) (L L' : List (List Value)) (c c' B : Nat) (w : World) (hB : B ≤ w.heap.size) (hn9 : xs.length ≤ 9223372036854775807) (hr : Row w B 13 A xs.length L) (hx : ∀ i (h1 : i < L.length) (h2 : i < xs.length), BdAt w B L[i] xs[i])
    (hr' : Row w B 13 A' ys.length L') (hy : ∀ i (h1 : i < L'.length) (h2 : i < ys.length), BdAt w B L'[i] ys[i])
    (ih : ∀ t ∈ xs, ∀ (u : Bd) (w : World) (cs ds : List Value), B ≤ w.heap.size → BdAt w B cs t → BdAt w B ds u → Calls Try.prog 36 #[.agg cs.toArray, .agg ds.toArray] w fun e w' => e = .returned (.bool (bdSame t u)) ∧ Below w.heap.size w w') :
    Calls Try.prog 35 #[.slice A xs.length c, .slice A' ys.length c', .func (.func 36) #[] #[]] w fun e w' => e = .returned (.bool (xs.length == ys.length && bdsSame xs ys)) ∧ Below w.heap.size w w' := by
  rw [← pairs_all bdSame bdsSame xs ys (bds_yes xs ys) (bds_no xs ys)]
  refine plist_bd xs.length ys.length A A' c c' B w L L' (pairAt bdSame xs ys) hB hn9 hr hr' ?_ ?_
  · intro l hl u hu
    obtain ⟨i, hi, rfl⟩ := List.getElem_of_mem hl
    exact bd_ones (hx i hi (by rw [← hr.len]; exact hi)) u hu
  · intro i h1 h2 w' hb
    have k1 : i < xs.length := by rw [← hr.len]; exact h1
    have k2 : i < ys.length := by rw [← hr'.len]; exact h2
    rw [pairAt_of bdSame xs ys i k1 k2]
    exact ih xs[i] (List.getElem_mem k1) ys[i] w' L[i] L'[i] (Nat.le_trans hB hb.size) ((hx i h1 k1).later (hb.mono hB)) ((hy i h2 k2).later (hb.mono hB))

theorem pall_al (xs ys : List Al) (A A' : Option Addr) (L L' : List (List Value)) (c c' B : Nat) (w : World) (hB : B ≤ w.heap.size) (hn9 : xs.length ≤ 9223372036854775807) (hr : Row w B 16 A xs.length L) (hx : ∀ i (h1 : i < L.length) (h2 : i < xs.length), AlAt w B L[i] xs[i])
    (hr' : Row w B 16 A' ys.length L') (hy : ∀ i (h1 : i < L'.length) (h2 : i < ys.length), AlAt w B L'[i] ys[i])
    (ih : ∀ t ∈ xs, ∀ (u : Al) (w : World) (cs ds : List Value), B ≤ w.heap.size → AlAt w B cs t → AlAt w B ds u → Calls Try.prog 38 #[.agg cs.toArray, .agg ds.toArray] w fun e w' => e = .returned (.bool (alSame t u)) ∧ Below w.heap.size w w') :
    Calls Try.prog 37 #[.slice A xs.length c, .slice A' ys.length c', .func (.func 38) #[] #[]] w fun e w' => e = .returned (.bool (xs.length == ys.length && alsSame xs ys)) ∧ Below w.heap.size w w' := by
  rw [← pairs_all alSame alsSame xs ys (als_yes xs ys) (als_no xs ys)]
  refine plist_al xs.length ys.length A A' c c' B w L L' (pairAt alSame xs ys) hB hn9 hr hr' ?_ ?_
  · intro l hl u hu
    obtain ⟨i, hi, rfl⟩ := List.getElem_of_mem hl
    exact al_ones (hx i hi (by rw [← hr.len]; exact hi)) u hu
  · intro i h1 h2 w' hb
    have k1 : i < xs.length := by rw [← hr.len]; exact h1
    have k2 : i < ys.length := by rw [← hr'.len]; exact h2
    rw [pairAt_of alSame xs ys i k1 k2]
    exact ih xs[i] (List.getElem_mem k1) ys[i] w' L[i] L'[i] (Nat.le_trans hB hb.size) ((hx i h1 k1).later (hb.mono hB)) ((hy i h2 k2).later (hb.mono hB))

set_option maxHeartbeats 1600000 in
theorem psametype_any (N : Nat) : ∀ (t u : Ty), t.nodes ≤ N → ∀ (B : Nat) (w : World) (cs ds : List Value), B ≤ w.heap.size → TyAt w B cs t → TyAt w B ds u →
    Calls Try.prog 16 #[.agg cs.toArray, .agg ds.toArray] w fun e w' => e = .returned (.bool (tySame t u)) ∧ Below w.heap.size w w' := by
  induction N with
  | zero => intro t u h; cases t; unfold Ty.nodes at h; omega
  | succ N ih =>
    intro t u hN B w cs ds hB hx hy
    cases hx with
    | @mk k n nm A c ks L hk hs hn hc hm hbt hr hks =>
    cases hy with
    | @mk k' n' nm' A' c' ks' L' hk' hs' hn' hc' hm' hbt' hr' hks' =>
    unfold Ty.nodes at hN
    have hl9 : ks.length ≤ 9223372036854775807 := by omega
    have C1 := Lib.hid (fun W (hb : Below w.heap.size w W) => pall_ty ks ks' A A' L L' c c' B W (Nat.le_trans hB hb.size) hl9 (hr.keep fun _ hp => (hb.mono hB).cell hp) (fun i h1 h2 => (hks i h1 h2).later (hb.mono hB)) (hr'.keep fun _ hp => (hb.mono hB).cell hp) (fun i h1 h2 => (hks' i h1 h2).later (hb.mono hB))
      (fun t ht u w cs ds h1 h2 h3 => ih t u (by have := tys_mem ks t ht; omega) B w cs ds h1 h2 h3))
    obtain ⟨v, hv⟩ : ∃ v, (ks.length == ks'.length && tysSame ks ks') = v := ⟨_, rfl⟩
    rw [hv] at C1
    have HS := Lib.hid (show tySame (.mk k nm n ks) (.mk k' nm' n' ks') = (k == k' && (nm.data.toList == nm'.data.toList && (n == n' && v))) by rw [← hv]; rfl)
    clear hl9 hr hks hr' hks' ih hv hc hm hc' hm' hN hbt hbt'
    have hg : Below w.heap.size w ((w.alloc (.cells #[.int .i64 k, .string nm, .int .i64 n, .slice A ks.length c] 24)).alloc (.cells #[.int .i64 k', .string nm', .int .i64 n', .slice A' ks'.length c'] 24)) := ((Below.refl _ _).alloc (Nat.le_refl _) _).alloc (by simp) _
    have HG := Lib.hid hg
    clear hg
    by_cases e1 : k = k'
    · have d1 : (k == k') = true := by simpa using e1
      by_cases e2 : nm.data.toList = nm'.data.toList
      · have d2 := nm_same e2
        have d2' : (nm.data.toList == nm'.data.toList) = true := by simpa using e2
        by_cases e3 : n = n'
        · have d3 : (n == n') = true := by simpa using e3
          have HE := Lib.hid (show tySame (.mk k nm n ks) (.mk k' nm' n' ks') = v by rw [HS.out, d1, d2', d3]; simp)
          clear e1 e2 e3 d2'
          go_enter Try.func16, Try.ntmps16
          go_wp2_with (go_at_call 40; (with_reducible refine (C1.out _ HG.out).mono ?_); rintro e w2 ⟨rfl, hb2⟩)
          go_ret
          exact ⟨ret_bool HE.out.symm, HG.out.trans (hb2.mono HG.out.size)⟩
        · have d3 : (n == n') = false := by simpa using e3
          have HE := Lib.hid (show tySame (.mk k nm n ks) (.mk k' nm' n' ks') = false by rw [HS.out, d3]; simp)
          clear e1 e2 e3 d2'
          go_enter Try.func16, Try.ntmps16
          go_wp2_with fail
          go_ret
          exact ⟨ret_bool HE.out.symm, HG.out⟩
      · have d2 := nm_other e2
        have HE := Lib.hid (show tySame (.mk k nm n ks) (.mk k' nm' n' ks') = false by rw [HS.out, show (nm.data.toList == nm'.data.toList) = false by simpa using e2]; simp)
        clear e1 e2
        go_enter Try.func16, Try.ntmps16
        go_wp2_with fail
        go_ret
        exact ⟨ret_bool HE.out.symm, HG.out⟩
    · have d1 : (k == k') = false := by simpa using e1
      have HE := Lib.hid (show tySame (.mk k nm n ks) (.mk k' nm' n' ks') = false by rw [HS.out, d1]; simp)
      clear e1
      go_enter Try.func16, Try.ntmps16
      go_wp2_with fail
      go_ret
      exact ⟨ret_bool HE.out.symm, HG.out⟩

set_option maxHeartbeats 1600000 in
theorem psamepat_any (N : Nat) : ∀ (t u : Pt), t.nodes ≤ N → ∀ (B : Nat) (w : World) (cs ds : List Value), B ≤ w.heap.size → PtAt w B cs t → PtAt w B ds u →
    Calls Try.prog 18 #[.agg cs.toArray, .agg ds.toArray] w fun e w' => e = .returned (.bool (ptSame t u)) ∧ Below w.heap.size w w' := by
  induction N with
  | zero => intro t u h; cases t; unfold Pt.nodes at h; omega
  | succ N ih =>
    intro t u hN B w cs ds hB hx hy
    cases hx with
    | @mk k n q nm A c ks L hk hs hn hc hm hq hbt hr hks =>
    cases hy with
    | @mk k' n' q' nm' A' c' ks' L' hk' hs' hn' hc' hm' hq' hbt' hr' hks' =>
    unfold Pt.nodes at hN
    have hl9 : ks.length ≤ 9223372036854775807 := by omega
    have C1 := Lib.hid (fun W (hb : Below w.heap.size w W) => pall_pt ks ks' A A' L L' c c' B W (Nat.le_trans hB hb.size) hl9 (hr.keep fun _ hp => (hb.mono hB).cell hp) (fun i h1 h2 => (hks i h1 h2).later (hb.mono hB)) (hr'.keep fun _ hp => (hb.mono hB).cell hp) (fun i h1 h2 => (hks' i h1 h2).later (hb.mono hB))
      (fun t ht u w cs ds h1 h2 h3 => ih t u (by have := pts_mem ks t ht; omega) B w cs ds h1 h2 h3))
    obtain ⟨v, hv⟩ : ∃ v, (ks.length == ks'.length && ptsSame ks ks') = v := ⟨_, rfl⟩
    rw [hv] at C1
    have HS := Lib.hid (show ptSame (.mk k nm n ks q) (.mk k' nm' n' ks' q') = (k == k' && (nm.data.toList == nm'.data.toList && (n == n' && v))) by rw [← hv]; rfl)
    clear hl9 hr hks hr' hks' ih hv hc hm hc' hm' hN hbt hbt'
    have hg : Below w.heap.size w ((w.alloc (.cells #[.int .i64 k, .string nm, .int .i64 n, .slice A ks.length c, .int .i64 q] 39)).alloc (.cells #[.int .i64 k', .string nm', .int .i64 n', .slice A' ks'.length c', .int .i64 q'] 39)) := ((Below.refl _ _).alloc (Nat.le_refl _) _).alloc (by simp) _
    have HG := Lib.hid hg
    clear hg
    by_cases e1 : k = k'
    · have d1 : (k == k') = true := by simpa using e1
      by_cases e2 : nm.data.toList = nm'.data.toList
      · have d2 := nm_same e2
        have d2' : (nm.data.toList == nm'.data.toList) = true := by simpa using e2
        by_cases e3 : n = n'
        · have d3 : (n == n') = true := by simpa using e3
          have HE := Lib.hid (show ptSame (.mk k nm n ks q) (.mk k' nm' n' ks' q') = v by rw [HS.out, d1, d2', d3]; simp)
          clear e1 e2 e3 d2'
          go_enter Try.func18, Try.ntmps18
          go_wp2_with (go_at_call 42; (with_reducible refine (C1.out _ HG.out).mono ?_); rintro e w2 ⟨rfl, hb2⟩)
          go_ret
          exact ⟨ret_bool HE.out.symm, HG.out.trans (hb2.mono HG.out.size)⟩
        · have d3 : (n == n') = false := by simpa using e3
          have HE := Lib.hid (show ptSame (.mk k nm n ks q) (.mk k' nm' n' ks' q') = false by rw [HS.out, d3]; simp)
          clear e1 e2 e3 d2'
          go_enter Try.func18, Try.ntmps18
          go_wp2_with fail
          go_ret
          exact ⟨ret_bool HE.out.symm, HG.out⟩
      · have d2 := nm_other e2
        have HE := Lib.hid (show ptSame (.mk k nm n ks q) (.mk k' nm' n' ks' q') = false by rw [HS.out, show (nm.data.toList == nm'.data.toList) = false by simpa using e2]; simp)
        clear e1 e2
        go_enter Try.func18, Try.ntmps18
        go_wp2_with fail
        go_ret
        exact ⟨ret_bool HE.out.symm, HG.out⟩
    · have d1 : (k == k') = false := by simpa using e1
      have HE := Lib.hid (show ptSame (.mk k nm n ks q) (.mk k' nm' n' ks' q') = false by rw [HS.out, d1]; simp)
      clear e1
      go_enter Try.func18, Try.ntmps18
      go_wp2_with fail
      go_ret
      exact ⟨ret_bool HE.out.symm, HG.out⟩


end Go.Proofs.Ytglamoiimmahgaa
