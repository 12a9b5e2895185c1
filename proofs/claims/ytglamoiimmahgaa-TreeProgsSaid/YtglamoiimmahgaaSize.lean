/- Walks: the document's size and depth. -/
import Derived.Test.YtglamoiimmahgaaPartw
namespace Go.Proofs.Ytglamoiimmahgaa
open Go.RowKit
set_option linter.unusedVariables false

mutual
def Ex.size : Ex → Nat
  | .mk _ _ _ _ ks als bs _ => 1 + exsSize ks + alsSize als + bdsSize bs
def exsSize : List Ex → Nat
  | [] => 0
  | t :: ts => Ex.size t + exsSize ts
def Al.size : Al → Nat
  | .mk _ e => Ex.size e
def alsSize : List Al → Nat
  | [] => 0
  | t :: ts => Al.size t + alsSize ts
def Bd.size : Bd → Nat
  | .mk _ e _ => Ex.size e
def bdsSize : List Bd → Nat
  | [] => 0
  | t :: ts => Bd.size t + bdsSize ts
end
mutual
def Ex.deep : Ex → Nat
  | .mk _ _ _ _ ks als bs _ => 1 + max (exsDeep ks) (max (alsDeep als) (bdsDeep bs))
def exsDeep : List Ex → Nat
  | [] => 0
  | t :: ts => max (Ex.deep t) (exsDeep ts)
def Al.deep : Al → Nat
  | .mk _ e => Ex.deep e
def alsDeep : List Al → Nat
  | [] => 0
  | t :: ts => max (Al.deep t) (alsDeep ts)
def Bd.deep : Bd → Nat
  | .mk _ e _ => Ex.deep e
def bdsDeep : List Bd → Nat
  | [] => 0
  | t :: ts => max (Bd.deep t) (bdsDeep ts)
end
theorem exsSize_app : ∀ a b : List Ex, exsSize (a ++ b) = exsSize a + exsSize b
  | [], b => by simp [exsSize]
  | x :: a, b => by simp only [List.cons_append, exsSize, exsSize_app a b]; omega
theorem exsDeep_app : ∀ a b : List Ex, exsDeep (a ++ b) = max (exsDeep a) (exsDeep b)
  | [], b => by simp [exsDeep]
  | x :: a, b => by simp only [List.cons_append, exsDeep, exsDeep_app a b]; omega
theorem alsSize_map : ∀ a : List Al, exsSize (a.map Al.exp) = alsSize a ∧ exsDeep (a.map Al.exp) = alsDeep a
  | [] => ⟨rfl, rfl⟩
  | .mk p e :: a => by
    have := alsSize_map a
    simp only [List.map_cons, exsSize, exsDeep, alsSize, alsDeep, this.1, this.2]
    exact ⟨rfl, rfl⟩
theorem bdsSize_map : ∀ a : List Bd, exsSize (a.map Bd.exp) = bdsSize a ∧ exsDeep (a.map Bd.exp) = bdsDeep a
  | [] => ⟨rfl, rfl⟩
  | .mk nm e q :: a => by
    have := bdsSize_map a
    simp only [List.map_cons, exsSize, exsDeep, bdsSize, bdsDeep, this.1, this.2]
    exact ⟨rfl, rfl⟩
theorem size_parts (e : Ex) : e.size = 1 + exsSize e.parts ∧ e.deep = 1 + exsDeep e.parts := by
  cases e with
  | mk k nm n t ks als bs q =>
    unfold Ex.size Ex.deep Ex.parts
    by_cases h : k = 7
    · simp only [h, if_true, exsSize_app, exsDeep_app, exsSize, exsDeep, (alsSize_map als).1, (alsSize_map als).2, (bdsSize_map bs).1, (bdsSize_map bs).2]; omega
    · simp only [h, if_false, exsSize_app, exsDeep_app, exsSize, exsDeep, (alsSize_map als).1, (alsSize_map als).2, (bdsSize_map bs).1, (bdsSize_map bs).2]; omega
theorem part_nodes (e x : Ex) (h : x ∈ e.parts) : x.nodes < e.nodes := by
  have h1 : ∀ l : List Ex, ∀ x ∈ l, x.nodes ≤ exsNodes l := by
    intro l x hx
    obtain ⟨i, hi, rfl⟩ := List.getElem_of_mem hx
    exact exs_mem l i hi
  have h2 : ∀ l : List Bd, ∀ x ∈ l.map Bd.exp, x.nodes ≤ bdsNodes l := by
    intro l x hx
    obtain ⟨b, hb, rfl⟩ := List.mem_map.1 hx
    obtain ⟨i, hi, rfl⟩ := List.getElem_of_mem hb
    have := bds_mem l i hi
    cases hl : l[i] with
    | mk nm e q => rw [hl] at this; unfold Bd.nodes at this; unfold Bd.exp; simp only; omega
  have h3 : ∀ l : List Al, ∀ x ∈ l.map Al.exp, x.nodes ≤ alsNodes l := by
    intro l x hx
    obtain ⟨b, hb, rfl⟩ := List.mem_map.1 hx
    obtain ⟨i, hi, rfl⟩ := List.getElem_of_mem hb
    have := als_mem l i hi
    cases hl : l[i] with
    | mk p e => rw [hl] at this; unfold Al.nodes at this; unfold Al.exp; simp only; omega
  cases e with
  | mk k nm n t ks als bs q =>
    unfold Ex.parts at h
    show x.nodes < 1 + exsNodes ks + alsNodes als + bdsNodes bs
    simp only [List.mem_append] at h
    rcases h with ((h | h) | h) | h
    · by_cases h7 : k = 7
      · simp [h7] at h
      · simp only [h7, if_false] at h; have := h1 ks x h; omega
    · have := h2 bs x h; omega
    · by_cases h7 : k = 7
      · simp only [h7, if_true] at h; have := h1 ks x h; omega
      · simp [h7] at h
    · have := h3 als x h; omega
theorem size_le (N : Nat) : ∀ e : Ex, e.nodes ≤ N → e.size ≤ e.nodes ∧ e.deep ≤ e.nodes := by
  induction N with
  | zero => intro e h; cases e; unfold Ex.nodes at h; omega
  | succ N ih =>
    intro e h
    have h1 : ∀ l : List Ex, exsNodes l ≤ N → exsSize l ≤ exsNodes l ∧ exsDeep l ≤ exsNodes l := by
      intro l; induction l with
      | nil => intro _; exact ⟨Nat.le_refl _, Nat.le_refl _⟩
      | cons a l ihl => intro hl; unfold exsNodes at hl; have := ih a (by omega); have := ihl (by omega); unfold exsSize exsDeep exsNodes; omega
    have h2 : ∀ l : List Bd, bdsNodes l ≤ N → bdsSize l ≤ bdsNodes l ∧ bdsDeep l ≤ bdsNodes l := by
      intro l; induction l with
      | nil => intro _; exact ⟨Nat.le_refl _, Nat.le_refl _⟩
      | cons a l ihl => intro hl; cases a with
        | mk nm e q => unfold bdsNodes Bd.nodes at hl; have := ih e (by omega); have := ihl (by omega); unfold bdsSize bdsDeep bdsNodes Bd.size Bd.deep Bd.nodes; omega
    have h3 : ∀ l : List Al, alsNodes l ≤ N → alsSize l ≤ alsNodes l ∧ alsDeep l ≤ alsNodes l := by
      intro l; induction l with
      | nil => intro _; exact ⟨Nat.le_refl _, Nat.le_refl _⟩
      | cons a l ihl => intro hl; cases a with
        | mk p e => unfold alsNodes Al.nodes at hl; have := ih e (by omega); have := ihl (by omega); unfold alsSize alsDeep alsNodes Al.size Al.deep Al.nodes; omega
    cases e with
    | mk k nm n t ks als bs q =>
      unfold Ex.nodes at h
      have := h1 ks (by omega); have := h2 bs (by omega); have := h3 als (by omega)
      unfold Ex.size Ex.deep Ex.nodes; omega
theorem exsSize_take (l : List Ex) (i : Nat) (h : i < l.length) : exsSize (l.take (i + 1)) = exsSize (l.take i) + l[i].size ∧ exsDeep (l.take (i + 1)) = max (exsDeep (l.take i)) l[i].deep := by
  rw [List.take_succ_eq_append_getElem h, exsSize_app, exsDeep_app]
  simp only [exsSize, exsDeep]
  omega

/-- What Parts answers, as a row to be read. -/
theorem parts_row {w w' : World} {B : Nat} {es : List Ex} {e : Ending} (h : PartsSays w B es e w') : ∃ (A : Option Addr) (c : Nat) (L : List (List Value)), e = .returned (.slice A es.length c) ∧ Row w' w'.heap.size 11 A es.length L ∧ ExsAt w' B es L ∧ Below w.heap.size w w' := by
  obtain ⟨v, L, he, hx, ho, hb⟩ := h
  have hr := ho.2
  rcases hr with ⟨rfl, h0⟩ | ⟨g, cap, cur, rfl, _⟩
  · have hL : L = [] := List.eq_nil_of_length_eq_zero (by rw [hx.len]; exact h0)
    subst hL
    rw [h0]
    exact ⟨none, 0, [], he, ⟨rfl, fun l h => by simp at h, Reads.none_⟩, hx, hb⟩
  · exact ⟨_, cap, L, he, ⟨hx.len, hx.each, Reads.of_own ho⟩, hx, hb⟩

set_option maxHeartbeats 3200000 in
theorem rsize_any (N : Nat) : ∀ (e : Ex), e.nodes ≤ N → N ≤ 1000000 → ∀ (B : Nat) (w : World) (cs : List Value), B ≤ w.heap.size → ExAt w B cs e →
    Calls Try.prog 11 #[.agg cs.toArray] w fun e' w' => e' = .returned (.int .i64 (e.size : Nat)) ∧ Below w.heap.size w w' := by
  induction N with
  | zero => intro e h; cases e; unfold Ex.nodes at h; omega
  | succ N ih =>
    intro e hN hN2 B w cs hB hx
    obtain ⟨es, hes⟩ : ∃ es, e.parts = es := ⟨_, rfl⟩
    obtain ⟨c0, c1, c2, c3, c4, c5, c6, c7, c8, c9, c10, rfl⟩ := eleven_of hx.eleven
    have hbox : Below w.heap.size w (w.alloc (.cells #[c0, c1, c2, c3, c4, c5, c6, c7, c8, c9, c10] 29)) := (Below.refl _ _).alloc (Nat.le_refl _) _
    have CP := Lib.hid (rparts_any e B _ [c0, c1, c2, c3, c4, c5, c6, c7, c8, c9, c10] (by omega) (Nat.le_trans hB hbox.size) (hx.later (hbox.mono hB)))
    obtain ⟨n, hn⟩ : ∃ n, es.length = n := ⟨_, rfl⟩
    have hn6 : n ≤ 1000000 := by have := parts_len e; rw [hes, hn] at this; omega
    obtain ⟨sz, hsz⟩ : ∃ sz, e.size = sz := ⟨_, rfl⟩
    have hsz2 : sz = 1 + exsSize es := by rw [← hsz, (size_parts e).1, hes]
    have hsz6 : sz ≤ 1000000 := by have := (size_le (N + 1) e hN).1; omega
    have HIH := Lib.hid (fun x (hx : x ∈ es) => ih x (by have := part_nodes e x (by rw [hes]; exact hx); omega) (by omega))
    rw [hes] at CP
    have HES := Lib.hid hes
    have HN := Lib.hid hn
    have HSZ := Lib.hid hsz2
    have HBX := Lib.hid hbox
    rw [hsz]
    clear hes hn hsz hsz2 hbox ih hx hN hN2
    go_enter Try.func11, Try.ntmps11
    go_wp2_with fail
    refine CP.out.mono ?_
    intro e1 w1 h1
    obtain ⟨A1, a1, L1, rfl, hr1, hx1, hb1⟩ := parts_row h1
    rw [HN.out] at hr1 ⊢
    have HR := Lib.hid hr1
    have HX := Lib.hid hx1
    have HB1 := Lib.hid (HBX.out.trans (hb1.mono HBX.out.size))
    clear h1 hr1 hx1 hb1
    go_wp2_with fail
    go_loopw [4, 5] (fun v i wr => ∃ j : Nat, i = .int .i64 j ∧ j ≤ n ∧ v = .int .i64 ((1 + exsSize (es.take j) : Nat) : Int) ∧ Below w1.heap.size w1 wr) (fun _ i _ => n - (intOf i).toNat)
    case atStart => exact ⟨0, rfl, Nat.zero_le _, rfl, Below.refl _ _⟩
    case round =>
      obtain ⟨j, rfl, hj, rfl, hbe⟩ := hrel
      have HBE := Lib.hid hbe
      clear hbe
      obtain ⟨y, hy⟩ : ∃ y, 1 + exsSize (es.take j) = y := ⟨_, rfl⟩
      rw [hy]
      by_cases hlt : j < n
      · have hje : j < es.length := by rw [HN.out]; exact hlt
        obtain ⟨g, o, d0, d1, d2, d3, d4, d5, d6, d7, d8, d9, d10, rfl, hg, ⟨hl, hL⟩, k0, k1, k2, k3, k4, k5, k6, k7, k8, k9, k10⟩ := ex_cells (HR.out.later HBE.out) hlt
        have he := (HX.out.exp j hl hje).later (HBE.out.mono (Nat.le_trans hB HB1.out.size))
        rw [hL] at he
        obtain ⟨s, hs⟩ : ∃ s, es[j].size = s := ⟨_, rfl⟩
        have C := HIH.out es[j] (List.getElem_mem hje) B wr [d0, d1, d2, d3, d4, d5, d6, d7, d8, d9, d10] (Nat.le_trans hB (Nat.le_trans HB1.out.size HBE.out.size)) he
        rw [hs] at C
        have hst := (exsSize_take es j hje).1
        rw [hs] at hst
        have hle : 1 + exsSize (es.take (j + 1)) ≤ sz := by
          have h2 := exsSize_app (es.take (j + 1)) (es.drop (j + 1))
          rw [List.take_append_drop] at h2
          have := HSZ.out; omega
        have hys : y + s ≤ 1000000 := by omega
        have HST := Lib.hid (show y + s = 1 + exsSize (es.take (j + 1)) by omega)
        have HC := Lib.hid C
        clear C he hL hs hst hle hy
        go_wp2_with (go_at_call 11; (with_reducible refine HC.out.mono ?_); rintro e w2 ⟨rfl, hb2⟩)
        go_roundw
        case rel => exact ⟨j + 1, by go_num, by omega, by rw [← HST.out]; go_num, HBE.out.trans (hb2.mono HBE.out.size)⟩
        case measure => simp [intOf]; omega
      · have HF := Lib.hid (show y = sz by rw [HSZ.out, ← hy, List.take_of_length_le (by rw [HN.out]; omega)])
        clear hy
        go_wp2_with fail
        go_ret
        exact ⟨ret_int (by rw [HF.out]), HB1.out.trans (HBE.out.mono HB1.out.size)⟩

set_option maxHeartbeats 3200000 in
theorem rdeep_any (N : Nat) : ∀ (e : Ex), e.nodes ≤ N → N ≤ 1000000 → ∀ (B : Nat) (w : World) (cs : List Value), B ≤ w.heap.size → ExAt w B cs e →
    Calls Try.prog 13 #[.agg cs.toArray] w fun e' w' => e' = .returned (.int .i64 (e.deep : Nat)) ∧ Below w.heap.size w w' := by
  induction N with
  | zero => intro e h; cases e; unfold Ex.nodes at h; omega
  | succ N ih =>
    intro e hN hN2 B w cs hB hx
    obtain ⟨es, hes⟩ : ∃ es, e.parts = es := ⟨_, rfl⟩
    obtain ⟨c0, c1, c2, c3, c4, c5, c6, c7, c8, c9, c10, rfl⟩ := eleven_of hx.eleven
    have hbox : Below w.heap.size w (w.alloc (.cells #[c0, c1, c2, c3, c4, c5, c6, c7, c8, c9, c10] 29)) := (Below.refl _ _).alloc (Nat.le_refl _) _
    have CP := Lib.hid (rparts_any e B _ [c0, c1, c2, c3, c4, c5, c6, c7, c8, c9, c10] (by omega) (Nat.le_trans hB hbox.size) (hx.later (hbox.mono hB)))
    obtain ⟨n, hn⟩ : ∃ n, es.length = n := ⟨_, rfl⟩
    have hn6 : n ≤ 1000000 := by have := parts_len e; rw [hes, hn] at this; omega
    obtain ⟨sz, hsz⟩ : ∃ sz, e.deep = sz := ⟨_, rfl⟩
    have hsz2 : sz = exsDeep es + 1 := by rw [← hsz, (size_parts e).2, hes]; omega
    have hsz6 : sz ≤ 1000000 := by have := (size_le (N + 1) e hN).2; omega
    have HIH := Lib.hid (fun x (hx : x ∈ es) => ih x (by have := part_nodes e x (by rw [hes]; exact hx); omega) (by omega))
    rw [hes] at CP
    have HES := Lib.hid hes
    have HN := Lib.hid hn
    have HSZ := Lib.hid hsz2
    have HBX := Lib.hid hbox
    rw [hsz]
    clear hes hn hsz hsz2 hbox ih hx hN hN2
    go_enter Try.func13, Try.ntmps13
    go_wp2_with fail
    refine CP.out.mono ?_
    intro e1 w1 h1
    obtain ⟨A1, a1, L1, rfl, hr1, hx1, hb1⟩ := parts_row h1
    rw [HN.out] at hr1 ⊢
    have HR := Lib.hid hr1
    have HX := Lib.hid hx1
    have HB1 := Lib.hid (HBX.out.trans (hb1.mono HBX.out.size))
    clear h1 hr1 hx1 hb1
    go_wp2_with fail
    go_loopw [4, 5] (fun v i wr => ∃ j : Nat, i = .int .i64 j ∧ j ≤ n ∧ v = .int .i64 ((exsDeep (es.take j) : Nat) : Int) ∧ Below w1.heap.size w1 wr) (fun _ i _ => n - (intOf i).toNat)
    case atStart => exact ⟨0, rfl, Nat.zero_le _, rfl, Below.refl _ _⟩
    case round =>
      obtain ⟨j, rfl, hj, rfl, hbe⟩ := hrel
      have HBE := Lib.hid hbe
      clear hbe
      obtain ⟨y, hy⟩ : ∃ y, exsDeep (es.take j) = y := ⟨_, rfl⟩
      rw [hy]
      by_cases hlt : j < n
      · have hje : j < es.length := by rw [HN.out]; exact hlt
        obtain ⟨g, o, d0, d1, d2, d3, d4, d5, d6, d7, d8, d9, d10, rfl, hg, ⟨hl, hL⟩, k0, k1, k2, k3, k4, k5, k6, k7, k8, k9, k10⟩ := ex_cells (HR.out.later HBE.out) hlt
        have he := (HX.out.exp j hl hje).later (HBE.out.mono (Nat.le_trans hB HB1.out.size))
        rw [hL] at he
        obtain ⟨s, hs⟩ : ∃ s, es[j].deep = s := ⟨_, rfl⟩
        have C := HIH.out es[j] (List.getElem_mem hje) B wr [d0, d1, d2, d3, d4, d5, d6, d7, d8, d9, d10] (Nat.le_trans hB (Nat.le_trans HB1.out.size HBE.out.size)) he
        rw [hs] at C
        have hst := (exsSize_take es j hje).2
        rw [hs] at hst
        have hle : exsDeep (es.take (j + 1)) + 1 ≤ sz := by
          have h2 := exsDeep_app (es.take (j + 1)) (es.drop (j + 1))
          rw [List.take_append_drop] at h2
          have := HSZ.out; omega
        rw [hy] at hst
        have hy6 : y ≤ 1000000 := by omega
        have hs6 : s ≤ 1000000 := by omega
        have HC := Lib.hid C
        have hB2 : B ≤ wr.heap.size := Nat.le_trans hB (Nat.le_trans HB1.out.size HBE.out.size)
        by_cases hys : y < s
        · have HST := Lib.hid (show s = exsDeep (es.take (j + 1)) by omega)
          clear C he hL hs hst hle hy
          go_wp2_with (go_at_call 13; (with_reducible refine HC.out.mono ?_); rintro e w2 ⟨rfl, hb2⟩)
          go_roundw
          case rel => exact ⟨j + 1, by go_num, by omega, by rw [← HST.out], HBE.out.trans (hb2.mono HBE.out.size)⟩
          case measure => simp [intOf]; omega
        · have HST := Lib.hid (show y = exsDeep (es.take (j + 1)) by omega)
          clear C he hL hs hst hle hy
          go_wp2_with (go_at_call 13; (with_reducible refine HC.out.mono ?_); rintro e w2 ⟨rfl, hb2⟩)
          go_roundw
          case rel => exact ⟨j + 1, by go_num, by omega, by rw [← HST.out], HBE.out.trans (hb2.mono HBE.out.size)⟩
          case measure => simp [intOf]; omega
      · have HF := Lib.hid (show y + 1 = sz by rw [HSZ.out, ← hy, List.take_of_length_le (by rw [HN.out]; omega)])
        have hy6 : y ≤ 1000000 := by have := HF.out; omega
        clear hy
        go_wp2_with fail
        go_ret
        exact ⟨ret_int (by rw [← HF.out]; omega), HB1.out.trans (HBE.out.mono HB1.out.size)⟩

end Go.Proofs.Ytglamoiimmahgaa
