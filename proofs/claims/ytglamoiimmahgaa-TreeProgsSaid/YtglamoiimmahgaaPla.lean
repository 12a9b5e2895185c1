/- Walks: the program's equalities: lists, and structs field by field. -/
import Derived.Test.YtglamoiimmahgaaPval
import Derived.StillTailTactics
import Derived.OneCell
import Derived.Test.YtglamoiimmahgaaNames
namespace Go.Proofs.Ytglamoiimmahgaa
open Go.RowKit
set_option linter.unusedVariables false
set_option linter.unusedSimpArgs false
set_option maxRecDepth 100000

theorem all_yes {n : Nat} {r : Nat → Bool} (h : ∀ j, j < n → r j = true) : (List.range n).all r = true := by simpa using h
theorem all_no {n : Nat} {r : Nat → Bool} {k : Nat} (hk : k < n) (h : r k = false) : (List.range n).all r = false := by
  rw [← Bool.not_eq_true]
  intro h2
  have := (List.all_eq_true.1 h2) k (by simpa using hk)
  rw [h] at this; cases this
theorem store_one (c : Value) (h : c.oneCell' = true) : ∀ (w : World) (a : Addr) (m : Mode), (store a c m).run Try.prog w = stored Try.prog w a c m := fun w a m => run_store Try.prog w a c m h
theorem thirteen_of {l : List Value} (h : l.length = 13) : ∃ c0 c1 c2 c3 c4 c5 c6 c7 c8 c9 c10 c11 c12, l = [c0, c1, c2, c3, c4, c5, c6, c7, c8, c9, c10, c11, c12] := by
  match l, h with
  | [c0, c1, c2, c3, c4, c5, c6, c7, c8, c9, c10, c11, c12], _ => exact ⟨c0, c1, c2, c3, c4, c5, c6, c7, c8, c9, c10, c11, c12, rfl⟩
theorem sixteen_of {l : List Value} (h : l.length = 16) : ∃ c0 c1 c2 c3 c4 c5 c6 c7 c8 c9 c10 c11 c12 c13 c14 c15, l = [c0, c1, c2, c3, c4, c5, c6, c7, c8, c9, c10, c11, c12, c13, c14, c15] := by
  match l, h with
  | [c0, c1, c2, c3, c4, c5, c6, c7, c8, c9, c10, c11, c12, c13, c14, c15], _ => exact ⟨c0, c1, c2, c3, c4, c5, c6, c7, c8, c9, c10, c11, c12, c13, c14, c15, rfl⟩
theorem three_of {l : List Value} (h : l.length = 3) : ∃ c0 c1 c2, l = [c0, c1, c2] := by
  match l, h with
  | [c0, c1, c2], _ => exact ⟨c0, c1, c2, rfl⟩
theorem six_of {l : List Value} (h : l.length = 6) : ∃ c0 c1 c2 c3 c4 c5, l = [c0, c1, c2, c3, c4, c5] := by
  match l, h with
  | [c0, c1, c2, c3, c4, c5], _ => exact ⟨c0, c1, c2, c3, c4, c5, rfl⟩
theorem eight_of {l : List Value} (h : l.length = 8) : ∃ c0 c1 c2 c3 c4 c5 c6 c7, l = [c0, c1, c2, c3, c4, c5, c6, c7] := by
  match l, h with
  | [c0, c1, c2, c3, c4, c5, c6, c7], _ => exact ⟨c0, c1, c2, c3, c4, c5, c6, c7, rfl⟩

set_option maxHeartbeats 3200000 in
theorem plist_ty (n m : Nat) (A A' : Option Addr) (c c' B : Nat) (w : World) (L L' : List (List Value)) (r : Nat → Bool) (hB : B ≤ w.heap.size) (hn9 : n ≤ 9223372036854775807) (hr : Row w B 4 A n L) (hr' : Row w B 4 A' m L') (hone : ∀ l ∈ L, ∀ u ∈ l, u.oneCell' = true)
    (hcall : ∀ i (h1 : i < L.length) (h2 : i < L'.length) (w' : World), Below w.heap.size w w' → Calls Try.prog 16 #[.agg L[i].toArray, .agg L'[i].toArray] w' fun e w2 => e = .returned (.bool (r i)) ∧ Below w'.heap.size w' w2) :
    Calls Try.prog 40 #[.slice A n c, .slice A' m c', .func (.func 16) #[] #[]] w fun e w' => e = .returned (.bool (n == m && (List.range n).all r)) ∧ Below w.heap.size w w' := by
  have HR := Lib.hid hr
  have HR' := Lib.hid hr'
  have HO := Lib.hid hone
  have HC := Lib.hid hcall
  clear hr hr' hone hcall
  by_cases hnm : n = m
  · subst hnm
    have hd : ((n : Int) != (n : Int)) = false := by simp
    go_enter Try.func40, Try.ntmps40
    go_wp2_with fail
    go_loopw [16] (fun i wr => ∃ k : Nat, i = .int .i64 k ∧ k ≤ n ∧ (∀ j, j < k → r j = true) ∧ Below w.heap.size w wr) (fun i _ => n - (intOf i).toNat)
    case atStart => exact ⟨0, rfl, Nat.zero_le _, fun j h => by omega, Below.refl _ _⟩
    case round =>
      obtain ⟨k, rfl, hk, hall, hbe⟩ := hrel
      have hzr := hbe.size
      have HALL := Lib.hid hall
      have HBE := Lib.hid hbe
      clear hall
      by_cases hlt : k < n
      · obtain ⟨g, o, rfl, hg, hl, hl4, hc⟩ := (HR.out.later (hbe.mono hB)).cells (by omega) hlt
        obtain ⟨g', o', rfl, hg', hl', hl4', hc'⟩ := (HR'.out.later (hbe.mono hB)).cells (by omega) hlt
        have C := HC.out k hl hl'
        have hoc := HO.out L[k] (List.getElem_mem hl)
        generalize L[k] = x at *
        generalize L'[k] = y at *
        obtain ⟨x0, x1, x2, x3, hxs⟩ : ∃ x0 x1 x2 x3, x = [x0, x1, x2, x3] := four_of hl4
        subst hxs
        obtain ⟨y0, y1, y2, y3, hys⟩ : ∃ y0 y1 y2 y3, y = [y0, y1, y2, y3] := four_of hl4'
        subst hys
        have e0 : wr.cell? ⟨g, o + k * 4, none⟩ = some x0 := hc 0 _ rfl
        have e1 : wr.cell? ⟨g, o + k * 4 + 1, none⟩ = some x1 := hc 1 _ rfl
        have e2 : wr.cell? ⟨g, o + k * 4 + 2, none⟩ = some x2 := hc 2 _ rfl
        have e3 : wr.cell? ⟨g, o + k * 4 + 3, none⟩ = some x3 := hc 3 _ rfl
        have f0 : wr.cell? ⟨g', o' + k * 4, none⟩ = some y0 := hc' 0 _ rfl
        have f1 : wr.cell? ⟨g', o' + k * 4 + 1, none⟩ = some y1 := hc' 1 _ rfl
        have f2 : wr.cell? ⟨g', o' + k * 4 + 2, none⟩ = some y2 := hc' 2 _ rfl
        have f3 : wr.cell? ⟨g', o' + k * 4 + 3, none⟩ = some y3 := hc' 3 _ rfl
        have s0 := store_one x0 (hoc x0 (by simp))
        have s1 := store_one x1 (hoc x1 (by simp))
        have s2 := store_one x2 (hoc x2 (by simp))
        have s3 := store_one x3 (hoc x3 (by simp))
        obtain ⟨wa, hwa⟩ : ∃ wa, wr.alloc (.cells #[x0, x1, x2, x3] 24) = wa := ⟨_, rfl⟩
        have hal : Below wr.heap.size wr wa := by rw [← hwa]; exact (Below.refl _ _).alloc (Nat.le_refl _) _
        have hbk := Blk.new wr 24 #[x0, x1, x2, x3]
        rw [hwa] at hbk
        have b0 := hbk.cell 0
        have b1 := hbk.cell 1
        have b2 := hbk.cell 2
        have b3 := hbk.cell 3
        simp only [List.getElem?_toArray, List.getElem?_cons_succ, List.getElem?_cons_zero] at b0 b1 b2 b3
        have k0 : wa.cell? ⟨g', o' + k * 4, none⟩ = some y0 := hwa ▸ Lib.cell?_alloc_some _ f0
        have k1 : wa.cell? ⟨g', o' + k * 4 + 1, none⟩ = some y1 := hwa ▸ Lib.cell?_alloc_some _ f1
        have k2 : wa.cell? ⟨g', o' + k * 4 + 2, none⟩ = some y2 := hwa ▸ Lib.cell?_alloc_some _ f2
        have k3 : wa.cell? ⟨g', o' + k * 4 + 3, none⟩ = some y3 := hwa ▸ Lib.cell?_alloc_some _ f3
        have HW := Lib.hid hwa
        have hgw : g < wr.heap.size := by omega
        have hgw' : g' < wr.heap.size := by omega
        have HC1 := Lib.hid (C wa.drew (hbe.trans ((hal.drew).mono hzr)))
        obtain ⟨u, hu⟩ : ∃ u, r k = u := ⟨_, rfl⟩
        rw [hu] at HC1
        have HU := Lib.hid hu
        have HAL := Lib.hid (hbe.trans ((hal.drew).mono hzr))
        clear hbe C hoc hc hc' hl hl' hl4 hl4' hal hu hwa hbk
        cases u with
        | true =>
          go_wp2_with fail
          rw [HW.out]
          go_still_tail 6, (by kernel_rfl)
          change wpList _ _ _ _ _ (World.drew _)
          go_wp2_with (go_at_call 16; (with_reducible refine HC1.out.mono ?_); rintro e w2 ⟨rfl, hb2⟩)
          go_roundw
          case rel => exact ⟨k + 1, by go_num, by omega, fun j h => by
            rcases Nat.lt_or_ge j k with h3 | h3
            · exact HALL.out j h3
            · have : j = k := by omega
              subst this; exact HU.out, HAL.out.trans (hb2.mono HAL.out.size)⟩
          case measure => simp [intOf]; omega
        | false =>
          have HF := Lib.hid (all_no hlt HU.out)
          go_wp2_with fail
          rw [HW.out]
          go_still_tail 6, (by kernel_rfl)
          change wpList _ _ _ _ _ (World.drew _)
          go_wp2_with (go_at_call 16; (with_reducible refine HC1.out.mono ?_); rintro e w2 ⟨rfl, hb2⟩)
          go_ret
          exact ⟨ret_bool (by rw [HF.out]; simp), HAL.out.trans (hb2.mono HAL.out.size)⟩
      · have HT := Lib.hid (all_yes (n := n) (r := r) (fun j h => HALL.out j (by omega)))
        go_wp2_with fail
        go_ret
        exact ⟨ret_bool (by rw [HT.out]; simp), HBE.out⟩
  · have hd : ((n : Int) != (m : Int)) = true := by simp; omega
    rw [show (n == m) = false by simpa using hnm]
    clear hnm
    go_enter Try.func40, Try.ntmps40
    go_wp2_with fail
    go_ret
    exact ⟨rfl, Below.refl _ _⟩

set_option maxHeartbeats 3200000 in
theorem plist_pt (n m : Nat) (A A' : Option Addr) (c c' B : Nat) (w : World) (L L' : List (List Value)) (r : Nat → Bool) (hB : B ≤ w.heap.size) (hn9 : n ≤ 9223372036854775807) (hr : Row w B 5 A n L) (hr' : Row w B 5 A' m L') (hone : ∀ l ∈ L, ∀ u ∈ l, u.oneCell' = true)
    (hcall : ∀ i (h1 : i < L.length) (h2 : i < L'.length) (w' : World), Below w.heap.size w w' → Calls Try.prog 18 #[.agg L[i].toArray, .agg L'[i].toArray] w' fun e w2 => e = .returned (.bool (r i)) ∧ Below w'.heap.size w' w2) :
    Calls Try.prog 42 #[.slice A n c, .slice A' m c', .func (.func 18) #[] #[]] w fun e w' => e = .returned (.bool (n == m && (List.range n).all r)) ∧ Below w.heap.size w w' := by
  have HR := Lib.hid hr
  have HR' := Lib.hid hr'
  have HO := Lib.hid hone
  have HC := Lib.hid hcall
  clear hr hr' hone hcall
  by_cases hnm : n = m
  · subst hnm
    have hd : ((n : Int) != (n : Int)) = false := by simp
    go_enter Try.func42, Try.ntmps42
    go_wp2_with fail
    go_loopw [16] (fun i wr => ∃ k : Nat, i = .int .i64 k ∧ k ≤ n ∧ (∀ j, j < k → r j = true) ∧ Below w.heap.size w wr) (fun i _ => n - (intOf i).toNat)
    case atStart => exact ⟨0, rfl, Nat.zero_le _, fun j h => by omega, Below.refl _ _⟩
    case round =>
      obtain ⟨k, rfl, hk, hall, hbe⟩ := hrel
      have hzr := hbe.size
      have HALL := Lib.hid hall
      have HBE := Lib.hid hbe
      clear hall
      by_cases hlt : k < n
      · obtain ⟨g, o, rfl, hg, hl, hl4, hc⟩ := (HR.out.later (hbe.mono hB)).cells (by omega) hlt
        obtain ⟨g', o', rfl, hg', hl', hl4', hc'⟩ := (HR'.out.later (hbe.mono hB)).cells (by omega) hlt
        have C := HC.out k hl hl'
        have hoc := HO.out L[k] (List.getElem_mem hl)
        generalize L[k] = x at *
        generalize L'[k] = y at *
        obtain ⟨x0, x1, x2, x3, x4, hxs⟩ : ∃ x0 x1 x2 x3 x4, x = [x0, x1, x2, x3, x4] := five_of hl4
        subst hxs
        obtain ⟨y0, y1, y2, y3, y4, hys⟩ : ∃ y0 y1 y2 y3 y4, y = [y0, y1, y2, y3, y4] := five_of hl4'
        subst hys
        have e0 : wr.cell? ⟨g, o + k * 5, none⟩ = some x0 := hc 0 _ rfl
        have e1 : wr.cell? ⟨g, o + k * 5 + 1, none⟩ = some x1 := hc 1 _ rfl
        have e2 : wr.cell? ⟨g, o + k * 5 + 2, none⟩ = some x2 := hc 2 _ rfl
        have e3 : wr.cell? ⟨g, o + k * 5 + 3, none⟩ = some x3 := hc 3 _ rfl
        have e4 : wr.cell? ⟨g, o + k * 5 + 4, none⟩ = some x4 := hc 4 _ rfl
        have f0 : wr.cell? ⟨g', o' + k * 5, none⟩ = some y0 := hc' 0 _ rfl
        have f1 : wr.cell? ⟨g', o' + k * 5 + 1, none⟩ = some y1 := hc' 1 _ rfl
        have f2 : wr.cell? ⟨g', o' + k * 5 + 2, none⟩ = some y2 := hc' 2 _ rfl
        have f3 : wr.cell? ⟨g', o' + k * 5 + 3, none⟩ = some y3 := hc' 3 _ rfl
        have f4 : wr.cell? ⟨g', o' + k * 5 + 4, none⟩ = some y4 := hc' 4 _ rfl
        have s0 := store_one x0 (hoc x0 (by simp))
        have s1 := store_one x1 (hoc x1 (by simp))
        have s2 := store_one x2 (hoc x2 (by simp))
        have s3 := store_one x3 (hoc x3 (by simp))
        have s4 := store_one x4 (hoc x4 (by simp))
        obtain ⟨wa, hwa⟩ : ∃ wa, wr.alloc (.cells #[x0, x1, x2, x3, x4] 39) = wa := ⟨_, rfl⟩
        have hal : Below wr.heap.size wr wa := by rw [← hwa]; exact (Below.refl _ _).alloc (Nat.le_refl _) _
        have hbk := Blk.new wr 39 #[x0, x1, x2, x3, x4]
        rw [hwa] at hbk
        have b0 := hbk.cell 0
        have b1 := hbk.cell 1
        have b2 := hbk.cell 2
        have b3 := hbk.cell 3
        have b4 := hbk.cell 4
        simp only [List.getElem?_toArray, List.getElem?_cons_succ, List.getElem?_cons_zero] at b0 b1 b2 b3 b4
        have k0 : wa.cell? ⟨g', o' + k * 5, none⟩ = some y0 := hwa ▸ Lib.cell?_alloc_some _ f0
        have k1 : wa.cell? ⟨g', o' + k * 5 + 1, none⟩ = some y1 := hwa ▸ Lib.cell?_alloc_some _ f1
        have k2 : wa.cell? ⟨g', o' + k * 5 + 2, none⟩ = some y2 := hwa ▸ Lib.cell?_alloc_some _ f2
        have k3 : wa.cell? ⟨g', o' + k * 5 + 3, none⟩ = some y3 := hwa ▸ Lib.cell?_alloc_some _ f3
        have k4 : wa.cell? ⟨g', o' + k * 5 + 4, none⟩ = some y4 := hwa ▸ Lib.cell?_alloc_some _ f4
        have HW := Lib.hid hwa
        have hgw : g < wr.heap.size := by omega
        have hgw' : g' < wr.heap.size := by omega
        have HC1 := Lib.hid (C wa.drew (hbe.trans ((hal.drew).mono hzr)))
        obtain ⟨u, hu⟩ : ∃ u, r k = u := ⟨_, rfl⟩
        rw [hu] at HC1
        have HU := Lib.hid hu
        have HAL := Lib.hid (hbe.trans ((hal.drew).mono hzr))
        clear hbe C hoc hc hc' hl hl' hl4 hl4' hal hu hwa hbk
        cases u with
        | true =>
          go_wp2_with fail
          rw [HW.out]
          go_still_tail 6, (by kernel_rfl)
          change wpList _ _ _ _ _ (World.drew _)
          go_wp2_with (go_at_call 18; (with_reducible refine HC1.out.mono ?_); rintro e w2 ⟨rfl, hb2⟩)
          go_roundw
          case rel => exact ⟨k + 1, by go_num, by omega, fun j h => by
            rcases Nat.lt_or_ge j k with h3 | h3
            · exact HALL.out j h3
            · have : j = k := by omega
              subst this; exact HU.out, HAL.out.trans (hb2.mono HAL.out.size)⟩
          case measure => simp [intOf]; omega
        | false =>
          have HF := Lib.hid (all_no hlt HU.out)
          go_wp2_with fail
          rw [HW.out]
          go_still_tail 6, (by kernel_rfl)
          change wpList _ _ _ _ _ (World.drew _)
          go_wp2_with (go_at_call 18; (with_reducible refine HC1.out.mono ?_); rintro e w2 ⟨rfl, hb2⟩)
          go_ret
          exact ⟨ret_bool (by rw [HF.out]; simp), HAL.out.trans (hb2.mono HAL.out.size)⟩
      · have HT := Lib.hid (all_yes (n := n) (r := r) (fun j h => HALL.out j (by omega)))
        go_wp2_with fail
        go_ret
        exact ⟨ret_bool (by rw [HT.out]; simp), HBE.out⟩
  · have hd : ((n : Int) != (m : Int)) = true := by simp; omega
    rw [show (n == m) = false by simpa using hnm]
    clear hnm
    go_enter Try.func42, Try.ntmps42
    go_wp2_with fail
    go_ret
    exact ⟨rfl, Below.refl _ _⟩

set_option maxHeartbeats 3200000 in
theorem plist_ex (n m : Nat) (A A' : Option Addr) (c c' B : Nat) (w : World) (L L' : List (List Value)) (r : Nat → Bool) (hB : B ≤ w.heap.size) (hn9 : n ≤ 9223372036854775807) (hr : Row w B 11 A n L) (hr' : Row w B 11 A' m L') (hone : ∀ l ∈ L, ∀ u ∈ l, u.oneCell' = true)
    (hcall : ∀ i (h1 : i < L.length) (h2 : i < L'.length) (w' : World), Below w.heap.size w w' → Calls Try.prog 14 #[.agg L[i].toArray, .agg L'[i].toArray] w' fun e w2 => e = .returned (.bool (r i)) ∧ Below w'.heap.size w' w2) :
    Calls Try.prog 34 #[.slice A n c, .slice A' m c', .func (.func 14) #[] #[]] w fun e w' => e = .returned (.bool (n == m && (List.range n).all r)) ∧ Below w.heap.size w w' := by
  have HR := Lib.hid hr
  have HR' := Lib.hid hr'
  have HO := Lib.hid hone
  have HC := Lib.hid hcall
  clear hr hr' hone hcall
  by_cases hnm : n = m
  · subst hnm
    have hd : ((n : Int) != (n : Int)) = false := by simp
    go_enter Try.func34, Try.ntmps34
    go_wp2_with fail
    go_loopw [16] (fun i wr => ∃ k : Nat, i = .int .i64 k ∧ k ≤ n ∧ (∀ j, j < k → r j = true) ∧ Below w.heap.size w wr) (fun i _ => n - (intOf i).toNat)
    case atStart => exact ⟨0, rfl, Nat.zero_le _, fun j h => by omega, Below.refl _ _⟩
    case round =>
      obtain ⟨k, rfl, hk, hall, hbe⟩ := hrel
      have hzr := hbe.size
      have HALL := Lib.hid hall
      have HBE := Lib.hid hbe
      clear hall
      by_cases hlt : k < n
      · obtain ⟨g, o, rfl, hg, hl, hl4, hc⟩ := (HR.out.later (hbe.mono hB)).cells (by omega) hlt
        obtain ⟨g', o', rfl, hg', hl', hl4', hc'⟩ := (HR'.out.later (hbe.mono hB)).cells (by omega) hlt
        have C := HC.out k hl hl'
        have hoc := HO.out L[k] (List.getElem_mem hl)
        generalize L[k] = x at *
        generalize L'[k] = y at *
        obtain ⟨x0, x1, x2, x3, x4, x5, x6, x7, x8, x9, x10, hxs⟩ : ∃ x0 x1 x2 x3 x4 x5 x6 x7 x8 x9 x10, x = [x0, x1, x2, x3, x4, x5, x6, x7, x8, x9, x10] := eleven_of hl4
        subst hxs
        obtain ⟨y0, y1, y2, y3, y4, y5, y6, y7, y8, y9, y10, hys⟩ : ∃ y0 y1 y2 y3 y4 y5 y6 y7 y8 y9 y10, y = [y0, y1, y2, y3, y4, y5, y6, y7, y8, y9, y10] := eleven_of hl4'
        subst hys
        have e0 : wr.cell? ⟨g, o + k * 11, none⟩ = some x0 := hc 0 _ rfl
        have e1 : wr.cell? ⟨g, o + k * 11 + 1, none⟩ = some x1 := hc 1 _ rfl
        have e2 : wr.cell? ⟨g, o + k * 11 + 2, none⟩ = some x2 := hc 2 _ rfl
        have e3 : wr.cell? ⟨g, o + k * 11 + 3, none⟩ = some x3 := hc 3 _ rfl
        have e4 : wr.cell? ⟨g, o + k * 11 + 4, none⟩ = some x4 := hc 4 _ rfl
        have e5 : wr.cell? ⟨g, o + k * 11 + 5, none⟩ = some x5 := hc 5 _ rfl
        have e6 : wr.cell? ⟨g, o + k * 11 + 6, none⟩ = some x6 := hc 6 _ rfl
        have e7 : wr.cell? ⟨g, o + k * 11 + 7, none⟩ = some x7 := hc 7 _ rfl
        have e8 : wr.cell? ⟨g, o + k * 11 + 8, none⟩ = some x8 := hc 8 _ rfl
        have e9 : wr.cell? ⟨g, o + k * 11 + 9, none⟩ = some x9 := hc 9 _ rfl
        have e10 : wr.cell? ⟨g, o + k * 11 + 10, none⟩ = some x10 := hc 10 _ rfl
        have f0 : wr.cell? ⟨g', o' + k * 11, none⟩ = some y0 := hc' 0 _ rfl
        have f1 : wr.cell? ⟨g', o' + k * 11 + 1, none⟩ = some y1 := hc' 1 _ rfl
        have f2 : wr.cell? ⟨g', o' + k * 11 + 2, none⟩ = some y2 := hc' 2 _ rfl
        have f3 : wr.cell? ⟨g', o' + k * 11 + 3, none⟩ = some y3 := hc' 3 _ rfl
        have f4 : wr.cell? ⟨g', o' + k * 11 + 4, none⟩ = some y4 := hc' 4 _ rfl
        have f5 : wr.cell? ⟨g', o' + k * 11 + 5, none⟩ = some y5 := hc' 5 _ rfl
        have f6 : wr.cell? ⟨g', o' + k * 11 + 6, none⟩ = some y6 := hc' 6 _ rfl
        have f7 : wr.cell? ⟨g', o' + k * 11 + 7, none⟩ = some y7 := hc' 7 _ rfl
        have f8 : wr.cell? ⟨g', o' + k * 11 + 8, none⟩ = some y8 := hc' 8 _ rfl
        have f9 : wr.cell? ⟨g', o' + k * 11 + 9, none⟩ = some y9 := hc' 9 _ rfl
        have f10 : wr.cell? ⟨g', o' + k * 11 + 10, none⟩ = some y10 := hc' 10 _ rfl
        have s0 := store_one x0 (hoc x0 (by simp))
        have s1 := store_one x1 (hoc x1 (by simp))
        have s2 := store_one x2 (hoc x2 (by simp))
        have s3 := store_one x3 (hoc x3 (by simp))
        have s4 := store_one x4 (hoc x4 (by simp))
        have s5 := store_one x5 (hoc x5 (by simp))
        have s6 := store_one x6 (hoc x6 (by simp))
        have s7 := store_one x7 (hoc x7 (by simp))
        have s8 := store_one x8 (hoc x8 (by simp))
        have s9 := store_one x9 (hoc x9 (by simp))
        have s10 := store_one x10 (hoc x10 (by simp))
        obtain ⟨wa, hwa⟩ : ∃ wa, wr.alloc (.cells #[x0, x1, x2, x3, x4, x5, x6, x7, x8, x9, x10] 29) = wa := ⟨_, rfl⟩
        have hal : Below wr.heap.size wr wa := by rw [← hwa]; exact (Below.refl _ _).alloc (Nat.le_refl _) _
        have hbk := Blk.new wr 29 #[x0, x1, x2, x3, x4, x5, x6, x7, x8, x9, x10]
        rw [hwa] at hbk
        have b0 := hbk.cell 0
        have b1 := hbk.cell 1
        have b2 := hbk.cell 2
        have b3 := hbk.cell 3
        have b4 := hbk.cell 4
        have b5 := hbk.cell 5
        have b6 := hbk.cell 6
        have b7 := hbk.cell 7
        have b8 := hbk.cell 8
        have b9 := hbk.cell 9
        have b10 := hbk.cell 10
        simp only [List.getElem?_toArray, List.getElem?_cons_succ, List.getElem?_cons_zero] at b0 b1 b2 b3 b4 b5 b6 b7 b8 b9 b10
        have k0 : wa.cell? ⟨g', o' + k * 11, none⟩ = some y0 := hwa ▸ Lib.cell?_alloc_some _ f0
        have k1 : wa.cell? ⟨g', o' + k * 11 + 1, none⟩ = some y1 := hwa ▸ Lib.cell?_alloc_some _ f1
        have k2 : wa.cell? ⟨g', o' + k * 11 + 2, none⟩ = some y2 := hwa ▸ Lib.cell?_alloc_some _ f2
        have k3 : wa.cell? ⟨g', o' + k * 11 + 3, none⟩ = some y3 := hwa ▸ Lib.cell?_alloc_some _ f3
        have k4 : wa.cell? ⟨g', o' + k * 11 + 4, none⟩ = some y4 := hwa ▸ Lib.cell?_alloc_some _ f4
        have k5 : wa.cell? ⟨g', o' + k * 11 + 5, none⟩ = some y5 := hwa ▸ Lib.cell?_alloc_some _ f5
        have k6 : wa.cell? ⟨g', o' + k * 11 + 6, none⟩ = some y6 := hwa ▸ Lib.cell?_alloc_some _ f6
        have k7 : wa.cell? ⟨g', o' + k * 11 + 7, none⟩ = some y7 := hwa ▸ Lib.cell?_alloc_some _ f7
        have k8 : wa.cell? ⟨g', o' + k * 11 + 8, none⟩ = some y8 := hwa ▸ Lib.cell?_alloc_some _ f8
        have k9 : wa.cell? ⟨g', o' + k * 11 + 9, none⟩ = some y9 := hwa ▸ Lib.cell?_alloc_some _ f9
        have k10 : wa.cell? ⟨g', o' + k * 11 + 10, none⟩ = some y10 := hwa ▸ Lib.cell?_alloc_some _ f10
        have HW := Lib.hid hwa
        have hgw : g < wr.heap.size := by omega
        have hgw' : g' < wr.heap.size := by omega
        have HC1 := Lib.hid (C wa.drew (hbe.trans ((hal.drew).mono hzr)))
        obtain ⟨u, hu⟩ : ∃ u, r k = u := ⟨_, rfl⟩
        rw [hu] at HC1
        have HU := Lib.hid hu
        have HAL := Lib.hid (hbe.trans ((hal.drew).mono hzr))
        clear hbe C hoc hc hc' hl hl' hl4 hl4' hal hu hwa hbk
        cases u with
        | true =>
          go_wp2_with fail
          rw [HW.out]
          go_still_tail 6, (by kernel_rfl)
          change wpList _ _ _ _ _ (World.drew _)
          go_wp2_with (go_at_call 14; (with_reducible refine HC1.out.mono ?_); rintro e w2 ⟨rfl, hb2⟩)
          go_roundw
          case rel => exact ⟨k + 1, by go_num, by omega, fun j h => by
            rcases Nat.lt_or_ge j k with h3 | h3
            · exact HALL.out j h3
            · have : j = k := by omega
              subst this; exact HU.out, HAL.out.trans (hb2.mono HAL.out.size)⟩
          case measure => simp [intOf]; omega
        | false =>
          have HF := Lib.hid (all_no hlt HU.out)
          go_wp2_with fail
          rw [HW.out]
          go_still_tail 6, (by kernel_rfl)
          change wpList _ _ _ _ _ (World.drew _)
          go_wp2_with (go_at_call 14; (with_reducible refine HC1.out.mono ?_); rintro e w2 ⟨rfl, hb2⟩)
          go_ret
          exact ⟨ret_bool (by rw [HF.out]; simp), HAL.out.trans (hb2.mono HAL.out.size)⟩
      · have HT := Lib.hid (all_yes (n := n) (r := r) (fun j h => HALL.out j (by omega)))
        go_wp2_with fail
        go_ret
        exact ⟨ret_bool (by rw [HT.out]; simp), HBE.out⟩
  · have hd : ((n : Int) != (m : Int)) = true := by simp; omega
    rw [show (n == m) = false by simpa using hnm]
    clear hnm
    go_enter Try.func34, Try.ntmps34
    go_wp2_with fail
    go_ret
    exact ⟨rfl, Below.refl _ _⟩

set_option maxHeartbeats 3200000 in
theorem plist_bd (n m : Nat) (A A' : Option Addr) (c c' B : Nat) (w : World) (L L' : List (List Value)) (r : Nat → Bool) (hB : B ≤ w.heap.size) (hn9 : n ≤ 9223372036854775807) (hr : Row w B 13 A n L) (hr' : Row w B 13 A' m L') (hone : ∀ l ∈ L, ∀ u ∈ l, u.oneCell' = true)
    (hcall : ∀ i (h1 : i < L.length) (h2 : i < L'.length) (w' : World), Below w.heap.size w w' → Calls Try.prog 36 #[.agg L[i].toArray, .agg L'[i].toArray] w' fun e w2 => e = .returned (.bool (r i)) ∧ Below w'.heap.size w' w2) :
    Calls Try.prog 35 #[.slice A n c, .slice A' m c', .func (.func 36) #[] #[]] w fun e w' => e = .returned (.bool (n == m && (List.range n).all r)) ∧ Below w.heap.size w w' := by
  have HR := Lib.hid hr
  have HR' := Lib.hid hr'
  have HO := Lib.hid hone
  have HC := Lib.hid hcall
  clear hr hr' hone hcall
  by_cases hnm : n = m
  · subst hnm
    have hd : ((n : Int) != (n : Int)) = false := by simp
    go_enter Try.func35, Try.ntmps35
    go_wp2_with fail
    go_loopw [16] (fun i wr => ∃ k : Nat, i = .int .i64 k ∧ k ≤ n ∧ (∀ j, j < k → r j = true) ∧ Below w.heap.size w wr) (fun i _ => n - (intOf i).toNat)
    case atStart => exact ⟨0, rfl, Nat.zero_le _, fun j h => by omega, Below.refl _ _⟩
    case round =>
      obtain ⟨k, rfl, hk, hall, hbe⟩ := hrel
      have hzr := hbe.size
      have HALL := Lib.hid hall
      have HBE := Lib.hid hbe
      clear hall
      by_cases hlt : k < n
      · obtain ⟨g, o, rfl, hg, hl, hl4, hc⟩ := (HR.out.later (hbe.mono hB)).cells (by omega) hlt
        obtain ⟨g', o', rfl, hg', hl', hl4', hc'⟩ := (HR'.out.later (hbe.mono hB)).cells (by omega) hlt
        have C := HC.out k hl hl'
        have hoc := HO.out L[k] (List.getElem_mem hl)
        generalize L[k] = x at *
        generalize L'[k] = y at *
        obtain ⟨x0, x1, x2, x3, x4, x5, x6, x7, x8, x9, x10, x11, x12, hxs⟩ : ∃ x0 x1 x2 x3 x4 x5 x6 x7 x8 x9 x10 x11 x12, x = [x0, x1, x2, x3, x4, x5, x6, x7, x8, x9, x10, x11, x12] := thirteen_of hl4
        subst hxs
        obtain ⟨y0, y1, y2, y3, y4, y5, y6, y7, y8, y9, y10, y11, y12, hys⟩ : ∃ y0 y1 y2 y3 y4 y5 y6 y7 y8 y9 y10 y11 y12, y = [y0, y1, y2, y3, y4, y5, y6, y7, y8, y9, y10, y11, y12] := thirteen_of hl4'
        subst hys
        have e0 : wr.cell? ⟨g, o + k * 13, none⟩ = some x0 := hc 0 _ rfl
        have e1 : wr.cell? ⟨g, o + k * 13 + 1, none⟩ = some x1 := hc 1 _ rfl
        have e2 : wr.cell? ⟨g, o + k * 13 + 2, none⟩ = some x2 := hc 2 _ rfl
        have e3 : wr.cell? ⟨g, o + k * 13 + 3, none⟩ = some x3 := hc 3 _ rfl
        have e4 : wr.cell? ⟨g, o + k * 13 + 4, none⟩ = some x4 := hc 4 _ rfl
        have e5 : wr.cell? ⟨g, o + k * 13 + 5, none⟩ = some x5 := hc 5 _ rfl
        have e6 : wr.cell? ⟨g, o + k * 13 + 6, none⟩ = some x6 := hc 6 _ rfl
        have e7 : wr.cell? ⟨g, o + k * 13 + 7, none⟩ = some x7 := hc 7 _ rfl
        have e8 : wr.cell? ⟨g, o + k * 13 + 8, none⟩ = some x8 := hc 8 _ rfl
        have e9 : wr.cell? ⟨g, o + k * 13 + 9, none⟩ = some x9 := hc 9 _ rfl
        have e10 : wr.cell? ⟨g, o + k * 13 + 10, none⟩ = some x10 := hc 10 _ rfl
        have e11 : wr.cell? ⟨g, o + k * 13 + 11, none⟩ = some x11 := hc 11 _ rfl
        have e12 : wr.cell? ⟨g, o + k * 13 + 12, none⟩ = some x12 := hc 12 _ rfl
        have f0 : wr.cell? ⟨g', o' + k * 13, none⟩ = some y0 := hc' 0 _ rfl
        have f1 : wr.cell? ⟨g', o' + k * 13 + 1, none⟩ = some y1 := hc' 1 _ rfl
        have f2 : wr.cell? ⟨g', o' + k * 13 + 2, none⟩ = some y2 := hc' 2 _ rfl
        have f3 : wr.cell? ⟨g', o' + k * 13 + 3, none⟩ = some y3 := hc' 3 _ rfl
        have f4 : wr.cell? ⟨g', o' + k * 13 + 4, none⟩ = some y4 := hc' 4 _ rfl
        have f5 : wr.cell? ⟨g', o' + k * 13 + 5, none⟩ = some y5 := hc' 5 _ rfl
        have f6 : wr.cell? ⟨g', o' + k * 13 + 6, none⟩ = some y6 := hc' 6 _ rfl
        have f7 : wr.cell? ⟨g', o' + k * 13 + 7, none⟩ = some y7 := hc' 7 _ rfl
        have f8 : wr.cell? ⟨g', o' + k * 13 + 8, none⟩ = some y8 := hc' 8 _ rfl
        have f9 : wr.cell? ⟨g', o' + k * 13 + 9, none⟩ = some y9 := hc' 9 _ rfl
        have f10 : wr.cell? ⟨g', o' + k * 13 + 10, none⟩ = some y10 := hc' 10 _ rfl
        have f11 : wr.cell? ⟨g', o' + k * 13 + 11, none⟩ = some y11 := hc' 11 _ rfl
        have f12 : wr.cell? ⟨g', o' + k * 13 + 12, none⟩ = some y12 := hc' 12 _ rfl
        have s0 := store_one x0 (hoc x0 (by simp))
        have s1 := store_one x1 (hoc x1 (by simp))
        have s2 := store_one x2 (hoc x2 (by simp))
        have s3 := store_one x3 (hoc x3 (by simp))
        have s4 := store_one x4 (hoc x4 (by simp))
        have s5 := store_one x5 (hoc x5 (by simp))
        have s6 := store_one x6 (hoc x6 (by simp))
        have s7 := store_one x7 (hoc x7 (by simp))
        have s8 := store_one x8 (hoc x8 (by simp))
        have s9 := store_one x9 (hoc x9 (by simp))
        have s10 := store_one x10 (hoc x10 (by simp))
        have s11 := store_one x11 (hoc x11 (by simp))
        have s12 := store_one x12 (hoc x12 (by simp))
        obtain ⟨wa, hwa⟩ : ∃ wa, wr.alloc (.cells #[x0, x1, x2, x3, x4, x5, x6, x7, x8, x9, x10, x11, x12] 54) = wa := ⟨_, rfl⟩
        have hal : Below wr.heap.size wr wa := by rw [← hwa]; exact (Below.refl _ _).alloc (Nat.le_refl _) _
        have hbk := Blk.new wr 54 #[x0, x1, x2, x3, x4, x5, x6, x7, x8, x9, x10, x11, x12]
        rw [hwa] at hbk
        have b0 := hbk.cell 0
        have b1 := hbk.cell 1
        have b2 := hbk.cell 2
        have b3 := hbk.cell 3
        have b4 := hbk.cell 4
        have b5 := hbk.cell 5
        have b6 := hbk.cell 6
        have b7 := hbk.cell 7
        have b8 := hbk.cell 8
        have b9 := hbk.cell 9
        have b10 := hbk.cell 10
        have b11 := hbk.cell 11
        have b12 := hbk.cell 12
        simp only [List.getElem?_toArray, List.getElem?_cons_succ, List.getElem?_cons_zero] at b0 b1 b2 b3 b4 b5 b6 b7 b8 b9 b10 b11 b12
        have k0 : wa.cell? ⟨g', o' + k * 13, none⟩ = some y0 := hwa ▸ Lib.cell?_alloc_some _ f0
        have k1 : wa.cell? ⟨g', o' + k * 13 + 1, none⟩ = some y1 := hwa ▸ Lib.cell?_alloc_some _ f1
        have k2 : wa.cell? ⟨g', o' + k * 13 + 2, none⟩ = some y2 := hwa ▸ Lib.cell?_alloc_some _ f2
        have k3 : wa.cell? ⟨g', o' + k * 13 + 3, none⟩ = some y3 := hwa ▸ Lib.cell?_alloc_some _ f3
        have k4 : wa.cell? ⟨g', o' + k * 13 + 4, none⟩ = some y4 := hwa ▸ Lib.cell?_alloc_some _ f4
        have k5 : wa.cell? ⟨g', o' + k * 13 + 5, none⟩ = some y5 := hwa ▸ Lib.cell?_alloc_some _ f5
        have k6 : wa.cell? ⟨g', o' + k * 13 + 6, none⟩ = some y6 := hwa ▸ Lib.cell?_alloc_some _ f6
        have k7 : wa.cell? ⟨g', o' + k * 13 + 7, none⟩ = some y7 := hwa ▸ Lib.cell?_alloc_some _ f7
        have k8 : wa.cell? ⟨g', o' + k * 13 + 8, none⟩ = some y8 := hwa ▸ Lib.cell?_alloc_some _ f8
        have k9 : wa.cell? ⟨g', o' + k * 13 + 9, none⟩ = some y9 := hwa ▸ Lib.cell?_alloc_some _ f9
        have k10 : wa.cell? ⟨g', o' + k * 13 + 10, none⟩ = some y10 := hwa ▸ Lib.cell?_alloc_some _ f10
        have k11 : wa.cell? ⟨g', o' + k * 13 + 11, none⟩ = some y11 := hwa ▸ Lib.cell?_alloc_some _ f11
        have k12 : wa.cell? ⟨g', o' + k * 13 + 12, none⟩ = some y12 := hwa ▸ Lib.cell?_alloc_some _ f12
        have HW := Lib.hid hwa
        have hgw : g < wr.heap.size := by omega
        have hgw' : g' < wr.heap.size := by omega
        have HC1 := Lib.hid (C wa.drew (hbe.trans ((hal.drew).mono hzr)))
        obtain ⟨u, hu⟩ : ∃ u, r k = u := ⟨_, rfl⟩
        rw [hu] at HC1
        have HU := Lib.hid hu
        have HAL := Lib.hid (hbe.trans ((hal.drew).mono hzr))
        clear hbe C hoc hc hc' hl hl' hl4 hl4' hal hu hwa hbk
        cases u with
        | true =>
          go_wp2_with fail
          rw [HW.out]
          go_still_tail 6, (by kernel_rfl)
          change wpList _ _ _ _ _ (World.drew _)
          go_wp2_with (go_at_call 36; (with_reducible refine HC1.out.mono ?_); rintro e w2 ⟨rfl, hb2⟩)
          go_roundw
          case rel => exact ⟨k + 1, by go_num, by omega, fun j h => by
            rcases Nat.lt_or_ge j k with h3 | h3
            · exact HALL.out j h3
            · have : j = k := by omega
              subst this; exact HU.out, HAL.out.trans (hb2.mono HAL.out.size)⟩
          case measure => simp [intOf]; omega
        | false =>
          have HF := Lib.hid (all_no hlt HU.out)
          go_wp2_with fail
          rw [HW.out]
          go_still_tail 6, (by kernel_rfl)
          change wpList _ _ _ _ _ (World.drew _)
          go_wp2_with (go_at_call 36; (with_reducible refine HC1.out.mono ?_); rintro e w2 ⟨rfl, hb2⟩)
          go_ret
          exact ⟨ret_bool (by rw [HF.out]; simp), HAL.out.trans (hb2.mono HAL.out.size)⟩
      · have HT := Lib.hid (all_yes (n := n) (r := r) (fun j h => HALL.out j (by omega)))
        go_wp2_with fail
        go_ret
        exact ⟨ret_bool (by rw [HT.out]; simp), HBE.out⟩
  · have hd : ((n : Int) != (m : Int)) = true := by simp; omega
    rw [show (n == m) = false by simpa using hnm]
    clear hnm
    go_enter Try.func35, Try.ntmps35
    go_wp2_with fail
    go_ret
    exact ⟨rfl, Below.refl _ _⟩

set_option maxHeartbeats 3200000 in
theorem plist_al (n m : Nat) (A A' : Option Addr) (c c' B : Nat) (w : World) (L L' : List (List Value)) (r : Nat → Bool) (hB : B ≤ w.heap.size) (hn9 : n ≤ 9223372036854775807) (hr : Row w B 16 A n L) (hr' : Row w B 16 A' m L') (hone : ∀ l ∈ L, ∀ u ∈ l, u.oneCell' = true)
    (hcall : ∀ i (h1 : i < L.length) (h2 : i < L'.length) (w' : World), Below w.heap.size w w' → Calls Try.prog 38 #[.agg L[i].toArray, .agg L'[i].toArray] w' fun e w2 => e = .returned (.bool (r i)) ∧ Below w'.heap.size w' w2) :
    Calls Try.prog 37 #[.slice A n c, .slice A' m c', .func (.func 38) #[] #[]] w fun e w' => e = .returned (.bool (n == m && (List.range n).all r)) ∧ Below w.heap.size w w' := by
  have HR := Lib.hid hr
  have HR' := Lib.hid hr'
  have HO := Lib.hid hone
  have HC := Lib.hid hcall
  clear hr hr' hone hcall
  by_cases hnm : n = m
  · subst hnm
    have hd : ((n : Int) != (n : Int)) = false := by simp
    go_enter Try.func37, Try.ntmps37
    go_wp2_with fail
    go_loopw [16] (fun i wr => ∃ k : Nat, i = .int .i64 k ∧ k ≤ n ∧ (∀ j, j < k → r j = true) ∧ Below w.heap.size w wr) (fun i _ => n - (intOf i).toNat)
    case atStart => exact ⟨0, rfl, Nat.zero_le _, fun j h => by omega, Below.refl _ _⟩
    case round =>
      obtain ⟨k, rfl, hk, hall, hbe⟩ := hrel
      have hzr := hbe.size
      have HALL := Lib.hid hall
      have HBE := Lib.hid hbe
      clear hall
      by_cases hlt : k < n
      · obtain ⟨g, o, rfl, hg, hl, hl4, hc⟩ := (HR.out.later (hbe.mono hB)).cells (by omega) hlt
        obtain ⟨g', o', rfl, hg', hl', hl4', hc'⟩ := (HR'.out.later (hbe.mono hB)).cells (by omega) hlt
        have C := HC.out k hl hl'
        have hoc := HO.out L[k] (List.getElem_mem hl)
        generalize L[k] = x at *
        generalize L'[k] = y at *
        obtain ⟨x0, x1, x2, x3, x4, x5, x6, x7, x8, x9, x10, x11, x12, x13, x14, x15, hxs⟩ : ∃ x0 x1 x2 x3 x4 x5 x6 x7 x8 x9 x10 x11 x12 x13 x14 x15, x = [x0, x1, x2, x3, x4, x5, x6, x7, x8, x9, x10, x11, x12, x13, x14, x15] := sixteen_of hl4
        subst hxs
        obtain ⟨y0, y1, y2, y3, y4, y5, y6, y7, y8, y9, y10, y11, y12, y13, y14, y15, hys⟩ : ∃ y0 y1 y2 y3 y4 y5 y6 y7 y8 y9 y10 y11 y12 y13 y14 y15, y = [y0, y1, y2, y3, y4, y5, y6, y7, y8, y9, y10, y11, y12, y13, y14, y15] := sixteen_of hl4'
        subst hys
        have e0 : wr.cell? ⟨g, o + k * 16, none⟩ = some x0 := hc 0 _ rfl
        have e1 : wr.cell? ⟨g, o + k * 16 + 1, none⟩ = some x1 := hc 1 _ rfl
        have e2 : wr.cell? ⟨g, o + k * 16 + 2, none⟩ = some x2 := hc 2 _ rfl
        have e3 : wr.cell? ⟨g, o + k * 16 + 3, none⟩ = some x3 := hc 3 _ rfl
        have e4 : wr.cell? ⟨g, o + k * 16 + 4, none⟩ = some x4 := hc 4 _ rfl
        have e5 : wr.cell? ⟨g, o + k * 16 + 5, none⟩ = some x5 := hc 5 _ rfl
        have e6 : wr.cell? ⟨g, o + k * 16 + 6, none⟩ = some x6 := hc 6 _ rfl
        have e7 : wr.cell? ⟨g, o + k * 16 + 7, none⟩ = some x7 := hc 7 _ rfl
        have e8 : wr.cell? ⟨g, o + k * 16 + 8, none⟩ = some x8 := hc 8 _ rfl
        have e9 : wr.cell? ⟨g, o + k * 16 + 9, none⟩ = some x9 := hc 9 _ rfl
        have e10 : wr.cell? ⟨g, o + k * 16 + 10, none⟩ = some x10 := hc 10 _ rfl
        have e11 : wr.cell? ⟨g, o + k * 16 + 11, none⟩ = some x11 := hc 11 _ rfl
        have e12 : wr.cell? ⟨g, o + k * 16 + 12, none⟩ = some x12 := hc 12 _ rfl
        have e13 : wr.cell? ⟨g, o + k * 16 + 13, none⟩ = some x13 := hc 13 _ rfl
        have e14 : wr.cell? ⟨g, o + k * 16 + 14, none⟩ = some x14 := hc 14 _ rfl
        have e15 : wr.cell? ⟨g, o + k * 16 + 15, none⟩ = some x15 := hc 15 _ rfl
        have f0 : wr.cell? ⟨g', o' + k * 16, none⟩ = some y0 := hc' 0 _ rfl
        have f1 : wr.cell? ⟨g', o' + k * 16 + 1, none⟩ = some y1 := hc' 1 _ rfl
        have f2 : wr.cell? ⟨g', o' + k * 16 + 2, none⟩ = some y2 := hc' 2 _ rfl
        have f3 : wr.cell? ⟨g', o' + k * 16 + 3, none⟩ = some y3 := hc' 3 _ rfl
        have f4 : wr.cell? ⟨g', o' + k * 16 + 4, none⟩ = some y4 := hc' 4 _ rfl
        have f5 : wr.cell? ⟨g', o' + k * 16 + 5, none⟩ = some y5 := hc' 5 _ rfl
        have f6 : wr.cell? ⟨g', o' + k * 16 + 6, none⟩ = some y6 := hc' 6 _ rfl
        have f7 : wr.cell? ⟨g', o' + k * 16 + 7, none⟩ = some y7 := hc' 7 _ rfl
        have f8 : wr.cell? ⟨g', o' + k * 16 + 8, none⟩ = some y8 := hc' 8 _ rfl
        have f9 : wr.cell? ⟨g', o' + k * 16 + 9, none⟩ = some y9 := hc' 9 _ rfl
        have f10 : wr.cell? ⟨g', o' + k * 16 + 10, none⟩ = some y10 := hc' 10 _ rfl
        have f11 : wr.cell? ⟨g', o' + k * 16 + 11, none⟩ = some y11 := hc' 11 _ rfl
        have f12 : wr.cell? ⟨g', o' + k * 16 + 12, none⟩ = some y12 := hc' 12 _ rfl
        have f13 : wr.cell? ⟨g', o' + k * 16 + 13, none⟩ = some y13 := hc' 13 _ rfl
        have f14 : wr.cell? ⟨g', o' + k * 16 + 14, none⟩ = some y14 := hc' 14 _ rfl
        have f15 : wr.cell? ⟨g', o' + k * 16 + 15, none⟩ = some y15 := hc' 15 _ rfl
        have s0 := store_one x0 (hoc x0 (by simp))
        have s1 := store_one x1 (hoc x1 (by simp))
        have s2 := store_one x2 (hoc x2 (by simp))
        have s3 := store_one x3 (hoc x3 (by simp))
        have s4 := store_one x4 (hoc x4 (by simp))
        have s5 := store_one x5 (hoc x5 (by simp))
        have s6 := store_one x6 (hoc x6 (by simp))
        have s7 := store_one x7 (hoc x7 (by simp))
        have s8 := store_one x8 (hoc x8 (by simp))
        have s9 := store_one x9 (hoc x9 (by simp))
        have s10 := store_one x10 (hoc x10 (by simp))
        have s11 := store_one x11 (hoc x11 (by simp))
        have s12 := store_one x12 (hoc x12 (by simp))
        have s13 := store_one x13 (hoc x13 (by simp))
        have s14 := store_one x14 (hoc x14 (by simp))
        have s15 := store_one x15 (hoc x15 (by simp))
        obtain ⟨wa, hwa⟩ : ∃ wa, wr.alloc (.cells #[x0, x1, x2, x3, x4, x5, x6, x7, x8, x9, x10, x11, x12, x13, x14, x15] 41) = wa := ⟨_, rfl⟩
        have hal : Below wr.heap.size wr wa := by rw [← hwa]; exact (Below.refl _ _).alloc (Nat.le_refl _) _
        have hbk := Blk.new wr 41 #[x0, x1, x2, x3, x4, x5, x6, x7, x8, x9, x10, x11, x12, x13, x14, x15]
        rw [hwa] at hbk
        have b0 := hbk.cell 0
        have b1 := hbk.cell 1
        have b2 := hbk.cell 2
        have b3 := hbk.cell 3
        have b4 := hbk.cell 4
        have b5 := hbk.cell 5
        have b6 := hbk.cell 6
        have b7 := hbk.cell 7
        have b8 := hbk.cell 8
        have b9 := hbk.cell 9
        have b10 := hbk.cell 10
        have b11 := hbk.cell 11
        have b12 := hbk.cell 12
        have b13 := hbk.cell 13
        have b14 := hbk.cell 14
        have b15 := hbk.cell 15
        simp only [List.getElem?_toArray, List.getElem?_cons_succ, List.getElem?_cons_zero] at b0 b1 b2 b3 b4 b5 b6 b7 b8 b9 b10 b11 b12 b13 b14 b15
        have k0 : wa.cell? ⟨g', o' + k * 16, none⟩ = some y0 := hwa ▸ Lib.cell?_alloc_some _ f0
        have k1 : wa.cell? ⟨g', o' + k * 16 + 1, none⟩ = some y1 := hwa ▸ Lib.cell?_alloc_some _ f1
        have k2 : wa.cell? ⟨g', o' + k * 16 + 2, none⟩ = some y2 := hwa ▸ Lib.cell?_alloc_some _ f2
        have k3 : wa.cell? ⟨g', o' + k * 16 + 3, none⟩ = some y3 := hwa ▸ Lib.cell?_alloc_some _ f3
        have k4 : wa.cell? ⟨g', o' + k * 16 + 4, none⟩ = some y4 := hwa ▸ Lib.cell?_alloc_some _ f4
        have k5 : wa.cell? ⟨g', o' + k * 16 + 5, none⟩ = some y5 := hwa ▸ Lib.cell?_alloc_some _ f5
        have k6 : wa.cell? ⟨g', o' + k * 16 + 6, none⟩ = some y6 := hwa ▸ Lib.cell?_alloc_some _ f6
        have k7 : wa.cell? ⟨g', o' + k * 16 + 7, none⟩ = some y7 := hwa ▸ Lib.cell?_alloc_some _ f7
        have k8 : wa.cell? ⟨g', o' + k * 16 + 8, none⟩ = some y8 := hwa ▸ Lib.cell?_alloc_some _ f8
        have k9 : wa.cell? ⟨g', o' + k * 16 + 9, none⟩ = some y9 := hwa ▸ Lib.cell?_alloc_some _ f9
        have k10 : wa.cell? ⟨g', o' + k * 16 + 10, none⟩ = some y10 := hwa ▸ Lib.cell?_alloc_some _ f10
        have k11 : wa.cell? ⟨g', o' + k * 16 + 11, none⟩ = some y11 := hwa ▸ Lib.cell?_alloc_some _ f11
        have k12 : wa.cell? ⟨g', o' + k * 16 + 12, none⟩ = some y12 := hwa ▸ Lib.cell?_alloc_some _ f12
        have k13 : wa.cell? ⟨g', o' + k * 16 + 13, none⟩ = some y13 := hwa ▸ Lib.cell?_alloc_some _ f13
        have k14 : wa.cell? ⟨g', o' + k * 16 + 14, none⟩ = some y14 := hwa ▸ Lib.cell?_alloc_some _ f14
        have k15 : wa.cell? ⟨g', o' + k * 16 + 15, none⟩ = some y15 := hwa ▸ Lib.cell?_alloc_some _ f15
        have HW := Lib.hid hwa
        have hgw : g < wr.heap.size := by omega
        have hgw' : g' < wr.heap.size := by omega
        have HC1 := Lib.hid (C wa.drew (hbe.trans ((hal.drew).mono hzr)))
        obtain ⟨u, hu⟩ : ∃ u, r k = u := ⟨_, rfl⟩
        rw [hu] at HC1
        have HU := Lib.hid hu
        have HAL := Lib.hid (hbe.trans ((hal.drew).mono hzr))
        clear hbe C hoc hc hc' hl hl' hl4 hl4' hal hu hwa hbk
        cases u with
        | true =>
          go_wp2_with fail
          rw [HW.out]
          go_still_tail 6, (by kernel_rfl)
          change wpList _ _ _ _ _ (World.drew _)
          go_wp2_with (go_at_call 38; (with_reducible refine HC1.out.mono ?_); rintro e w2 ⟨rfl, hb2⟩)
          go_roundw
          case rel => exact ⟨k + 1, by go_num, by omega, fun j h => by
            rcases Nat.lt_or_ge j k with h3 | h3
            · exact HALL.out j h3
            · have : j = k := by omega
              subst this; exact HU.out, HAL.out.trans (hb2.mono HAL.out.size)⟩
          case measure => simp [intOf]; omega
        | false =>
          have HF := Lib.hid (all_no hlt HU.out)
          go_wp2_with fail
          rw [HW.out]
          go_still_tail 6, (by kernel_rfl)
          change wpList _ _ _ _ _ (World.drew _)
          go_wp2_with (go_at_call 38; (with_reducible refine HC1.out.mono ?_); rintro e w2 ⟨rfl, hb2⟩)
          go_ret
          exact ⟨ret_bool (by rw [HF.out]; simp), HAL.out.trans (hb2.mono HAL.out.size)⟩
      · have HT := Lib.hid (all_yes (n := n) (r := r) (fun j h => HALL.out j (by omega)))
        go_wp2_with fail
        go_ret
        exact ⟨ret_bool (by rw [HT.out]; simp), HBE.out⟩
  · have hd : ((n : Int) != (m : Int)) = true := by simp; omega
    rw [show (n == m) = false by simpa using hnm]
    clear hnm
    go_enter Try.func37, Try.ntmps37
    go_wp2_with fail
    go_ret
    exact ⟨rfl, Below.refl _ _⟩

end Go.Proofs.Ytglamoiimmahgaa
