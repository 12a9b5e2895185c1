/- Walks: the program's equalities: lists, and structs field by field. -/
import Derived.Test.YtglamoiimmahgaaPla
import Derived.StillTailTactics
import Derived.OneCell
import Derived.Test.YtglamoiimmahgaaNames
namespace Go.Proofs.Ytglamoiimmahgaa
open Go.RowKit
set_option linter.unusedVariables false
set_option linter.unusedSimpArgs false
set_option maxRecDepth 100000


set_option maxHeartbeats 3200000 in
theorem plist_da (n m : Nat) (A A' : Option Addr) (c c' B : Nat) (w : World) (L L' : List (List Value)) (r : Nat → Bool) (hB : B ≤ w.heap.size) (hn9 : n ≤ 9223372036854775807) (hr : Row w B 5 A n L) (hr' : Row w B 5 A' m L') (hone : ∀ l ∈ L, ∀ u ∈ l, u.oneCell' = true)
    (hcall : ∀ i (h1 : i < L.length) (h2 : i < L'.length) (w' : World), Below w.heap.size w w' → Calls Try.prog 44 #[.agg L[i].toArray, .agg L'[i].toArray] w' fun e w2 => e = .returned (.bool (r i)) ∧ Below w'.heap.size w' w2) :
    Calls Try.prog 43 #[.slice A n c, .slice A' m c', .func (.func 44) #[] #[]] w fun e w' => e = .returned (.bool (n == m && (List.range n).all r)) ∧ Below w.heap.size w w' := by
  have HR := Lib.hid hr
  have HR' := Lib.hid hr'
  have HO := Lib.hid hone
  have HC := Lib.hid hcall
  clear hr hr' hone hcall
  by_cases hnm : n = m
  · subst hnm
    have hd : ((n : Int) != (n : Int)) = false := by simp
    go_enter Try.func43, Try.ntmps43
    go_wp2_with fail
    go_loopw [16] (fun i wr => ∃ k : Nat, i = .int .i64 k ∧ k ≤ n ∧ (∀ j, j < k → r j = true) ∧ Below w.heap.size w wr) (fun i _ => n - (intOf i).toNat)
    case atStart => exact ⟨0, rfl, Nat.zero_le _, fun j h => by omega, Below.refl _ _⟩
    case round =>
      obtain ⟨k, rfl, hk, hall, hbe⟩ := hrel
      have hzr := hbe.size
      have HALL := Lib.hid hall
      have HBE := Lib.hid hbe
      clear hall
      by_cases hlt : k < n
      · obtain ⟨g, o, rfl, hg, hl, hl4, hc⟩ := (HR.out.later (hbe.mono hB)).cells (by omega) hlt
        obtain ⟨g', o', rfl, hg', hl', hl4', hc'⟩ := (HR'.out.later (hbe.mono hB)).cells (by omega) hlt
        have C := HC.out k hl hl'
        have hoc := HO.out L[k] (List.getElem_mem hl)
        generalize L[k] = x at *
        generalize L'[k] = y at *
        obtain ⟨x0, x1, x2, x3, x4, hxs⟩ : ∃ x0 x1 x2 x3 x4, x = [x0, x1, x2, x3, x4] := five_of hl4
        subst hxs
        obtain ⟨y0, y1, y2, y3, y4, hys⟩ : ∃ y0 y1 y2 y3 y4, y = [y0, y1, y2, y3, y4] := five_of hl4'
        subst hys
        have e0 : wr.cell? ⟨g, o + k * 5, none⟩ = some x0 := hc 0 _ rfl
        have e1 : wr.cell? ⟨g, o + k * 5 + 1, none⟩ = some x1 := hc 1 _ rfl
        have e2 : wr.cell? ⟨g, o + k * 5 + 2, none⟩ = some x2 := hc 2 _ rfl
        have e3 : wr.cell? ⟨g, o + k * 5 + 3, none⟩ = some x3 := hc 3 _ rfl
        have e4 : wr.cell? ⟨g, o + k * 5 + 4, none⟩ = some x4 := hc 4 _ rfl
        have f0 : wr.cell? ⟨g', o' + k * 5, none⟩ = some y0 := hc' 0 _ rfl
        have f1 : wr.cell? ⟨g', o' + k * 5 + 1, none⟩ = some y1 := hc' 1 _ rfl
        have f2 : wr.cell? ⟨g', o' + k * 5 + 2, none⟩ = some y2 := hc' 2 _ rfl
        have f3 : wr.cell? ⟨g', o' + k * 5 + 3, none⟩ = some y3 := hc' 3 _ rfl
        have f4 : wr.cell? ⟨g', o' + k * 5 + 4, none⟩ = some y4 := hc' 4 _ rfl
        have s0 := store_one x0 (hoc x0 (by simp))
        have s1 := store_one x1 (hoc x1 (by simp))
        have s2 := store_one x2 (hoc x2 (by simp))
        have s3 := store_one x3 (hoc x3 (by simp))
        have s4 := store_one x4 (hoc x4 (by simp))
        obtain ⟨wa, hwa⟩ : ∃ wa, wr.alloc (.cells #[x0, x1, x2, x3, x4] 79) = wa := ⟨_, rfl⟩
        have hal : Below wr.heap.size wr wa := by rw [← hwa]; exact (Below.refl _ _).alloc (Nat.le_refl _) _
        have hbk := Blk.new wr 79 #[x0, x1, x2, x3, x4]
        rw [hwa] at hbk
        have b0 := hbk.cell 0
        have b1 := hbk.cell 1
        have b2 := hbk.cell 2
        have b3 := hbk.cell 3
        have b4 := hbk.cell 4
        simp only [List.getElem?_toArray, List.getElem?_cons_succ, List.getElem?_cons_zero] at b0 b1 b2 b3 b4
        have k0 : wa.cell? ⟨g', o' + k * 5, none⟩ = some y0 := hwa ▸ Lib.cell?_alloc_some _ f0
        have k1 : wa.cell? ⟨g', o' + k * 5 + 1, none⟩ = some y1 := hwa ▸ Lib.cell?_alloc_some _ f1
        have k2 : wa.cell? ⟨g', o' + k * 5 + 2, none⟩ = some y2 := hwa ▸ Lib.cell?_alloc_some _ f2
        have k3 : wa.cell? ⟨g', o' + k * 5 + 3, none⟩ = some y3 := hwa ▸ Lib.cell?_alloc_some _ f3
        have k4 : wa.cell? ⟨g', o' + k * 5 + 4, none⟩ = some y4 := hwa ▸ Lib.cell?_alloc_some _ f4
        have HW := Lib.hid hwa
        have hgw : g < wr.heap.size := by omega
        have hgw' : g' < wr.heap.size := by omega
        have HC1 := Lib.hid (C wa.drew (hbe.trans ((hal.drew).mono hzr)))
        obtain ⟨u, hu⟩ : ∃ u, r k = u := ⟨_, rfl⟩
        rw [hu] at HC1
        have HU := Lib.hid hu
        have HAL := Lib.hid (hbe.trans ((hal.drew).mono hzr))
        clear hbe C hoc hc hc' hl hl' hl4 hl4' hal hu hwa hbk
        cases u with
        | true =>
          go_wp2_with fail
          rw [HW.out]
          go_still_tail 6, (by kernel_rfl)
          change wpList _ _ _ _ _ (World.drew _)
          go_wp2_with (go_at_call 44; (with_reducible refine HC1.out.mono ?_); rintro e w2 ⟨rfl, hb2⟩)
          go_roundw
          case rel => exact ⟨k + 1, by go_num, by omega, fun j h => by
            rcases Nat.lt_or_ge j k with h3 | h3
            · exact HALL.out j h3
            · have : j = k := by omega
              subst this; exact HU.out, HAL.out.trans (hb2.mono HAL.out.size)⟩
          case measure => simp [intOf]; omega
        | false =>
          have HF := Lib.hid (all_no hlt HU.out)
          go_wp2_with fail
          rw [HW.out]
          go_still_tail 6, (by kernel_rfl)
          change wpList _ _ _ _ _ (World.drew _)
          go_wp2_with (go_at_call 44; (with_reducible refine HC1.out.mono ?_); rintro e w2 ⟨rfl, hb2⟩)
          go_ret
          exact ⟨ret_bool (by rw [HF.out]; simp), HAL.out.trans (hb2.mono HAL.out.size)⟩
      · have HT := Lib.hid (all_yes (n := n) (r := r) (fun j h => HALL.out j (by omega)))
        go_wp2_with fail
        go_ret
        exact ⟨ret_bool (by rw [HT.out]; simp), HBE.out⟩
  · have hd : ((n : Int) != (m : Int)) = true := by simp; omega
    rw [show (n == m) = false by simpa using hnm]
    clear hnm
    go_enter Try.func43, Try.ntmps43
    go_wp2_with fail
    go_ret
    exact ⟨rfl, Below.refl _ _⟩

set_option maxHeartbeats 3200000 in
theorem plist_cl (n m : Nat) (A A' : Option Addr) (c c' B : Nat) (w : World) (L L' : List (List Value)) (r : Nat → Bool) (hB : B ≤ w.heap.size) (hn9 : n ≤ 9223372036854775807) (hr : Row w B 6 A n L) (hr' : Row w B 6 A' m L') (hone : ∀ l ∈ L, ∀ u ∈ l, u.oneCell' = true)
    (hcall : ∀ i (h1 : i < L.length) (h2 : i < L'.length) (w' : World), Below w.heap.size w w' → Calls Try.prog 46 #[.agg L[i].toArray, .agg L'[i].toArray] w' fun e w2 => e = .returned (.bool (r i)) ∧ Below w'.heap.size w' w2) :
    Calls Try.prog 45 #[.slice A n c, .slice A' m c', .func (.func 46) #[] #[]] w fun e w' => e = .returned (.bool (n == m && (List.range n).all r)) ∧ Below w.heap.size w w' := by
  have HR := Lib.hid hr
  have HR' := Lib.hid hr'
  have HO := Lib.hid hone
  have HC := Lib.hid hcall
  clear hr hr' hone hcall
  by_cases hnm : n = m
  · subst hnm
    have hd : ((n : Int) != (n : Int)) = false := by simp
    go_enter Try.func45, Try.ntmps45
    go_wp2_with fail
    go_loopw [16] (fun i wr => ∃ k : Nat, i = .int .i64 k ∧ k ≤ n ∧ (∀ j, j < k → r j = true) ∧ Below w.heap.size w wr) (fun i _ => n - (intOf i).toNat)
    case atStart => exact ⟨0, rfl, Nat.zero_le _, fun j h => by omega, Below.refl _ _⟩
    case round =>
      obtain ⟨k, rfl, hk, hall, hbe⟩ := hrel
      have hzr := hbe.size
      have HALL := Lib.hid hall
      have HBE := Lib.hid hbe
      clear hall
      by_cases hlt : k < n
      · obtain ⟨g, o, rfl, hg, hl, hl4, hc⟩ := (HR.out.later (hbe.mono hB)).cells (by omega) hlt
        obtain ⟨g', o', rfl, hg', hl', hl4', hc'⟩ := (HR'.out.later (hbe.mono hB)).cells (by omega) hlt
        have C := HC.out k hl hl'
        have hoc := HO.out L[k] (List.getElem_mem hl)
        generalize L[k] = x at *
        generalize L'[k] = y at *
        obtain ⟨x0, x1, x2, x3, x4, x5, hxs⟩ : ∃ x0 x1 x2 x3 x4 x5, x = [x0, x1, x2, x3, x4, x5] := six_of hl4
        subst hxs
        obtain ⟨y0, y1, y2, y3, y4, y5, hys⟩ : ∃ y0 y1 y2 y3 y4 y5, y = [y0, y1, y2, y3, y4, y5] := six_of hl4'
        subst hys
        have e0 : wr.cell? ⟨g, o + k * 6, none⟩ = some x0 := hc 0 _ rfl
        have e1 : wr.cell? ⟨g, o + k * 6 + 1, none⟩ = some x1 := hc 1 _ rfl
        have e2 : wr.cell? ⟨g, o + k * 6 + 2, none⟩ = some x2 := hc 2 _ rfl
        have e3 : wr.cell? ⟨g, o + k * 6 + 3, none⟩ = some x3 := hc 3 _ rfl
        have e4 : wr.cell? ⟨g, o + k * 6 + 4, none⟩ = some x4 := hc 4 _ rfl
        have e5 : wr.cell? ⟨g, o + k * 6 + 5, none⟩ = some x5 := hc 5 _ rfl
        have f0 : wr.cell? ⟨g', o' + k * 6, none⟩ = some y0 := hc' 0 _ rfl
        have f1 : wr.cell? ⟨g', o' + k * 6 + 1, none⟩ = some y1 := hc' 1 _ rfl
        have f2 : wr.cell? ⟨g', o' + k * 6 + 2, none⟩ = some y2 := hc' 2 _ rfl
        have f3 : wr.cell? ⟨g', o' + k * 6 + 3, none⟩ = some y3 := hc' 3 _ rfl
        have f4 : wr.cell? ⟨g', o' + k * 6 + 4, none⟩ = some y4 := hc' 4 _ rfl
        have f5 : wr.cell? ⟨g', o' + k * 6 + 5, none⟩ = some y5 := hc' 5 _ rfl
        have s0 := store_one x0 (hoc x0 (by simp))
        have s1 := store_one x1 (hoc x1 (by simp))
        have s2 := store_one x2 (hoc x2 (by simp))
        have s3 := store_one x3 (hoc x3 (by simp))
        have s4 := store_one x4 (hoc x4 (by simp))
        have s5 := store_one x5 (hoc x5 (by simp))
        obtain ⟨wa, hwa⟩ : ∃ wa, wr.alloc (.cells #[x0, x1, x2, x3, x4, x5] 73) = wa := ⟨_, rfl⟩
        have hal : Below wr.heap.size wr wa := by rw [← hwa]; exact (Below.refl _ _).alloc (Nat.le_refl _) _
        have hbk := Blk.new wr 73 #[x0, x1, x2, x3, x4, x5]
        rw [hwa] at hbk
        have b0 := hbk.cell 0
        have b1 := hbk.cell 1
        have b2 := hbk.cell 2
        have b3 := hbk.cell 3
        have b4 := hbk.cell 4
        have b5 := hbk.cell 5
        simp only [List.getElem?_toArray, List.getElem?_cons_succ, List.getElem?_cons_zero] at b0 b1 b2 b3 b4 b5
        have k0 : wa.cell? ⟨g', o' + k * 6, none⟩ = some y0 := hwa ▸ Lib.cell?_alloc_some _ f0
        have k1 : wa.cell? ⟨g', o' + k * 6 + 1, none⟩ = some y1 := hwa ▸ Lib.cell?_alloc_some _ f1
        have k2 : wa.cell? ⟨g', o' + k * 6 + 2, none⟩ = some y2 := hwa ▸ Lib.cell?_alloc_some _ f2
        have k3 : wa.cell? ⟨g', o' + k * 6 + 3, none⟩ = some y3 := hwa ▸ Lib.cell?_alloc_some _ f3
        have k4 : wa.cell? ⟨g', o' + k * 6 + 4, none⟩ = some y4 := hwa ▸ Lib.cell?_alloc_some _ f4
        have k5 : wa.cell? ⟨g', o' + k * 6 + 5, none⟩ = some y5 := hwa ▸ Lib.cell?_alloc_some _ f5
        have HW := Lib.hid hwa
        have hgw : g < wr.heap.size := by omega
        have hgw' : g' < wr.heap.size := by omega
        have HC1 := Lib.hid (C wa.drew (hbe.trans ((hal.drew).mono hzr)))
        obtain ⟨u, hu⟩ : ∃ u, r k = u := ⟨_, rfl⟩
        rw [hu] at HC1
        have HU := Lib.hid hu
        have HAL := Lib.hid (hbe.trans ((hal.drew).mono hzr))
        clear hbe C hoc hc hc' hl hl' hl4 hl4' hal hu hwa hbk
        cases u with
        | true =>
          go_wp2_with fail
          rw [HW.out]
          go_still_tail 6, (by kernel_rfl)
          change wpList _ _ _ _ _ (World.drew _)
          go_wp2_with (go_at_call 46; (with_reducible refine HC1.out.mono ?_); rintro e w2 ⟨rfl, hb2⟩)
          go_roundw
          case rel => exact ⟨k + 1, by go_num, by omega, fun j h => by
            rcases Nat.lt_or_ge j k with h3 | h3
            · exact HALL.out j h3
            · have : j = k := by omega
              subst this; exact HU.out, HAL.out.trans (hb2.mono HAL.out.size)⟩
          case measure => simp [intOf]; omega
        | false =>
          have HF := Lib.hid (all_no hlt HU.out)
          go_wp2_with fail
          rw [HW.out]
          go_still_tail 6, (by kernel_rfl)
          change wpList _ _ _ _ _ (World.drew _)
          go_wp2_with (go_at_call 46; (with_reducible refine HC1.out.mono ?_); rintro e w2 ⟨rfl, hb2⟩)
          go_ret
          exact ⟨ret_bool (by rw [HF.out]; simp), HAL.out.trans (hb2.mono HAL.out.size)⟩
      · have HT := Lib.hid (all_yes (n := n) (r := r) (fun j h => HALL.out j (by omega)))
        go_wp2_with fail
        go_ret
        exact ⟨ret_bool (by rw [HT.out]; simp), HBE.out⟩
  · have hd : ((n : Int) != (m : Int)) = true := by simp; omega
    rw [show (n == m) = false by simpa using hnm]
    clear hnm
    go_enter Try.func45, Try.ntmps45
    go_wp2_with fail
    go_ret
    exact ⟨rfl, Below.refl _ _⟩

set_option maxHeartbeats 3200000 in
theorem plist_in (n m : Nat) (A A' : Option Addr) (c c' B : Nat) (w : World) (L L' : List (List Value)) (r : Nat → Bool) (hB : B ≤ w.heap.size) (hn9 : n ≤ 9223372036854775807) (hr : Row w B 8 A n L) (hr' : Row w B 8 A' m L') (hone : ∀ l ∈ L, ∀ u ∈ l, u.oneCell' = true)
    (hcall : ∀ i (h1 : i < L.length) (h2 : i < L'.length) (w' : World), Below w.heap.size w w' → Calls Try.prog 48 #[.agg L[i].toArray, .agg L'[i].toArray] w' fun e w2 => e = .returned (.bool (r i)) ∧ Below w'.heap.size w' w2) :
    Calls Try.prog 47 #[.slice A n c, .slice A' m c', .func (.func 48) #[] #[]] w fun e w' => e = .returned (.bool (n == m && (List.range n).all r)) ∧ Below w.heap.size w w' := by
  have HR := Lib.hid hr
  have HR' := Lib.hid hr'
  have HO := Lib.hid hone
  have HC := Lib.hid hcall
  clear hr hr' hone hcall
  by_cases hnm : n = m
  · subst hnm
    have hd : ((n : Int) != (n : Int)) = false := by simp
    go_enter Try.func47, Try.ntmps47
    go_wp2_with fail
    go_loopw [16] (fun i wr => ∃ k : Nat, i = .int .i64 k ∧ k ≤ n ∧ (∀ j, j < k → r j = true) ∧ Below w.heap.size w wr) (fun i _ => n - (intOf i).toNat)
    case atStart => exact ⟨0, rfl, Nat.zero_le _, fun j h => by omega, Below.refl _ _⟩
    case round =>
      obtain ⟨k, rfl, hk, hall, hbe⟩ := hrel
      have hzr := hbe.size
      have HALL := Lib.hid hall
      have HBE := Lib.hid hbe
      clear hall
      by_cases hlt : k < n
      · obtain ⟨g, o, rfl, hg, hl, hl4, hc⟩ := (HR.out.later (hbe.mono hB)).cells (by omega) hlt
        obtain ⟨g', o', rfl, hg', hl', hl4', hc'⟩ := (HR'.out.later (hbe.mono hB)).cells (by omega) hlt
        have C := HC.out k hl hl'
        have hoc := HO.out L[k] (List.getElem_mem hl)
        generalize L[k] = x at *
        generalize L'[k] = y at *
        obtain ⟨x0, x1, x2, x3, x4, x5, x6, x7, hxs⟩ : ∃ x0 x1 x2 x3 x4 x5 x6 x7, x = [x0, x1, x2, x3, x4, x5, x6, x7] := eight_of hl4
        subst hxs
        obtain ⟨y0, y1, y2, y3, y4, y5, y6, y7, hys⟩ : ∃ y0 y1 y2 y3 y4 y5 y6 y7, y = [y0, y1, y2, y3, y4, y5, y6, y7] := eight_of hl4'
        subst hys
        have e0 : wr.cell? ⟨g, o + k * 8, none⟩ = some x0 := hc 0 _ rfl
        have e1 : wr.cell? ⟨g, o + k * 8 + 1, none⟩ = some x1 := hc 1 _ rfl
        have e2 : wr.cell? ⟨g, o + k * 8 + 2, none⟩ = some x2 := hc 2 _ rfl
        have e3 : wr.cell? ⟨g, o + k * 8 + 3, none⟩ = some x3 := hc 3 _ rfl
        have e4 : wr.cell? ⟨g, o + k * 8 + 4, none⟩ = some x4 := hc 4 _ rfl
        have e5 : wr.cell? ⟨g, o + k * 8 + 5, none⟩ = some x5 := hc 5 _ rfl
        have e6 : wr.cell? ⟨g, o + k * 8 + 6, none⟩ = some x6 := hc 6 _ rfl
        have e7 : wr.cell? ⟨g, o + k * 8 + 7, none⟩ = some x7 := hc 7 _ rfl
        have f0 : wr.cell? ⟨g', o' + k * 8, none⟩ = some y0 := hc' 0 _ rfl
        have f1 : wr.cell? ⟨g', o' + k * 8 + 1, none⟩ = some y1 := hc' 1 _ rfl
        have f2 : wr.cell? ⟨g', o' + k * 8 + 2, none⟩ = some y2 := hc' 2 _ rfl
        have f3 : wr.cell? ⟨g', o' + k * 8 + 3, none⟩ = some y3 := hc' 3 _ rfl
        have f4 : wr.cell? ⟨g', o' + k * 8 + 4, none⟩ = some y4 := hc' 4 _ rfl
        have f5 : wr.cell? ⟨g', o' + k * 8 + 5, none⟩ = some y5 := hc' 5 _ rfl
        have f6 : wr.cell? ⟨g', o' + k * 8 + 6, none⟩ = some y6 := hc' 6 _ rfl
        have f7 : wr.cell? ⟨g', o' + k * 8 + 7, none⟩ = some y7 := hc' 7 _ rfl
        have s0 := store_one x0 (hoc x0 (by simp))
        have s1 := store_one x1 (hoc x1 (by simp))
        have s2 := store_one x2 (hoc x2 (by simp))
        have s3 := store_one x3 (hoc x3 (by simp))
        have s4 := store_one x4 (hoc x4 (by simp))
        have s5 := store_one x5 (hoc x5 (by simp))
        have s6 := store_one x6 (hoc x6 (by simp))
        have s7 := store_one x7 (hoc x7 (by simp))
        obtain ⟨wa, hwa⟩ : ∃ wa, wr.alloc (.cells #[x0, x1, x2, x3, x4, x5, x6, x7] 76) = wa := ⟨_, rfl⟩
        have hal : Below wr.heap.size wr wa := by rw [← hwa]; exact (Below.refl _ _).alloc (Nat.le_refl _) _
        have hbk := Blk.new wr 76 #[x0, x1, x2, x3, x4, x5, x6, x7]
        rw [hwa] at hbk
        have b0 := hbk.cell 0
        have b1 := hbk.cell 1
        have b2 := hbk.cell 2
        have b3 := hbk.cell 3
        have b4 := hbk.cell 4
        have b5 := hbk.cell 5
        have b6 := hbk.cell 6
        have b7 := hbk.cell 7
        simp only [List.getElem?_toArray, List.getElem?_cons_succ, List.getElem?_cons_zero] at b0 b1 b2 b3 b4 b5 b6 b7
        have k0 : wa.cell? ⟨g', o' + k * 8, none⟩ = some y0 := hwa ▸ Lib.cell?_alloc_some _ f0
        have k1 : wa.cell? ⟨g', o' + k * 8 + 1, none⟩ = some y1 := hwa ▸ Lib.cell?_alloc_some _ f1
        have k2 : wa.cell? ⟨g', o' + k * 8 + 2, none⟩ = some y2 := hwa ▸ Lib.cell?_alloc_some _ f2
        have k3 : wa.cell? ⟨g', o' + k * 8 + 3, none⟩ = some y3 := hwa ▸ Lib.cell?_alloc_some _ f3
        have k4 : wa.cell? ⟨g', o' + k * 8 + 4, none⟩ = some y4 := hwa ▸ Lib.cell?_alloc_some _ f4
        have k5 : wa.cell? ⟨g', o' + k * 8 + 5, none⟩ = some y5 := hwa ▸ Lib.cell?_alloc_some _ f5
        have k6 : wa.cell? ⟨g', o' + k * 8 + 6, none⟩ = some y6 := hwa ▸ Lib.cell?_alloc_some _ f6
        have k7 : wa.cell? ⟨g', o' + k * 8 + 7, none⟩ = some y7 := hwa ▸ Lib.cell?_alloc_some _ f7
        have HW := Lib.hid hwa
        have hgw : g < wr.heap.size := by omega
        have hgw' : g' < wr.heap.size := by omega
        have HC1 := Lib.hid (C wa.drew (hbe.trans ((hal.drew).mono hzr)))
        obtain ⟨u, hu⟩ : ∃ u, r k = u := ⟨_, rfl⟩
        rw [hu] at HC1
        have HU := Lib.hid hu
        have HAL := Lib.hid (hbe.trans ((hal.drew).mono hzr))
        clear hbe C hoc hc hc' hl hl' hl4 hl4' hal hu hwa hbk
        cases u with
        | true =>
          go_wp2_with fail
          rw [HW.out]
          go_still_tail 6, (by kernel_rfl)
          change wpList _ _ _ _ _ (World.drew _)
          go_wp2_with (go_at_call 48; (with_reducible refine HC1.out.mono ?_); rintro e w2 ⟨rfl, hb2⟩)
          go_roundw
          case rel => exact ⟨k + 1, by go_num, by omega, fun j h => by
            rcases Nat.lt_or_ge j k with h3 | h3
            · exact HALL.out j h3
            · have : j = k := by omega
              subst this; exact HU.out, HAL.out.trans (hb2.mono HAL.out.size)⟩
          case measure => simp [intOf]; omega
        | false =>
          have HF := Lib.hid (all_no hlt HU.out)
          go_wp2_with fail
          rw [HW.out]
          go_still_tail 6, (by kernel_rfl)
          change wpList _ _ _ _ _ (World.drew _)
          go_wp2_with (go_at_call 48; (with_reducible refine HC1.out.mono ?_); rintro e w2 ⟨rfl, hb2⟩)
          go_ret
          exact ⟨ret_bool (by rw [HF.out]; simp), HAL.out.trans (hb2.mono HAL.out.size)⟩
      · have HT := Lib.hid (all_yes (n := n) (r := r) (fun j h => HALL.out j (by omega)))
        go_wp2_with fail
        go_ret
        exact ⟨ret_bool (by rw [HT.out]; simp), HBE.out⟩
  · have hd : ((n : Int) != (m : Int)) = true := by simp; omega
    rw [show (n == m) = false by simpa using hnm]
    clear hnm
    go_enter Try.func47, Try.ntmps47
    go_wp2_with fail
    go_ret
    exact ⟨rfl, Below.refl _ _⟩

set_option maxHeartbeats 3200000 in
theorem plist_co (n m : Nat) (A A' : Option Addr) (c c' B : Nat) (w : World) (L L' : List (List Value)) (r : Nat → Bool) (hB : B ≤ w.heap.size) (hn9 : n ≤ 9223372036854775807) (hr : Row w B 3 A n L) (hr' : Row w B 3 A' m L') (hone : ∀ l ∈ L, ∀ u ∈ l, u.oneCell' = true)
    (hcall : ∀ i (h1 : i < L.length) (h2 : i < L'.length) (w' : World), Below w.heap.size w w' → Calls Try.prog 63 #[.agg L[i].toArray, .agg L'[i].toArray] w' fun e w2 => e = .returned (.bool (r i)) ∧ Below w'.heap.size w' w2) :
    Calls Try.prog 62 #[.slice A n c, .slice A' m c', .func (.func 63) #[] #[]] w fun e w' => e = .returned (.bool (n == m && (List.range n).all r)) ∧ Below w.heap.size w w' := by
  have HR := Lib.hid hr
  have HR' := Lib.hid hr'
  have HO := Lib.hid hone
  have HC := Lib.hid hcall
  clear hr hr' hone hcall
  by_cases hnm : n = m
  · subst hnm
    have hd : ((n : Int) != (n : Int)) = false := by simp
    go_enter Try.func62, Try.ntmps62
    go_wp2_with fail
    go_loopw [16] (fun i wr => ∃ k : Nat, i = .int .i64 k ∧ k ≤ n ∧ (∀ j, j < k → r j = true) ∧ Below w.heap.size w wr) (fun i _ => n - (intOf i).toNat)
    case atStart => exact ⟨0, rfl, Nat.zero_le _, fun j h => by omega, Below.refl _ _⟩
    case round =>
      obtain ⟨k, rfl, hk, hall, hbe⟩ := hrel
      have hzr := hbe.size
      have HALL := Lib.hid hall
      have HBE := Lib.hid hbe
      clear hall
      by_cases hlt : k < n
      · obtain ⟨g, o, rfl, hg, hl, hl4, hc⟩ := (HR.out.later (hbe.mono hB)).cells (by omega) hlt
        obtain ⟨g', o', rfl, hg', hl', hl4', hc'⟩ := (HR'.out.later (hbe.mono hB)).cells (by omega) hlt
        have C := HC.out k hl hl'
        have hoc := HO.out L[k] (List.getElem_mem hl)
        generalize L[k] = x at *
        generalize L'[k] = y at *
        obtain ⟨x0, x1, x2, hxs⟩ : ∃ x0 x1 x2, x = [x0, x1, x2] := three_of hl4
        subst hxs
        obtain ⟨y0, y1, y2, hys⟩ : ∃ y0 y1 y2, y = [y0, y1, y2] := three_of hl4'
        subst hys
        have e0 : wr.cell? ⟨g, o + k * 3, none⟩ = some x0 := hc 0 _ rfl
        have e1 : wr.cell? ⟨g, o + k * 3 + 1, none⟩ = some x1 := hc 1 _ rfl
        have e2 : wr.cell? ⟨g, o + k * 3 + 2, none⟩ = some x2 := hc 2 _ rfl
        have f0 : wr.cell? ⟨g', o' + k * 3, none⟩ = some y0 := hc' 0 _ rfl
        have f1 : wr.cell? ⟨g', o' + k * 3 + 1, none⟩ = some y1 := hc' 1 _ rfl
        have f2 : wr.cell? ⟨g', o' + k * 3 + 2, none⟩ = some y2 := hc' 2 _ rfl
        have s0 := store_one x0 (hoc x0 (by simp))
        have s1 := store_one x1 (hoc x1 (by simp))
        have s2 := store_one x2 (hoc x2 (by simp))
        obtain ⟨wa, hwa⟩ : ∃ wa, wr.alloc (.cells #[x0, x1, x2] 101) = wa := ⟨_, rfl⟩
        have hal : Below wr.heap.size wr wa := by rw [← hwa]; exact (Below.refl _ _).alloc (Nat.le_refl _) _
        have hbk := Blk.new wr 101 #[x0, x1, x2]
        rw [hwa] at hbk
        have b0 := hbk.cell 0
        have b1 := hbk.cell 1
        have b2 := hbk.cell 2
        simp only [List.getElem?_toArray, List.getElem?_cons_succ, List.getElem?_cons_zero] at b0 b1 b2
        have k0 : wa.cell? ⟨g', o' + k * 3, none⟩ = some y0 := hwa ▸ Lib.cell?_alloc_some _ f0
        have k1 : wa.cell? ⟨g', o' + k * 3 + 1, none⟩ = some y1 := hwa ▸ Lib.cell?_alloc_some _ f1
        have k2 : wa.cell? ⟨g', o' + k * 3 + 2, none⟩ = some y2 := hwa ▸ Lib.cell?_alloc_some _ f2
        have HW := Lib.hid hwa
        have hgw : g < wr.heap.size := by omega
        have hgw' : g' < wr.heap.size := by omega
        have HC1 := Lib.hid (C wa.drew (hbe.trans ((hal.drew).mono hzr)))
        obtain ⟨u, hu⟩ : ∃ u, r k = u := ⟨_, rfl⟩
        rw [hu] at HC1
        have HU := Lib.hid hu
        have HAL := Lib.hid (hbe.trans ((hal.drew).mono hzr))
        clear hbe C hoc hc hc' hl hl' hl4 hl4' hal hu hwa hbk
        cases u with
        | true =>
          go_wp2_with fail
          rw [HW.out]
          go_still_tail 6, (by kernel_rfl)
          change wpList _ _ _ _ _ (World.drew _)
          go_wp2_with (go_at_call 63; (with_reducible refine HC1.out.mono ?_); rintro e w2 ⟨rfl, hb2⟩)
          go_roundw
          case rel => exact ⟨k + 1, by go_num, by omega, fun j h => by
            rcases Nat.lt_or_ge j k with h3 | h3
            · exact HALL.out j h3
            · have : j = k := by omega
              subst this; exact HU.out, HAL.out.trans (hb2.mono HAL.out.size)⟩
          case measure => simp [intOf]; omega
        | false =>
          have HF := Lib.hid (all_no hlt HU.out)
          go_wp2_with fail
          rw [HW.out]
          go_still_tail 6, (by kernel_rfl)
          change wpList _ _ _ _ _ (World.drew _)
          go_wp2_with (go_at_call 63; (with_reducible refine HC1.out.mono ?_); rintro e w2 ⟨rfl, hb2⟩)
          go_ret
          exact ⟨ret_bool (by rw [HF.out]; simp), HAL.out.trans (hb2.mono HAL.out.size)⟩
      · have HT := Lib.hid (all_yes (n := n) (r := r) (fun j h => HALL.out j (by omega)))
        go_wp2_with fail
        go_ret
        exact ⟨ret_bool (by rw [HT.out]; simp), HBE.out⟩
  · have hd : ((n : Int) != (m : Int)) = true := by simp; omega
    rw [show (n == m) = false by simpa using hnm]
    clear hnm
    go_enter Try.func62, Try.ntmps62
    go_wp2_with fail
    go_ret
    exact ⟨rfl, Below.refl _ _⟩

set_option maxHeartbeats 3200000 in
theorem plist_me (n m : Nat) (A A' : Option Addr) (c c' B : Nat) (w : World) (L L' : List (List Value)) (r : Nat → Bool) (hB : B ≤ w.heap.size) (hn9 : n ≤ 9223372036854775807) (hr : Row w B 6 A n L) (hr' : Row w B 6 A' m L') (hone : ∀ l ∈ L, ∀ u ∈ l, u.oneCell' = true)
    (hcall : ∀ i (h1 : i < L.length) (h2 : i < L'.length) (w' : World), Below w.heap.size w w' → Calls Try.prog 65 #[.agg L[i].toArray, .agg L'[i].toArray] w' fun e w2 => e = .returned (.bool (r i)) ∧ Below w'.heap.size w' w2) :
    Calls Try.prog 64 #[.slice A n c, .slice A' m c', .func (.func 65) #[] #[]] w fun e w' => e = .returned (.bool (n == m && (List.range n).all r)) ∧ Below w.heap.size w w' := by
  have HR := Lib.hid hr
  have HR' := Lib.hid hr'
  have HO := Lib.hid hone
  have HC := Lib.hid hcall
  clear hr hr' hone hcall
  by_cases hnm : n = m
  · subst hnm
    have hd : ((n : Int) != (n : Int)) = false := by simp
    go_enter Try.func64, Try.ntmps64
    go_wp2_with fail
    go_loopw [16] (fun i wr => ∃ k : Nat, i = .int .i64 k ∧ k ≤ n ∧ (∀ j, j < k → r j = true) ∧ Below w.heap.size w wr) (fun i _ => n - (intOf i).toNat)
    case atStart => exact ⟨0, rfl, Nat.zero_le _, fun j h => by omega, Below.refl _ _⟩
    case round =>
      obtain ⟨k, rfl, hk, hall, hbe⟩ := hrel
      have hzr := hbe.size
      have HALL := Lib.hid hall
      have HBE := Lib.hid hbe
      clear hall
      by_cases hlt : k < n
      · obtain ⟨g, o, rfl, hg, hl, hl4, hc⟩ := (HR.out.later (hbe.mono hB)).cells (by omega) hlt
        obtain ⟨g', o', rfl, hg', hl', hl4', hc'⟩ := (HR'.out.later (hbe.mono hB)).cells (by omega) hlt
        have C := HC.out k hl hl'
        have hoc := HO.out L[k] (List.getElem_mem hl)
        generalize L[k] = x at *
        generalize L'[k] = y at *
        obtain ⟨x0, x1, x2, x3, x4, x5, hxs⟩ : ∃ x0 x1 x2 x3 x4 x5, x = [x0, x1, x2, x3, x4, x5] := six_of hl4
        subst hxs
        obtain ⟨y0, y1, y2, y3, y4, y5, hys⟩ : ∃ y0 y1 y2 y3 y4 y5, y = [y0, y1, y2, y3, y4, y5] := six_of hl4'
        subst hys
        have e0 : wr.cell? ⟨g, o + k * 6, none⟩ = some x0 := hc 0 _ rfl
        have e1 : wr.cell? ⟨g, o + k * 6 + 1, none⟩ = some x1 := hc 1 _ rfl
        have e2 : wr.cell? ⟨g, o + k * 6 + 2, none⟩ = some x2 := hc 2 _ rfl
        have e3 : wr.cell? ⟨g, o + k * 6 + 3, none⟩ = some x3 := hc 3 _ rfl
        have e4 : wr.cell? ⟨g, o + k * 6 + 4, none⟩ = some x4 := hc 4 _ rfl
        have e5 : wr.cell? ⟨g, o + k * 6 + 5, none⟩ = some x5 := hc 5 _ rfl
        have f0 : wr.cell? ⟨g', o' + k * 6, none⟩ = some y0 := hc' 0 _ rfl
        have f1 : wr.cell? ⟨g', o' + k * 6 + 1, none⟩ = some y1 := hc' 1 _ rfl
        have f2 : wr.cell? ⟨g', o' + k * 6 + 2, none⟩ = some y2 := hc' 2 _ rfl
        have f3 : wr.cell? ⟨g', o' + k * 6 + 3, none⟩ = some y3 := hc' 3 _ rfl
        have f4 : wr.cell? ⟨g', o' + k * 6 + 4, none⟩ = some y4 := hc' 4 _ rfl
        have f5 : wr.cell? ⟨g', o' + k * 6 + 5, none⟩ = some y5 := hc' 5 _ rfl
        have s0 := store_one x0 (hoc x0 (by simp))
        have s1 := store_one x1 (hoc x1 (by simp))
        have s2 := store_one x2 (hoc x2 (by simp))
        have s3 := store_one x3 (hoc x3 (by simp))
        have s4 := store_one x4 (hoc x4 (by simp))
        have s5 := store_one x5 (hoc x5 (by simp))
        obtain ⟨wa, hwa⟩ : ∃ wa, wr.alloc (.cells #[x0, x1, x2, x3, x4, x5] 105) = wa := ⟨_, rfl⟩
        have hal : Below wr.heap.size wr wa := by rw [← hwa]; exact (Below.refl _ _).alloc (Nat.le_refl _) _
        have hbk := Blk.new wr 105 #[x0, x1, x2, x3, x4, x5]
        rw [hwa] at hbk
        have b0 := hbk.cell 0
        have b1 := hbk.cell 1
        have b2 := hbk.cell 2
        have b3 := hbk.cell 3
        have b4 := hbk.cell 4
        have b5 := hbk.cell 5
        simp only [List.getElem?_toArray, List.getElem?_cons_succ, List.getElem?_cons_zero] at b0 b1 b2 b3 b4 b5
        have k0 : wa.cell? ⟨g', o' + k * 6, none⟩ = some y0 := hwa ▸ Lib.cell?_alloc_some _ f0
        have k1 : wa.cell? ⟨g', o' + k * 6 + 1, none⟩ = some y1 := hwa ▸ Lib.cell?_alloc_some _ f1
        have k2 : wa.cell? ⟨g', o' + k * 6 + 2, none⟩ = some y2 := hwa ▸ Lib.cell?_alloc_some _ f2
        have k3 : wa.cell? ⟨g', o' + k * 6 + 3, none⟩ = some y3 := hwa ▸ Lib.cell?_alloc_some _ f3
        have k4 : wa.cell? ⟨g', o' + k * 6 + 4, none⟩ = some y4 := hwa ▸ Lib.cell?_alloc_some _ f4
        have k5 : wa.cell? ⟨g', o' + k * 6 + 5, none⟩ = some y5 := hwa ▸ Lib.cell?_alloc_some _ f5
        have HW := Lib.hid hwa
        have hgw : g < wr.heap.size := by omega
        have hgw' : g' < wr.heap.size := by omega
        have HC1 := Lib.hid (C wa.drew (hbe.trans ((hal.drew).mono hzr)))
        obtain ⟨u, hu⟩ : ∃ u, r k = u := ⟨_, rfl⟩
        rw [hu] at HC1
        have HU := Lib.hid hu
        have HAL := Lib.hid (hbe.trans ((hal.drew).mono hzr))
        clear hbe C hoc hc hc' hl hl' hl4 hl4' hal hu hwa hbk
        cases u with
        | true =>
          go_wp2_with fail
          rw [HW.out]
          go_still_tail 6, (by kernel_rfl)
          change wpList _ _ _ _ _ (World.drew _)
          go_wp2_with (go_at_call 65; (with_reducible refine HC1.out.mono ?_); rintro e w2 ⟨rfl, hb2⟩)
          go_roundw
          case rel => exact ⟨k + 1, by go_num, by omega, fun j h => by
            rcases Nat.lt_or_ge j k with h3 | h3
            · exact HALL.out j h3
            · have : j = k := by omega
              subst this; exact HU.out, HAL.out.trans (hb2.mono HAL.out.size)⟩
          case measure => simp [intOf]; omega
        | false =>
          have HF := Lib.hid (all_no hlt HU.out)
          go_wp2_with fail
          rw [HW.out]
          go_still_tail 6, (by kernel_rfl)
          change wpList _ _ _ _ _ (World.drew _)
          go_wp2_with (go_at_call 65; (with_reducible refine HC1.out.mono ?_); rintro e w2 ⟨rfl, hb2⟩)
          go_ret
          exact ⟨ret_bool (by rw [HF.out]; simp), HAL.out.trans (hb2.mono HAL.out.size)⟩
      · have HT := Lib.hid (all_yes (n := n) (r := r) (fun j h => HALL.out j (by omega)))
        go_wp2_with fail
        go_ret
        exact ⟨ret_bool (by rw [HT.out]; simp), HBE.out⟩
  · have hd : ((n : Int) != (m : Int)) = true := by simp; omega
    rw [show (n == m) = false by simpa using hnm]
    clear hnm
    go_enter Try.func64, Try.ntmps64
    go_wp2_with fail
    go_ret
    exact ⟨rfl, Below.refl _ _⟩

set_option maxHeartbeats 3200000 in
theorem plist_pr (n m : Nat) (A A' : Option Addr) (c c' B : Nat) (w : World) (L L' : List (List Value)) (r : Nat → Bool) (hB : B ≤ w.heap.size) (hn9 : n ≤ 9223372036854775807) (hr : Row w B 5 A n L) (hr' : Row w B 5 A' m L') (hone : ∀ l ∈ L, ∀ u ∈ l, u.oneCell' = true)
    (hcall : ∀ i (h1 : i < L.length) (h2 : i < L'.length) (w' : World), Below w.heap.size w w' → Calls Try.prog 67 #[.agg L[i].toArray, .agg L'[i].toArray] w' fun e w2 => e = .returned (.bool (r i)) ∧ Below w'.heap.size w' w2) :
    Calls Try.prog 66 #[.slice A n c, .slice A' m c', .func (.func 67) #[] #[]] w fun e w' => e = .returned (.bool (n == m && (List.range n).all r)) ∧ Below w.heap.size w w' := by
  have HR := Lib.hid hr
  have HR' := Lib.hid hr'
  have HO := Lib.hid hone
  have HC := Lib.hid hcall
  clear hr hr' hone hcall
  by_cases hnm : n = m
  · subst hnm
    have hd : ((n : Int) != (n : Int)) = false := by simp
    go_enter Try.func66, Try.ntmps66
    go_wp2_with fail
    go_loopw [16] (fun i wr => ∃ k : Nat, i = .int .i64 k ∧ k ≤ n ∧ (∀ j, j < k → r j = true) ∧ Below w.heap.size w wr) (fun i _ => n - (intOf i).toNat)
    case atStart => exact ⟨0, rfl, Nat.zero_le _, fun j h => by omega, Below.refl _ _⟩
    case round =>
      obtain ⟨k, rfl, hk, hall, hbe⟩ := hrel
      have hzr := hbe.size
      have HALL := Lib.hid hall
      have HBE := Lib.hid hbe
      clear hall
      by_cases hlt : k < n
      · obtain ⟨g, o, rfl, hg, hl, hl4, hc⟩ := (HR.out.later (hbe.mono hB)).cells (by omega) hlt
        obtain ⟨g', o', rfl, hg', hl', hl4', hc'⟩ := (HR'.out.later (hbe.mono hB)).cells (by omega) hlt
        have C := HC.out k hl hl'
        have hoc := HO.out L[k] (List.getElem_mem hl)
        generalize L[k] = x at *
        generalize L'[k] = y at *
        obtain ⟨x0, x1, x2, x3, x4, hxs⟩ : ∃ x0 x1 x2 x3 x4, x = [x0, x1, x2, x3, x4] := five_of hl4
        subst hxs
        obtain ⟨y0, y1, y2, y3, y4, hys⟩ : ∃ y0 y1 y2 y3 y4, y = [y0, y1, y2, y3, y4] := five_of hl4'
        subst hys
        have e0 : wr.cell? ⟨g, o + k * 5, none⟩ = some x0 := hc 0 _ rfl
        have e1 : wr.cell? ⟨g, o + k * 5 + 1, none⟩ = some x1 := hc 1 _ rfl
        have e2 : wr.cell? ⟨g, o + k * 5 + 2, none⟩ = some x2 := hc 2 _ rfl
        have e3 : wr.cell? ⟨g, o + k * 5 + 3, none⟩ = some x3 := hc 3 _ rfl
        have e4 : wr.cell? ⟨g, o + k * 5 + 4, none⟩ = some x4 := hc 4 _ rfl
        have f0 : wr.cell? ⟨g', o' + k * 5, none⟩ = some y0 := hc' 0 _ rfl
        have f1 : wr.cell? ⟨g', o' + k * 5 + 1, none⟩ = some y1 := hc' 1 _ rfl
        have f2 : wr.cell? ⟨g', o' + k * 5 + 2, none⟩ = some y2 := hc' 2 _ rfl
        have f3 : wr.cell? ⟨g', o' + k * 5 + 3, none⟩ = some y3 := hc' 3 _ rfl
        have f4 : wr.cell? ⟨g', o' + k * 5 + 4, none⟩ = some y4 := hc' 4 _ rfl
        have s0 := store_one x0 (hoc x0 (by simp))
        have s1 := store_one x1 (hoc x1 (by simp))
        have s2 := store_one x2 (hoc x2 (by simp))
        have s3 := store_one x3 (hoc x3 (by simp))
        have s4 := store_one x4 (hoc x4 (by simp))
        obtain ⟨wa, hwa⟩ : ∃ wa, wr.alloc (.cells #[x0, x1, x2, x3, x4] 109) = wa := ⟨_, rfl⟩
        have hal : Below wr.heap.size wr wa := by rw [← hwa]; exact (Below.refl _ _).alloc (Nat.le_refl _) _
        have hbk := Blk.new wr 109 #[x0, x1, x2, x3, x4]
        rw [hwa] at hbk
        have b0 := hbk.cell 0
        have b1 := hbk.cell 1
        have b2 := hbk.cell 2
        have b3 := hbk.cell 3
        have b4 := hbk.cell 4
        simp only [List.getElem?_toArray, List.getElem?_cons_succ, List.getElem?_cons_zero] at b0 b1 b2 b3 b4
        have k0 : wa.cell? ⟨g', o' + k * 5, none⟩ = some y0 := hwa ▸ Lib.cell?_alloc_some _ f0
        have k1 : wa.cell? ⟨g', o' + k * 5 + 1, none⟩ = some y1 := hwa ▸ Lib.cell?_alloc_some _ f1
        have k2 : wa.cell? ⟨g', o' + k * 5 + 2, none⟩ = some y2 := hwa ▸ Lib.cell?_alloc_some _ f2
        have k3 : wa.cell? ⟨g', o' + k * 5 + 3, none⟩ = some y3 := hwa ▸ Lib.cell?_alloc_some _ f3
        have k4 : wa.cell? ⟨g', o' + k * 5 + 4, none⟩ = some y4 := hwa ▸ Lib.cell?_alloc_some _ f4
        have HW := Lib.hid hwa
        have hgw : g < wr.heap.size := by omega
        have hgw' : g' < wr.heap.size := by omega
        have HC1 := Lib.hid (C wa.drew (hbe.trans ((hal.drew).mono hzr)))
        obtain ⟨u, hu⟩ : ∃ u, r k = u := ⟨_, rfl⟩
        rw [hu] at HC1
        have HU := Lib.hid hu
        have HAL := Lib.hid (hbe.trans ((hal.drew).mono hzr))
        clear hbe C hoc hc hc' hl hl' hl4 hl4' hal hu hwa hbk
        cases u with
        | true =>
          go_wp2_with fail
          rw [HW.out]
          go_still_tail 6, (by kernel_rfl)
          change wpList _ _ _ _ _ (World.drew _)
          go_wp2_with (go_at_call 67; (with_reducible refine HC1.out.mono ?_); rintro e w2 ⟨rfl, hb2⟩)
          go_roundw
          case rel => exact ⟨k + 1, by go_num, by omega, fun j h => by
            rcases Nat.lt_or_ge j k with h3 | h3
            · exact HALL.out j h3
            · have : j = k := by omega
              subst this; exact HU.out, HAL.out.trans (hb2.mono HAL.out.size)⟩
          case measure => simp [intOf]; omega
        | false =>
          have HF := Lib.hid (all_no hlt HU.out)
          go_wp2_with fail
          rw [HW.out]
          go_still_tail 6, (by kernel_rfl)
          change wpList _ _ _ _ _ (World.drew _)
          go_wp2_with (go_at_call 67; (with_reducible refine HC1.out.mono ?_); rintro e w2 ⟨rfl, hb2⟩)
          go_ret
          exact ⟨ret_bool (by rw [HF.out]; simp), HAL.out.trans (hb2.mono HAL.out.size)⟩
      · have HT := Lib.hid (all_yes (n := n) (r := r) (fun j h => HALL.out j (by omega)))
        go_wp2_with fail
        go_ret
        exact ⟨ret_bool (by rw [HT.out]; simp), HBE.out⟩
  · have hd : ((n : Int) != (m : Int)) = true := by simp; omega
    rw [show (n == m) = false by simpa using hnm]
    clear hnm
    go_enter Try.func66, Try.ntmps66
    go_wp2_with fail
    go_ret
    exact ⟨rfl, Below.refl _ _⟩

end Go.Proofs.Ytglamoiimmahgaa
