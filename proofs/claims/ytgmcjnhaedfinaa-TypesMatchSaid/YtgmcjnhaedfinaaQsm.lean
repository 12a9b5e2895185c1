/- Walks: the statements' Small, smalls, ints. -/
import Derived.Test.YtgmcjnhaedfinaaQae
import Derived.Test.YtgmcjnhaedfinaaQad
import Derived.IntWalk
namespace Go.Proofs.Ytgmcjnhaedfinaa
open Go.RowKit
set_option linter.unusedVariables false
set_option linter.unusedSimpArgs false
set_option maxRecDepth 100000

mutual
/-- A type of the three kinds, with no other fields than its kind has. -/
def goodT : Ty → Bool
  | .mk k nm n ks => decide (1 ≤ k) && decide (k ≤ 3) && (decide (k = 3) || ks.isEmpty) && (decide (k = 2) || decide (n = 0)) && (!decide (k = 2) || nm.data.toList.isEmpty) && goodL ks
def goodL : List Ty → Bool
  | [] => true
  | t :: ts => goodT t && goodL ts
end
theorem goodL_snoc : ∀ (l : List Ty) (t : Ty), goodL (l ++ [t]) = (goodL l && goodT t)
  | [], t => by simp [goodL]
  | a :: l, t => by simp only [List.cons_append, goodL, goodL_snoc l t, Bool.and_assoc]
/-- What count answers. -/
def CntSays (m : Int) (t : Ty) (w : World) (e : Ending) (w' : World) : Prop := ∃ r : Int, e = .returned (.int .i64 r) ∧ 1 ≤ r ∧ r ≤ m ∧ (r < m → (t.nodes : Int) = r ∧ goodT t = true) ∧ Below w.heap.size w w'
theorem empty_yes {nm : ByteArray} (h : nm.data.toList = []) : (nm.toList == ([] : List UInt8)) = true := by rw [ByteArray.toList_eq, h]; rfl
theorem empty_no {nm : ByteArray} (h : nm.data.toList ≠ []) : (nm.toList == ([] : List UInt8)) = false := by rw [ByteArray.toList_eq]; simpa using h
set_option maxHeartbeats 6400000 in
theorem count_any (N : Nat) : ∀ (t : Ty), t.nodes ≤ N → ∀ (m : Int), 1 ≤ m → m ≤ 100000 → ∀ (B : Nat) (w : World) (cs : List Value), B ≤ w.heap.size → TyAt w B cs t →
    Calls Try.prog 34 #[.agg cs.toArray, .int .i64 m] w (CntSays m t w) := by
  induction N with
  | zero => intro t h; cases t; unfold Ty.nodes at h; omega
  | succ N ih =>
    intro t hN m hm1 hm2 B w cs hB hx
    obtain ⟨k, nm, n, A, c, ks, rfl, rfl⟩ := ty_cells hx
    obtain ⟨_, hk, hs, hn, hc, hm, L0, htys⟩ := ty_open hx _ _ _ _ _ _ _ rfl rfl
    unfold Ty.nodes at hN
    obtain ⟨l, hl⟩ : ∃ l, ks.length = l := ⟨_, rfl⟩
    rw [hl] at hx ⊢
    obtain ⟨W1, hW1⟩ : ∃ W1, w.alloc (.cells #[.int .i64 k, .string nm, .int .i64 n, .slice A l c] 24) = W1 := ⟨_, rfl⟩
    have hg : Below w.heap.size w W1 := by rw [← hW1]; exact (Below.refl _ _).alloc (Nat.le_refl _) _
    have hsz : W1.heap.size = w.heap.size + 1 := by rw [← hW1]; simp
    have hbx : Blk W1 w.heap.size 24 #[.int .i64 k, .string nm, .int .i64 n, .slice A l c] := by rw [← hW1]; exact Blk.new _ _ _
    have hkw := wf_is_i64 hk
    have hl9 : l ≤ maxLen := by rw [← hl]; omega
    unfold maxLen at hl9
    have HW := Lib.hid hW1
    have HBW := Lib.hid hg
    have HZ := Lib.hid hsz
    have HBX := Lib.hid hbx
    have HA := Lib.hid (htys.later (hg.mono hB))
    have HL := Lib.hid hl
    have HBB := Lib.hid hB
    have HIH := Lib.hid (fun (t : Ty) (ht : t ∈ ks) => ih t (by have := tys_mem ks t ht; omega))
    have x0 := HBX.out.cell 0
    have x1 := HBX.out.cell 1
    have x2 := HBX.out.cell 2
    have x3 := HBX.out.cell 3
    simp only [zTy, List.getElem?_toArray, List.getElem?_cons_succ, List.getElem?_cons_zero] at x0 x1 x2 x3
    clear hx hg ih hc hm hN hW1 hsz hbx hl hB htys hk hs hn
    by_cases h1 : k < 1
    · have d1 : decide (k < 1) = true := by simpa using h1
      try clear e3
      try clear e2
      try clear e0
      try clear el
      try clear ee
      try clear h1
      try clear h3
      try clear hks
      go_enter Try.func34, Try.ntmps34
      go_upto_region 1 with fail
      rw [HW.out]
      go_wp2_with fail
      go_ret
      exact ⟨m, rfl, hm1, Int.le_refl _, fun h => absurd h (Int.lt_irrefl _), HBW.out⟩
    · have d1 : decide (k < 1) = false := by simpa using h1
      by_cases h3 : 3 < k
      · have d3 : decide (3 < k) = true := by simpa using h3
        try clear e3
        try clear e2
        try clear e0
        try clear el
        try clear ee
        try clear h1
        try clear h3
        try clear hks
        go_enter Try.func34, Try.ntmps34
        go_upto_region 1 with fail
        rw [HW.out]
        go_wp2_with fail
        go_ret
        exact ⟨m, rfl, hm1, Int.le_refl _, fun h => absurd h (Int.lt_irrefl _), HBW.out⟩
      · have d3 : decide (3 < k) = false := by simpa using h3
        by_cases e3 : k = 3
        · have f3 : (k != 3) = false := by simp [e3]
          have f2 : (k != 2) = true := by simp; omega
          have g2 : (k == 2) = false := by simp; omega
          by_cases e0 : n = 0
          · have f0 : (n != 0) = false := by simp [e0]
            have HGD := Lib.hid (show goodT (.mk k nm n ks) = goodL ks by unfold goodT; simp [e3, e0])
            clear h1 h3 e3 e0
            go_enter Try.func34, Try.ntmps34
            go_upto_region 1 with fail
            rw [HW.out]
            go_wp2_with fail
            go_loopw [5, 6] (fun s i wr => ∃ (j : Nat) (r : Int), i = .int .i64 j ∧ j ≤ l ∧ s = .int .i64 r ∧ 1 ≤ r ∧ r ≤ m ∧ (r < m → (1 + tysNodes (ks.take j) : Int) = r ∧ goodL (ks.take j) = true) ∧ Below W1.heap.size W1 wr) (fun _ i _ => l - (intOf i).toNat)
            case atStart => exact ⟨0, 1, rfl, Nat.zero_le _, rfl, by omega, hm1, fun _ => ⟨by simp [tysNodes], by simp [goodL]⟩, Below.refl _ _⟩
            case round =>
              obtain ⟨j, r, rfl, hj, rfl, hr1, hr2, hr3, hbe⟩ := hrel
              have hB2 := HBX.out.below hbe (by have := HZ.out; omega)
              have y0 := hB2.cell 0
              have y1 := hB2.cell 1
              have y2 := hB2.cell 2
              have y3 := hB2.cell 3
              simp only [zTy, List.getElem?_toArray, List.getElem?_cons_succ, List.getElem?_cons_zero] at y0 y1 y2 y3
              have hzr := hbe.size
              have HBE := Lib.hid hbe
              have HR3 := Lib.hid hr3
              clear hbe hr3 hB2
              by_cases hlt : j < l
              · have dj : decide ((j : Int) < (l : Int)) = true := by simp; omega
                by_cases hrm : r < m
                · have dr : decide (r < m) = true := by simpa using hrm
                  have hkx : j < ks.length := by rw [HL.out]; exact hlt
                  have hBW1 : B ≤ W1.heap.size := by have := HZ.out; have := HBB.out; omega
                  obtain ⟨g, o, a0, a1, a2, a3, rfl, hba, ca0, ca1, ca2, ca3, hta⟩ := (HA.out.later (HBE.out.mono hBW1)).at_ hkx
                  have HC := Lib.hid (HIH.out ks[j] (List.getElem_mem hkx) (m - r) (by omega) (by omega) B wr [a0, a1, a2, a3] (Nat.le_trans hBW1 HBE.out.size) hta)
                  have HST := Lib.hid (take_snoc hkx)
                  clear hta
                  go_wp2_with (go_at_call 34; (with_reducible refine HC.out.mono ?_); rintro e w2 ⟨q, rfl, hq1, hq2, hq3, hb2⟩)
                  have HQ3 := Lib.hid hq3
                  clear hq3
                  go_roundw
                  case rel => exact ⟨j + 1, r + q, by go_num, by omega, by go_num, by omega, by omega, fun h => by
                    obtain ⟨u1, u2⟩ := HR3.out hrm
                    obtain ⟨v1, v2⟩ := HQ3.out (by omega)
                    rw [HST.out, tysNodes_app, goodL_snoc, u2, v2]
                    refine ⟨?_, rfl⟩
                    simp only [tysNodes, Nat.add_zero]
                    omega, HBE.out.trans (hb2.mono hzr)⟩
                  case measure => simp [intOf]; omega
                · have dr : decide (r < m) = false := by simpa using hrm
                  go_wp2_with fail
                  go_ret
                  exact ⟨r, rfl, hr1, hr2, fun h => by omega, HBW.out.trans (HBE.out.mono (by have := HZ.out; omega))⟩
              · have dj : decide ((j : Int) < (l : Int)) = false := by simp; omega
                go_wp2_with fail
                go_ret
                exact ⟨r, rfl, hr1, hr2, fun h => by
                  have := HR3.out h
                  rw [List.take_of_length_le (by rw [HL.out]; omega)] at this
                  rw [HGD.out]
                  refine ⟨?_, this.2⟩
                  unfold Ty.nodes
                  have := this.1
                  omega, HBW.out.trans (HBE.out.mono (by have := HZ.out; omega))⟩
          · have f0 : (n != 0) = true := by simpa using e0
            try clear e3
            try clear e2
            try clear e0
            try clear el
            try clear ee
            try clear h1
            try clear h3
            try clear hks
            go_enter Try.func34, Try.ntmps34
            go_upto_region 1 with fail
            rw [HW.out]
            go_wp2_with fail
            go_ret
            exact ⟨m, rfl, hm1, Int.le_refl _, fun h => absurd h (Int.lt_irrefl _), HBW.out⟩
        · have f3 : (k != 3) = true := by simpa using e3
          by_cases el : l = 0
          · have fl : decide ((0 : Int) < (l : Int)) = false := by simp; omega
            have fl2 : decide (0 < l) = false := by simp; omega
            have hks : ks = [] := List.eq_nil_of_length_eq_zero (by rw [HL.out, el])
            by_cases e2 : k = 2
            · have f2 : (k != 2) = false := by simp [e2]
              have g2 : (k == 2) = true := by simpa using e2
              by_cases ee : nm.data.toList = []
              · have fe := empty_yes ee
                have fe3 : nm.toList.isEmpty = true := by rw [ByteArray.toList_eq, ee]; rfl
                have fe2 : (nm.toList != ([] : List UInt8)) = false := by rw [bne, fe]; rfl
                have HGD := Lib.hid (show goodT (.mk k nm n ks) = goodL ks by unfold goodT; simp [e2, ee, hks])
                clear h1 h3 e3 e2 ee hks el
                go_enter Try.func34, Try.ntmps34
                go_upto_region 1 with fail
                rw [HW.out]
                go_wp2_with fail
                go_loopw [5, 6] (fun s i wr => ∃ (j : Nat) (r : Int), i = .int .i64 j ∧ j ≤ l ∧ s = .int .i64 r ∧ 1 ≤ r ∧ r ≤ m ∧ (r < m → (1 + tysNodes (ks.take j) : Int) = r ∧ goodL (ks.take j) = true) ∧ Below W1.heap.size W1 wr) (fun _ i _ => l - (intOf i).toNat)
                case atStart => exact ⟨0, 1, rfl, Nat.zero_le _, rfl, by omega, hm1, fun _ => ⟨by simp [tysNodes], by simp [goodL]⟩, Below.refl _ _⟩
                case round =>
                  obtain ⟨j, r, rfl, hj, rfl, hr1, hr2, hr3, hbe⟩ := hrel
                  have hB2 := HBX.out.below hbe (by have := HZ.out; omega)
                  have y0 := hB2.cell 0
                  have y1 := hB2.cell 1
                  have y2 := hB2.cell 2
                  have y3 := hB2.cell 3
                  simp only [zTy, List.getElem?_toArray, List.getElem?_cons_succ, List.getElem?_cons_zero] at y0 y1 y2 y3
                  have hzr := hbe.size
                  have HBE := Lib.hid hbe
                  have HR3 := Lib.hid hr3
                  clear hbe hr3 hB2
                  by_cases hlt : j < l
                  · have dj : decide ((j : Int) < (l : Int)) = true := by simp; omega
                    by_cases hrm : r < m
                    · have dr : decide (r < m) = true := by simpa using hrm
                      have hkx : j < ks.length := by rw [HL.out]; exact hlt
                      have hBW1 : B ≤ W1.heap.size := by have := HZ.out; have := HBB.out; omega
                      obtain ⟨g, o, a0, a1, a2, a3, rfl, hba, ca0, ca1, ca2, ca3, hta⟩ := (HA.out.later (HBE.out.mono hBW1)).at_ hkx
                      have HC := Lib.hid (HIH.out ks[j] (List.getElem_mem hkx) (m - r) (by omega) (by omega) B wr [a0, a1, a2, a3] (Nat.le_trans hBW1 HBE.out.size) hta)
                      have HST := Lib.hid (take_snoc hkx)
                      clear hta
                      go_wp2_with (go_at_call 34; (with_reducible refine HC.out.mono ?_); rintro e w2 ⟨q, rfl, hq1, hq2, hq3, hb2⟩)
                      have HQ3 := Lib.hid hq3
                      clear hq3
                      go_roundw
                      case rel => exact ⟨j + 1, r + q, by go_num, by omega, by go_num, by omega, by omega, fun h => by
                        obtain ⟨u1, u2⟩ := HR3.out hrm
                        obtain ⟨v1, v2⟩ := HQ3.out (by omega)
                        rw [HST.out, tysNodes_app, goodL_snoc, u2, v2]
                        refine ⟨?_, rfl⟩
                        simp only [tysNodes, Nat.add_zero]
                        omega, HBE.out.trans (hb2.mono hzr)⟩
                      case measure => simp [intOf]; omega
                    · have dr : decide (r < m) = false := by simpa using hrm
                      go_wp2_with fail
                      go_ret
                      exact ⟨r, rfl, hr1, hr2, fun h => by omega, HBW.out.trans (HBE.out.mono (by have := HZ.out; omega))⟩
                  · have dj : decide ((j : Int) < (l : Int)) = false := by simp; omega
                    go_wp2_with fail
                    go_ret
                    exact ⟨r, rfl, hr1, hr2, fun h => by
                      have := HR3.out h
                      rw [List.take_of_length_le (by rw [HL.out]; omega)] at this
                      rw [HGD.out]
                      refine ⟨?_, this.2⟩
                      unfold Ty.nodes
                      have := this.1
                      omega, HBW.out.trans (HBE.out.mono (by have := HZ.out; omega))⟩
              · have fe := empty_no ee
                have fe3 : nm.toList.isEmpty = false := by rw [ByteArray.toList_eq]; cases h : nm.data.toList with | nil => exact absurd h ee | cons a b => rfl
                have fe2 : (nm.toList != ([] : List UInt8)) = true := by rw [bne, fe]; rfl
                try clear e3
                try clear e2
                try clear e0
                try clear el
                try clear ee
                try clear h1
                try clear h3
                try clear hks
                go_enter Try.func34, Try.ntmps34
                go_upto_region 1 with fail
                rw [HW.out]
                go_wp2_with fail
                go_ret
                exact ⟨m, rfl, hm1, Int.le_refl _, fun h => absurd h (Int.lt_irrefl _), HBW.out⟩
            · have f2 : (k != 2) = true := by simpa using e2
              have g2 : (k == 2) = false := by simpa using e2
              by_cases e0 : n = 0
              · have f0 : (n != 0) = false := by simp [e0]
                have HGD := Lib.hid (show goodT (.mk k nm n ks) = goodL ks by unfold goodT; simp [e2, e0, hks]; omega)
                clear h1 h3 e3 e2 e0 hks el
                go_enter Try.func34, Try.ntmps34
                go_upto_region 1 with fail
                rw [HW.out]
                go_wp2_with fail
                go_loopw [5, 6] (fun s i wr => ∃ (j : Nat) (r : Int), i = .int .i64 j ∧ j ≤ l ∧ s = .int .i64 r ∧ 1 ≤ r ∧ r ≤ m ∧ (r < m → (1 + tysNodes (ks.take j) : Int) = r ∧ goodL (ks.take j) = true) ∧ Below W1.heap.size W1 wr) (fun _ i _ => l - (intOf i).toNat)
                case atStart => exact ⟨0, 1, rfl, Nat.zero_le _, rfl, by omega, hm1, fun _ => ⟨by simp [tysNodes], by simp [goodL]⟩, Below.refl _ _⟩
                case round =>
                  obtain ⟨j, r, rfl, hj, rfl, hr1, hr2, hr3, hbe⟩ := hrel
                  have hB2 := HBX.out.below hbe (by have := HZ.out; omega)
                  have y0 := hB2.cell 0
                  have y1 := hB2.cell 1
                  have y2 := hB2.cell 2
                  have y3 := hB2.cell 3
                  simp only [zTy, List.getElem?_toArray, List.getElem?_cons_succ, List.getElem?_cons_zero] at y0 y1 y2 y3
                  have hzr := hbe.size
                  have HBE := Lib.hid hbe
                  have HR3 := Lib.hid hr3
                  clear hbe hr3 hB2
                  by_cases hlt : j < l
                  · have dj : decide ((j : Int) < (l : Int)) = true := by simp; omega
                    by_cases hrm : r < m
                    · have dr : decide (r < m) = true := by simpa using hrm
                      have hkx : j < ks.length := by rw [HL.out]; exact hlt
                      have hBW1 : B ≤ W1.heap.size := by have := HZ.out; have := HBB.out; omega
                      obtain ⟨g, o, a0, a1, a2, a3, rfl, hba, ca0, ca1, ca2, ca3, hta⟩ := (HA.out.later (HBE.out.mono hBW1)).at_ hkx
                      have HC := Lib.hid (HIH.out ks[j] (List.getElem_mem hkx) (m - r) (by omega) (by omega) B wr [a0, a1, a2, a3] (Nat.le_trans hBW1 HBE.out.size) hta)
                      have HST := Lib.hid (take_snoc hkx)
                      clear hta
                      go_wp2_with (go_at_call 34; (with_reducible refine HC.out.mono ?_); rintro e w2 ⟨q, rfl, hq1, hq2, hq3, hb2⟩)
                      have HQ3 := Lib.hid hq3
                      clear hq3
                      go_roundw
                      case rel => exact ⟨j + 1, r + q, by go_num, by omega, by go_num, by omega, by omega, fun h => by
                        obtain ⟨u1, u2⟩ := HR3.out hrm
                        obtain ⟨v1, v2⟩ := HQ3.out (by omega)
                        rw [HST.out, tysNodes_app, goodL_snoc, u2, v2]
                        refine ⟨?_, rfl⟩
                        simp only [tysNodes, Nat.add_zero]
                        omega, HBE.out.trans (hb2.mono hzr)⟩
                      case measure => simp [intOf]; omega
                    · have dr : decide (r < m) = false := by simpa using hrm
                      go_wp2_with fail
                      go_ret
                      exact ⟨r, rfl, hr1, hr2, fun h => by omega, HBW.out.trans (HBE.out.mono (by have := HZ.out; omega))⟩
                  · have dj : decide ((j : Int) < (l : Int)) = false := by simp; omega
                    go_wp2_with fail
                    go_ret
                    exact ⟨r, rfl, hr1, hr2, fun h => by
                      have := HR3.out h
                      rw [List.take_of_length_le (by rw [HL.out]; omega)] at this
                      rw [HGD.out]
                      refine ⟨?_, this.2⟩
                      unfold Ty.nodes
                      have := this.1
                      omega, HBW.out.trans (HBE.out.mono (by have := HZ.out; omega))⟩
              · have f0 : (n != 0) = true := by simpa using e0
                try clear e3
                try clear e2
                try clear e0
                try clear el
                try clear ee
                try clear h1
                try clear h3
                try clear hks
                go_enter Try.func34, Try.ntmps34
                go_upto_region 1 with fail
                rw [HW.out]
                go_wp2_with fail
                go_ret
                exact ⟨m, rfl, hm1, Int.le_refl _, fun h => absurd h (Int.lt_irrefl _), HBW.out⟩
          · have fl : decide ((0 : Int) < (l : Int)) = true := by simp; omega
            have fl2 : decide (0 < l) = true := by simp; omega
            try clear e3
            try clear e2
            try clear e0
            try clear el
            try clear ee
            try clear h1
            try clear h3
            try clear hks
            go_enter Try.func34, Try.ntmps34
            go_upto_region 1 with fail
            rw [HW.out]
            go_wp2_with fail
            go_ret
            exact ⟨m, rfl, hm1, Int.le_refl _, fun h => absurd h (Int.lt_irrefl _), HBW.out⟩

/-- What Small answers. -/
def SmallSays (m : Nat) (t : Ty) (w : World) (e : Ending) (w' : World) : Prop := ∃ b : Bool, e = .returned (.bool b) ∧ (b = true → t.nodes ≤ m ∧ goodT t = true) ∧ Below w.heap.size w w'
set_option maxHeartbeats 1600000 in
theorem small_any (t : Ty) (m : Nat) (B : Nat) (w : World) (cs : List Value) (hm2 : m ≤ 1000) (hB : B ≤ w.heap.size) (hx : TyAt w B cs t) :
    Calls Try.prog 8 #[.agg cs.toArray, .int .i64 (m : Int)] w (SmallSays m t w) := by
  obtain ⟨a0, a1, a2, a3, rfl⟩ := four_of hx.four
  have oo := ty_ones hx
  have sa0 := store_one' a0 (oo a0 (by simp))
  have sa1 := store_one' a1 (oo a1 (by simp))
  have sa2 := store_one' a2 (oo a2 (by simp))
  have sa3 := store_one' a3 (oo a3 (by simp))
  have hg := (Below.refl w.heap.size w).alloc (Nat.le_refl _) (.cells #[a0, a1, a2, a3] 24)
  have C := Lib.hid (count_any t.nodes t (Nat.le_refl _) ((m : Int) + 1) (by omega) (by omega) B _ [a0, a1, a2, a3] (Nat.le_trans hB hg.size) (hx.later (hg.mono hB)))
  have HG := Lib.hid hg
  clear hx oo hg
  go_enter Try.func8, Try.ntmps8
  go_wp2_with (go_at_call 34; (with_reducible refine C.out.mono ?_); rintro e w2 ⟨q, rfl, hq1, hq2, hq3, hb2⟩; (have HQ3 := Lib.hid hq3); clear hq3)
  go_ret
  exact ⟨_, rfl, fun h => by have h1 : q ≤ (m : Int) := of_decide_eq_true h; obtain ⟨u1, u2⟩ := HQ3.out (by omega); exact ⟨by omega, u2⟩, HG.out.trans (hb2.mono HG.out.size)⟩
/-- What smalls answers. -/
def SmallsSays (m : Nat) (l : List Ty) (w : World) (e : Ending) (w' : World) : Prop := ∃ b : Bool, e = .returned (.bool b) ∧ (b = true → l.length ≤ 30 ∧ ∀ t ∈ l, t.nodes ≤ m ∧ goodT t = true) ∧ Below w.heap.size w w'
set_option maxHeartbeats 3200000 in
theorem smalls_any (xs : List Ty) (m : Nat) (A : Option Addr) (L : List (List Value)) (n c B : Nat) (w : World) (hn : xs.length = n) (hn9 : n ≤ maxLen) (hm2 : m ≤ 1000) (hB : B ≤ w.heap.size) (ha : TysAt w B A xs L) :
    Calls Try.prog 25 #[.slice A n c, .int .i64 (m : Int)] w (SmallsSays m xs w) := by
  have HN := Lib.hid hn
  have HA := Lib.hid ha
  unfold maxLen at hn9
  clear hn ha
  go_enter Try.func25, Try.ntmps25
  go_wp2_with fail
  go_loopw [9] (fun i wr => ∃ j : Nat, i = .int .i64 j ∧ j ≤ n ∧ (∀ t ∈ xs.take j, t.nodes ≤ m ∧ goodT t = true) ∧ Below w.heap.size w wr) (fun i _ => n - (intOf i).toNat)
  case atStart => exact ⟨0, rfl, Nat.zero_le _, fun t h => by simp at h, Below.refl _ _⟩
  case round =>
    obtain ⟨j, rfl, hj, hall, hbe⟩ := hrel
    have hzr := hbe.size
    have HBE := Lib.hid hbe
    have HALL := Lib.hid hall
    clear hbe hall
    by_cases hlt : j < n
    · have hkx : j < xs.length := by rw [HN.out]; exact hlt
      obtain ⟨g, o, a0, a1, a2, a3, rfl, hba, ca0, ca1, ca2, ca3, hta⟩ := (HA.out.later (HBE.out.mono hB)).at_ hkx
      have oo := ty_ones hta
      have sa0 := store_one' a0 (oo a0 (by simp))
      have sa1 := store_one' a1 (oo a1 (by simp))
      have sa2 := store_one' a2 (oo a2 (by simp))
      have sa3 := store_one' a3 (oo a3 (by simp))
      have hg := (Below.refl wr.heap.size wr).alloc (Nat.le_refl _) (.cells #[a0, a1, a2, a3] 24)
      have HC := Lib.hid (small_any xs[j] m B _ [a0, a1, a2, a3] hm2 (Nat.le_trans (show B ≤ wr.heap.size by omega) hg.size) (hta.later (hg.mono (by omega))))
      have HB2 := Lib.hid (HBE.out.trans (hg.mono hzr))
      have HST := Lib.hid (take_snoc hkx)
      clear hta oo hg
      go_wp2_with (go_at_call 8; (with_reducible refine HC.out.mono ?_); rintro e w2 ⟨q, rfl, hq, hb2⟩; (have HQ := Lib.hid hq); clear hq; cases q)
      · go_ret
        exact ⟨false, rfl, (fun h => by cases h), HB2.out.trans (hb2.mono HB2.out.size)⟩
      · go_roundw
        case rel => exact ⟨j + 1, by go_num, by omega, fun t ht => by
          rw [HST.out] at ht
          rcases List.mem_append.1 ht with ht | ht
          · exact HALL.out t ht
          · simp at ht; rw [ht]; exact HQ.out (by trivial), HB2.out.trans (hb2.mono HB2.out.size)⟩
        case measure => simp [intOf]; omega
    · go_wp2_with fail
      go_ret
      exact ⟨_, rfl, fun h => by
        have h1 : (n : Int) ≤ 30 := of_decide_eq_true h
        refine ⟨by rw [HN.out]; omega, fun t ht => HALL.out t ?_⟩
        rw [List.take_of_length_le (by rw [HN.out]; omega)]; exact ht, HBE.out⟩
def intsS : List Int → List Int → Bool
  | [], [] => true
  | a :: l, b :: m => a == b && intsS l m
  | _, _ => false
theorem ints_self : ∀ l, intsS l l = true
  | [] => rfl
  | a :: l => by simp [intsS, ints_self l]
set_option maxHeartbeats 3200000 in
theorem ints_any (l : List Int) (A A' : Option Addr) (n c c' : Nat) (w : World) (hn9 : n ≤ 4000000) (ha : Reads w w.heap.size 1 A n (intVals l)) (hb : Reads w w.heap.size 1 A' n (intVals l)) :
    Calls Try.prog 17 #[.slice A n c, .slice A' n c'] w fun e w' => e = .returned (.bool true) ∧ Below w.heap.size w w' := by
  have HA := Lib.hid ha
  have HBB := Lib.hid hb
  have d0 : ((n : Int) != (n : Int)) = false := by simp
  clear ha hb
  go_enter Try.func17, Try.ntmps17
  go_wp2_with fail
  go_loopw [13] (fun i wr => ∃ j : Nat, i = .int .i64 j ∧ j ≤ n ∧ Below w.heap.size w wr) (fun i _ => n - (intOf i).toNat)
  case atStart => exact ⟨0, rfl, Nat.zero_le _, Below.refl _ _⟩
  case round =>
    obtain ⟨j, rfl, hj, hbe⟩ := hrel
    have HBE := Lib.hid hbe
    by_cases hlt : j < n
    · obtain ⟨ad, rfl, _, hl, hc⟩ := in_at (HA.out.below hbe) hlt
      obtain ⟨ad', rfl, _, hl', hc'⟩ := in_at (HBB.out.below hbe) hlt
      obtain ⟨x, hx⟩ : ∃ x, l[j] = x := ⟨_, rfl⟩
      rw [hx] at hc hc'
      have q1 : wr.drew.cell? (ad.add j) = _ := hc
      have q2 : wr.drew.cell? (ad'.add j) = _ := hc'
      have dx : (x != x) = false := by simp
      clear hbe hx
      go_wp2_with fail
      go_region
      go_wp2_with fail
      go_roundw
      case rel => exact ⟨j + 1, by go_num, by omega, HBE.out.drew⟩
      case measure => simp [intOf]; omega
    · go_wp2_with fail
      go_ret
      exact ⟨rfl, HBE.out⟩

end Go.Proofs.Ytgmcjnhaedfinaa
