/- Walks: the program's Size. -/
import Derived.Test.YtgmcjnhaedfinaaQaa
namespace Go.Proofs.Ytgmcjnhaedfinaa
open Go.RowKit
set_option linter.unusedVariables false
set_option linter.unusedSimpArgs false
set_option maxRecDepth 100000

set_option maxHeartbeats 6400000 in
theorem psize_any (N : Nat) : ∀ (t : Ty), t.nodes ≤ N → N ≤ 4000000 → ∀ (B : Nat) (w : World) (cs : List Value), B ≤ w.heap.size → TyAt w B cs t →
    Calls Try.prog 20 #[.agg cs.toArray] w fun e w' => e = .returned (.int .i64 (t.nodes : Int)) ∧ Below w.heap.size w w' := by
  induction N with
  | zero => intro t h; cases t; unfold Ty.nodes at h; omega
  | succ N ih =>
    intro t hN hN2 B w cs hB hx
    cases hx with
    | @mk k n nm A c ks L hk hs hn hc hm hbb hr hks =>
    unfold Ty.nodes at hN
    obtain ⟨l, hl⟩ : ∃ l, ks.length = l := ⟨_, rfl⟩
    have hln := tysNodes_len ks
    rw [hl]
    obtain ⟨W1, hW1⟩ : ∃ W1, w.alloc (.cells #[.int .i64 k, .string nm, .int .i64 n, .slice A l c] 24) = W1 := ⟨_, rfl⟩
    have hg : Below w.heap.size w W1 := by rw [← hW1]; exact (Below.refl _ _).alloc (Nat.le_refl _) _
    have hsz : W1.heap.size = w.heap.size + 1 := by rw [← hW1]; simp
    have hbx : Blk W1 w.heap.size 24 #[.int .i64 k, .string nm, .int .i64 n, .slice A l c] := by rw [← hW1]; exact Blk.new _ _ _
    have HW := Lib.hid hW1
    have HBW := Lib.hid hg
    have HZ := Lib.hid hsz
    have HBX := Lib.hid hbx
    have HA := Lib.hid ((TysAt.mk hr hks).later (hg.mono hB))
    have HL := Lib.hid hl
    have HBB := Lib.hid hB
    have HND := Lib.hid (show tysNodes ks ≤ N by omega)
    have HIH := Lib.hid (fun (t : Ty) (ht : t ∈ ks) => ih t (by have := tys_mem ks t ht; omega) (by omega))
    have HN2 := Lib.hid hN2
    have hl9 : l ≤ 4000000 := by omega
    clear hg hr hks ih hc hm hN hbb hW1 hsz hbx hl hB hN2 hln
    have x0 := HBX.out.cell 0
    have x1 := HBX.out.cell 1
    have x2 := HBX.out.cell 2
    have x3 := HBX.out.cell 3
    simp only [zTy, List.getElem?_toArray, List.getElem?_cons_succ, List.getElem?_cons_zero] at x0 x1 x2 x3
    go_enter Try.func20, Try.ntmps20
    go_upto_region 1 with fail
    rw [HW.out]
    go_wp2_with fail
    go_loopw [3, 9] (fun s i wr => ∃ (j : Nat), i = .int .i64 j ∧ j ≤ l ∧ s = .int .i64 ((1 + tysNodes (ks.take j) : Nat) : Int) ∧ Below W1.heap.size W1 wr) (fun _ i _ => l - (intOf i).toNat)
    case atStart => exact ⟨0, rfl, Nat.zero_le _, by simp [tysNodes], Below.refl _ _⟩
    case round =>
      obtain ⟨j, rfl, hj, rfl, hbe⟩ := hrel
      have hzr := hbe.size
      obtain ⟨q1, hq1⟩ : ∃ q1, 1 + tysNodes (ks.take j) = q1 := ⟨_, rfl⟩
      have hq9 : q1 ≤ 4000001 := by
        have h2 := tysNodes_take ks j
        have h3 := HND.out
        have h4 := HN2.out
        omega
      rw [hq1]
      have HBE := Lib.hid hbe
      have HQ1 := Lib.hid hq1
      clear hbe hq1
      by_cases hlt : j < l
      · have hkx : j < ks.length := by rw [HL.out]; exact hlt
        have hBW1 : B ≤ W1.heap.size := by have := HZ.out; have := HBB.out; omega
        obtain ⟨g, o, a0, a1, a2, a3, rfl, hba, ca0, ca1, ca2, ca3, hta⟩ := (HA.out.later (HBE.out.mono hBW1)).at_ hkx
        have oo := ty_ones hta
        have sa0 := store_one' a0 (oo a0 (by simp))
        have sa1 := store_one' a1 (oo a1 (by simp))
        have sa2 := store_one' a2 (oo a2 (by simp))
        have sa3 := store_one' a3 (oo a3 (by simp))
        obtain ⟨W2, hW2⟩ : ∃ W2, wr.alloc (.cells #[a0, a1, a2, a3] 24) = W2 := ⟨_, rfl⟩
        have hb2 : Below wr.heap.size wr W2 := by rw [← hW2]; exact (Below.refl _ _).alloc (Nat.le_refl _) _
        have hbx2 : Blk W2 wr.heap.size 24 #[a0, a1, a2, a3] := by rw [← hW2]; exact Blk.new _ _ _
        obtain ⟨q2, hq2⟩ : ∃ q2, ks[j].nodes = q2 := ⟨_, rfl⟩
        have hnn : q2 ≤ 4000000 := by
          have h2 := tys_mem ks ks[j] (List.getElem_mem hkx)
          have h3 := HND.out
          have h4 := HN2.out
          omega
        have C := HIH.out ks[j] (List.getElem_mem hkx) B W2 [a0, a1, a2, a3] (Nat.le_trans (Nat.le_trans hBW1 HBE.out.size) hb2.size) (hta.later (hb2.mono (by omega)))
        rw [hq2] at C
        have HSN := Lib.hid (show tysNodes (ks.take (j + 1)) = tysNodes (ks.take j) + q2 by rw [take_snoc hkx, tysNodes_app, ← hq2]; simp [tysNodes])
        have HC := Lib.hid C
        have HW2 := Lib.hid hW2
        have HB2 := Lib.hid (HBE.out.trans (hb2.mono hzr))
        have y0 := hbx2.cell 0
        have y1 := hbx2.cell 1
        have y2 := hbx2.cell 2
        have y3 := hbx2.cell 3
        simp only [zTy, List.getElem?_toArray, List.getElem?_cons_succ, List.getElem?_cons_zero] at y0 y1 y2 y3
        clear hta C hW2 hb2 hq2 hbx2 oo
        go_wp2_with fail
        rw [HW2.out]
        go_wp2_with (go_at_call 20; (with_reducible refine HC.out.mono ?_); rintro e w3 ⟨rfl, hb3⟩)
        go_roundw
        case rel => exact ⟨j + 1, by go_num, by omega, by rw [HSN.out, ← Nat.add_assoc, HQ1.out]; go_num, HB2.out.trans (hb3.mono HB2.out.size)⟩
        case measure => simp [intOf]; omega
      · have HE := Lib.hid (show q1 = (Ty.mk k nm n ks).nodes by
          rw [← HQ1.out, List.take_of_length_le (by rw [HL.out]; omega)]; rfl)
        go_wp2_with fail
        go_ret
        exact ⟨by rw [HE.out]; rfl, HBW.out.trans (HBE.out.mono (by have := HZ.out; omega))⟩

end Go.Proofs.Ytgmcjnhaedfinaa
