/- Walks: the names of binds, and of a pattern, as the document has them. -/
import Derived.Test.YtglamoiimmahgaaTexts
import Derived.Test.YtglamoiimmahgaaPats
import Derived.Test.YtglamoiimmahgaaSames
namespace Go.Proofs.Ytglamoiimmahgaa
open Go.RowKit
set_option linter.unusedVariables false
set_option maxRecDepth 100000

def Bd.name : Bd → ByteArray
  | .mk nm _ _ => nm
theorem own_later {w w' : World} {base size n : Nat} {e : TypeId} {v : Value} {xs : List Value} (h : w.ownsRow base e size v n xs) (hb : Below w.heap.size w w') : w'.ownsRow base e size v n xs := by
  refine ⟨h.1, ?_⟩
  rcases h.2 with h0 | ⟨g, cap, cur, hv, hg, hh, hr⟩
  · exact .inl h0
  · refine .inr ⟨g, cap, cur, hv, hg, ?_, hr⟩
    rw [hb.block g ?_]; exact hh
    rcases Nat.lt_or_ge g w.heap.size with hlt | hge
    · exact hlt
    · rw [Array.getElem?_eq_none hge] at hh; cases hh
mutual
/-- The names of a pattern, in order. -/
def ptNames : Pt → List ByteArray
  | .mk k nm _ ks _ => (if k = 2 then [nm] else []) ++ ptsNames ks
def ptsNames : List Pt → List ByteArray
  | [] => []
  | t :: ts => ptNames t ++ ptsNames ts
end
theorem ptsNames_app : ∀ a b : List Pt, ptsNames (a ++ b) = ptsNames a ++ ptsNames b
  | [], b => by simp [ptsNames]
  | x :: a, b => by simp only [List.cons_append, ptsNames, ptsNames_app a b, List.append_assoc]
theorem ptNames_le (N : Nat) : ∀ t : Pt, t.nodes ≤ N → (ptNames t).length ≤ t.nodes := by
  induction N with
  | zero => intro t h; cases t; unfold Pt.nodes at h; omega
  | succ N ih =>
    have h1 : ∀ l : List Pt, ptsNodes l ≤ N → (ptsNames l).length ≤ ptsNodes l := by
      intro l; induction l with
      | nil => intro _; exact Nat.le_refl _
      | cons a l ihl => intro hl; unfold ptsNodes at hl; have := ih a (by omega); have := ihl (by omega); simp only [ptsNames, ptsNodes, List.length_append]; omega
    intro t h
    cases t with
    | mk k nm n ks q =>
      unfold Pt.nodes at h
      have := h1 ks (by omega)
      unfold ptNames Pt.nodes
      by_cases h2 : k = 2 <;> simp [h2] <;> omega
theorem ptsNames_le (l : List Pt) : (ptsNames l).length ≤ ptsNodes l := by
  induction l with
  | nil => exact Nat.le_refl _
  | cons a l ih => have := ptNames_le a.nodes a (Nat.le_refl _); simp only [ptsNames, ptsNodes, List.length_append]; omega
theorem ptsNodes_take (l : List Pt) (i : Nat) : ptsNodes (l.take i) ≤ ptsNodes l := by
  induction l generalizing i with
  | nil => simp
  | cons a l ih =>
    cases i with
    | zero => simp [ptsNodes]
    | succ i => simp only [List.take_succ_cons, ptsNodes]; have := ih i; omega

set_option maxHeartbeats 1600000 in
theorem rbound_any (bs : List Bd) (A : Option Addr) (L : List (List Value)) (c B n : Nat) (w : World) (hB : B ≤ w.heap.size) (hn : bs.length = n) (hn9 : n ≤ 4000000) (ha : BdsAt w B A bs L) :
    Calls Try.prog 54 #[.slice A n c] w (NamesSays (bs.map Bd.name) w) := by
  obtain ⟨i0, hi, hz0, hz1, hz2⟩ := info_parts str_info
  have HI := Lib.hid hi
  have HZ0 := Lib.hid hz0
  have HZ1 := Lib.hid hz1
  have HZ2 := Lib.hid hz2
  have HN := Lib.hid hn
  have HA := Lib.hid ha
  clear ha hi hz0 hz1 hz2 hn
  go_enter Try.func54, Try.ntmps54
  go_wp2_with fail
  go_loopw [3, 4] (fun v i wr => ∃ k : Nat, i = .int .i64 k ∧ k ≤ n ∧ wr.ownsRow w.heap.size 9 1 v k (nmVals ((bs.take k).map Bd.name)) ∧ Below w.heap.size w wr) (fun _ i _ => n - (intOf i).toNat)
  case atStart => exact ⟨0, rfl, Nat.zero_le _, World.ownsRow_nil _ _ _ _, Below.refl _ _⟩
  case round =>
    obtain ⟨k, rfl, hk, hown, hbe⟩ := hrel
    have hzr := hbe.size
    have HOW := Lib.hid hown
    have HBE := Lib.hid hbe
    clear hown hbe
    by_cases hlt : k < n
    · have hkx : k < bs.length := by rw [HN.out]; exact hlt
      have hX := HA.out.later (HBE.out.mono hB)
      have hlx : k < L.length := by rw [hX.row.len]; exact hkx
      obtain ⟨g, o, c0, c1, c2, c3, c4, c5, c6, c7, c8, c9, c10, nm, e, q, rfl, hg, hb, _, u0, _, _, k0, k1, k2, k3, k4, k5, k6, k7, k8, k9, k10⟩ := bd_cells hX.row hkx hlx (hX.each k hlx hkx)
      have HST := Lib.hid (show (bs.take (k + 1)).map Bd.name = (bs.take k).map Bd.name ++ [nm] by rw [List.take_succ_eq_append_getElem hkx, List.map_append, hb]; rfl)
      clear hX hb
      go_wp2_with (at_builtin; refine wpList_append_own _ rfl (.tmp 11) (.tmp 17) 50 rfl w.heap.size 9 i0 (.string ⟨#[]⟩) 1 16 Try.underlying50 HI.out HZ0.out HZ1.out HZ2.out rfl (by decide) _ _ _ rfl (HOW.out.alloc _) ⟨wr.heap.size, 0, none⟩ 1 1 [.string nm] rfl rfl (one_new _ _ _) (one_is rfl) (by unfold maxLen; omega) (by omega) (by simp; omega) ?_)
      intro v' w2 hown' hgrow _
      have HNX := Lib.hid (show w2.ownsRow w.heap.size 9 1 v' (k + 1) (nmVals ((bs.take (k + 1)).map Bd.name)) by rw [HST.out]; simpa using hown')
      have HB2 := Lib.hid ((HBE.out.alloc hzr _).grown hgrow (by simp; omega) (own_base HOW.out))
      clear hown' hgrow
      go_wp2_with fail
      go_roundw
      case rel => exact ⟨k + 1, by go_num, by omega, HNX.out, HB2.out⟩
      case measure => simp [intOf]; omega
    · have HE := Lib.hid (names_own (w := w) (l := bs.map Bd.name) (n := k) (by rw [List.length_map, HN.out]; omega) (by have := HOW.out; rw [List.take_of_length_le (by rw [HN.out]; omega)] at this; exact this) HBE.out)
      go_wp2_with fail
      go_ret
      exact HE.out

set_option maxRecDepth 100000 in
set_option maxHeartbeats 3200000 in
theorem rnames_any (N : Nat) : ∀ (p : Pt), p.nodes ≤ N → N ≤ 4000000 → ∀ (B : Nat) (w : World) (cs : List Value), B ≤ w.heap.size → PtAt w B cs p →
    Calls Try.prog 25 #[.agg cs.toArray] w (NamesSays (ptNames p) w) := by
  induction N with
  | zero => intro p h; cases p; unfold Pt.nodes at h; omega
  | succ N ih =>
    intro p hN hN2 B w cs hB hx
    cases hx with
    | @mk k n q nm A c ks L hk hs hn hc hm hq hbt hr hks =>
    unfold Pt.nodes at hN
    obtain ⟨l, hl⟩ : ∃ l, ks.length = l := ⟨_, rfl⟩
    have hl9 : l ≤ 4000000 := by
      have : ∀ z : List Pt, z.length ≤ ptsNodes z := by
        intro z; induction z with
        | nil => exact Nat.le_refl _
        | cons a z ihz => cases a; simp only [List.length_cons, ptsNodes, Pt.nodes]; omega
      have := this ks; omega
    have hnames : ptNames (.mk k nm n ks q) = (if k = 2 then [nm] else []) ++ ptsNames ks := rfl
    rw [hnames, hl]
    have hb0 := Blk.new w 39 #[.int .i64 k, .string nm, .int .i64 n, .slice A l c, .int .i64 q]
    obtain ⟨W1, hW1⟩ : ∃ W1, w.alloc (.cells #[.int .i64 k, .string nm, .int .i64 n, .slice A l c, .int .i64 q] 39) = W1 := ⟨_, rfl⟩
    have hbW : Below w.heap.size w W1 := by rw [← hW1]; exact (Below.refl _ _).alloc (Nat.le_refl _) _
    have hzW : W1.heap.size = w.heap.size + 1 := by rw [← hW1]; simp
    rw [hW1] at hb0
    obtain ⟨i0, hi, hz0, hz1, hz2⟩ := info_parts str_info
    have HI := Lib.hid hi
    have HZ0 := Lib.hid hz0
    have HZ1 := Lib.hid hz1
    have HZ2 := Lib.hid hz2
    have HW := Lib.hid hW1
    have HBW := Lib.hid hbW
    have HZ := Lib.hid hzW
    have HBX := Lib.hid hb0
    have HA := Lib.hid ((PtsAt.mk hr hks).later (hbW.mono hB))
    have HL := Lib.hid hl
    have HND := Lib.hid (show ptsNodes ks ≤ N by omega)
    have HIH := Lib.hid (fun (t : Pt) (ht : t ∈ ks) => ih t (by have := pts_mem ks t ht; omega) (by omega))
    have HN2 := Lib.hid hN2
    clear hr hks ih hc hm hN hbt hW1 hbW hzW hb0 hl hi hz0 hz1 hz2 hnames hN2
    obtain ⟨pre, hpre⟩ : ∃ pre, (if k = 2 then [nm] else []) = pre := ⟨_, rfl⟩
    have hpl : pre.length ≤ 1 := by rw [← hpre]; by_cases h2 : k = 2 <;> simp [h2]
    rw [hpre]
    by_cases h2 : k = 2
    · have d2 : (k == 2) = true := by simpa using h2
      have HP := Lib.hid (show pre = [nm] by rw [← hpre, if_pos h2])
      clear h2 hpre
      go_enter Try.func25, Try.ntmps25
      go_wp2_with (at_builtin; refine wpList_append_own _ rfl (.tmp 8) (.tmp 11) 50 rfl W1.heap.size 9 i0 (.string ⟨#[]⟩) 1 16 Try.underlying50 HI.out HZ0.out HZ1.out HZ2.out rfl (by decide) (.slice none 0 0) 0 [] rfl (World.ownsRow_nil _ _ _ _) ⟨w.heap.size + 1, 0, none⟩ 1 1 [.string nm] rfl rfl (by rw [HW.out, ← HZ.out]; exact one_new _ _ _) (one_is rfl) (by unfold maxLen; omega) (by omega) (by rw [HW.out]; simp) ?_)
      intro v0 w0 hown0 hgrow0 _
      have HO := Lib.hid (show w0.ownsRow W1.heap.size 9 1 v0 pre.length (nmVals pre) by rw [HP.out]; simpa using hown0)
      have HG := Lib.hid (show Below W1.heap.size W1 w0 by
        have := hgrow0
        rw [HW.out] at this
        exact ((Below.refl _ _).alloc (Nat.le_refl _) _).grown this (by simp) (fun k hk => by simp [Value.ownBlock] at hk))
      clear hown0 hgrow0
      go_wp2_with fail
      go_loopw [3, 4] (fun v i wr => ∃ j : Nat, i = .int .i64 j ∧ j ≤ l ∧ wr.ownsRow W1.heap.size 9 1 v (pre ++ ptsNames (ks.take j)).length (nmVals (pre ++ ptsNames (ks.take j))) ∧ Below W1.heap.size W1 wr) (fun _ i _ => l - (intOf i).toNat)
      case atStart => exact ⟨0, rfl, Nat.zero_le _, by simpa [ptsNames] using HO.out, HG.out⟩
      case round =>
        obtain ⟨j, rfl, hj, hown, hbe⟩ := hrel
        have hcf := (hbe.cell (p := ⟨w.heap.size, 3, none⟩) (by have := HZ.out; show w.heap.size < _; omega)).trans (HBX.out.cell 3)
        simp only [List.getElem?_toArray, List.getElem?_cons_succ, List.getElem?_cons_zero] at hcf
        have hzr := hbe.size
        obtain ⟨q1, hq1⟩ : ∃ q1, (pre ++ ptsNames (ks.take j)).length = q1 := ⟨_, rfl⟩
        have hq9 : q1 ≤ 4000001 := by
          have h1 := ptsNames_le (ks.take j)
          have h2 := ptsNodes_take ks j
          have h3 := HND.out
          have h4 := HN2.out
          rw [← hq1, List.length_append]; omega
        rw [hq1] at hown
        have HOW := Lib.hid hown
        have HBE := Lib.hid hbe
        have HQ1 := Lib.hid hq1
        clear hown hbe hq1
        by_cases hlt : j < l
        · have hkx : j < ks.length := by rw [HL.out]; exact hlt
          have hBW1 : B ≤ W1.heap.size := by have := HZ.out; omega
          obtain ⟨g, o, a0, a1, a2, a3, a4, rfl, hba, ca0, ca1, ca2, ca3, ca4, hta⟩ := (HA.out.later (HBE.out.mono hBW1)).at_ hkx
          obtain ⟨nn, hnn⟩ : ∃ nn, ptNames ks[j] = nn := ⟨_, rfl⟩
          have C := HIH.out ks[j] (List.getElem_mem hkx) B wr [a0, a1, a2, a3, a4] (Nat.le_trans hBW1 HBE.out.size) hta
          rw [hnn] at C
          have hn9 : nn.length ≤ 4000000 := by
            have h1 := ptNames_le ks[j].nodes ks[j] (Nat.le_refl _)
            have h2 := pts_mem ks ks[j] (List.getElem_mem hkx)
            have h3 := HND.out
            have h4 := HN2.out
            rw [hnn] at h1; omega
          have HST := Lib.hid (show ptsNames (ks.take (j + 1)) = ptsNames (ks.take j) ++ nn by rw [List.take_succ_eq_append_getElem hkx, ptsNames_app]; simp only [ptsNames, hnn, List.append_nil])
          have HC := Lib.hid C
          clear hta hnn C
          go_wp2_with fail
          refine HC.out.mono ?_
          rintro e w2 ⟨A2, c2, rfl, hr2, hb2⟩
          have HR2 := Lib.hid hr2
          have HO2 := Lib.hid (own_later HOW.out hb2)
          have HB2 := Lib.hid (HBE.out.trans (hb2.mono hzr))
          have hz2 := HB2.out.size
          obtain ⟨q2, hq2⟩ : ∃ q2, nn.length = q2 := ⟨_, rfl⟩
          rw [hq2] at hn9 HR2 ⊢
          have HQ2 := Lib.hid hq2
          clear hr2 hb2 hq2
          go_wp2_with (at_builtin; refine wpList_append_any _ rfl (.tmp 20) (.tmp 26) 50 rfl W1.heap.size 9 i0 (.string ⟨#[]⟩) 1 16 Try.underlying50 HI.out HZ0.out HZ1.out HZ2.out rfl (by decide) _ _ _ rfl HO2.out w2.heap.size A2 q2 c2 (nmVals nn) rfl HR2.out (nm_oneCell _) (by unfold maxLen; omega) (by omega) hz2 ?_)
          intro v3 w3 hown3 hg3 _
          have HN3 := Lib.hid (show w3.ownsRow W1.heap.size 9 1 v3 (pre ++ ptsNames (ks.take (j + 1))).length (nmVals (pre ++ ptsNames (ks.take (j + 1)))) by
            rw [HST.out, ← List.append_assoc, List.length_append, HQ1.out, HQ2.out]; simpa using hown3)
          have HB3 := Lib.hid (HB2.out.grown hg3 hz2 (own_base HO2.out))
          clear hown3 hg3
          go_wp2_with fail
          go_roundw
          case rel => exact ⟨j + 1, by go_num, by omega, HN3.out, HB3.out⟩
          case measure => simp [intOf]; omega
        · have HE := Lib.hid (names_own (w := w) (l := pre ++ ptsNames ks) (n := q1) (by rw [← HQ1.out, List.take_of_length_le (by rw [HL.out]; omega)]) (by have := HOW.out; rw [List.take_of_length_le (by rw [HL.out]; omega)] at this; exact this) (HBW.out.trans (HBE.out.mono (by have := HZ.out; omega))))
          go_wp2_with fail
          go_ret
          exact HE.out
    · have d2 : (k == 2) = false := by simpa using h2
      have HP := Lib.hid (show pre = [] by rw [← hpre, if_neg h2])
      have HO := Lib.hid (show W1.ownsRow W1.heap.size 9 1 (.slice none 0 0) pre.length (nmVals pre) by rw [HP.out]; exact World.ownsRow_nil _ _ _ _)
      have HG := Lib.hid (Below.refl W1.heap.size W1)
      clear h2 hpre
      go_enter Try.func25, Try.ntmps25
      go_wp2_with fail
      rw [HW.out]
      go_loopw [3, 4] (fun v i wr => ∃ j : Nat, i = .int .i64 j ∧ j ≤ l ∧ wr.ownsRow W1.heap.size 9 1 v (pre ++ ptsNames (ks.take j)).length (nmVals (pre ++ ptsNames (ks.take j))) ∧ Below W1.heap.size W1 wr) (fun _ i _ => l - (intOf i).toNat)
      case atStart => exact ⟨0, rfl, Nat.zero_le _, by simpa [ptsNames] using HO.out, HG.out⟩
      case round =>
        obtain ⟨j, rfl, hj, hown, hbe⟩ := hrel
        have hcf := (hbe.cell (p := ⟨w.heap.size, 3, none⟩) (by have := HZ.out; show w.heap.size < _; omega)).trans (HBX.out.cell 3)
        simp only [List.getElem?_toArray, List.getElem?_cons_succ, List.getElem?_cons_zero] at hcf
        have hzr := hbe.size
        obtain ⟨q1, hq1⟩ : ∃ q1, (pre ++ ptsNames (ks.take j)).length = q1 := ⟨_, rfl⟩
        have hq9 : q1 ≤ 4000001 := by
          have h1 := ptsNames_le (ks.take j)
          have h2 := ptsNodes_take ks j
          have h3 := HND.out
          have h4 := HN2.out
          rw [← hq1, List.length_append]; omega
        rw [hq1] at hown
        have HOW := Lib.hid hown
        have HBE := Lib.hid hbe
        have HQ1 := Lib.hid hq1
        clear hown hbe hq1
        by_cases hlt : j < l
        · have hkx : j < ks.length := by rw [HL.out]; exact hlt
          have hBW1 : B ≤ W1.heap.size := by have := HZ.out; omega
          obtain ⟨g, o, a0, a1, a2, a3, a4, rfl, hba, ca0, ca1, ca2, ca3, ca4, hta⟩ := (HA.out.later (HBE.out.mono hBW1)).at_ hkx
          obtain ⟨nn, hnn⟩ : ∃ nn, ptNames ks[j] = nn := ⟨_, rfl⟩
          have C := HIH.out ks[j] (List.getElem_mem hkx) B wr [a0, a1, a2, a3, a4] (Nat.le_trans hBW1 HBE.out.size) hta
          rw [hnn] at C
          have hn9 : nn.length ≤ 4000000 := by
            have h1 := ptNames_le ks[j].nodes ks[j] (Nat.le_refl _)
            have h2 := pts_mem ks ks[j] (List.getElem_mem hkx)
            have h3 := HND.out
            have h4 := HN2.out
            rw [hnn] at h1; omega
          have HST := Lib.hid (show ptsNames (ks.take (j + 1)) = ptsNames (ks.take j) ++ nn by rw [List.take_succ_eq_append_getElem hkx, ptsNames_app]; simp only [ptsNames, hnn, List.append_nil])
          have HC := Lib.hid C
          clear hta hnn C
          go_wp2_with fail
          refine HC.out.mono ?_
          rintro e w2 ⟨A2, c2, rfl, hr2, hb2⟩
          have HR2 := Lib.hid hr2
          have HO2 := Lib.hid (own_later HOW.out hb2)
          have HB2 := Lib.hid (HBE.out.trans (hb2.mono hzr))
          have hz2 := HB2.out.size
          obtain ⟨q2, hq2⟩ : ∃ q2, nn.length = q2 := ⟨_, rfl⟩
          rw [hq2] at hn9 HR2 ⊢
          have HQ2 := Lib.hid hq2
          clear hr2 hb2 hq2
          go_wp2_with (at_builtin; refine wpList_append_any _ rfl (.tmp 20) (.tmp 26) 50 rfl W1.heap.size 9 i0 (.string ⟨#[]⟩) 1 16 Try.underlying50 HI.out HZ0.out HZ1.out HZ2.out rfl (by decide) _ _ _ rfl HO2.out w2.heap.size A2 q2 c2 (nmVals nn) rfl HR2.out (nm_oneCell _) (by unfold maxLen; omega) (by omega) hz2 ?_)
          intro v3 w3 hown3 hg3 _
          have HN3 := Lib.hid (show w3.ownsRow W1.heap.size 9 1 v3 (pre ++ ptsNames (ks.take (j + 1))).length (nmVals (pre ++ ptsNames (ks.take (j + 1)))) by
            rw [HST.out, ← List.append_assoc, List.length_append, HQ1.out, HQ2.out]; simpa using hown3)
          have HB3 := Lib.hid (HB2.out.grown hg3 hz2 (own_base HO2.out))
          clear hown3 hg3
          go_wp2_with fail
          go_roundw
          case rel => exact ⟨j + 1, by go_num, by omega, HN3.out, HB3.out⟩
          case measure => simp [intOf]; omega
        · have HE := Lib.hid (names_own (w := w) (l := pre ++ ptsNames ks) (n := q1) (by rw [← HQ1.out, List.take_of_length_le (by rw [HL.out]; omega)]) (by have := HOW.out; rw [List.take_of_length_le (by rw [HL.out]; omega)] at this; exact this) (HBW.out.trans (HBE.out.mono (by have := HZ.out; omega))))
          go_wp2_with fail
          go_ret
          exact HE.out

end Go.Proofs.Ytglamoiimmahgaa
