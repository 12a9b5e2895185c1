/- Walks: the document's equality of patterns. -/
import Derived.Test.YtglamoiimmahgaaTya
namespace Go.Proofs.Ytglamoiimmahgaa
open Go.RowKit
set_option linter.unusedVariables false
set_option maxRecDepth 100000

mutual
/-- Equality of patterns, but for places. -/
def ptSame : Pt → Pt → Bool
  | .mk k nm n ks _, .mk k' nm' n' ks' _ => k == k' && (nm.data.toList == nm'.data.toList && (n == n' && (ks.length == ks'.length && ptsSame ks ks')))
def ptsSame : List Pt → List Pt → Bool
  | [], _ => true
  | t :: ts, [] => true
  | t :: ts, u :: us => ptSame t u && ptsSame ts us
end
theorem pts_mem : ∀ (l : List Pt) (t : Pt), t ∈ l → t.nodes ≤ ptsNodes l
  | [], t, h => by simp at h
  | u :: us, t, h => by
    rw [List.mem_cons] at h
    unfold ptsNodes
    rcases h with rfl | h
    · omega
    · have := pts_mem us t h; omega
theorem pts_yes : ∀ (xs ys : List Pt), xs.length = ys.length → (∀ j (h1 : j < xs.length) (h2 : j < ys.length), ptSame xs[j] ys[j] = true) → ptsSame xs ys = true
  | [], _, _, _ => by simp [ptsSame]
  | a :: xs, [], h, _ => by simp at h
  | a :: xs, b :: ys, h, hj => by
    unfold ptsSame
    rw [show ptSame a b = true from hj 0 (by simp) (by simp), pts_yes xs ys (by simpa using h) (fun j h1 h2 => hj (j + 1) (by simp; omega) (by simp; omega))]
    rfl
theorem pts_no : ∀ (xs ys : List Pt), xs.length = ys.length → ∀ k (h1 : k < xs.length) (h2 : k < ys.length), ptSame xs[k] ys[k] = false → ptsSame xs ys = false
  | [], _, _, k, h1, _, _ => by simp at h1
  | a :: xs, [], h, _, _, h2, _ => by simp at h2
  | a :: xs, b :: ys, h, 0, h1, h2, hk => by
    unfold ptsSame
    rw [show ptSame a b = false from hk]; rfl
  | a :: xs, b :: ys, h, k + 1, h1, h2, hk => by
    unfold ptsSame
    rw [pts_no xs ys (by simpa using h) k (by simpa using h1) (by simpa using h2) (by simpa using hk)]
    simp
structure PtsAt (w : World) (B : Nat) (A : Option Addr) (ks : List Pt) (L : List (List Value)) : Prop where
  row : Row w B 5 A ks.length L
  each : ∀ i (h1 : i < L.length) (h2 : i < ks.length), PtAt w B L[i] ks[i]
theorem PtsAt.later {w w' : World} {B : Nat} {A : Option Addr} {ks : List Pt} {L : List (List Value)} (h : PtsAt w B A ks L) (hb : Below B w w') : PtsAt w' B A ks L :=
  ⟨h.row.keep fun _ hp => hb.cell hp, fun i h1 h2 => (h.each i h1 h2).later hb⟩
theorem PtsAt.at_ {w : World} {B : Nat} {A : Option Addr} {ks : List Pt} {L : List (List Value)} (h : PtsAt w B A ks L) {i : Nat} (hi : i < ks.length) :
    ∃ g o c0 c1 c2 c3 c4, A = some ⟨g, o, none⟩ ∧ g < B ∧ w.cell? ⟨g, o + i * 5, none⟩ = some c0 ∧ w.cell? ⟨g, o + i * 5 + 1, none⟩ = some c1 ∧ w.cell? ⟨g, o + i * 5 + 2, none⟩ = some c2 ∧ w.cell? ⟨g, o + i * 5 + 3, none⟩ = some c3 ∧ w.cell? ⟨g, o + i * 5 + 4, none⟩ = some c4 ∧ PtAt w B [c0, c1, c2, c3, c4] ks[i] := by
  obtain ⟨g, o, e, hb, hl, h4, hc⟩ := h.row.cells (by omega) hi
  obtain ⟨c0, c1, c2, c3, c4, e4⟩ := five_of h4
  have ht := h.each i hl hi
  rw [e4] at ht hc
  exact ⟨g, o, c0, c1, c2, c3, c4, e, hb, hc 0 c0 rfl, hc 1 c1 rfl, hc 2 c2 rfl, hc 3 c3 rfl, hc 4 c4 rfl, ht⟩

set_option maxRecDepth 100000 in
set_option maxHeartbeats 3200000 in
theorem rsamepat_any (N : Nat) : ∀ (t u : Pt), t.nodes ≤ N → ∀ (B : Nat) (w : World) (cs ds : List Value), B ≤ w.heap.size → PtAt w B cs t → PtAt w B ds u →
    Calls Try.prog 19 #[.agg cs.toArray, .agg ds.toArray] w fun e w' => e = .returned (.bool (ptSame t u)) ∧ Below w.heap.size w w' := by
  induction N with
  | zero => intro t u h; cases t; unfold Pt.nodes at h; omega
  | succ N ih =>
    intro t u hN B w cs ds hB hx hy
    cases hx with
    | @mk k n q nm A c ks L hk hs hn hc hm hq hbt hr hks =>
    cases hy with
    | @mk k' n' q' nm' A' c' ks' L' hk' hs' hn' hc' hm' hq' hbt' hr' hks' =>
    unfold Pt.nodes at hN
    obtain ⟨l, hl⟩ : ∃ l, ks.length = l := ⟨_, rfl⟩
    obtain ⟨l', hl'⟩ : ∃ l', ks'.length = l' := ⟨_, rfl⟩
    have hl9 : l ≤ 9223372036854775807 := by rw [← hl]; omega
    have hl9' : l' ≤ 9223372036854775807 := by rw [← hl']; omega
    have HS := Lib.hid (show ptSame (.mk k nm n ks q) (.mk k' nm' n' ks' q') = (k == k' && (nm.data.toList == nm'.data.toList && (n == n' && (l == l' && ptsSame ks ks')))) by rw [← hl, ← hl']; rfl)
    rw [hl, hl']
    have b1 := (Blk.new w 39 #[.int .i64 k, .string nm, .int .i64 n, .slice A l c, .int .i64 q]).alloc (.cells #[.int .i64 k', .string nm', .int .i64 n', .slice A' l' c', .int .i64 q'] 39)
    have b2 := Blk.new (w.alloc (.cells #[.int .i64 k, .string nm, .int .i64 n, .slice A l c, .int .i64 q] 39)) 39 #[.int .i64 k', .string nm', .int .i64 n', .slice A' l' c', .int .i64 q']
    obtain ⟨W2, hW2⟩ : ∃ W2, (w.alloc (.cells #[.int .i64 k, .string nm, .int .i64 n, .slice A l c, .int .i64 q] 39)).alloc (.cells #[.int .i64 k', .string nm', .int .i64 n', .slice A' l' c', .int .i64 q'] 39) = W2 := ⟨_, rfl⟩
    have hbW : Below w.heap.size w W2 := by rw [← hW2]; exact ((Below.refl _ _).alloc (Nat.le_refl _) _).alloc (by simp) _
    have hzW : W2.heap.size = w.heap.size + 1 + 1 := by rw [← hW2]; simp
    rw [hW2] at b1 b2
    rw [World.size_alloc] at b2
    have HA := Lib.hid ((PtsAt.mk hr hks).later (hbW.mono hB))
    have HA' := Lib.hid ((PtsAt.mk hr' hks').later (hbW.mono hB))
    have HW := Lib.hid hW2
    have HBW := Lib.hid hbW
    have HZ := Lib.hid hzW
    have HB1 := Lib.hid b1
    have HB2 := Lib.hid b2
    have HL := Lib.hid hl
    have HL' := Lib.hid hl'
    have HIH := Lib.hid (fun (t : Pt) (ht : t ∈ ks) => fun (u : Pt) (W : World) (cs ds : List Value) (hb : B ≤ W.heap.size) => ih t u (by have := pts_mem ks t ht; omega) B W cs ds hb)
    clear hr hks hr' hks' ih hc hm hc' hm' hN hbt hbt' hW2 hbW hzW b1 b2 hl hl'
    by_cases e1 : k = k'
    · have d1 : (k != k') = false := by simpa using e1
      by_cases e2 : nm.data.toList = nm'.data.toList
      · have d2 := nm_same e2
        have d2' : (nm.data.toList == nm'.data.toList) = true := by simpa using e2
        by_cases e3 : n = n'
        · have d3 : (n != n') = false := by simpa using e3
          by_cases e4 : l = l'
          · have d4 : ((l : Int) != (l' : Int)) = false := by simp; omega
            have HE := Lib.hid (show ptSame (.mk k nm n ks q) (.mk k' nm' n' ks' q') = ptsSame ks ks' by rw [HS.out, d2', show (k == k') = true by simpa using e1, show (n == n') = true by simpa using e3, show (l == l') = true by simpa using e4]; simp)
            have HEQ := Lib.hid (show ks.length = ks'.length by rw [HL.out, HL'.out, e4])
            have hll : l' = l := e4.symm
            subst hll
            clear e1 e2 e3 d2' d4
            go_enter Try.func19, Try.ntmps19
            go_wp2_with fail
            rw [HW.out]
            go_loopw [5] (fun i wr => ∃ j : Nat, i = .int .i64 j ∧ j ≤ l' ∧ (∀ x (h1 : x < ks.length) (h2 : x < ks'.length), x < j → ptSame ks[x] ks'[x] = true) ∧ Below W2.heap.size W2 wr) (fun i _ => l' - (intOf i).toNat)
            case atStart => exact ⟨0, rfl, Nat.zero_le _, fun x _ _ h => by omega, Below.refl _ _⟩
            case round =>
              obtain ⟨j, rfl, hj, hall, hbel⟩ := hrel
              have hcf := (hbel.cell (p := ⟨w.heap.size, 3, none⟩) (by have := HZ.out; show w.heap.size < _; omega)).trans (HB1.out.cell 3)
              have hcg := (hbel.cell (p := ⟨w.heap.size + 1, 3, none⟩) (by have := HZ.out; show w.heap.size + 1 < _; omega)).trans (HB2.out.cell 3)
              simp only [List.getElem?_toArray, List.getElem?_cons_succ, List.getElem?_cons_zero] at hcf hcg
              have HALL := Lib.hid hall
              have HBE := Lib.hid hbel
              clear hall hbel
              by_cases hlt : j < l'
              · have hkx : j < ks.length := by rw [HL.out]; exact hlt
                have hky : j < ks'.length := by rw [HL'.out]; exact hlt
                have hBW2 : B ≤ W2.heap.size := by have := HZ.out; omega
                obtain ⟨g, o, a0, a1, a2, a3, a4, rfl, hba, ca0, ca1, ca2, ca3, ca4, hta⟩ := (HA.out.later (HBE.out.mono hBW2)).at_ hkx
                obtain ⟨g', o', b0, b1, b2, b3, b4, rfl, hbb, cb0, cb1, cb2, cb3, cb4, htb⟩ := (HA'.out.later (HBE.out.mono hBW2)).at_ hky
                have hBd : B ≤ wr.drew.heap.size := Nat.le_trans hBW2 HBE.out.size
                obtain ⟨v, hv⟩ : ∃ v, ptSame ks[j] ks'[j] = v := ⟨_, rfl⟩
                have C1 := HIH.out ks[j] (List.getElem_mem hkx) ks'[j] wr.drew [a0, a1, a2, a3, a4] [b0, b1, b2, b3, b4] hBd (hta.keep fun _ _ => rfl) (htb.keep fun _ _ => rfl)
                rw [hv] at C1
                have HC1 := Lib.hid C1
                have HV := Lib.hid hv
                clear hta htb C1 hv hBd hBW2
                cases v with
                | true =>
                  go_wp2_with fail
                  go_still_tail 10, (by kernel_rfl)
                  change wpList _ _ _ _ _ wr.drew
                  go_wp2_with (go_at_call 19; (with_reducible refine HC1.out.mono ?_); rintro e w2 ⟨rfl, hb2⟩)
                  go_roundw
                  case rel => exact ⟨j + 1, by go_num, by omega, fun x h1 h2 h3 => by
                    rcases Nat.lt_or_ge x j with h | h
                    · exact HALL.out x h1 h2 h
                    · have : x = j := by omega
                      subst this; exact HV.out, HBE.out.drew.trans (hb2.mono HBE.out.size)⟩
                  case measure => simp [intOf]; omega
                | false =>
                  have HF := Lib.hid (pts_no ks ks' HEQ.out j hkx hky HV.out)
                  go_wp2_with fail
                  go_still_tail 10, (by kernel_rfl)
                  change wpList _ _ _ _ _ wr.drew
                  go_wp2_with (go_at_call 19; (with_reducible refine HC1.out.mono ?_); rintro e w2 ⟨rfl, hb2⟩)
                  go_ret
                  exact ⟨ret_bool (by rw [HE.out, HF.out]), HBW.out.trans ((HBE.out.drew.trans (hb2.mono HBE.out.size)).mono (by have := HZ.out; omega))⟩
              · have HT := Lib.hid (pts_yes ks ks' HEQ.out (fun x h1 h2 => HALL.out x h1 h2 (by have := HL.out; omega)))
                go_wp2_with fail
                go_ret
                exact ⟨ret_bool (by rw [HE.out, HT.out]), HBW.out.trans (HBE.out.mono (by have := HZ.out; omega))⟩
          · have d4 : ((l : Int) != (l' : Int)) = true := by simp; omega
            have HE := Lib.hid (show ptSame (.mk k nm n ks q) (.mk k' nm' n' ks' q') = false by rw [HS.out, show (l == l') = false by simpa using e4]; simp)
            clear e1 e2 e3 e4 d2'
            go_enter Try.func19, Try.ntmps19
            go_wp2_with fail
            rw [HW.out]
            go_ret
            exact ⟨ret_bool HE.out.symm, HBW.out⟩
        · have d3 : (n != n') = true := by simpa using e3
          have HE := Lib.hid (show ptSame (.mk k nm n ks q) (.mk k' nm' n' ks' q') = false by rw [HS.out, show (n == n') = false by simpa using e3]; simp)
          clear e1 e2 e3 d2'
          go_enter Try.func19, Try.ntmps19
          go_wp2_with fail
          rw [HW.out]
          go_ret
          exact ⟨ret_bool HE.out.symm, HBW.out⟩
      · have d2 := nm_other e2
        have HE := Lib.hid (show ptSame (.mk k nm n ks q) (.mk k' nm' n' ks' q') = false by rw [HS.out, show (nm.data.toList == nm'.data.toList) = false by simpa using e2]; simp)
        clear e1 e2
        go_enter Try.func19, Try.ntmps19
        go_wp2_with fail
        rw [HW.out]
        go_ret
        exact ⟨ret_bool HE.out.symm, HBW.out⟩
    · have d1 : (k != k') = true := by simpa using e1
      have HE := Lib.hid (show ptSame (.mk k nm n ks q) (.mk k' nm' n' ks' q') = false by rw [HS.out, show (k == k') = false by simpa using e1]; simp)
      clear e1
      go_enter Try.func19, Try.ntmps19
      go_wp2_with fail
      rw [HW.out]
      go_ret
      exact ⟨ret_bool HE.out.symm, HBW.out⟩

end Go.Proofs.Ytglamoiimmahgaa
