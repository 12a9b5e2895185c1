/- Walks: the document's equality of types. -/
import Derived.Test.YtgmcjnhaedfinaaTrees
import Derived.StillTailTactics
namespace Go.Proofs.Ytgmcjnhaedfinaa
open Go.RowKit
set_option linter.unusedVariables false
set_option maxRecDepth 100000

theorem tys_yes : ∀ (xs ys : List Ty), xs.length = ys.length → (∀ j (h1 : j < xs.length) (h2 : j < ys.length), tySame xs[j] ys[j] = true) → tysSame xs ys = true
  | [], _, _, _ => by simp [tysSame]
  | a :: xs, [], h, _ => by simp at h
  | a :: xs, b :: ys, h, hj => by
    unfold tysSame
    rw [show tySame a b = true from hj 0 (by simp) (by simp), tys_yes xs ys (by simpa using h) (fun j h1 h2 => hj (j + 1) (by simp; omega) (by simp; omega))]
    rfl
theorem tys_no : ∀ (xs ys : List Ty), xs.length = ys.length → ∀ k (h1 : k < xs.length) (h2 : k < ys.length), tySame xs[k] ys[k] = false → tysSame xs ys = false
  | [], _, _, k, h1, _, _ => by simp at h1
  | a :: xs, [], h, _, _, h2, _ => by simp at h2
  | a :: xs, b :: ys, h, 0, h1, h2, hk => by
    unfold tysSame
    rw [show tySame a b = false from hk]; rfl
  | a :: xs, b :: ys, h, k + 1, h1, h2, hk => by
    unfold tysSame
    rw [tys_no xs ys (by simpa using h) k (by simpa using h1) (by simpa using h2) (by simpa using hk)]
    simp

/-- A row of types. -/
structure TysAt (w : World) (B : Nat) (A : Option Addr) (ks : List Ty) (L : List (List Value)) : Prop where
  row : Row w B 4 A ks.length L
  each : ∀ i (h1 : i < L.length) (h2 : i < ks.length), TyAt w B L[i] ks[i]
theorem TysAt.later {w w' : World} {B : Nat} {A : Option Addr} {ks : List Ty} {L : List (List Value)} (h : TysAt w B A ks L) (hb : Below B w w') : TysAt w' B A ks L :=
  ⟨h.row.keep fun _ hp => hb.cell hp, fun i h1 h2 => (h.each i h1 h2).later hb⟩
theorem TysAt.at_ {w : World} {B : Nat} {A : Option Addr} {ks : List Ty} {L : List (List Value)} (h : TysAt w B A ks L) {i : Nat} (hi : i < ks.length) :
    ∃ g o c0 c1 c2 c3, A = some ⟨g, o, none⟩ ∧ g < B ∧ w.cell? ⟨g, o + i * 4, none⟩ = some c0 ∧ w.cell? ⟨g, o + i * 4 + 1, none⟩ = some c1 ∧ w.cell? ⟨g, o + i * 4 + 2, none⟩ = some c2 ∧ w.cell? ⟨g, o + i * 4 + 3, none⟩ = some c3 ∧ TyAt w B [c0, c1, c2, c3] ks[i] := by
  obtain ⟨g, o, e, hb, hl, h4, hc⟩ := h.row.cells (by omega) hi
  obtain ⟨c0, c1, c2, c3, e4⟩ := four_of h4
  have ht := h.each i hl hi
  rw [e4] at ht hc
  exact ⟨g, o, c0, c1, c2, c3, e, hb, hc 0 c0 rfl, hc 1 c1 rfl, hc 2 c2 rfl, hc 3 c3 rfl, ht⟩

set_option maxHeartbeats 1600000 in
theorem rsametypes_any (xs ys : List Ty) (A A' : Option Addr) (L L' : List (List Value)) (c c' B : Nat) (w : World) (hB : B ≤ w.heap.size) (ha : TysAt w B A xs L) (hb : TysAt w B A' ys L') (hla : xs.length ≤ maxLen)
    (ih : ∀ t ∈ xs, ∀ (u : Ty) (w : World) (cs ds : List Value), B ≤ w.heap.size → TyAt w B cs t → TyAt w B ds u → Calls Try.prog 12 #[.agg cs.toArray, .agg ds.toArray] w fun e w' => e = .returned (.bool (tySame t u)) ∧ Below w.heap.size w w') :
    Calls Try.prog 10 #[.slice A xs.length c, .slice A' ys.length c'] w fun e w' => e = .returned (.bool (xs.length == ys.length && tysSame xs ys)) ∧ Below w.heap.size w w' := by
  unfold maxLen at hla
  obtain ⟨n, hn⟩ : ∃ n, xs.length = n := ⟨_, rfl⟩
  obtain ⟨m, hm⟩ : ∃ m, ys.length = m := ⟨_, rfl⟩
  by_cases hnm : n = m
  · subst hnm
    rw [hn, hm]
    have HN := Lib.hid hn
    have HM := Lib.hid hm
    have HIH := Lib.hid ih
    have HA := Lib.hid ha
    have HBB := Lib.hid hb
    have hn63 : n ≤ 9223372036854775807 := by rw [← hn]; exact hla
    clear hn hm ih ha hb hla
    go_enter Try.func10, Try.ntmps10
    go_wp2_with fail
    go_loopw [5] (fun i wr => ∃ k : Nat, i = .int .i64 k ∧ k ≤ n ∧ (∀ j (h1 : j < xs.length) (h2 : j < ys.length), j < k → tySame xs[j] ys[j] = true) ∧ Below w.heap.size w wr) (fun i _ => n - (intOf i).toNat)
    case atStart => exact ⟨0, rfl, Nat.zero_le _, fun j _ _ h => by omega, Below.refl _ _⟩
    case round =>
      obtain ⟨k, rfl, hk, hall, hbel⟩ := hrel
      have HALL := Lib.hid hall
      have HBE := Lib.hid hbel
      clear hall hbel
      by_cases hlt : k < n
      · obtain ⟨g, o, a0, a1, a2, a3, rfl, hba, ca0, ca1, ca2, ca3, hta⟩ := (HA.out.later (HBE.out.mono hB)).at_ (show k < xs.length by rw [HN.out]; exact hlt)
        obtain ⟨g', o', b0, b1, b2, b3, rfl, hbb, cb0, cb1, cb2, cb3, htb⟩ := (HBB.out.later (HBE.out.mono hB)).at_ (show k < ys.length by rw [HM.out]; exact hlt)
        have hkx : k < xs.length := by rw [HN.out]; exact hlt
        have hky : k < ys.length := by rw [HM.out]; exact hlt
        have hBd : B ≤ wr.drew.heap.size := Nat.le_trans hB HBE.out.size
        obtain ⟨u, hu⟩ : ∃ u, tySame xs[k] ys[k] = u := ⟨_, rfl⟩
        have C1 := HIH.out xs[k] (List.getElem_mem hkx) ys[k] wr.drew [a0, a1, a2, a3] [b0, b1, b2, b3] hBd (hta.keep fun _ _ => rfl) (htb.keep fun _ _ => rfl)
        rw [hu] at C1
        have HC1 := Lib.hid C1
        have HU := Lib.hid hu
        clear hta htb C1 hu hBd
        cases u with
        | true =>
          go_wp2_with fail
          go_still_tail 8, (by kernel_rfl)
          change wpList _ _ _ _ _ wr.drew
          go_wp2_with (go_at_call 12; (with_reducible refine HC1.out.mono ?_); rintro e w2 ⟨rfl, hb2⟩)
          go_roundw
          case rel => exact ⟨k + 1, by go_num, by omega, fun j h1 h2 h3 => by
            rcases Nat.lt_or_ge j k with h | h
            · exact HALL.out j h1 h2 h
            · have : j = k := by omega
              subst this; exact HU.out, HBE.out.drew.trans (hb2.mono HBE.out.size)⟩
          case measure => simp [intOf]; omega
        | false =>
          have HF := Lib.hid (tys_no xs ys (by rw [HN.out, HM.out]) k hkx hky HU.out)
          go_wp2_with fail
          go_still_tail 8, (by kernel_rfl)
          change wpList _ _ _ _ _ wr.drew
          go_wp2_with (go_at_call 12; (with_reducible refine HC1.out.mono ?_); rintro e w2 ⟨rfl, hb2⟩)
          go_ret
          exact ⟨ret_bool (by rw [HF.out]; simp), HBE.out.drew.trans (hb2.mono HBE.out.size)⟩
      · have HT := Lib.hid (tys_yes xs ys (by rw [HN.out, HM.out]) (fun j h1 h2 => HALL.out j h1 h2 (by have := HN.out; omega)))
        go_wp2_with fail
        go_ret
        exact ⟨ret_bool (by rw [HT.out]; simp), HBE.out⟩
  · have hd : ((n : Int) != (m : Int)) = true := by simp; omega
    rw [hn, hm, show (n == m) = false by simpa using hnm]
    clear hn hm hnm ih ha hb
    go_enter Try.func10, Try.ntmps10
    go_wp2_with fail
    go_ret
    exact ⟨rfl, Below.refl _ _⟩

theorem nm_same {a b : ByteArray} (h : a.data.toList = b.data.toList) : (a.toList == b.toList) = true := by rw [ByteArray.toList_eq, ByteArray.toList_eq, h]; simp
theorem nm_other {a b : ByteArray} (h : a.data.toList ≠ b.data.toList) : (a.toList == b.toList) = false := by rw [ByteArray.toList_eq, ByteArray.toList_eq]; simpa using h

set_option maxHeartbeats 1600000 in
theorem rsametype_any (N : Nat) : ∀ (t u : Ty), t.nodes ≤ N → ∀ (B : Nat) (w : World) (cs ds : List Value), B ≤ w.heap.size → TyAt w B cs t → TyAt w B ds u →
    Calls Try.prog 12 #[.agg cs.toArray, .agg ds.toArray] w fun e w' => e = .returned (.bool (tySame t u)) ∧ Below w.heap.size w w' := by
  induction N with
  | zero => intro t u h; cases t; unfold Ty.nodes at h; omega
  | succ N ih =>
    intro t u hN B w cs ds hB hx hy
    cases hx with
    | @mk k n nm A c ks L hk hs hn hc hm hbt hr hks =>
    cases hy with
    | @mk k' n' nm' A' c' ks' L' hk' hs' hn' hc' hm' hbt' hr' hks' =>
    unfold Ty.nodes at hN
    have C1 := Lib.hid (fun W (hb : Below w.heap.size w W) => rsametypes_any ks ks' A A' L L' c c' B W (Nat.le_trans hB hb.size) ((TysAt.mk hr hks).later (hb.mono hB)) ((TysAt.mk hr' hks').later (hb.mono hB)) (Nat.le_trans hc hm)
      (fun t ht u w cs ds h1 h2 h3 => ih t u (by have := tys_mem ks t ht; omega) B w cs ds h1 h2 h3))
    obtain ⟨v, hv⟩ : ∃ v, (ks.length == ks'.length && tysSame ks ks') = v := ⟨_, rfl⟩
    rw [hv] at C1
    have HS := Lib.hid (show tySame (.mk k nm n ks) (.mk k' nm' n' ks') = (k == k' && (nm.data.toList == nm'.data.toList && (n == n' && v))) by rw [← hv]; rfl)
    clear hr hks hr' hks' ih hv hc hm hc' hm' hN hbt hbt'
    have hg : Below w.heap.size w ((w.alloc (.cells #[.int .i64 k, .string nm, .int .i64 n, .slice A ks.length c] 24)).alloc (.cells #[.int .i64 k', .string nm', .int .i64 n', .slice A' ks'.length c'] 24)) := ((Below.refl _ _).alloc (Nat.le_refl _) _).alloc (by simp) _
    have HG := Lib.hid hg
    clear hg
    by_cases e1 : k = k'
    · have d1 : (k == k') = true := by simpa using e1
      by_cases e2 : nm.data.toList = nm'.data.toList
      · have d2 := nm_same e2
        have d2' : (nm.data.toList == nm'.data.toList) = true := by simpa using e2
        by_cases e3 : n = n'
        · have d3 : (n == n') = true := by simpa using e3
          have HE := Lib.hid (show tySame (.mk k nm n ks) (.mk k' nm' n' ks') = v by rw [HS.out, d1, d2', d3]; simp)
          clear e1 e2 e3 d2'
          go_enter Try.func12, Try.ntmps12
          go_wp2_with (go_at_call 10; (with_reducible refine (C1.out _ HG.out).mono ?_); rintro e w2 ⟨rfl, hb2⟩)
          go_ret
          exact ⟨ret_bool HE.out.symm, HG.out.trans (hb2.mono HG.out.size)⟩
        · have d3 : (n == n') = false := by simpa using e3
          have HE := Lib.hid (show tySame (.mk k nm n ks) (.mk k' nm' n' ks') = false by rw [HS.out, d3]; simp)
          clear e1 e2 e3 d2'
          go_enter Try.func12, Try.ntmps12
          go_wp2_with fail
          go_ret
          exact ⟨ret_bool HE.out.symm, HG.out⟩
      · have d2 := nm_other e2
        have HE := Lib.hid (show tySame (.mk k nm n ks) (.mk k' nm' n' ks') = false by rw [HS.out, show (nm.data.toList == nm'.data.toList) = false by simpa using e2]; simp)
        clear e1 e2
        go_enter Try.func12, Try.ntmps12
        go_wp2_with fail
        go_ret
        exact ⟨ret_bool HE.out.symm, HG.out⟩
    · have d1 : (k == k') = false := by simpa using e1
      have HE := Lib.hid (show tySame (.mk k nm n ks) (.mk k' nm' n' ks') = false by rw [HS.out, d1]; simp)
      clear e1
      go_enter Try.func12, Try.ntmps12
      go_wp2_with fail
      go_ret
      exact ⟨ret_bool HE.out.symm, HG.out⟩

end Go.Proofs.Ytgmcjnhaedfinaa
