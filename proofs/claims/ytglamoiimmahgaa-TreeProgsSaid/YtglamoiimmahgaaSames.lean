/- Equality of expressions, but for places; plain, and the document's equality of binds. -/
import Derived.Test.YtglamoiimmahgaaPats
import Derived.Test.YtglamoiimmahgaaParts
namespace Go.Proofs.Ytglamoiimmahgaa
open Go.RowKit
set_option linter.unusedVariables false
set_option maxRecDepth 100000

mutual
/-- Equality of expressions, but for places. -/
def exSame : Ex → Ex → Bool
  | .mk k nm n t ks als bs _, .mk k' nm' n' t' ks' als' bs' _ =>
    k == k' && (nm.data.toList == nm'.data.toList && (n == n' && (tySame t t' && (ks.length == ks'.length && (als.length == als'.length && ((bs.length == bs'.length && bdsSame bs bs') && (exsSame ks ks' && alsSame als als')))))))
def exsSame : List Ex → List Ex → Bool
  | [], _ => true
  | t :: ts, [] => true
  | t :: ts, u :: us => exSame t u && exsSame ts us
def alSame : Al → Al → Bool
  | .mk p e, .mk p' e' => ptSame p p' && exSame e e'
def alsSame : List Al → List Al → Bool
  | [], _ => true
  | t :: ts, [] => true
  | t :: ts, u :: us => alSame t u && alsSame ts us
def bdSame : Bd → Bd → Bool
  | .mk nm e _, .mk nm' e' _ => nm.data.toList == nm'.data.toList && exSame e e'
def bdsSame : List Bd → List Bd → Bool
  | [], _ => true
  | t :: ts, [] => true
  | t :: ts, u :: us => bdSame t u && bdsSame ts us
end
theorem exs_yes : ∀ (xs ys : List Ex), xs.length = ys.length → (∀ j (h1 : j < xs.length) (h2 : j < ys.length), exSame xs[j] ys[j] = true) → exsSame xs ys = true
  | [], _, _, _ => by simp [exsSame]
  | a :: xs, [], h, _ => by simp at h
  | a :: xs, b :: ys, h, hj => by
    unfold exsSame
    rw [show exSame a b = true from hj 0 (by simp) (by simp), exs_yes xs ys (by simpa using h) (fun j h1 h2 => hj (j + 1) (by simp; omega) (by simp; omega))]
    rfl
theorem exs_no : ∀ (xs ys : List Ex), xs.length = ys.length → ∀ k (h1 : k < xs.length) (h2 : k < ys.length), exSame xs[k] ys[k] = false → exsSame xs ys = false
  | [], _, _, k, h1, _, _ => by simp at h1
  | a :: xs, [], h, _, _, h2, _ => by simp at h2
  | a :: xs, b :: ys, h, 0, h1, h2, hk => by
    unfold exsSame
    rw [show exSame a b = false from hk]; rfl
  | a :: xs, b :: ys, h, k + 1, h1, h2, hk => by
    unfold exsSame
    rw [exs_no xs ys (by simpa using h) k (by simpa using h1) (by simpa using h2) (by simpa using hk)]
    simp
theorem als_yes : ∀ (xs ys : List Al), xs.length = ys.length → (∀ j (h1 : j < xs.length) (h2 : j < ys.length), alSame xs[j] ys[j] = true) → alsSame xs ys = true
  | [], _, _, _ => by simp [alsSame]
  | a :: xs, [], h, _ => by simp at h
  | a :: xs, b :: ys, h, hj => by
    unfold alsSame
    rw [show alSame a b = true from hj 0 (by simp) (by simp), als_yes xs ys (by simpa using h) (fun j h1 h2 => hj (j + 1) (by simp; omega) (by simp; omega))]
    rfl
theorem als_no : ∀ (xs ys : List Al), xs.length = ys.length → ∀ k (h1 : k < xs.length) (h2 : k < ys.length), alSame xs[k] ys[k] = false → alsSame xs ys = false
  | [], _, _, k, h1, _, _ => by simp at h1
  | a :: xs, [], h, _, _, h2, _ => by simp at h2
  | a :: xs, b :: ys, h, 0, h1, h2, hk => by
    unfold alsSame
    rw [show alSame a b = false from hk]; rfl
  | a :: xs, b :: ys, h, k + 1, h1, h2, hk => by
    unfold alsSame
    rw [als_no xs ys (by simpa using h) k (by simpa using h1) (by simpa using h2) (by simpa using hk)]
    simp
theorem bds_yes : ∀ (xs ys : List Bd), xs.length = ys.length → (∀ j (h1 : j < xs.length) (h2 : j < ys.length), bdSame xs[j] ys[j] = true) → bdsSame xs ys = true
  | [], _, _, _ => by simp [bdsSame]
  | a :: xs, [], h, _ => by simp at h
  | a :: xs, b :: ys, h, hj => by
    unfold bdsSame
    rw [show bdSame a b = true from hj 0 (by simp) (by simp), bds_yes xs ys (by simpa using h) (fun j h1 h2 => hj (j + 1) (by simp; omega) (by simp; omega))]
    rfl
theorem bds_no : ∀ (xs ys : List Bd), xs.length = ys.length → ∀ k (h1 : k < xs.length) (h2 : k < ys.length), bdSame xs[k] ys[k] = false → bdsSame xs ys = false
  | [], _, _, k, h1, _, _ => by simp at h1
  | a :: xs, [], h, _, _, h2, _ => by simp at h2
  | a :: xs, b :: ys, h, 0, h1, h2, hk => by
    unfold bdsSame
    rw [show bdSame a b = false from hk]; rfl
  | a :: xs, b :: ys, h, k + 1, h1, h2, hk => by
    unfold bdsSame
    rw [bds_no xs ys (by simpa using h) k (by simpa using h1) (by simpa using h2) (by simpa using hk)]
    simp

/-- A row of binds. -/
structure BdsAt (w : World) (B : Nat) (A : Option Addr) (bs : List Bd) (L : List (List Value)) : Prop where
  row : Row w B 13 A bs.length L
  each : ∀ i (h1 : i < L.length) (h2 : i < bs.length), BdAt w B L[i] bs[i]
theorem BdsAt.later {w w' : World} {B : Nat} {A : Option Addr} {ks : List Bd} {L : List (List Value)} (h : BdsAt w B A ks L) (hb : Below B w w') : BdsAt w' B A ks L :=
  ⟨h.row.keep fun _ hp => hb.cell hp, fun i h1 h2 => (h.each i h1 h2).later hb⟩

set_option maxRecDepth 100000 in
set_option maxHeartbeats 3200000 in
theorem rsamebinds_any (xs ys : List Bd) (A A' : Option Addr) (L L' : List (List Value)) (c c' B : Nat) (w : World) (hB : B ≤ w.heap.size) (ha : BdsAt w B A xs L) (hb : BdsAt w B A' ys L') (hla : xs.length ≤ 9223372036854775807)
    (ih : ∀ b ∈ xs, ∀ (u : Ex) (w : World) (cs ds : List Value), B ≤ w.heap.size → ExAt w B cs b.exp → ExAt w B ds u → Calls Try.prog 15 #[.agg cs.toArray, .agg ds.toArray] w fun e w' => e = .returned (.bool (exSame b.exp u)) ∧ Below w.heap.size w w') :
    Calls Try.prog 39 #[.slice A xs.length c, .slice A' ys.length c'] w fun e w' => e = .returned (.bool (xs.length == ys.length && bdsSame xs ys)) ∧ Below w.heap.size w w' := by
  obtain ⟨n, hn⟩ : ∃ n, xs.length = n := ⟨_, rfl⟩
  obtain ⟨m, hm⟩ : ∃ m, ys.length = m := ⟨_, rfl⟩
  by_cases hnm : n = m
  · subst hnm
    rw [hn, hm]
    have HN := Lib.hid hn
    have HM := Lib.hid hm
    have HIH := Lib.hid ih
    have HA := Lib.hid ha
    have HBB := Lib.hid hb
    have hn63 : n ≤ 9223372036854775807 := by rw [← hn]; exact hla
    clear hn hm ih ha hb hla
    go_enter Try.func39, Try.ntmps39
    go_wp2_with fail
    go_loopw [5] (fun i wr => ∃ k : Nat, i = .int .i64 k ∧ k ≤ n ∧ (∀ j (h1 : j < xs.length) (h2 : j < ys.length), j < k → bdSame xs[j] ys[j] = true) ∧ Below w.heap.size w wr) (fun i _ => n - (intOf i).toNat)
    case atStart => exact ⟨0, rfl, Nat.zero_le _, fun j _ _ h => by omega, Below.refl _ _⟩
    case round =>
      obtain ⟨k, rfl, hk, hall, hbel⟩ := hrel
      have HALL := Lib.hid hall
      have HBE := Lib.hid hbel
      clear hall hbel
      by_cases hlt : k < n
      · have hkx : k < xs.length := by rw [HN.out]; exact hlt
        have hky : k < ys.length := by rw [HM.out]; exact hlt
        have hX := HA.out.later (HBE.out.mono hB)
        have hY := HBB.out.later (HBE.out.mono hB)
        have hlx : k < L.length := by rw [hX.row.len]; exact hkx
        have hly : k < L'.length := by rw [hY.row.len]; exact hky
        obtain ⟨g, o, c0, c1, c2, c3, c4, c5, c6, c7, c8, c9, c10, nm1, e1, q1, rfl, hg, hb1, _, u0, _, he1, k0, k1, k2, k3, k4, k5, k6, k7, k8, k9, k10⟩ := bd_cells hX.row hkx hlx (hX.each k hlx hkx)
        obtain ⟨g', o', d0, d1, d2, d3, d4, d5, d6, d7, d8, d9, d10, nm2, e2, q2, rfl, hg', hb2', _, v0, _, he2, j0, j1, j2, j3, j4, j5, j6, j7, j8, j9, j10⟩ := bd_cells hY.row hky hly (hY.each k hly hky)
        have hBd : B ≤ wr.drew.heap.size := Nat.le_trans hB HBE.out.size
        have hex : xs[k].exp = e1 := by rw [hb1]; rfl
        have C1 := HIH.out xs[k] (List.getElem_mem hkx) e2 wr.drew [c0, c1, c2, c3, c4, c5, c6, c7, c8, c9, c10] [d0, d1, d2, d3, d4, d5, d6, d7, d8, d9, d10] hBd (by rw [hex]; exact he1.keep fun _ _ => rfl) (he2.keep fun _ _ => rfl)
        rw [hex] at C1
        have hsm : bdSame xs[k] ys[k] = (nm1.data.toList == nm2.data.toList && exSame e1 e2) := by rw [hb1, hb2']; unfold bdSame; rfl
        have HSM := Lib.hid hsm
        obtain ⟨v, hv⟩ : ∃ v, exSame e1 e2 = v := ⟨_, rfl⟩
        rw [hv] at C1
        have HC1 := Lib.hid C1
        have HV := Lib.hid hv
        clear hX hY he1 he2 C1 hv hBd hex hb1 hb2' hsm
        by_cases enm : nm1.data.toList = nm2.data.toList
        · have dn := nm_same enm
          have HNM := Lib.hid (show (nm1.data.toList == nm2.data.toList) = true by simpa using enm)
          clear enm
          cases v with
          | true =>
            go_wp2_with fail
            go_still_tail 22, (by kernel_rfl)
            change wpList _ _ _ _ _ wr.drew
            go_wp2_with (go_at_call 15; (with_reducible refine HC1.out.mono ?_); rintro e w2 ⟨rfl, hb2⟩)
            go_roundw
            case rel => exact ⟨k + 1, by go_num, by omega, fun j h1 h2 h3 => by
              rcases Nat.lt_or_ge j k with h | h
              · exact HALL.out j h1 h2 h
              · have : j = k := by omega
                subst this; rw [HSM.out, HNM.out, HV.out]; rfl, HBE.out.drew.trans (hb2.mono HBE.out.size)⟩
            case measure => simp [intOf]; omega
          | false =>
            have HF := Lib.hid (bds_no xs ys (by rw [HN.out, HM.out]) k hkx hky (by rw [HSM.out, HNM.out, HV.out]; rfl))
            go_wp2_with fail
            go_still_tail 22, (by kernel_rfl)
            change wpList _ _ _ _ _ wr.drew
            go_wp2_with (go_at_call 15; (with_reducible refine HC1.out.mono ?_); rintro e w2 ⟨rfl, hb2⟩)
            go_ret
            exact ⟨ret_bool (by rw [HF.out]; simp), HBE.out.drew.trans (hb2.mono HBE.out.size)⟩
        · have dn := nm_other enm
          have HF := Lib.hid (bds_no xs ys (by rw [HN.out, HM.out]) k hkx hky (by rw [HSM.out, show (nm1.data.toList == nm2.data.toList) = false by simpa using enm]; rfl))
          clear enm
          go_wp2_with fail
          go_quiet (fail)
          go_wp2_with fail
          go_ret
          exact ⟨ret_bool (by rw [HF.out]; simp), below_drewN HBE.out _⟩
      · have HT := Lib.hid (bds_yes xs ys (by rw [HN.out, HM.out]) (fun j h1 h2 => HALL.out j h1 h2 (by have := HN.out; omega)))
        go_wp2_with fail
        go_ret
        exact ⟨ret_bool (by rw [HT.out]; simp), HBE.out⟩
  · have hd : ((n : Int) != (m : Int)) = true := by simp; omega
    rw [hn, hm, show (n == m) = false by simpa using hnm]
    clear hn hm hnm ih ha hb
    go_enter Try.func39, Try.ntmps39
    go_wp2_with fail
    go_ret
    exact ⟨rfl, Below.refl _ _⟩

end Go.Proofs.Ytglamoiimmahgaa
