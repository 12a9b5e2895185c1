/- Walks: Match's closure. -/
import Derived.Test.YtgmcjnhaedfinaaQma
import Derived.Test.YtgmcjnhaedfinaaQbb
namespace Go.Proofs.Ytgmcjnhaedfinaa
open Go.RowKit Go.Maps
set_option linter.unusedVariables false
set_option linter.unusedSimpArgs false
set_option maxRecDepth 100000

mutual
theorem matchC_len : ∀ (t s : Ty) (M M' : List (ByteArray × Ty)), matchC t s M = some M' → M'.length ≤ M.length + t.nodes
  | .mk k nm n ks, s, M, M', h => by
    unfold matchC at h
    unfold Ty.nodes
    split at h
    · split at h
      · split at h
        · injection h with h; subst h; omega
        · cases h
      · injection h with h; subst h; simp only [List.length_cons]; omega
    · split at h
      · split at h
        · have := matchD_len ks s.ks M M' h; omega
        · cases h
      · cases h
theorem matchD_len : ∀ (l m : List Ty) (M M' : List (ByteArray × Ty)), matchD l m M = some M' → M'.length ≤ M.length + tysNodes l
  | [], _, M, M', h => by unfold matchD at h; injection h with h; subst h; omega
  | _ :: _, [], M, M', h => by unfold matchD at h; injection h with h; subst h; omega
  | a :: l, b :: m, M, M', h => by
    unfold matchD at h
    unfold tysNodes
    cases hc : matchC a b M with
    | none => rw [hc] at h; cases h
    | some M1 =>
      rw [hc] at h
      have h1 := matchC_len a b M M1 hc
      have h2 := matchD_len l m M1 M' h
      omega
end
theorem matchD_cons (a b : Ty) (l m : List Ty) (M : List (ByteArray × Ty)) : matchD (a :: l) (b :: m) M = (matchC a b M).bind fun M' => matchD l m M' := by
  conv => lhs; unfold matchD
  cases matchC a b M <;> rfl
theorem matchC_hit {k n : Int} {nm : ByteArray} {ks : List Ty} {s e : Ty} {M : List (ByteArray × Ty)} (hk : k = 1) (h : lookM M nm = some e) : matchC (.mk k nm n ks) s M = if tySame e s = true then some M else none := by
  unfold matchC
  rw [if_pos hk]
  simp only [h]
theorem matchC_new {k n : Int} {nm : ByteArray} {ks : List Ty} {s : Ty} {M : List (ByteArray × Ty)} (hk : k = 1) (h : lookM M nm = none) : matchC (.mk k nm n ks) s M = some ((nm, s) :: M) := by
  unfold matchC
  rw [if_pos hk]
  simp only [h]
theorem matchC_con {k n : Int} {nm : ByteArray} {ks : List Ty} {s : Ty} {M : List (ByteArray × Ty)} (hk : ¬ k = 1) : matchC (.mk k nm n ks) s M = if topSame (.mk k nm n ks) s = true then (if ks.length = s.ks.length then matchD ks s.ks M else none) else none := by
  conv => lhs; unfold matchC
  rw [if_neg hk]
theorem lookM_mem {e : Ty} {x : ByteArray} : ∀ {M : List (ByteArray × Ty)}, lookM M x = some e → ∃ p ∈ M, p.2 = e
  | [], h => by simp [lookM] at h
  | p :: M, h => by
    unfold lookM at h
    split at h
    · injection h with h; exact ⟨p, by simp, h⟩
    · obtain ⟨p', hp', e'⟩ := lookM_mem h; exact ⟨p', by simp [hp'], e'⟩
/-- Entries that read as what has been found. -/
def PrM (W : World) (B : Nat) (P : List (Lit × List Value)) (M : List (ByteArray × Ty)) : Prop := P.length = M.length ∧ ∀ i (h1 : i < P.length) (h2 : i < M.length), P[i].1 = .string M[i].1.data.toList ∧ TyAt W B P[i].2 M[i].2
theorem fnd_lookM {W : World} {B : Nat} (x : ByteArray) : ∀ (M : List (ByteArray × Ty)) (P : List (Lit × List Value)), PrM W B P M → LookOk W B (lookM M x) (fnd P (.string x.data.toList))
  | [], P, h => by
    have : P = [] := List.eq_nil_of_length_eq_zero (by simpa using h.1)
    subst this
    simp [lookM, fnd, LookOk]
  | m :: M, [], h => by have := h.1; simp at this
  | m :: M, p :: P, h => by
    have ih := fnd_lookM x M P ⟨by simpa using h.1, fun i h1 h2 => h.2 (i + 1) (by simp; omega) (by simp; omega)⟩
    obtain ⟨e1, e2⟩ := h.2 0 (by simp) (by simp)
    have e1' : p.1 = .string m.1.data.toList := e1
    have e2' : TyAt W B p.2 m.2 := e2
    have e : (Lit.string x.data.toList).sameKey p.1 = nmEq m.1 x := by
      rw [e1']
      show (x.data.toList == m.1.data.toList) = (m.1.data.toList == x.data.toList)
      rw [Bool.eq_iff_iff, beq_iff_eq, beq_iff_eq]; exact eq_comm
    simp only [lookM, fnd, e]
    cases hn : nmEq m.1 x with
    | true =>
      simp only [if_true]
      exact ⟨p.2, rfl, e2'⟩
    | false => simpa using ih
/-- The closure's variables, and what has been found. -/
structure MSt (B vb mc mb : Nat) (W : World) (M : List (ByteArray × Ty)) : Prop where
  vis : Blk W vb 31 #[.func (.func 49) #[] #[.pointer (some ⟨vb, 0, none⟩), .pointer (some ⟨mc, 0, none⟩)]]
  seen : Blk W mc 64 #[.map (some mb)]
  map : ∃ P, PrM W B P M ∧ MapV W 9 mb P.length (fnd P)
  small : ∀ p ∈ M, p.2.nodes ≤ 4000000
theorem MSt.below {B vb mc mb : Nat} {W W' : World} {M : List (ByteArray × Ty)} (h : MSt B vb mc mb W M) (hB : B ≤ W.heap.size) (hb : Below W.heap.size W W') : MSt B vb mc mb W' M := by
  obtain ⟨P, ⟨h1, h2⟩, h3⟩ := h.map
  exact ⟨h.vis.below hb h.vis.lt, h.seen.below hb h.seen.lt, ⟨P, ⟨h1, fun i k1 k2 => ⟨(h2 i k1 k2).1, (h2 i k1 k2).2.later (hb.mono hB)⟩⟩, h3.below hb⟩, h.small⟩
/-- What the closure answers. -/
def MPost (base B vb mc mb : Nat) (r : Option (List (ByteArray × Ty))) (W : World) (e : Ending) (W' : World) : Prop := Below base W W' ∧ match r with
  | some M' => e = .returned (.bool true) ∧ MSt B vb mc mb W' M'
  | none => e = .returned (.bool false)

set_option maxHeartbeats 3200000 in
theorem eqM_any (base B vb mc mb : Nat) (hBb : B ≤ base) (hbv : base ≤ vb) (xs ys : List Ty) (A A' : Option Addr) (L L' : List (List Value)) (c c' : Nat) (w : World) (M : List (ByteArray × Ty)) (hM : M.length + tysNodes xs ≤ 8000000) (ha : TysAt w B A xs L) (hb : TysAt w B A' ys L') (hla : xs.length ≤ 4000000) (hyn : tysNodes ys ≤ 4000000) (hst : MSt B vb mc mb w M)
    (ih : ∀ t ∈ xs, ∀ (u : Ty), u.nodes ≤ 4000000 → ∀ (M : List (ByteArray × Ty)) (w : World) (cs ds : List Value), M.length + t.nodes ≤ 8000000 → TyAt w B cs t → TyAt w B ds u → MSt B vb mc mb w M →
      Calls Try.prog 49 #[.agg cs.toArray, .agg ds.toArray, .pointer (some ⟨vb, 0, none⟩), .pointer (some ⟨mc, 0, none⟩)] w (MPost base B vb mc mb (matchC t u M) w)) :
    Calls Try.prog 51 #[.slice A xs.length c, .slice A' ys.length c', .func (.func 49) #[] #[.pointer (some ⟨vb, 0, none⟩), .pointer (some ⟨mc, 0, none⟩)]] w (MPost base B vb mc mb (if xs.length = ys.length then matchD xs ys M else none) w) := by
  obtain ⟨n, hn⟩ : ∃ n, xs.length = n := ⟨_, rfl⟩
  obtain ⟨m, hm⟩ : ∃ m, ys.length = m := ⟨_, rfl⟩
  by_cases hnm : n = m
  · subst hnm
    have hr : (if xs.length = ys.length then matchD xs ys M else none) = matchD xs ys M := by rw [hn, hm, if_pos rfl]
    rw [hr, hn, hm]
    have HN := Lib.hid hn
    have HM := Lib.hid hm
    have HIH := Lib.hid ih
    have HA := Lib.hid ha
    have HBB := Lib.hid hb
    have HST := Lib.hid hst
    have HMM := Lib.hid hM
    have hn63 : n ≤ 4000000 := by rw [← hn]; exact hla
    have d0 : ((n : Int) != (n : Int)) = false := by simp
    clear hn hm ih ha hb hla hr hst hM
    go_enter Try.func51, Try.ntmps51
    go_wp2_with fail
    go_loopw [17] (fun i wr => ∃ (k : Nat) (Mk : List (ByteArray × Ty)), i = .int .i64 k ∧ k ≤ n ∧ matchD xs ys M = matchD (xs.drop k) (ys.drop k) Mk ∧ Mk.length + tysNodes (xs.drop k) ≤ 8000000 ∧ MSt B vb mc mb wr Mk ∧ Below base w wr) (fun i _ => n - (intOf i).toNat)
    case atStart => exact ⟨0, M, rfl, Nat.zero_le _, by simp, by simpa using HMM.out, HST.out, Below.refl _ _⟩
    case round =>
      obtain ⟨k, Mk, rfl, hk, hmd, hml, hsk, hbel⟩ := hrel
      have HMD := Lib.hid hmd
      have HBE := Lib.hid hbel
      have HSK := Lib.hid hsk
      have hbs : base ≤ wr.heap.size := by have := hsk.vis.lt; omega
      clear hmd hbel hsk
      by_cases hlt : k < n
      · obtain ⟨g, o, a0, a1, a2, a3, rfl, hba, ca0, ca1, ca2, ca3, hta⟩ := (HA.out.later (HBE.out.mono hBb)).at_ (show k < xs.length by rw [HN.out]; exact hlt)
        obtain ⟨g', o', b0, b1, b2, b3, rfl, hbb, cb0, cb1, cb2, cb3, htb⟩ := (HBB.out.later (HBE.out.mono hBb)).at_ (show k < ys.length by rw [HM.out]; exact hlt)
        have hkx : k < xs.length := by rw [HN.out]; exact hlt
        have hky : k < ys.length := by rw [HM.out]; exact hlt
        have oa := ty_ones hta
        have ob := ty_ones htb
        have sa0 := store_one' a0 (oa a0 (by simp))
        have sa1 := store_one' a1 (oa a1 (by simp))
        have sa2 := store_one' a2 (oa a2 (by simp))
        have sa3 := store_one' a3 (oa a3 (by simp))
        have sb0 := store_one' b0 (ob b0 (by simp))
        have sb1 := store_one' b1 (ob b1 (by simp))
        have sb2 := store_one' b2 (ob b2 (by simp))
        have sb3 := store_one' b3 (ob b3 (by simp))
        have hbW : Below wr.heap.size wr ((wr.alloc (.cells #[a0, a1, a2, a3] 24)).alloc (.cells #[b0, b1, b2, b3] 24)) := ((Below.refl _ _).alloc (Nat.le_refl _) _).alloc (by simp) _
        have hg' : g' < wr.heap.size := by omega
        have ka0 := (((Below.refl wr.heap.size wr).alloc (Nat.le_refl _) (.cells #[a0, a1, a2, a3] 24)).cell (p := ⟨g', o' + k * 4, none⟩) hg').trans cb0
        have ka1 := (((Below.refl wr.heap.size wr).alloc (Nat.le_refl _) (.cells #[a0, a1, a2, a3] 24)).cell (p := ⟨g', o' + k * 4 + 1, none⟩) hg').trans cb1
        have ka2 := (((Below.refl wr.heap.size wr).alloc (Nat.le_refl _) (.cells #[a0, a1, a2, a3] 24)).cell (p := ⟨g', o' + k * 4 + 2, none⟩) hg').trans cb2
        have ka3 := (((Below.refl wr.heap.size wr).alloc (Nat.le_refl _) (.cells #[a0, a1, a2, a3] 24)).cell (p := ⟨g', o' + k * 4 + 3, none⟩) hg').trans cb3
        rw [List.drop_eq_getElem_cons hkx] at hml
        unfold tysNodes at hml
        obtain ⟨r, hr⟩ : ∃ r, matchC xs[k] ys[k] Mk = r := ⟨_, rfl⟩
        have C1 := HIH.out xs[k] (List.getElem_mem hkx) ys[k] (by have := tys_mem ys ys[k] (List.getElem_mem hky); omega) Mk _ [a0, a1, a2, a3] [b0, b1, b2, b3] (by omega) (hta.later (hbW.mono (by omega))) (htb.later (hbW.mono (by omega))) (HSK.out.below (by omega) hbW)
        rw [hr] at C1
        have HC1 := Lib.hid C1
        have HR := Lib.hid hr
        have HMD2 := Lib.hid (show matchD xs ys M = r.bind fun M' => matchD (xs.drop (k + 1)) (ys.drop (k + 1)) M' by
          rw [HMD.out, List.drop_eq_getElem_cons hkx, List.drop_eq_getElem_cons hky, matchD_cons, HR.out])
        have HBW := Lib.hid (HBE.out.trans (hbW.mono hbs))
        clear hta htb C1 hr oa ob hbW
        cases r with
        | some M' =>
          have HLN := Lib.hid (show M'.length + tysNodes (xs.drop (k + 1)) ≤ 8000000 by have := matchC_len _ _ _ _ HR.out; omega)
          go_wp2_with (go_at_call 49; (with_reducible refine HC1.out.mono ?_); rintro e w2 ⟨hb2, rfl, hs2⟩)
          go_roundw
          case rel => exact ⟨k + 1, M', by go_num, by omega, HMD2.out, HLN.out, hs2, HBW.out.trans hb2⟩
          case measure => simp [intOf]; omega
        | none =>
          go_wp2_with (go_at_call 49; (with_reducible refine HC1.out.mono ?_); rintro e w2 ⟨hb2, rfl⟩)
          go_ret
          exact ⟨HBW.out.trans hb2, by rw [HMD2.out]; rfl⟩
      · have HT := Lib.hid (show matchD xs ys M = some Mk by rw [HMD.out, List.drop_eq_nil_of_le (by rw [HN.out]; omega)]; rfl)
        go_wp2_with fail
        go_ret
        exact ⟨HBE.out, by rw [HT.out]; exact ⟨rfl, HSK.out⟩⟩
  · have hd : ((n : Int) != (m : Int)) = true := by simp; omega
    have hr : (if xs.length = ys.length then matchD xs ys M else none) = none := by rw [hn, hm, if_neg hnm]
    rw [hr, hn, hm]
    clear hn hm hnm ih ha hb hr
    go_enter Try.func51, Try.ntmps51
    go_wp2_with fail
    go_ret
    exact ⟨Below.refl _ _, rfl⟩

set_option maxHeartbeats 6400000 in
theorem mat_any (base B vb mc mb : Nat) (hBb : B ≤ base) (hbv : base ≤ vb) (hmc : base ≤ mc) (hmb : base ≤ mb) (hne : mc ≠ mb ∧ vb ≠ mb) (N : Nat) : ∀ (t : Ty), t.nodes ≤ N → N ≤ 4000000 → ∀ (u : Ty), u.nodes ≤ 4000000 → ∀ (M : List (ByteArray × Ty)) (w : World) (cs ds : List Value), M.length + t.nodes ≤ 8000000 → TyAt w B cs t → TyAt w B ds u → MSt B vb mc mb w M →
      Calls Try.prog 49 #[.agg cs.toArray, .agg ds.toArray, .pointer (some ⟨vb, 0, none⟩), .pointer (some ⟨mc, 0, none⟩)] w (MPost base B vb mc mb (matchC t u M) w) := by
  induction N with
  | zero => intro t h; cases t; unfold Ty.nodes at h; omega
  | succ N ih =>
    intro t hN hN2 u hu9 M w cs ds hM hx hy hst
    obtain ⟨k, nm, n, A, c, ks, rfl, rfl⟩ := ty_cells hx
    obtain ⟨k', nm', n', A', c', ks', rfl, rfl⟩ := ty_cells hy
    obtain ⟨_, hk, hs, hn, hc, hm, L, htx⟩ := ty_open hx _ _ _ _ _ _ _ rfl rfl
    obtain ⟨_, hk', hs', hn', hc', hm', L', hty⟩ := ty_open hy _ _ _ _ _ _ _ rfl rfl
    unfold Ty.nodes at hN hM hu9
    have hln := tysNodes_len ks
    have hbw : base ≤ w.heap.size := by have := hst.vis.lt; omega
    obtain ⟨W1, hW1⟩ : ∃ W1, (w.alloc (.cells #[.int .i64 k, .string nm, .int .i64 n, .slice A ks.length c] 24)).alloc (.cells #[.int .i64 k', .string nm', .int .i64 n', .slice A' ks'.length c'] 24) = W1 := ⟨_, rfl⟩
    have hg : Below w.heap.size w W1 := by rw [← hW1]; exact ((Below.refl _ _).alloc (Nat.le_refl _) _).alloc (by simp) _
    have hbx : Blk W1 w.heap.size 24 #[.int .i64 k, .string nm, .int .i64 n, .slice A ks.length c] := by rw [← hW1]; exact (Blk.new _ _ _).alloc _
    have hby : Blk W1 (w.heap.size + 1) 24 #[.int .i64 k', .string nm', .int .i64 n', .slice A' ks'.length c'] := by rw [← hW1]; have := Blk.new (w.alloc (.cells #[.int .i64 k, .string nm, .int .i64 n, .slice A ks.length c] 24)) 24 #[.int .i64 k', .string nm', .int .i64 n', .slice A' ks'.length c']; simpa using this
    have hst1 := hst.below (by omega) hg
    have hx1 := hx.later (hg.mono (by omega))
    have hy1 := hy.later (hg.mono (by omega))
    obtain ⟨lx, hlx⟩ : ∃ lx, ks.length = lx := ⟨_, rfl⟩
    obtain ⟨ly, hly⟩ : ∃ ly, ks'.length = ly := ⟨_, rfl⟩
    have HW := Lib.hid hW1
    have HG := Lib.hid hg
    have HBX := Lib.hid hbx
    have HBY := Lib.hid hby
    have HST := Lib.hid hst1
    have HY := Lib.hid hy1
    have hz81 : ∀ w : World, (zeroValue 24).run Try.prog w = .ok (.agg zTy) w := fun w => Try.zeroValue24 w
    have vc := hst1.vis.cell 0
    have sc := hst1.seen.cell 0
    simp only [List.getElem?_toArray, List.getElem?_cons_succ, List.getElem?_cons_zero] at vc sc
    by_cases hk1 : k = 1
    · have d1 : (k != 1) = false := by simpa using hk1
      obtain ⟨P, hPM, hmap⟩ := hst1.map
      have hlk := hmap.look keyed_str Try.underlying64 (hz81 W1) (key_str hs)
      have hLO := fnd_lookM nm M P hPM
      have HMP := Lib.hid hmap
      have HPM := Lib.hid hPM
      have HS9 := Lib.hid hs
      have hPn : P.length < maxLen := by have := hPM.1; unfold maxLen; omega
      have x0 := HBX.out.cell 0
      have x1 := HBX.out.cell 1
      have x2 := HBX.out.cell 2
      have x3 := HBX.out.cell 3
      simp only [zTy, List.getElem?_toArray, List.getElem?_cons_succ, List.getElem?_cons_zero] at x0 x1 x2 x3
      have y0 := HBY.out.cell 0
      have y1 := HBY.out.cell 1
      have y2 := HBY.out.cell 2
      have y3 := HBY.out.cell 3
      simp only [zTy, List.getElem?_toArray, List.getElem?_cons_succ, List.getElem?_cons_zero] at y0 y1 y2 y3
      rw [hlx] at HW HBX x3 ⊢
      rw [hly] at HW HBY HY y3 ⊢
      cases hr : lookM M nm with
      | some e =>
        rw [hr] at hLO
        obtain ⟨es, hf, he⟩ := hLO
        obtain ⟨d0, d1', d2, d3, rfl⟩ := four_of he.four
        rw [hf] at hlk
        have oo := ty_ones he
        have sd0 := store_one' d0 (oo d0 (by simp))
        have sd1' := store_one' d1' (oo d1' (by simp))
        have sd2 := store_one' d2 (oo d2 (by simp))
        have sd3 := store_one' d3 (oo d3 (by simp))
        obtain ⟨p, hp, hpe⟩ := lookM_mem hr
        have hen : e.nodes ≤ 4000000 := by rw [← hpe]; exact hst1.small p hp
        have HEQ := Lib.hid (matchC_hit (n := n) (ks := ks) (s := .mk k' nm' n' ks') hk1 hr)
        have hal := (Below.refl W1.heap.size W1).alloc (Nat.le_refl _) (.cells #[d0, d1', d2, d3] 24)
        have CS := Lib.hid (same_any e.nodes e (.mk k' nm' n' ks') (Nat.le_refl _) hen B _ [d0, d1', d2, d3] _ (by have := hg.size; have := hal.size; omega) (he.later (hal.mono (by have := hg.size; omega))) (HY.out.later (hal.mono (by have := hg.size; omega))))
        have HAL := Lib.hid hal
        have hBYa := HBY.out.alloc (.cells #[d0, d1', d2, d3] 24)
        have ya0 := hBYa.cell 0
        have ya1 := hBYa.cell 1
        have ya2 := hBYa.cell 2
        have ya3 := hBYa.cell 3
        simp only [zTy, List.getElem?_toArray, List.getElem?_cons_succ, List.getElem?_cons_zero] at ya0 ya1 ya2 ya3
        have hstA := HST.out.below (by have := hg.size; omega) hal
        have HSTA := Lib.hid hstA
        clear hx hy htx hty hW1 hg hbx hby ih hN hc hm hc' hm' hlx hly hk hs hn hk' hs' hn' hln hN2 hst hst1 hx1 hy1 hPM hmap hf he oo hr hp hpe hal hBYa hstA hk1
        go_enter Try.func49, Try.ntmps49
        go_upto_region 1 with fail
        rw [HW.out]
        go_wp2_with (go_at_call 52; (with_reducible refine CS.out.mono ?_); rintro e9 w2 ⟨rfl, hb2⟩)
        have hgz := HG.out.size
        have HFB := Lib.hid ((HG.out.mono hbw).trans ((HAL.out.mono (by omega)).trans (hb2.mono (by have := HAL.out.size; omega))))
        have HFS := Lib.hid (HSTA.out.below (by have := HAL.out.size; omega) hb2)
        go_ret
        refine ⟨HFB.out, ?_⟩
        rw [HEQ.out]
        cases tySame e (.mk k' nm' n' ks') with
        | true => exact ⟨rfl, HFS.out⟩
        | false => rfl
      | none =>
        rw [hr] at hLO
        have hLO' : fnd P (.string nm.data.toList) = none := hLO
        rw [hLO'] at hlk
        have HEQ := Lib.hid (matchC_new (n := n) (ks := ks) (s := .mk k' nm' n' ks') hk1 hr)
        have hal := (Below.refl W1.heap.size W1).alloc (Nat.le_refl _) (.cells zTy 24)
        have hBXa := HBX.out.alloc (.cells zTy 24)
        have hBYa := HBY.out.alloc (.cells zTy 24)
        have xa0 := hBXa.cell 0
        have xa1 := hBXa.cell 1
        have xa2 := hBXa.cell 2
        have xa3 := hBXa.cell 3
        simp only [zTy, List.getElem?_toArray, List.getElem?_cons_succ, List.getElem?_cons_zero] at xa0 xa1 xa2 xa3
        have ya0 := hBYa.cell 0
        have ya1 := hBYa.cell 1
        have ya2 := hBYa.cell 2
        have ya3 := hBYa.cell 3
        simp only [zTy, List.getElem?_toArray, List.getElem?_cons_succ, List.getElem?_cons_zero] at ya0 ya1 ya2 ya3
        have hstA := HST.out.below (by have := hg.size; omega) hal
        have sca := hstA.seen.cell 0
        simp only [List.getElem?_toArray, List.getElem?_cons_succ, List.getElem?_cons_zero] at sca
        have hmapA := HMP.out.below hal
        have HMA := Lib.hid hmapA
        have HSTA := Lib.hid hstA
        have HAL := Lib.hid hal
        have hPMA : PrM (W1.alloc (.cells zTy 24)) B P M := ⟨HPM.out.1, fun i h1 h2 => ⟨(HPM.out.2 i h1 h2).1, (HPM.out.2 i h1 h2).2.later (hal.mono (by have := hg.size; omega))⟩⟩
        have HPA := Lib.hid hPMA
        have HYA := Lib.hid (HY.out.later (hal.mono (show B ≤ W1.heap.size by have := hg.size; omega)))
        have HU9 := Lib.hid (show (Ty.mk k' nm' n' ks').nodes ≤ 4000000 by unfold Ty.nodes; omega)
        clear hx hy htx hty hW1 hg hbx hby ih hN hc hm hc' hm' hlx hly hk hs hn hk' hs' hn' hln hN2 hst hst1 hx1 hy1 hPM hmap hr hal hBXa hBYa hstA hk1 hLO hLO' hPMA hmapA hu9
        go_enter Try.func49, Try.ntmps49
        go_upto_region 1 with fail
        rw [HW.out]
        unfold zTy at HMA HSTA HAL HPA HYA
        go_wp2_with (at_mapUpdate; refine wpList_mapPut rfl (.tmp 34) (.tmp 36) (.tmp 37) 64 rfl HMA.out hPn keyed_str Try.underlying64 rfl (.string nm) (.agg #[.int .i64 k', .string nm', .int .i64 n', .slice A' ly c']) (.string nm.data.toList) rfl rfl (key_str HS9.out) (lit_str _) ?_)
        intro w3 hm3 hg3
        have hgz := HG.out.size
        have hb3 : Below base w w3 := ((HG.out.mono hbw).trans (HAL.out.mono (by omega))).grown hg3 (by have := HAL.out.size; omega) (fun k hk => by injection hk with hk; omega)
        have hbB : Below B (W1.alloc (.cells #[.int .i64 0, .string ⟨#[]⟩, .int .i64 0, .slice none 0 0] 24)) w3 := (Below.refl _ _).grown hg3 (by have := HAL.out.size; omega) (fun k hk => by injection hk with hk; omega)
        have HFS := Lib.hid (show MSt B vb mc mb w3 ((nm, .mk k' nm' n' ks') :: M) from ⟨HSTA.out.vis.grown hg3 (by intro e; injection e with e; exact hne.2 e), HSTA.out.seen.grown hg3 (by intro e; injection e with e; exact hne.1 e),
          ⟨(.string nm.data.toList, [.int .i64 k', .string nm', .int .i64 n', .slice A' ly c']) :: P, ⟨by simp [HPA.out.1], fun i h1 h2 => by
            cases i with
            | zero => exact ⟨rfl, HYA.out.later hbB⟩
            | succ i => exact ⟨(HPA.out.2 i (by simpa using h1) (by simpa using h2)).1, (HPA.out.2 i (by simpa using h1) (by simpa using h2)).2.later hbB⟩⟩, by rw [← fnd_put]; exact hm3⟩,
          fun p hp => by
            rcases List.mem_cons.1 hp with rfl | hp
            · exact HU9.out
            · exact HSTA.out.small p hp⟩)
        have HFB := Lib.hid hb3
        clear hm3 hg3 hb3 hbB
        go_wp2_with fail
        go_ret
        exact ⟨HFB.out, by rw [HEQ.out]; exact ⟨rfl, HFS.out⟩⟩
    · have d1 : (k != 1) = true := by simpa using hk1
      have HEQ := Lib.hid (matchC_con (n := n) (nm := nm) (ks := ks) (s := .mk k' nm' n' ks') (M := M) hk1)
      have CT := Lib.hid (top_any _ _ _ _ B W1 hx1 hy1)
      obtain ⟨tp, htp⟩ : ∃ tp, topSame (.mk k nm n ks) (.mk k' nm' n' ks') = tp := ⟨_, rfl⟩
      rw [htp] at CT HEQ
      have CE := Lib.hid (fun W' (hb : Below W1.heap.size W1 W') => eqM_any base B vb mc mb hBb hbv ks ks' A A' L L' c c' W' M (by omega) (htx.later ((hg.trans (hb.mono hg.size)).mono (by omega))) (hty.later ((hg.trans (hb.mono hg.size)).mono (by omega))) (by omega) (by omega) (hst1.below (by have := hg.size; omega) hb)
        (fun t ht u hu M w cs ds h1 h2 h3 h4 => ih t (by have := tys_mem ks t ht; omega) (by omega) u hu M w cs ds h1 h2 h3 h4))
      have HSV := Lib.hid hst1.vis
      have x0 := HBX.out.cell 0
      have x1 := HBX.out.cell 1
      have x2 := HBX.out.cell 2
      have x3 := HBX.out.cell 3
      simp only [zTy, List.getElem?_toArray, List.getElem?_cons_succ, List.getElem?_cons_zero] at x0 x1 x2 x3
      have y0 := HBY.out.cell 0
      have y1 := HBY.out.cell 1
      have y2 := HBY.out.cell 2
      have y3 := HBY.out.cell 3
      simp only [zTy, List.getElem?_toArray, List.getElem?_cons_succ, List.getElem?_cons_zero] at y0 y1 y2 y3
      rw [hlx] at CE HW HBX CT x3 ⊢
      rw [hly] at CE HW HBY CT y3 ⊢
      rw [hlx] at HEQ
      have HLY := Lib.hid hly
      clear hx hy htx hty hW1 hg hbx hby ih hN hc hm hc' hm' hlx hly hk hs hn hk' hs' hn' hln hN2 hst hst1 hx1 hy1 htp hk1
      cases tp with
      | true =>
        go_enter Try.func49, Try.ntmps49
        go_upto_region 1 with fail
        rw [HW.out]
        go_wp2_with (first | (go_at_call 50; (with_reducible refine CT.out.mono ?_); rintro e w2 ⟨rfl, hb2⟩; (have hB2 := HBX.out.below hb2 HBX.out.lt); (have z0 := hB2.cell 0); (have z1 := hB2.cell 1); (have z2 := hB2.cell 2); (have z3 := hB2.cell 3); (simp only [zTy, List.getElem?_toArray, List.getElem?_cons_succ, List.getElem?_cons_zero] at z0 z1 z2 z3); (have hC2 := HBY.out.below hb2 HBY.out.lt); (have u0 := hC2.cell 0); (have u1 := hC2.cell 1); (have u2 := hC2.cell 2); (have u3 := hC2.cell 3); (simp only [zTy, List.getElem?_toArray, List.getElem?_cons_succ, List.getElem?_cons_zero] at u0 u1 u2 u3); (have vc2 := (HSV.out.below hb2 HSV.out.lt).cell 0); (simp only [List.getElem?_toArray, List.getElem?_cons_succ, List.getElem?_cons_zero] at vc2); (have CE2 := Lib.hid (CE.out w2 hb2)); (obtain ⟨R, hR⟩ : ∃ R, (if lx = ly then matchD ks ks' M else none) = R := ⟨_, rfl⟩); (rw [hR] at CE2); (have HRR := Lib.hid hR); clear hR) | (go_at_call 51; (with_reducible refine CE2.out.mono ?_); rintro e w3 hpost; (obtain ⟨bv, hbv2⟩ : ∃ bv : Bool, e = .returned (.bool bv) := by cases R with | some M' => exact ⟨true, hpost.2.1⟩ | none => exact ⟨false, hpost.2⟩); (subst hbv2); (have HPO := Lib.hid hpost); clear hpost))
        have hgz := HG.out.size
        go_ret
        have hres : matchC (.mk k nm n ks) (.mk k' nm' n' ks') M = R := by
          have h1 := HEQ.out
          have hly' : (Ty.mk k' nm' n' ks').ks.length = ly := HLY.out
          simp only [if_true, hly'] at h1
          exact h1.trans HRR.out
        rw [hres]
        refine ⟨(HG.out.mono hbw).trans ((hb2.mono (by omega)).trans HPO.out.1), ?_⟩
        exact HPO.out.2
      | false =>
        go_enter Try.func49, Try.ntmps49
        go_upto_region 1 with fail
        rw [HW.out]
        go_wp2_with (go_at_call 50; (with_reducible refine CT.out.mono ?_); rintro e w2 ⟨rfl, hb2⟩)
        have hgz := HG.out.size
        go_ret
        exact ⟨(HG.out.mono hbw).trans (hb2.mono (by omega)), by rw [HEQ.out]; rfl⟩

end Go.Proofs.Ytgmcjnhaedfinaa
