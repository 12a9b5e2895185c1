/- Plain: the program's match, the newest entry first. Walks: sameTop, same, EqualFunc over same. -/
import Derived.Test.YtgmcjnhaedfinaaQco
namespace Go.Proofs.Ytgmcjnhaedfinaa
open Go.RowKit Go.Maps
set_option linter.unusedVariables false
set_option linter.unusedSimpArgs false
set_option maxRecDepth 100000

def topSame (t u : Ty) : Bool := t.k == u.k && (nmEq t.nm u.nm && t.n == u.n)
theorem tySame_top (t u : Ty) : tySame t u = (topSame t u && (t.ks.length == u.ks.length && tysSame t.ks u.ks)) := by
  cases t; cases u
  unfold tySame topSame
  simp only [Ty.k, Ty.nm, Ty.n, Ty.ks, nmEq]
  rename_i a b c d e f g h
  cases a == e <;> cases b.data.toList == f.data.toList <;> cases c == g <;> simp
mutual
/-- The program's match: what has been found, and more, the newest first. -/
def matchC : Ty → Ty → List (ByteArray × Ty) → Option (List (ByteArray × Ty))
  | .mk k nm n ks, s, M => if k = 1 then (match lookM M nm with
      | some e => if tySame e s then some M else none
      | none => some ((nm, s) :: M))
    else if topSame (.mk k nm n ks) s then (if ks.length = s.ks.length then matchD ks s.ks M else none) else none
def matchD : List Ty → List Ty → List (ByteArray × Ty) → Option (List (ByteArray × Ty))
  | [], _, M => some M
  | _ :: _, [], M => some M
  | a :: l, b :: m, M => match matchC a b M with
    | some M' => matchD l m M'
    | none => none
end
set_option maxHeartbeats 1600000 in
theorem top_any (t u : Ty) (cs ds : List Value) (B : Nat) (w : World) (hx : TyAt w B cs t) (hy : TyAt w B ds u) :
    Calls Try.prog 50 #[.agg cs.toArray, .agg ds.toArray] w fun e w' => e = .returned (.bool (topSame t u)) ∧ Below w.heap.size w w' := by
  obtain ⟨k, nm, n, A, c, ks, rfl, rfl⟩ := ty_cells hx
  obtain ⟨k', nm', n', A', c', ks', rfl, rfl⟩ := ty_cells hy
  have HG := Lib.hid (show Below w.heap.size w ((w.alloc (.cells #[.int .i64 k, .string nm, .int .i64 n, .slice A ks.length c] 24)).alloc (.cells #[.int .i64 k', .string nm', .int .i64 n', .slice A' ks'.length c'] 24)) from ((Below.refl _ _).alloc (Nat.le_refl _) _).alloc (by simp) _)
  clear hx hy
  by_cases e1 : k = k'
  · have d1 : (k == k') = true := by simpa using e1
    cases e2 : nmEq nm nm' with
    | true =>
      have d2 := nm_yes e2
      by_cases e3 : n = n'
      · have d3 : (n == n') = true := by simpa using e3
        have HE := Lib.hid (show topSame (.mk k nm n ks) (.mk k' nm' n' ks') = true by simp [topSame, Ty.k, Ty.nm, Ty.n, e1, e2, e3])
        clear e1 e2 e3
        go_enter Try.func50, Try.ntmps50
        go_wp2_with fail
        go_ret
        exact ⟨ret_bool HE.out.symm, HG.out⟩
      · have d3 : (n == n') = false := by simpa using e3
        have HE := Lib.hid (show topSame (.mk k nm n ks) (.mk k' nm' n' ks') = false by simp [topSame, Ty.k, Ty.nm, Ty.n, e3])
        clear e1 e2 e3
        go_enter Try.func50, Try.ntmps50
        go_wp2_with fail
        go_ret
        exact ⟨ret_bool HE.out.symm, HG.out⟩
    | false =>
      have d2 := nm_no e2
      have HE := Lib.hid (show topSame (.mk k nm n ks) (.mk k' nm' n' ks') = false by simp [topSame, Ty.k, Ty.nm, Ty.n, e2])
      clear e1 e2
      go_enter Try.func50, Try.ntmps50
      go_wp2_with fail
      go_ret
      exact ⟨ret_bool HE.out.symm, HG.out⟩
  · have d1 : (k == k') = false := by simpa using e1
    have HE := Lib.hid (show topSame (.mk k nm n ks) (.mk k' nm' n' ks') = false by simp [topSame, Ty.k, e1])
    clear e1
    go_enter Try.func50, Try.ntmps50
    go_wp2_with fail
    go_ret
    exact ⟨ret_bool HE.out.symm, HG.out⟩

set_option maxHeartbeats 3200000 in
theorem eqS_any (xs ys : List Ty) (A A' : Option Addr) (L L' : List (List Value)) (c c' B : Nat) (w : World) (hB : B ≤ w.heap.size) (ha : TysAt w B A xs L) (hb : TysAt w B A' ys L') (hla : xs.length ≤ 4000000) (hlb : ys.length ≤ maxLen)
    (ih : ∀ t ∈ xs, ∀ (u : Ty) (w : World) (cs ds : List Value), B ≤ w.heap.size → TyAt w B cs t → TyAt w B ds u → Calls Try.prog 52 #[.agg cs.toArray, .agg ds.toArray] w fun e w' => e = .returned (.bool (tySame t u)) ∧ Below w.heap.size w w') :
    Calls Try.prog 51 #[.slice A xs.length c, .slice A' ys.length c', .func (.func 52) #[] #[]] w fun e w' => e = .returned (.bool (xs.length == ys.length && tysSame xs ys)) ∧ Below w.heap.size w w' := by
  obtain ⟨n, hn⟩ : ∃ n, xs.length = n := ⟨_, rfl⟩
  obtain ⟨m, hm⟩ : ∃ m, ys.length = m := ⟨_, rfl⟩
  by_cases hnm : n = m
  · subst hnm
    rw [hn, hm]
    have HN := Lib.hid hn
    have HM := Lib.hid hm
    have HIH := Lib.hid ih
    have HA := Lib.hid ha
    have HBB := Lib.hid hb
    have hn63 : n ≤ 4000000 := by rw [← hn]; exact hla
    have d0 : ((n : Int) != (n : Int)) = false := by simp
    clear hn hm ih ha hb hla hlb
    go_enter Try.func51, Try.ntmps51
    go_wp2_with fail
    go_loopw [17] (fun i wr => ∃ k : Nat, i = .int .i64 k ∧ k ≤ n ∧ (∀ j (h1 : j < xs.length) (h2 : j < ys.length), j < k → tySame xs[j] ys[j] = true) ∧ Below w.heap.size w wr) (fun i _ => n - (intOf i).toNat)
    case atStart => exact ⟨0, rfl, Nat.zero_le _, fun j _ _ h => by omega, Below.refl _ _⟩
    case round =>
      obtain ⟨k, rfl, hk, hall, hbel⟩ := hrel
      have HALL := Lib.hid hall
      have HBE := Lib.hid hbel
      have hzr := hbel.size
      clear hall hbel
      by_cases hlt : k < n
      · obtain ⟨g, o, a0, a1, a2, a3, rfl, hba, ca0, ca1, ca2, ca3, hta⟩ := (HA.out.later (HBE.out.mono hB)).at_ (show k < xs.length by rw [HN.out]; exact hlt)
        obtain ⟨g', o', b0, b1, b2, b3, rfl, hbb, cb0, cb1, cb2, cb3, htb⟩ := (HBB.out.later (HBE.out.mono hB)).at_ (show k < ys.length by rw [HM.out]; exact hlt)
        have hkx : k < xs.length := by rw [HN.out]; exact hlt
        have hky : k < ys.length := by rw [HM.out]; exact hlt
        have oa := ty_ones hta
        have ob := ty_ones htb
        have sa0 := store_one' a0 (oa a0 (by simp))
        have sa1 := store_one' a1 (oa a1 (by simp))
        have sa2 := store_one' a2 (oa a2 (by simp))
        have sa3 := store_one' a3 (oa a3 (by simp))
        have sb0 := store_one' b0 (ob b0 (by simp))
        have sb1 := store_one' b1 (ob b1 (by simp))
        have sb2 := store_one' b2 (ob b2 (by simp))
        have sb3 := store_one' b3 (ob b3 (by simp))
        have hbW : Below wr.heap.size wr ((wr.alloc (.cells #[a0, a1, a2, a3] 24)).alloc (.cells #[b0, b1, b2, b3] 24)) := ((Below.refl _ _).alloc (Nat.le_refl _) _).alloc (by simp) _
        have hg' : g' < wr.heap.size := by omega
        have ka0 := (((Below.refl wr.heap.size wr).alloc (Nat.le_refl _) (.cells #[a0, a1, a2, a3] 24)).cell (p := ⟨g', o' + k * 4, none⟩) hg').trans cb0
        have ka1 := (((Below.refl wr.heap.size wr).alloc (Nat.le_refl _) (.cells #[a0, a1, a2, a3] 24)).cell (p := ⟨g', o' + k * 4 + 1, none⟩) hg').trans cb1
        have ka2 := (((Below.refl wr.heap.size wr).alloc (Nat.le_refl _) (.cells #[a0, a1, a2, a3] 24)).cell (p := ⟨g', o' + k * 4 + 2, none⟩) hg').trans cb2
        have ka3 := (((Below.refl wr.heap.size wr).alloc (Nat.le_refl _) (.cells #[a0, a1, a2, a3] 24)).cell (p := ⟨g', o' + k * 4 + 3, none⟩) hg').trans cb3
        obtain ⟨u, hu⟩ : ∃ u, tySame xs[k] ys[k] = u := ⟨_, rfl⟩
        have C1 := HIH.out xs[k] (List.getElem_mem hkx) ys[k] _ [a0, a1, a2, a3] [b0, b1, b2, b3] (Nat.le_trans (show B ≤ wr.heap.size by omega) hbW.size) (hta.later (hbW.mono (by omega))) (htb.later (hbW.mono (by omega)))
        rw [hu] at C1
        have HC1 := Lib.hid C1
        have HU := Lib.hid hu
        have HBW := Lib.hid (HBE.out.trans (hbW.mono hzr))
        clear hta htb C1 hu oa ob hbW
        cases u with
        | true =>
          go_wp2_with (go_at_call 52; (with_reducible refine HC1.out.mono ?_); rintro e w2 ⟨rfl, hb2⟩)
          go_roundw
          case rel => exact ⟨k + 1, by go_num, by omega, fun j h1 h2 h3 => by
            rcases Nat.lt_or_ge j k with h | h
            · exact HALL.out j h1 h2 h
            · have : j = k := by omega
              subst this; exact HU.out, HBW.out.trans (hb2.mono HBW.out.size)⟩
          case measure => simp [intOf]; omega
        | false =>
          have HF := Lib.hid (tys_no xs ys (by rw [HN.out, HM.out]) k hkx hky HU.out)
          go_wp2_with (go_at_call 52; (with_reducible refine HC1.out.mono ?_); rintro e w2 ⟨rfl, hb2⟩)
          go_ret
          exact ⟨ret_bool (by rw [HF.out]; simp), HBW.out.trans (hb2.mono HBW.out.size)⟩
      · have HT := Lib.hid (tys_yes xs ys (by rw [HN.out, HM.out]) (fun j h1 h2 => HALL.out j h1 h2 (by have := HN.out; omega)))
        go_wp2_with fail
        go_ret
        exact ⟨ret_bool (by rw [HT.out]; simp), HBE.out⟩
  · have hd : ((n : Int) != (m : Int)) = true := by simp; omega
    rw [hn, hm, show (n == m) = false by simpa using hnm]
    clear hn hm hnm ih ha hb
    go_enter Try.func51, Try.ntmps51
    go_wp2_with fail
    go_ret
    exact ⟨rfl, Below.refl _ _⟩

set_option maxHeartbeats 3200000 in
theorem same_any (N : Nat) : ∀ (t u : Ty), t.nodes ≤ N → N ≤ 4000000 → ∀ (B : Nat) (w : World) (cs ds : List Value), B ≤ w.heap.size → TyAt w B cs t → TyAt w B ds u →
    Calls Try.prog 52 #[.agg cs.toArray, .agg ds.toArray] w fun e w' => e = .returned (.bool (tySame t u)) ∧ Below w.heap.size w w' := by
  induction N with
  | zero => intro t u h; cases t; unfold Ty.nodes at h; omega
  | succ N ih =>
    intro t u hN hN2 B w cs ds hB hx hy
    rw [tySame_top]
    obtain ⟨k, nm, n, A, c, ks, rfl, rfl⟩ := ty_cells hx
    obtain ⟨k', nm', n', A', c', ks', rfl, rfl⟩ := ty_cells hy
    obtain ⟨_, hk, hs, hn, hc, hm, L, htx⟩ := ty_open hx _ _ _ _ _ _ _ rfl rfl
    obtain ⟨_, hk', hs', hn', hc', hm', L', hty⟩ := ty_open hy _ _ _ _ _ _ _ rfl rfl
    unfold Ty.nodes at hN
    have hln := tysNodes_len ks
    obtain ⟨W1, hW1⟩ : ∃ W1, (w.alloc (.cells #[.int .i64 k, .string nm, .int .i64 n, .slice A ks.length c] 24)).alloc (.cells #[.int .i64 k', .string nm', .int .i64 n', .slice A' ks'.length c'] 24) = W1 := ⟨_, rfl⟩
    have hg : Below w.heap.size w W1 := by rw [← hW1]; exact ((Below.refl _ _).alloc (Nat.le_refl _) _).alloc (by simp) _
    have hbx : Blk W1 w.heap.size 24 #[.int .i64 k, .string nm, .int .i64 n, .slice A ks.length c] := by rw [← hW1]; exact (Blk.new _ _ _).alloc _
    have hby : Blk W1 (w.heap.size + 1) 24 #[.int .i64 k', .string nm', .int .i64 n', .slice A' ks'.length c'] := by rw [← hW1]; have := Blk.new (w.alloc (.cells #[.int .i64 k, .string nm, .int .i64 n, .slice A ks.length c] 24)) 24 #[.int .i64 k', .string nm', .int .i64 n', .slice A' ks'.length c']; simpa using this
    have CT := Lib.hid (top_any _ _ _ _ B W1 (hx.later (hg.mono hB)) (hy.later (hg.mono hB)))
    obtain ⟨tp, htp⟩ : ∃ tp, topSame (.mk k nm n ks) (.mk k' nm' n' ks') = tp := ⟨_, rfl⟩
    rw [htp] at CT ⊢
    have CE := Lib.hid (fun W' (hb : Below W1.heap.size W1 W') => eqS_any ks ks' A A' L L' c c' B W' (by have := hg.size; have := hb.size; omega) (htx.later ((hg.trans (hb.mono hg.size)).mono hB)) (hty.later ((hg.trans (hb.mono hg.size)).mono hB)) (by omega) (Nat.le_trans hc' hm')
      (fun t ht u w cs ds h1 h2 h3 => ih t u (by have := tys_mem ks t ht; omega) (by omega) B w cs ds h1 h2 h3))
    have HW := Lib.hid hW1
    have HG := Lib.hid hg
    have HBX := Lib.hid hbx
    have HBY := Lib.hid hby
    simp only [Ty.ks]
    obtain ⟨lx, hlx⟩ : ∃ lx, ks.length = lx := ⟨_, rfl⟩
    obtain ⟨ly, hly⟩ : ∃ ly, ks'.length = ly := ⟨_, rfl⟩
    obtain ⟨vv, hvv⟩ : ∃ vv, (ks.length == ks'.length && tysSame ks ks') = vv := ⟨_, rfl⟩
    rw [hvv] at CE ⊢
    rw [hlx] at CE HW HBX CT ⊢
    rw [hly] at CE HW HBY CT ⊢
    have x0 := HBX.out.cell 0
    have x1 := HBX.out.cell 1
    have x2 := HBX.out.cell 2
    have x3 := HBX.out.cell 3
    simp only [zTy, List.getElem?_toArray, List.getElem?_cons_succ, List.getElem?_cons_zero] at x0 x1 x2 x3
    have y0 := HBY.out.cell 0
    have y1 := HBY.out.cell 1
    have y2 := HBY.out.cell 2
    have y3 := HBY.out.cell 3
    simp only [zTy, List.getElem?_toArray, List.getElem?_cons_succ, List.getElem?_cons_zero] at y0 y1 y2 y3
    clear hx hy htx hty hW1 hg hbx hby ih hN hc hm hc' hm' htp hlx hly hvv hk hs hn hk' hs' hn' hln hN2
    cases tp with
    | true =>
      go_enter Try.func52, Try.ntmps52
      go_upto_region 1 with fail
      rw [HW.out]
      go_wp2_with (first | (go_at_call 50; (with_reducible refine CT.out.mono ?_); rintro e w2 ⟨rfl, hb2⟩; (have hB2 := HBX.out.below hb2 HBX.out.lt); (have z0 := hB2.cell 0); (have z1 := hB2.cell 1); (have z2 := hB2.cell 2); (have z3 := hB2.cell 3); (simp only [zTy, List.getElem?_toArray, List.getElem?_cons_succ, List.getElem?_cons_zero] at z0 z1 z2 z3); (have hC2 := HBY.out.below hb2 HBY.out.lt); (have u0 := hC2.cell 0); (have u1 := hC2.cell 1); (have u2 := hC2.cell 2); (have u3 := hC2.cell 3); (simp only [zTy, List.getElem?_toArray, List.getElem?_cons_succ, List.getElem?_cons_zero] at u0 u1 u2 u3); (have CE2 := Lib.hid (CE.out w2 hb2))) | (go_at_call 51; (with_reducible refine CE2.out.mono ?_); rintro e w3 ⟨rfl, hb3⟩))
      go_ret
      exact ⟨ret_bool (by simp), (HG.out.trans (hb2.mono HG.out.size)).trans (hb3.mono (Nat.le_trans HG.out.size hb2.size))⟩
    | false =>
      go_enter Try.func52, Try.ntmps52
      go_upto_region 1 with fail
      rw [HW.out]
      go_wp2_with (go_at_call 50; (with_reducible refine CT.out.mono ?_); rintro e w2 ⟨rfl, hb2⟩)
      go_ret
      exact ⟨ret_bool (by simp), HG.out.trans (hb2.mono HG.out.size)⟩

end Go.Proofs.Ytgmcjnhaedfinaa
