/- Walks: the program's equality of declarations and programs. -/
import Derived.Test.YtglamoiimmahgaaPgt
import Derived.Test.YtglamoiimmahgaaPlb
import Derived.Test.YtglamoiimmahgaaPse
namespace Go.Proofs.Ytglamoiimmahgaa
open Go.RowKit
set_option linter.unusedVariables false
set_option linter.unusedSimpArgs false
set_option maxRecDepth 100000

set_option maxHeartbeats 800000 in
theorem pequal_any (a b : List ByteArray) (A A' : Option Addr) (n m c c' B : Nat) (w : World) (hn9 : n ≤ 9223372036854775807) (ha : Reads w B 1 A n (nmVals a)) (hb : Reads w B 1 A' m (nmVals b)) :
    Calls Try.prog 61 #[.slice A n c, .slice A' m c'] w fun e w' => e = .returned (.bool (textsS a b)) ∧ Below w.heap.size w w' := by
  have hla := nm_len ha
  have hlb := nm_len hb
  by_cases hnm : n = m
  · subst hnm
    have HA := Lib.hid ha
    have HB := Lib.hid hb
    have HLA := Lib.hid hla
    have HLB := Lib.hid hlb
    clear ha hb hla hlb
    go_enter Try.func61, Try.ntmps61
    go_wp2_with fail
    go_loopw [13] (fun i wr => ∃ k : Nat, i = .int .i64 k ∧ k ≤ n ∧ (∀ j (h1 : j < a.length) (h2 : j < b.length), j < k → nmEq a[j] b[j] = true) ∧ ∃ d, wr = w.drewN d) (fun i _ => n - (intOf i).toNat)
    case atStart => exact ⟨0, rfl, Nat.zero_le _, fun j _ _ h => by omega, 0, rfl⟩
    case round =>
      obtain ⟨k, rfl, hk, hall, d, rfl⟩ := hrel
      have HALL := Lib.hid hall
      clear hall
      by_cases hlt : k < n
      · obtain ⟨ad, rfl, hbl, hl, hc⟩ := nm_at HA.out hlt
        obtain ⟨ad', rfl, hbl', hl', hc'⟩ := nm_at HB.out hlt
        obtain ⟨x, hx⟩ : ∃ x, a[k] = x := ⟨_, rfl⟩
        obtain ⟨y, hy⟩ : ∃ y, b[k] = y := ⟨_, rfl⟩
        rw [hx] at hc
        rw [hy] at hc'
        cases hxy : nmEq x y
        · have b1 := nm_no hxy
          have HF := Lib.hid (texts_no a b k hl hl' (by rw [hx, hy]; exact hxy))
          clear hx hy hxy
          go_wp2_with fail
          go_quiet (fail)
          go_wp2_with fail
          go_ret
          exact ⟨ret_bool HF.out.symm, below_drewN (below_drewN (Below.refl _ _) _) _⟩
        · have b1 := nm_yes hxy
          have HX := Lib.hid (show nmEq a[k] b[k] = true by rw [hx, hy]; exact hxy)
          clear hx hy hxy
          go_wp2_with fail
          go_quiet (fail)
          go_wp2_with fail
          go_roundw
          case rel => exact ⟨k + 1, by go_num, by omega, fun j h1 h2 h3 => by
            rcases Nat.lt_or_ge j k with h | h
            · exact HALL.out j h1 h2 h
            · have : j = k := by omega
              subst this; exact HX.out, _, rfl⟩
          case measure => simp [intOf]; omega
      · have HT := Lib.hid (texts_yes a b (by rw [HLA.out, HLB.out]) (fun j h1 h2 => HALL.out j h1 h2 (by have := HLA.out; omega)))
        go_wp2_with fail
        go_ret
        exact ⟨ret_bool HT.out.symm, below_drewN (Below.refl _ _) _⟩
  · have hd : ((n : Int) != (m : Int)) = true := by simp; omega
    have HF := Lib.hid (texts_len a b (by rw [hla, hlb]; exact hnm))
    clear hnm hla hlb ha hb
    go_enter Try.func61, Try.ntmps61
    go_wp2_with fail
    go_ret
    exact ⟨ret_bool HF.out.symm, Below.refl _ _⟩

theorem pl_ty (xs ys : List Ty) (A A' : Option Addr) (c c' B : Nat) (w : World) (hB : B ≤ w.heap.size) (hn : xs.length ≤ maxLen) (hx : RowOf w B 4 (TyAt w B) A xs) (hy : RowOf w B 4 (TyAt w B) A' ys) :
    Calls Try.prog 40 #[.slice A xs.length c, .slice A' ys.length c', .func (.func 16) #[] #[]] w fun e w' => e = .returned (.bool (listSame tySame xs ys)) ∧ Below w.heap.size w w' := by
  obtain ⟨L, hr, hk⟩ := hx.ex
  obtain ⟨L', hr', hk'⟩ := hy.ex
  rw [list_tys]
  exact pall_ty xs ys A A' L L' c c' B w hB (by unfold maxLen at hn; omega) hr hk hr' hk' (fun t _ u w cs ds h1 h2 h3 => psametype_any _ t u (Nat.le_refl _) B w cs ds h1 h2 h3)
theorem pl_bd (xs ys : List Bd) (A A' : Option Addr) (c c' B : Nat) (w : World) (hB : B ≤ w.heap.size) (hn : xs.length ≤ maxLen) (hx : RowOf w B 13 (BdAt w B) A xs) (hy : RowOf w B 13 (BdAt w B) A' ys) :
    Calls Try.prog 35 #[.slice A xs.length c, .slice A' ys.length c', .func (.func 36) #[] #[]] w fun e w' => e = .returned (.bool (listSame bdSame xs ys)) ∧ Below w.heap.size w w' := by
  obtain ⟨L, hr, hk⟩ := hx.ex
  obtain ⟨L', hr', hk'⟩ := hy.ex
  rw [list_bds]
  exact pall_bd xs ys A A' L L' c c' B w hB (by unfold maxLen at hn; omega) hr hk hr' hk' (fun t _ u w cs ds h1 h2 h3 => psamebind_any t u B w cs ds h1 h2 h3 (fun w cs ds h4 h5 h6 => psame_any _ t.exp u.exp (Nat.le_refl _) B w cs ds h4 h5 h6))

set_option maxHeartbeats 3200000 in
theorem psamecon (t u : Co) (B : Nat) (w : World) (cs ds : List Value) (hB : B ≤ w.heap.size) (hx : CoAt w B cs t) (hy : CoAt w B ds u) :
    Calls Try.prog 63 #[.agg cs.toArray, .agg ds.toArray] w fun e w' => e = .returned (.bool (coSame t u)) ∧ Below w.heap.size w w' := by
  cases hx with
  | @mk nm A c ks q hc hm hr =>
  cases hy with
  | @mk nm' A' c' ks' q' hc' hm' hr' =>
    have C10 := fun W (hb : Below w.heap.size w W) => pl_ty ks ks' A A' c c' B W (Nat.le_trans hB hb.size) (Nat.le_trans hc hm) (RowOf.later (R := fun w => TyAt w B) hr (hb.mono hB) fun _ _ h => TyAt.later h (hb.mono hB)) (RowOf.later (R := fun w => TyAt w B) hr' (hb.mono hB) fun _ _ h => TyAt.later h (hb.mono hB))
    obtain ⟨RES, hRES⟩ : ∃ r, coSame ⟨nm, ks⟩ ⟨nm', ks'⟩ = r := ⟨_, rfl⟩
    rw [hRES]
    have hS0 : RES = (nmSame nm nm' && listSame tySame ks ks') := by rw [← hRES]; rfl
    obtain ⟨v1, hv1⟩ : ∃ v, listSame tySame ks ks' = v := ⟨_, rfl⟩
    rw [hv1] at hS0 C10
    have C1 := Lib.hid C10
    have HS := Lib.hid hS0
    clear hS0 hRES hv1 C10
    try simp only [List.cons_append, List.nil_append]
    have b1 := (Blk.new w 101 #[.string nm, .slice A ks.length c, .int .i64 q]).alloc (.cells #[.string nm', .slice A' ks'.length c', .int .i64 q'] 101)
    have b2 := Blk.new (w.alloc (.cells #[.string nm, .slice A ks.length c, .int .i64 q] 101)) 101 #[.string nm', .slice A' ks'.length c', .int .i64 q']
    obtain ⟨W2, hW2⟩ : ∃ W2, (w.alloc (.cells #[.string nm, .slice A ks.length c, .int .i64 q] 101)).alloc (.cells #[.string nm', .slice A' ks'.length c', .int .i64 q'] 101) = W2 := ⟨_, rfl⟩
    have hbW : Below w.heap.size w W2 := by rw [← hW2]; exact ((Below.refl _ _).alloc (Nat.le_refl _) _).alloc (by simp) _
    have hzW : W2.heap.size = w.heap.size + 1 + 1 := by rw [← hW2]; simp
    rw [hW2] at b1 b2
    rw [World.size_alloc] at b2
    have HW := Lib.hid hW2
    have HBW := Lib.hid hbW
    have HB1 := Lib.hid (fun (W : World) (hW : Below W2.heap.size W2 W) (i : Nat) => (hW.cell (p := ⟨w.heap.size, i, none⟩) b1.lt).trans (b1.cell i))
    have HB2 := Lib.hid (fun (W : World) (hW : Below W2.heap.size W2 W) (i : Nat) => (hW.cell (p := ⟨w.heap.size + 1, i, none⟩) b2.lt).trans (b2.cell i))
    clear b1 b2 hW2 hbW hzW
    by_cases e0 : nm.data.toList = nm'.data.toList
    · have d0 := nm_same e0
      have z0 := Lib.hid (show nmSame nm nm' = true by unfold nmSame; simpa using e0)
      clear e0
      have HE := Lib.hid (show RES = v1 by rw [HS.out, z0.out]; simp)
      go_enter Try.func63, Try.ntmps63
      go_wp2_with fail
      rw [HW.out]
      have x0W2 := HB1.out W2 (Below.refl W2.heap.size W2) 0
      have y0W2 := HB2.out W2 (Below.refl W2.heap.size W2) 0
      have x1W2 := HB1.out W2 (Below.refl W2.heap.size W2) 1
      have y1W2 := HB2.out W2 (Below.refl W2.heap.size W2) 1
      have x2W2 := HB1.out W2 (Below.refl W2.heap.size W2) 2
      have y2W2 := HB2.out W2 (Below.refl W2.heap.size W2) 2
      simp only [List.getElem?_toArray, List.getElem?_cons_succ, List.getElem?_cons_zero] at x0W2 y0W2 x1W2 y1W2 x2W2 y2W2
      have hk1 : Below W2.heap.size W2 W2 := Below.refl _ _
      have hc1 := HBW.out
      go_wp2_with (go_at_call 40; (with_reducible refine (C1.out _ hc1).mono ?_); rintro e w2 ⟨rfl, hb2⟩; (have hk2 : Below W2.heap.size W2 w2 := hk1.trans (hb2.mono hk1.size)); (have hc2 : Below w.heap.size w w2 := HBW.out.trans (hk2.mono HBW.out.size)))
      go_ret
      exact ⟨ret_bool HE.out.symm, hc2⟩
    · have d0 := nm_other e0
      have HE := Lib.hid (show RES = false by rw [HS.out, show nmSame nm nm' = false by unfold nmSame; simpa using e0]; simp)
      clear e0
      go_enter Try.func63, Try.ntmps63
      go_wp2_with fail
      rw [HW.out]
      have x0W2 := HB1.out W2 (Below.refl W2.heap.size W2) 0
      have y0W2 := HB2.out W2 (Below.refl W2.heap.size W2) 0
      have x1W2 := HB1.out W2 (Below.refl W2.heap.size W2) 1
      have y1W2 := HB2.out W2 (Below.refl W2.heap.size W2) 1
      have x2W2 := HB1.out W2 (Below.refl W2.heap.size W2) 2
      have y2W2 := HB2.out W2 (Below.refl W2.heap.size W2) 2
      simp only [List.getElem?_toArray, List.getElem?_cons_succ, List.getElem?_cons_zero] at x0W2 y0W2 x1W2 y1W2 x2W2 y2W2
      have hk1 : Below W2.heap.size W2 W2 := Below.refl _ _
      have hc1 := HBW.out
      go_wp2_with fail
      go_ret
      exact ⟨ret_bool HE.out.symm, hc1⟩

set_option maxHeartbeats 3200000 in
theorem psamemethod (t u : Me) (B : Nat) (w : World) (cs ds : List Value) (hB : B ≤ w.heap.size) (hx : MeAt w B cs t) (hy : MeAt w B ds u) :
    Calls Try.prog 65 #[.agg cs.toArray, .agg ds.toArray] w fun e w' => e = .returned (.bool (meSame t u)) ∧ Below w.heap.size w w' := by
  cases hx with
  | @mk nm t T q ht =>
  cases hy with
  | @mk nm' t' T' q' ht' =>
    obtain ⟨a0, a1, a2, a3, rfl⟩ := four_of ht.four
    obtain ⟨f0, f1, f2, f3, rfl⟩ := four_of ht'.four
    have sa0 := store_one a0 (ty_ones ht a0 (by simp))
    have sa1 := store_one a1 (ty_ones ht a1 (by simp))
    have sa2 := store_one a2 (ty_ones ht a2 (by simp))
    have sa3 := store_one a3 (ty_ones ht a3 (by simp))
    have sf0 := store_one f0 (ty_ones ht' f0 (by simp))
    have sf1 := store_one f1 (ty_ones ht' f1 (by simp))
    have sf2 := store_one f2 (ty_ones ht' f2 (by simp))
    have sf3 := store_one f3 (ty_ones ht' f3 (by simp))
    have C10 := fun W (hb : Below w.heap.size w W) => psametype_any t.nodes t t' (Nat.le_refl _) B W [a0, a1, a2, a3] [f0, f1, f2, f3] (Nat.le_trans hB hb.size) (ht.later (hb.mono hB)) (ht'.later (hb.mono hB))
    obtain ⟨RES, hRES⟩ : ∃ r, meSame ⟨nm, t⟩ ⟨nm', t'⟩ = r := ⟨_, rfl⟩
    rw [hRES]
    have hS0 : RES = (nmSame nm nm' && tySame t t') := by rw [← hRES]; rfl
    obtain ⟨v1, hv1⟩ : ∃ v, tySame t t' = v := ⟨_, rfl⟩
    rw [hv1] at hS0 C10
    have C1 := Lib.hid C10
    have HS := Lib.hid hS0
    clear hS0 hRES hv1 C10
    try simp only [List.cons_append, List.nil_append]
    have b1 := (Blk.new w 105 #[.string nm, a0, a1, a2, a3, .int .i64 q]).alloc (.cells #[.string nm', f0, f1, f2, f3, .int .i64 q'] 105)
    have b2 := Blk.new (w.alloc (.cells #[.string nm, a0, a1, a2, a3, .int .i64 q] 105)) 105 #[.string nm', f0, f1, f2, f3, .int .i64 q']
    obtain ⟨W2, hW2⟩ : ∃ W2, (w.alloc (.cells #[.string nm, a0, a1, a2, a3, .int .i64 q] 105)).alloc (.cells #[.string nm', f0, f1, f2, f3, .int .i64 q'] 105) = W2 := ⟨_, rfl⟩
    have hbW : Below w.heap.size w W2 := by rw [← hW2]; exact ((Below.refl _ _).alloc (Nat.le_refl _) _).alloc (by simp) _
    have hzW : W2.heap.size = w.heap.size + 1 + 1 := by rw [← hW2]; simp
    rw [hW2] at b1 b2
    rw [World.size_alloc] at b2
    have HW := Lib.hid hW2
    have HBW := Lib.hid hbW
    have HB1 := Lib.hid (fun (W : World) (hW : Below W2.heap.size W2 W) (i : Nat) => (hW.cell (p := ⟨w.heap.size, i, none⟩) b1.lt).trans (b1.cell i))
    have HB2 := Lib.hid (fun (W : World) (hW : Below W2.heap.size W2 W) (i : Nat) => (hW.cell (p := ⟨w.heap.size + 1, i, none⟩) b2.lt).trans (b2.cell i))
    clear b1 b2 hW2 hbW hzW
    by_cases e0 : nm.data.toList = nm'.data.toList
    · have d0 := nm_same e0
      have z0 := Lib.hid (show nmSame nm nm' = true by unfold nmSame; simpa using e0)
      clear e0
      have HE := Lib.hid (show RES = v1 by rw [HS.out, z0.out]; simp)
      go_enter Try.func65, Try.ntmps65
      go_wp2_with fail
      rw [HW.out]
      have x0W2 := HB1.out W2 (Below.refl W2.heap.size W2) 0
      have y0W2 := HB2.out W2 (Below.refl W2.heap.size W2) 0
      have x1W2 := HB1.out W2 (Below.refl W2.heap.size W2) 1
      have y1W2 := HB2.out W2 (Below.refl W2.heap.size W2) 1
      have x2W2 := HB1.out W2 (Below.refl W2.heap.size W2) 2
      have y2W2 := HB2.out W2 (Below.refl W2.heap.size W2) 2
      have x3W2 := HB1.out W2 (Below.refl W2.heap.size W2) 3
      have y3W2 := HB2.out W2 (Below.refl W2.heap.size W2) 3
      have x4W2 := HB1.out W2 (Below.refl W2.heap.size W2) 4
      have y4W2 := HB2.out W2 (Below.refl W2.heap.size W2) 4
      have x5W2 := HB1.out W2 (Below.refl W2.heap.size W2) 5
      have y5W2 := HB2.out W2 (Below.refl W2.heap.size W2) 5
      simp only [List.getElem?_toArray, List.getElem?_cons_succ, List.getElem?_cons_zero] at x0W2 y0W2 x1W2 y1W2 x2W2 y2W2 x3W2 y3W2 x4W2 y4W2 x5W2 y5W2
      have hk1 : Below W2.heap.size W2 W2 := Below.refl _ _
      have hc1 := HBW.out
      go_wp2_with (go_at_call 16; (with_reducible refine (C1.out _ hc1).mono ?_); rintro e w2 ⟨rfl, hb2⟩; (have hk2 : Below W2.heap.size W2 w2 := hk1.trans (hb2.mono hk1.size)); (have hc2 : Below w.heap.size w w2 := HBW.out.trans (hk2.mono HBW.out.size)))
      go_ret
      exact ⟨ret_bool HE.out.symm, hc2⟩
    · have d0 := nm_other e0
      have HE := Lib.hid (show RES = false by rw [HS.out, show nmSame nm nm' = false by unfold nmSame; simpa using e0]; simp)
      clear e0
      go_enter Try.func65, Try.ntmps65
      go_wp2_with fail
      rw [HW.out]
      have x0W2 := HB1.out W2 (Below.refl W2.heap.size W2) 0
      have y0W2 := HB2.out W2 (Below.refl W2.heap.size W2) 0
      have x1W2 := HB1.out W2 (Below.refl W2.heap.size W2) 1
      have y1W2 := HB2.out W2 (Below.refl W2.heap.size W2) 1
      have x2W2 := HB1.out W2 (Below.refl W2.heap.size W2) 2
      have y2W2 := HB2.out W2 (Below.refl W2.heap.size W2) 2
      have x3W2 := HB1.out W2 (Below.refl W2.heap.size W2) 3
      have y3W2 := HB2.out W2 (Below.refl W2.heap.size W2) 3
      have x4W2 := HB1.out W2 (Below.refl W2.heap.size W2) 4
      have y4W2 := HB2.out W2 (Below.refl W2.heap.size W2) 4
      have x5W2 := HB1.out W2 (Below.refl W2.heap.size W2) 5
      have y5W2 := HB2.out W2 (Below.refl W2.heap.size W2) 5
      simp only [List.getElem?_toArray, List.getElem?_cons_succ, List.getElem?_cons_zero] at x0W2 y0W2 x1W2 y1W2 x2W2 y2W2 x3W2 y3W2 x4W2 y4W2 x5W2 y5W2
      have hk1 : Below W2.heap.size W2 W2 := Below.refl _ _
      have hc1 := HBW.out
      go_wp2_with fail
      go_ret
      exact ⟨ret_bool HE.out.symm, hc1⟩

set_option maxHeartbeats 3200000 in
theorem psamepred (t u : Me) (B : Nat) (w : World) (cs ds : List Value) (hB : B ≤ w.heap.size) (hx : PrAt w B cs t) (hy : PrAt w B ds u) :
    Calls Try.prog 67 #[.agg cs.toArray, .agg ds.toArray] w fun e w' => e = .returned (.bool (meSame t u)) ∧ Below w.heap.size w w' := by
  cases hx with
  | @mk nm t T ht =>
  cases hy with
  | @mk nm' t' T' ht' =>
    obtain ⟨a0, a1, a2, a3, rfl⟩ := four_of ht.four
    obtain ⟨f0, f1, f2, f3, rfl⟩ := four_of ht'.four
    have sa0 := store_one a0 (ty_ones ht a0 (by simp))
    have sa1 := store_one a1 (ty_ones ht a1 (by simp))
    have sa2 := store_one a2 (ty_ones ht a2 (by simp))
    have sa3 := store_one a3 (ty_ones ht a3 (by simp))
    have sf0 := store_one f0 (ty_ones ht' f0 (by simp))
    have sf1 := store_one f1 (ty_ones ht' f1 (by simp))
    have sf2 := store_one f2 (ty_ones ht' f2 (by simp))
    have sf3 := store_one f3 (ty_ones ht' f3 (by simp))
    have C10 := fun W (hb : Below w.heap.size w W) => psametype_any t.nodes t t' (Nat.le_refl _) B W [a0, a1, a2, a3] [f0, f1, f2, f3] (Nat.le_trans hB hb.size) (ht.later (hb.mono hB)) (ht'.later (hb.mono hB))
    obtain ⟨RES, hRES⟩ : ∃ r, meSame ⟨nm, t⟩ ⟨nm', t'⟩ = r := ⟨_, rfl⟩
    rw [hRES]
    have hS0 : RES = (nmSame nm nm' && tySame t t') := by rw [← hRES]; rfl
    obtain ⟨v1, hv1⟩ : ∃ v, tySame t t' = v := ⟨_, rfl⟩
    rw [hv1] at hS0 C10
    have C1 := Lib.hid C10
    have HS := Lib.hid hS0
    clear hS0 hRES hv1 C10
    try simp only [List.cons_append, List.nil_append]
    have b1 := (Blk.new w 109 #[.string nm, a0, a1, a2, a3]).alloc (.cells #[.string nm', f0, f1, f2, f3] 109)
    have b2 := Blk.new (w.alloc (.cells #[.string nm, a0, a1, a2, a3] 109)) 109 #[.string nm', f0, f1, f2, f3]
    obtain ⟨W2, hW2⟩ : ∃ W2, (w.alloc (.cells #[.string nm, a0, a1, a2, a3] 109)).alloc (.cells #[.string nm', f0, f1, f2, f3] 109) = W2 := ⟨_, rfl⟩
    have hbW : Below w.heap.size w W2 := by rw [← hW2]; exact ((Below.refl _ _).alloc (Nat.le_refl _) _).alloc (by simp) _
    have hzW : W2.heap.size = w.heap.size + 1 + 1 := by rw [← hW2]; simp
    rw [hW2] at b1 b2
    rw [World.size_alloc] at b2
    have HW := Lib.hid hW2
    have HBW := Lib.hid hbW
    have HB1 := Lib.hid (fun (W : World) (hW : Below W2.heap.size W2 W) (i : Nat) => (hW.cell (p := ⟨w.heap.size, i, none⟩) b1.lt).trans (b1.cell i))
    have HB2 := Lib.hid (fun (W : World) (hW : Below W2.heap.size W2 W) (i : Nat) => (hW.cell (p := ⟨w.heap.size + 1, i, none⟩) b2.lt).trans (b2.cell i))
    clear b1 b2 hW2 hbW hzW
    by_cases e0 : nm.data.toList = nm'.data.toList
    · have d0 := nm_same e0
      have z0 := Lib.hid (show nmSame nm nm' = true by unfold nmSame; simpa using e0)
      clear e0
      have HE := Lib.hid (show RES = v1 by rw [HS.out, z0.out]; simp)
      go_enter Try.func67, Try.ntmps67
      go_wp2_with fail
      rw [HW.out]
      have x0W2 := HB1.out W2 (Below.refl W2.heap.size W2) 0
      have y0W2 := HB2.out W2 (Below.refl W2.heap.size W2) 0
      have x1W2 := HB1.out W2 (Below.refl W2.heap.size W2) 1
      have y1W2 := HB2.out W2 (Below.refl W2.heap.size W2) 1
      have x2W2 := HB1.out W2 (Below.refl W2.heap.size W2) 2
      have y2W2 := HB2.out W2 (Below.refl W2.heap.size W2) 2
      have x3W2 := HB1.out W2 (Below.refl W2.heap.size W2) 3
      have y3W2 := HB2.out W2 (Below.refl W2.heap.size W2) 3
      have x4W2 := HB1.out W2 (Below.refl W2.heap.size W2) 4
      have y4W2 := HB2.out W2 (Below.refl W2.heap.size W2) 4
      simp only [List.getElem?_toArray, List.getElem?_cons_succ, List.getElem?_cons_zero] at x0W2 y0W2 x1W2 y1W2 x2W2 y2W2 x3W2 y3W2 x4W2 y4W2
      have hk1 : Below W2.heap.size W2 W2 := Below.refl _ _
      have hc1 := HBW.out
      go_wp2_with (go_at_call 16; (with_reducible refine (C1.out _ hc1).mono ?_); rintro e w2 ⟨rfl, hb2⟩; (have hk2 : Below W2.heap.size W2 w2 := hk1.trans (hb2.mono hk1.size)); (have hc2 : Below w.heap.size w w2 := HBW.out.trans (hk2.mono HBW.out.size)))
      go_ret
      exact ⟨ret_bool HE.out.symm, hc2⟩
    · have d0 := nm_other e0
      have HE := Lib.hid (show RES = false by rw [HS.out, show nmSame nm nm' = false by unfold nmSame; simpa using e0]; simp)
      clear e0
      go_enter Try.func67, Try.ntmps67
      go_wp2_with fail
      rw [HW.out]
      have x0W2 := HB1.out W2 (Below.refl W2.heap.size W2) 0
      have y0W2 := HB2.out W2 (Below.refl W2.heap.size W2) 0
      have x1W2 := HB1.out W2 (Below.refl W2.heap.size W2) 1
      have y1W2 := HB2.out W2 (Below.refl W2.heap.size W2) 1
      have x2W2 := HB1.out W2 (Below.refl W2.heap.size W2) 2
      have y2W2 := HB2.out W2 (Below.refl W2.heap.size W2) 2
      have x3W2 := HB1.out W2 (Below.refl W2.heap.size W2) 3
      have y3W2 := HB2.out W2 (Below.refl W2.heap.size W2) 3
      have x4W2 := HB1.out W2 (Below.refl W2.heap.size W2) 4
      have y4W2 := HB2.out W2 (Below.refl W2.heap.size W2) 4
      simp only [List.getElem?_toArray, List.getElem?_cons_succ, List.getElem?_cons_zero] at x0W2 y0W2 x1W2 y1W2 x2W2 y2W2 x3W2 y3W2 x4W2 y4W2
      have hk1 : Below W2.heap.size W2 W2 := Below.refl _ _
      have hc1 := HBW.out
      go_wp2_with fail
      go_ret
      exact ⟨ret_bool HE.out.symm, hc1⟩
theorem pl_co (xs ys : List Co) (A A' : Option Addr) (c c' B : Nat) (w : World) (hB : B ≤ w.heap.size) (hn : xs.length ≤ maxLen) (hx : RowOf w B 3 (CoAt w B) A xs) (hy : RowOf w B 3 (CoAt w B) A' ys) :
    Calls Try.prog 62 #[.slice A xs.length c, .slice A' ys.length c', .func (.func 63) #[] #[]] w fun e w' => e = .returned (.bool (listSame coSame xs ys)) ∧ Below w.heap.size w w' := by
  obtain ⟨L, hr, hk⟩ := hx.ex
  obtain ⟨L', hr', hk'⟩ := hy.ex
  refine plist_co xs.length ys.length A A' c c' B w L L' (pairAt coSame xs ys) hB (by unfold maxLen at hn; omega) hr hr' ?_ ?_
  · intro l hl u hu
    obtain ⟨i, hi, rfl⟩ := List.getElem_of_mem hl
    exact co_ones (hk i hi (by rw [← hr.len]; exact hi)) u hu
  · intro i h1 h2 w' hb
    have k1 : i < xs.length := by rw [← hr.len]; exact h1
    have k2 : i < ys.length := by rw [← hr'.len]; exact h2
    rw [pairAt_of coSame xs ys i k1 k2]
    exact psamecon xs[i] ys[i] B w' L[i] L'[i] (Nat.le_trans hB hb.size) (CoAt.later (hk i h1 k1) (hb.mono hB)) (CoAt.later (hk' i h2 k2) (hb.mono hB))
theorem pl_me (xs ys : List Me) (A A' : Option Addr) (c c' B : Nat) (w : World) (hB : B ≤ w.heap.size) (hn : xs.length ≤ maxLen) (hx : RowOf w B 6 (MeAt w B) A xs) (hy : RowOf w B 6 (MeAt w B) A' ys) :
    Calls Try.prog 64 #[.slice A xs.length c, .slice A' ys.length c', .func (.func 65) #[] #[]] w fun e w' => e = .returned (.bool (listSame meSame xs ys)) ∧ Below w.heap.size w w' := by
  obtain ⟨L, hr, hk⟩ := hx.ex
  obtain ⟨L', hr', hk'⟩ := hy.ex
  refine plist_me xs.length ys.length A A' c c' B w L L' (pairAt meSame xs ys) hB (by unfold maxLen at hn; omega) hr hr' ?_ ?_
  · intro l hl u hu
    obtain ⟨i, hi, rfl⟩ := List.getElem_of_mem hl
    exact me_ones (hk i hi (by rw [← hr.len]; exact hi)) u hu
  · intro i h1 h2 w' hb
    have k1 : i < xs.length := by rw [← hr.len]; exact h1
    have k2 : i < ys.length := by rw [← hr'.len]; exact h2
    rw [pairAt_of meSame xs ys i k1 k2]
    exact psamemethod xs[i] ys[i] B w' L[i] L'[i] (Nat.le_trans hB hb.size) (MeAt.later (hk i h1 k1) (hb.mono hB)) (MeAt.later (hk' i h2 k2) (hb.mono hB))
theorem pl_pr (xs ys : List Me) (A A' : Option Addr) (c c' B : Nat) (w : World) (hB : B ≤ w.heap.size) (hn : xs.length ≤ maxLen) (hx : RowOf w B 5 (PrAt w B) A xs) (hy : RowOf w B 5 (PrAt w B) A' ys) :
    Calls Try.prog 66 #[.slice A xs.length c, .slice A' ys.length c', .func (.func 67) #[] #[]] w fun e w' => e = .returned (.bool (listSame meSame xs ys)) ∧ Below w.heap.size w w' := by
  obtain ⟨L, hr, hk⟩ := hx.ex
  obtain ⟨L', hr', hk'⟩ := hy.ex
  refine plist_pr xs.length ys.length A A' c c' B w L L' (pairAt meSame xs ys) hB (by unfold maxLen at hn; omega) hr hr' ?_ ?_
  · intro l hl u hu
    obtain ⟨i, hi, rfl⟩ := List.getElem_of_mem hl
    exact pr_ones (hk i hi (by rw [← hr.len]; exact hi)) u hu
  · intro i h1 h2 w' hb
    have k1 : i < xs.length := by rw [← hr.len]; exact h1
    have k2 : i < ys.length := by rw [← hr'.len]; exact h2
    rw [pairAt_of meSame xs ys i k1 k2]
    exact psamepred xs[i] ys[i] B w' L[i] L'[i] (Nat.le_trans hB hb.size) (PrAt.later (hk i h1 k1) (hb.mono hB)) (PrAt.later (hk' i h2 k2) (hb.mono hB))

set_option maxHeartbeats 3200000 in
theorem psamedata (t u : Da) (B : Nat) (w : World) (cs ds : List Value) (hB : B ≤ w.heap.size) (hx : DaAt w B cs t) (hy : DaAt w B ds u) :
    Calls Try.prog 44 #[.agg cs.toArray, .agg ds.toArray] w fun e w' => e = .returned (.bool (daSame t u)) ∧ Below w.heap.size w w' := by
  cases hx with
  | @mk nm A Ac Ad c cc cd ps ds cs q h1 h2 h3 hp hc hd =>
  cases hy with
  | @mk nm' A' Ac' Ad' c' cc' cd' ps' ds' cs' q' h1' h2' h3' hp' hc' hd' =>
    have C10 := fun W (hb : Below w.heap.size w W) => pequal_any ps ps' A A' ps.length ps'.length c c' B W (by have h9 := h1; unfold maxLen at h9; omega) (hp.below (hb.mono hB)) (hp'.below (hb.mono hB))
    have C20 := fun W (hb : Below w.heap.size w W) => pequal_any ds ds' Ad Ad' ds.length ds'.length cd cd' B W (by have h9 := h3; unfold maxLen at h9; omega) (hd.below (hb.mono hB)) (hd'.below (hb.mono hB))
    have C30 := fun W (hb : Below w.heap.size w W) => pl_co cs cs' Ac Ac' cc cc' B W (Nat.le_trans hB hb.size) h2 (RowOf.later (R := fun w => CoAt w B) hc (hb.mono hB) fun _ _ h => CoAt.later h (hb.mono hB)) (RowOf.later (R := fun w => CoAt w B) hc' (hb.mono hB) fun _ _ h => CoAt.later h (hb.mono hB))
    obtain ⟨RES, hRES⟩ : ∃ r, daSame ⟨nm, ps, cs, ds⟩ ⟨nm', ps', cs', ds'⟩ = r := ⟨_, rfl⟩
    rw [hRES]
    have hS0 : RES = (nmSame nm nm' && (textsS ps ps' && (textsS ds ds' && listSame coSame cs cs'))) := by rw [← hRES]; rfl
    obtain ⟨v1, hv1⟩ : ∃ v, textsS ps ps' = v := ⟨_, rfl⟩
    rw [hv1] at hS0 C10
    have C1 := Lib.hid C10
    obtain ⟨v2, hv2⟩ : ∃ v, textsS ds ds' = v := ⟨_, rfl⟩
    rw [hv2] at hS0 C20
    have C2 := Lib.hid C20
    obtain ⟨v3, hv3⟩ : ∃ v, listSame coSame cs cs' = v := ⟨_, rfl⟩
    rw [hv3] at hS0 C30
    have C3 := Lib.hid C30
    have HS := Lib.hid hS0
    clear hS0 hRES hv1 C10 hv2 C20 hv3 C30
    try simp only [List.cons_append, List.nil_append]
    have b1 := (Blk.new w 79 #[.string nm, .slice A ps.length c, .slice Ac cs.length cc, .slice Ad ds.length cd, .int .i64 q]).alloc (.cells #[.string nm', .slice A' ps'.length c', .slice Ac' cs'.length cc', .slice Ad' ds'.length cd', .int .i64 q'] 79)
    have b2 := Blk.new (w.alloc (.cells #[.string nm, .slice A ps.length c, .slice Ac cs.length cc, .slice Ad ds.length cd, .int .i64 q] 79)) 79 #[.string nm', .slice A' ps'.length c', .slice Ac' cs'.length cc', .slice Ad' ds'.length cd', .int .i64 q']
    obtain ⟨W2, hW2⟩ : ∃ W2, (w.alloc (.cells #[.string nm, .slice A ps.length c, .slice Ac cs.length cc, .slice Ad ds.length cd, .int .i64 q] 79)).alloc (.cells #[.string nm', .slice A' ps'.length c', .slice Ac' cs'.length cc', .slice Ad' ds'.length cd', .int .i64 q'] 79) = W2 := ⟨_, rfl⟩
    have hbW : Below w.heap.size w W2 := by rw [← hW2]; exact ((Below.refl _ _).alloc (Nat.le_refl _) _).alloc (by simp) _
    have hzW : W2.heap.size = w.heap.size + 1 + 1 := by rw [← hW2]; simp
    rw [hW2] at b1 b2
    rw [World.size_alloc] at b2
    have HW := Lib.hid hW2
    have HBW := Lib.hid hbW
    have HB1 := Lib.hid (fun (W : World) (hW : Below W2.heap.size W2 W) (i : Nat) => (hW.cell (p := ⟨w.heap.size, i, none⟩) b1.lt).trans (b1.cell i))
    have HB2 := Lib.hid (fun (W : World) (hW : Below W2.heap.size W2 W) (i : Nat) => (hW.cell (p := ⟨w.heap.size + 1, i, none⟩) b2.lt).trans (b2.cell i))
    clear b1 b2 hW2 hbW hzW
    by_cases e0 : nm.data.toList = nm'.data.toList
    · have d0 := nm_same e0
      have z0 := Lib.hid (show nmSame nm nm' = true by unfold nmSame; simpa using e0)
      clear e0
      cases v1 with
      | false =>
        have HE := Lib.hid (show RES = false by rw [HS.out]; simp)
        go_enter Try.func44, Try.ntmps44
        go_wp2_with fail
        rw [HW.out]
        have x0W2 := HB1.out W2 (Below.refl W2.heap.size W2) 0
        have y0W2 := HB2.out W2 (Below.refl W2.heap.size W2) 0
        have x1W2 := HB1.out W2 (Below.refl W2.heap.size W2) 1
        have y1W2 := HB2.out W2 (Below.refl W2.heap.size W2) 1
        have x2W2 := HB1.out W2 (Below.refl W2.heap.size W2) 2
        have y2W2 := HB2.out W2 (Below.refl W2.heap.size W2) 2
        have x3W2 := HB1.out W2 (Below.refl W2.heap.size W2) 3
        have y3W2 := HB2.out W2 (Below.refl W2.heap.size W2) 3
        have x4W2 := HB1.out W2 (Below.refl W2.heap.size W2) 4
        have y4W2 := HB2.out W2 (Below.refl W2.heap.size W2) 4
        simp only [List.getElem?_toArray, List.getElem?_cons_succ, List.getElem?_cons_zero] at x0W2 y0W2 x1W2 y1W2 x2W2 y2W2 x3W2 y3W2 x4W2 y4W2
        have hk1 : Below W2.heap.size W2 W2 := Below.refl _ _
        have hc1 := HBW.out
        go_wp2_with (go_at_call 61; (with_reducible refine (C1.out _ hc1).mono ?_); rintro e w2 ⟨rfl, hb2⟩; (have hk2 : Below W2.heap.size W2 w2 := hk1.trans (hb2.mono hk1.size)); (have hc2 : Below w.heap.size w w2 := HBW.out.trans (hk2.mono HBW.out.size)))
        go_ret
        exact ⟨ret_bool HE.out.symm, hc2⟩
      | true =>
        cases v2 with
        | false =>
          have HE := Lib.hid (show RES = false by rw [HS.out]; simp)
          go_enter Try.func44, Try.ntmps44
          go_wp2_with fail
          rw [HW.out]
          have x0W2 := HB1.out W2 (Below.refl W2.heap.size W2) 0
          have y0W2 := HB2.out W2 (Below.refl W2.heap.size W2) 0
          have x1W2 := HB1.out W2 (Below.refl W2.heap.size W2) 1
          have y1W2 := HB2.out W2 (Below.refl W2.heap.size W2) 1
          have x2W2 := HB1.out W2 (Below.refl W2.heap.size W2) 2
          have y2W2 := HB2.out W2 (Below.refl W2.heap.size W2) 2
          have x3W2 := HB1.out W2 (Below.refl W2.heap.size W2) 3
          have y3W2 := HB2.out W2 (Below.refl W2.heap.size W2) 3
          have x4W2 := HB1.out W2 (Below.refl W2.heap.size W2) 4
          have y4W2 := HB2.out W2 (Below.refl W2.heap.size W2) 4
          simp only [List.getElem?_toArray, List.getElem?_cons_succ, List.getElem?_cons_zero] at x0W2 y0W2 x1W2 y1W2 x2W2 y2W2 x3W2 y3W2 x4W2 y4W2
          have hk1 : Below W2.heap.size W2 W2 := Below.refl _ _
          have hc1 := HBW.out
          go_wp2_with (go_at_call 61; (with_reducible refine (C1.out _ hc1).mono ?_); rintro e w2 ⟨rfl, hb2⟩; (have hk2 : Below W2.heap.size W2 w2 := hk1.trans (hb2.mono hk1.size)); (have hc2 : Below w.heap.size w w2 := HBW.out.trans (hk2.mono HBW.out.size)); (have x0w2 := HB1.out w2 hk2 0); (have y0w2 := HB2.out w2 hk2 0); (have x1w2 := HB1.out w2 hk2 1); (have y1w2 := HB2.out w2 hk2 1); (have x2w2 := HB1.out w2 hk2 2); (have y2w2 := HB2.out w2 hk2 2); (have x3w2 := HB1.out w2 hk2 3); (have y3w2 := HB2.out w2 hk2 3); (have x4w2 := HB1.out w2 hk2 4); (have y4w2 := HB2.out w2 hk2 4); (simp only [List.getElem?_toArray, List.getElem?_cons_succ, List.getElem?_cons_zero] at x0w2 y0w2 x1w2 y1w2 x2w2 y2w2 x3w2 y3w2 x4w2 y4w2))
          go_wp2_with (go_at_call 61; (with_reducible refine (C2.out _ hc2).mono ?_); rintro e w3 ⟨rfl, hb3⟩; (have hk3 : Below W2.heap.size W2 w3 := hk2.trans (hb3.mono hk2.size)); (have hc3 : Below w.heap.size w w3 := HBW.out.trans (hk3.mono HBW.out.size)))
          go_ret
          exact ⟨ret_bool HE.out.symm, hc3⟩
        | true =>
          have HE := Lib.hid (show RES = v3 by rw [HS.out, z0.out]; simp)
          go_enter Try.func44, Try.ntmps44
          go_wp2_with fail
          rw [HW.out]
          have x0W2 := HB1.out W2 (Below.refl W2.heap.size W2) 0
          have y0W2 := HB2.out W2 (Below.refl W2.heap.size W2) 0
          have x1W2 := HB1.out W2 (Below.refl W2.heap.size W2) 1
          have y1W2 := HB2.out W2 (Below.refl W2.heap.size W2) 1
          have x2W2 := HB1.out W2 (Below.refl W2.heap.size W2) 2
          have y2W2 := HB2.out W2 (Below.refl W2.heap.size W2) 2
          have x3W2 := HB1.out W2 (Below.refl W2.heap.size W2) 3
          have y3W2 := HB2.out W2 (Below.refl W2.heap.size W2) 3
          have x4W2 := HB1.out W2 (Below.refl W2.heap.size W2) 4
          have y4W2 := HB2.out W2 (Below.refl W2.heap.size W2) 4
          simp only [List.getElem?_toArray, List.getElem?_cons_succ, List.getElem?_cons_zero] at x0W2 y0W2 x1W2 y1W2 x2W2 y2W2 x3W2 y3W2 x4W2 y4W2
          have hk1 : Below W2.heap.size W2 W2 := Below.refl _ _
          have hc1 := HBW.out
          go_wp2_with (go_at_call 61; (with_reducible refine (C1.out _ hc1).mono ?_); rintro e w2 ⟨rfl, hb2⟩; (have hk2 : Below W2.heap.size W2 w2 := hk1.trans (hb2.mono hk1.size)); (have hc2 : Below w.heap.size w w2 := HBW.out.trans (hk2.mono HBW.out.size)); (have x0w2 := HB1.out w2 hk2 0); (have y0w2 := HB2.out w2 hk2 0); (have x1w2 := HB1.out w2 hk2 1); (have y1w2 := HB2.out w2 hk2 1); (have x2w2 := HB1.out w2 hk2 2); (have y2w2 := HB2.out w2 hk2 2); (have x3w2 := HB1.out w2 hk2 3); (have y3w2 := HB2.out w2 hk2 3); (have x4w2 := HB1.out w2 hk2 4); (have y4w2 := HB2.out w2 hk2 4); (simp only [List.getElem?_toArray, List.getElem?_cons_succ, List.getElem?_cons_zero] at x0w2 y0w2 x1w2 y1w2 x2w2 y2w2 x3w2 y3w2 x4w2 y4w2))
          go_wp2_with (go_at_call 61; (with_reducible refine (C2.out _ hc2).mono ?_); rintro e w3 ⟨rfl, hb3⟩; (have hk3 : Below W2.heap.size W2 w3 := hk2.trans (hb3.mono hk2.size)); (have hc3 : Below w.heap.size w w3 := HBW.out.trans (hk3.mono HBW.out.size)); (have x0w3 := HB1.out w3 hk3 0); (have y0w3 := HB2.out w3 hk3 0); (have x1w3 := HB1.out w3 hk3 1); (have y1w3 := HB2.out w3 hk3 1); (have x2w3 := HB1.out w3 hk3 2); (have y2w3 := HB2.out w3 hk3 2); (have x3w3 := HB1.out w3 hk3 3); (have y3w3 := HB2.out w3 hk3 3); (have x4w3 := HB1.out w3 hk3 4); (have y4w3 := HB2.out w3 hk3 4); (simp only [List.getElem?_toArray, List.getElem?_cons_succ, List.getElem?_cons_zero] at x0w3 y0w3 x1w3 y1w3 x2w3 y2w3 x3w3 y3w3 x4w3 y4w3))
          go_wp2_with (go_at_call 62; (with_reducible refine (C3.out _ hc3).mono ?_); rintro e w4 ⟨rfl, hb4⟩; (have hk4 : Below W2.heap.size W2 w4 := hk3.trans (hb4.mono hk3.size)); (have hc4 : Below w.heap.size w w4 := HBW.out.trans (hk4.mono HBW.out.size)))
          go_ret
          exact ⟨ret_bool HE.out.symm, hc4⟩
    · have d0 := nm_other e0
      have HE := Lib.hid (show RES = false by rw [HS.out, show nmSame nm nm' = false by unfold nmSame; simpa using e0]; simp)
      clear e0
      go_enter Try.func44, Try.ntmps44
      go_wp2_with fail
      rw [HW.out]
      have x0W2 := HB1.out W2 (Below.refl W2.heap.size W2) 0
      have y0W2 := HB2.out W2 (Below.refl W2.heap.size W2) 0
      have x1W2 := HB1.out W2 (Below.refl W2.heap.size W2) 1
      have y1W2 := HB2.out W2 (Below.refl W2.heap.size W2) 1
      have x2W2 := HB1.out W2 (Below.refl W2.heap.size W2) 2
      have y2W2 := HB2.out W2 (Below.refl W2.heap.size W2) 2
      have x3W2 := HB1.out W2 (Below.refl W2.heap.size W2) 3
      have y3W2 := HB2.out W2 (Below.refl W2.heap.size W2) 3
      have x4W2 := HB1.out W2 (Below.refl W2.heap.size W2) 4
      have y4W2 := HB2.out W2 (Below.refl W2.heap.size W2) 4
      simp only [List.getElem?_toArray, List.getElem?_cons_succ, List.getElem?_cons_zero] at x0W2 y0W2 x1W2 y1W2 x2W2 y2W2 x3W2 y3W2 x4W2 y4W2
      have hk1 : Below W2.heap.size W2 W2 := Below.refl _ _
      have hc1 := HBW.out
      go_wp2_with fail
      go_ret
      exact ⟨ret_bool HE.out.symm, hc1⟩

set_option maxHeartbeats 3200000 in
theorem psameclass (t u : Cl) (B : Nat) (w : World) (cs ds : List Value) (hB : B ≤ w.heap.size) (hx : ClAt w B cs t) (hy : ClAt w B ds u) :
    Calls Try.prog 46 #[.agg cs.toArray, .agg ds.toArray] w fun e w' => e = .returned (.bool (clSame t u)) ∧ Below w.heap.size w w' := by
  cases hx with
  | @mk nm vr A Am Ab c cm cb sp ms bs q h1 h2 h3 hs hm hb0 =>
  cases hy with
  | @mk nm' vr' A' Am' Ab' c' cm' cb' sp' ms' bs' q' h1' h2' h3' hs' hm' hb0' =>
    have C10 := fun W (hb : Below w.heap.size w W) => pequal_any sp sp' A A' sp.length sp'.length c c' B W (by have h9 := h1; unfold maxLen at h9; omega) (hs.below (hb.mono hB)) (hs'.below (hb.mono hB))
    have C20 := fun W (hb : Below w.heap.size w W) => pl_me ms ms' Am Am' cm cm' B W (Nat.le_trans hB hb.size) h2 (RowOf.later (R := fun w => MeAt w B) hm (hb.mono hB) fun _ _ h => MeAt.later h (hb.mono hB)) (RowOf.later (R := fun w => MeAt w B) hm' (hb.mono hB) fun _ _ h => MeAt.later h (hb.mono hB))
    have C30 := fun W (hb : Below w.heap.size w W) => pl_bd bs bs' Ab Ab' cb cb' B W (Nat.le_trans hB hb.size) h3 (RowOf.later (R := fun w => BdAt w B) hb0 (hb.mono hB) fun _ _ h => BdAt.later h (hb.mono hB)) (RowOf.later (R := fun w => BdAt w B) hb0' (hb.mono hB) fun _ _ h => BdAt.later h (hb.mono hB))
    obtain ⟨RES, hRES⟩ : ∃ r, clSame ⟨nm, vr, sp, ms, bs⟩ ⟨nm', vr', sp', ms', bs'⟩ = r := ⟨_, rfl⟩
    rw [hRES]
    have hS0 : RES = (nmSame nm nm' && (nmSame vr vr' && (textsS sp sp' && (listSame meSame ms ms' && listSame bdSame bs bs')))) := by rw [← hRES]; rfl
    obtain ⟨v1, hv1⟩ : ∃ v, textsS sp sp' = v := ⟨_, rfl⟩
    rw [hv1] at hS0 C10
    have C1 := Lib.hid C10
    obtain ⟨v2, hv2⟩ : ∃ v, listSame meSame ms ms' = v := ⟨_, rfl⟩
    rw [hv2] at hS0 C20
    have C2 := Lib.hid C20
    obtain ⟨v3, hv3⟩ : ∃ v, listSame bdSame bs bs' = v := ⟨_, rfl⟩
    rw [hv3] at hS0 C30
    have C3 := Lib.hid C30
    have HS := Lib.hid hS0
    clear hS0 hRES hv1 C10 hv2 C20 hv3 C30
    try simp only [List.cons_append, List.nil_append]
    have b1 := (Blk.new w 73 #[.string nm, .string vr, .slice A sp.length c, .slice Am ms.length cm, .slice Ab bs.length cb, .int .i64 q]).alloc (.cells #[.string nm', .string vr', .slice A' sp'.length c', .slice Am' ms'.length cm', .slice Ab' bs'.length cb', .int .i64 q'] 73)
    have b2 := Blk.new (w.alloc (.cells #[.string nm, .string vr, .slice A sp.length c, .slice Am ms.length cm, .slice Ab bs.length cb, .int .i64 q] 73)) 73 #[.string nm', .string vr', .slice A' sp'.length c', .slice Am' ms'.length cm', .slice Ab' bs'.length cb', .int .i64 q']
    obtain ⟨W2, hW2⟩ : ∃ W2, (w.alloc (.cells #[.string nm, .string vr, .slice A sp.length c, .slice Am ms.length cm, .slice Ab bs.length cb, .int .i64 q] 73)).alloc (.cells #[.string nm', .string vr', .slice A' sp'.length c', .slice Am' ms'.length cm', .slice Ab' bs'.length cb', .int .i64 q'] 73) = W2 := ⟨_, rfl⟩
    have hbW : Below w.heap.size w W2 := by rw [← hW2]; exact ((Below.refl _ _).alloc (Nat.le_refl _) _).alloc (by simp) _
    have hzW : W2.heap.size = w.heap.size + 1 + 1 := by rw [← hW2]; simp
    rw [hW2] at b1 b2
    rw [World.size_alloc] at b2
    have HW := Lib.hid hW2
    have HBW := Lib.hid hbW
    have HB1 := Lib.hid (fun (W : World) (hW : Below W2.heap.size W2 W) (i : Nat) => (hW.cell (p := ⟨w.heap.size, i, none⟩) b1.lt).trans (b1.cell i))
    have HB2 := Lib.hid (fun (W : World) (hW : Below W2.heap.size W2 W) (i : Nat) => (hW.cell (p := ⟨w.heap.size + 1, i, none⟩) b2.lt).trans (b2.cell i))
    clear b1 b2 hW2 hbW hzW
    by_cases e0 : nm.data.toList = nm'.data.toList
    · have d0 := nm_same e0
      have z0 := Lib.hid (show nmSame nm nm' = true by unfold nmSame; simpa using e0)
      clear e0
      by_cases e1 : vr.data.toList = vr'.data.toList
      · have d1 := nm_same e1
        have z1 := Lib.hid (show nmSame vr vr' = true by unfold nmSame; simpa using e1)
        clear e1
        cases v1 with
        | false =>
          have HE := Lib.hid (show RES = false by rw [HS.out]; simp)
          go_enter Try.func46, Try.ntmps46
          go_wp2_with fail
          rw [HW.out]
          have x0W2 := HB1.out W2 (Below.refl W2.heap.size W2) 0
          have y0W2 := HB2.out W2 (Below.refl W2.heap.size W2) 0
          have x1W2 := HB1.out W2 (Below.refl W2.heap.size W2) 1
          have y1W2 := HB2.out W2 (Below.refl W2.heap.size W2) 1
          have x2W2 := HB1.out W2 (Below.refl W2.heap.size W2) 2
          have y2W2 := HB2.out W2 (Below.refl W2.heap.size W2) 2
          have x3W2 := HB1.out W2 (Below.refl W2.heap.size W2) 3
          have y3W2 := HB2.out W2 (Below.refl W2.heap.size W2) 3
          have x4W2 := HB1.out W2 (Below.refl W2.heap.size W2) 4
          have y4W2 := HB2.out W2 (Below.refl W2.heap.size W2) 4
          have x5W2 := HB1.out W2 (Below.refl W2.heap.size W2) 5
          have y5W2 := HB2.out W2 (Below.refl W2.heap.size W2) 5
          simp only [List.getElem?_toArray, List.getElem?_cons_succ, List.getElem?_cons_zero] at x0W2 y0W2 x1W2 y1W2 x2W2 y2W2 x3W2 y3W2 x4W2 y4W2 x5W2 y5W2
          have hk1 : Below W2.heap.size W2 W2 := Below.refl _ _
          have hc1 := HBW.out
          go_wp2_with (go_at_call 61; (with_reducible refine (C1.out _ hc1).mono ?_); rintro e w2 ⟨rfl, hb2⟩; (have hk2 : Below W2.heap.size W2 w2 := hk1.trans (hb2.mono hk1.size)); (have hc2 : Below w.heap.size w w2 := HBW.out.trans (hk2.mono HBW.out.size)))
          go_ret
          exact ⟨ret_bool HE.out.symm, hc2⟩
        | true =>
          cases v2 with
          | false =>
            have HE := Lib.hid (show RES = false by rw [HS.out]; simp)
            go_enter Try.func46, Try.ntmps46
            go_wp2_with fail
            rw [HW.out]
            have x0W2 := HB1.out W2 (Below.refl W2.heap.size W2) 0
            have y0W2 := HB2.out W2 (Below.refl W2.heap.size W2) 0
            have x1W2 := HB1.out W2 (Below.refl W2.heap.size W2) 1
            have y1W2 := HB2.out W2 (Below.refl W2.heap.size W2) 1
            have x2W2 := HB1.out W2 (Below.refl W2.heap.size W2) 2
            have y2W2 := HB2.out W2 (Below.refl W2.heap.size W2) 2
            have x3W2 := HB1.out W2 (Below.refl W2.heap.size W2) 3
            have y3W2 := HB2.out W2 (Below.refl W2.heap.size W2) 3
            have x4W2 := HB1.out W2 (Below.refl W2.heap.size W2) 4
            have y4W2 := HB2.out W2 (Below.refl W2.heap.size W2) 4
            have x5W2 := HB1.out W2 (Below.refl W2.heap.size W2) 5
            have y5W2 := HB2.out W2 (Below.refl W2.heap.size W2) 5
            simp only [List.getElem?_toArray, List.getElem?_cons_succ, List.getElem?_cons_zero] at x0W2 y0W2 x1W2 y1W2 x2W2 y2W2 x3W2 y3W2 x4W2 y4W2 x5W2 y5W2
            have hk1 : Below W2.heap.size W2 W2 := Below.refl _ _
            have hc1 := HBW.out
            go_wp2_with (go_at_call 61; (with_reducible refine (C1.out _ hc1).mono ?_); rintro e w2 ⟨rfl, hb2⟩; (have hk2 : Below W2.heap.size W2 w2 := hk1.trans (hb2.mono hk1.size)); (have hc2 : Below w.heap.size w w2 := HBW.out.trans (hk2.mono HBW.out.size)); (have x0w2 := HB1.out w2 hk2 0); (have y0w2 := HB2.out w2 hk2 0); (have x1w2 := HB1.out w2 hk2 1); (have y1w2 := HB2.out w2 hk2 1); (have x2w2 := HB1.out w2 hk2 2); (have y2w2 := HB2.out w2 hk2 2); (have x3w2 := HB1.out w2 hk2 3); (have y3w2 := HB2.out w2 hk2 3); (have x4w2 := HB1.out w2 hk2 4); (have y4w2 := HB2.out w2 hk2 4); (have x5w2 := HB1.out w2 hk2 5); (have y5w2 := HB2.out w2 hk2 5); (simp only [List.getElem?_toArray, List.getElem?_cons_succ, List.getElem?_cons_zero] at x0w2 y0w2 x1w2 y1w2 x2w2 y2w2 x3w2 y3w2 x4w2 y4w2 x5w2 y5w2))
            go_wp2_with (go_at_call 64; (with_reducible refine (C2.out _ hc2).mono ?_); rintro e w3 ⟨rfl, hb3⟩; (have hk3 : Below W2.heap.size W2 w3 := hk2.trans (hb3.mono hk2.size)); (have hc3 : Below w.heap.size w w3 := HBW.out.trans (hk3.mono HBW.out.size)))
            go_ret
            exact ⟨ret_bool HE.out.symm, hc3⟩
          | true =>
            have HE := Lib.hid (show RES = v3 by rw [HS.out, z0.out, z1.out]; simp)
            go_enter Try.func46, Try.ntmps46
            go_wp2_with fail
            rw [HW.out]
            have x0W2 := HB1.out W2 (Below.refl W2.heap.size W2) 0
            have y0W2 := HB2.out W2 (Below.refl W2.heap.size W2) 0
            have x1W2 := HB1.out W2 (Below.refl W2.heap.size W2) 1
            have y1W2 := HB2.out W2 (Below.refl W2.heap.size W2) 1
            have x2W2 := HB1.out W2 (Below.refl W2.heap.size W2) 2
            have y2W2 := HB2.out W2 (Below.refl W2.heap.size W2) 2
            have x3W2 := HB1.out W2 (Below.refl W2.heap.size W2) 3
            have y3W2 := HB2.out W2 (Below.refl W2.heap.size W2) 3
            have x4W2 := HB1.out W2 (Below.refl W2.heap.size W2) 4
            have y4W2 := HB2.out W2 (Below.refl W2.heap.size W2) 4
            have x5W2 := HB1.out W2 (Below.refl W2.heap.size W2) 5
            have y5W2 := HB2.out W2 (Below.refl W2.heap.size W2) 5
            simp only [List.getElem?_toArray, List.getElem?_cons_succ, List.getElem?_cons_zero] at x0W2 y0W2 x1W2 y1W2 x2W2 y2W2 x3W2 y3W2 x4W2 y4W2 x5W2 y5W2
            have hk1 : Below W2.heap.size W2 W2 := Below.refl _ _
            have hc1 := HBW.out
            go_wp2_with (go_at_call 61; (with_reducible refine (C1.out _ hc1).mono ?_); rintro e w2 ⟨rfl, hb2⟩; (have hk2 : Below W2.heap.size W2 w2 := hk1.trans (hb2.mono hk1.size)); (have hc2 : Below w.heap.size w w2 := HBW.out.trans (hk2.mono HBW.out.size)); (have x0w2 := HB1.out w2 hk2 0); (have y0w2 := HB2.out w2 hk2 0); (have x1w2 := HB1.out w2 hk2 1); (have y1w2 := HB2.out w2 hk2 1); (have x2w2 := HB1.out w2 hk2 2); (have y2w2 := HB2.out w2 hk2 2); (have x3w2 := HB1.out w2 hk2 3); (have y3w2 := HB2.out w2 hk2 3); (have x4w2 := HB1.out w2 hk2 4); (have y4w2 := HB2.out w2 hk2 4); (have x5w2 := HB1.out w2 hk2 5); (have y5w2 := HB2.out w2 hk2 5); (simp only [List.getElem?_toArray, List.getElem?_cons_succ, List.getElem?_cons_zero] at x0w2 y0w2 x1w2 y1w2 x2w2 y2w2 x3w2 y3w2 x4w2 y4w2 x5w2 y5w2))
            go_wp2_with (go_at_call 64; (with_reducible refine (C2.out _ hc2).mono ?_); rintro e w3 ⟨rfl, hb3⟩; (have hk3 : Below W2.heap.size W2 w3 := hk2.trans (hb3.mono hk2.size)); (have hc3 : Below w.heap.size w w3 := HBW.out.trans (hk3.mono HBW.out.size)); (have x0w3 := HB1.out w3 hk3 0); (have y0w3 := HB2.out w3 hk3 0); (have x1w3 := HB1.out w3 hk3 1); (have y1w3 := HB2.out w3 hk3 1); (have x2w3 := HB1.out w3 hk3 2); (have y2w3 := HB2.out w3 hk3 2); (have x3w3 := HB1.out w3 hk3 3); (have y3w3 := HB2.out w3 hk3 3); (have x4w3 := HB1.out w3 hk3 4); (have y4w3 := HB2.out w3 hk3 4); (have x5w3 := HB1.out w3 hk3 5); (have y5w3 := HB2.out w3 hk3 5); (simp only [List.getElem?_toArray, List.getElem?_cons_succ, List.getElem?_cons_zero] at x0w3 y0w3 x1w3 y1w3 x2w3 y2w3 x3w3 y3w3 x4w3 y4w3 x5w3 y5w3))
            go_wp2_with (go_at_call 35; (with_reducible refine (C3.out _ hc3).mono ?_); rintro e w4 ⟨rfl, hb4⟩; (have hk4 : Below W2.heap.size W2 w4 := hk3.trans (hb4.mono hk3.size)); (have hc4 : Below w.heap.size w w4 := HBW.out.trans (hk4.mono HBW.out.size)))
            go_ret
            exact ⟨ret_bool HE.out.symm, hc4⟩
      · have d1 := nm_other e1
        have HE := Lib.hid (show RES = false by rw [HS.out, show nmSame vr vr' = false by unfold nmSame; simpa using e1]; simp)
        clear e1
        go_enter Try.func46, Try.ntmps46
        go_wp2_with fail
        rw [HW.out]
        have x0W2 := HB1.out W2 (Below.refl W2.heap.size W2) 0
        have y0W2 := HB2.out W2 (Below.refl W2.heap.size W2) 0
        have x1W2 := HB1.out W2 (Below.refl W2.heap.size W2) 1
        have y1W2 := HB2.out W2 (Below.refl W2.heap.size W2) 1
        have x2W2 := HB1.out W2 (Below.refl W2.heap.size W2) 2
        have y2W2 := HB2.out W2 (Below.refl W2.heap.size W2) 2
        have x3W2 := HB1.out W2 (Below.refl W2.heap.size W2) 3
        have y3W2 := HB2.out W2 (Below.refl W2.heap.size W2) 3
        have x4W2 := HB1.out W2 (Below.refl W2.heap.size W2) 4
        have y4W2 := HB2.out W2 (Below.refl W2.heap.size W2) 4
        have x5W2 := HB1.out W2 (Below.refl W2.heap.size W2) 5
        have y5W2 := HB2.out W2 (Below.refl W2.heap.size W2) 5
        simp only [List.getElem?_toArray, List.getElem?_cons_succ, List.getElem?_cons_zero] at x0W2 y0W2 x1W2 y1W2 x2W2 y2W2 x3W2 y3W2 x4W2 y4W2 x5W2 y5W2
        have hk1 : Below W2.heap.size W2 W2 := Below.refl _ _
        have hc1 := HBW.out
        go_wp2_with fail
        go_ret
        exact ⟨ret_bool HE.out.symm, hc1⟩
    · have d0 := nm_other e0
      have HE := Lib.hid (show RES = false by rw [HS.out, show nmSame nm nm' = false by unfold nmSame; simpa using e0]; simp)
      clear e0
      go_enter Try.func46, Try.ntmps46
      go_wp2_with fail
      rw [HW.out]
      have x0W2 := HB1.out W2 (Below.refl W2.heap.size W2) 0
      have y0W2 := HB2.out W2 (Below.refl W2.heap.size W2) 0
      have x1W2 := HB1.out W2 (Below.refl W2.heap.size W2) 1
      have y1W2 := HB2.out W2 (Below.refl W2.heap.size W2) 1
      have x2W2 := HB1.out W2 (Below.refl W2.heap.size W2) 2
      have y2W2 := HB2.out W2 (Below.refl W2.heap.size W2) 2
      have x3W2 := HB1.out W2 (Below.refl W2.heap.size W2) 3
      have y3W2 := HB2.out W2 (Below.refl W2.heap.size W2) 3
      have x4W2 := HB1.out W2 (Below.refl W2.heap.size W2) 4
      have y4W2 := HB2.out W2 (Below.refl W2.heap.size W2) 4
      have x5W2 := HB1.out W2 (Below.refl W2.heap.size W2) 5
      have y5W2 := HB2.out W2 (Below.refl W2.heap.size W2) 5
      simp only [List.getElem?_toArray, List.getElem?_cons_succ, List.getElem?_cons_zero] at x0W2 y0W2 x1W2 y1W2 x2W2 y2W2 x3W2 y3W2 x4W2 y4W2 x5W2 y5W2
      have hk1 : Below W2.heap.size W2 W2 := Below.refl _ _
      have hc1 := HBW.out
      go_wp2_with fail
      go_ret
      exact ⟨ret_bool HE.out.symm, hc1⟩

set_option maxHeartbeats 3200000 in
theorem psameinst (t u : Ins) (B : Nat) (w : World) (cs ds : List Value) (hB : B ≤ w.heap.size) (hx : InAt w B cs t) (hy : InAt w B ds u) :
    Calls Try.prog 48 #[.agg cs.toArray, .agg ds.toArray] w fun e w' => e = .returned (.bool (inSame t u)) ∧ Below w.heap.size w w' := by
  cases hx with
  | @mk nm t T A Ab c cb ps bs q h1 h2 ht hp hb0 =>
  cases hy with
  | @mk nm' t' T' A' Ab' c' cb' ps' bs' q' h1' h2' ht' hp' hb0' =>
    obtain ⟨a0, a1, a2, a3, rfl⟩ := four_of ht.four
    obtain ⟨f0, f1, f2, f3, rfl⟩ := four_of ht'.four
    have sa0 := store_one a0 (ty_ones ht a0 (by simp))
    have sa1 := store_one a1 (ty_ones ht a1 (by simp))
    have sa2 := store_one a2 (ty_ones ht a2 (by simp))
    have sa3 := store_one a3 (ty_ones ht a3 (by simp))
    have sf0 := store_one f0 (ty_ones ht' f0 (by simp))
    have sf1 := store_one f1 (ty_ones ht' f1 (by simp))
    have sf2 := store_one f2 (ty_ones ht' f2 (by simp))
    have sf3 := store_one f3 (ty_ones ht' f3 (by simp))
    have C10 := fun W (hb : Below w.heap.size w W) => psametype_any t.nodes t t' (Nat.le_refl _) B W [a0, a1, a2, a3] [f0, f1, f2, f3] (Nat.le_trans hB hb.size) (ht.later (hb.mono hB)) (ht'.later (hb.mono hB))
    have C20 := fun W (hb : Below w.heap.size w W) => pl_pr ps ps' A A' c c' B W (Nat.le_trans hB hb.size) h1 (RowOf.later (R := fun w => PrAt w B) hp (hb.mono hB) fun _ _ h => PrAt.later h (hb.mono hB)) (RowOf.later (R := fun w => PrAt w B) hp' (hb.mono hB) fun _ _ h => PrAt.later h (hb.mono hB))
    have C30 := fun W (hb : Below w.heap.size w W) => pl_bd bs bs' Ab Ab' cb cb' B W (Nat.le_trans hB hb.size) h2 (RowOf.later (R := fun w => BdAt w B) hb0 (hb.mono hB) fun _ _ h => BdAt.later h (hb.mono hB)) (RowOf.later (R := fun w => BdAt w B) hb0' (hb.mono hB) fun _ _ h => BdAt.later h (hb.mono hB))
    obtain ⟨RES, hRES⟩ : ∃ r, inSame ⟨nm, t, ps, bs⟩ ⟨nm', t', ps', bs'⟩ = r := ⟨_, rfl⟩
    rw [hRES]
    have hS0 : RES = (nmSame nm nm' && (tySame t t' && (listSame meSame ps ps' && listSame bdSame bs bs'))) := by rw [← hRES]; rfl
    obtain ⟨v1, hv1⟩ : ∃ v, tySame t t' = v := ⟨_, rfl⟩
    rw [hv1] at hS0 C10
    have C1 := Lib.hid C10
    obtain ⟨v2, hv2⟩ : ∃ v, listSame meSame ps ps' = v := ⟨_, rfl⟩
    rw [hv2] at hS0 C20
    have C2 := Lib.hid C20
    obtain ⟨v3, hv3⟩ : ∃ v, listSame bdSame bs bs' = v := ⟨_, rfl⟩
    rw [hv3] at hS0 C30
    have C3 := Lib.hid C30
    have HS := Lib.hid hS0
    clear hS0 hRES hv1 C10 hv2 C20 hv3 C30
    try simp only [List.cons_append, List.nil_append]
    have b1 := (Blk.new w 76 #[.string nm, a0, a1, a2, a3, .slice A ps.length c, .slice Ab bs.length cb, .int .i64 q]).alloc (.cells #[.string nm', f0, f1, f2, f3, .slice A' ps'.length c', .slice Ab' bs'.length cb', .int .i64 q'] 76)
    have b2 := Blk.new (w.alloc (.cells #[.string nm, a0, a1, a2, a3, .slice A ps.length c, .slice Ab bs.length cb, .int .i64 q] 76)) 76 #[.string nm', f0, f1, f2, f3, .slice A' ps'.length c', .slice Ab' bs'.length cb', .int .i64 q']
    obtain ⟨W2, hW2⟩ : ∃ W2, (w.alloc (.cells #[.string nm, a0, a1, a2, a3, .slice A ps.length c, .slice Ab bs.length cb, .int .i64 q] 76)).alloc (.cells #[.string nm', f0, f1, f2, f3, .slice A' ps'.length c', .slice Ab' bs'.length cb', .int .i64 q'] 76) = W2 := ⟨_, rfl⟩
    have hbW : Below w.heap.size w W2 := by rw [← hW2]; exact ((Below.refl _ _).alloc (Nat.le_refl _) _).alloc (by simp) _
    have hzW : W2.heap.size = w.heap.size + 1 + 1 := by rw [← hW2]; simp
    rw [hW2] at b1 b2
    rw [World.size_alloc] at b2
    have HW := Lib.hid hW2
    have HBW := Lib.hid hbW
    have HB1 := Lib.hid (fun (W : World) (hW : Below W2.heap.size W2 W) (i : Nat) => (hW.cell (p := ⟨w.heap.size, i, none⟩) b1.lt).trans (b1.cell i))
    have HB2 := Lib.hid (fun (W : World) (hW : Below W2.heap.size W2 W) (i : Nat) => (hW.cell (p := ⟨w.heap.size + 1, i, none⟩) b2.lt).trans (b2.cell i))
    clear b1 b2 hW2 hbW hzW
    by_cases e0 : nm.data.toList = nm'.data.toList
    · have d0 := nm_same e0
      have z0 := Lib.hid (show nmSame nm nm' = true by unfold nmSame; simpa using e0)
      clear e0
      cases v1 with
      | false =>
        have HE := Lib.hid (show RES = false by rw [HS.out]; simp)
        go_enter Try.func48, Try.ntmps48
        go_wp2_with fail
        rw [HW.out]
        have x0W2 := HB1.out W2 (Below.refl W2.heap.size W2) 0
        have y0W2 := HB2.out W2 (Below.refl W2.heap.size W2) 0
        have x1W2 := HB1.out W2 (Below.refl W2.heap.size W2) 1
        have y1W2 := HB2.out W2 (Below.refl W2.heap.size W2) 1
        have x2W2 := HB1.out W2 (Below.refl W2.heap.size W2) 2
        have y2W2 := HB2.out W2 (Below.refl W2.heap.size W2) 2
        have x3W2 := HB1.out W2 (Below.refl W2.heap.size W2) 3
        have y3W2 := HB2.out W2 (Below.refl W2.heap.size W2) 3
        have x4W2 := HB1.out W2 (Below.refl W2.heap.size W2) 4
        have y4W2 := HB2.out W2 (Below.refl W2.heap.size W2) 4
        have x5W2 := HB1.out W2 (Below.refl W2.heap.size W2) 5
        have y5W2 := HB2.out W2 (Below.refl W2.heap.size W2) 5
        have x6W2 := HB1.out W2 (Below.refl W2.heap.size W2) 6
        have y6W2 := HB2.out W2 (Below.refl W2.heap.size W2) 6
        have x7W2 := HB1.out W2 (Below.refl W2.heap.size W2) 7
        have y7W2 := HB2.out W2 (Below.refl W2.heap.size W2) 7
        simp only [List.getElem?_toArray, List.getElem?_cons_succ, List.getElem?_cons_zero] at x0W2 y0W2 x1W2 y1W2 x2W2 y2W2 x3W2 y3W2 x4W2 y4W2 x5W2 y5W2 x6W2 y6W2 x7W2 y7W2
        have hk1 : Below W2.heap.size W2 W2 := Below.refl _ _
        have hc1 := HBW.out
        go_wp2_with (go_at_call 16; (with_reducible refine (C1.out _ hc1).mono ?_); rintro e w2 ⟨rfl, hb2⟩; (have hk2 : Below W2.heap.size W2 w2 := hk1.trans (hb2.mono hk1.size)); (have hc2 : Below w.heap.size w w2 := HBW.out.trans (hk2.mono HBW.out.size)))
        go_ret
        exact ⟨ret_bool HE.out.symm, hc2⟩
      | true =>
        cases v2 with
        | false =>
          have HE := Lib.hid (show RES = false by rw [HS.out]; simp)
          go_enter Try.func48, Try.ntmps48
          go_wp2_with fail
          rw [HW.out]
          have x0W2 := HB1.out W2 (Below.refl W2.heap.size W2) 0
          have y0W2 := HB2.out W2 (Below.refl W2.heap.size W2) 0
          have x1W2 := HB1.out W2 (Below.refl W2.heap.size W2) 1
          have y1W2 := HB2.out W2 (Below.refl W2.heap.size W2) 1
          have x2W2 := HB1.out W2 (Below.refl W2.heap.size W2) 2
          have y2W2 := HB2.out W2 (Below.refl W2.heap.size W2) 2
          have x3W2 := HB1.out W2 (Below.refl W2.heap.size W2) 3
          have y3W2 := HB2.out W2 (Below.refl W2.heap.size W2) 3
          have x4W2 := HB1.out W2 (Below.refl W2.heap.size W2) 4
          have y4W2 := HB2.out W2 (Below.refl W2.heap.size W2) 4
          have x5W2 := HB1.out W2 (Below.refl W2.heap.size W2) 5
          have y5W2 := HB2.out W2 (Below.refl W2.heap.size W2) 5
          have x6W2 := HB1.out W2 (Below.refl W2.heap.size W2) 6
          have y6W2 := HB2.out W2 (Below.refl W2.heap.size W2) 6
          have x7W2 := HB1.out W2 (Below.refl W2.heap.size W2) 7
          have y7W2 := HB2.out W2 (Below.refl W2.heap.size W2) 7
          simp only [List.getElem?_toArray, List.getElem?_cons_succ, List.getElem?_cons_zero] at x0W2 y0W2 x1W2 y1W2 x2W2 y2W2 x3W2 y3W2 x4W2 y4W2 x5W2 y5W2 x6W2 y6W2 x7W2 y7W2
          have hk1 : Below W2.heap.size W2 W2 := Below.refl _ _
          have hc1 := HBW.out
          go_wp2_with (go_at_call 16; (with_reducible refine (C1.out _ hc1).mono ?_); rintro e w2 ⟨rfl, hb2⟩; (have hk2 : Below W2.heap.size W2 w2 := hk1.trans (hb2.mono hk1.size)); (have hc2 : Below w.heap.size w w2 := HBW.out.trans (hk2.mono HBW.out.size)); (have x0w2 := HB1.out w2 hk2 0); (have y0w2 := HB2.out w2 hk2 0); (have x1w2 := HB1.out w2 hk2 1); (have y1w2 := HB2.out w2 hk2 1); (have x2w2 := HB1.out w2 hk2 2); (have y2w2 := HB2.out w2 hk2 2); (have x3w2 := HB1.out w2 hk2 3); (have y3w2 := HB2.out w2 hk2 3); (have x4w2 := HB1.out w2 hk2 4); (have y4w2 := HB2.out w2 hk2 4); (have x5w2 := HB1.out w2 hk2 5); (have y5w2 := HB2.out w2 hk2 5); (have x6w2 := HB1.out w2 hk2 6); (have y6w2 := HB2.out w2 hk2 6); (have x7w2 := HB1.out w2 hk2 7); (have y7w2 := HB2.out w2 hk2 7); (simp only [List.getElem?_toArray, List.getElem?_cons_succ, List.getElem?_cons_zero] at x0w2 y0w2 x1w2 y1w2 x2w2 y2w2 x3w2 y3w2 x4w2 y4w2 x5w2 y5w2 x6w2 y6w2 x7w2 y7w2))
          go_wp2_with (go_at_call 66; (with_reducible refine (C2.out _ hc2).mono ?_); rintro e w3 ⟨rfl, hb3⟩; (have hk3 : Below W2.heap.size W2 w3 := hk2.trans (hb3.mono hk2.size)); (have hc3 : Below w.heap.size w w3 := HBW.out.trans (hk3.mono HBW.out.size)))
          go_ret
          exact ⟨ret_bool HE.out.symm, hc3⟩
        | true =>
          have HE := Lib.hid (show RES = v3 by rw [HS.out, z0.out]; simp)
          go_enter Try.func48, Try.ntmps48
          go_wp2_with fail
          rw [HW.out]
          have x0W2 := HB1.out W2 (Below.refl W2.heap.size W2) 0
          have y0W2 := HB2.out W2 (Below.refl W2.heap.size W2) 0
          have x1W2 := HB1.out W2 (Below.refl W2.heap.size W2) 1
          have y1W2 := HB2.out W2 (Below.refl W2.heap.size W2) 1
          have x2W2 := HB1.out W2 (Below.refl W2.heap.size W2) 2
          have y2W2 := HB2.out W2 (Below.refl W2.heap.size W2) 2
          have x3W2 := HB1.out W2 (Below.refl W2.heap.size W2) 3
          have y3W2 := HB2.out W2 (Below.refl W2.heap.size W2) 3
          have x4W2 := HB1.out W2 (Below.refl W2.heap.size W2) 4
          have y4W2 := HB2.out W2 (Below.refl W2.heap.size W2) 4
          have x5W2 := HB1.out W2 (Below.refl W2.heap.size W2) 5
          have y5W2 := HB2.out W2 (Below.refl W2.heap.size W2) 5
          have x6W2 := HB1.out W2 (Below.refl W2.heap.size W2) 6
          have y6W2 := HB2.out W2 (Below.refl W2.heap.size W2) 6
          have x7W2 := HB1.out W2 (Below.refl W2.heap.size W2) 7
          have y7W2 := HB2.out W2 (Below.refl W2.heap.size W2) 7
          simp only [List.getElem?_toArray, List.getElem?_cons_succ, List.getElem?_cons_zero] at x0W2 y0W2 x1W2 y1W2 x2W2 y2W2 x3W2 y3W2 x4W2 y4W2 x5W2 y5W2 x6W2 y6W2 x7W2 y7W2
          have hk1 : Below W2.heap.size W2 W2 := Below.refl _ _
          have hc1 := HBW.out
          go_wp2_with (go_at_call 16; (with_reducible refine (C1.out _ hc1).mono ?_); rintro e w2 ⟨rfl, hb2⟩; (have hk2 : Below W2.heap.size W2 w2 := hk1.trans (hb2.mono hk1.size)); (have hc2 : Below w.heap.size w w2 := HBW.out.trans (hk2.mono HBW.out.size)); (have x0w2 := HB1.out w2 hk2 0); (have y0w2 := HB2.out w2 hk2 0); (have x1w2 := HB1.out w2 hk2 1); (have y1w2 := HB2.out w2 hk2 1); (have x2w2 := HB1.out w2 hk2 2); (have y2w2 := HB2.out w2 hk2 2); (have x3w2 := HB1.out w2 hk2 3); (have y3w2 := HB2.out w2 hk2 3); (have x4w2 := HB1.out w2 hk2 4); (have y4w2 := HB2.out w2 hk2 4); (have x5w2 := HB1.out w2 hk2 5); (have y5w2 := HB2.out w2 hk2 5); (have x6w2 := HB1.out w2 hk2 6); (have y6w2 := HB2.out w2 hk2 6); (have x7w2 := HB1.out w2 hk2 7); (have y7w2 := HB2.out w2 hk2 7); (simp only [List.getElem?_toArray, List.getElem?_cons_succ, List.getElem?_cons_zero] at x0w2 y0w2 x1w2 y1w2 x2w2 y2w2 x3w2 y3w2 x4w2 y4w2 x5w2 y5w2 x6w2 y6w2 x7w2 y7w2))
          go_wp2_with (go_at_call 66; (with_reducible refine (C2.out _ hc2).mono ?_); rintro e w3 ⟨rfl, hb3⟩; (have hk3 : Below W2.heap.size W2 w3 := hk2.trans (hb3.mono hk2.size)); (have hc3 : Below w.heap.size w w3 := HBW.out.trans (hk3.mono HBW.out.size)); (have x0w3 := HB1.out w3 hk3 0); (have y0w3 := HB2.out w3 hk3 0); (have x1w3 := HB1.out w3 hk3 1); (have y1w3 := HB2.out w3 hk3 1); (have x2w3 := HB1.out w3 hk3 2); (have y2w3 := HB2.out w3 hk3 2); (have x3w3 := HB1.out w3 hk3 3); (have y3w3 := HB2.out w3 hk3 3); (have x4w3 := HB1.out w3 hk3 4); (have y4w3 := HB2.out w3 hk3 4); (have x5w3 := HB1.out w3 hk3 5); (have y5w3 := HB2.out w3 hk3 5); (have x6w3 := HB1.out w3 hk3 6); (have y6w3 := HB2.out w3 hk3 6); (have x7w3 := HB1.out w3 hk3 7); (have y7w3 := HB2.out w3 hk3 7); (simp only [List.getElem?_toArray, List.getElem?_cons_succ, List.getElem?_cons_zero] at x0w3 y0w3 x1w3 y1w3 x2w3 y2w3 x3w3 y3w3 x4w3 y4w3 x5w3 y5w3 x6w3 y6w3 x7w3 y7w3))
          go_wp2_with (go_at_call 35; (with_reducible refine (C3.out _ hc3).mono ?_); rintro e w4 ⟨rfl, hb4⟩; (have hk4 : Below W2.heap.size W2 w4 := hk3.trans (hb4.mono hk3.size)); (have hc4 : Below w.heap.size w w4 := HBW.out.trans (hk4.mono HBW.out.size)))
          go_ret
          exact ⟨ret_bool HE.out.symm, hc4⟩
    · have d0 := nm_other e0
      have HE := Lib.hid (show RES = false by rw [HS.out, show nmSame nm nm' = false by unfold nmSame; simpa using e0]; simp)
      clear e0
      go_enter Try.func48, Try.ntmps48
      go_wp2_with fail
      rw [HW.out]
      have x0W2 := HB1.out W2 (Below.refl W2.heap.size W2) 0
      have y0W2 := HB2.out W2 (Below.refl W2.heap.size W2) 0
      have x1W2 := HB1.out W2 (Below.refl W2.heap.size W2) 1
      have y1W2 := HB2.out W2 (Below.refl W2.heap.size W2) 1
      have x2W2 := HB1.out W2 (Below.refl W2.heap.size W2) 2
      have y2W2 := HB2.out W2 (Below.refl W2.heap.size W2) 2
      have x3W2 := HB1.out W2 (Below.refl W2.heap.size W2) 3
      have y3W2 := HB2.out W2 (Below.refl W2.heap.size W2) 3
      have x4W2 := HB1.out W2 (Below.refl W2.heap.size W2) 4
      have y4W2 := HB2.out W2 (Below.refl W2.heap.size W2) 4
      have x5W2 := HB1.out W2 (Below.refl W2.heap.size W2) 5
      have y5W2 := HB2.out W2 (Below.refl W2.heap.size W2) 5
      have x6W2 := HB1.out W2 (Below.refl W2.heap.size W2) 6
      have y6W2 := HB2.out W2 (Below.refl W2.heap.size W2) 6
      have x7W2 := HB1.out W2 (Below.refl W2.heap.size W2) 7
      have y7W2 := HB2.out W2 (Below.refl W2.heap.size W2) 7
      simp only [List.getElem?_toArray, List.getElem?_cons_succ, List.getElem?_cons_zero] at x0W2 y0W2 x1W2 y1W2 x2W2 y2W2 x3W2 y3W2 x4W2 y4W2 x5W2 y5W2 x6W2 y6W2 x7W2 y7W2
      have hk1 : Below W2.heap.size W2 W2 := Below.refl _ _
      have hc1 := HBW.out
      go_wp2_with fail
      go_ret
      exact ⟨ret_bool HE.out.symm, hc1⟩
theorem pl_da (xs ys : List Da) (A A' : Option Addr) (c c' B : Nat) (w : World) (hB : B ≤ w.heap.size) (hn : xs.length ≤ maxLen) (hx : RowOf w B 5 (DaAt w B) A xs) (hy : RowOf w B 5 (DaAt w B) A' ys) :
    Calls Try.prog 43 #[.slice A xs.length c, .slice A' ys.length c', .func (.func 44) #[] #[]] w fun e w' => e = .returned (.bool (listSame daSame xs ys)) ∧ Below w.heap.size w w' := by
  obtain ⟨L, hr, hk⟩ := hx.ex
  obtain ⟨L', hr', hk'⟩ := hy.ex
  refine plist_da xs.length ys.length A A' c c' B w L L' (pairAt daSame xs ys) hB (by unfold maxLen at hn; omega) hr hr' ?_ ?_
  · intro l hl u hu
    obtain ⟨i, hi, rfl⟩ := List.getElem_of_mem hl
    exact da_ones (hk i hi (by rw [← hr.len]; exact hi)) u hu
  · intro i h1 h2 w' hb
    have k1 : i < xs.length := by rw [← hr.len]; exact h1
    have k2 : i < ys.length := by rw [← hr'.len]; exact h2
    rw [pairAt_of daSame xs ys i k1 k2]
    exact psamedata xs[i] ys[i] B w' L[i] L'[i] (Nat.le_trans hB hb.size) (DaAt.later (hk i h1 k1) (hb.mono hB)) (DaAt.later (hk' i h2 k2) (hb.mono hB))
theorem pl_cl (xs ys : List Cl) (A A' : Option Addr) (c c' B : Nat) (w : World) (hB : B ≤ w.heap.size) (hn : xs.length ≤ maxLen) (hx : RowOf w B 6 (ClAt w B) A xs) (hy : RowOf w B 6 (ClAt w B) A' ys) :
    Calls Try.prog 45 #[.slice A xs.length c, .slice A' ys.length c', .func (.func 46) #[] #[]] w fun e w' => e = .returned (.bool (listSame clSame xs ys)) ∧ Below w.heap.size w w' := by
  obtain ⟨L, hr, hk⟩ := hx.ex
  obtain ⟨L', hr', hk'⟩ := hy.ex
  refine plist_cl xs.length ys.length A A' c c' B w L L' (pairAt clSame xs ys) hB (by unfold maxLen at hn; omega) hr hr' ?_ ?_
  · intro l hl u hu
    obtain ⟨i, hi, rfl⟩ := List.getElem_of_mem hl
    exact cl_ones (hk i hi (by rw [← hr.len]; exact hi)) u hu
  · intro i h1 h2 w' hb
    have k1 : i < xs.length := by rw [← hr.len]; exact h1
    have k2 : i < ys.length := by rw [← hr'.len]; exact h2
    rw [pairAt_of clSame xs ys i k1 k2]
    exact psameclass xs[i] ys[i] B w' L[i] L'[i] (Nat.le_trans hB hb.size) (ClAt.later (hk i h1 k1) (hb.mono hB)) (ClAt.later (hk' i h2 k2) (hb.mono hB))
theorem pl_in (xs ys : List Ins) (A A' : Option Addr) (c c' B : Nat) (w : World) (hB : B ≤ w.heap.size) (hn : xs.length ≤ maxLen) (hx : RowOf w B 8 (InAt w B) A xs) (hy : RowOf w B 8 (InAt w B) A' ys) :
    Calls Try.prog 47 #[.slice A xs.length c, .slice A' ys.length c', .func (.func 48) #[] #[]] w fun e w' => e = .returned (.bool (listSame inSame xs ys)) ∧ Below w.heap.size w w' := by
  obtain ⟨L, hr, hk⟩ := hx.ex
  obtain ⟨L', hr', hk'⟩ := hy.ex
  refine plist_in xs.length ys.length A A' c c' B w L L' (pairAt inSame xs ys) hB (by unfold maxLen at hn; omega) hr hr' ?_ ?_
  · intro l hl u hu
    obtain ⟨i, hi, rfl⟩ := List.getElem_of_mem hl
    exact in_ones (hk i hi (by rw [← hr.len]; exact hi)) u hu
  · intro i h1 h2 w' hb
    have k1 : i < xs.length := by rw [← hr.len]; exact h1
    have k2 : i < ys.length := by rw [← hr'.len]; exact h2
    rw [pairAt_of inSame xs ys i k1 k2]
    exact psameinst xs[i] ys[i] B w' L[i] L'[i] (Nat.le_trans hB hb.size) (InAt.later (hk i h1 k1) (hb.mono hB)) (InAt.later (hk' i h2 k2) (hb.mono hB))

set_option maxHeartbeats 3200000 in
theorem psameprog (t u : Pg) (B : Nat) (w : World) (cs ds : List Value) (hB : B ≤ w.heap.size) (hx : PgAt w B cs t) (hy : PgAt w B ds u) :
    Calls Try.prog 21 #[.agg cs.toArray, .agg ds.toArray] w fun e w' => e = .returned (.bool (pgSame t u)) ∧ Below w.heap.size w w' := by
  cases hx with
  | @mk A Ac Ai Ab c cc ci cb ds cs is bs h1 h2 h3 h4 hd hc hi hb0 =>
  cases hy with
  | @mk A' Ac' Ai' Ab' c' cc' ci' cb' ds' cs' is' bs' h1' h2' h3' h4' hd' hc' hi' hb0' =>
    have C10 := fun W (hb : Below w.heap.size w W) => pl_da ds ds' A A' c c' B W (Nat.le_trans hB hb.size) h1 (RowOf.later (R := fun w => DaAt w B) hd (hb.mono hB) fun _ _ h => DaAt.later h (hb.mono hB)) (RowOf.later (R := fun w => DaAt w B) hd' (hb.mono hB) fun _ _ h => DaAt.later h (hb.mono hB))
    have C20 := fun W (hb : Below w.heap.size w W) => pl_cl cs cs' Ac Ac' cc cc' B W (Nat.le_trans hB hb.size) h2 (RowOf.later (R := fun w => ClAt w B) hc (hb.mono hB) fun _ _ h => ClAt.later h (hb.mono hB)) (RowOf.later (R := fun w => ClAt w B) hc' (hb.mono hB) fun _ _ h => ClAt.later h (hb.mono hB))
    have C30 := fun W (hb : Below w.heap.size w W) => pl_in is is' Ai Ai' ci ci' B W (Nat.le_trans hB hb.size) h3 (RowOf.later (R := fun w => InAt w B) hi (hb.mono hB) fun _ _ h => InAt.later h (hb.mono hB)) (RowOf.later (R := fun w => InAt w B) hi' (hb.mono hB) fun _ _ h => InAt.later h (hb.mono hB))
    have C40 := fun W (hb : Below w.heap.size w W) => pl_bd bs bs' Ab Ab' cb cb' B W (Nat.le_trans hB hb.size) h4 (RowOf.later (R := fun w => BdAt w B) hb0 (hb.mono hB) fun _ _ h => BdAt.later h (hb.mono hB)) (RowOf.later (R := fun w => BdAt w B) hb0' (hb.mono hB) fun _ _ h => BdAt.later h (hb.mono hB))
    obtain ⟨RES, hRES⟩ : ∃ r, pgSame ⟨ds, cs, is, bs⟩ ⟨ds', cs', is', bs'⟩ = r := ⟨_, rfl⟩
    rw [hRES]
    have hS0 : RES = (listSame daSame ds ds' && (listSame clSame cs cs' && (listSame inSame is is' && listSame bdSame bs bs'))) := by rw [← hRES]; rfl
    obtain ⟨v1, hv1⟩ : ∃ v, listSame daSame ds ds' = v := ⟨_, rfl⟩
    rw [hv1] at hS0 C10
    have C1 := Lib.hid C10
    obtain ⟨v2, hv2⟩ : ∃ v, listSame clSame cs cs' = v := ⟨_, rfl⟩
    rw [hv2] at hS0 C20
    have C2 := Lib.hid C20
    obtain ⟨v3, hv3⟩ : ∃ v, listSame inSame is is' = v := ⟨_, rfl⟩
    rw [hv3] at hS0 C30
    have C3 := Lib.hid C30
    obtain ⟨v4, hv4⟩ : ∃ v, listSame bdSame bs bs' = v := ⟨_, rfl⟩
    rw [hv4] at hS0 C40
    have C4 := Lib.hid C40
    have HS := Lib.hid hS0
    clear hS0 hRES hv1 C10 hv2 C20 hv3 C30 hv4 C40
    try simp only [List.cons_append, List.nil_append]
    have b1 := (Blk.new w 46 #[.slice A ds.length c, .slice Ac cs.length cc, .slice Ai is.length ci, .slice Ab bs.length cb]).alloc (.cells #[.slice A' ds'.length c', .slice Ac' cs'.length cc', .slice Ai' is'.length ci', .slice Ab' bs'.length cb'] 46)
    have b2 := Blk.new (w.alloc (.cells #[.slice A ds.length c, .slice Ac cs.length cc, .slice Ai is.length ci, .slice Ab bs.length cb] 46)) 46 #[.slice A' ds'.length c', .slice Ac' cs'.length cc', .slice Ai' is'.length ci', .slice Ab' bs'.length cb']
    obtain ⟨W2, hW2⟩ : ∃ W2, (w.alloc (.cells #[.slice A ds.length c, .slice Ac cs.length cc, .slice Ai is.length ci, .slice Ab bs.length cb] 46)).alloc (.cells #[.slice A' ds'.length c', .slice Ac' cs'.length cc', .slice Ai' is'.length ci', .slice Ab' bs'.length cb'] 46) = W2 := ⟨_, rfl⟩
    have hbW : Below w.heap.size w W2 := by rw [← hW2]; exact ((Below.refl _ _).alloc (Nat.le_refl _) _).alloc (by simp) _
    have hzW : W2.heap.size = w.heap.size + 1 + 1 := by rw [← hW2]; simp
    rw [hW2] at b1 b2
    rw [World.size_alloc] at b2
    have HW := Lib.hid hW2
    have HBW := Lib.hid hbW
    have HB1 := Lib.hid (fun (W : World) (hW : Below W2.heap.size W2 W) (i : Nat) => (hW.cell (p := ⟨w.heap.size, i, none⟩) b1.lt).trans (b1.cell i))
    have HB2 := Lib.hid (fun (W : World) (hW : Below W2.heap.size W2 W) (i : Nat) => (hW.cell (p := ⟨w.heap.size + 1, i, none⟩) b2.lt).trans (b2.cell i))
    clear b1 b2 hW2 hbW hzW
    cases v1 with
    | false =>
      have HE := Lib.hid (show RES = false by rw [HS.out]; simp)
      go_enter Try.func21, Try.ntmps21
      go_wp2_with fail
      rw [HW.out]
      have x0W2 := HB1.out W2 (Below.refl W2.heap.size W2) 0
      have y0W2 := HB2.out W2 (Below.refl W2.heap.size W2) 0
      have x1W2 := HB1.out W2 (Below.refl W2.heap.size W2) 1
      have y1W2 := HB2.out W2 (Below.refl W2.heap.size W2) 1
      have x2W2 := HB1.out W2 (Below.refl W2.heap.size W2) 2
      have y2W2 := HB2.out W2 (Below.refl W2.heap.size W2) 2
      have x3W2 := HB1.out W2 (Below.refl W2.heap.size W2) 3
      have y3W2 := HB2.out W2 (Below.refl W2.heap.size W2) 3
      simp only [List.getElem?_toArray, List.getElem?_cons_succ, List.getElem?_cons_zero] at x0W2 y0W2 x1W2 y1W2 x2W2 y2W2 x3W2 y3W2
      have hk1 : Below W2.heap.size W2 W2 := Below.refl _ _
      have hc1 := HBW.out
      go_wp2_with (go_at_call 43; (with_reducible refine (C1.out _ hc1).mono ?_); rintro e w2 ⟨rfl, hb2⟩; (have hk2 : Below W2.heap.size W2 w2 := hk1.trans (hb2.mono hk1.size)); (have hc2 : Below w.heap.size w w2 := HBW.out.trans (hk2.mono HBW.out.size)))
      go_ret
      exact ⟨ret_bool HE.out.symm, hc2⟩
    | true =>
      cases v2 with
      | false =>
        have HE := Lib.hid (show RES = false by rw [HS.out]; simp)
        go_enter Try.func21, Try.ntmps21
        go_wp2_with fail
        rw [HW.out]
        have x0W2 := HB1.out W2 (Below.refl W2.heap.size W2) 0
        have y0W2 := HB2.out W2 (Below.refl W2.heap.size W2) 0
        have x1W2 := HB1.out W2 (Below.refl W2.heap.size W2) 1
        have y1W2 := HB2.out W2 (Below.refl W2.heap.size W2) 1
        have x2W2 := HB1.out W2 (Below.refl W2.heap.size W2) 2
        have y2W2 := HB2.out W2 (Below.refl W2.heap.size W2) 2
        have x3W2 := HB1.out W2 (Below.refl W2.heap.size W2) 3
        have y3W2 := HB2.out W2 (Below.refl W2.heap.size W2) 3
        simp only [List.getElem?_toArray, List.getElem?_cons_succ, List.getElem?_cons_zero] at x0W2 y0W2 x1W2 y1W2 x2W2 y2W2 x3W2 y3W2
        have hk1 : Below W2.heap.size W2 W2 := Below.refl _ _
        have hc1 := HBW.out
        go_wp2_with (go_at_call 43; (with_reducible refine (C1.out _ hc1).mono ?_); rintro e w2 ⟨rfl, hb2⟩; (have hk2 : Below W2.heap.size W2 w2 := hk1.trans (hb2.mono hk1.size)); (have hc2 : Below w.heap.size w w2 := HBW.out.trans (hk2.mono HBW.out.size)); (have x0w2 := HB1.out w2 hk2 0); (have y0w2 := HB2.out w2 hk2 0); (have x1w2 := HB1.out w2 hk2 1); (have y1w2 := HB2.out w2 hk2 1); (have x2w2 := HB1.out w2 hk2 2); (have y2w2 := HB2.out w2 hk2 2); (have x3w2 := HB1.out w2 hk2 3); (have y3w2 := HB2.out w2 hk2 3); (simp only [List.getElem?_toArray, List.getElem?_cons_succ, List.getElem?_cons_zero] at x0w2 y0w2 x1w2 y1w2 x2w2 y2w2 x3w2 y3w2))
        go_wp2_with (go_at_call 45; (with_reducible refine (C2.out _ hc2).mono ?_); rintro e w3 ⟨rfl, hb3⟩; (have hk3 : Below W2.heap.size W2 w3 := hk2.trans (hb3.mono hk2.size)); (have hc3 : Below w.heap.size w w3 := HBW.out.trans (hk3.mono HBW.out.size)))
        go_ret
        exact ⟨ret_bool HE.out.symm, hc3⟩
      | true =>
        cases v3 with
        | false =>
          have HE := Lib.hid (show RES = false by rw [HS.out]; simp)
          go_enter Try.func21, Try.ntmps21
          go_wp2_with fail
          rw [HW.out]
          have x0W2 := HB1.out W2 (Below.refl W2.heap.size W2) 0
          have y0W2 := HB2.out W2 (Below.refl W2.heap.size W2) 0
          have x1W2 := HB1.out W2 (Below.refl W2.heap.size W2) 1
          have y1W2 := HB2.out W2 (Below.refl W2.heap.size W2) 1
          have x2W2 := HB1.out W2 (Below.refl W2.heap.size W2) 2
          have y2W2 := HB2.out W2 (Below.refl W2.heap.size W2) 2
          have x3W2 := HB1.out W2 (Below.refl W2.heap.size W2) 3
          have y3W2 := HB2.out W2 (Below.refl W2.heap.size W2) 3
          simp only [List.getElem?_toArray, List.getElem?_cons_succ, List.getElem?_cons_zero] at x0W2 y0W2 x1W2 y1W2 x2W2 y2W2 x3W2 y3W2
          have hk1 : Below W2.heap.size W2 W2 := Below.refl _ _
          have hc1 := HBW.out
          go_wp2_with (go_at_call 43; (with_reducible refine (C1.out _ hc1).mono ?_); rintro e w2 ⟨rfl, hb2⟩; (have hk2 : Below W2.heap.size W2 w2 := hk1.trans (hb2.mono hk1.size)); (have hc2 : Below w.heap.size w w2 := HBW.out.trans (hk2.mono HBW.out.size)); (have x0w2 := HB1.out w2 hk2 0); (have y0w2 := HB2.out w2 hk2 0); (have x1w2 := HB1.out w2 hk2 1); (have y1w2 := HB2.out w2 hk2 1); (have x2w2 := HB1.out w2 hk2 2); (have y2w2 := HB2.out w2 hk2 2); (have x3w2 := HB1.out w2 hk2 3); (have y3w2 := HB2.out w2 hk2 3); (simp only [List.getElem?_toArray, List.getElem?_cons_succ, List.getElem?_cons_zero] at x0w2 y0w2 x1w2 y1w2 x2w2 y2w2 x3w2 y3w2))
          go_wp2_with (go_at_call 45; (with_reducible refine (C2.out _ hc2).mono ?_); rintro e w3 ⟨rfl, hb3⟩; (have hk3 : Below W2.heap.size W2 w3 := hk2.trans (hb3.mono hk2.size)); (have hc3 : Below w.heap.size w w3 := HBW.out.trans (hk3.mono HBW.out.size)); (have x0w3 := HB1.out w3 hk3 0); (have y0w3 := HB2.out w3 hk3 0); (have x1w3 := HB1.out w3 hk3 1); (have y1w3 := HB2.out w3 hk3 1); (have x2w3 := HB1.out w3 hk3 2); (have y2w3 := HB2.out w3 hk3 2); (have x3w3 := HB1.out w3 hk3 3); (have y3w3 := HB2.out w3 hk3 3); (simp only [List.getElem?_toArray, List.getElem?_cons_succ, List.getElem?_cons_zero] at x0w3 y0w3 x1w3 y1w3 x2w3 y2w3 x3w3 y3w3))
          go_wp2_with (go_at_call 47; (with_reducible refine (C3.out _ hc3).mono ?_); rintro e w4 ⟨rfl, hb4⟩; (have hk4 : Below W2.heap.size W2 w4 := hk3.trans (hb4.mono hk3.size)); (have hc4 : Below w.heap.size w w4 := HBW.out.trans (hk4.mono HBW.out.size)))
          go_ret
          exact ⟨ret_bool HE.out.symm, hc4⟩
        | true =>
          have HE := Lib.hid (show RES = v4 by rw [HS.out]; simp)
          go_enter Try.func21, Try.ntmps21
          go_wp2_with fail
          rw [HW.out]
          have x0W2 := HB1.out W2 (Below.refl W2.heap.size W2) 0
          have y0W2 := HB2.out W2 (Below.refl W2.heap.size W2) 0
          have x1W2 := HB1.out W2 (Below.refl W2.heap.size W2) 1
          have y1W2 := HB2.out W2 (Below.refl W2.heap.size W2) 1
          have x2W2 := HB1.out W2 (Below.refl W2.heap.size W2) 2
          have y2W2 := HB2.out W2 (Below.refl W2.heap.size W2) 2
          have x3W2 := HB1.out W2 (Below.refl W2.heap.size W2) 3
          have y3W2 := HB2.out W2 (Below.refl W2.heap.size W2) 3
          simp only [List.getElem?_toArray, List.getElem?_cons_succ, List.getElem?_cons_zero] at x0W2 y0W2 x1W2 y1W2 x2W2 y2W2 x3W2 y3W2
          have hk1 : Below W2.heap.size W2 W2 := Below.refl _ _
          have hc1 := HBW.out
          go_wp2_with (go_at_call 43; (with_reducible refine (C1.out _ hc1).mono ?_); rintro e w2 ⟨rfl, hb2⟩; (have hk2 : Below W2.heap.size W2 w2 := hk1.trans (hb2.mono hk1.size)); (have hc2 : Below w.heap.size w w2 := HBW.out.trans (hk2.mono HBW.out.size)); (have x0w2 := HB1.out w2 hk2 0); (have y0w2 := HB2.out w2 hk2 0); (have x1w2 := HB1.out w2 hk2 1); (have y1w2 := HB2.out w2 hk2 1); (have x2w2 := HB1.out w2 hk2 2); (have y2w2 := HB2.out w2 hk2 2); (have x3w2 := HB1.out w2 hk2 3); (have y3w2 := HB2.out w2 hk2 3); (simp only [List.getElem?_toArray, List.getElem?_cons_succ, List.getElem?_cons_zero] at x0w2 y0w2 x1w2 y1w2 x2w2 y2w2 x3w2 y3w2))
          go_wp2_with (go_at_call 45; (with_reducible refine (C2.out _ hc2).mono ?_); rintro e w3 ⟨rfl, hb3⟩; (have hk3 : Below W2.heap.size W2 w3 := hk2.trans (hb3.mono hk2.size)); (have hc3 : Below w.heap.size w w3 := HBW.out.trans (hk3.mono HBW.out.size)); (have x0w3 := HB1.out w3 hk3 0); (have y0w3 := HB2.out w3 hk3 0); (have x1w3 := HB1.out w3 hk3 1); (have y1w3 := HB2.out w3 hk3 1); (have x2w3 := HB1.out w3 hk3 2); (have y2w3 := HB2.out w3 hk3 2); (have x3w3 := HB1.out w3 hk3 3); (have y3w3 := HB2.out w3 hk3 3); (simp only [List.getElem?_toArray, List.getElem?_cons_succ, List.getElem?_cons_zero] at x0w3 y0w3 x1w3 y1w3 x2w3 y2w3 x3w3 y3w3))
          go_wp2_with (go_at_call 47; (with_reducible refine (C3.out _ hc3).mono ?_); rintro e w4 ⟨rfl, hb4⟩; (have hk4 : Below W2.heap.size W2 w4 := hk3.trans (hb4.mono hk3.size)); (have hc4 : Below w.heap.size w w4 := HBW.out.trans (hk4.mono HBW.out.size)); (have x0w4 := HB1.out w4 hk4 0); (have y0w4 := HB2.out w4 hk4 0); (have x1w4 := HB1.out w4 hk4 1); (have y1w4 := HB2.out w4 hk4 1); (have x2w4 := HB1.out w4 hk4 2); (have y2w4 := HB2.out w4 hk4 2); (have x3w4 := HB1.out w4 hk4 3); (have y3w4 := HB2.out w4 hk4 3); (simp only [List.getElem?_toArray, List.getElem?_cons_succ, List.getElem?_cons_zero] at x0w4 y0w4 x1w4 y1w4 x2w4 y2w4 x3w4 y3w4))
          go_wp2_with (go_at_call 35; (with_reducible refine (C4.out _ hc4).mono ?_); rintro e w5 ⟨rfl, hb5⟩; (have hk5 : Below W2.heap.size W2 w5 := hk4.trans (hb5.mono hk4.size)); (have hc5 : Below w.heap.size w w5 := HBW.out.trans (hk5.mono HBW.out.size)))
          go_ret
          exact ⟨ret_bool HE.out.symm, hc5⟩

end Go.Proofs.Ytglamoiimmahgaa
