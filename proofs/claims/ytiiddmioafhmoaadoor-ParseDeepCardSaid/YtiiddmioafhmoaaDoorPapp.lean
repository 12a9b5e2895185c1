/- Walks: operators applied, to the end. -/
import Derived.Test.YtiiddmioafhmoaaDoorPstk
namespace Go.Proofs.YtiiddmioafhmoaaDoor
open Go.RowKit
set_option linter.unusedVariables false
set_option linter.unusedSimpArgs false
set_option maxRecDepth 100000

theorem RowM.at_ex {X : Nat → Bool} {W : World} {g o : Nat} {xs : List Ex} (h : RowM rEx 11 X W (some ⟨g, o, none⟩) xs) {i : Nat} (hi : i < xs.length) : ∃ es, g < W.heap.size ∧ rEx.M X W es xs[i] ∧ ∀ j u, es[j]? = some u → W.cell? ⟨g, o + i * 11 + j, none⟩ = some u := by
  obtain ⟨L, hr, hm⟩ := h.ex
  obtain ⟨g', o', e, hg, hl, hlen, hc⟩ := hr.cells (by decide) hi
  injection e with e
  injection e with e1 e2
  subst e1; subst e2
  exact ⟨L[i], hg, hm i hl hi, fun j u hu => unmask_some _ _ (hc j u hu)⟩
theorem RowM.some_ {X : Nat → Bool} {W : World} {A : Option Addr} {xs : List Ex} (h : RowM rEx 11 X W A xs) (hi : 0 < xs.length) : ∃ g o, A = some ⟨g, o, none⟩ := by
  obtain ⟨L, hr, hm⟩ := h.ex
  obtain ⟨g', o', e, _⟩ := hr.cells (by decide) hi
  exact ⟨g', o', e⟩
theorem app_step {xs : List Ex} {ops : List Tk} {i u : Nat} {l : List Nat} {st : List Ex} {f : List Ex × Nat} (h : appGo xs ops (i :: l) (st, u) = some f) :
    ∃ a b rest op, pushTo xs u i st = b :: a :: rest ∧ ops[i]? = some op ∧ appGo xs ops l (infixE op a b :: rest, max u (i + 2)) = some f := by
  unfold appGo at h
  unfold appStep at h
  dsimp only at h
  split at h
  · rename_i b a r op h1 h2
    exact ⟨a, b, r, op, h1, h2, by simpa using h⟩
  · simp at h
theorem push_step {xs : List Ex} {u i : Nat} {st : List Ex} (h : u ≤ i + 1) (hx : u < xs.length) : pushTo xs (u + 1) i (xs[u] :: st) = pushTo xs u i st := by
  unfold pushTo
  have hl : u < (xs.take (i + 2)).length := by rw [List.length_take]; omega
  rw [List.drop_eq_getElem_cons hl, List.reverse_cons, List.append_assoc, List.getElem_take]
  rfl
theorem push_done {xs : List Ex} {u i : Nat} {st : List Ex} (h : i + 2 ≤ u) : pushTo xs u i st = st := by
  unfold pushTo
  rw [List.drop_eq_nil_of_le (by rw [List.length_take]; omega)]
  rfl
theorem app_fin {xs : List Ex} {ops : List Tk} {e : Ex} (h : appE xs ops = some e) : ∃ f, appGo xs ops (ordL (lvT ops) 0 ops.length) (xs.take 1, 1) = some f ∧ f.1.getLast? = some e := by
  unfold appE at h
  split at h
  · rename_i s u hs
    exact ⟨(s, u), hs, h⟩
  · cases h
theorem ex_info9 : (Tryd.prog.info? 32).map (fun i => (i.zero, i.size, i.bytes)) = some (some (.agg #[.int .i64 0, .string ⟨#[]⟩, .int .i64 0, .int .i64 0, .string ⟨#[]⟩, .int .i64 0, .slice none 0 0, .slice none 0 0, .slice none 0 0, .slice none 0 0, .int .i64 0]), 11, 168) := by kernel_rfl

set_option maxHeartbeats 12800000 in
theorem app_ok (xs : List Ex) (ops ts : List Tk) (Ax At : Option Addr) (cx ct : Nat) (X : Nat → Bool) (W : World) (hX : OldX X W.heap.size) (hx : RowM rEx 11 X W Ax xs) (ht : TkRow W W.heap.size At ops) (hgo : GoodN ops) (hlen : xs.length = ops.length + 1) (h60 : ops.length ≤ 60010) (fin : Ex) (hck : clashK (lvT ops) ops.length = none) (hfin : appE xs ops = some fin) :
    Calls Tryd.prog 20 #[.slice Ax xs.length cx, .slice At ops.length ct] W (AppPost X (.ok fin ts) W) := by
  obtain ⟨f2, hgo0, hlast⟩ := app_fin hfin
  have HCK := Lib.hid hck
  have HLAST := Lib.hid hlast
  have HGO0 := Lib.hid hgo0
  have HOX := Lib.hid hX
  obtain ⟨gx, ox, rfl⟩ := hx.some_ (by omega)
  have HX1 := Lib.hid (hx.weaken (Y := exX X W.heap.size) (fun k hk h1 => (exX_iff.1 h1).elim id (fun e => by omega)))
  obtain ⟨i0, hi, hz0, hz1, hz2⟩ := info_parts ex_info9
  have JI := Lib.hid hi
  have JZ0 := Lib.hid hz0
  have JZ1 := Lib.hid hz1
  have JZ2 := Lib.hid hz2
  clear hi hz0 hz1 hz2 hck hfin hlast hgo0 hX
  obtain ⟨i1, hi, hz0, hz1, hz2⟩ := info_parts str_info'
  have HI := Lib.hid hi
  have HZ0 := Lib.hid hz0
  have HZ1 := Lib.hid hz1
  have HZ2 := Lib.hid hz2
  clear hi hz0 hz1 hz2
  obtain ⟨W1, hW1⟩ : ∃ W1, W.alloc (.cells #[.int .i64 0, .string ⟨#[]⟩, .int .i64 0, .int .i64 0, .string ⟨#[]⟩, .int .i64 0, .slice none 0 0, .slice none 0 0, .slice none 0 0, .slice none 0 0, .int .i64 0] 32) = W1 := ⟨_, rfl⟩
  have hnew : Below W.heap.size W W1 := by rw [← hW1]; exact (Below.refl _ _).alloc (Nat.le_refl _) _
  have hres : Blk W1 W.heap.size 32 #[.int .i64 0, .string ⟨#[]⟩, .int .i64 0, .int .i64 0, .string ⟨#[]⟩, .int .i64 0, .slice none 0 0, .slice none 0 0, .slice none 0 0, .slice none 0 0, .int .i64 0] := by rw [← hW1]; exact Blk.new _ _ _
  have hsz : W1.heap.size = W.heap.size + 1 := by rw [← hW1]; simp
  have HW1 := Lib.hid hW1
  have HN := Lib.hid hnew
  have HRS := Lib.hid hres
  have HSZ := Lib.hid hsz
  have HX := Lib.hid hx
  have HT := Lib.hid ht
  have HGO := Lib.hid hgo
  obtain ⟨n, hn⟩ : ∃ n, ops.length = n := ⟨_, rfl⟩
  obtain ⟨m, hm⟩ : ∃ m, xs.length = m := ⟨_, rfl⟩
  rw [hn] at hlen h60 ⊢
  rw [hm] at hlen ⊢
  have HNN := Lib.hid hn
  have HMM := Lib.hid hm
  have HLEN := Lib.hid hlen
  clear hW1 hnew hres hx ht hgo hn hm hlen
  have hm0 : 0 < m := by have := HLEN.out; omega
  have CX := Lib.hid (show ∀ (wr : World), Below W1.heap.size W1 wr → ∀ (w6 : World) (e : Ending), OrdSays (lvT ops) n wr e w6 → e = .returned (.tuple #[.slice (some ⟨wr.heap.size, 0, none⟩) n n, .int .i64 0, .int .i64 0]) ∧ w6.ownsRow wr.heap.size 3 1 (.slice (some ⟨wr.heap.size, 0, none⟩) n n) n (intVals (ordL (lvT ops) 0 n)) ∧ Below wr.heap.size wr w6 ∧ Below W.heap.size W w6 ∧ Below W1.heap.size W1 w6 ∧
      ∃ es, gx < W.heap.size ∧ rEx.M (exX X W.heap.size) w6 es (xs[0]'(by rw [HMM.out, HLEN.out]; omega)) ∧ ∀ j u, es[j]? = some u → w6.cell? ⟨gx, ox + j, none⟩ = some u by
    intro wr hbw w6 e hsay
    have hck := HCK.out
    rw [HNN.out] at hck
    rcases hsay with ⟨hno, rfl, how, hb6⟩ | ⟨k1, hk1, hc1, hn1, rfl, hb6⟩
    · have hsz := HSZ.out
      have hwz := hbw.size
      have hbW : Below W.heap.size W w6 := (HN.out.trans (hbw.mono (by omega))).trans (hb6.mono (by omega))
      obtain ⟨es, hgx, hex, hcx⟩ := HX1.out.at_ex (i := 0) (by rw [HMM.out, HLEN.out]; omega)
      refine ⟨rfl, how, hb6, hbW, hbw.trans (hb6.mono hwz), es, hgx, hex.later (Low.of_below hbW), fun j u hu => ?_⟩
      have := hcx j u hu
      simp only [Nat.zero_mul, Nat.add_zero] at this
      exact (hbW.cell (p := ⟨gx, ox + j, none⟩) hgx).trans this
    · rw [clash_some hk1 hc1 hn1] at hck; cases hck)
  go_enter Tryd.func20, Tryd.ntmps20
  go_upto_region 1 with fail
  rw [HW1.out]
  go_wp2_with fail
  go_loopw [5, 18] (fun v i wr => ∃ (k c : Nat) (A : Option Addr), i = .int .i64 k ∧ k ≤ n ∧ v = .slice A k c ∧ wr.ownsRow (W.heap.size + 1) 9 1 v k (nmV ops k) ∧ Below W1.heap.size W1 wr) (fun _ i _ => n - (intOf i).toNat)
  case atStart => exact ⟨0, 0, none, rfl, Nat.zero_le _, rfl, World.ownsRow_nil _ _ _ _, Below.refl _ _⟩
  case round =>
    obtain ⟨k, c, A, rfl, hk, rfl, hown, hbw⟩ := hrel
    have hwz : W1.heap.size ≤ wr.heap.size := hbw.size
    have hsz := HSZ.out
    have HOWN := Lib.hid hown
    have HBW := Lib.hid hbw
    clear hown hbw
    by_cases hlt : k < n
    · obtain ⟨gt, ot, t, rfl, hgt, htk, m0, m1, m2, m3⟩ := tk_at HT.out (by rw [HNN.out]; exact hlt)
      have hcell : ∀ q u, W.cell? ⟨gt, q, none⟩ = some u → wr.cell? ⟨gt, q, none⟩ = some u := fun q u h => (HBW.out.cell (p := ⟨gt, q, none⟩) (by show gt < _; omega)).trans ((HN.out.cell (p := ⟨gt, q, none⟩) hgt).trans h)
      have k0 := hcell _ _ m0
      have k1 := hcell _ _ m1
      have k2 := hcell _ _ m2
      have k3 := hcell _ _ m3
      have HTK := Lib.hid htk
      clear m0 m1 m2 m3 hcell htk
      go_wp2_with (at_builtin; refine wpList_append_own _ rfl _ _ 23 rfl (W.heap.size + 1) 9 i1 (.string ⟨#[]⟩) 1 16 Tryd.underlying23 HI.out HZ0.out HZ1.out HZ2.out rfl (by decide) _ k _ rfl ((HOWN.out.alloc _).alloc _) ⟨wr.heap.size + 1, 0, none⟩ 1 1 [.string ⟨t.text.toArray⟩] rfl rfl ?c1 ?c2 ?c3 ?c4 ?c5 ?_)
      case c1 => have := new_cells (t := 9) (wr.alloc (.cells #[.int .i64 t.kind, .string ⟨t.text.toArray⟩, .int .i64 t.num, .int .i64 t.pos] 52)) [.string ⟨t.text.toArray⟩]; simpa using this
      case c2 => intro v hv; simp at hv; subst hv; rfl
      case c3 => unfold maxLen; omega
      case c4 => omega
      case c5 => simp; omega
      intro v' w5 hown5 hgrow5 _
      obtain ⟨A5, k5, rfl, _, _, _⟩ := own_form hown5
      rw [map_take_snoc HTK.out] at hown5
      have HO5 := Lib.hid hown5
      have HB5 := Lib.hid (((HBW.out.alloc hwz _).alloc (by simp; omega) _).grown hgrow5 (by simp; omega) (fun k hk => by have := (HOWN.out.lt k hk).1; omega))
      clear hown5 hgrow5
      go_wp2
      go_roundw
      case rel => exact ⟨k + 1, k5, A5, by go_num, by omega, rfl, HO5.out, HB5.out⟩
      case measure => simp [intOf]; omega
    · obtain rfl : k = n := by omega
      have hta : ops.take k = ops := by rw [← HNN.out]; exact List.take_length
      have hown := HOWN.out
      unfold nmV at hown
      rw [hta] at hown
      have CO := Lib.hid (order_any (ops.map bytesOf) A k c wr (by omega) (Reads.of_own hown))
      rw [lvs_lvT] at CO
      clear hown hta
      go_wp2_with (go_at_call 35; (with_reducible refine CO.out.mono ?_); rintro e w6 hsay; (obtain ⟨rfl, how6, hb6, hbW6, hb16, es, hgx, hex, hcx⟩ := CX.out wr HBW.out w6 e hsay); (obtain ⟨x0, x1, x2, x3, x4, x5, x6, x7, x8, x9, x10, rfl⟩ := eleven_of (ex_len' hex)); (have s0 := store_one' x0 (ex_ones' hex x0 (by simp))); (have s1 := store_one' x1 (ex_ones' hex x1 (by simp))); (have s2 := store_one' x2 (ex_ones' hex x2 (by simp))); (have s3 := store_one' x3 (ex_ones' hex x3 (by simp))); (have s4 := store_one' x4 (ex_ones' hex x4 (by simp))); (have s5 := store_one' x5 (ex_ones' hex x5 (by simp))); (have s6 := store_one' x6 (ex_ones' hex x6 (by simp))); (have s7 := store_one' x7 (ex_ones' hex x7 (by simp))); (have s8 := store_one' x8 (ex_ones' hex x8 (by simp))); (have s9 := store_one' x9 (ex_ones' hex x9 (by simp))); (have s10 := store_one' x10 (ex_ones' hex x10 (by simp))); (have u0 := hcx 0 x0 rfl); (have u1 := hcx 1 x1 rfl); (have u2 := hcx 2 x2 rfl); (have u3 := hcx 3 x3 rfl); (have u4 := hcx 4 x4 rfl); (have u5 := hcx 5 x5 rfl); (have u6 := hcx 6 x6 rfl); (have u7 := hcx 7 x7 rfl); (have u8 := hcx 8 x8 rfl); (have u9 := hcx 9 x9 rfl); (have u10 := hcx 10 x10 rfl); (simp only [Nat.add_zero] at u0))
      have hxl : 0 < xs.length := by rw [HMM.out, HLEN.out]; omega
      obtain ⟨w7, hw7⟩ : ∃ w7, w6.alloc (.cells #[x0, x1, x2, x3, x4, x5, x6, x7, x8, x9, x10] 32) = w7 := ⟨_, rfl⟩
      have hST : StkAt (exX X W.heap.size) w6.heap.size w7 w6.heap.size 1 [xs[0]] := by rw [← hw7]; exact StkAt.one w6 hex (Nat.le_refl _)
      have hb7 : Below w6.heap.size w6 w7 := by rw [← hw7]; exact below_new' _ _
      rw [hw7]
      clear hw7 hex hcx u0 u1 u2 u3 u4 u5 u6 u7 u8 u9 u10 s0 s1 s2 s3 s4 s5 s6 s7 s8 s9 s10
      obtain ⟨B6, hB6⟩ : ∃ B6, w6.heap.size = B6 := ⟨_, rfl⟩
      obtain ⟨GO, hGO⟩ : ∃ GO, wr.heap.size = GO := ⟨_, rfl⟩
      have hz6 := hb6.size
      have hlr := own_lt how6
      rw [hB6] at hST hb7 hz6 hlr ⊢
      rw [hGO] at how6 hlr hwz ⊢
      have HST := Lib.hid hST
      have HB7 := Lib.hid hb7
      have HOW6 := Lib.hid how6
      have HBW6 := Lib.hid hbW6
      have HB16 := Lib.hid hb16
      have HB6 := Lib.hid hB6
      have hsz := HSZ.out
      have HGO1 := Lib.hid (show appGo xs ops ((ordL (lvT ops) 0 k).drop 0) ([xs[0]], 1) = some f2 by
        have := HGO0.out
        rw [HNN.out] at this
        rw [List.drop_zero, ← this]
        congr 2
        cases xs with
        | nil => simp at hxl
        | cons x xs => rfl)
      clear hST hb7 how6 hbW6 hb6 hB6 hb16
      go_loopw [11, 12, 50] (fun v us i wrQ => ∃ (j u g c2 : Nat) (st : List Ex), i = .int .i64 j ∧ j ≤ k ∧ us = .int .i64 u ∧ u ≤ k + 1 ∧ st.length ≤ u ∧ v = .slice (some ⟨g, 0, none⟩) st.length c2 ∧ appGo xs ops ((ordL (lvT ops) 0 k).drop j) (st, u) = some f2 ∧ StkAt (exX X W.heap.size) B6 wrQ g c2 st.reverse ∧ Below B6 w6 wrQ) (fun _ _ i _ => k - (intOf i).toNat)
      case atStart => exact ⟨0, 1, B6, 1, [xs[0]], rfl, Nat.zero_le _, rfl, by omega, by simp, rfl, HGO1.out, HST.out, HB7.out⟩
      case round =>
        obtain ⟨j, u, g, c2, st, rfl, hj, rfl, hu, hsu, rfl, hgo, hst, hbw2⟩ := hrel
        have HST2 := Lib.hid hst
        have HBW2 := Lib.hid hbw2
        have hgb := hst.bnd
        rw [List.length_reverse] at hgb
        have hz26 := hbw2.size
        rw [HB6.out] at hz26
        clear hst hbw2
        by_cases hlt2 : j < k
        · have hol : (ordL (lvT ops) 0 k).length = k := ord_len _ k 0 k (by omega)
          obtain ⟨i, hi⟩ : ∃ i, (ordL (lvT ops) 0 k)[j]'(by omega) = i := ⟨_, rfl⟩
          have hik : i < k := (ord_mem _ k 0 k (by omega) i (by rw [← hi]; exact List.getElem_mem _)).2
          have hco : w6.cell? ⟨GO, j, none⟩ = some (.int .i64 i) := by
            rw [HOW6.out.cellAt j (by omega)]
            have : (intVals (ordL (lvT ops) 0 k))[j]? = some (.int .i64 i) := by rw [List.getElem?_map, List.getElem?_eq_getElem (by omega), hi]; rfl
            rw [← this]
          have hco2 := (HBW2.out.cell (p := ⟨GO, j, none⟩) (by show GO < B6; omega)).trans hco
          have hd : (ordL (lvT ops) 0 k).drop j = i :: (ordL (lvT ops) 0 k).drop (j + 1) := by rw [List.drop_eq_getElem_cons (by omega), hi]
          rw [hd] at hgo
          obtain ⟨a, b, rest, op, hP, hop, hgo2⟩ := app_step hgo
          have HGO2 := Lib.hid hgo2
          have HP := Lib.hid hP
          have HOP := Lib.hid hop
          have HSU := Lib.hid hsu
          clear hgo hgo2 hP hop hd hi hol hco hsu
          go_wp2_with fail
          go_loopw [11, 12] (fun v us wrQ => ∃ (u' g' c' : Nat) (st' : List Ex), us = .int .i64 u' ∧ u ≤ u' ∧ u' ≤ max u (i + 2) ∧ st'.length ≤ u' ∧ v = .slice (some ⟨g', 0, none⟩) st'.length c' ∧ pushTo xs u' i st' = b :: a :: rest ∧ StkAt (exX X W.heap.size) B6 wrQ g' c' st'.reverse ∧ Below B6 w6 wrQ) (fun _ us _ => i + 2 - (intOf us).toNat)
          case atStart => exact ⟨u, g, c2, st, rfl, Nat.le_refl _, Nat.le_max_left _ _, HSU.out, rfl, HP.out, HST2.out, HBW2.out⟩
          case round =>
            obtain ⟨u', g', c', st', rfl, hu1, hu2, hsu', rfl, hP', hst', hbw3⟩ := hrel
            have hgb' := hst'.bnd
            rw [List.length_reverse] at hgb'
            have hz36 := hbw3.size
            rw [HB6.out] at hz36
            have HST3 := Lib.hid hst'
            have HBW3 := Lib.hid hbw3
            have HP3 := Lib.hid hP'
            have HBA := Lib.hid (show Below W.heap.size W wr from HBW6.out.trans (hbw3.mono (by omega)))
            clear hst' hbw3 hP'
            by_cases hle : u' ≤ i + 1
            · have hux : u' < xs.length := by rw [HMM.out, HLEN.out]; omega
              have hum : u' < m := by rw [HLEN.out]; omega
              obtain ⟨es, hgx2, hex, hcx⟩ := HX1.out.at_ex hux
              obtain ⟨e0, e1, e2, e3, e4, e5, e6, e7, e8, e9, e10, rfl⟩ := eleven_of (ex_len' hex)
              (have s0 := store_one' e0 (ex_ones' hex e0 (by simp)))
              (have s1 := store_one' e1 (ex_ones' hex e1 (by simp)))
              (have s2 := store_one' e2 (ex_ones' hex e2 (by simp)))
              (have s3 := store_one' e3 (ex_ones' hex e3 (by simp)))
              (have s4 := store_one' e4 (ex_ones' hex e4 (by simp)))
              (have s5 := store_one' e5 (ex_ones' hex e5 (by simp)))
              (have s6 := store_one' e6 (ex_ones' hex e6 (by simp)))
              (have s7 := store_one' e7 (ex_ones' hex e7 (by simp)))
              (have s8 := store_one' e8 (ex_ones' hex e8 (by simp)))
              (have s9 := store_one' e9 (ex_ones' hex e9 (by simp)))
              (have s10 := store_one' e10 (ex_ones' hex e10 (by simp)))
              have hcx3 : ∀ jj w, ([e0, e1, e2, e3, e4, e5, e6, e7, e8, e9, e10] : List Value)[jj]? = some w → wr.cell? ⟨gx, ox + u' * 11 + jj, none⟩ = some w := fun jj w h => (HBA.out.cell (p := ⟨gx, ox + u' * 11 + jj, none⟩) hgx2).trans (hcx jj w h)
              have u0 := hcx3 0 e0 rfl
              have u1 := hcx3 1 e1 rfl
              have u2 := hcx3 2 e2 rfl
              have u3 := hcx3 3 e3 rfl
              have u4 := hcx3 4 e4 rfl
              have u5 := hcx3 5 e5 rfl
              have u6 := hcx3 6 e6 rfl
              have u7 := hcx3 7 e7 rfl
              have u8 := hcx3 8 e8 rfl
              have u9 := hcx3 9 e9 rfl
              have u10 := hcx3 10 e10 rfl
              simp only [Nat.add_zero] at u0
              obtain ⟨q, hq⟩ : ∃ q, st'.length = q := ⟨_, rfl⟩
              obtain ⟨L, o1, o2, o3, o4⟩ := (HST3.out.below (below_new' wr (.cells #[e0, e1, e2, e3, e4, e5, e6, e7, e8, e9, e10] 32))).ex
              rw [List.length_reverse, hq] at o1
              rw [hq] at hsu' hgb' ⊢
              have HEX := Lib.hid hex
              have HQ := Lib.hid hq
              clear hcx hcx3 hex hq
              go_wp2_with (at_builtin; refine wpList_append_lies _ rfl _ _ 28 rfl B6 32 i0 (.agg #[.int .i64 0, .string ⟨#[]⟩, .int .i64 0, .int .i64 0, .string ⟨#[]⟩, .int .i64 0, .slice none 0 0, .slice none 0 0, .slice none 0 0, .slice none 0 0, .int .i64 0]) 11 168 Tryd.underlying28 JI.out JZ0.out JZ1.out JZ2.out rfl (by decide) (.slice (some ⟨g', 0, none⟩) q c') q L.flatten rfl o1 ⟨wr.heap.size, 0, none⟩ 1 1 [e0, e1, e2, e3, e4, e5, e6, e7, e8, e9, e10] rfl rfl (new_cells _ _) (ex_ones' HEX.out) (by omega) (by unfold maxLen; omega) (by omega) (by simp; omega) (wr.heap.size + 1) (by simp) ?_)
              intro g5 c5 w5 hown hgrow hlies hlt5
              have hq := HQ.out
              subst hq
              have hbn := below_new' wr (.cells #[e0, e1, e2, e3, e4, e5, e6, e7, e8, e9, e10] 32)
              have hel : rEx.M (exX (exX X W.heap.size) g') (wr.alloc (.cells #[e0, e1, e2, e3, e4, e5, e6, e7, e8, e9, e10] 32)) [e0, e1, e2, e3, e4, e5, e6, e7, e8, e9, e10] xs[u'] := ((HEX.out.to_exX (g := g') (by omega)).later (Low.of_below HBA.out)).later (Low.of_below hbn)
              have hadd := StkAt.add (l := st'.reverse) (W' := w5) (g' := g5) (c' := c5) o2 o3 o4 hel (by rw [List.length_reverse]; exact hown) hgrow (by
                rcases hlies with h5 | h5
                · exact .inl (Option.some.inj h5)
                · right; rw [h5]; simp)
              rw [← List.reverse_cons] at hadd
              have HAD := Lib.hid hadd
              have HB5 := Lib.hid (Below.grown (HBW3.out.alloc hz36 _) hgrow (by simp; omega) (fun kk hk => by have : g' = kk := Option.some.inj hk; omega))
              have HP5 := Lib.hid ((push_step hle hux (st := st')).trans HP3.out)
              clear hadd hown hgrow hlies hel hbn o1 o2 o3 o4
              go_wp2_with fail
              go_roundw
              case rel => exact ⟨u' + 1, g5, c5, xs[u'] :: st', by go_num, by omega, by omega, by simp; omega, by simp, HP5.out, HAD.out, HB5.out⟩
              case measure => simp [intOf]; omega
            · have hmx : max u (i + 2) = u' := by omega
              have hP3 := HP3.out
              rw [push_done (by omega)] at hP3
              subst hP3
              obtain ⟨q, hq⟩ : ∃ q, rest.length = q := ⟨_, rfl⟩
              have hst2 : StkAt (exX X W.heap.size) B6 wr g' c' (rest.reverse ++ [a, b]) := by have := HST3.out; simpa using this
              obtain ⟨ea, hea, hca⟩ := hst2.at_ (i := q) (by simp [hq])
              obtain ⟨eb, heb, hcb⟩ := hst2.at_ (i := q + 1) (by simp [hq])
              have ha1 : (rest.reverse ++ [a, b])[q]'(by simp [hq]) = a := by simp [← hq]
              have hb1 : (rest.reverse ++ [a, b])[q + 1]'(by simp [hq]) = b := by simp [← hq]
              rw [ha1] at hea
              rw [hb1] at heb
              obtain ⟨a0, a1, a2, a3, a4, a5, a6, a7, a8, a9, a10, rfl⟩ := eleven_of (ex_len' hea)
              obtain ⟨b0, b1, b2, b3, b4, b5, b6, b7, b8, b9, b10, rfl⟩ := eleven_of (ex_len' heb)
              (have sa0 := store_one' a0 (ex_ones' hea a0 (by simp)))
              (have sa1 := store_one' a1 (ex_ones' hea a1 (by simp)))
              (have sa2 := store_one' a2 (ex_ones' hea a2 (by simp)))
              (have sa3 := store_one' a3 (ex_ones' hea a3 (by simp)))
              (have sa4 := store_one' a4 (ex_ones' hea a4 (by simp)))
              (have sa5 := store_one' a5 (ex_ones' hea a5 (by simp)))
              (have sa6 := store_one' a6 (ex_ones' hea a6 (by simp)))
              (have sa7 := store_one' a7 (ex_ones' hea a7 (by simp)))
              (have sa8 := store_one' a8 (ex_ones' hea a8 (by simp)))
              (have sa9 := store_one' a9 (ex_ones' hea a9 (by simp)))
              (have sa10 := store_one' a10 (ex_ones' hea a10 (by simp)))
              (have sb0 := store_one' b0 (ex_ones' heb b0 (by simp)))
              (have sb1 := store_one' b1 (ex_ones' heb b1 (by simp)))
              (have sb2 := store_one' b2 (ex_ones' heb b2 (by simp)))
              (have sb3 := store_one' b3 (ex_ones' heb b3 (by simp)))
              (have sb4 := store_one' b4 (ex_ones' heb b4 (by simp)))
              (have sb5 := store_one' b5 (ex_ones' heb b5 (by simp)))
              (have sb6 := store_one' b6 (ex_ones' heb b6 (by simp)))
              (have sb7 := store_one' b7 (ex_ones' heb b7 (by simp)))
              (have sb8 := store_one' b8 (ex_ones' heb b8 (by simp)))
              (have sb9 := store_one' b9 (ex_ones' heb b9 (by simp)))
              (have sb10 := store_one' b10 (ex_ones' heb b10 (by simp)))
              have va0 := hca 0 a0 rfl
              have va1 := hca 1 a1 rfl
              have va2 := hca 2 a2 rfl
              have va3 := hca 3 a3 rfl
              have va4 := hca 4 a4 rfl
              have va5 := hca 5 a5 rfl
              have va6 := hca 6 a6 rfl
              have va7 := hca 7 a7 rfl
              have va8 := hca 8 a8 rfl
              have va9 := hca 9 a9 rfl
              have va10 := hca 10 a10 rfl
              have vb0 := hcb 0 b0 rfl
              have vb1 := hcb 1 b1 rfl
              have vb2 := hcb 2 b2 rfl
              have vb3 := hcb 3 b3 rfl
              have vb4 := hcb 4 b4 rfl
              have vb5 := hcb 5 b5 rfl
              have vb6 := hcb 6 b6 rfl
              have vb7 := hcb 7 b7 rfl
              have vb8 := hcb 8 b8 rfl
              have vb9 := hcb 9 b9 rfl
              have vb10 := hcb 10 b10 rfl
              simp only [Nat.add_zero] at va0 vb0
              obtain ⟨gt, ot, op2, hAt, hgt, htk, m0, m1, m2, m3⟩ := tk_at HT.out (k := i) (by rw [HNN.out]; exact hik)
              subst hAt
              have hoo : op2 = op := by rw [HOP.out] at htk; injection htk with htk; exact htk.symm
              subst hoo
              have t0 := (HBA.out.cell (p := ⟨gt, ot + i * 4, none⟩) hgt).trans m0
              have t1 := (HBA.out.cell (p := ⟨gt, ot + i * 4 + 1, none⟩) hgt).trans m1
              have t2 := (HBA.out.cell (p := ⟨gt, ot + i * 4 + 2, none⟩) hgt).trans m2
              have t3 := (HBA.out.cell (p := ⟨gt, ot + i * 4 + 3, none⟩) hgt).trans m3
              have hgop := HGO.out op2 (List.mem_of_getElem? htk)
              have hl2 : (b :: a :: rest).length = q + 1 + 1 := by simp [hq]
              rw [hl2] at hsu' hgb' ⊢
              have HQ := Lib.hid hq
              have HS2 := Lib.hid hst2
              have HEA := Lib.hid hea
              have HEB := Lib.hid heb
              have HGT := Lib.hid hgop
              have HMX := Lib.hid hmx
              have HTK2 := Lib.hid htk
              have hox2 : OldX (exX (exX X W.heap.size) g') wr.heap.size := (HOX.out.ex (m := W1.heap.size) (by omega) (by omega)).ex (by omega) (by omega)
              have CI := Lib.hid (infix_any op2 [a0, a1, a2, a3, a4, a5, a6, a7, a8, a9, a10] [b0, b1, b2, b3, b4, b5, b6, b7, b8, b9, b10] a b _ wr.drew hox2 (HEA.out.later (Low.drew_ _)) (HEB.out.later (Low.drew_ _)) HGT.out.2 HGT.out.1)
              have CI2 := Lib.hid (infix_any op2 [a0, a1, a2, a3, a4, a5, a6, a7, a8, a9, a10] [b0, b1, b2, b3, b4, b5, b6, b7, b8, b9, b10] a b _ wr hox2 HEA.out HEB.out HGT.out.2 HGT.out.1)
              rw [tk_cells] at CI CI2
              clear hea heb hca hcb ha1 hb1 m0 m1 m2 m3 hq hst2 hgop hmx htk hl2 hox2
              have hw1 : IntKind.i64.wrap ((q : Int) + 1 - 1) = (q : Int) := by rw [IntWalk.i64_in _ (by omega)]; omega
              have hw2 : IntKind.i64.wrap (q : Int) = (q : Int) := IntWalk.i64_in _ (by omega)
              have hw3 : IntKind.i64.wrap ((q : Int) + 1) = (q : Int) + 1 := IntWalk.i64_in _ (by omega)
              have hq1 : q < q + 1 + 1 := by omega
              have hq2 : q + 1 < q + 1 + 1 := by omega
              go_upto_region 19 with fail
              refine wp_region_held_drew (S := fun _ => True) (by kernel_rfl) trivial (fun hHeld => ?_)
              refine takeH' (i := 0) (d := 70) (v := .slice (some ⟨g', 0, none⟩) (q + 1 + 1) c') rfl (by kernel_rfl) (by kernel_rfl) (by kernel_rfl) (fun _ _ _ h => h) (Or.inl ⟨by rfl, fun w' hS' => by (first | rfl | (go_simp; done) | (go_simp; intro hh; exfalso; first | omega | (have := hh (by omega); omega)))⟩) hHeld rfl ?_
              try simp only [Act.put, List.setIfInBounds_toArray, List.set_cons_zero, List.set_cons_succ]
              refine takeH' (i := 1) (d := 71) (v := .int .i64 ((q : Int) + 1)) rfl (by kernel_rfl) (by kernel_rfl) (by kernel_rfl) (fun _ _ _ h => h) (Or.inl ⟨by rfl, fun w' hS' => by (first | rfl | (go_simp; done) | (go_simp; intro hh; exfalso; first | omega | (have := hh (by omega); omega)))⟩) hHeld rfl ?_
              try simp only [Act.put, List.setIfInBounds_toArray, List.set_cons_zero, List.set_cons_succ]
              refine takeH' (i := 2) (d := 72) (v := .int .i64 (q : Int)) rfl (by kernel_rfl) (by kernel_rfl) (by kernel_rfl) (fun _ _ _ h => h) (Or.inl ⟨by rfl, fun w' hS' => by (first | rfl | (go_simp; done) | (go_simp; intro hh; exfalso; first | omega | (have := hh (by omega); omega)))⟩) hHeld rfl ?_
              try simp only [Act.put, List.setIfInBounds_toArray, List.set_cons_zero, List.set_cons_succ]
              refine takeH' (i := 3) (d := 73) (v := .slice (some ⟨gt, ot, none⟩) k ct) rfl (by kernel_rfl) (by kernel_rfl) (by kernel_rfl) (fun _ _ _ h => h) (Or.inl ⟨by rfl, fun w' hS' => by (first | rfl | (go_simp; done) | (go_simp; intro hh; exfalso; first | omega | (have := hh (by omega); omega)))⟩) hHeld rfl ?_
              try simp only [Act.put, List.setIfInBounds_toArray, List.set_cons_zero, List.set_cons_succ]
              refine takeH' (i := 4) (d := 74) (v := .int .i64 (i : Int)) rfl (by kernel_rfl) (by kernel_rfl) (by kernel_rfl) (fun _ _ _ h => h) (Or.inl ⟨by rfl, fun w' hS' => by (first | rfl | (go_simp; done) | (go_simp; intro hh; exfalso; first | omega | (have := hh (by omega); omega)))⟩) hHeld rfl ?_
              try simp only [Act.put, List.setIfInBounds_toArray, List.set_cons_zero, List.set_cons_succ]
              refine takeH' (i := 5) (d := 75) (v := .pointer (some ⟨gt, ot + i * 4, none⟩)) rfl (by kernel_rfl) (by kernel_rfl) (by kernel_rfl) (fun _ _ _ h => h) (Or.inl ⟨by rfl, fun w' hS' => by (first | rfl | (go_simp; done) | (go_simp; intro hh; exfalso; first | omega | (have := hh (by omega); omega)))⟩) hHeld rfl ?_
              try simp only [Act.put, List.setIfInBounds_toArray, List.set_cons_zero, List.set_cons_succ]
              refine takeH' (i := 7) (d := 77) (v := .slice (some ⟨g', 0, none⟩) (q + 1 + 1) c') rfl (by kernel_rfl) (by kernel_rfl) (by kernel_rfl) (fun _ _ _ h => h) (Or.inl ⟨by rfl, fun w' hS' => by (first | rfl | (go_simp; done) | (go_simp; intro hh; exfalso; first | omega | (have := hh (by omega); omega)))⟩) hHeld rfl ?_
              try simp only [Act.put, List.setIfInBounds_toArray, List.set_cons_zero, List.set_cons_succ]
              refine takeH' (i := 8) (d := 78) (v := .int .i64 ((q : Int) + 1)) rfl (by kernel_rfl) (by kernel_rfl) (by kernel_rfl) (fun _ _ _ h => h) (Or.inl ⟨by rfl, fun w' hS' => by (first | rfl | (go_simp; done) | (go_simp; intro hh; exfalso; first | omega | (have := hh (by omega); omega)))⟩) hHeld rfl ?_
              try simp only [Act.put, List.setIfInBounds_toArray, List.set_cons_zero, List.set_cons_succ]
              refine takeH' (i := 9) (d := 79) (v := .int .i64 (q : Int)) rfl (by kernel_rfl) (by kernel_rfl) (by kernel_rfl) (fun _ _ _ h => h) (Or.inl ⟨by rfl, fun w' hS' => by (first | rfl | (go_simp; done) | (go_simp; intro hh; exfalso; first | omega | (have := hh (by omega); omega)))⟩) hHeld rfl ?_
              try simp only [Act.put, List.setIfInBounds_toArray, List.set_cons_zero, List.set_cons_succ]
              refine takeH' (i := 10) (d := 80) (v := .pointer (some ⟨g', q * 11, none⟩)) rfl (by kernel_rfl) (by kernel_rfl) (by kernel_rfl) (fun _ _ _ h => h) (Or.inl ⟨by rfl, fun w' hS' => by (first | rfl | (go_simp; done) | (go_simp; intro hh; exfalso; first | omega | (have := hh (by omega); omega)))⟩) hHeld rfl ?_
              try simp only [Act.put, List.setIfInBounds_toArray, List.set_cons_zero, List.set_cons_succ]
              refine takeH' (i := 12) (d := 82) (v := .slice (some ⟨g', 0, none⟩) (q + 1 + 1) c') rfl (by kernel_rfl) (by kernel_rfl) (by kernel_rfl) (fun _ _ _ h => h) (Or.inl ⟨by rfl, fun w' hS' => by (first | rfl | (go_simp; done) | (go_simp; intro hh; exfalso; first | omega | (have := hh (by omega); omega)))⟩) hHeld rfl ?_
              try simp only [Act.put, List.setIfInBounds_toArray, List.set_cons_zero, List.set_cons_succ]
              refine takeH' (i := 13) (d := 83) (v := .int .i64 ((q : Int) + 1)) rfl (by kernel_rfl) (by kernel_rfl) (by kernel_rfl) (fun _ _ _ h => h) (Or.inl ⟨by rfl, fun w' hS' => by (first | rfl | (go_simp; done) | (go_simp; intro hh; exfalso; first | omega | (have := hh (by omega); omega)))⟩) hHeld rfl ?_
              try simp only [Act.put, List.setIfInBounds_toArray, List.set_cons_zero, List.set_cons_succ]
              refine takeH' (i := 14) (d := 84) (v := .pointer (some ⟨g', (q + 1) * 11, none⟩)) rfl (by kernel_rfl) (by kernel_rfl) (by kernel_rfl) (fun _ _ _ h => h) (Or.inl ⟨by rfl, fun w' hS' => by (first | rfl | (go_simp; done) | (go_simp; intro hh; exfalso; first | omega | (have := hh (by omega); omega)))⟩) hHeld rfl ?_
              try simp only [Act.put, List.setIfInBounds_toArray, List.set_cons_zero, List.set_cons_succ]
              refine wpAnyH_ready (rs := [6, 11, 15]) (by kernel_rfl) (by simp) ?_
              refine AllReadyH.cons rfl (fun K hK => ?_) (AllReadyH.cons rfl (fun K hK => ?_) (AllReadyH.cons rfl (fun K hK => ?_) (AllReadyH.nil)))
              · try go_simp
                refine hK.out _ _ trivial (fun hHeld => ?_)
                clear hK K
                try simp only [Act.put, List.setIfInBounds_toArray, List.set_cons_zero, List.set_cons_succ]
                refine wpAnyH_ready (rs := [11, 15]) (by kernel_rfl) (by simp) ?_
                refine AllReadyH.cons rfl (fun K hK => ?_) (AllReadyH.cons rfl (fun K hK => ?_) (AllReadyH.nil))
                · try go_simp
                  refine hK.out _ _ trivial (fun hHeld => ?_)
                  clear hK K
                  try simp only [Act.put, List.setIfInBounds_toArray, List.set_cons_zero, List.set_cons_succ]
                  refine wpAnyH_ready (rs := [15]) (by kernel_rfl) (by simp) ?_
                  refine AllReadyH.cons rfl (fun K hK => ?_) (AllReadyH.nil)
                  · try go_simp
                    refine hK.out _ _ trivial (fun hHeld => ?_)
                    clear hK K
                    try simp only [Act.put, List.setIfInBounds_toArray, List.set_cons_zero, List.set_cons_succ]
                    refine wpAnyH_ready (rs := [16]) (by kernel_rfl) (by simp) ?_
                    refine AllReadyH.cons rfl (fun K hK => ?_) AllReadyH.nil
                    try go_simp
                    refine CI.out.mono ?_
                    rintro e8 w8 ⟨hb8, zs, hlen8, rfl, hty8⟩
                    obtain ⟨z0, z1, z2, z3, z4, z5, z6, z7, z8, z9, z10, rfl⟩ := eleven_of hlen8
                    (have sz0 := store_one' z0 (ex_ones' hty8 z0 (by simp))); (have sz1 := store_one' z1 (ex_ones' hty8 z1 (by simp))); (have sz2 := store_one' z2 (ex_ones' hty8 z2 (by simp))); (have sz3 := store_one' z3 (ex_ones' hty8 z3 (by simp))); (have sz4 := store_one' z4 (ex_ones' hty8 z4 (by simp))); (have sz5 := store_one' z5 (ex_ones' hty8 z5 (by simp))); (have sz6 := store_one' z6 (ex_ones' hty8 z6 (by simp))); (have sz7 := store_one' z7 (ex_ones' hty8 z7 (by simp))); (have sz8 := store_one' z8 (ex_ones' hty8 z8 (by simp))); (have sz9 := store_one' z9 (ex_ones' hty8 z9 (by simp))); (have sz10 := store_one' z10 (ex_ones' hty8 z10 (by simp)))
                    go_wp2_with fail
                    refine hK.out _ _ trivial (fun hHeld => ?_)
                    clear hK K
                    try simp only [Act.put, List.setIfInBounds_toArray, List.set_cons_zero, List.set_cons_succ]
                    have hb8' : Below wr.heap.size wr w8 := (Below.refl _ _).drew.trans hb8
                    have hst8 := HS2.out.below hb8'
                    obtain ⟨ec, hec, hcc⟩ := hst8.at_ (i := q) (by simp [HQ.out])
                    obtain ⟨r0, r1, r2, r3, r4, r5, r6, r7, r8, r9, r10, rfl⟩ := eleven_of (ex_len' hec)
                    (have y0 := hcc 0 r0 rfl); (have y1 := hcc 1 r1 rfl); (have y2 := hcc 2 r2 rfl); (have y3 := hcc 3 r3 rfl); (have y4 := hcc 4 r4 rfl); (have y5 := hcc 5 r5 rfl); (have y6 := hcc 6 r6 rfl); (have y7 := hcc 7 r7 rfl); (have y8 := hcc 8 r8 rfl); (have y9 := hcc 9 r9 rfl); (have y10 := hcc 10 r10 rfl); (have w0 := hst8.frozen (q * 11 + 0)); (have w1 := hst8.frozen (q * 11 + 1)); (have w2 := hst8.frozen (q * 11 + 2)); (have w3 := hst8.frozen (q * 11 + 3)); (have w4 := hst8.frozen (q * 11 + 4)); (have w5 := hst8.frozen (q * 11 + 5)); (have w6 := hst8.frozen (q * 11 + 6)); (have w7 := hst8.frozen (q * 11 + 7)); (have w8 := hst8.frozen (q * 11 + 8)); (have w9 := hst8.frozen (q * 11 + 9)); (have w10 := hst8.frozen (q * 11 + 10))
                    simp only [Nat.add_zero] at y0 w0
                    refine takeH' (i := 17) (d := 87) (v := .pointer (some ⟨g', q * 11, none⟩)) rfl (by kernel_rfl) (by kernel_rfl) (by kernel_rfl) (fun _ _ _ h => h) (Or.inl ⟨by rfl, fun w' hS' => by (first | rfl | (go_simp; done) | (go_simp; intro hh; exfalso; first | omega | (have := hh (by omega); omega)))⟩) hHeld rfl ?_
                    try simp only [Act.put, List.setIfInBounds_toArray, List.set_cons_zero, List.set_cons_succ]
                    refine wpAnyH_ready (rs := [18]) (by kernel_rfl) (by simp) ?_
                    refine AllReadyH.cons rfl (fun K hK => ?_) AllReadyH.nil
                    go_simp
                    refine hK.out _ _ trivial (fun hHeld => ?_)
                    clear hK K
                    try simp only [Act.put, List.setIfInBounds_toArray, List.set_cons_zero, List.set_cons_succ]
                    refine wpAnyH_done (by kernel_rfl) ?_ _
                    have hput := hst8.put hty8 (q * 11) (by simp [HQ.out]) z0 z1 z2 z3 z4 z5 z6 z7 z8 z9 z10 rfl
                    rw [← List.reverse_cons] at hput
                    have hbp := below_set11o (o := q * 11) (HBW3.out.trans (hb8'.mono (by omega))) (by omega : B6 ≤ g') z0 z1 z2 z3 z4 z5 z6 z7 z8 z9 z10
                    have HPUT := Lib.hid hput
                    have HBP := Lib.hid hbp
                    clear hput hbp hst8 hty8 hb8 hb8' hec hcc
                    go_wp2_with fail
                    go_roundw
                    case rel => exact ⟨j + 1, u', g', c', infixE op2 a b :: rest, by go_num, by omega, rfl, by omega, by simp [HQ.out]; omega, by simp [HQ.out], by rw [← HMX.out]; exact HGO2.out, HPUT.out, HBP.out⟩
                    case measure => simp [intOf]; omega
                · try go_simp
                  refine hK.out _ _ trivial (fun hHeld => ?_)
                  clear hK K
                  try simp only [Act.put, List.setIfInBounds_toArray, List.set_cons_zero, List.set_cons_succ]
                  refine wpAnyH_ready (rs := [11]) (by kernel_rfl) (by simp) ?_
                  refine AllReadyH.cons rfl (fun K hK => ?_) (AllReadyH.nil)
                  · try go_simp
                    refine hK.out _ _ trivial (fun hHeld => ?_)
                    clear hK K
                    try simp only [Act.put, List.setIfInBounds_toArray, List.set_cons_zero, List.set_cons_succ]
                    refine wpAnyH_ready (rs := [16]) (by kernel_rfl) (by simp) ?_
                    refine AllReadyH.cons rfl (fun K hK => ?_) AllReadyH.nil
                    try go_simp
                    refine CI.out.mono ?_
                    rintro e8 w8 ⟨hb8, zs, hlen8, rfl, hty8⟩
                    obtain ⟨z0, z1, z2, z3, z4, z5, z6, z7, z8, z9, z10, rfl⟩ := eleven_of hlen8
                    (have sz0 := store_one' z0 (ex_ones' hty8 z0 (by simp))); (have sz1 := store_one' z1 (ex_ones' hty8 z1 (by simp))); (have sz2 := store_one' z2 (ex_ones' hty8 z2 (by simp))); (have sz3 := store_one' z3 (ex_ones' hty8 z3 (by simp))); (have sz4 := store_one' z4 (ex_ones' hty8 z4 (by simp))); (have sz5 := store_one' z5 (ex_ones' hty8 z5 (by simp))); (have sz6 := store_one' z6 (ex_ones' hty8 z6 (by simp))); (have sz7 := store_one' z7 (ex_ones' hty8 z7 (by simp))); (have sz8 := store_one' z8 (ex_ones' hty8 z8 (by simp))); (have sz9 := store_one' z9 (ex_ones' hty8 z9 (by simp))); (have sz10 := store_one' z10 (ex_ones' hty8 z10 (by simp)))
                    go_wp2_with fail
                    refine hK.out _ _ trivial (fun hHeld => ?_)
                    clear hK K
                    try simp only [Act.put, List.setIfInBounds_toArray, List.set_cons_zero, List.set_cons_succ]
                    have hb8' : Below wr.heap.size wr w8 := (Below.refl _ _).drew.trans hb8
                    have hst8 := HS2.out.below hb8'
                    obtain ⟨ec, hec, hcc⟩ := hst8.at_ (i := q) (by simp [HQ.out])
                    obtain ⟨r0, r1, r2, r3, r4, r5, r6, r7, r8, r9, r10, rfl⟩ := eleven_of (ex_len' hec)
                    (have y0 := hcc 0 r0 rfl); (have y1 := hcc 1 r1 rfl); (have y2 := hcc 2 r2 rfl); (have y3 := hcc 3 r3 rfl); (have y4 := hcc 4 r4 rfl); (have y5 := hcc 5 r5 rfl); (have y6 := hcc 6 r6 rfl); (have y7 := hcc 7 r7 rfl); (have y8 := hcc 8 r8 rfl); (have y9 := hcc 9 r9 rfl); (have y10 := hcc 10 r10 rfl); (have w0 := hst8.frozen (q * 11 + 0)); (have w1 := hst8.frozen (q * 11 + 1)); (have w2 := hst8.frozen (q * 11 + 2)); (have w3 := hst8.frozen (q * 11 + 3)); (have w4 := hst8.frozen (q * 11 + 4)); (have w5 := hst8.frozen (q * 11 + 5)); (have w6 := hst8.frozen (q * 11 + 6)); (have w7 := hst8.frozen (q * 11 + 7)); (have w8 := hst8.frozen (q * 11 + 8)); (have w9 := hst8.frozen (q * 11 + 9)); (have w10 := hst8.frozen (q * 11 + 10))
                    simp only [Nat.add_zero] at y0 w0
                    refine takeH' (i := 17) (d := 87) (v := .pointer (some ⟨g', q * 11, none⟩)) rfl (by kernel_rfl) (by kernel_rfl) (by kernel_rfl) (fun _ _ _ h => h) (Or.inl ⟨by rfl, fun w' hS' => by (first | rfl | (go_simp; done) | (go_simp; intro hh; exfalso; first | omega | (have := hh (by omega); omega)))⟩) hHeld rfl ?_
                    try simp only [Act.put, List.setIfInBounds_toArray, List.set_cons_zero, List.set_cons_succ]
                    refine wpAnyH_ready (rs := [18]) (by kernel_rfl) (by simp) ?_
                    refine AllReadyH.cons rfl (fun K hK => ?_) AllReadyH.nil
                    go_simp
                    refine hK.out _ _ trivial (fun hHeld => ?_)
                    clear hK K
                    try simp only [Act.put, List.setIfInBounds_toArray, List.set_cons_zero, List.set_cons_succ]
                    refine wpAnyH_done (by kernel_rfl) ?_ _
                    have hput := hst8.put hty8 (q * 11) (by simp [HQ.out]) z0 z1 z2 z3 z4 z5 z6 z7 z8 z9 z10 rfl
                    rw [← List.reverse_cons] at hput
                    have hbp := below_set11o (o := q * 11) (HBW3.out.trans (hb8'.mono (by omega))) (by omega : B6 ≤ g') z0 z1 z2 z3 z4 z5 z6 z7 z8 z9 z10
                    have HPUT := Lib.hid hput
                    have HBP := Lib.hid hbp
                    clear hput hbp hst8 hty8 hb8 hb8' hec hcc
                    go_wp2_with fail
                    go_roundw
                    case rel => exact ⟨j + 1, u', g', c', infixE op2 a b :: rest, by go_num, by omega, rfl, by omega, by simp [HQ.out]; omega, by simp [HQ.out], by rw [← HMX.out]; exact HGO2.out, HPUT.out, HBP.out⟩
                    case measure => simp [intOf]; omega
              · try go_simp
                refine hK.out _ _ trivial (fun hHeld => ?_)
                clear hK K
                try simp only [Act.put, List.setIfInBounds_toArray, List.set_cons_zero, List.set_cons_succ]
                refine wpAnyH_ready (rs := [6, 15]) (by kernel_rfl) (by simp) ?_
                refine AllReadyH.cons rfl (fun K hK => ?_) (AllReadyH.cons rfl (fun K hK => ?_) (AllReadyH.nil))
                · try go_simp
                  refine hK.out _ _ trivial (fun hHeld => ?_)
                  clear hK K
                  try simp only [Act.put, List.setIfInBounds_toArray, List.set_cons_zero, List.set_cons_succ]
                  refine wpAnyH_ready (rs := [15]) (by kernel_rfl) (by simp) ?_
                  refine AllReadyH.cons rfl (fun K hK => ?_) (AllReadyH.nil)
                  · try go_simp
                    refine hK.out _ _ trivial (fun hHeld => ?_)
                    clear hK K
                    try simp only [Act.put, List.setIfInBounds_toArray, List.set_cons_zero, List.set_cons_succ]
                    refine wpAnyH_ready (rs := [16]) (by kernel_rfl) (by simp) ?_
                    refine AllReadyH.cons rfl (fun K hK => ?_) AllReadyH.nil
                    try go_simp
                    refine CI.out.mono ?_
                    rintro e8 w8 ⟨hb8, zs, hlen8, rfl, hty8⟩
                    obtain ⟨z0, z1, z2, z3, z4, z5, z6, z7, z8, z9, z10, rfl⟩ := eleven_of hlen8
                    (have sz0 := store_one' z0 (ex_ones' hty8 z0 (by simp))); (have sz1 := store_one' z1 (ex_ones' hty8 z1 (by simp))); (have sz2 := store_one' z2 (ex_ones' hty8 z2 (by simp))); (have sz3 := store_one' z3 (ex_ones' hty8 z3 (by simp))); (have sz4 := store_one' z4 (ex_ones' hty8 z4 (by simp))); (have sz5 := store_one' z5 (ex_ones' hty8 z5 (by simp))); (have sz6 := store_one' z6 (ex_ones' hty8 z6 (by simp))); (have sz7 := store_one' z7 (ex_ones' hty8 z7 (by simp))); (have sz8 := store_one' z8 (ex_ones' hty8 z8 (by simp))); (have sz9 := store_one' z9 (ex_ones' hty8 z9 (by simp))); (have sz10 := store_one' z10 (ex_ones' hty8 z10 (by simp)))
                    go_wp2_with fail
                    refine hK.out _ _ trivial (fun hHeld => ?_)
                    clear hK K
                    try simp only [Act.put, List.setIfInBounds_toArray, List.set_cons_zero, List.set_cons_succ]
                    have hb8' : Below wr.heap.size wr w8 := (Below.refl _ _).drew.trans hb8
                    have hst8 := HS2.out.below hb8'
                    obtain ⟨ec, hec, hcc⟩ := hst8.at_ (i := q) (by simp [HQ.out])
                    obtain ⟨r0, r1, r2, r3, r4, r5, r6, r7, r8, r9, r10, rfl⟩ := eleven_of (ex_len' hec)
                    (have y0 := hcc 0 r0 rfl); (have y1 := hcc 1 r1 rfl); (have y2 := hcc 2 r2 rfl); (have y3 := hcc 3 r3 rfl); (have y4 := hcc 4 r4 rfl); (have y5 := hcc 5 r5 rfl); (have y6 := hcc 6 r6 rfl); (have y7 := hcc 7 r7 rfl); (have y8 := hcc 8 r8 rfl); (have y9 := hcc 9 r9 rfl); (have y10 := hcc 10 r10 rfl); (have w0 := hst8.frozen (q * 11 + 0)); (have w1 := hst8.frozen (q * 11 + 1)); (have w2 := hst8.frozen (q * 11 + 2)); (have w3 := hst8.frozen (q * 11 + 3)); (have w4 := hst8.frozen (q * 11 + 4)); (have w5 := hst8.frozen (q * 11 + 5)); (have w6 := hst8.frozen (q * 11 + 6)); (have w7 := hst8.frozen (q * 11 + 7)); (have w8 := hst8.frozen (q * 11 + 8)); (have w9 := hst8.frozen (q * 11 + 9)); (have w10 := hst8.frozen (q * 11 + 10))
                    simp only [Nat.add_zero] at y0 w0
                    refine takeH' (i := 17) (d := 87) (v := .pointer (some ⟨g', q * 11, none⟩)) rfl (by kernel_rfl) (by kernel_rfl) (by kernel_rfl) (fun _ _ _ h => h) (Or.inl ⟨by rfl, fun w' hS' => by (first | rfl | (go_simp; done) | (go_simp; intro hh; exfalso; first | omega | (have := hh (by omega); omega)))⟩) hHeld rfl ?_
                    try simp only [Act.put, List.setIfInBounds_toArray, List.set_cons_zero, List.set_cons_succ]
                    refine wpAnyH_ready (rs := [18]) (by kernel_rfl) (by simp) ?_
                    refine AllReadyH.cons rfl (fun K hK => ?_) AllReadyH.nil
                    go_simp
                    refine hK.out _ _ trivial (fun hHeld => ?_)
                    clear hK K
                    try simp only [Act.put, List.setIfInBounds_toArray, List.set_cons_zero, List.set_cons_succ]
                    refine wpAnyH_done (by kernel_rfl) ?_ _
                    have hput := hst8.put hty8 (q * 11) (by simp [HQ.out]) z0 z1 z2 z3 z4 z5 z6 z7 z8 z9 z10 rfl
                    rw [← List.reverse_cons] at hput
                    have hbp := below_set11o (o := q * 11) (HBW3.out.trans (hb8'.mono (by omega))) (by omega : B6 ≤ g') z0 z1 z2 z3 z4 z5 z6 z7 z8 z9 z10
                    have HPUT := Lib.hid hput
                    have HBP := Lib.hid hbp
                    clear hput hbp hst8 hty8 hb8 hb8' hec hcc
                    go_wp2_with fail
                    go_roundw
                    case rel => exact ⟨j + 1, u', g', c', infixE op2 a b :: rest, by go_num, by omega, rfl, by omega, by simp [HQ.out]; omega, by simp [HQ.out], by rw [← HMX.out]; exact HGO2.out, HPUT.out, HBP.out⟩
                    case measure => simp [intOf]; omega
                · try go_simp
                  refine hK.out _ _ trivial (fun hHeld => ?_)
                  clear hK K
                  try simp only [Act.put, List.setIfInBounds_toArray, List.set_cons_zero, List.set_cons_succ]
                  refine wpAnyH_ready (rs := [6]) (by kernel_rfl) (by simp) ?_
                  refine AllReadyH.cons rfl (fun K hK => ?_) (AllReadyH.nil)
                  · try go_simp
                    refine hK.out _ _ trivial (fun hHeld => ?_)
                    clear hK K
                    try simp only [Act.put, List.setIfInBounds_toArray, List.set_cons_zero, List.set_cons_succ]
                    refine wpAnyH_ready (rs := [16]) (by kernel_rfl) (by simp) ?_
                    refine AllReadyH.cons rfl (fun K hK => ?_) AllReadyH.nil
                    try go_simp
                    refine CI.out.mono ?_
                    rintro e8 w8 ⟨hb8, zs, hlen8, rfl, hty8⟩
                    obtain ⟨z0, z1, z2, z3, z4, z5, z6, z7, z8, z9, z10, rfl⟩ := eleven_of hlen8
                    (have sz0 := store_one' z0 (ex_ones' hty8 z0 (by simp))); (have sz1 := store_one' z1 (ex_ones' hty8 z1 (by simp))); (have sz2 := store_one' z2 (ex_ones' hty8 z2 (by simp))); (have sz3 := store_one' z3 (ex_ones' hty8 z3 (by simp))); (have sz4 := store_one' z4 (ex_ones' hty8 z4 (by simp))); (have sz5 := store_one' z5 (ex_ones' hty8 z5 (by simp))); (have sz6 := store_one' z6 (ex_ones' hty8 z6 (by simp))); (have sz7 := store_one' z7 (ex_ones' hty8 z7 (by simp))); (have sz8 := store_one' z8 (ex_ones' hty8 z8 (by simp))); (have sz9 := store_one' z9 (ex_ones' hty8 z9 (by simp))); (have sz10 := store_one' z10 (ex_ones' hty8 z10 (by simp)))
                    go_wp2_with fail
                    refine hK.out _ _ trivial (fun hHeld => ?_)
                    clear hK K
                    try simp only [Act.put, List.setIfInBounds_toArray, List.set_cons_zero, List.set_cons_succ]
                    have hb8' : Below wr.heap.size wr w8 := (Below.refl _ _).drew.trans hb8
                    have hst8 := HS2.out.below hb8'
                    obtain ⟨ec, hec, hcc⟩ := hst8.at_ (i := q) (by simp [HQ.out])
                    obtain ⟨r0, r1, r2, r3, r4, r5, r6, r7, r8, r9, r10, rfl⟩ := eleven_of (ex_len' hec)
                    (have y0 := hcc 0 r0 rfl); (have y1 := hcc 1 r1 rfl); (have y2 := hcc 2 r2 rfl); (have y3 := hcc 3 r3 rfl); (have y4 := hcc 4 r4 rfl); (have y5 := hcc 5 r5 rfl); (have y6 := hcc 6 r6 rfl); (have y7 := hcc 7 r7 rfl); (have y8 := hcc 8 r8 rfl); (have y9 := hcc 9 r9 rfl); (have y10 := hcc 10 r10 rfl); (have w0 := hst8.frozen (q * 11 + 0)); (have w1 := hst8.frozen (q * 11 + 1)); (have w2 := hst8.frozen (q * 11 + 2)); (have w3 := hst8.frozen (q * 11 + 3)); (have w4 := hst8.frozen (q * 11 + 4)); (have w5 := hst8.frozen (q * 11 + 5)); (have w6 := hst8.frozen (q * 11 + 6)); (have w7 := hst8.frozen (q * 11 + 7)); (have w8 := hst8.frozen (q * 11 + 8)); (have w9 := hst8.frozen (q * 11 + 9)); (have w10 := hst8.frozen (q * 11 + 10))
                    simp only [Nat.add_zero] at y0 w0
                    refine takeH' (i := 17) (d := 87) (v := .pointer (some ⟨g', q * 11, none⟩)) rfl (by kernel_rfl) (by kernel_rfl) (by kernel_rfl) (fun _ _ _ h => h) (Or.inl ⟨by rfl, fun w' hS' => by (first | rfl | (go_simp; done) | (go_simp; intro hh; exfalso; first | omega | (have := hh (by omega); omega)))⟩) hHeld rfl ?_
                    try simp only [Act.put, List.setIfInBounds_toArray, List.set_cons_zero, List.set_cons_succ]
                    refine wpAnyH_ready (rs := [18]) (by kernel_rfl) (by simp) ?_
                    refine AllReadyH.cons rfl (fun K hK => ?_) AllReadyH.nil
                    go_simp
                    refine hK.out _ _ trivial (fun hHeld => ?_)
                    clear hK K
                    try simp only [Act.put, List.setIfInBounds_toArray, List.set_cons_zero, List.set_cons_succ]
                    refine wpAnyH_done (by kernel_rfl) ?_ _
                    have hput := hst8.put hty8 (q * 11) (by simp [HQ.out]) z0 z1 z2 z3 z4 z5 z6 z7 z8 z9 z10 rfl
                    rw [← List.reverse_cons] at hput
                    have hbp := below_set11o (o := q * 11) (HBW3.out.trans (hb8'.mono (by omega))) (by omega : B6 ≤ g') z0 z1 z2 z3 z4 z5 z6 z7 z8 z9 z10
                    have HPUT := Lib.hid hput
                    have HBP := Lib.hid hbp
                    clear hput hbp hst8 hty8 hb8 hb8' hec hcc
                    go_wp2_with fail
                    go_roundw
                    case rel => exact ⟨j + 1, u', g', c', infixE op2 a b :: rest, by go_num, by omega, rfl, by omega, by simp [HQ.out]; omega, by simp [HQ.out], by rw [← HMX.out]; exact HGO2.out, HPUT.out, HBP.out⟩
                    case measure => simp [intOf]; omega
              · try go_simp
                refine hK.out _ _ trivial (fun hHeld => ?_)
                clear hK K
                try simp only [Act.put, List.setIfInBounds_toArray, List.set_cons_zero, List.set_cons_succ]
                refine wpAnyH_ready (rs := [6, 11]) (by kernel_rfl) (by simp) ?_
                refine AllReadyH.cons rfl (fun K hK => ?_) (AllReadyH.cons rfl (fun K hK => ?_) (AllReadyH.nil))
                · try go_simp
                  refine hK.out _ _ trivial (fun hHeld => ?_)
                  clear hK K
                  try simp only [Act.put, List.setIfInBounds_toArray, List.set_cons_zero, List.set_cons_succ]
                  refine wpAnyH_ready (rs := [11]) (by kernel_rfl) (by simp) ?_
                  refine AllReadyH.cons rfl (fun K hK => ?_) (AllReadyH.nil)
                  · try go_simp
                    refine hK.out _ _ trivial (fun hHeld => ?_)
                    clear hK K
                    try simp only [Act.put, List.setIfInBounds_toArray, List.set_cons_zero, List.set_cons_succ]
                    refine wpAnyH_ready (rs := [16]) (by kernel_rfl) (by simp) ?_
                    refine AllReadyH.cons rfl (fun K hK => ?_) AllReadyH.nil
                    try go_simp
                    refine CI.out.mono ?_
                    rintro e8 w8 ⟨hb8, zs, hlen8, rfl, hty8⟩
                    obtain ⟨z0, z1, z2, z3, z4, z5, z6, z7, z8, z9, z10, rfl⟩ := eleven_of hlen8
                    (have sz0 := store_one' z0 (ex_ones' hty8 z0 (by simp))); (have sz1 := store_one' z1 (ex_ones' hty8 z1 (by simp))); (have sz2 := store_one' z2 (ex_ones' hty8 z2 (by simp))); (have sz3 := store_one' z3 (ex_ones' hty8 z3 (by simp))); (have sz4 := store_one' z4 (ex_ones' hty8 z4 (by simp))); (have sz5 := store_one' z5 (ex_ones' hty8 z5 (by simp))); (have sz6 := store_one' z6 (ex_ones' hty8 z6 (by simp))); (have sz7 := store_one' z7 (ex_ones' hty8 z7 (by simp))); (have sz8 := store_one' z8 (ex_ones' hty8 z8 (by simp))); (have sz9 := store_one' z9 (ex_ones' hty8 z9 (by simp))); (have sz10 := store_one' z10 (ex_ones' hty8 z10 (by simp)))
                    go_wp2_with fail
                    refine hK.out _ _ trivial (fun hHeld => ?_)
                    clear hK K
                    try simp only [Act.put, List.setIfInBounds_toArray, List.set_cons_zero, List.set_cons_succ]
                    have hb8' : Below wr.heap.size wr w8 := (Below.refl _ _).drew.trans hb8
                    have hst8 := HS2.out.below hb8'
                    obtain ⟨ec, hec, hcc⟩ := hst8.at_ (i := q) (by simp [HQ.out])
                    obtain ⟨r0, r1, r2, r3, r4, r5, r6, r7, r8, r9, r10, rfl⟩ := eleven_of (ex_len' hec)
                    (have y0 := hcc 0 r0 rfl); (have y1 := hcc 1 r1 rfl); (have y2 := hcc 2 r2 rfl); (have y3 := hcc 3 r3 rfl); (have y4 := hcc 4 r4 rfl); (have y5 := hcc 5 r5 rfl); (have y6 := hcc 6 r6 rfl); (have y7 := hcc 7 r7 rfl); (have y8 := hcc 8 r8 rfl); (have y9 := hcc 9 r9 rfl); (have y10 := hcc 10 r10 rfl); (have w0 := hst8.frozen (q * 11 + 0)); (have w1 := hst8.frozen (q * 11 + 1)); (have w2 := hst8.frozen (q * 11 + 2)); (have w3 := hst8.frozen (q * 11 + 3)); (have w4 := hst8.frozen (q * 11 + 4)); (have w5 := hst8.frozen (q * 11 + 5)); (have w6 := hst8.frozen (q * 11 + 6)); (have w7 := hst8.frozen (q * 11 + 7)); (have w8 := hst8.frozen (q * 11 + 8)); (have w9 := hst8.frozen (q * 11 + 9)); (have w10 := hst8.frozen (q * 11 + 10))
                    simp only [Nat.add_zero] at y0 w0
                    refine takeH' (i := 17) (d := 87) (v := .pointer (some ⟨g', q * 11, none⟩)) rfl (by kernel_rfl) (by kernel_rfl) (by kernel_rfl) (fun _ _ _ h => h) (Or.inl ⟨by rfl, fun w' hS' => by (first | rfl | (go_simp; done) | (go_simp; intro hh; exfalso; first | omega | (have := hh (by omega); omega)))⟩) hHeld rfl ?_
                    try simp only [Act.put, List.setIfInBounds_toArray, List.set_cons_zero, List.set_cons_succ]
                    refine wpAnyH_ready (rs := [18]) (by kernel_rfl) (by simp) ?_
                    refine AllReadyH.cons rfl (fun K hK => ?_) AllReadyH.nil
                    go_simp
                    refine hK.out _ _ trivial (fun hHeld => ?_)
                    clear hK K
                    try simp only [Act.put, List.setIfInBounds_toArray, List.set_cons_zero, List.set_cons_succ]
                    refine wpAnyH_done (by kernel_rfl) ?_ _
                    have hput := hst8.put hty8 (q * 11) (by simp [HQ.out]) z0 z1 z2 z3 z4 z5 z6 z7 z8 z9 z10 rfl
                    rw [← List.reverse_cons] at hput
                    have hbp := below_set11o (o := q * 11) (HBW3.out.trans (hb8'.mono (by omega))) (by omega : B6 ≤ g') z0 z1 z2 z3 z4 z5 z6 z7 z8 z9 z10
                    have HPUT := Lib.hid hput
                    have HBP := Lib.hid hbp
                    clear hput hbp hst8 hty8 hb8 hb8' hec hcc
                    go_wp2_with fail
                    go_roundw
                    case rel => exact ⟨j + 1, u', g', c', infixE op2 a b :: rest, by go_num, by omega, rfl, by omega, by simp [HQ.out]; omega, by simp [HQ.out], by rw [← HMX.out]; exact HGO2.out, HPUT.out, HBP.out⟩
                    case measure => simp [intOf]; omega
                · try go_simp
                  refine hK.out _ _ trivial (fun hHeld => ?_)
                  clear hK K
                  try simp only [Act.put, List.setIfInBounds_toArray, List.set_cons_zero, List.set_cons_succ]
                  refine wpAnyH_ready (rs := [6]) (by kernel_rfl) (by simp) ?_
                  refine AllReadyH.cons rfl (fun K hK => ?_) (AllReadyH.nil)
                  · try go_simp
                    refine hK.out _ _ trivial (fun hHeld => ?_)
                    clear hK K
                    try simp only [Act.put, List.setIfInBounds_toArray, List.set_cons_zero, List.set_cons_succ]
                    refine wpAnyH_ready (rs := [16]) (by kernel_rfl) (by simp) ?_
                    refine AllReadyH.cons rfl (fun K hK => ?_) AllReadyH.nil
                    try go_simp
                    refine CI.out.mono ?_
                    rintro e8 w8 ⟨hb8, zs, hlen8, rfl, hty8⟩
                    obtain ⟨z0, z1, z2, z3, z4, z5, z6, z7, z8, z9, z10, rfl⟩ := eleven_of hlen8
                    (have sz0 := store_one' z0 (ex_ones' hty8 z0 (by simp))); (have sz1 := store_one' z1 (ex_ones' hty8 z1 (by simp))); (have sz2 := store_one' z2 (ex_ones' hty8 z2 (by simp))); (have sz3 := store_one' z3 (ex_ones' hty8 z3 (by simp))); (have sz4 := store_one' z4 (ex_ones' hty8 z4 (by simp))); (have sz5 := store_one' z5 (ex_ones' hty8 z5 (by simp))); (have sz6 := store_one' z6 (ex_ones' hty8 z6 (by simp))); (have sz7 := store_one' z7 (ex_ones' hty8 z7 (by simp))); (have sz8 := store_one' z8 (ex_ones' hty8 z8 (by simp))); (have sz9 := store_one' z9 (ex_ones' hty8 z9 (by simp))); (have sz10 := store_one' z10 (ex_ones' hty8 z10 (by simp)))
                    go_wp2_with fail
                    refine hK.out _ _ trivial (fun hHeld => ?_)
                    clear hK K
                    try simp only [Act.put, List.setIfInBounds_toArray, List.set_cons_zero, List.set_cons_succ]
                    have hb8' : Below wr.heap.size wr w8 := (Below.refl _ _).drew.trans hb8
                    have hst8 := HS2.out.below hb8'
                    obtain ⟨ec, hec, hcc⟩ := hst8.at_ (i := q) (by simp [HQ.out])
                    obtain ⟨r0, r1, r2, r3, r4, r5, r6, r7, r8, r9, r10, rfl⟩ := eleven_of (ex_len' hec)
                    (have y0 := hcc 0 r0 rfl); (have y1 := hcc 1 r1 rfl); (have y2 := hcc 2 r2 rfl); (have y3 := hcc 3 r3 rfl); (have y4 := hcc 4 r4 rfl); (have y5 := hcc 5 r5 rfl); (have y6 := hcc 6 r6 rfl); (have y7 := hcc 7 r7 rfl); (have y8 := hcc 8 r8 rfl); (have y9 := hcc 9 r9 rfl); (have y10 := hcc 10 r10 rfl); (have w0 := hst8.frozen (q * 11 + 0)); (have w1 := hst8.frozen (q * 11 + 1)); (have w2 := hst8.frozen (q * 11 + 2)); (have w3 := hst8.frozen (q * 11 + 3)); (have w4 := hst8.frozen (q * 11 + 4)); (have w5 := hst8.frozen (q * 11 + 5)); (have w6 := hst8.frozen (q * 11 + 6)); (have w7 := hst8.frozen (q * 11 + 7)); (have w8 := hst8.frozen (q * 11 + 8)); (have w9 := hst8.frozen (q * 11 + 9)); (have w10 := hst8.frozen (q * 11 + 10))
                    simp only [Nat.add_zero] at y0 w0
                    refine takeH' (i := 17) (d := 87) (v := .pointer (some ⟨g', q * 11, none⟩)) rfl (by kernel_rfl) (by kernel_rfl) (by kernel_rfl) (fun _ _ _ h => h) (Or.inl ⟨by rfl, fun w' hS' => by (first | rfl | (go_simp; done) | (go_simp; intro hh; exfalso; first | omega | (have := hh (by omega); omega)))⟩) hHeld rfl ?_
                    try simp only [Act.put, List.setIfInBounds_toArray, List.set_cons_zero, List.set_cons_succ]
                    refine wpAnyH_ready (rs := [18]) (by kernel_rfl) (by simp) ?_
                    refine AllReadyH.cons rfl (fun K hK => ?_) AllReadyH.nil
                    go_simp
                    refine hK.out _ _ trivial (fun hHeld => ?_)
                    clear hK K
                    try simp only [Act.put, List.setIfInBounds_toArray, List.set_cons_zero, List.set_cons_succ]
                    refine wpAnyH_done (by kernel_rfl) ?_ _
                    have hput := hst8.put hty8 (q * 11) (by simp [HQ.out]) z0 z1 z2 z3 z4 z5 z6 z7 z8 z9 z10 rfl
                    rw [← List.reverse_cons] at hput
                    have hbp := below_set11o (o := q * 11) (HBW3.out.trans (hb8'.mono (by omega))) (by omega : B6 ≤ g') z0 z1 z2 z3 z4 z5 z6 z7 z8 z9 z10
                    have HPUT := Lib.hid hput
                    have HBP := Lib.hid hbp
                    clear hput hbp hst8 hty8 hb8 hb8' hec hcc
                    go_wp2_with fail
                    go_roundw
                    case rel => exact ⟨j + 1, u', g', c', infixE op2 a b :: rest, by go_num, by omega, rfl, by omega, by simp [HQ.out]; omega, by simp [HQ.out], by rw [← HMX.out]; exact HGO2.out, HPUT.out, HBP.out⟩
                    case measure => simp [intOf]; omega
        · obtain rfl : j = k := by omega
          have hfx : f2 = (st, u) := by
            have hol : (ordL (lvT ops) 0 j).length = j := ord_len _ j 0 j (by omega)
            rw [List.drop_eq_nil_of_le (by omega)] at hgo
            unfold appGo at hgo
            injection hgo with hgo
            exact hgo.symm
          have hl := HLAST.out
          rw [hfx] at hl
          have hne : 0 < st.reverse.length := by
            cases st with
            | nil => simp at hl
            | cons _ _ => simp
          have hel : st.reverse[0] = fin := by
            have h1 : st.reverse[0]? = some fin := by rw [← hl, List.getLast?_eq_head?_reverse, List.head?_eq_getElem?]
            rw [List.getElem?_eq_getElem hne] at h1
            injection h1
          obtain ⟨es, hex, hcx⟩ := HST2.out.at_ hne
          rw [hel] at hex
          obtain ⟨e0, e1, e2, e3, e4, e5, e6, e7, e8, e9, e10, rfl⟩ := eleven_of (ex_len' hex)
          (have s0 := store_one' e0 (ex_ones' hex e0 (by simp)))
          (have s1 := store_one' e1 (ex_ones' hex e1 (by simp)))
          (have s2 := store_one' e2 (ex_ones' hex e2 (by simp)))
          (have s3 := store_one' e3 (ex_ones' hex e3 (by simp)))
          (have s4 := store_one' e4 (ex_ones' hex e4 (by simp)))
          (have s5 := store_one' e5 (ex_ones' hex e5 (by simp)))
          (have s6 := store_one' e6 (ex_ones' hex e6 (by simp)))
          (have s7 := store_one' e7 (ex_ones' hex e7 (by simp)))
          (have s8 := store_one' e8 (ex_ones' hex e8 (by simp)))
          (have s9 := store_one' e9 (ex_ones' hex e9 (by simp)))
          (have s10 := store_one' e10 (ex_ones' hex e10 (by simp)))
          have u0 := hcx 0 e0 rfl
          have u1 := hcx 1 e1 rfl
          have u2 := hcx 2 e2 rfl
          have u3 := hcx 3 e3 rfl
          have u4 := hcx 4 e4 rfl
          have u5 := hcx 5 e5 rfl
          have u6 := hcx 6 e6 rfl
          have u7 := hcx 7 e7 rfl
          have u8 := hcx 8 e8 rfl
          have u9 := hcx 9 e9 rfl
          have u10 := hcx 10 e10 rfl
          simp only [Nat.zero_mul, Nat.zero_add] at u0 u1 u2 u3 u4 u5 u6 u7 u8 u9 u10
          have hbW1 : Below W1.heap.size W1 wr := HB16.out.trans (HBW2.out.mono (by omega))
          have hB9w : Blk wr W.heap.size 32 #[.int .i64 0, .string ⟨#[]⟩, .int .i64 0, .int .i64 0, .string ⟨#[]⟩, .int .i64 0, .slice none 0 0, .slice none 0 0, .slice none 0 0, .slice none 0 0, .int .i64 0] := HRS.out.below hbW1 (by omega)
          have r0 := hB9w.cell 0
          have r1 := hB9w.cell 1
          have r2 := hB9w.cell 2
          have r3 := hB9w.cell 3
          have r4 := hB9w.cell 4
          have r5 := hB9w.cell 5
          have r6 := hB9w.cell 6
          have r7 := hB9w.cell 7
          have r8 := hB9w.cell 8
          have r9 := hB9w.cell 9
          have r10 := hB9w.cell 10
          simp only [List.getElem?_toArray, List.getElem?_cons_succ, List.getElem?_cons_zero] at r0 r1 r2 r3 r4 r5 r6 r7 r8 r9 r10
          have f0 := hB9w.frozen 0
          have f1 := hB9w.frozen 1
          have f2 := hB9w.frozen 2
          have f3 := hB9w.frozen 3
          have f4 := hB9w.frozen 4
          have f5 := hB9w.frozen 5
          have f6 := hB9w.frozen 6
          have f7 := hB9w.frozen 7
          have f8 := hB9w.frozen 8
          have f9 := hB9w.frozen 9
          have f10 := hB9w.frozen 10
          have hbWr : Below W.heap.size W wr := HN.out.trans (hbW1.mono (by omega))
          have hsl : 0 < st.length := by simpa using hne
          clear hgo hl hel hfx hcx
          go_wp2_with fail
          obtain ⟨w9, hw9⟩ : ∃ w9, (((((((((((wr).setCell ⟨W.heap.size, 0, none⟩ (e0)).setCell ⟨W.heap.size, 1, none⟩ (e1)).setCell ⟨W.heap.size, 2, none⟩ (e2)).setCell ⟨W.heap.size, 3, none⟩ (e3)).setCell ⟨W.heap.size, 4, none⟩ (e4)).setCell ⟨W.heap.size, 5, none⟩ (e5)).setCell ⟨W.heap.size, 6, none⟩ (e6)).setCell ⟨W.heap.size, 7, none⟩ (e7)).setCell ⟨W.heap.size, 8, none⟩ (e8)).setCell ⟨W.heap.size, 9, none⟩ (e9)).setCell ⟨W.heap.size, 10, none⟩ (e10) = w9 := ⟨_, rfl⟩
          have hB9 := set11 hB9w e0 e1 e2 e3 e4 e5 e6 e7 e8 e9 e10
          have hb9 := Below.set11 hbWr (Nat.le_refl _) e0 e1 e2 e3 e4 e5 e6 e7 e8 e9 e10
          have hL9 : Low (exX (exX X W.heap.size) g) wr _ := Low.set11 (Chg.refl _ _) (.inl (exX_iff.2 (.inl (exX_self _ _)))) e0 e1 e2 e3 e4 e5 e6 e7 e8 e9 e10
          rw [hw9] at hB9 hb9 hL9 ⊢
          have d0 := hB9.cell 0
          have d1 := hB9.cell 1
          have d2 := hB9.cell 2
          have d3 := hB9.cell 3
          have d4 := hB9.cell 4
          have d5 := hB9.cell 5
          have d6 := hB9.cell 6
          have d7 := hB9.cell 7
          have d8 := hB9.cell 8
          have d9 := hB9.cell 9
          have d10 := hB9.cell 10
          simp only [List.getElem?_toArray, List.getElem?_cons_succ, List.getElem?_cons_zero] at d0 d1 d2 d3 d4 d5 d6 d7 d8 d9 d10
          exact bodyPost_ret (v := .agg #[e0, e1, e2, e3, e4, e5, e6, e7, e8, e9, e10]) (by simp [results, Tryd.results20, go_sem, d0, d1, d2, d3, d4, d5, d6, d7, d8, d9, d10]) rfl ⟨hb9, [e0, e1, e2, e3, e4, e5, e6, e7, e8, e9, e10], rfl, rfl, (hex.later hL9).of_exX.of_exX⟩

end Go.Proofs.YtiiddmioafhmoaaDoor
