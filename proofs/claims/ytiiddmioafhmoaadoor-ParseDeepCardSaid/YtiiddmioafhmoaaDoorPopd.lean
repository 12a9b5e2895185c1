/- Walks: operands with the operators between them; expressions whole. -/
import Derived.Test.YtiiddmioafhmoaaDoorPapp
namespace Go.Proofs.YtiiddmioafhmoaaDoor
open Go.RowKit
set_option linter.unusedVariables false
set_option linter.unusedSimpArgs false
set_option maxRecDepth 100000

theorem app_any (xs : List Ex) (ops ts : List Tk) (Ax At : Option Addr) (cx ct : Nat) (X : Nat → Bool) (W : World) (hX : OldX X W.heap.size) (hx : RowM rEx 11 X W Ax xs) (ht : TkRow W W.heap.size At ops) (hgo : GoodN ops) (hlen : xs.length = ops.length + 1) (h60 : ops.length ≤ 60010) (r : Res Ex) (hr : appliedP xs ops ts = r) (ho : r ≠ .out) :
    Calls Tryd.prog 20 #[.slice Ax xs.length cx, .slice At ops.length ct] W (AppPost X r W) := by
  unfold appliedP at hr
  cases hck : clashK (lvT ops) ops.length with
  | some k =>
    rw [hck] at hr
    subst hr
    exact app_bad xs ops ts Ax At cx ct X W hX hx ht hgo hlen h60 k hck
  | none =>
    rw [hck] at hr
    cases hf : appE xs ops with
    | none => rw [hf] at hr; exact absurd hr.symm ho
    | some e =>
      rw [hf] at hr
      subst hr
      exact app_ok xs ops ts Ax At cx ct X W hX hx ht hgo hlen h60 e hck hf
theorem own_ne' {w : World} {b1 b2 : Nat} {e1 e2 : TypeId} {s1 s2 n1 n2 : Nat} {v1 v2 : Value} {x1 x2 : List Value} (h1 : w.ownsRow b1 e1 s1 v1 n1 x1) (h2 : w.ownsRow b2 e2 s2 v2 n2 x2) (hne : e1 ≠ e2) : v1.ownBlock = none ∨ v1.ownBlock ≠ v2.ownBlock := by
  rcases h1.2 with ⟨rfl, _⟩ | ⟨g, cap, cur, rfl, hb, hh, _⟩
  · exact .inl (by simp [Value.ownBlock])
  · right
    rcases h2.2 with ⟨rfl, _⟩ | ⟨g', cap', cur', rfl, hb', hh', _⟩
    · simp [Value.ownBlock]
    · intro he
      have : g = g' := by simpa [Value.ownBlock] using he
      subst this
      exact Blk.ne_ (t := e1) (cs := cur) (cs' := cur') hh hh' hne rfl
theorem tkrow_own {w : World} {B n c : Nat} {A : Option Addr} {l : List Tk} (h : w.ownsRow B 52 4 (.slice A n c) n (tksCells l)) (hn : n = l.length) : TkRow w w.heap.size A l := by
  subst hn
  obtain ⟨A', c', e, h1, h2, h3⟩ := own_form h
  injection e with e1 e2 e3
  subst e1
  by_cases hl : 0 < l.length
  · obtain ⟨g, rfl, hg, _⟩ := h3 hl
    exact TkRow.of_reads (Reads.of_own h) rfl
  · have : l = [] := List.eq_nil_of_length_eq_zero (by omega)
    subst this
    exact TkRow.nil_ _ _ _
section
variable {X Y : Nat → Bool} {B : Nat} {W W' : World} {g c : Nat} {l : List Ex}
theorem StkAt.row (h : StkAt X B W g c l) (hX : ∀ k, lowX B k = true → X k = true) : RowM rEx 11 (lowX B) W (some ⟨g, 0, none⟩) l := by
  obtain ⟨L, h1, h2, h3, h4⟩ := h.ex
  have hb := own_lt h1
  refine ⟨L, ⟨h2, h3, ?_⟩, fun i k1 k2 => (h4 i k1 k2).weaken fun k _ hk => exX_iff.2 (.inl (hX k hk))⟩
  have hr := Reads.of_own h1
  refine ⟨hr.1, fun hn0 => ?_⟩
  obtain ⟨ad, e1, hb1, hc⟩ := hr.2 hn0
  refine ⟨ad, e1, hb1, fun j u hu => ?_⟩
  have e2 : ad = ⟨g, 0, none⟩ := by injection e1 with e1; exact e1.symm
  subst e2
  rw [mask_cell]
  · exact hc j u hu
  · rw [block_of_add]
    exact lowX_no (by show B ≤ g; omega)
theorem StkAt.par {pb : Nat} (h : StkAt X B W g c l) (hp : Par pb W W') (hB : pb < B) (hX : X pb = true) : StkAt X B W' g c l := by
  obtain ⟨L, h1, h2, h3, h4⟩ := h.ex
  exact ⟨L, own_par h1 hp hB, h2, h3, fun i k1 k2 => (h4 i k1 k2).later (hp.mono fun k _ hk => by subst hk; exact exX_iff.2 (.inl hX))⟩
/-- The other row has grown. -/
theorem StkAt.other {v : Value} {g2 m2 c2 : Nat} (h : StkAt (accX B v) B W g c l) (hg : W.grownBy W' v.ownBlock) (hne : v.ownBlock ≠ some g) (hlies : v.ownBlock = some g2 ∨ W.heap.size ≤ g2) : StkAt (accX B (.slice (some ⟨g2, 0, none⟩) m2 c2)) B W' g c l := by
  obtain ⟨L, h1, h2, h3, h4⟩ := h.ex
  have hb := own_lt h1
  refine ⟨L, h1.kept hg (.inr (fun e => hne e.symm)), h2, h3, fun i k1 k2 => ?_⟩
  refine rEx.more (B := W.heap.size) (rEx.imp (h4 i k1 k2) fun p u hb hc => ?_) hg.size
  cases hX : exX (accX B v) g p.block with
  | true => exact (mask_none hX hc).elim
  | false =>
    rw [mask_cell hX] at hc
    unfold exX accX at hX
    simp only [Bool.or_eq_false_iff, beq_eq_false_iff_ne, ne_eq] at hX
    rw [mask_cell]
    · rw [World.cell?_of_block (w := W) (hg.block _ hb hX.1.2)]; exact hc
    · unfold exX accX
      simp only [Bool.or_eq_false_iff, beq_eq_false_iff_ne, ne_eq, Value.ownBlock, Option.some.injEq]
      refine ⟨⟨hX.1.1, fun e => ?_⟩, hX.2⟩
      rcases hlies with h5 | h5
      · exact hX.1.2 (by rw [h5, e])
      · have : p.block < W.heap.size := hb
        omega
end
theorem tk_info9 : (Tryd.prog.info? 52).map (fun i => (i.zero, i.size, i.bytes)) = some (some (.agg #[.int .i64 0, .string ⟨#[]⟩, .int .i64 0, .int .i64 0]), 4, 40) := by kernel_rfl

set_option maxHeartbeats 12800000 in
theorem operands_ok (O : Nat → List Tk → Res Ex) (HO : LvOk rEx 11 19 O) : LvOk rEx 11 12 (operandsP O) := by
  intro pb lv ts W h hf hlv r hr ho
  obtain ⟨i0, hi, hz0, hz1, hz2⟩ := info_parts ex_info9
  have JI := Lib.hid hi
  have JZ0 := Lib.hid hz0
  have JZ1 := Lib.hid hz1
  have JZ2 := Lib.hid hz2
  clear hi hz0 hz1 hz2
  obtain ⟨i1, hi, hz0, hz1, hz2⟩ := info_parts tk_info9
  have HI := Lib.hid hi
  have HZ0 := Lib.hid hz0
  have HZ1 := Lib.hid hz1
  have HZ2 := Lib.hid hz2
  clear hi hz0 hz1 hz2
  obtain ⟨W1, hW1⟩ : ∃ W1, W.alloc (.cells #[.int .i64 0, .string ⟨#[]⟩, .int .i64 0, .int .i64 0, .string ⟨#[]⟩, .int .i64 0, .slice none 0 0, .slice none 0 0, .slice none 0 0, .slice none 0 0, .int .i64 0] 32) = W1 := ⟨_, rfl⟩
  have hnew : Below W.heap.size W W1 := by rw [← hW1]; exact (Below.refl _ _).alloc (Nat.le_refl _) _
  have hres : Blk W1 W.heap.size 32 #[.int .i64 0, .string ⟨#[]⟩, .int .i64 0, .int .i64 0, .string ⟨#[]⟩, .int .i64 0, .slice none 0 0, .slice none 0 0, .slice none 0 0, .slice none 0 0, .int .i64 0] := by rw [← hW1]; exact Blk.new _ _ _
  have hs1 := h.later hnew
  have hlt := h.lt
  have hsz : W1.heap.size = W.heap.size + 1 := by rw [← hW1]; simp
  have HW1 := Lib.hid hW1
  have HN := Lib.hid hnew
  have HRS := Lib.hid hres
  have HS1 := Lib.hid hs1
  have HSZ := Lib.hid hsz
  have hp1 : Par pb W1 W1 := Chg.refl _ _
  clear hW1 hnew hres hs1 hsz h
  have HF := Lib.hid hf
  have HOT := Lib.hid ho
  have HR := Lib.hid hr
  have HOO := Lib.hid HO
  have hf0 := field_tk0
  clear hf hr ho HO
  cases hA : O lv ts with
  | out => exact absurd (by rw [← HR.out]; unfold operandsP; rw [hA]; rfl) HOT.out
  | bad c p =>
    obtain rfl : r = .bad c p := by rw [← HR.out]; unfold operandsP; rw [hA]; rfl
    have C1 := Lib.hid (HOO.out pb lv ts W1 HS1.out HF.out hlv _ hA (by simp))
    go_enter Tryd.func12, Tryd.ntmps12
    go_upto_region 1 with fail
    rw [HW1.out]
    go_wp2_with (go_at_call 19; (with_reducible refine (C1.out).mono ?_); rintro e w2 ⟨hp2, rfl⟩)
    exact ⟨rfl, (Par.of_below HN.out).trans hp2, rfl⟩
  | ok a0 ts0 =>
    have C1 := Lib.hid (HOO.out pb lv ts W1 HS1.out HF.out hlv _ hA (by simp))
    have HR1 := Lib.hid (show r = operandsF (O lv) (ts0.length + 1) [a0] [] ts0 by rw [← HR.out]; unfold operandsP; rw [hA]; rfl)
    clear hA
    go_enter Tryd.func12, Tryd.ntmps12
    go_upto_region 1 with fail
    rw [HW1.out]
    go_wp2_with (go_at_call 19; (with_reducible refine (C1.out).mono ?_); rintro e w2 ⟨hp2, ⟨cs, hlen, rfl, hty⟩, hsw2, hf2⟩; (obtain ⟨x0, x1, x2, x3, x4, x5, x6, x7, x8, x9, x10, rfl⟩ := eleven_of hlen); (have s0 := store_one' x0 (ex_ones' hty x0 (by simp))); (have s1 := store_one' x1 (ex_ones' hty x1 (by simp))); (have s2 := store_one' x2 (ex_ones' hty x2 (by simp))); (have s3 := store_one' x3 (ex_ones' hty x3 (by simp))); (have s4 := store_one' x4 (ex_ones' hty x4 (by simp))); (have s5 := store_one' x5 (ex_ones' hty x5 (by simp))); (have s6 := store_one' x6 (ex_ones' hty x6 (by simp))); (have s7 := store_one' x7 (ex_ones' hty x7 (by simp))); (have s8 := store_one' x8 (ex_ones' hty x8 (by simp))); (have s9 := store_one' x9 (ex_ones' hty x9 (by simp))); (have s10 := store_one' x10 (ex_ones' hty x10 (by simp))))
    obtain ⟨w3, hw3⟩ : ∃ w3, w2.alloc (.cells #[x0, x1, x2, x3, x4, x5, x6, x7, x8, x9, x10] 32) = w3 := ⟨_, rfl⟩
    have hn3 : Below w2.heap.size w2 w3 := by rw [← hw3]; exact below_new' _ _
    have hsz := HSZ.out
    have hz2 := hp2.size
    have hl2 := hsw2.lt
    have hst3 : StkAt (accX (W.heap.size + 1) (.slice none 0 0)) (W.heap.size + 1) w3 w2.heap.size 1 [a0] := by
      rw [← hw3]
      exact StkAt.one w2 (hty.weaken fun k _ hk => by
        unfold accX at hk
        simp only [Value.ownBlock, Bool.or_eq_true] at hk
        rcases hk with hk | hk
        · rw [lowX_iff] at hk ⊢; omega
        · simp at hk) (by omega)
    rw [hw3]
    clear hw3
    have HST0 := Lib.hid hst3
    have HP1 := Lib.hid (hp2.trans (Par.of_below (pb := pb) hn3))
    have HS2 := Lib.hid (hsw2.later hn3)
    have HF2 := Lib.hid hf2
    obtain ⟨g0, hg0⟩ : ∃ g0, w2.heap.size = g0 := ⟨_, rfl⟩
    rw [hg0] at HST0 ⊢
    obtain ⟨KK, hKK⟩ : ∃ KK, ts0.length + 1 = KK := ⟨_, rfl⟩
    have hKb : KK ≤ 60002 := by have := hf2.len; omega
    rw [hKK] at HR1
    clear hp2 hty hsw2 hf2 hst3 hn3
    go_loopw [3, 4] (fun v vo wrQ => ∃ (qs : List Ex) (ops ts' : List Tk) (g c c2 mm : Nat) (A2 : Option Addr), v = .slice (some ⟨g, 0, none⟩) qs.length c ∧ vo = .slice A2 ops.length c2 ∧ r = operandsF (O lv) mm qs ops ts' ∧ qs.length = ops.length + 1 ∧ mm + ops.length = KK ∧ StkAt (accX (W.heap.size + 1) vo) (W.heap.size + 1) wrQ g c qs ∧ wrQ.ownsRow (W.heap.size + 1) 52 4 vo ops.length (tksCells ops) ∧ GoodN ops ∧ Par pb W1 wrQ ∧ PsAt wrQ pb ts' lv ∧ Fine ts') (fun _ vo _ => KK - sliceLen vo)
    case atStart => exact ⟨[a0], [], ts0, g0, 1, 0, KK, none, rfl, rfl, HR1.out, rfl, by simp, HST0.out, World.ownsRow_nil _ _ _ _, fun t ht => by simp at ht, HP1.out, HS2.out, HF2.out⟩
    case round =>
      obtain ⟨qs, ops, ts', g, c, c2, mm, A2, rfl, rfl, hrr, hql, hmm, hst, hown, hgo, hpar, hps, hfi⟩ := hrel
      obtain ⟨u, tu, rfl⟩ := hfi.ne
      have hgu := hfi.good u (by simp)
      have hwz : W1.heap.size ≤ wr.heap.size := hpar.size
      have hltp := hps.lt
      obtain ⟨n, hn⟩ : ∃ n, ops.length = n := ⟨_, rfl⟩
      obtain ⟨nq, hnq⟩ : ∃ nq, qs.length = nq := ⟨_, rfl⟩
      rw [hn] at hown hst hql hmm ⊢
      rw [hnq] at hql ⊢
      have HGU := Lib.hid (show u.text.length ≤ 60000 ∧ u.pos ≤ 60000 from ⟨hgu.1, hgu.2.2⟩)
      have HPAR := Lib.hid hpar
      have HPS := Lib.hid hps
      have HFI := Lib.hid hfi
      have HR2 := Lib.hid hrr
      have HOWN := Lib.hid hown
      have HST := Lib.hid hst
      have HGO := Lib.hid hgo
      have HNN := Lib.hid hn
      have HNQ := Lib.hid hnq
      have HQL := Lib.hid hql
      have hnqb : nq ≤ 60003 := by omega
      have hgb := hst.bnd
      rw [hnq] at hgb
      clear hrr hpar hps hfi hst hown hgo hn hnq hgu hql
      have CA := Lib.hid (ahead_any pb lv u tu wr HPS.out)
      cases mm with
      | zero => exact absurd (by rw [HR2.out]; rfl) HOT.out
      | succ mm =>
        by_cases hu : u.kind = 5
        · have d1 : (u.kind == 5) = true := by simp [hu]
          have HRU := Lib.hid (show restT (u :: tu) = tu by simp [restT, hu])
          have HFU := Lib.hid (HFI.out.tail_ (by omega : u.kind ≠ 0))
          have CT := Lib.hid (fun W2 (hs : PsAt W2 pb (u :: tu) lv) => take_any pb lv u tu W2 hs)
          rw [HRU.out] at CT
          have hre : r = (O lv tu).andThen fun x ts1 => operandsF (O lv) mm (qs ++ [x]) (ops ++ [u]) ts1 := by
            rw [HR2.out, operandsF]
            simp [kindH_cons, hu, headT_cons, restT]
          have HRE := Lib.hid hre
          clear hre hu
          go_upto_region 5 with (first | (go_at_call 16; (with_reducible refine CA.out.mono ?_); rintro e wa ⟨rfl, hba⟩; rw [tk_cells]; (have hsa := HPS.out.later hba)) | (go_at_call 18; (with_reducible refine (CT.out _ hsa).mono ?_); rintro e wb ⟨rfl, hpb', hsb⟩; rw [tk_cells]; dsimp only; (have hownb := own_belowS (own_par ((own_belowS HOWN.out hba)) hpb' (by omega)) (below_new' wb (.cells #[.int .i64 u.kind, .string ⟨u.text.toArray⟩, .int .i64 u.num, .int .i64 u.pos] 52))); (have hzb := hpb'.size); (have hza := hba.size)) | (at_builtin; refine wpList_append_lies _ rfl _ _ 43 rfl (W.heap.size + 1) 52 i1 (.agg #[.int .i64 0, .string ⟨#[]⟩, .int .i64 0, .int .i64 0]) 4 40 Tryd.underlying43 HI.out HZ0.out HZ1.out HZ2.out rfl (by decide) (.slice A2 n c2) n (tksCells ops) rfl hownb ⟨wb.heap.size, 0, none⟩ 1 1 [.int .i64 u.kind, .string ⟨u.text.toArray⟩, .int .i64 u.num, .int .i64 u.pos] rfl rfl (new_cells _ _) (by intro v hv; simp at hv; rcases hv with rfl | rfl | rfl | rfl <;> rfl) (by omega) (by unfold maxLen; omega) (by omega) (by simp; omega) (wb.heap.size + 1) (by simp) ?_; intro g5 c5 w5 hown5 hgrow5 hlies5 hlt5))
          have hbn := below_new' wb (.cells #[.int .i64 u.kind, .string ⟨u.text.toArray⟩, .int .i64 u.num, .int .i64 u.pos] 52)
          have hst4 := ((HST.out.below hba).par hpb' (by omega) (accX_low (lowX_iff.2 (by omega)))).below hbn
          obtain ⟨LQ, oq, _⟩ := hst4.ex
          have hneo : (Value.slice A2 n c2).ownBlock ≠ some g := by
            rcases own_ne' hownb oq (by decide) with h5 | h5
            · rw [h5]; simp
            · exact h5
          have HST5 := Lib.hid (hst4.other (g2 := g5) (m2 := n + 1) (c2 := c5) hgrow5 hneo (by
            rcases hlies5 with h5 | h5
            · exact .inl h5
            · right; rw [h5]; simp))
          have HO5 := Lib.hid hown5
          have HP5 := Lib.hid (Par.grown (((HPAR.out.trans (Par.of_below hba)).trans hpb').trans (Par.of_below hbn)) hgrow5 (fun k hk => by have := own_base hownb k hk; omega))
          have HS5 := Lib.hid ((hsb.later hbn).grown hgrow5 (fun k hk => by have := own_base hownb k hk; omega))
          have hz5 := hgrow5.size
          rw [World.size_alloc] at hz5
          have hg5 := own_lt hown5
          clear hst4 oq hneo hown5 hgrow5 hlies5 hlt5 hbn hownb hsb hpb' hba hsa
          cases hB : O lv tu with
          | out => exact absurd (by rw [HRE.out, hB]; rfl) HOT.out
          | bad c' p =>
            obtain rfl : r = .bad c' p := by rw [HRE.out, hB]; rfl
            have CR := Lib.hid (HOO.out pb lv tu w5 HS5.out HFU.out hlv _ hB (by simp))
            go_wp2_with (go_at_call 19; (with_reducible refine CR.out.mono ?_); rintro e w6 ⟨hp6, rfl⟩)
            exact ⟨rfl, (Par.of_below HN.out).trans (HP5.out.trans hp6), rfl⟩
          | ok x ts1 =>
            have CR := Lib.hid (HOO.out pb lv tu w5 HS5.out HFU.out hlv _ hB (by simp))
            have HR5 := Lib.hid (show r = operandsF (O lv) mm (qs ++ [x]) (ops ++ [u]) ts1 by rw [HRE.out, hB]; rfl)
            clear hB
            go_wp2_with (first | (go_at_call 19; (with_reducible refine CR.out.mono ?_); rintro e w6 ⟨hp6, ⟨cs, hlen, rfl, hty⟩, hsw6, hf6⟩; (obtain ⟨y0, y1, y2, y3, y4, y5, y6, y7, y8, y9, y10, rfl⟩ := eleven_of hlen); (have sy0 := store_one' y0 (ex_ones' hty y0 (by simp))); (have sy1 := store_one' y1 (ex_ones' hty y1 (by simp))); (have sy2 := store_one' y2 (ex_ones' hty y2 (by simp))); (have sy3 := store_one' y3 (ex_ones' hty y3 (by simp))); (have sy4 := store_one' y4 (ex_ones' hty y4 (by simp))); (have sy5 := store_one' y5 (ex_ones' hty y5 (by simp))); (have sy6 := store_one' y6 (ex_ones' hty y6 (by simp))); (have sy7 := store_one' y7 (ex_ones' hty y7 (by simp))); (have sy8 := store_one' y8 (ex_ones' hty y8 (by simp))); (have sy9 := store_one' y9 (ex_ones' hty y9 (by simp))); (have sy10 := store_one' y10 (ex_ones' hty y10 (by simp))); (have hst6 := ((HST5.out.par hp6 (by omega) (accX_low (lowX_iff.2 (by omega)))).below (below_new' w6 (.cells #[y0, y1, y2, y3, y4, y5, y6, y7, y8, y9, y10] 32)))); (obtain ⟨L, o1, o2, o3, o4⟩ := hst6.ex); (have hz6 := hp6.size); rw [HNQ.out] at o1) | (at_builtin; refine wpList_append_lies _ rfl _ _ 28 rfl (W.heap.size + 1) 32 i0 (.agg #[.int .i64 0, .string ⟨#[]⟩, .int .i64 0, .int .i64 0, .string ⟨#[]⟩, .int .i64 0, .slice none 0 0, .slice none 0 0, .slice none 0 0, .slice none 0 0, .int .i64 0]) 11 168 Tryd.underlying28 JI.out JZ0.out JZ1.out JZ2.out rfl (by decide) (.slice (some ⟨g, 0, none⟩) nq c) nq L.flatten rfl o1 ⟨w6.heap.size, 0, none⟩ 1 1 [y0, y1, y2, y3, y4, y5, y6, y7, y8, y9, y10] rfl rfl (new_cells _ _) (ex_ones' hty) (by omega) (by unfold maxLen; omega) (by omega) (by simp; omega) (w6.heap.size + 1) (by simp) ?_))
            intro g7 c7 w7 hown7 hgrow7 hlies7 hlt7
            have hbn := below_new' w6 (.cells #[y0, y1, y2, y3, y4, y5, y6, y7, y8, y9, y10] 32)
            have hq := HNQ.out
            subst hq
            have hel : rEx.M (exX (accX (W.heap.size + 1) (.slice (some ⟨g5, 0, none⟩) (n + 1) c5)) g) (w6.alloc (.cells #[y0, y1, y2, y3, y4, y5, y6, y7, y8, y9, y10] 32)) [y0, y1, y2, y3, y4, y5, y6, y7, y8, y9, y10] x := (hty.weaken (Y := exX (accX (W.heap.size + 1) (.slice (some ⟨g5, 0, none⟩) (n + 1) c5)) g) (fun k _ hk => by
              unfold exX accX at hk
              simp only [Bool.or_eq_true, beq_iff_eq, Value.ownBlock, Option.some.injEq] at hk
              rw [lowX_iff]
              rcases hk with (hk | hk) | hk
              · rw [lowX_iff] at hk; omega
              · omega
              · omega)).later (Low.of_below hbn)
            have hadd := StkAt.add (l := qs) (W' := w7) (g' := g7) (c' := c7) o2 o3 o4 hel hown7 hgrow7 (by
              rcases hlies7 with h5 | h5
              · exact .inl (Option.some.inj h5)
              · right; rw [h5]; simp)
            have hownT := own_belowS (own_par HO5.out hp6 (by omega)) hbn
            have hneT := own_ne' hownT o1 (by decide)
            have HO7 := Lib.hid (hownT.kept hgrow7 hneT)
            have HAD := Lib.hid hadd
            have HP7 := Lib.hid (Par.grown ((HP5.out.trans hp6).trans (Par.of_below hbn)) hgrow7 (fun k hk => by have : g = k := Option.some.inj hk; omega))
            have HS7 := Lib.hid ((hsw6.later hbn).grown hgrow7 (fun k hk => by have : g = k := Option.some.inj hk; omega))
            clear hadd hownT hneT hel hown7 hgrow7 hlies7 hbn hp6 hsw6 hty o1 o2 o3 o4 hst6
            go_wp2_with fail
            go_roundw
            case rel => exact ⟨qs ++ [x], ops ++ [u], ts1, g7, c7, c5, mm, some ⟨g5, 0, none⟩, by simp, by simp [HNN.out], HR5.out, by simp [HNN.out, HQL.out], by simp [HNN.out]; omega, HAD.out, by rw [show (ops ++ [u]).length = n + 1 by simp [HNN.out], ← tks_snoc]; exact HO7.out, fun t ht => by
              rcases List.mem_append.1 ht with ht | ht
              · exact HGO.out t ht
              · simp only [List.mem_cons, List.not_mem_nil, or_false] at ht; subst ht; exact HGU.out, HP7.out, HS7.out, hf6⟩
            case measure => simp [sliceLen]; omega
        · have d1 : (u.kind == 5) = false := by simp [hu]
          have hre : appliedP qs ops (u :: tu) = r := by
            rw [HR2.out, operandsF]
            simp [kindH_cons, hu]
          have CP := Lib.hid (fun (W2 : World) (hb : Below wr.heap.size wr W2) => app_any qs ops (u :: tu) (some ⟨g, 0, none⟩) A2 c c2 (lowX (W.heap.size + 1)) W2 (OldX.low (by have := hb.size; omega)) ((HST.out.below hb).row (fun k hk => accX_low hk)) (tkrow_own (own_belowS HOWN.out hb) HNN.out.symm) HGO.out (by rw [HNQ.out, HQL.out, HNN.out]) (by rw [HNN.out]; omega) r hre HOT.out)
          rw [HNQ.out, HNN.out] at CP
          have HUU := Lib.hid hre
          clear hre hu
          cases r with
          | out => exact absurd rfl HOT.out
          | bad c' p =>
            go_wp2_with (first | (go_at_call 16; (with_reducible refine CA.out.mono ?_); rintro e wa ⟨rfl, hba⟩; rw [tk_cells]; (have hsa := HPS.out.later hba)) | (go_at_call 20; (with_reducible refine (CP.out _ hba).mono ?_); rintro e w6 ⟨hb6, rfl⟩))
            exact ⟨rfl, (Par.of_below HN.out).trans ((HPAR.out.trans (Par.of_below hba)).trans (Par.of_below hb6)), rfl⟩
          | ok x ts9 =>
            obtain rfl : ts9 = u :: tu := by
              have := HUU.out
              unfold appliedP at this
              split at this
              · cases this
              · split at this
                · injection this with h1 h2; exact h2.symm
                · cases this
            go_wp2_with (first | (go_at_call 16; (with_reducible refine CA.out.mono ?_); rintro e wa ⟨rfl, hba⟩; rw [tk_cells]; (have hsa := HPS.out.later hba)) | (go_at_call 20; (with_reducible refine (CP.out _ hba).mono ?_); rintro e w6 ⟨hb6, cs, hlen, rfl, hty⟩; (obtain ⟨x0, x1, x2, x3, x4, x5, x6, x7, x8, x9, x10, rfl⟩ := eleven_of hlen); (have s0 := store_one' x0 (ex_ones' hty x0 (by simp))); (have s1 := store_one' x1 (ex_ones' hty x1 (by simp))); (have s2 := store_one' x2 (ex_ones' hty x2 (by simp))); (have s3 := store_one' x3 (ex_ones' hty x3 (by simp))); (have s4 := store_one' x4 (ex_ones' hty x4 (by simp))); (have s5 := store_one' x5 (ex_ones' hty x5 (by simp))); (have s6 := store_one' x6 (ex_ones' hty x6 (by simp))); (have s7 := store_one' x7 (ex_ones' hty x7 (by simp))); (have s8 := store_one' x8 (ex_ones' hty x8 (by simp))); (have s9 := store_one' x9 (ex_ones' hty x9 (by simp))); (have s10 := store_one' x10 (ex_ones' hty x10 (by simp))); (have hpw6 : Par pb W1 w6 := (HPAR.out.trans (Par.of_below hba)).trans (Par.of_below hb6)); (have hBw6 : Blk w6 W.heap.size 32 #[.int .i64 0, .string ⟨#[]⟩, .int .i64 0, .int .i64 0, .string ⟨#[]⟩, .int .i64 0, .slice none 0 0, .slice none 0 0, .slice none 0 0, .slice none 0 0, .int .i64 0] := (hpw6.block _ HRS.out.lt (by omega : ¬ W.heap.size = pb)).trans HRS.out); (have r0w6 := hBw6.cell 0); (have r1w6 := hBw6.cell 1); (have r2w6 := hBw6.cell 2); (have r3w6 := hBw6.cell 3); (have r4w6 := hBw6.cell 4); (have r5w6 := hBw6.cell 5); (have r6w6 := hBw6.cell 6); (have r7w6 := hBw6.cell 7); (have r8w6 := hBw6.cell 8); (have r9w6 := hBw6.cell 9); (have r10w6 := hBw6.cell 10); (simp only [List.getElem?_toArray, List.getElem?_cons_succ, List.getElem?_cons_zero] at r0w6 r1w6 r2w6 r3w6 r4w6 r5w6 r6w6 r7w6 r8w6 r9w6 r10w6); (have f0w6 := hBw6.frozen 0); (have f1w6 := hBw6.frozen 1); (have f2w6 := hBw6.frozen 2); (have f3w6 := hBw6.frozen 3); (have f4w6 := hBw6.frozen 4); (have f5w6 := hBw6.frozen 5); (have f6w6 := hBw6.frozen 6); (have f7w6 := hBw6.frozen 7); (have f8w6 := hBw6.frozen 8); (have f9w6 := hBw6.frozen 9); (have f10w6 := hBw6.frozen 10)))
            have hsw6 := (HPS.out.later hba).later hb6
            obtain ⟨w9, hw9⟩ : ∃ w9, (((((((((((w6).setCell ⟨W.heap.size, 0, none⟩ (x0)).setCell ⟨W.heap.size, 1, none⟩ (x1)).setCell ⟨W.heap.size, 2, none⟩ (x2)).setCell ⟨W.heap.size, 3, none⟩ (x3)).setCell ⟨W.heap.size, 4, none⟩ (x4)).setCell ⟨W.heap.size, 5, none⟩ (x5)).setCell ⟨W.heap.size, 6, none⟩ (x6)).setCell ⟨W.heap.size, 7, none⟩ (x7)).setCell ⟨W.heap.size, 8, none⟩ (x8)).setCell ⟨W.heap.size, 9, none⟩ (x9)).setCell ⟨W.heap.size, 10, none⟩ (x10) = w9 := ⟨_, rfl⟩
            have hPW := (Par.of_below (pb := pb) HN.out).trans hpw6
            have hB9 := set11 hBw6 (x0) (x1) (x2) (x3) (x4) (x5) (x6) (x7) (x8) (x9) (x10)
            have hb9 := Par.set11 hPW (Nat.le_refl _) (x0) (x1) (x2) (x3) (x4) (x5) (x6) (x7) (x8) (x9) (x10)
            have hS9 := PsAt.set11 hsw6 (g := W.heap.size) hlt (x0) (x1) (x2) (x3) (x4) (x5) (x6) (x7) (x8) (x9) (x10)
            have hL9 : Low (lowX (W.heap.size + 1)) w6 _ := Low.set11 (Chg.refl _ _) (.inl (lowX_self _)) (x0) (x1) (x2) (x3) (x4) (x5) (x6) (x7) (x8) (x9) (x10)
            rw [hw9] at hB9 hb9 hS9 hL9 ⊢
            have d0 := hB9.cell 0
            have d1 := hB9.cell 1
            have d2 := hB9.cell 2
            have d3 := hB9.cell 3
            have d4 := hB9.cell 4
            have d5 := hB9.cell 5
            have d6 := hB9.cell 6
            have d7 := hB9.cell 7
            have d8 := hB9.cell 8
            have d9 := hB9.cell 9
            have d10 := hB9.cell 10
            simp only [List.getElem?_toArray, List.getElem?_cons_succ, List.getElem?_cons_zero] at d0 d1 d2 d3 d4 d5 d6 d7 d8 d9 d10
            exact bodyPost_ret (v := .agg #[x0, x1, x2, x3, x4, x5, x6, x7, x8, x9, x10]) (by simp [results, Tryd.results12, go_sem, d0, d1, d2, d3, d4, d5, d6, d7, d8, d9, d10]) rfl ⟨hb9, ⟨[x0, x1, x2, x3, x4, x5, x6, x7, x8, x9, x10], rfl, rfl, (hty.later hL9).wk (by omega)⟩, hS9, HFI.out⟩

/-- Expressions, whole: at any fuel. -/
theorem exp_all (n : Nat) : LvOk rEx 11 7 (expF n) := by
  induction n with
  | zero => intro pb lv ts W h hf hlv r hr ho; exact absurd hr.symm ho
  | succ n ih =>
    exact enter_ex (operandsP (operF n (expF n))) (operands_ok (operF n (expF n)) (fun pb lv ts W h hf hlv r hr ho =>
      oper_any (lamP (expF n)) (expF n) (typF n) (patF n) ih (typ_all n) (pat_all n) (fun q hq pb lv ts W h hf hlv r hr ho => lam_any (expF n) ih q hq pb lv ts W h hf hlv r hr ho) pb lv ts W h hf hlv r hr ho))

end Go.Proofs.YtiiddmioafhmoaaDoor
