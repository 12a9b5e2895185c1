/- Walks: if. -/
import Derived.Test.YtiiddmioafhmoaaDoorPatom
namespace Go.Proofs.YtiiddmioafhmoaaDoor
open Go.RowKit
set_option linter.unusedVariables false
set_option linter.unusedSimpArgs false
set_option maxRecDepth 100000

abbrev sThen : ByteArray := ⟨#[116, 104, 101, 110]⟩
abbrev sElse : ByteArray := ⟨#[101, 108, 115, 101]⟩
def choF (E : Nat → List Tk → Res Ex) (lv : Nat) (q : Int) : Nat → List Ex → List Tk → Res Ex
  | 0, acc, ts => .ok (exK 9 ⟨#[]⟩ 0 acc q) ts
  | k + 1, acc, ts => (needP (if k = 1 then sThen else sElse) ts).andThen fun _ ts1 => (E lv ts1).andThen fun e ts2 => choF E lv q k (acc ++ [e]) ts2
def choP (E : Nat → List Tk → Res Ex) (lv : Nat) (q : Int) (ts : List Tk) : Res Ex := (E lv ts).andThen fun e ts1 => choF E lv q 2 [e] ts1
def numOf' : Value → Nat
  | .int _ n => n.toNat
  | _ => 0
theorem ex_info' : (Tryd.prog.info? 32).map (fun i => (i.zero, i.size, i.bytes)) = some (some (.agg #[.int .i64 0, .string ⟨#[]⟩, .int .i64 0, .int .i64 0, .string ⟨#[]⟩, .int .i64 0, .slice none 0 0, .slice none 0 0, .slice none 0 0, .slice none 0 0, .int .i64 0]), 11, 168) := by kernel_rfl
set_option maxHeartbeats 6400000 in
theorem choice_any (E : Nat → List Tk → Res Ex) (HE : LvOk rEx 11 7 E) (q : Int) (hq : ok64 q) (pb lv : Nat) (ts : List Tk) (W : World) (h : PsAt W pb ts lv) (hf : Fine ts) (hlv : lv ≤ 300) (r : Res Ex) (hr : choP E lv q ts = r) (ho : r ≠ .out) :
    Calls Tryd.prog 31 #[.pointer (some ⟨pb, 0, none⟩), .int .i64 q] W (PaPost pb lv 11 rEx r W) := by
  obtain ⟨i0, hi, hz0, hz1, hz2⟩ := info_parts ex_info'
  have HI := Lib.hid hi
  have HZ0 := Lib.hid hz0
  have HZ1 := Lib.hid hz1
  have HZ2 := Lib.hid hz2
  clear hi hz0 hz1 hz2
  have hix0 : ∀ w : World, (Instr.index 99 (.agg #[.string ⟨#[116, 104, 101, 110]⟩, .string ⟨#[101, 108, 115, 101]⟩]) (.int .i64 0)).run Tryd.prog w = .ok (.string ⟨#[116, 104, 101, 110]⟩) w := fun _ => rfl
  have hix1 : ∀ w : World, (Instr.index 99 (.agg #[.string ⟨#[116, 104, 101, 110]⟩, .string ⟨#[101, 108, 115, 101]⟩]) (.int .i64 1)).run Tryd.prog w = .ok (.string ⟨#[101, 108, 115, 101]⟩) w := fun _ => rfl
  obtain ⟨W1, hW1⟩ : ∃ W1, W.alloc (.cells #[.int .i64 0, .string ⟨#[]⟩, .int .i64 0, .int .i64 0, .string ⟨#[]⟩, .int .i64 0, .slice none 0 0, .slice none 0 0, .slice none 0 0, .slice none 0 0, .int .i64 0] 32) = W1 := ⟨_, rfl⟩
  have hnew : Below W.heap.size W W1 := by rw [← hW1]; exact (Below.refl _ _).alloc (Nat.le_refl _) _
  have hres : Blk W1 W.heap.size 32 #[.int .i64 0, .string ⟨#[]⟩, .int .i64 0, .int .i64 0, .string ⟨#[]⟩, .int .i64 0, .slice none 0 0, .slice none 0 0, .slice none 0 0, .slice none 0 0, .int .i64 0] := by rw [← hW1]; exact Blk.new _ _ _
  have hs1 := h.later hnew
  have hlt := h.lt
  have hsz : W1.heap.size = W.heap.size + 1 := by rw [← hW1]; simp
  have HW1 := Lib.hid hW1
  have HN := Lib.hid hnew
  have HRS := Lib.hid hres
  have HS1 := Lib.hid hs1
  have HSZ := Lib.hid hsz
  have hp1 : Par pb W1 W1 := Chg.refl _ _
  clear hW1 hnew hres hs1 hsz h
  have HF := Lib.hid hf
  have HO := Lib.hid ho
  have HR := Lib.hid hr
  have HEE := Lib.hid HE
  clear hf hr ho HE
  cases hA : E lv ts with
  | out => exact absurd (by rw [← HR.out]; unfold choP; rw [hA]; rfl) HO.out
  | bad c p =>
    obtain rfl : r = .bad c p := by rw [← HR.out]; unfold choP; rw [hA]; rfl
    have C1 := Lib.hid (HEE.out pb lv ts W1 HS1.out HF.out hlv _ hA (by simp))
    go_enter Tryd.func31, Tryd.ntmps31
    go_upto_region 1 with fail
    rw [HW1.out]
    go_wp2_with (go_at_call 7; (with_reducible refine (C1.out).mono ?_); rintro e w2 ⟨hp2, rfl⟩)
    exact ⟨rfl, (Par.of_below HN.out).trans hp2, rfl⟩
  | ok a0 ts0 =>
  have C1 := Lib.hid (HEE.out pb lv ts W1 HS1.out HF.out hlv _ hA (by simp))
  have HR1 := Lib.hid (show r = choF E lv q 2 [a0] ts0 by rw [← HR.out]; unfold choP; rw [hA]; rfl)
  clear hA
  go_enter Tryd.func31, Tryd.ntmps31
  go_upto_region 1 with fail
  rw [HW1.out]
  go_wp2_with (go_at_call 7; (with_reducible refine (C1.out).mono ?_); rintro e w2 ⟨hp2, ⟨cs, hlen, rfl, hty⟩, hsw2, hf2⟩; (obtain ⟨x0, x1, x2, x3, x4, x5, x6, x7, x8, x9, x10, rfl⟩ := eleven_of hlen); (have s0 := store_one' x0 (ex_ones' hty x0 (by simp))); (have s1 := store_one' x1 (ex_ones' hty x1 (by simp))); (have s2 := store_one' x2 (ex_ones' hty x2 (by simp))); (have s3 := store_one' x3 (ex_ones' hty x3 (by simp))); (have s4 := store_one' x4 (ex_ones' hty x4 (by simp))); (have s5 := store_one' x5 (ex_ones' hty x5 (by simp))); (have s6 := store_one' x6 (ex_ones' hty x6 (by simp))); (have s7 := store_one' x7 (ex_ones' hty x7 (by simp))); (have s8 := store_one' x8 (ex_ones' hty x8 (by simp))); (have s9 := store_one' x9 (ex_ones' hty x9 (by simp))); (have s10 := store_one' x10 (ex_ones' hty x10 (by simp))))
  have HP1 := Lib.hid (hp2.trans (Par.of_below (below_new' w2 (.cells #[x0, x1, x2, x3, x4, x5, x6, x7, x8, x9, x10] 32))))
  have hsz := HSZ.out
  have HA1 := Lib.hid (AccAt.one (e := 32) (B := W.heap.size + 1) w2 hlen (hty.wk (by omega)) (by have := hp2.size; omega))
  have HS2 := Lib.hid (hsw2.later (below_new' w2 (.cells #[x0, x1, x2, x3, x4, x5, x6, x7, x8, x9, x10] 32)))
  have HF2 := Lib.hid hf2
  clear hp2 hty hsw2 hf2
  go_loopw [5, 12] (fun v i wr => ∃ (acc : List Ex) (mm : Nat) (ts' : List Tk) (A : Option Addr) (qq c : Nat), v = .slice A qq c ∧ acc.length = qq ∧ acc.length + mm = 3 ∧ mm ≤ 2 ∧ (∃ nn : Int, i = .int .i64 nn ∧ nn + mm = 2) ∧ r = choF E lv q mm acc ts' ∧ AccAt rEx 11 32 (W.heap.size + 1) wr v acc ∧ Par pb W1 wr ∧ PsAt wr pb ts' lv ∧ Fine ts') (fun _ i _ => 2 - numOf' i)
  case atStart => exact ⟨[a0], 2, ts0, _, 1, 1, rfl, rfl, rfl, by omega, ⟨0, rfl, rfl⟩, HR1.out, HA1.out, HP1.out, HS2.out, HF2.out⟩
  case round =>
    obtain ⟨acc, mm, ts', A, qq, c, rfl, hqq, hmm, hm2, ⟨nn, rfl, hnn⟩, hrr, hacc, hpar, hps, hfi⟩ := hrel
    have HACC := Lib.hid hacc
    have HPAR := Lib.hid hpar
    have HPS := Lib.hid hps
    have HFI := Lib.hid hfi
    have HR2 := Lib.hid hrr
    have HQ := Lib.hid hqq
    clear hacc hpar hps hfi hrr
    have hwz : W1.heap.size ≤ wr.heap.size := HPAR.out.size
    rcases (show mm = 2 ∨ mm = 1 ∨ mm = 0 by omega) with rfl | rfl | rfl
    · obtain rfl : nn = 0 := by omega
      obtain ⟨t, tl, rfl⟩ := HFI.out.ne
      cases hb : seesB t sThen with
      | false =>
        obtain rfl : r = .bad 110 t.pos := by rw [HR2.out]; simp [choF, needP, seesH_cons, hb, Res.andThen, posH_cons]
        have CB := Lib.hid (need_no pb lv t tl sThen wr HPS.out hb)
        go_wp2_with (go_at_call 47; (with_reducible refine CB.out.mono ?_); rintro e w2 ⟨rfl, hp2⟩)
        exact ⟨rfl, (Par.of_below HN.out).trans (HPAR.out.trans hp2), rfl⟩
      | true =>
        have CB := Lib.hid (need_yes pb lv t tl sThen wr HPS.out hb)
        have HFT := Lib.hid (HFI.out.tail_ (seesB_kind hb))
        cases hrd : E lv tl with
        | out => exact absurd (by rw [HR2.out]; simp [choF, needP, seesH_cons, hb, hrd, Res.andThen]) HO.out
        | bad c' p =>
          obtain rfl : r = .bad c' p := by rw [HR2.out]; simp [choF, needP, seesH_cons, hb, hrd, Res.andThen]
          have CR := Lib.hid (fun W2 (hs : PsAt W2 pb tl lv) => HEE.out pb lv tl W2 hs HFT.out hlv _ hrd (by simp))
          go_wp2_with (first | (go_at_call 47; (with_reducible refine CB.out.mono ?_); rintro e w2 ⟨rfl, hp2, hs2⟩) | (go_at_call 7; (with_reducible refine (CR.out _ hs2).mono ?_); rintro e w3 ⟨hp3, rfl⟩))
          exact ⟨rfl, (Par.of_below HN.out).trans (HPAR.out.trans (hp2.trans hp3)), rfl⟩
        | ok a ts1 =>
          have CR := Lib.hid (fun W2 (hs : PsAt W2 pb tl lv) => HEE.out pb lv tl W2 hs HFT.out hlv _ hrd (by simp))
          have HRD2 := Lib.hid (show r = choF E lv q 1 (acc ++ [a]) ts1 by rw [HR2.out]; simp [choF, needP, seesH_cons, hb, hrd, Res.andThen])
          clear hrd hb
          go_wp2_with (first | (go_at_call 47; (with_reducible refine CB.out.mono ?_); rintro e w2 ⟨rfl, hp2, hs2⟩) | (go_at_call 7; (with_reducible refine (CR.out _ hs2).mono ?_); rintro e w3 ⟨hp3, ⟨cs, hlen, rfl, hty⟩, hs3, hf3⟩; (obtain ⟨x0, x1, x2, x3, x4, x5, x6, x7, x8, x9, x10, rfl⟩ := eleven_of hlen); (have s0 := store_one' x0 (ex_ones' hty x0 (by simp))); (have s1 := store_one' x1 (ex_ones' hty x1 (by simp))); (have s2 := store_one' x2 (ex_ones' hty x2 (by simp))); (have s3 := store_one' x3 (ex_ones' hty x3 (by simp))); (have s4 := store_one' x4 (ex_ones' hty x4 (by simp))); (have s5 := store_one' x5 (ex_ones' hty x5 (by simp))); (have s6 := store_one' x6 (ex_ones' hty x6 (by simp))); (have s7 := store_one' x7 (ex_ones' hty x7 (by simp))); (have s8 := store_one' x8 (ex_ones' hty x8 (by simp))); (have s9 := store_one' x9 (ex_ones' hty x9 (by simp))); (have s10 := store_one' x10 (ex_ones' hty x10 (by simp))); (have hac4 := ((HACC.out.par (hp2.trans hp3) (by omega)).below (pb := pb) (below_new' w3 (.cells #[x0, x1, x2, x3, x4, x5, x6, x7, x8, x9, x10] 32)) (by omega))); (obtain ⟨L, o1, o2, o3, o4⟩ := hac4.ex); (have o1q := o1); (rw [HQ.out] at o1q)) | (at_builtin; refine wpList_append_lies _ rfl (.tmp 20) (.tmp 23) 28 rfl (W.heap.size + 1) 32 i0 (.agg #[.int .i64 0, .string ⟨#[]⟩, .int .i64 0, .int .i64 0, .string ⟨#[]⟩, .int .i64 0, .slice none 0 0, .slice none 0 0, .slice none 0 0, .slice none 0 0, .int .i64 0]) 11 168 Tryd.underlying28 HI.out HZ0.out HZ1.out HZ2.out rfl (by decide) (.slice A qq c) qq L.flatten rfl o1q ⟨w3.heap.size, 0, none⟩ 1 1 [x0, x1, x2, x3, x4, x5, x6, x7, x8, x9, x10] rfl rfl (new_cells _ _) (ex_ones' hty) (by omega) (by have := HQ.out; unfold maxLen; omega) (by have := HQ.out; omega) (by have := hp3.size; have := hp2.size; simp; omega) (w3.heap.size + 1) (by simp) ?_))
          intro g cap w5 hown hgrow hlies hlt5
          have hqq := HQ.out
          subst hqq
          have hz2 := hp2.size
          have hz3 := hp3.size
          have HPW := Lib.hid ((HPAR.out.trans (hp2.trans hp3)).trans (Par.of_below (below_new' w3 (.cells #[x0, x1, x2, x3, x4, x5, x6, x7, x8, x9, x10] 32))))
          have hel : rEx.M (accX (W.heap.size + 1) (.slice A acc.length c)) _ [x0, x1, x2, x3, x4, x5, x6, x7, x8, x9, x10] a := (hty.later (Low.of_below (below_new' w3 (.cells #[x0, x1, x2, x3, x4, x5, x6, x7, x8, x9, x10] 32)))).weaken (fun k _ hk => by
            unfold accX at hk
            simp only [Bool.or_eq_true, beq_iff_eq] at hk
            rcases hk with hk | hk
            · rw [lowX_iff] at hk ⊢; omega
            · obtain ⟨L0, p1, _⟩ := HACC.out.ex
              have := (p1.lt k hk.symm).2
              rw [lowX_iff]; omega)
          have hadd := AccAt.add (W' := w5) o1 o2 o3 o4 rfl hel hown hgrow (by rcases hlies with h5 | h5; exact .inl h5; right; rw [h5]; simp)
          have HPW5 := Lib.hid (Par.grown HPW.out hgrow (fun k hk => by have := (o1.lt k hk).1; have := HSZ.out; omega))
          have HAD := Lib.hid hadd
          have HPS5 := Lib.hid ((hs3.later (below_new' w3 (.cells #[x0, x1, x2, x3, x4, x5, x6, x7, x8, x9, x10] 32))).grown hgrow (fun k hk => by have := (o1.lt k hk).1; omega))
          clear hadd hel hown hgrow hlies hac4 o1 o1q o2 o3 o4
          go_wp2_with fail
          go_roundw
          case rel => exact ⟨acc ++ [a], 1, ts1, some ⟨g, 0, none⟩, acc.length + 1, cap, rfl, by simp, by simp; omega, by omega, ⟨_, rfl, by omega⟩, HRD2.out, HAD.out, HPW5.out, HPS5.out, hf3⟩
          case measure => simp [numOf']
    · obtain rfl : nn = 1 := by omega
      obtain ⟨t, tl, rfl⟩ := HFI.out.ne
      cases hb : seesB t sElse with
      | false =>
        obtain rfl : r = .bad 110 t.pos := by rw [HR2.out]; simp [choF, needP, seesH_cons, hb, Res.andThen, posH_cons]
        have CB := Lib.hid (need_no pb lv t tl sElse wr HPS.out hb)
        go_wp2_with (go_at_call 47; (with_reducible refine CB.out.mono ?_); rintro e w2 ⟨rfl, hp2⟩)
        exact ⟨rfl, (Par.of_below HN.out).trans (HPAR.out.trans hp2), rfl⟩
      | true =>
        have CB := Lib.hid (need_yes pb lv t tl sElse wr HPS.out hb)
        have HFT := Lib.hid (HFI.out.tail_ (seesB_kind hb))
        cases hrd : E lv tl with
        | out => exact absurd (by rw [HR2.out]; simp [choF, needP, seesH_cons, hb, hrd, Res.andThen]) HO.out
        | bad c' p =>
          obtain rfl : r = .bad c' p := by rw [HR2.out]; simp [choF, needP, seesH_cons, hb, hrd, Res.andThen]
          have CR := Lib.hid (fun W2 (hs : PsAt W2 pb tl lv) => HEE.out pb lv tl W2 hs HFT.out hlv _ hrd (by simp))
          go_wp2_with (first | (go_at_call 47; (with_reducible refine CB.out.mono ?_); rintro e w2 ⟨rfl, hp2, hs2⟩) | (go_at_call 7; (with_reducible refine (CR.out _ hs2).mono ?_); rintro e w3 ⟨hp3, rfl⟩))
          exact ⟨rfl, (Par.of_below HN.out).trans (HPAR.out.trans (hp2.trans hp3)), rfl⟩
        | ok a ts1 =>
          have CR := Lib.hid (fun W2 (hs : PsAt W2 pb tl lv) => HEE.out pb lv tl W2 hs HFT.out hlv _ hrd (by simp))
          have HRD2 := Lib.hid (show r = choF E lv q 0 (acc ++ [a]) ts1 by rw [HR2.out]; simp [choF, needP, seesH_cons, hb, hrd, Res.andThen])
          clear hrd hb
          go_wp2_with (first | (go_at_call 47; (with_reducible refine CB.out.mono ?_); rintro e w2 ⟨rfl, hp2, hs2⟩) | (go_at_call 7; (with_reducible refine (CR.out _ hs2).mono ?_); rintro e w3 ⟨hp3, ⟨cs, hlen, rfl, hty⟩, hs3, hf3⟩; (obtain ⟨x0, x1, x2, x3, x4, x5, x6, x7, x8, x9, x10, rfl⟩ := eleven_of hlen); (have s0 := store_one' x0 (ex_ones' hty x0 (by simp))); (have s1 := store_one' x1 (ex_ones' hty x1 (by simp))); (have s2 := store_one' x2 (ex_ones' hty x2 (by simp))); (have s3 := store_one' x3 (ex_ones' hty x3 (by simp))); (have s4 := store_one' x4 (ex_ones' hty x4 (by simp))); (have s5 := store_one' x5 (ex_ones' hty x5 (by simp))); (have s6 := store_one' x6 (ex_ones' hty x6 (by simp))); (have s7 := store_one' x7 (ex_ones' hty x7 (by simp))); (have s8 := store_one' x8 (ex_ones' hty x8 (by simp))); (have s9 := store_one' x9 (ex_ones' hty x9 (by simp))); (have s10 := store_one' x10 (ex_ones' hty x10 (by simp))); (have hac4 := ((HACC.out.par (hp2.trans hp3) (by omega)).below (pb := pb) (below_new' w3 (.cells #[x0, x1, x2, x3, x4, x5, x6, x7, x8, x9, x10] 32)) (by omega))); (obtain ⟨L, o1, o2, o3, o4⟩ := hac4.ex); (have o1q := o1); (rw [HQ.out] at o1q)) | (at_builtin; refine wpList_append_lies _ rfl (.tmp 20) (.tmp 23) 28 rfl (W.heap.size + 1) 32 i0 (.agg #[.int .i64 0, .string ⟨#[]⟩, .int .i64 0, .int .i64 0, .string ⟨#[]⟩, .int .i64 0, .slice none 0 0, .slice none 0 0, .slice none 0 0, .slice none 0 0, .int .i64 0]) 11 168 Tryd.underlying28 HI.out HZ0.out HZ1.out HZ2.out rfl (by decide) (.slice A qq c) qq L.flatten rfl o1q ⟨w3.heap.size, 0, none⟩ 1 1 [x0, x1, x2, x3, x4, x5, x6, x7, x8, x9, x10] rfl rfl (new_cells _ _) (ex_ones' hty) (by omega) (by have := HQ.out; unfold maxLen; omega) (by have := HQ.out; omega) (by have := hp3.size; have := hp2.size; simp; omega) (w3.heap.size + 1) (by simp) ?_))
          intro g cap w5 hown hgrow hlies hlt5
          have hqq := HQ.out
          subst hqq
          have hz2 := hp2.size
          have hz3 := hp3.size
          have HPW := Lib.hid ((HPAR.out.trans (hp2.trans hp3)).trans (Par.of_below (below_new' w3 (.cells #[x0, x1, x2, x3, x4, x5, x6, x7, x8, x9, x10] 32))))
          have hel : rEx.M (accX (W.heap.size + 1) (.slice A acc.length c)) _ [x0, x1, x2, x3, x4, x5, x6, x7, x8, x9, x10] a := (hty.later (Low.of_below (below_new' w3 (.cells #[x0, x1, x2, x3, x4, x5, x6, x7, x8, x9, x10] 32)))).weaken (fun k _ hk => by
            unfold accX at hk
            simp only [Bool.or_eq_true, beq_iff_eq] at hk
            rcases hk with hk | hk
            · rw [lowX_iff] at hk ⊢; omega
            · obtain ⟨L0, p1, _⟩ := HACC.out.ex
              have := (p1.lt k hk.symm).2
              rw [lowX_iff]; omega)
          have hadd := AccAt.add (W' := w5) o1 o2 o3 o4 rfl hel hown hgrow (by rcases hlies with h5 | h5; exact .inl h5; right; rw [h5]; simp)
          have HPW5 := Lib.hid (Par.grown HPW.out hgrow (fun k hk => by have := (o1.lt k hk).1; have := HSZ.out; omega))
          have HAD := Lib.hid hadd
          have HPS5 := Lib.hid ((hs3.later (below_new' w3 (.cells #[x0, x1, x2, x3, x4, x5, x6, x7, x8, x9, x10] 32))).grown hgrow (fun k hk => by have := (o1.lt k hk).1; omega))
          clear hadd hel hown hgrow hlies hac4 o1 o1q o2 o3 o4
          go_wp2_with fail
          go_roundw
          case rel => exact ⟨acc ++ [a], 0, ts1, some ⟨g, 0, none⟩, acc.length + 1, cap, rfl, by simp, by simp; omega, by omega, ⟨_, rfl, by omega⟩, HRD2.out, HAD.out, HPW5.out, HPS5.out, hf3⟩
          case measure => simp [numOf']
    · obtain rfl : nn = 2 := by omega
      obtain rfl : r = .ok (exK 9 ⟨#[]⟩ 0 acc q) ts' := HR2.out
      obtain ⟨A', c', e1, g1, g2, g3⟩ := HACC.out.row (by omega)
      injection e1 with e1 e2 e3
      subst e1; subst e3
      clear e2
      have hBwr : Blk wr W.heap.size 32 #[.int .i64 0, .string ⟨#[]⟩, .int .i64 0, .int .i64 0, .string ⟨#[]⟩, .int .i64 0, .slice none 0 0, .slice none 0 0, .slice none 0 0, .slice none 0 0, .int .i64 0] := (HPAR.out.block _ HRS.out.lt (by omega : ¬ W.heap.size = pb)).trans HRS.out
      have r0wr := hBwr.cell 0
      have r1wr := hBwr.cell 1
      have r2wr := hBwr.cell 2
      have r3wr := hBwr.cell 3
      have r4wr := hBwr.cell 4
      have r5wr := hBwr.cell 5
      have r6wr := hBwr.cell 6
      have r7wr := hBwr.cell 7
      have r8wr := hBwr.cell 8
      have r9wr := hBwr.cell 9
      have r10wr := hBwr.cell 10
      simp only [List.getElem?_toArray, List.getElem?_cons_succ, List.getElem?_cons_zero] at r0wr r1wr r2wr r3wr r4wr r5wr r6wr r7wr r8wr r9wr r10wr
      have f0wr := hBwr.frozen 0
      have f1wr := hBwr.frozen 1
      have f2wr := hBwr.frozen 2
      have f3wr := hBwr.frozen 3
      have f4wr := hBwr.frozen 4
      have f5wr := hBwr.frozen 5
      have f6wr := hBwr.frozen 6
      have f7wr := hBwr.frozen 7
      have f8wr := hBwr.frozen 8
      have f9wr := hBwr.frozen 9
      have f10wr := hBwr.frozen 10
      go_wp2_with fail
      have hqq := HQ.out
      subst hqq
      have hty : rEx.M (lowX (W.heap.size + 1)) wr _ (exK 9 ⟨#[]⟩ 0 acc q) := ExM.kids (k := 9) (nm := ⟨#[]⟩) (n := 0) (q := q) (ok_lit _ (by omega) (by omega)) (by simp [ByteArray.size]) (ok_lit _ (by omega) (by omega)) hq g1 g2 (by omega) g3
      obtain ⟨w9, hw9⟩ : ∃ w9, (((((((((((wr).setCell ⟨W.heap.size, 0, none⟩ (.int .i64 9)).setCell ⟨W.heap.size, 1, none⟩ (.string ⟨#[]⟩)).setCell ⟨W.heap.size, 2, none⟩ (.int .i64 0)).setCell ⟨W.heap.size, 3, none⟩ (.int .i64 0)).setCell ⟨W.heap.size, 4, none⟩ (.string ⟨#[]⟩)).setCell ⟨W.heap.size, 5, none⟩ (.int .i64 0)).setCell ⟨W.heap.size, 6, none⟩ (.slice none 0 0)).setCell ⟨W.heap.size, 7, none⟩ (.slice A acc.length c)).setCell ⟨W.heap.size, 8, none⟩ (.slice none 0 0)).setCell ⟨W.heap.size, 9, none⟩ (.slice none 0 0)).setCell ⟨W.heap.size, 10, none⟩ (.int .i64 q) = w9 := ⟨_, rfl⟩
      have hPW := (Par.of_below (pb := pb) HN.out).trans HPAR.out
      have hB9 := set11 hBwr (.int .i64 9) (.string ⟨#[]⟩) (.int .i64 0) (.int .i64 0) (.string ⟨#[]⟩) (.int .i64 0) (.slice none 0 0) (.slice A acc.length c) (.slice none 0 0) (.slice none 0 0) (.int .i64 q)
      have hb9 := Par.set11 hPW (Nat.le_refl _) (.int .i64 9) (.string ⟨#[]⟩) (.int .i64 0) (.int .i64 0) (.string ⟨#[]⟩) (.int .i64 0) (.slice none 0 0) (.slice A acc.length c) (.slice none 0 0) (.slice none 0 0) (.int .i64 q)
      have hS9 := PsAt.set11 HPS.out (g := W.heap.size) hlt (.int .i64 9) (.string ⟨#[]⟩) (.int .i64 0) (.int .i64 0) (.string ⟨#[]⟩) (.int .i64 0) (.slice none 0 0) (.slice A acc.length c) (.slice none 0 0) (.slice none 0 0) (.int .i64 q)
      have hL9 : Low (lowX (W.heap.size + 1)) wr _ := Low.set11 (Chg.refl _ _) (.inl (lowX_self _)) (.int .i64 9) (.string ⟨#[]⟩) (.int .i64 0) (.int .i64 0) (.string ⟨#[]⟩) (.int .i64 0) (.slice none 0 0) (.slice A acc.length c) (.slice none 0 0) (.slice none 0 0) (.int .i64 q)
      rw [hw9] at hB9 hb9 hS9 hL9 ⊢
      have d0 := hB9.cell 0
      have d1 := hB9.cell 1
      have d2 := hB9.cell 2
      have d3 := hB9.cell 3
      have d4 := hB9.cell 4
      have d5 := hB9.cell 5
      have d6 := hB9.cell 6
      have d7 := hB9.cell 7
      have d8 := hB9.cell 8
      have d9 := hB9.cell 9
      have d10 := hB9.cell 10
      simp only [List.getElem?_toArray, List.getElem?_cons_succ, List.getElem?_cons_zero] at d0 d1 d2 d3 d4 d5 d6 d7 d8 d9 d10
      exact bodyPost_ret (v := .agg #[.int .i64 9, .string ⟨#[]⟩, .int .i64 0, .int .i64 0, .string ⟨#[]⟩, .int .i64 0, .slice none 0 0, .slice A acc.length c, .slice none 0 0, .slice none 0 0, .int .i64 q]) (by simp [results, Tryd.results31, go_sem, d0, d1, d2, d3, d4, d5, d6, d7, d8, d9, d10]) rfl ⟨hb9, ⟨[.int .i64 9, .string ⟨#[]⟩, .int .i64 0, .int .i64 0, .string ⟨#[]⟩, .int .i64 0, .slice none 0 0, .slice A acc.length c, .slice none 0 0, .slice none 0 0, .int .i64 q], rfl, rfl, (hty.later hL9).wk (by omega)⟩, hS9, HFI.out⟩

end Go.Proofs.YtiiddmioafhmoaaDoor
