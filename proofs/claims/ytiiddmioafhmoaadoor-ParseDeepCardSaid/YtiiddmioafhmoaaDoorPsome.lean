/- Walks: one or several things, with a sign between them. -/
import Derived.Test.YtiiddmioafhmoaaDoorPab
namespace Go.Proofs.YtiiddmioafhmoaaDoor
open Go.RowKit
set_option linter.unusedVariables false
set_option linter.unusedSimpArgs false
set_option maxRecDepth 100000

/-- As RowPost; one more may have been read than there were tokens. -/
def SomePost {α : Type} (pb lv n : Nat) (R : Rd α) (r : Res (List α)) (W : World) (e : Ending) (W' : World) : Prop :=
  Par pb W W' ∧ match r with
  | .ok l ts => (∃ A c, e = .returned (.slice A l.length c) ∧ l.length ≤ c ∧ c ≤ maxLen ∧ l.length ≤ 60002 ∧ RowM R n (lowX W.heap.size) W' A l) ∧ PsAt W' pb ts lv ∧ Fine ts
  | .bad c p => e = diagE c p
  | .out => True
theorem al_ones' {w : World} {B : Nat} {cs : List Value} {t : Al} (h : AlAt w B cs t) : ∀ u ∈ cs, u.oneCell' = true := by
  cases h with
  | mk hp he => intro u hu; rcases List.mem_append.1 hu with hu | hu; exact pt_ones' hp u hu; exact ex_ones' he u hu
theorem bd_ones' {w : World} {B : Nat} {cs : List Value} {t : Bd} (h : BdAt w B cs t) : ∀ u ∈ cs, u.oneCell' = true := by
  cases h with
  | mk hs he hq =>
    intro u hu
    simp only [List.mem_append, List.mem_cons, List.not_mem_nil, or_false] at hu
    rcases hu with (rfl | hu) | rfl
    · rfl
    · exact ex_ones' he u hu
    · rfl
theorem AccAt.one {α : Type} {R : Rd α} {size : Nat} {e : TypeId} {B : Nat} {xs : List Value} {a : α} (w : World) (hlen : xs.length = size) (ha : R.M (lowX B) w xs a) (hB : B ≤ w.heap.size) :
    AccAt R size e B (w.alloc (.cells xs.toArray e)) (.slice (some ⟨w.heap.size, 0, none⟩) 1 1) [a] := by
  refine ⟨[xs], by simpa using World.ownsRow_lit (base := B) (e := e) (size := size) w xs.toArray 1 hB (by simp [maxLen]) (by simp [hlen]), rfl, fun x hx => by simp only [List.mem_cons, List.not_mem_nil, or_false] at hx; subst hx; exact hlen, fun i k1 k2 => ?_⟩
  match i, k1 with
  | 0, _ =>
    refine (ha.weaken (Y := accX B (.slice (some ⟨w.heap.size, 0, none⟩) 1 1)) fun k hk hx => ?_).later (Low.of_below (below_new' _ _))
    unfold accX at hx
    simp only [Bool.or_eq_true, beq_iff_eq, Value.ownBlock, Option.some.injEq] at hx
    rcases hx with hx | hx
    · exact hx
    · omega
theorem thirteen_of' {l : List Value} (h : l.length = 13) : ∃ c0 c1 c2 c3 c4 c5 c6 c7 c8 c9 c10 c11 c12, l = [c0, c1, c2, c3, c4, c5, c6, c7, c8, c9, c10, c11, c12] := by
  match l, h with
  | [c0, c1, c2, c3, c4, c5, c6, c7, c8, c9, c10, c11, c12], _ => exact ⟨c0, c1, c2, c3, c4, c5, c6, c7, c8, c9, c10, c11, c12, rfl⟩
theorem sixteen_of' {l : List Value} (h : l.length = 16) : ∃ c0 c1 c2 c3 c4 c5 c6 c7 c8 c9 c10 c11 c12 c13 c14 c15, l = [c0, c1, c2, c3, c4, c5, c6, c7, c8, c9, c10, c11, c12, c13, c14, c15] := by
  match l, h with
  | [c0, c1, c2, c3, c4, c5, c6, c7, c8, c9, c10, c11, c12, c13, c14, c15], _ => exact ⟨c0, c1, c2, c3, c4, c5, c6, c7, c8, c9, c10, c11, c12, c13, c14, c15, rfl⟩
theorem al_info : (Tryd.prog.info? 116).map (fun i => (i.zero, i.size, i.bytes)) = some (some (.agg #[.int .i64 0, .string ⟨#[]⟩, .int .i64 0, .slice none 0 0, .int .i64 0, .int .i64 0, .string ⟨#[]⟩, .int .i64 0, .int .i64 0, .string ⟨#[]⟩, .int .i64 0, .slice none 0 0, .slice none 0 0, .slice none 0 0, .slice none 0 0, .int .i64 0]), 16, 232) := by kernel_rfl
set_option maxHeartbeats 6400000 in
theorem some_al (lv : Nat) (sg : ByteArray) (rd : List Tk → Res Al) (HR : RdOk rAl 16 68 lv rd) (pb : Nat) (ts : List Tk) (W : World) (h : PsAt W pb ts lv) (hf : Fine ts) (r : Res (List Al)) (hr : someP sg rd ts = r) (ho : r ≠ .out) :
    Calls Tryd.prog 67 #[.pointer (some ⟨pb, 0, none⟩), .string sg, .func (.func 68) #[.pointer (some ⟨pb, 0, none⟩)] #[]] W (SomePost pb lv 16 rAl r W) := by
  obtain ⟨i0, hi, hz0, hz1, hz2⟩ := info_parts al_info
  have HI := Lib.hid hi
  have HZ0 := Lib.hid hz0
  have HZ1 := Lib.hid hz1
  have HZ2 := Lib.hid hz2
  have hlt := h.lt
  have hm := hf.len
  obtain ⟨m, hmm⟩ : ∃ m, ts.length + 1 = m := ⟨_, rfl⟩
  have HM : m ≤ 60002 := by omega
  have HH := Lib.hid h
  have HF := Lib.hid hf
  unfold someP at hr
  rw [hmm] at hr
  have HRR := Lib.hid hr
  have HO := Lib.hid ho
  have HRD := Lib.hid HR
  clear h hf hr ho HR hi hz0 hz1 hz2 hm hmm
  cases hA : rd ts with
  | out => exact absurd (by rw [← HRR.out, hA]; rfl) HO.out
  | bad c p =>
    obtain rfl : r = .bad c p := by rw [← HRR.out, hA]; rfl
    have C0 := Lib.hid (HRD.out pb ts W HH.out HF.out _ hA (by simp))
    go_enter Tryd.func67, Tryd.ntmps67
    go_wp2_with (go_at_call 68; (with_reducible refine C0.out.mono ?_); rintro e w3 ⟨hp3, rfl⟩)
    exact ⟨rfl, hp3, rfl⟩
  | ok a0 ts0 =>
  have C0 := Lib.hid (HRD.out pb ts W HH.out HF.out _ hA (by simp))
  have HR1 := Lib.hid (show r = (someF sg rd m ts0).pre [a0] by rw [← HRR.out, hA]; simp only [Res.andThen]; cases someF sg rd m ts0 <;> simp [Res.pre])
  clear hA
  go_enter Tryd.func67, Tryd.ntmps67
  go_wp2_with (go_at_call 68; (with_reducible refine C0.out.mono ?_); rintro e w1 ⟨hp1, ⟨cs, hlen, rfl, hty⟩, hs1, hf1⟩; (obtain ⟨x0, x1, x2, x3, x4, x5, x6, x7, x8, x9, x10, x11, x12, x13, x14, x15, rfl⟩ := sixteen_of' hlen); (have s0 := store_one' x0 (al_ones' hty x0 (by simp))); (have s1 := store_one' x1 (al_ones' hty x1 (by simp))); (have s2 := store_one' x2 (al_ones' hty x2 (by simp))); (have s3 := store_one' x3 (al_ones' hty x3 (by simp))); (have s4 := store_one' x4 (al_ones' hty x4 (by simp))); (have s5 := store_one' x5 (al_ones' hty x5 (by simp))); (have s6 := store_one' x6 (al_ones' hty x6 (by simp))); (have s7 := store_one' x7 (al_ones' hty x7 (by simp))); (have s8 := store_one' x8 (al_ones' hty x8 (by simp))); (have s9 := store_one' x9 (al_ones' hty x9 (by simp))); (have s10 := store_one' x10 (al_ones' hty x10 (by simp))); (have s11 := store_one' x11 (al_ones' hty x11 (by simp))); (have s12 := store_one' x12 (al_ones' hty x12 (by simp))); (have s13 := store_one' x13 (al_ones' hty x13 (by simp))); (have s14 := store_one' x14 (al_ones' hty x14 (by simp))); (have s15 := store_one' x15 (al_ones' hty x15 (by simp))))
  have HP1 := Lib.hid (hp1.trans (Par.of_below (below_new' w1 (.cells #[x0, x1, x2, x3, x4, x5, x6, x7, x8, x9, x10, x11, x12, x13, x14, x15] 116))))
  have HA1 := Lib.hid (AccAt.one (e := 116) (B := W.heap.size) w1 hlen hty hp1.size)
  have HS1 := Lib.hid (hs1.later (below_new' w1 (.cells #[x0, x1, x2, x3, x4, x5, x6, x7, x8, x9, x10, x11, x12, x13, x14, x15] 116)))
  have HF1 := Lib.hid hf1
  clear hp1 hty hs1 hf1
  go_loopw [7] (fun v wr => ∃ (acc : List Al) (mm : Nat) (ts' : List Tk) (A : Option Addr) (q c : Nat), v = .slice A q c ∧ acc.length = q ∧ acc.length + mm = m + 1 ∧ r = (someF sg rd mm ts').pre acc ∧ AccAt rAl 16 116 W.heap.size wr v acc ∧ Par pb W wr ∧ PsAt wr pb ts' lv ∧ Fine ts') (fun v _ => m + 2 - sliceLen' v)
  case atStart => exact ⟨[a0], m, ts0, _, 1, 1, rfl, rfl, by simp; omega, HR1.out, HA1.out, HP1.out, HS1.out, HF1.out⟩
  case round =>
    obtain ⟨acc, mm, ts', A, q, c, rfl, hq, hmm, hrr, hacc, hpar, hps, hfi⟩ := hrel
    have HACC := Lib.hid hacc
    have HPAR := Lib.hid hpar
    have HPS := Lib.hid hps
    have HFI := Lib.hid hfi
    have HR2 := Lib.hid hrr
    have HQ := Lib.hid hq
    clear hacc hpar hps hfi hrr
    have hwz : W.heap.size ≤ wr.heap.size := HPAR.out.size
    cases mm with
    | zero => exact absurd (by rw [HR2.out]; rfl) HO.out
    | succ k =>
      obtain ⟨t, tl, rfl⟩ := HFI.out.ne
      cases hb : seesB t sg with
      | false =>
        obtain rfl : r = .ok acc (t :: tl) := by rw [HR2.out]; simp [someF, seesH_cons, hb, Res.pre]
        have CB := Lib.hid (skip_any pb lv t tl sg wr HPS.out false hb)
        go_wp2_with (first | (go_at_call 28; (with_reducible refine CB.out.mono ?_); rintro e w2 ⟨rfl, hp2, hs2⟩))
        go_ret
        obtain ⟨A', c', e1, g1, g2, g3⟩ := (HACC.out.par hp2 hlt).row (by omega)
        have hq := HQ.out
        subst hq
        injection e1 with e1 e2 e3
        subst e1; subst e3
        exact ⟨HPAR.out.trans hp2, ⟨_, _, rfl, g1, g2, by omega, g3⟩, hs2, HFI.out⟩
      | true =>
        have CB := Lib.hid (skip_any pb lv t tl sg wr HPS.out true hb)
        have HFT := Lib.hid (HFI.out.tail_ (seesB_kind hb))
        cases hrd : rd tl with
        | out => exact absurd (by rw [HR2.out]; simp [someF, seesH_cons, hb, hrd, Res.andThen, Res.pre]) HO.out
        | bad c' p =>
          obtain rfl : r = .bad c' p := by rw [HR2.out]; simp [someF, seesH_cons, hb, hrd, Res.andThen, Res.pre]
          have CR := Lib.hid (fun W2 (hs : PsAt W2 pb tl lv) => HRD.out pb tl W2 hs HFT.out _ hrd (by simp))
          go_wp2_with (first | (go_at_call 28; (with_reducible refine CB.out.mono ?_); rintro e w2 ⟨rfl, hp2, hs2⟩) | (go_at_call 68; (with_reducible refine (CR.out _ hs2).mono ?_); rintro e w3 ⟨hp3, rfl⟩))
          exact ⟨rfl, HPAR.out.trans (hp2.trans hp3), rfl⟩
        | ok a ts1 =>
          have CR := Lib.hid (fun W2 (hs : PsAt W2 pb tl lv) => HRD.out pb tl W2 hs HFT.out _ hrd (by simp))
          have HRD2 := Lib.hid (show r = (someF sg rd k ts1).pre (acc ++ [a]) by rw [HR2.out]; simp only [someF, seesH_cons, hb, List.tail_cons, hrd, Res.andThen, if_true]; cases someF sg rd k ts1 <;> simp [Res.pre])
          clear hrd hb
          go_wp2_with (first | (go_at_call 28; (with_reducible refine CB.out.mono ?_); rintro e w2 ⟨rfl, hp2, hs2⟩) | (go_at_call 68; (with_reducible refine (CR.out _ hs2).mono ?_); rintro e w3 ⟨hp3, ⟨cs, hlen, rfl, hty⟩, hs3, hf3⟩; (obtain ⟨x0, x1, x2, x3, x4, x5, x6, x7, x8, x9, x10, x11, x12, x13, x14, x15, rfl⟩ := sixteen_of' hlen); (have s0 := store_one' x0 (al_ones' hty x0 (by simp))); (have s1 := store_one' x1 (al_ones' hty x1 (by simp))); (have s2 := store_one' x2 (al_ones' hty x2 (by simp))); (have s3 := store_one' x3 (al_ones' hty x3 (by simp))); (have s4 := store_one' x4 (al_ones' hty x4 (by simp))); (have s5 := store_one' x5 (al_ones' hty x5 (by simp))); (have s6 := store_one' x6 (al_ones' hty x6 (by simp))); (have s7 := store_one' x7 (al_ones' hty x7 (by simp))); (have s8 := store_one' x8 (al_ones' hty x8 (by simp))); (have s9 := store_one' x9 (al_ones' hty x9 (by simp))); (have s10 := store_one' x10 (al_ones' hty x10 (by simp))); (have s11 := store_one' x11 (al_ones' hty x11 (by simp))); (have s12 := store_one' x12 (al_ones' hty x12 (by simp))); (have s13 := store_one' x13 (al_ones' hty x13 (by simp))); (have s14 := store_one' x14 (al_ones' hty x14 (by simp))); (have s15 := store_one' x15 (al_ones' hty x15 (by simp))); (have hac4 := ((HACC.out.par (hp2.trans hp3) hlt).below (pb := pb) (below_new' w3 (.cells #[x0, x1, x2, x3, x4, x5, x6, x7, x8, x9, x10, x11, x12, x13, x14, x15] 116)) (by omega))); (obtain ⟨L, o1, o2, o3, o4⟩ := hac4.ex); (have o1q := o1); (rw [HQ.out] at o1q)) | (at_builtin; refine wpList_append_lies _ rfl (.tmp 16) (.tmp 19) 29 rfl W.heap.size 116 i0 (.agg #[.int .i64 0, .string ⟨#[]⟩, .int .i64 0, .slice none 0 0, .int .i64 0, .int .i64 0, .string ⟨#[]⟩, .int .i64 0, .int .i64 0, .string ⟨#[]⟩, .int .i64 0, .slice none 0 0, .slice none 0 0, .slice none 0 0, .slice none 0 0, .int .i64 0]) 16 232 Tryd.underlying29 HI.out HZ0.out HZ1.out HZ2.out rfl (by decide) (.slice A q c) q L.flatten rfl o1q ⟨w3.heap.size, 0, none⟩ 1 1 [x0, x1, x2, x3, x4, x5, x6, x7, x8, x9, x10, x11, x12, x13, x14, x15] rfl rfl (new_cells _ _) (al_ones' hty) (by omega) (by have := HQ.out; unfold maxLen; omega) (by have := HQ.out; omega) (by have := hp3.size; have := hp2.size; simp; omega) (w3.heap.size + 1) (by simp) ?_))
          intro g cap w5 hown hgrow hlies hlt5
          have hq := HQ.out
          subst hq
          have hz2 := hp2.size
          have hz3 := hp3.size
          have HPW := Lib.hid ((HPAR.out.trans (hp2.trans hp3)).trans (Par.of_below (below_new' w3 (.cells #[x0, x1, x2, x3, x4, x5, x6, x7, x8, x9, x10, x11, x12, x13, x14, x15] 116))))
          have hel : rAl.M (accX W.heap.size (.slice A acc.length c)) _ [x0, x1, x2, x3, x4, x5, x6, x7, x8, x9, x10, x11, x12, x13, x14, x15] a := (hty.later (Low.of_below (below_new' w3 (.cells #[x0, x1, x2, x3, x4, x5, x6, x7, x8, x9, x10, x11, x12, x13, x14, x15] 116)))).weaken (fun k _ hk => by
            unfold accX at hk
            simp only [Bool.or_eq_true, beq_iff_eq] at hk
            rcases hk with hk | hk
            · rw [lowX_iff] at hk ⊢; omega
            · obtain ⟨L0, p1, _⟩ := HACC.out.ex
              have := (p1.lt k hk.symm).2
              rw [lowX_iff]; omega)
          have hadd := AccAt.add (W' := w5) o1 o2 o3 o4 rfl hel hown hgrow (by rcases hlies with h5 | h5; exact .inl h5; right; rw [h5]; simp)
          have HPW5 := Lib.hid (Par.grown HPW.out hgrow (fun k hk => (o1.lt k hk).1))
          have HAD := Lib.hid hadd
          have HPS5 := Lib.hid ((hs3.later (below_new' w3 (.cells #[x0, x1, x2, x3, x4, x5, x6, x7, x8, x9, x10, x11, x12, x13, x14, x15] 116))).grown hgrow (fun k hk => by have := (o1.lt k hk).1; omega))
          clear hadd hel hown hgrow hlies hac4 o1 o1q o2 o3 o4
          go_wp2_with fail
          go_roundw
          case rel => exact ⟨acc ++ [a], k, ts1, some ⟨g, 0, none⟩, acc.length + 1, cap, by simp, by simp, by simp; omega, HRD2.out, HAD.out, HPW5.out, HPS5.out, hf3⟩
          case measure => simp [sliceLen']; omega
theorem bd_info : (Tryd.prog.info? 97).map (fun i => (i.zero, i.size, i.bytes)) = some (some (.agg #[.string ⟨#[]⟩, .int .i64 0, .string ⟨#[]⟩, .int .i64 0, .int .i64 0, .string ⟨#[]⟩, .int .i64 0, .slice none 0 0, .slice none 0 0, .slice none 0 0, .slice none 0 0, .int .i64 0, .int .i64 0]), 13, 192) := by kernel_rfl
set_option maxHeartbeats 6400000 in
theorem some_bd (lv : Nat) (sg : ByteArray) (rd : List Tk → Res Bd) (HR : RdOk rBd 13 50 lv rd) (pb : Nat) (ts : List Tk) (W : World) (h : PsAt W pb ts lv) (hf : Fine ts) (r : Res (List Bd)) (hr : someP sg rd ts = r) (ho : r ≠ .out) :
    Calls Tryd.prog 49 #[.pointer (some ⟨pb, 0, none⟩), .string sg, .func (.func 50) #[.pointer (some ⟨pb, 0, none⟩)] #[]] W (SomePost pb lv 13 rBd r W) := by
  obtain ⟨i0, hi, hz0, hz1, hz2⟩ := info_parts bd_info
  have HI := Lib.hid hi
  have HZ0 := Lib.hid hz0
  have HZ1 := Lib.hid hz1
  have HZ2 := Lib.hid hz2
  have hlt := h.lt
  have hm := hf.len
  obtain ⟨m, hmm⟩ : ∃ m, ts.length + 1 = m := ⟨_, rfl⟩
  have HM : m ≤ 60002 := by omega
  have HH := Lib.hid h
  have HF := Lib.hid hf
  unfold someP at hr
  rw [hmm] at hr
  have HRR := Lib.hid hr
  have HO := Lib.hid ho
  have HRD := Lib.hid HR
  clear h hf hr ho HR hi hz0 hz1 hz2 hm hmm
  cases hA : rd ts with
  | out => exact absurd (by rw [← HRR.out, hA]; rfl) HO.out
  | bad c p =>
    obtain rfl : r = .bad c p := by rw [← HRR.out, hA]; rfl
    have C0 := Lib.hid (HRD.out pb ts W HH.out HF.out _ hA (by simp))
    go_enter Tryd.func49, Tryd.ntmps49
    go_wp2_with (go_at_call 50; (with_reducible refine C0.out.mono ?_); rintro e w3 ⟨hp3, rfl⟩)
    exact ⟨rfl, hp3, rfl⟩
  | ok a0 ts0 =>
  have C0 := Lib.hid (HRD.out pb ts W HH.out HF.out _ hA (by simp))
  have HR1 := Lib.hid (show r = (someF sg rd m ts0).pre [a0] by rw [← HRR.out, hA]; simp only [Res.andThen]; cases someF sg rd m ts0 <;> simp [Res.pre])
  clear hA
  go_enter Tryd.func49, Tryd.ntmps49
  go_wp2_with (go_at_call 50; (with_reducible refine C0.out.mono ?_); rintro e w1 ⟨hp1, ⟨cs, hlen, rfl, hty⟩, hs1, hf1⟩; (obtain ⟨x0, x1, x2, x3, x4, x5, x6, x7, x8, x9, x10, x11, x12, rfl⟩ := thirteen_of' hlen); (have s0 := store_one' x0 (bd_ones' hty x0 (by simp))); (have s1 := store_one' x1 (bd_ones' hty x1 (by simp))); (have s2 := store_one' x2 (bd_ones' hty x2 (by simp))); (have s3 := store_one' x3 (bd_ones' hty x3 (by simp))); (have s4 := store_one' x4 (bd_ones' hty x4 (by simp))); (have s5 := store_one' x5 (bd_ones' hty x5 (by simp))); (have s6 := store_one' x6 (bd_ones' hty x6 (by simp))); (have s7 := store_one' x7 (bd_ones' hty x7 (by simp))); (have s8 := store_one' x8 (bd_ones' hty x8 (by simp))); (have s9 := store_one' x9 (bd_ones' hty x9 (by simp))); (have s10 := store_one' x10 (bd_ones' hty x10 (by simp))); (have s11 := store_one' x11 (bd_ones' hty x11 (by simp))); (have s12 := store_one' x12 (bd_ones' hty x12 (by simp))))
  have HP1 := Lib.hid (hp1.trans (Par.of_below (below_new' w1 (.cells #[x0, x1, x2, x3, x4, x5, x6, x7, x8, x9, x10, x11, x12] 97))))
  have HA1 := Lib.hid (AccAt.one (e := 97) (B := W.heap.size) w1 hlen hty hp1.size)
  have HS1 := Lib.hid (hs1.later (below_new' w1 (.cells #[x0, x1, x2, x3, x4, x5, x6, x7, x8, x9, x10, x11, x12] 97)))
  have HF1 := Lib.hid hf1
  clear hp1 hty hs1 hf1
  go_loopw [7] (fun v wr => ∃ (acc : List Bd) (mm : Nat) (ts' : List Tk) (A : Option Addr) (q c : Nat), v = .slice A q c ∧ acc.length = q ∧ acc.length + mm = m + 1 ∧ r = (someF sg rd mm ts').pre acc ∧ AccAt rBd 13 97 W.heap.size wr v acc ∧ Par pb W wr ∧ PsAt wr pb ts' lv ∧ Fine ts') (fun v _ => m + 2 - sliceLen' v)
  case atStart => exact ⟨[a0], m, ts0, _, 1, 1, rfl, rfl, by simp; omega, HR1.out, HA1.out, HP1.out, HS1.out, HF1.out⟩
  case round =>
    obtain ⟨acc, mm, ts', A, q, c, rfl, hq, hmm, hrr, hacc, hpar, hps, hfi⟩ := hrel
    have HACC := Lib.hid hacc
    have HPAR := Lib.hid hpar
    have HPS := Lib.hid hps
    have HFI := Lib.hid hfi
    have HR2 := Lib.hid hrr
    have HQ := Lib.hid hq
    clear hacc hpar hps hfi hrr
    have hwz : W.heap.size ≤ wr.heap.size := HPAR.out.size
    cases mm with
    | zero => exact absurd (by rw [HR2.out]; rfl) HO.out
    | succ k =>
      obtain ⟨t, tl, rfl⟩ := HFI.out.ne
      cases hb : seesB t sg with
      | false =>
        obtain rfl : r = .ok acc (t :: tl) := by rw [HR2.out]; simp [someF, seesH_cons, hb, Res.pre]
        have CB := Lib.hid (skip_any pb lv t tl sg wr HPS.out false hb)
        go_wp2_with (first | (go_at_call 28; (with_reducible refine CB.out.mono ?_); rintro e w2 ⟨rfl, hp2, hs2⟩))
        go_ret
        obtain ⟨A', c', e1, g1, g2, g3⟩ := (HACC.out.par hp2 hlt).row (by omega)
        have hq := HQ.out
        subst hq
        injection e1 with e1 e2 e3
        subst e1; subst e3
        exact ⟨HPAR.out.trans hp2, ⟨_, _, rfl, g1, g2, by omega, g3⟩, hs2, HFI.out⟩
      | true =>
        have CB := Lib.hid (skip_any pb lv t tl sg wr HPS.out true hb)
        have HFT := Lib.hid (HFI.out.tail_ (seesB_kind hb))
        cases hrd : rd tl with
        | out => exact absurd (by rw [HR2.out]; simp [someF, seesH_cons, hb, hrd, Res.andThen, Res.pre]) HO.out
        | bad c' p =>
          obtain rfl : r = .bad c' p := by rw [HR2.out]; simp [someF, seesH_cons, hb, hrd, Res.andThen, Res.pre]
          have CR := Lib.hid (fun W2 (hs : PsAt W2 pb tl lv) => HRD.out pb tl W2 hs HFT.out _ hrd (by simp))
          go_wp2_with (first | (go_at_call 28; (with_reducible refine CB.out.mono ?_); rintro e w2 ⟨rfl, hp2, hs2⟩) | (go_at_call 50; (with_reducible refine (CR.out _ hs2).mono ?_); rintro e w3 ⟨hp3, rfl⟩))
          exact ⟨rfl, HPAR.out.trans (hp2.trans hp3), rfl⟩
        | ok a ts1 =>
          have CR := Lib.hid (fun W2 (hs : PsAt W2 pb tl lv) => HRD.out pb tl W2 hs HFT.out _ hrd (by simp))
          have HRD2 := Lib.hid (show r = (someF sg rd k ts1).pre (acc ++ [a]) by rw [HR2.out]; simp only [someF, seesH_cons, hb, List.tail_cons, hrd, Res.andThen, if_true]; cases someF sg rd k ts1 <;> simp [Res.pre])
          clear hrd hb
          go_wp2_with (first | (go_at_call 28; (with_reducible refine CB.out.mono ?_); rintro e w2 ⟨rfl, hp2, hs2⟩) | (go_at_call 50; (with_reducible refine (CR.out _ hs2).mono ?_); rintro e w3 ⟨hp3, ⟨cs, hlen, rfl, hty⟩, hs3, hf3⟩; (obtain ⟨x0, x1, x2, x3, x4, x5, x6, x7, x8, x9, x10, x11, x12, rfl⟩ := thirteen_of' hlen); (have s0 := store_one' x0 (bd_ones' hty x0 (by simp))); (have s1 := store_one' x1 (bd_ones' hty x1 (by simp))); (have s2 := store_one' x2 (bd_ones' hty x2 (by simp))); (have s3 := store_one' x3 (bd_ones' hty x3 (by simp))); (have s4 := store_one' x4 (bd_ones' hty x4 (by simp))); (have s5 := store_one' x5 (bd_ones' hty x5 (by simp))); (have s6 := store_one' x6 (bd_ones' hty x6 (by simp))); (have s7 := store_one' x7 (bd_ones' hty x7 (by simp))); (have s8 := store_one' x8 (bd_ones' hty x8 (by simp))); (have s9 := store_one' x9 (bd_ones' hty x9 (by simp))); (have s10 := store_one' x10 (bd_ones' hty x10 (by simp))); (have s11 := store_one' x11 (bd_ones' hty x11 (by simp))); (have s12 := store_one' x12 (bd_ones' hty x12 (by simp))); (have hac4 := ((HACC.out.par (hp2.trans hp3) hlt).below (pb := pb) (below_new' w3 (.cells #[x0, x1, x2, x3, x4, x5, x6, x7, x8, x9, x10, x11, x12] 97)) (by omega))); (obtain ⟨L, o1, o2, o3, o4⟩ := hac4.ex); (have o1q := o1); (rw [HQ.out] at o1q)) | (at_builtin; refine wpList_append_lies _ rfl (.tmp 16) (.tmp 19) 30 rfl W.heap.size 97 i0 (.agg #[.string ⟨#[]⟩, .int .i64 0, .string ⟨#[]⟩, .int .i64 0, .int .i64 0, .string ⟨#[]⟩, .int .i64 0, .slice none 0 0, .slice none 0 0, .slice none 0 0, .slice none 0 0, .int .i64 0, .int .i64 0]) 13 192 Tryd.underlying30 HI.out HZ0.out HZ1.out HZ2.out rfl (by decide) (.slice A q c) q L.flatten rfl o1q ⟨w3.heap.size, 0, none⟩ 1 1 [x0, x1, x2, x3, x4, x5, x6, x7, x8, x9, x10, x11, x12] rfl rfl (new_cells _ _) (bd_ones' hty) (by omega) (by have := HQ.out; unfold maxLen; omega) (by have := HQ.out; omega) (by have := hp3.size; have := hp2.size; simp; omega) (w3.heap.size + 1) (by simp) ?_))
          intro g cap w5 hown hgrow hlies hlt5
          have hq := HQ.out
          subst hq
          have hz2 := hp2.size
          have hz3 := hp3.size
          have HPW := Lib.hid ((HPAR.out.trans (hp2.trans hp3)).trans (Par.of_below (below_new' w3 (.cells #[x0, x1, x2, x3, x4, x5, x6, x7, x8, x9, x10, x11, x12] 97))))
          have hel : rBd.M (accX W.heap.size (.slice A acc.length c)) _ [x0, x1, x2, x3, x4, x5, x6, x7, x8, x9, x10, x11, x12] a := (hty.later (Low.of_below (below_new' w3 (.cells #[x0, x1, x2, x3, x4, x5, x6, x7, x8, x9, x10, x11, x12] 97)))).weaken (fun k _ hk => by
            unfold accX at hk
            simp only [Bool.or_eq_true, beq_iff_eq] at hk
            rcases hk with hk | hk
            · rw [lowX_iff] at hk ⊢; omega
            · obtain ⟨L0, p1, _⟩ := HACC.out.ex
              have := (p1.lt k hk.symm).2
              rw [lowX_iff]; omega)
          have hadd := AccAt.add (W' := w5) o1 o2 o3 o4 rfl hel hown hgrow (by rcases hlies with h5 | h5; exact .inl h5; right; rw [h5]; simp)
          have HPW5 := Lib.hid (Par.grown HPW.out hgrow (fun k hk => (o1.lt k hk).1))
          have HAD := Lib.hid hadd
          have HPS5 := Lib.hid ((hs3.later (below_new' w3 (.cells #[x0, x1, x2, x3, x4, x5, x6, x7, x8, x9, x10, x11, x12] 97))).grown hgrow (fun k hk => by have := (o1.lt k hk).1; omega))
          clear hadd hel hown hgrow hlies hac4 o1 o1q o2 o3 o4
          go_wp2_with fail
          go_roundw
          case rel => exact ⟨acc ++ [a], k, ts1, some ⟨g, 0, none⟩, acc.length + 1, cap, by simp, by simp, by simp; omega, HRD2.out, HAD.out, HPW5.out, HPS5.out, hf3⟩
          case measure => simp [sliceLen']; omega

end Go.Proofs.YtiiddmioafhmoaaDoor
