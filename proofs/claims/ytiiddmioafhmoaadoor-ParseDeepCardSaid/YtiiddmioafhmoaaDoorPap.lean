/- Walks: patterns with arguments. -/
import Derived.Test.YtiiddmioafhmoaaDoorPpt
import Derived.Deep.RegionHeld3
namespace Go.Proofs.YtiiddmioafhmoaaDoor
open Go.RowKit
set_option linter.unusedVariables false
set_option linter.unusedSimpArgs false
set_option maxRecDepth 100000

theorem seesPat_ok (lv : Nat) : BegOk 90 lv seesPatP := fun pb ts W h hf => by
  obtain ⟨t, tl, rfl⟩ := hf.ne
  exact seesPat_any pb lv t tl W h _ rfl
theorem apat_ok (P : Nat → List Tk → Res Pt) (HT : LvOk rPt 5 77 P) (lv : Nat) (hlv : lv ≤ 300) : RdOk rPt 5 88 lv (apatP P lv) := fun pb ts W h hf r hr ho => apat_any P HT pb lv ts W h hf hlv r hr ho
theorem pt_info : (Tryd.prog.info? 114).map (fun i => (i.zero, i.size, i.bytes)) = some (some (.agg #[.int .i64 0, .string ⟨#[]⟩, .int .i64 0, .slice none 0 0, .int .i64 0]), 5, 64) := by kernel_rfl
set_option maxHeartbeats 6400000 in
theorem many_pt (lv : Nat) (b : List Tk → Bool) (rd : List Tk → Res Pt) (HB : BegOk 90 lv b) (HR : RdOk rPt 5 88 lv rd) (m pb : Nat) (ts : List Tk) (W : World) (h : PsAt W pb ts lv) (hf : Fine ts) (hm : m ≤ 60002) (r : Res (List Pt)) (hr : manyF b rd m ts = r) (ho : r ≠ .out) :
    Calls Tryd.prog 89 #[.func (.func 90) #[.pointer (some ⟨pb, 0, none⟩)] #[], .func (.func 88) #[.pointer (some ⟨pb, 0, none⟩)] #[]] W (RowPost pb lv 5 rPt r W) := by
  obtain ⟨i0, hi, hz0, hz1, hz2⟩ := info_parts pt_info
  have HI := Lib.hid hi
  have HZ0 := Lib.hid hz0
  have HZ1 := Lib.hid hz1
  have HZ2 := Lib.hid hz2
  have hlt := h.lt
  have HH := Lib.hid h
  have HF := Lib.hid hf
  have HRR := Lib.hid hr
  have HO := Lib.hid ho
  have HBB := Lib.hid HB
  have HRD := Lib.hid HR
  clear h hf hr ho HB HR hi hz0 hz1 hz2
  go_enter Tryd.func89, Tryd.ntmps89
  go_wp2_with fail
  go_loopw [5] (fun v wr => ∃ (acc : List Pt) (mm : Nat) (ts' : List Tk) (A : Option Addr) (q c : Nat), v = .slice A q c ∧ acc.length = q ∧ acc.length + mm = m ∧ r = (manyF b rd mm ts').pre acc ∧ AccAt rPt 5 114 W.heap.size wr v acc ∧ Par pb W wr ∧ PsAt wr pb ts' lv ∧ Fine ts') (fun v _ => m + 1 - sliceLen' v)
  case atStart => exact ⟨[], m, ts, none, 0, 0, rfl, rfl, by simp, by rw [HRR.out]; cases r <;> rfl, AccAt.nil_, Chg.refl _ _, HH.out, HF.out⟩
  case round =>
    obtain ⟨acc, mm, ts', A, q, c, rfl, hq, hmm, hrr, hacc, hpar, hps, hfi⟩ := hrel
    have HACC := Lib.hid hacc
    have HPAR := Lib.hid hpar
    have HPS := Lib.hid hps
    have HFI := Lib.hid hfi
    have HR2 := Lib.hid hrr
    have HQ := Lib.hid hq
    clear hacc hpar hps hfi hrr
    have hwz : W.heap.size ≤ wr.heap.size := HPAR.out.size
    cases mm with
    | zero => exact absurd (by rw [HR2.out]; rfl) HO.out
    | succ k =>
      have CB := Lib.hid (HBB.out pb ts' wr HPS.out HFI.out)
      cases hb : b ts' with
      | false =>
        obtain rfl : r = .ok acc ts' := by rw [HR2.out]; simp [manyF, hb, Res.pre]
        rw [hb] at CB
        go_wp2_with (first | (go_at_call 90; (with_reducible refine CB.out.mono ?_); rintro e w2 ⟨rfl, hb2⟩))
        go_ret
        obtain ⟨A', c', e1, g1, g2, g3⟩ := (HACC.out.par (Par.of_below hb2) hlt).row (by omega)
        have hq := HQ.out
        subst hq
        injection e1 with e1 e2 e3
        subst e1; subst e3
        exact ⟨HPAR.out.trans (Par.of_below hb2), ⟨_, _, rfl, g1, g2, by omega, g3⟩, HPS.out.later hb2, HFI.out⟩
      | true =>
        rw [hb] at CB
        cases hrd : rd ts' with
        | out => exact absurd (by rw [HR2.out]; simp [manyF, hb, hrd, Res.andThen, Res.pre]) HO.out
        | bad c' p =>
          obtain rfl : r = .bad c' p := by rw [HR2.out]; simp [manyF, hb, hrd, Res.andThen, Res.pre]
          have CR := Lib.hid (fun W2 (hb2 : Below wr.heap.size wr W2) => HRD.out pb ts' W2 (HPS.out.later hb2) HFI.out _ hrd (by simp))
          go_wp2_with (first | (go_at_call 90; (with_reducible refine CB.out.mono ?_); rintro e w2 ⟨rfl, hb2⟩) | (go_at_call 88; (with_reducible refine (CR.out _ hb2).mono ?_); rintro e w3 ⟨hp3, rfl⟩))
          exact ⟨rfl, HPAR.out.trans ((Par.of_below hb2).trans hp3), rfl⟩
        | ok a ts1 =>
          have CR := Lib.hid (fun W2 (hb2 : Below wr.heap.size wr W2) => HRD.out pb ts' W2 (HPS.out.later hb2) HFI.out _ hrd (by simp))
          have HRD2 := Lib.hid (show r = (manyF b rd k ts1).pre (acc ++ [a]) by rw [HR2.out]; simp only [manyF, hb, hrd, Res.andThen, if_true]; cases manyF b rd k ts1 <;> simp [Res.pre])
          clear hrd hb
          go_wp2_with (first | (go_at_call 90; (with_reducible refine CB.out.mono ?_); rintro e w2 ⟨rfl, hb2⟩) | (go_at_call 88; (with_reducible refine (CR.out _ hb2).mono ?_); rintro e w3 ⟨hp3, ⟨cs, hlen, rfl, hty⟩, hs3, hf3⟩; (obtain ⟨x0, x1, x2, x3, x4, rfl⟩ := five_of hlen); (have s0 := store_one' x0 (pt_ones' hty x0 (by simp))); (have s1 := store_one' x1 (pt_ones' hty x1 (by simp))); (have s2 := store_one' x2 (pt_ones' hty x2 (by simp))); (have s3 := store_one' x3 (pt_ones' hty x3 (by simp))); (have s4 := store_one' x4 (pt_ones' hty x4 (by simp))); (have hac4 := ((HACC.out.par ((Par.of_below hb2).trans hp3) hlt).below (pb := pb) (below_new' w3 (.cells #[x0, x1, x2, x3, x4] 114)) (by omega))); (obtain ⟨L, o1, o2, o3, o4⟩ := hac4.ex); (have o1q := o1); (rw [HQ.out] at o1q)) | (at_builtin; refine wpList_append_lies _ rfl (.tmp 8) (.tmp 11) 112 rfl W.heap.size 114 i0 (.agg #[.int .i64 0, .string ⟨#[]⟩, .int .i64 0, .slice none 0 0, .int .i64 0]) 5 64 Tryd.underlying112 HI.out HZ0.out HZ1.out HZ2.out rfl (by decide) (.slice A q c) q L.flatten rfl o1q ⟨w3.heap.size, 0, none⟩ 1 1 [x0, x1, x2, x3, x4] rfl rfl (new_cells _ _) (pt_ones' hty) (by omega) (by have := HQ.out; unfold maxLen; omega) (by have := HQ.out; omega) (by have := hp3.size; have := hb2.size; simp; omega) (w3.heap.size + 1) (by simp) ?_))
          intro g cap w5 hown hgrow hlies hlt5
          have hq := HQ.out
          subst hq
          have hz2 := hb2.size
          have hz3 := hp3.size
          have HPW := Lib.hid ((HPAR.out.trans ((Par.of_below hb2).trans hp3)).trans (Par.of_below (below_new' w3 (.cells #[x0, x1, x2, x3, x4] 114))))
          have hel : rPt.M (accX W.heap.size (.slice A acc.length c)) _ [x0, x1, x2, x3, x4] a := (hty.later (Low.of_below (below_new' w3 (.cells #[x0, x1, x2, x3, x4] 114)))).weaken (fun k _ hk => by
            unfold accX at hk
            simp only [Bool.or_eq_true, beq_iff_eq] at hk
            rcases hk with hk | hk
            · rw [lowX_iff] at hk ⊢; omega
            · obtain ⟨L0, p1, _⟩ := HACC.out.ex
              have := (p1.lt k hk.symm).2
              rw [lowX_iff]; omega)
          have hadd := AccAt.add (W' := w5) o1 o2 o3 o4 rfl hel hown hgrow (by rcases hlies with h5 | h5; exact .inl h5; right; rw [h5]; simp)
          have HPW5 := Lib.hid (Par.grown HPW.out hgrow (fun k hk => (o1.lt k hk).1))
          have HAD := Lib.hid hadd
          have HPS5 := Lib.hid ((hs3.later (below_new' w3 (.cells #[x0, x1, x2, x3, x4] 114))).grown hgrow (fun k hk => by have := (o1.lt k hk).1; omega))
          clear hadd hel hown hgrow hlies hac4 o1 o1q o2 o3 o4
          go_wp2_with fail
          go_roundw
          case rel => exact ⟨acc ++ [a], k, ts1, some ⟨g, 0, none⟩, acc.length + 1, cap, by simp, by simp, by simp; omega, HRD2.out, HAD.out, HPW5.out, HPS5.out, hf3⟩
          case measure => simp [sliceLen']; omega
theorem cell_far5 {w : World} {g : Nat} {p : Addr} {u : Value} (h : w.cell? p = some u) (hne : p.block ≠ g) (y0 y1 y2 y3 y4 : Value) : ((((((w).setCell ⟨g, 0, none⟩ y0).setCell ⟨g, 1, none⟩ y1).setCell ⟨g, 2, none⟩ y2).setCell ⟨g, 3, none⟩ y3).setCell ⟨g, 4, none⟩ y4).cell? p = some u := by
  rw [World.cell?_of_block (w := w) (by rw [Below.heap_setCell _ ⟨g, 4, none⟩ _ _ hne, Below.heap_setCell _ ⟨g, 3, none⟩ _ _ hne, Below.heap_setCell _ ⟨g, 2, none⟩ _ _ hne, Below.heap_setCell _ ⟨g, 1, none⟩ _ _ hne, Below.heap_setCell _ ⟨g, 0, none⟩ _ _ hne])]; exact h

set_option maxHeartbeats 3200000 in
theorem appl_any (P : Nat → List Tk → Res Pt) (HT : LvOk rPt 5 77 P) (pb lv : Nat) (ts : List Tk) (W : World) (h : PsAt W pb ts lv) (hf : Fine ts) (hlv : lv ≤ 300) (r : Res Pt) (hr : applP P lv ts = r) (ho : r ≠ .out) :
    Calls Tryd.prog 83 #[.pointer (some ⟨pb, 0, none⟩)] W (PaPost pb lv 5 rPt r W) := by
  obtain ⟨t, tl, rfl⟩ := hf.ne
  obtain ⟨W1, hW1⟩ : ∃ W1, W.alloc (.cells #[.int .i64 0, .string ⟨#[]⟩, .int .i64 0, .slice none 0 0, .int .i64 0] 114) = W1 := ⟨_, rfl⟩
  have hnew : Below W.heap.size W W1 := by rw [← hW1]; exact (Below.refl _ _).alloc (Nat.le_refl _) _
  have hres : Blk W1 W.heap.size 114 #[.int .i64 0, .string ⟨#[]⟩, .int .i64 0, .slice none 0 0, .int .i64 0] := by rw [← hW1]; exact Blk.new _ _ _
  have hs1 := h.later hnew
  have hlt := h.lt
  have hsz : W1.heap.size = W.heap.size + 1 := by rw [← hW1]; simp
  have HW1 := Lib.hid hW1
  have HN := Lib.hid hnew
  have HRS := Lib.hid hres
  have HS1 := Lib.hid hs1
  have HSZ := Lib.hid hsz
  have hp1 : Par pb W1 W1 := Chg.refl _ _
  clear hW1 hnew hres hs1 hsz h
  have HF := Lib.hid hf
  have HR := Lib.hid hr
  have HO := Lib.hid ho
  have hgood := hf.good t (by simp)
  have HSIZE := Lib.hid (show (⟨t.text.toArray⟩ : ByteArray).size ≤ 60000 by simpa [ByteArray.size] using hgood.1)
  have HPOS := Lib.hid (show ok64 (t.pos : Int) from ok_lit _ (by omega) (by have := hgood.2.2; omega))
  clear hf hr ho hgood
  have CA := Lib.hid (ahead_any pb lv t tl W1 HS1.out)
  have hf0 := field_tk0
  have hmf : ∀ w : World, (Instr.makeFunc (.func 90) #[.pointer (some ⟨pb, 0, none⟩)] #[]).run Tryd.prog w = .ok (.func (.func 90) #[.pointer (some ⟨pb, 0, none⟩)] #[]) w := fun _ => rfl
  have hmg : ∀ w : World, (Instr.makeFunc (.func 88) #[.pointer (some ⟨pb, 0, none⟩)] #[]).run Tryd.prog w = .ok (.func (.func 88) #[.pointer (some ⟨pb, 0, none⟩)] #[]) w := fun _ => rfl
  by_cases h2 : t.kind = 2
  · have d2 : (t.kind != 2) = false := by simpa using h2
    have hrest : restT (t :: tl) = tl := by simp [restT, h2]
    have CT := Lib.hid (fun W2 (hs : PsAt W2 pb (t :: tl) lv) => take_any pb lv t tl W2 hs)
    have HF2 := Lib.hid (HF.out.tail_ (show t.kind ≠ 0 by omega))
    rw [hrest] at CT
    have hlen : tl.length + 1 ≤ 60002 := by have := HF.out.len; simp at this; omega
    have hre : applP P lv (t :: tl) = (manyP seesPatP (apatP P lv) tl).andThen fun l ts' => .ok (.mk 3 ⟨t.text.toArray⟩ 0 l t.pos) ts' := by unfold applP; simp [kindH_cons, h2, headT_cons, posH_cons, bytesOf, hrest]
    rw [hre] at HR
    cases hM : manyP seesPatP (apatP P lv) tl with
    | out => exact absurd (by rw [← HR.out, hM]; rfl) HO.out
    | bad c p =>
      obtain rfl : r = .bad c p := by rw [← HR.out, hM]; rfl
      have C3 := Lib.hid (fun W2 (hs : PsAt W2 pb tl lv) => many_pt lv seesPatP (apatP P lv) (seesPat_ok lv) (apat_ok P HT lv hlv) _ pb tl W2 hs HF2.out hlen _ hM (by simp))
      clear h2 hrest hre hM hlen
      go_enter Tryd.func83, Tryd.ntmps83
      go_upto_region 1 with fail
      rw [HW1.out]
      go_upto_region 4 with (first | (go_at_call 16; (with_reducible refine CA.out.mono ?_); rintro e w2 ⟨rfl, hb2⟩; rw [tk_cells]; (have hpw2 : Par pb W1 w2 := Par.of_below hb2); (have hsw2 := HS1.out.later hb2)) | (go_at_call 18; (with_reducible refine (CT.out _ hsw2).mono ?_); rintro e w3 ⟨rfl, hp3, hsw3⟩; rw [tk_cells]; (have hpw3 : Par pb W1 w3 := hpw2.trans hp3)))
      obtain ⟨w4, hw4⟩ : ∃ w4, w3.alloc (.cells #[.int .i64 t.kind, .string ⟨t.text.toArray⟩, .int .i64 t.num, .int .i64 t.pos] 52) = w4 := ⟨_, rfl⟩
      have hb4 : Below w3.heap.size w3 w4 := by rw [← hw4]; exact below_new' _ _
      have hx4 : Blk w4 w3.heap.size 52 #[.int .i64 t.kind, .string ⟨t.text.toArray⟩, .int .i64 t.num, .int .i64 t.pos] := by rw [← hw4]; exact Blk.new _ _ _
      rw [hw4]
      have hpw4 : Par pb W1 w4 := hpw3.trans (Par.of_below hb4)
      have hsw4 := hsw3.later hb4
      have hlt3 := hsw3.lt
      have k1 := hx4.cell 1
      have k3 := hx4.cell 3
      simp only [List.getElem?_toArray, List.getElem?_cons_succ, List.getElem?_cons_zero] at k1 k3
      clear hw4
      have hS0 : w4.drew.cell? ⟨w3.heap.size, 1, none⟩ = some (.string ⟨t.text.toArray⟩) ∧ w4.drew.cell? ⟨w3.heap.size, 3, none⟩ = some (.int .i64 t.pos) := ⟨k1, k3⟩
      refine wp_region_held_drew (S := fun w' => w'.cell? ⟨w3.heap.size, 1, none⟩ = some (.string ⟨t.text.toArray⟩) ∧ w'.cell? ⟨w3.heap.size, 3, none⟩ = some (.int .i64 t.pos)) (by kernel_rfl) hS0 (fun hHeld => ?_)
      refine takeH' (i := 0) (d := 16) (v := .pointer (some ⟨w3.heap.size, 1, none⟩)) rfl (by kernel_rfl) (by kernel_rfl) (by kernel_rfl) (fun _ _ _ h => h) (Or.inl ⟨by rfl, fun w' hS' => by obtain ⟨q0, q1⟩ := hS'; first | rfl | go_simp⟩) hHeld rfl ?_
      try simp only [Act.put, List.setIfInBounds_toArray, List.set_cons_zero, List.set_cons_succ]
      refine takeH' (i := 1) (d := 17) (v := .string ⟨t.text.toArray⟩) rfl (by kernel_rfl) (by kernel_rfl) (by kernel_rfl) (fun _ _ _ h => h) (Or.inl ⟨by rfl, fun w' hS' => by obtain ⟨q0, q1⟩ := hS'; first | rfl | go_simp⟩) hHeld rfl ?_
      try simp only [Act.put, List.setIfInBounds_toArray, List.set_cons_zero, List.set_cons_succ]
      refine takeH' (i := 2) (d := 18) (v := .pointer (some ⟨pb, 0, none⟩)) rfl (by kernel_rfl) (by kernel_rfl) (by kernel_rfl) (fun _ _ _ h => h) (Or.inl ⟨by rfl, fun w' hS' => by obtain ⟨q0, q1⟩ := hS'; first | rfl | go_simp⟩) hHeld rfl ?_
      try simp only [Act.put, List.setIfInBounds_toArray, List.set_cons_zero, List.set_cons_succ]
      refine takeH' (i := 3) (d := 19) (v := .func (.func 90) #[.pointer (some ⟨pb, 0, none⟩)] #[]) rfl (by kernel_rfl) (by kernel_rfl) (by kernel_rfl) (fun _ _ _ h => h) (Or.inl ⟨by rfl, fun w' hS' => by obtain ⟨q0, q1⟩ := hS'; first | rfl | go_simp⟩) hHeld rfl ?_
      try simp only [Act.put, List.setIfInBounds_toArray, List.set_cons_zero, List.set_cons_succ]
      refine takeH' (i := 4) (d := 20) (v := .pointer (some ⟨pb, 0, none⟩)) rfl (by kernel_rfl) (by kernel_rfl) (by kernel_rfl) (fun _ _ _ h => h) (Or.inl ⟨by rfl, fun w' hS' => by obtain ⟨q0, q1⟩ := hS'; first | rfl | go_simp⟩) hHeld rfl ?_
      try simp only [Act.put, List.setIfInBounds_toArray, List.set_cons_zero, List.set_cons_succ]
      refine takeH' (i := 5) (d := 21) (v := .func (.func 88) #[.pointer (some ⟨pb, 0, none⟩)] #[]) rfl (by kernel_rfl) (by kernel_rfl) (by kernel_rfl) (fun _ _ _ h => h) (Or.inl ⟨by rfl, fun w' hS' => by obtain ⟨q0, q1⟩ := hS'; first | rfl | go_simp⟩) hHeld rfl ?_
      try simp only [Act.put, List.setIfInBounds_toArray, List.set_cons_zero, List.set_cons_succ]
      refine takeH' (i := 7) (d := 23) (v := .pointer (some ⟨w3.heap.size, 3, none⟩)) rfl (by kernel_rfl) (by kernel_rfl) (by kernel_rfl) (fun _ _ _ h => h) (Or.inl ⟨by rfl, fun w' hS' => by obtain ⟨q0, q1⟩ := hS'; first | rfl | go_simp⟩) hHeld rfl ?_
      try simp only [Act.put, List.setIfInBounds_toArray, List.set_cons_zero, List.set_cons_succ]
      refine takeH' (i := 8) (d := 24) (v := .int .i64 t.pos) rfl (by kernel_rfl) (by kernel_rfl) (by kernel_rfl) (fun _ _ _ h => h) (Or.inl ⟨by rfl, fun w' hS' => by obtain ⟨q0, q1⟩ := hS'; first | rfl | go_simp⟩) hHeld rfl ?_
      try simp only [Act.put, List.setIfInBounds_toArray, List.set_cons_zero, List.set_cons_succ]
      refine wpAnyH_ready (rs := [6]) (by kernel_rfl) (by simp) ?_
      refine AllReadyH.cons rfl (fun K hK => ?_) AllReadyH.nil
      try go_simp
      refine (C3.out _ hsw4.drew_).mono ?_
      rintro e w5 ⟨hp5, rfl⟩
      exact ⟨rfl, (Par.of_below HN.out).trans (hpw4.trans (Par.drew_ hp5)), rfl⟩
    | ok l ts2 =>
      obtain rfl : r = .ok (.mk 3 ⟨t.text.toArray⟩ 0 l t.pos) ts2 := by rw [← HR.out, hM]; rfl
      have C3 := Lib.hid (fun W2 (hs : PsAt W2 pb tl lv) => many_pt lv seesPatP (apatP P lv) (seesPat_ok lv) (apat_ok P HT lv hlv) _ pb tl W2 hs HF2.out hlen _ hM (by simp))
      clear h2 hrest hre hM hlen
      go_enter Tryd.func83, Tryd.ntmps83
      go_upto_region 1 with fail
      rw [HW1.out]
      go_upto_region 4 with (first | (go_at_call 16; (with_reducible refine CA.out.mono ?_); rintro e w2 ⟨rfl, hb2⟩; rw [tk_cells]; (have hpw2 : Par pb W1 w2 := Par.of_below hb2); (have hsw2 := HS1.out.later hb2)) | (go_at_call 18; (with_reducible refine (CT.out _ hsw2).mono ?_); rintro e w3 ⟨rfl, hp3, hsw3⟩; rw [tk_cells]; (have hpw3 : Par pb W1 w3 := hpw2.trans hp3)))
      obtain ⟨w4, hw4⟩ : ∃ w4, w3.alloc (.cells #[.int .i64 t.kind, .string ⟨t.text.toArray⟩, .int .i64 t.num, .int .i64 t.pos] 52) = w4 := ⟨_, rfl⟩
      have hb4 : Below w3.heap.size w3 w4 := by rw [← hw4]; exact below_new' _ _
      have hx4 : Blk w4 w3.heap.size 52 #[.int .i64 t.kind, .string ⟨t.text.toArray⟩, .int .i64 t.num, .int .i64 t.pos] := by rw [← hw4]; exact Blk.new _ _ _
      rw [hw4]
      have hpw4 : Par pb W1 w4 := hpw3.trans (Par.of_below hb4)
      have hsw4 := hsw3.later hb4
      have hlt3 := hsw3.lt
      have k1 := hx4.cell 1
      have k3 := hx4.cell 3
      simp only [List.getElem?_toArray, List.getElem?_cons_succ, List.getElem?_cons_zero] at k1 k3
      clear hw4
      have hzz : W.heap.size < w3.heap.size := by have := hpw3.size; have := HSZ.out; omega
      have hS0 : w4.drew.cell? ⟨w3.heap.size, 1, none⟩ = some (.string ⟨t.text.toArray⟩) ∧ w4.drew.cell? ⟨w3.heap.size, 3, none⟩ = some (.int .i64 t.pos) := ⟨k1, k3⟩
      refine wp_region_held_drew (S := fun w' => w'.cell? ⟨w3.heap.size, 1, none⟩ = some (.string ⟨t.text.toArray⟩) ∧ w'.cell? ⟨w3.heap.size, 3, none⟩ = some (.int .i64 t.pos)) (by kernel_rfl) hS0 (fun hHeld => ?_)
      refine takeH' (i := 0) (d := 16) (v := .pointer (some ⟨w3.heap.size, 1, none⟩)) rfl (by kernel_rfl) (by kernel_rfl) (by kernel_rfl) (fun _ _ _ h => h) (Or.inl ⟨by rfl, fun w' hS' => by obtain ⟨q0, q1⟩ := hS'; first | rfl | go_simp⟩) hHeld rfl ?_
      try simp only [Act.put, List.setIfInBounds_toArray, List.set_cons_zero, List.set_cons_succ]
      refine takeH' (i := 1) (d := 17) (v := .string ⟨t.text.toArray⟩) rfl (by kernel_rfl) (by kernel_rfl) (by kernel_rfl) (fun _ _ _ h => h) (Or.inl ⟨by rfl, fun w' hS' => by obtain ⟨q0, q1⟩ := hS'; first | rfl | go_simp⟩) hHeld rfl ?_
      try simp only [Act.put, List.setIfInBounds_toArray, List.set_cons_zero, List.set_cons_succ]
      refine takeH' (i := 2) (d := 18) (v := .pointer (some ⟨pb, 0, none⟩)) rfl (by kernel_rfl) (by kernel_rfl) (by kernel_rfl) (fun _ _ _ h => h) (Or.inl ⟨by rfl, fun w' hS' => by obtain ⟨q0, q1⟩ := hS'; first | rfl | go_simp⟩) hHeld rfl ?_
      try simp only [Act.put, List.setIfInBounds_toArray, List.set_cons_zero, List.set_cons_succ]
      refine takeH' (i := 3) (d := 19) (v := .func (.func 90) #[.pointer (some ⟨pb, 0, none⟩)] #[]) rfl (by kernel_rfl) (by kernel_rfl) (by kernel_rfl) (fun _ _ _ h => h) (Or.inl ⟨by rfl, fun w' hS' => by obtain ⟨q0, q1⟩ := hS'; first | rfl | go_simp⟩) hHeld rfl ?_
      try simp only [Act.put, List.setIfInBounds_toArray, List.set_cons_zero, List.set_cons_succ]
      refine takeH' (i := 4) (d := 20) (v := .pointer (some ⟨pb, 0, none⟩)) rfl (by kernel_rfl) (by kernel_rfl) (by kernel_rfl) (fun _ _ _ h => h) (Or.inl ⟨by rfl, fun w' hS' => by obtain ⟨q0, q1⟩ := hS'; first | rfl | go_simp⟩) hHeld rfl ?_
      try simp only [Act.put, List.setIfInBounds_toArray, List.set_cons_zero, List.set_cons_succ]
      refine takeH' (i := 5) (d := 21) (v := .func (.func 88) #[.pointer (some ⟨pb, 0, none⟩)] #[]) rfl (by kernel_rfl) (by kernel_rfl) (by kernel_rfl) (fun _ _ _ h => h) (Or.inl ⟨by rfl, fun w' hS' => by obtain ⟨q0, q1⟩ := hS'; first | rfl | go_simp⟩) hHeld rfl ?_
      try simp only [Act.put, List.setIfInBounds_toArray, List.set_cons_zero, List.set_cons_succ]
      refine takeH' (i := 7) (d := 23) (v := .pointer (some ⟨w3.heap.size, 3, none⟩)) rfl (by kernel_rfl) (by kernel_rfl) (by kernel_rfl) (fun _ _ _ h => h) (Or.inl ⟨by rfl, fun w' hS' => by obtain ⟨q0, q1⟩ := hS'; first | rfl | go_simp⟩) hHeld rfl ?_
      try simp only [Act.put, List.setIfInBounds_toArray, List.set_cons_zero, List.set_cons_succ]
      refine takeH' (i := 8) (d := 24) (v := .int .i64 t.pos) rfl (by kernel_rfl) (by kernel_rfl) (by kernel_rfl) (fun _ _ _ h => h) (Or.inl ⟨by rfl, fun w' hS' => by obtain ⟨q0, q1⟩ := hS'; first | rfl | go_simp⟩) hHeld rfl ?_
      try simp only [Act.put, List.setIfInBounds_toArray, List.set_cons_zero, List.set_cons_succ]
      refine wpAnyH_ready (rs := [6]) (by kernel_rfl) (by simp) ?_
      refine AllReadyH.cons rfl (fun K hK => ?_) AllReadyH.nil
      try go_simp
      (go_at_call 89; (with_reducible refine (C3.out _ (by first | exact hsw4.drew_ | exact hsw4)).mono ?_); rintro e w5 ⟨hp5, ⟨A5, c5, rfl, g1, g2, g3, hrow⟩, hsw5, hf5⟩; (have hp5' := Par.drew_ hp5); (obtain ⟨q, hq⟩ : ∃ q, l.length = q := ⟨_, rfl⟩); rw [hq]; (have hx5 : Blk w5 w3.heap.size 52 #[.int .i64 t.kind, .string ⟨t.text.toArray⟩, .int .i64 t.num, .int .i64 t.pos] := (hp5'.block _ hx4.lt (by omega)).trans hx4); (have y1 := hx5.cell 1); (have y3 := hx5.cell 3); (simp only [List.getElem?_toArray, List.getElem?_cons_succ, List.getElem?_cons_zero] at y1 y3); (have hpw5 : Par pb W1 w5 := hpw4.trans hp5'); (have hBw5 : Blk w5 W.heap.size 114 #[.int .i64 0, .string ⟨#[]⟩, .int .i64 0, .slice none 0 0, .int .i64 0] := (hpw5.block _ HRS.out.lt (by omega : ¬ W.heap.size = pb)).trans HRS.out); (have r0w5 := hBw5.cell 0); (have r1w5 := hBw5.cell 1); (have r2w5 := hBw5.cell 2); (have r3w5 := hBw5.cell 3); (have r4w5 := hBw5.cell 4); (simp only [List.getElem?_toArray, List.getElem?_cons_succ, List.getElem?_cons_zero] at r0w5 r1w5 r2w5 r3w5 r4w5); (have f0w5 := hBw5.frozen 0); (have f1w5 := hBw5.frozen 1); (have f2w5 := hBw5.frozen 2); (have f3w5 := hBw5.frozen 3); (have f4w5 := hBw5.frozen 4))
      refine hK.out _ _ ⟨y1, y3⟩ (fun hHeld => ?_)
      clear hK K
      try simp only [Act.put, List.setIfInBounds_toArray, List.set_cons_zero, List.set_cons_succ]
      refine takeH' (i := 9) (d := 25) (v := .agg #[.int .i64 3, .string ⟨t.text.toArray⟩, .int .i64 0, .slice A5 q c5, .int .i64 t.pos]) rfl (by kernel_rfl) (by kernel_rfl) (by kernel_rfl) (fun _ _ _ h => h) (Or.inl ⟨by rfl, fun w' hS' => by obtain ⟨q0, q1⟩ := hS'; first | rfl | go_simp⟩) hHeld rfl ?_
      try simp only [Act.put, List.setIfInBounds_toArray, List.set_cons_zero, List.set_cons_succ]
      refine wpAnyH_ready (rs := [10]) (by kernel_rfl) (by simp) ?_
      refine AllReadyH.cons rfl (fun K hK => ?_) AllReadyH.nil
      go_simp
      refine hK.out _ _ ⟨cell_far5 y1 (by show w3.heap.size ≠ W.heap.size; omega) _ _ _ _ _, cell_far5 y3 (by show w3.heap.size ≠ W.heap.size; omega) _ _ _ _ _⟩ (fun hHeld => ?_)
      clear hK K
      try simp only [Act.put, List.setIfInBounds_toArray, List.set_cons_zero, List.set_cons_succ]
      refine wpAnyH_done (by kernel_rfl) ?_ _
      go_wp2_with fail
      subst hq
      have hz4 := hpw4.size
      have hsz := HSZ.out
      have hty : rPt.M (lowX (W.heap.size + 1)) w5 [.int .i64 3, .string ⟨t.text.toArray⟩, .int .i64 0, .slice A5 l.length c5, .int .i64 t.pos] (.mk 3 ⟨t.text.toArray⟩ 0 l t.pos) := PtM.mk_ (ok_lit _ (by omega) (by omega)) HSIZE.out (ok_lit _ (by omega) (by omega)) g1 g2 g3 HPOS.out (hrow.weaken fun k _ hk => by have h9 : w4.drew.heap.size = w4.heap.size := rfl; rw [lowX_iff] at hk ⊢; omega)
      obtain ⟨w9, hw9⟩ : ∃ w9, (((((w5).setCell ⟨W.heap.size, 0, none⟩ (.int .i64 3)).setCell ⟨W.heap.size, 1, none⟩ (.string ⟨t.text.toArray⟩)).setCell ⟨W.heap.size, 2, none⟩ (.int .i64 0)).setCell ⟨W.heap.size, 3, none⟩ (.slice A5 l.length c5)).setCell ⟨W.heap.size, 4, none⟩ (.int .i64 t.pos) = w9 := ⟨_, rfl⟩
      have hPW := (Par.of_below (pb := pb) HN.out).trans hpw5
      have hB9 := set5 hBw5 (.int .i64 3) (.string ⟨t.text.toArray⟩) (.int .i64 0) (.slice A5 l.length c5) (.int .i64 t.pos)
      have hb9 := Par.set5 hPW (Nat.le_refl _) (.int .i64 3) (.string ⟨t.text.toArray⟩) (.int .i64 0) (.slice A5 l.length c5) (.int .i64 t.pos)
      have hS9 := PsAt.set5 hsw5 (g := W.heap.size) hlt (.int .i64 3) (.string ⟨t.text.toArray⟩) (.int .i64 0) (.slice A5 l.length c5) (.int .i64 t.pos)
      have hL9 : Low (lowX (W.heap.size + 1)) w5 _ := Low.set5 (Chg.refl _ _) (.inl (lowX_self _)) (.int .i64 3) (.string ⟨t.text.toArray⟩) (.int .i64 0) (.slice A5 l.length c5) (.int .i64 t.pos)
      rw [hw9] at hB9 hb9 hS9 hL9 ⊢
      have d0 := hB9.cell 0
      have d1 := hB9.cell 1
      have d2 := hB9.cell 2
      have d3 := hB9.cell 3
      have d4 := hB9.cell 4
      simp only [List.getElem?_toArray, List.getElem?_cons_succ, List.getElem?_cons_zero] at d0 d1 d2 d3 d4
      exact bodyPost_ret (v := .agg #[.int .i64 3, .string ⟨t.text.toArray⟩, .int .i64 0, .slice A5 l.length c5, .int .i64 t.pos]) (by simp [results, Tryd.results83, go_sem, d0, d1, d2, d3, d4]) rfl ⟨hb9, ⟨[.int .i64 3, .string ⟨t.text.toArray⟩, .int .i64 0, .slice A5 l.length c5, .int .i64 t.pos], rfl, rfl, (hty.later hL9).wk (by omega)⟩, hS9, hf5⟩
  · have d2 : (t.kind != 2) = true := by simpa using h2
    have hre : applP P lv (t :: tl) = apatP P lv (t :: tl) := by unfold applP; simp [kindH_cons, h2]
    rw [hre] at HR
    have C2 := Lib.hid (fun W2 (hs : PsAt W2 pb (t :: tl) lv) => apat_any P HT pb lv (t :: tl) W2 hs HF.out hlv r HR.out HO.out)
    clear h2 hre
    cases r with
    | out => exact absurd rfl HO.out
    | bad c p =>
      go_enter Tryd.func83, Tryd.ntmps83
      go_upto_region 1 with fail
      rw [HW1.out]
      go_wp2_with (first | (go_at_call 16; (with_reducible refine CA.out.mono ?_); rintro e w2 ⟨rfl, hb2⟩; rw [tk_cells]; (have hpw2 : Par pb W1 w2 := Par.of_below hb2); (have hsw2 := HS1.out.later hb2)) | (go_at_call 88; (with_reducible refine (C2.out _ hsw2).mono ?_); rintro e w3 ⟨hp3, rfl⟩))
      exact ⟨rfl, (Par.of_below HN.out).trans (hpw2.trans hp3), rfl⟩
    | ok x ts2 =>
      go_enter Tryd.func83, Tryd.ntmps83
      go_upto_region 1 with fail
      rw [HW1.out]
      go_wp2_with (first | (go_at_call 16; (with_reducible refine CA.out.mono ?_); rintro e w2 ⟨rfl, hb2⟩; rw [tk_cells]; (have hpw2 : Par pb W1 w2 := Par.of_below hb2); (have hsw2 := HS1.out.later hb2)) | (go_at_call 88; (with_reducible refine (C2.out _ hsw2).mono ?_); rintro e w3 ⟨hp3, ⟨cs, hlen, rfl, hty⟩, hsw3, hf3⟩; (obtain ⟨x0, x1, x2, x3, x4, rfl⟩ := five_of hlen); (have s0 := store_one' x0 (pt_ones' hty x0 (by simp))); (have s1 := store_one' x1 (pt_ones' hty x1 (by simp))); (have s2 := store_one' x2 (pt_ones' hty x2 (by simp))); (have s3 := store_one' x3 (pt_ones' hty x3 (by simp))); (have s4 := store_one' x4 (pt_ones' hty x4 (by simp))); (have hpw3 : Par pb W1 w3 := hpw2.trans hp3); (have hBw3 : Blk w3 W.heap.size 114 #[.int .i64 0, .string ⟨#[]⟩, .int .i64 0, .slice none 0 0, .int .i64 0] := (hpw3.block _ HRS.out.lt (by omega : ¬ W.heap.size = pb)).trans HRS.out); (have r0w3 := hBw3.cell 0); (have r1w3 := hBw3.cell 1); (have r2w3 := hBw3.cell 2); (have r3w3 := hBw3.cell 3); (have r4w3 := hBw3.cell 4); (simp only [List.getElem?_toArray, List.getElem?_cons_succ, List.getElem?_cons_zero] at r0w3 r1w3 r2w3 r3w3 r4w3); (have f0w3 := hBw3.frozen 0); (have f1w3 := hBw3.frozen 1); (have f2w3 := hBw3.frozen 2); (have f3w3 := hBw3.frozen 3); (have f4w3 := hBw3.frozen 4)))
      have hz3 := hpw2.size
      have hsz := HSZ.out
      have hty2 := hty.wk (B' := W.heap.size + 1) (by omega)
      obtain ⟨w9, hw9⟩ : ∃ w9, (((((w3).setCell ⟨W.heap.size, 0, none⟩ (x0)).setCell ⟨W.heap.size, 1, none⟩ (x1)).setCell ⟨W.heap.size, 2, none⟩ (x2)).setCell ⟨W.heap.size, 3, none⟩ (x3)).setCell ⟨W.heap.size, 4, none⟩ (x4) = w9 := ⟨_, rfl⟩
      have hPW := (Par.of_below (pb := pb) HN.out).trans hpw3
      have hB9 := set5 hBw3 (x0) (x1) (x2) (x3) (x4)
      have hb9 := Par.set5 hPW (Nat.le_refl _) (x0) (x1) (x2) (x3) (x4)
      have hS9 := PsAt.set5 hsw3 (g := W.heap.size) hlt (x0) (x1) (x2) (x3) (x4)
      have hL9 : Low (lowX (W.heap.size + 1)) w3 _ := Low.set5 (Chg.refl _ _) (.inl (lowX_self _)) (x0) (x1) (x2) (x3) (x4)
      rw [hw9] at hB9 hb9 hS9 hL9 ⊢
      have d0 := hB9.cell 0
      have d1 := hB9.cell 1
      have d2 := hB9.cell 2
      have d3 := hB9.cell 3
      have d4 := hB9.cell 4
      simp only [List.getElem?_toArray, List.getElem?_cons_succ, List.getElem?_cons_zero] at d0 d1 d2 d3 d4
      exact bodyPost_ret (v := .agg #[x0, x1, x2, x3, x4]) (by simp [results, Tryd.results83, go_sem, d0, d1, d2, d3, d4]) rfl ⟨hb9, ⟨[x0, x1, x2, x3, x4], rfl, rfl, (hty2.later hL9).wk (by omega)⟩, hS9, hf3⟩

set_option maxHeartbeats 3200000 in
theorem below_pt (g : Nat → List Tk → Res Pt) (HG : LvOk rPt 5 83 g) (pb lv : Nat) (ts : List Tk) (W : World) (h : PsAt W pb ts lv) (hf : Fine ts) (hlv : lv ≤ 300) (r : Res Pt) (hr : belowP lv g ts = r) (ho : r ≠ .out) :
    Calls Tryd.prog 82 #[.pointer (some ⟨pb, 0, none⟩), .func (.func 83) #[.pointer (some ⟨pb, 0, none⟩)] #[]] W (PaPost pb lv 5 rPt r W) := by
  obtain ⟨t, tl, rfl⟩ := hf.ne
  obtain ⟨W1, hW1⟩ : ∃ W1, W.alloc (.cells #[.int .i64 0, .string ⟨#[]⟩, .int .i64 0, .slice none 0 0, .int .i64 0] 114) = W1 := ⟨_, rfl⟩
  have hnew : Below W.heap.size W W1 := by rw [← hW1]; exact (Below.refl _ _).alloc (Nat.le_refl _) _
  have hres : Blk W1 W.heap.size 114 #[.int .i64 0, .string ⟨#[]⟩, .int .i64 0, .slice none 0 0, .int .i64 0] := by rw [← hW1]; exact Blk.new _ _ _
  have hs1 := h.later hnew
  have hlt := h.lt
  have hsz : W1.heap.size = W.heap.size + 1 := by rw [← hW1]; simp
  have HW1 := Lib.hid hW1
  have HN := Lib.hid hnew
  have HRS := Lib.hid hres
  have HS1 := Lib.hid hs1
  have HSZ := Lib.hid hsz
  have hp1 : Par pb W1 W1 := Chg.refl _ _
  clear hW1 hnew hres hs1 hsz h
  have HF := Lib.hid hf
  obtain ⟨A, cap, q1, q2, q3, q4⟩ := HS1.out.ex
  have p1 := q1.cell 1
  simp only [List.getElem?_toArray, List.getElem?_cons_succ, List.getElem?_cons_zero] at p1
  have fp := q1.frozen 1
  clear q1 q2 q3 q4
  unfold belowP at hr
  by_cases hl : lv = 300
  · subst hl
    obtain rfl : r = .bad 111 t.pos := by rw [← hr]; simp [posH_cons]
    have C2 := Lib.hid (wrong_any pb 300 t tl 111 W1 HS1.out)
    clear hr ho hf
    have p1' : W1.cell? ⟨pb, 1, none⟩ = some (.int .i64 300) := p1
    clear p1
    go_enter Tryd.func82, Tryd.ntmps82
    go_upto_region 1 with fail
    rw [HW1.out]
    go_wp2_with (go_at_call 17; (with_reducible refine C2.out.mono ?_); rintro e w3 ⟨rfl, hb3⟩)
    exact ⟨rfl, (Par.of_below HN.out).trans (Par.of_below hb3), rfl⟩
  · have d0 : ((lv : Int) == 300) = false := by simp; omega
    rw [if_neg hl] at hr
    obtain ⟨w2, hw2⟩ : ∃ w2, W1.setCell ⟨pb, 1, none⟩ (.int .i64 ((lv : Int) + 1)) = w2 := ⟨_, rfl⟩
    have hs2 : PsAt w2 pb (t :: tl) (lv + 1) := by rw [← hw2]; have := HS1.out.level (lv + 1); simpa using this
    have hp2 : Par pb W1 w2 := by rw [← hw2]; exact Par.set_ (pb := pb) (p := ⟨pb, 1, none⟩) (Chg.refl _ _) (.inl rfl) _
    have C2 := Lib.hid (HG pb (lv + 1) (t :: tl) w2 hs2 HF.out (by omega) r hr ho)
    have HW2 := Lib.hid hw2
    have HL := Lib.hid hl
    clear hw2 hr hl
    cases r with
    | out => exact absurd rfl ho
    | bad c p =>
      clear ho hf
      go_enter Tryd.func82, Tryd.ntmps82
      go_upto_region 1 with fail
      rw [HW1.out]
      go_upto_region 4 with fail
      rw [HW2.out]
      go_wp2_with (go_at_call 83; (with_reducible refine C2.out.mono ?_); rintro e w3 ⟨hp3, rfl⟩)
      exact ⟨rfl, (Par.of_below HN.out).trans (hp2.trans hp3), rfl⟩
    | ok x ts2 =>
      clear ho hf
      go_enter Tryd.func82, Tryd.ntmps82
      go_upto_region 1 with fail
      rw [HW1.out]
      go_upto_region 4 with fail
      rw [HW2.out]
      go_upto_region 5 with (go_at_call 83; (with_reducible refine C2.out.mono ?_); rintro e w3 ⟨hp3, ⟨cs, hlen, rfl, hty⟩, hs3, hf3⟩; (obtain ⟨x0, x1, x2, x3, x4, rfl⟩ := five_of hlen); (have s0 := store_one' x0 (pt_ones' hty x0 (by simp))); (have s1 := store_one' x1 (pt_ones' hty x1 (by simp))); (have s2 := store_one' x2 (pt_ones' hty x2 (by simp))); (have s3 := store_one' x3 (pt_ones' hty x3 (by simp))); (have s4 := store_one' x4 (pt_ones' hty x4 (by simp))))
      obtain ⟨w4, hw4⟩ : ∃ w4, w3.alloc (.cells #[x0, x1, x2, x3, x4] 114) = w4 := ⟨_, rfl⟩
      have hb4 : Below w3.heap.size w3 w4 := by rw [← hw4]; exact below_new' _ _
      have hx4 : Blk w4 w3.heap.size 114 #[x0, x1, x2, x3, x4] := by rw [← hw4]; exact Blk.new _ _ _
      rw [hw4]
      have hs4 := hs3.later hb4
      obtain ⟨A4, cap4, q1, q2, q3, q4⟩ := hs4.ex
      have p1 := q1.cell 1
      simp only [List.getElem?_toArray, List.getElem?_cons_succ, List.getElem?_cons_zero] at p1
      rw [show ((lv + 1 : Nat) : Int) = (lv : Int) + 1 by omega] at p1
      have fp := q1.frozen 1
      obtain ⟨w5, hw5⟩ : ∃ w5, w4.setCell ⟨pb, 1, none⟩ (.int .i64 (lv : Int)) = w5 := ⟨_, rfl⟩
      have hs5 : PsAt w5 pb ts2 lv := by rw [← hw5]; exact hs4.level lv
      have hp5 : Par pb w4 w5 := by rw [← hw5]; exact Par.set_ (pb := pb) (p := ⟨pb, 1, none⟩) (Chg.refl _ _) (.inl rfl) _
      have hsz := HSZ.out
      have hz2 := hp2.size
      have hz3 := hp3.size
      have HW5 := Lib.hid hw5
      have hl300 := HL.out
      have hw1 : IntKind.i64.wrap ((lv : Int) + 1 - 1) = (lv : Int) := by rw [IntWalk.i64_in _ (by omega)]; omega
      clear hw4 hw5 q1 q2 q3 q4
      go_upto_region 6 with fail
      first | rw [HW5.out] | (rw [show (lv : Int) + 1 - 1 = lv by omega, HW5.out])
      clear hw1
      have hx5 : Blk w5 w3.heap.size 114 #[x0, x1, x2, x3, x4] := (hp5.block _ hx4.lt (by have := hs3.lt; omega)).trans hx4
      have y0 := hx5.cell 0
      have y1 := hx5.cell 1
      have y2 := hx5.cell 2
      have y3 := hx5.cell 3
      have y4 := hx5.cell 4
      simp only [List.getElem?_toArray, List.getElem?_cons_succ, List.getElem?_cons_zero] at y0 y1 y2 y3 y4
      have hpw5 : Par pb W1 w5 := ((hp2.trans hp3).trans (Par.of_below hb4)).trans hp5
      have hBw5 : Blk w5 W.heap.size 114 #[.int .i64 0, .string ⟨#[]⟩, .int .i64 0, .slice none 0 0, .int .i64 0] := (hpw5.block _ HRS.out.lt (by omega : ¬ W.heap.size = pb)).trans HRS.out
      have r0 := hBw5.cell 0
      have r1 := hBw5.cell 1
      have r2 := hBw5.cell 2
      have r3 := hBw5.cell 3
      have r4 := hBw5.cell 4
      simp only [List.getElem?_toArray, List.getElem?_cons_succ, List.getElem?_cons_zero] at r0 r1 r2 r3 r4
      have f0 := hBw5.frozen 0
      have f1 := hBw5.frozen 1
      have f2 := hBw5.frozen 2
      have f3 := hBw5.frozen 3
      have f4 := hBw5.frozen 4
      go_wp2_with fail
      obtain ⟨w9, hw9⟩ : ∃ w9, (((((w5).setCell ⟨W.heap.size, 0, none⟩ (x0)).setCell ⟨W.heap.size, 1, none⟩ (x1)).setCell ⟨W.heap.size, 2, none⟩ (x2)).setCell ⟨W.heap.size, 3, none⟩ (x3)).setCell ⟨W.heap.size, 4, none⟩ (x4) = w9 := ⟨_, rfl⟩
      have hPW := (Par.of_below (pb := pb) HN.out).trans hpw5
      have hB9 := set5 hBw5 x0 x1 x2 x3 x4
      have hb9 := Par.set5 hPW (Nat.le_refl _) x0 x1 x2 x3 x4
      have hS9 := PsAt.set5 hs5 (g := W.heap.size) hlt x0 x1 x2 x3 x4
      have hL9 : Low (lowX (W.heap.size + 1)) w5 _ := Low.set5 (Chg.refl _ _) (.inl (lowX_self _)) x0 x1 x2 x3 x4
      rw [hw9] at hB9 hb9 hS9 hL9 ⊢
      have d0 := hB9.cell 0
      have d1 := hB9.cell 1
      have d2 := hB9.cell 2
      have d3 := hB9.cell 3
      have d4 := hB9.cell 4
      simp only [List.getElem?_toArray, List.getElem?_cons_succ, List.getElem?_cons_zero] at d0 d1 d2 d3 d4
      have hty5 := (((hty.wk (B' := W.heap.size + 1) (by omega)).later (Low.of_below hb4)).later (Low.of_par hp5 (by omega))).later hL9
      exact bodyPost_ret (v := .agg #[x0, x1, x2, x3, x4]) (by simp [results, Tryd.results82, go_sem, d0, d1, d2, d3, d4]) rfl ⟨hb9, ⟨[x0, x1, x2, x3, x4], rfl, rfl, hty5.wk (by omega)⟩, hS9, hf3⟩

set_option maxHeartbeats 3200000 in
theorem enter_pt (g : Nat → List Tk → Res Pt) (HG : LvOk rPt 5 83 g) : LvOk rPt 5 77 (fun lv ts => belowP lv g ts) := by
  intro pb lv ts W h hf hlv r hr ho
  have hmf : ∀ w : World, (Instr.makeFunc (.func 83) #[.pointer (some ⟨pb, 0, none⟩)] #[]).run Tryd.prog w = .ok (.func (.func 83) #[.pointer (some ⟨pb, 0, none⟩)] #[]) w := fun _ => rfl
  obtain ⟨W1, hW1⟩ : ∃ W1, W.alloc (.cells #[.int .i64 0, .string ⟨#[]⟩, .int .i64 0, .slice none 0 0, .int .i64 0] 114) = W1 := ⟨_, rfl⟩
  have hnew : Below W.heap.size W W1 := by rw [← hW1]; exact (Below.refl _ _).alloc (Nat.le_refl _) _
  have hres : Blk W1 W.heap.size 114 #[.int .i64 0, .string ⟨#[]⟩, .int .i64 0, .slice none 0 0, .int .i64 0] := by rw [← hW1]; exact Blk.new _ _ _
  have hs1 := h.later hnew
  have hlt := h.lt
  have hsz : W1.heap.size = W.heap.size + 1 := by rw [← hW1]; simp
  have HW1 := Lib.hid hW1
  have HN := Lib.hid hnew
  have HRS := Lib.hid hres
  have HS1 := Lib.hid hs1
  have HSZ := Lib.hid hsz
  have hp1 : Par pb W1 W1 := Chg.refl _ _
  clear hW1 hnew hres hs1 hsz h
  have C := Lib.hid (below_pt g HG pb lv ts W1 HS1.out hf hlv r hr ho)
  cases r with
  | out => exact absurd rfl ho
  | bad c p =>
    clear hr ho hf
    go_enter Tryd.func77, Tryd.ntmps77
    go_upto_region 1 with fail
    rw [HW1.out]
    go_wp2_with (go_at_call 82; (with_reducible refine C.out.mono ?_); rintro e w3 ⟨hp3, rfl⟩)
    exact ⟨rfl, (Par.of_below HN.out).trans hp3, rfl⟩
  | ok x ts2 =>
    clear hr ho hf
    go_enter Tryd.func77, Tryd.ntmps77
    go_upto_region 1 with fail
    rw [HW1.out]
    go_wp2_with (go_at_call 82; (with_reducible refine C.out.mono ?_); rintro e w3 ⟨hp3, ⟨cs, hlen, rfl, hty⟩, hs3, hf3⟩; (obtain ⟨x0, x1, x2, x3, x4, rfl⟩ := five_of hlen); (have s0 := store_one' x0 (pt_ones' hty x0 (by simp))); (have s1 := store_one' x1 (pt_ones' hty x1 (by simp))); (have s2 := store_one' x2 (pt_ones' hty x2 (by simp))); (have s3 := store_one' x3 (pt_ones' hty x3 (by simp))); (have s4 := store_one' x4 (pt_ones' hty x4 (by simp))); (have hBw3 : Blk w3 W.heap.size 114 #[.int .i64 0, .string ⟨#[]⟩, .int .i64 0, .slice none 0 0, .int .i64 0] := (hp3.block _ HRS.out.lt (by omega : ¬ W.heap.size = pb)).trans HRS.out); (have r0 := hBw3.cell 0); (have r1 := hBw3.cell 1); (have r2 := hBw3.cell 2); (have r3 := hBw3.cell 3); (have r4 := hBw3.cell 4); (simp only [List.getElem?_toArray, List.getElem?_cons_succ, List.getElem?_cons_zero] at r0 r1 r2 r3 r4); (have f0 := hBw3.frozen 0); (have f1 := hBw3.frozen 1); (have f2 := hBw3.frozen 2); (have f3 := hBw3.frozen 3); (have f4 := hBw3.frozen 4))
    obtain ⟨w9, hw9⟩ : ∃ w9, (((((w3).setCell ⟨W.heap.size, 0, none⟩ (x0)).setCell ⟨W.heap.size, 1, none⟩ (x1)).setCell ⟨W.heap.size, 2, none⟩ (x2)).setCell ⟨W.heap.size, 3, none⟩ (x3)).setCell ⟨W.heap.size, 4, none⟩ (x4) = w9 := ⟨_, rfl⟩
    have hsz := HSZ.out
    have hPW := (Par.of_below (pb := pb) HN.out).trans hp3
    have hB9 := set5 hBw3 x0 x1 x2 x3 x4
    have hb9 := Par.set5 hPW (Nat.le_refl _) x0 x1 x2 x3 x4
    have hS9 := PsAt.set5 hs3 (g := W.heap.size) hlt x0 x1 x2 x3 x4
    have hL9 : Low (lowX (W.heap.size + 1)) w3 _ := Low.set5 (Chg.refl _ _) (.inl (lowX_self _)) x0 x1 x2 x3 x4
    rw [hw9] at hB9 hb9 hS9 hL9 ⊢
    have d0 := hB9.cell 0
    have d1 := hB9.cell 1
    have d2 := hB9.cell 2
    have d3 := hB9.cell 3
    have d4 := hB9.cell 4
    simp only [List.getElem?_toArray, List.getElem?_cons_succ, List.getElem?_cons_zero] at d0 d1 d2 d3 d4
    have hty5 := (hty.wk (B' := W.heap.size + 1) (by omega)).later hL9
    exact bodyPost_ret (v := .agg #[x0, x1, x2, x3, x4]) (by simp [results, Tryd.results77, go_sem, d0, d1, d2, d3, d4]) rfl ⟨hb9, ⟨[x0, x1, x2, x3, x4], rfl, rfl, hty5.wk (by omega)⟩, hS9, hf3⟩

/-- The parser's patterns are the grammar's. -/
theorem pat_all (n : Nat) : LvOk rPt 5 77 (patF n) := by
  induction n with
  | zero => intro pb lv ts W h hf hlv r hr ho; exact absurd hr.symm ho
  | succ n ih => exact enter_pt (applP (patF n)) (fun pb lv ts W h hf hlv r hr ho => appl_any (patF n) ih pb lv ts W h hf hlv r hr ho)

end Go.Proofs.YtiiddmioafhmoaaDoor
