/- Walks: the iterator over an expression's parts. -/
import Derived.Test.YtglamoiimmahgaaScop
namespace Go.Proofs.Ytglamoiimmahgaa
open Go.RowKit Go.Shelf
set_option linter.unusedVariables false
set_option linter.unusedSimpArgs false
set_option maxRecDepth 100000
attribute [local go_sem] Oper.semAt_some

set_option maxHeartbeats 1600000 in
theorem pparts_any (w : World) (cs : List Value) :
    Calls Try.prog 32 #[.agg cs.toArray] w fun e w' => e = .returned (.func (.func 59) #[] #[.pointer (some ⟨w.heap.size, 0, none⟩)]) ∧ w.alloc (.cells cs.toArray 29) = w' := by
  have hmf : ∀ (w0 : World) (f : Fn) (a b : Array Value), (Instr.makeFunc f a b).run Try.prog w0 = .ok (.func f a b) w0 := fun _ _ _ _ => rfl
  go_enter Try.func32, Try.ntmps32
  go_wp2_with fail
  go_ret
  exact ⟨rfl, rfl⟩

/-- The end of a function that holds a range over a function, without results. -/
theorem marks_none {P : Program} {fn : Func} {R : Ending → World → Prop} {tmps : Array Value} {D : Nat} {W : World} (hres : fn.results = #[]) (hK : W.heap[D]? = some (.deferred (some [])))
    (h : R (.returned (.tuple #[])) (W.putObj D (.deferred none))) : bodyPostM Fence.wide 10 P fn R .normal { tmps := tmps, defers := [{ target := .collected D, args := #[] }] } W :=
  ⟨by simp, .inl ⟨D, _, rfl, run_takeDeferred hK, _, results_none hres _ _ _, h⟩⟩
theorem marks_tmp {P : Program} {fn : Func} {R : Ending → World → Prop} {t : Tmp} {v : Value} {tmps : Array Value} {D : Nat} {W : World} (hres : fn.results = #[.tmp t]) (hK : W.heap[D]? = some (.deferred (some []))) (hv : tmps.getD t undef = v)
    (h : R (.returned v) (W.putObj D (.deferred none))) : bodyPostM Fence.wide 10 P fn R .ret { tmps := tmps, defers := [{ target := .collected D, args := #[] }] } W :=
  ⟨by simp, .inl ⟨D, _, rfl, run_takeDeferred hK, _, results_tmp hres _ _ _, by rw [hv]; exact h⟩⟩

/-- How many parts lie ahead of scope k. -/
def offS (l : List (List ByteArray × List Ex)) (k : Nat) : Nat := (((l.take k).map (·.2)).flatten).length
theorem offS_zero (l : List (List ByteArray × List Ex)) : offS l 0 = 0 := rfl
theorem offS_cons (a : List ByteArray × List Ex) (l : List (List ByteArray × List Ex)) (k : Nat) : offS (a :: l) (k + 1) = a.2.length + offS l k := by
  unfold offS
  simp only [List.take_succ_cons, List.map_cons, List.flatten_cons, List.length_append]
theorem offS_succ : ∀ {l : List (List ByteArray × List Ex)} {k : Nat} {x : List ByteArray × List Ex}, l[k]? = some x → offS l (k + 1) = offS l k + x.2.length
  | a :: l, 0, x, h => by
    have e : a = x := by simpa using h
    subst e
    rw [offS_cons, offS_zero, offS_zero]; omega
  | a :: l, k + 1, x, h => by
    rw [offS_cons, offS_cons, offS_succ (l := l) (k := k) (by simpa using h)]; omega
theorem offS_at : ∀ {l : List (List ByteArray × List Ex)} {k j : Nat} {x : List ByteArray × List Ex}, l[k]? = some x → ∀ hj : j < x.2.length, ((l.map (·.2)).flatten)[offS l k + j]? = some x.2[j]
  | a :: l, 0, j, x, h, hj => by
    have e : a = x := by simpa using h
    subst e
    rw [offS_zero, Nat.zero_add, List.map_cons, List.flatten_cons, List.getElem?_append_left hj]
    exact List.getElem?_eq_getElem hj
  | a :: l, k + 1, j, x, h, hj => by
    rw [offS_cons, List.map_cons, List.flatten_cons, List.getElem?_append_right (by omega), show a.2.length + offS l k + j - a.2.length = offS l k + j by omega]
    exact offS_at (l := l) (by simpa using h) hj
theorem offS_le : ∀ (l : List (List ByteArray × List Ex)) (k : Nat), offS l k ≤ ((l.map (·.2)).flatten).length
  | l, 0 => by rw [offS_zero]; omega
  | [], k + 1 => by simp [offS]
  | a :: l, k + 1 => by
    have := offS_le l k
    rw [offS_cons, List.map_cons, List.flatten_cons, List.length_append]; omega
theorem offS_all (l : List (List ByteArray × List Ex)) : offS l l.length = ((l.map (·.2)).flatten).length := by unfold offS; rw [List.take_length]

/-- What a round over parts is handed. -/
def PtRd (e : Ex) (B : Nat) (Y : Nat → Prop) (k : Nat) (args : Array Value) (W : World) : Prop := ∃ cs x, e.parts[k]? = some x ∧ args = #[.agg cs.toArray] ∧ ExAt W B cs x

set_option maxHeartbeats 6400000 in
theorem parts_iter (e : Ex) (B b : Nat) (W : World) (cs : List Value) (hN : e.mass ≤ 4000000) (hB : B ≤ W.heap.size) (hx : ExAt W B cs e) (hbox : Blk W b 29 cs.toArray) :
    Iter Try.prog 59 #[.pointer (some ⟨b, 0, none⟩)] (fun k => k < B ∨ k = b) e.parts.length (PtRd e B) W := by
  intro l X J hS hX hJ hY h0
  have hbB : b < W.heap.size := hbox.lt
  have hXB : ∀ i A, J i A → ∀ k, X A k → B ≤ k := fun i A hj k h => by have h1 := (hX i A hj k h).2; omega
  have HS := Lib.hid hS
  have hXW : ∀ i, X W i → i < W.heap.size := fun i hi => (hX 0 W h0 i hi).1
  obtain ⟨c0, c1, c2, c3, c4, c5, c6, c7, c8, c9, c10, rfl⟩ := eleven_of hx.eleven
  obtain ⟨xn, xtk, xtn, xq, xnm, xtnm, xtA, xA, xAa, xAb, xtl, xtc, xkl, xc, xal, xca, xbl, xcb, rfl, rfl, rfl, rfl, rfl, rfl, rfl, rfl, rfl, rfl, rfl⟩ := ex_shape hx
  generalize hek : e.kind = ek at *
  obtain ⟨W2, hW2⟩ : ∃ W2, (W.alloc (.cells #[.func (.yield l) #[] #[]] 33)).alloc (.cells #[.int .i64 ek, .string xnm, .int .i64 xn, .int .i64 xtk, .string xtnm, .int .i64 xtn, .slice xtA xtl xtc, .slice xA xkl xc, .slice xAa xal xca, .slice xAb xbl xcb, .int .i64 xq] 29) = W2 := ⟨_, rfl⟩
  have hb2 : Below W.heap.size W W2 := by rw [← hW2]; exact ((Below.refl _ _).alloc (Nat.le_refl _) _).alloc (by simp) _
  have hz2 : W2.heap.size = W.heap.size + 2 := by rw [← hW2]; simp
  have hyb : Blk W2 W.heap.size 33 #[.func (.yield l) #[] #[]] := by rw [← hW2]; exact (Blk.new _ _ _).alloc _
  have heb : Blk W2 (W.heap.size + 1) 29 #[.int .i64 ek, .string xnm, .int .i64 xn, .int .i64 xtk, .string xtnm, .int .i64 xtn, .slice xtA xtl xtc, .slice xA xkl xc, .slice xAa xal xca, .slice xAb xbl xcb, .int .i64 xq] := by
    rw [← hW2]
    have := Blk.new (W.alloc (.cells #[.func (.yield l) #[] #[]] 33)) 29 #[.int .i64 ek, .string xnm, .int .i64 xn, .int .i64 xtk, .string xtnm, .int .i64 xtn, .slice xtA xtl xtc, .slice xA xkl xc, .slice xAa xal xca, .slice xAb xbl xcb, .int .i64 xq]
    simpa using this
  have hcs : ∀ j v, #[Value.int .i64 ek, .string xnm, .int .i64 xn, .int .i64 xtk, .string xtnm, .int .i64 xtn, .slice xtA xtl xtc, .slice xA xkl xc, .slice xAa xal xca, .slice xAb xbl xcb, .int .i64 xq][j]? = some v → (W.alloc (.cells #[.func (.yield l) #[] #[]] 33)).cell? ⟨b, j, none⟩ = some v := fun j v h => ((hbox.alloc _).cell j).trans h
  have hd0 := hcs 0 _ rfl
  have hd1 := hcs 1 _ rfl
  have hd2 := hcs 2 _ rfl
  have hd3 := hcs 3 _ rfl
  have hd4 := hcs 4 _ rfl
  have hd5 := hcs 5 _ rfl
  have hd6 := hcs 6 _ rfl
  have hd7 := hcs 7 _ rfl
  have hd8 := hcs 8 _ rfl
  have hd9 := hcs 9 _ rfl
  have hd10 := hcs 10 _ rfl
  have hk2 : Kep (X W) W W2 := Kep.of_below hb2 hXW
  have hX2 : ∀ i, X W2 i → X W i := hS W W2 hk2
  have HC2 := Lib.hid (show ChD X W W2 from ChD.own hS hXW hb2)
  have HX2 := Lib.hid (show ∀ i, X W2 i → i < W.heap.size from fun i hi => hXW i (hX2 i hi))
  have HJ2 := Lib.hid (hJ 0 W W2 h0 hk2)
  have HXB := Lib.hid hXB
  have HX := Lib.hid hX
  have HJ := Lib.hid hJ
  have HY := Lib.hid hY
  have H0 := Lib.hid h0
  have HW := Lib.hid hW2
  have HB2 := Lib.hid hb2
  have HYB := Lib.hid hyb
  have HEB := Lib.hid heb
  have HE := Lib.hid (hx.later (hb2.mono hB))
  have HZ2 := Lib.hid hz2
  have HEK := Lib.hid hek
  clear hk2 hX2 hXW hXB hS hcs hX hJ hY h0 hW2 hb2 hyb heb hx hz2 hek
  refine (callsIn_wide (n := 10)).1 (callsIn_of_wp_marks Try.func59 rfl trivial (wpIn_wide.2 ?_) rfl)
  simp only [Try.ntmps59, List.size_toArray, List.length_cons, List.length_nil, Nat.reduceAdd, Nat.reduceSub, Array.replicate_succ, Array.replicate_zero, List.push_toArray, List.append_toArray, List.nil_append, List.cons_append]
  go_wp2_with (go_at_call 60; refine (pscopes_any _ [.int .i64 ek, .string xnm, .int .i64 xn, .int .i64 xtk, .string xtnm, .int .i64 xtn, .slice xtA xtl xtc, .slice xA xkl xc, .slice xAa xal xca, .slice xAb xbl xcb, .int .i64 xq]).mono ?_; rintro e2 w2 ⟨rfl, rfl⟩)
  rw [HW.out]
  refine range_mine (gf := 70) (lb := #[.pointer (some ⟨W.heap.size + 1, 0, none⟩)]) (K := fun k => k < B ∨ k = W.heap.size + 1) (N := e.scL.length) (Rd := ScRd e B) X (fun k W' => J (offS e.scL k) W' ∧ ¬ X W' (W.heap.size + 1)) rfl
    (enters_of Try.func70 (by kernel_rfl) rfl) ?hit HS.out ?hX ?hK ?hps ?hJ ?h0 ?round ?done
  case hit =>
    intro W' hb hs
    exact scopes_iter e B (W.heap.size + 1) W' _ hN (Nat.le_trans hB (Nat.le_trans HB2.out.size hb.size)) (HE.out.later (hb.mono (Nat.le_trans hB HB2.out.size))) (HEB.out.below hb (by have := HZ2.out; omega))
  case hX => exact fun k A h i hi => ⟨(HX.out _ A h.1 i hi).1, fun h' => by have h2 := HXB.out _ A h.1 i hi; rcases h' with h' | rfl; omega; exact h.2 hi⟩
  case hK => exact fun k hk => by have := HZ2.out; omega
  case hps => rintro Y k args W' hk ⟨ns, es, A, c, A', c', L, _, rfl, _⟩; rfl
  case hJ => exact fun k A B h hk => ⟨HJ.out _ A B h.1 hk, fun hx => h.2 (HS.out A B hk _ hx)⟩
  case h0 => exact ⟨HJ2.out, fun h => by have := HX2.out _ h; omega⟩
  case round =>
    rintro l' k args W' hl hlW hk ⟨hj, hjN⟩ hnl hch ⟨ns, es, A, c, A', c', L, hsc, rfl, _, hrow, hexs, _, hs2⟩
    have hW' := hch.size
    obtain ⟨m, hm⟩ : ∃ m, es.length = m := ⟨_, rfl⟩
    rw [hm] at hrow hs2 ⊢
    have hwn : ¬ X W' W.heap.size := fun h => (hch.sub W.heap.size (by have := HZ2.out; omega) (.inl h)).elim (fun h => by have := HX2.out _ h; omega) (fun h => by have := HZ2.out; omega)
    have HSC := Lib.hid hsc
    have HROW := Lib.hid hrow
    have HEXS := Lib.hid hexs
    have HS2 := Lib.hid hs2
    have HM := Lib.hid hm
    have HJK := Lib.hid hj
    have HCH := Lib.hid hch
    have HL := Lib.hid hl
    have HWN := Lib.hid hwn
    have HJN := Lib.hid hjN
    have HNL := Lib.hid hnl
    have HK := Lib.hid hk
    clear hsc hrow hexs hs2 hm hj hch hl hwn hjN hnl hk
    gi_wp2_with fail
    refine ⟨Below.refl _ _, ?_⟩
    intro W3 hin
    obtain ⟨hc3, ⟨hj3, hjn3⟩, hX3, hcw⟩ := hin
    have HC3 := Lib.hid hc3
    have HCW := Lib.hid hcw
    have hz3 := hc3.size
    have HR3 := Lib.hid (show Reads W3 W3.heap.size 11 A' m L.flatten from reads_chg (X := (· = l')) HROW.out.reads (fun ad e h hx => HS2.out ad e h (.inr hx)) hc3)
    have HX3 := Lib.hid (HEXS.out.later (hc3.below (Nat.le_trans hB (Nat.le_trans HB2.out.size hW')) (fun i hi => by have := HL.out; have := HZ2.out; omega)))
    have HJ3 := Lib.hid hj3
    have HX3' := Lib.hid hX3
    have HCWX := Lib.hid (show ChD X W W3 from ⟨((Chg.of_old HB2.out).trans (hcw.chg.mono (Y := fun i => i = l' ∨ X W2 i) fun i _ h => h.elim .inr .inl)).mono (Y := X W) (fun i h1 h2 => h2.elim (fun e => by have := HL.out; have := HZ2.out; omega) (fun h => HC2.out.sub i h1 h)),
      fun i hi h => HC2.out.sub i hi ((hcw.sub i (Nat.lt_of_lt_of_le hi HB2.out.size) (.inl h)).elim id (fun e => by have := HL.out; have := HZ2.out; omega))⟩)
    clear hc3 hcw hj3 hX3 hjn3
    gi_wp2_with fail
    gi_loopw [13] (fun i wr => ∃ j : Nat, i = .int .i64 j ∧ j ≤ m ∧ J (offS e.scL k + j) wr ∧ ChD X W3 wr) (fun i _ => m - (intOf i).toNat)
    case atStart => exact ⟨0, rfl, Nat.zero_le _, HJ3.out, ChD.refl _ _⟩
    case round =>
      obtain ⟨j, rfl, hj, hjr, hcr⟩ := hrel
      have hm9 : m ≤ 4000000 := by
        have h1 := offS_le e.scL (k + 1)
        have h2 := offS_succ HSC.out
        have h3 := parts_len e
        have h4 := nodes_le_mass _ e (Nat.le_refl _)
        have h5 := HM.out
        rw [scL_parts] at h1
        simp only at h2
        omega
      have hzr := hcr.size
      have HJR := Lib.hid hjr
      have HCR := Lib.hid hcr
      by_cases hlt : j < m
      · have hjk : j < es.length := by rw [HM.out]; exact hlt
        have hrow : Row wr wr.heap.size 11 A' m L := ⟨HROW.out.len, HROW.out.each, reads_chg HR3.out (fun ad e' h hx => HS2.out ad e' h (.inl (HX3'.out _ hx))) hcr.chg⟩
        have hexr := HX3.out.later (hcr.below (Nat.le_trans (Nat.le_trans hB (Nat.le_trans HB2.out.size hW')) hz3) (HXB.out _ W3 HJ3.out))
        obtain ⟨g, o, c0, c1, c2, c3, c4, c5, c6, c7, c8, c9, c10, rfl, hg, ⟨hl1, hLj⟩, k0, k1, k2, k3, k4, k5, k6, k7, k8, k9, k10⟩ := ex_cells hrow hlt
        have hej := hexr.exp j hl1 hjk
        rw [hLj] at hej
        obtain ⟨n', tk', tn', q', nm', tnm', tA', A2, Aa', Ab', tl', tc', kl', cc', al', ca', bl', cb', rfl, rfl, rfl, rfl, rfl, rfl, rfl, rfl, rfl, rfl, rfl⟩ := ex_shape hej
        generalize es[j].kind = ek' at *
        obtain ⟨CS, hCS⟩ : ∃ CS : List Value, CS = [.int .i64 ek', .string nm', .int .i64 n', .int .i64 tk', .string tnm', .int .i64 tn', .slice tA' tl' tc', .slice A2 kl' cc', .slice Aa' al' ca', .slice Ab' bl' cb', .int .i64 q'] := ⟨_, rfl⟩
        have hal : Below wr.heap.size wr (wr.alloc (.cells #[.int .i64 ek', .string nm', .int .i64 n', .int .i64 tk', .string tnm', .int .i64 tn', .slice tA' tl' tc', .slice A2 kl' cc', .slice Aa' al' ca', .slice Ab' bl' cb', .int .i64 q'] 29)) := (Below.refl _ _).alloc (Nat.le_refl _) _
        have hBr : B ≤ wr.heap.size := Nat.le_trans (Nat.le_trans hB (Nat.le_trans HB2.out.size hW')) (Nat.le_trans hz3 hzr)
        have hyc : (wr.alloc (.cells #[.int .i64 ek', .string nm', .int .i64 n', .int .i64 tk', .string tnm', .int .i64 tn', .slice tA' tl' tc', .slice A2 kl' cc', .slice Aa' al' ca', .slice Ab' bl' cb', .int .i64 q'] 29)).cell? ⟨W.heap.size, 0, none⟩ = some (.func (.yield l) #[] #[]) := by
          have hbb : Blk wr W.heap.size 33 #[.func (.yield l) #[] #[]] := by
            refine (hcr.chg.block _ (Nat.lt_of_lt_of_le HYB.out.lt HCW.out.size) (fun h => HWN.out (HX3'.out _ h))).trans ((HCW.out.chg.block _ HYB.out.lt ?_).trans HYB.out)
            have h1 := HL.out
            have h2 := HZ2.out
            rintro (h | h)
            · have := HX2.out _ h; omega
            · omega
          exact (hbb.alloc _).cell 0
        have HST := Lib.hid (show offS e.scL (k + 1) = offS e.scL k + m by rw [offS_succ HSC.out, HM.out])
        obtain ⟨fn, tmps, assign, body, hy, hR⟩ := HY.out (offS e.scL k + j) (wr.alloc (.cells #[.int .i64 ek', .string nm', .int .i64 n', .int .i64 tk', .string tnm', .int .i64 tn', .slice tA' tl' tc', .slice A2 kl' cc', .slice Aa' al' ca', .slice Ab' bl' cb', .int .i64 q'] 29)) #[.agg #[.int .i64 ek', .string nm', .int .i64 n', .int .i64 tk', .string tnm', .int .i64 tn', .slice tA' tl' tc', .slice A2 kl' cc', .slice Aa' al' ca', .slice Ab' bl' cb', .int .i64 q']] (by
            have h1 := offS_le e.scL (k + 1)
            rw [scL_parts] at h1
            have := HST.out; omega) (HJ.out _ wr _ hjr (Kep.of_below hal fun i hi => (HX.out _ wr hjr i hi).1))
          (HCWX.out.trans (hcr.trans (ChD.own HS.out (fun i hi => (HX.out _ wr hjr i hi).1) hal)))
          ⟨[.int .i64 ek', .string nm', .int .i64 n', .int .i64 tk', .string tnm', .int .i64 tn', .slice tA' tl' tc', .slice A2 kl' cc', .slice Aa' al' ca', .slice Ab' bl' cb', .int .i64 q'], es[j], by rw [← scL_parts]; exact offS_at HSC.out hjk, rfl, hej.later (hal.mono hBr)⟩
        have HCA := Lib.hid (ChD.own HS.out (fun i hi => (HX.out _ wr hjr i hi).1) hal)
        clear hrow hexr hej hal hjr hcr hCS
        gi_wp2_with ((with_reducible refine (round_in (hR _)).mono ?_); clear hR hy; rintro e5 W5 ⟨rfl, hc5, hj5⟩)
        have HF := Lib.hid (show J (offS e.scL k + (j + 1)) W5 ∧ ChD X W3 W5 from ⟨hj5, (HCR.out.trans HCA.out).trans hc5⟩)
        clear hj5 hc5
        gi_wp2_with fail
        go_roundw
        case rel => exact ⟨j + 1, by go_num, by omega, HF.out.1, HF.out.2⟩
        case measure => simp [intOf]; omega
      · obtain rfl : j = m := by omega
        have HF := Lib.hid (show ChD X W3 wr ∧ J (offS e.scL (k + 1)) wr ∧ ¬ X wr (W.heap.size + 1) from ⟨hcr, by rw [offS_succ HSC.out, HM.out]; exact hjr, hcr.out (by have := HZ2.out; omega) (fun h => HJN.out (HX3'.out _ h))⟩)
        clear hjr hcr
        gi_wp2_with fail
        exact HF.out
  case done =>
    rintro D W' hD ⟨hj, _⟩ hch hnD hK
    have hkp : Kep (X W') W' (W'.putObj D (.deferred none)) := putObj_kep _ _ _ hnD
    have HF := Lib.hid (show (∃ v, Ending.returned (.tuple #[]) = .returned v) ∧ ChD X W (W'.putObj D (.deferred none)) ∧ J e.parts.length (W'.putObj D (.deferred none)) from
      ⟨⟨_, rfl⟩, by
        have hc := HC2.out.trans hch
        refine ⟨(hc.chg.mono (Y := fun b => X W b ∨ b = D) (fun _ _ h => Or.inl h)).trans ((putObj_chg W' D _).mono fun _ _ h => Or.inr h) |>.mono (Y := X W) (fun i h1 h2 => h2.elim id (fun e => by have := HB2.out.size; omega)), fun i hi h => hc.sub i hi (HS.out _ _ hkp i h)⟩, by
        refine HJ.out _ W' _ ?_ hkp
        have h0 := offS_all e.scL
        rw [scL_parts] at h0
        rw [← h0]
        exact hj⟩)
    go_wp2_with fail
    exact marks_none rfl hK HF.out

end Go.Proofs.Ytglamoiimmahgaa
