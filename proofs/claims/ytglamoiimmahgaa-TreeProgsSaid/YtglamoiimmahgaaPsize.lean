/- Walks: the program's size and depth. -/
import Derived.Test.YtglamoiimmahgaaPart
import Derived.Shelf.RegionOpen
import Derived.IntWalk
namespace Go.Proofs.Ytglamoiimmahgaa
open Go.RowKit Go.Shelf
set_option linter.unusedVariables false
set_option linter.unusedSimpArgs false
set_option maxRecDepth 100000
attribute [local go_sem] Oper.semAt_some

theorem size_mass (e : Ex) : e.size ≤ e.mass ∧ e.deep ≤ e.mass := by
  have h := size_le _ e (Nat.le_refl _)
  have h4 := nodes_le_mass _ e (Nat.le_refl _)
  omega
theorem exsSize_take_le (l : List Ex) (k : Nat) : exsSize (l.take k) ≤ exsSize l ∧ exsDeep (l.take k) ≤ exsDeep l := by
  induction l generalizing k with
  | nil => simp
  | cons a l ih =>
    cases k with
    | zero => simp [exsSize, exsDeep]
    | succ k => have := ih k; simp only [List.take_succ_cons, exsSize, exsDeep]; omega
theorem setCell_chg (W : World) (b : Nat) (u : Value) : Chg (· = b) W (W.setCell ⟨b, 0, none⟩ u) := ⟨rfl, rfl, rfl, by simp [World.setCell], fun k _ hk => Below.heap_setCell _ _ _ _ (by exact hk)⟩

set_option maxHeartbeats 6400000 in
theorem psize_any (N : Nat) : ∀ (e : Ex), e.mass ≤ N → N ≤ 4000000 → ∀ (B : Nat) (w : World) (cs : List Value), B ≤ w.heap.size → ExAt w B cs e →
    Calls Try.prog 10 #[.agg cs.toArray] w fun e' w' => e' = .returned (.int .i64 (e.size : Nat)) ∧ Below w.heap.size w w' := by
  induction N with
  | zero => intro e h; have := mass_pos e; omega
  | succ N ih =>
    intro e hN hN4 B w cs hB hx
    obtain ⟨c0, c1, c2, c3, c4, c5, c6, c7, c8, c9, c10, rfl⟩ := eleven_of hx.eleven
    obtain ⟨xn, xtk, xtn, xq, xnm, xtnm, xtA, xA, xAa, xAb, xtl, xtc, xkl, xc, xal, xca, xbl, xcb, rfl, rfl, rfl, rfl, rfl, rfl, rfl, rfl, rfl, rfl, rfl⟩ := ex_shape hx
    generalize hek : e.kind = ek at *
    obtain ⟨W2, hW2⟩ : ∃ W2, ((w.alloc (.cells #[.int .i64 ek, .string xnm, .int .i64 xn, .int .i64 xtk, .string xtnm, .int .i64 xtn, .slice xtA xtl xtc, .slice xA xkl xc, .slice xAa xal xca, .slice xAb xbl xcb, .int .i64 xq] 29)).alloc (.cells #[.int .i64 1] 3)).alloc (.cells #[.int .i64 ek, .string xnm, .int .i64 xn, .int .i64 xtk, .string xtnm, .int .i64 xtn, .slice xtA xtl xtc, .slice xA xkl xc, .slice xAa xal xca, .slice xAb xbl xcb, .int .i64 xq] 29) = W2 := ⟨_, rfl⟩
    have hb2 : Below w.heap.size w W2 := by rw [← hW2]; exact (((Below.refl _ _).alloc (Nat.le_refl _) _).alloc (by simp) _).alloc (by simp; omega) _
    have hz2 : W2.heap.size = w.heap.size + 3 := by rw [← hW2]; simp
    have hsb : Blk W2 (w.heap.size + 1) 3 #[.int .i64 1] := by
      rw [← hW2]
      have := (Blk.new (w.alloc (.cells #[.int .i64 ek, .string xnm, .int .i64 xn, .int .i64 xtk, .string xtnm, .int .i64 xtn, .slice xtA xtl xtc, .slice xA xkl xc, .slice xAa xal xca, .slice xAb xbl xcb, .int .i64 xq] 29)) 3 #[.int .i64 1]).alloc (.cells #[.int .i64 ek, .string xnm, .int .i64 xn, .int .i64 xtk, .string xtnm, .int .i64 xtn, .slice xtA xtl xtc, .slice xA xkl xc, .slice xAa xal xca, .slice xAb xbl xcb, .int .i64 xq] 29)
      simpa using this
    have heb : Blk W2 (w.heap.size + 1 + 1) 29 #[.int .i64 ek, .string xnm, .int .i64 xn, .int .i64 xtk, .string xtnm, .int .i64 xtn, .slice xtA xtl xtc, .slice xA xkl xc, .slice xAa xal xca, .slice xAb xbl xcb, .int .i64 xq] := by
      rw [← hW2]
      have := Blk.new ((w.alloc (.cells #[.int .i64 ek, .string xnm, .int .i64 xn, .int .i64 xtk, .string xtnm, .int .i64 xtn, .slice xtA xtl xtc, .slice xA xkl xc, .slice xAa xal xca, .slice xAb xbl xcb, .int .i64 xq] 29)).alloc (.cells #[.int .i64 1] 3)) 29 #[.int .i64 ek, .string xnm, .int .i64 xn, .int .i64 xtk, .string xtnm, .int .i64 xtn, .slice xtA xtl xtc, .slice xA xkl xc, .slice xAa xal xca, .slice xAb xbl xcb, .int .i64 xq]
      simpa using this
    have HW := Lib.hid hW2
    have HB2 := Lib.hid hb2
    have HSB := Lib.hid hsb
    have HEB := Lib.hid heb
    have HE := Lib.hid (hx.later (hb2.mono hB))
    have HZ2 := Lib.hid hz2
    have HEK := Lib.hid hek
    have HM := Lib.hid (size_parts e)
    have HIH := Lib.hid ih
    have HN := Lib.hid hN
    have HN4 := Lib.hid hN4
    have hmix : Try.prog.follows .mixedOrders = true := by kernel_rfl
    clear hW2 hb2 hsb heb hx hz2 hek ih hN hN4
    refine (callsIn_wide (n := 10)).1 (callsIn_of_wp_marks Try.func10 rfl trivial (wpIn_wide.2 ?_) rfl)
    simp only [Try.ntmps10, List.size_toArray, List.length_cons, List.length_nil, Nat.reduceAdd, Nat.reduceSub, Array.replicate_succ, Array.replicate_zero, List.push_toArray, List.append_toArray, List.nil_append, List.cons_append]
    go_wp2_with (go_at_call 32; refine (pparts_any _ [.int .i64 ek, .string xnm, .int .i64 xn, .int .i64 xtk, .string xtnm, .int .i64 xtn, .slice xtA xtl xtc, .slice xA xkl xc, .slice xAa xal xca, .slice xAb xbl xcb, .int .i64 xq]).mono ?_; rintro e2 w2 ⟨rfl, rfl⟩)
    rw [HW.out]
    refine range_mine (gf := 59) (lb := #[.pointer (some ⟨w.heap.size + 1 + 1, 0, none⟩)]) (K := fun k => k < B ∨ k = w.heap.size + 1 + 1) (N := e.parts.length) (Rd := PtRd e B) (fun _ i => i = w.heap.size + 1) (fun k W' => Blk W' (w.heap.size + 1) 3 #[.int .i64 ((1 + exsSize (e.parts.take k)) : Nat)]) rfl
      (enters_of Try.func59 (by kernel_rfl) rfl) ?hit (fun _ _ _ _ h => h) ?hX ?hK ?hps ?hJ ?h0 ?round ?done
    case hit =>
      intro W' hb hs
      exact parts_iter e B (w.heap.size + 1 + 1) W' _ (Nat.le_trans HN.out HN4.out) (Nat.le_trans hB (Nat.le_trans HB2.out.size hb.size)) (HE.out.later (hb.mono (Nat.le_trans hB HB2.out.size))) (HEB.out.below hb (by have := HZ2.out; omega))
    case hX => exact fun k A h i hi => by have h1 := Blk.lt h; have := HZ2.out; subst hi; exact ⟨h1, by omega⟩
    case hK => exact fun k hk => by have := HZ2.out; omega
    case hps => rintro Y k args W' hk ⟨cs, x, _, rfl, _⟩; rfl
    case hJ => exact fun k A B h hk => (hk.block _ rfl).trans h
    case h0 => exact HSB.out
    case round =>
      rintro l' k args W' hl hlW hk hj hnl hch ⟨cs', x, hxk, rfl, hxa⟩
      obtain ⟨c0, c1, c2, c3, c4, c5, c6, c7, c8, c9, c10, rfl⟩ := eleven_of hxa.eleven
      obtain ⟨n', tk', tn', q', nm', tnm', tA', A2, Aa', Ab', tl', tc', kl', cc', al', ca', bl', cb', rfl, rfl, rfl, rfl, rfl, rfl, rfl, rfl, rfl, rfl, rfl⟩ := ex_shape hxa
      generalize hek' : x.kind = ek' at *
      have hxm : x ∈ e.parts := List.mem_of_getElem? hxk
      have hxl := part_mass e x hxm
      have hkl : k < e.parts.length := hk
      have hxe : e.parts[k] = x := by rw [List.getElem?_eq_getElem hkl] at hxk; injection hxk
      have hW' := hch.size
      obtain ⟨S1, hS1⟩ : ∃ S1, (1 + exsSize (e.parts.take k)) = S1 := ⟨_, rfl⟩
      obtain ⟨S2, hS2⟩ : ∃ S2, x.size = S2 := ⟨_, rfl⟩
      have hS1' : S1 ≤ 4000000 := by have h1 := exsSize_take_le e.parts k; have h2 := HM.out; have h3 := size_mass e; have h4 := HN.out; have h5 := HN4.out; omega
      have hS2' : S2 ≤ 4000000 := by have h3 := size_mass x; have h4 := HN.out; have h5 := HN4.out; omega
      have HST := Lib.hid (show (1 + exsSize (e.parts.take (k + 1))) = S1 + S2 by have h := exsSize_take e.parts k hkl; rw [hxe] at h; omega)
      rw [hS1] at hj
      have HJK := Lib.hid hj
      have HCH := Lib.hid hch
      have HL := Lib.hid hl
      have HXA := Lib.hid hxa
      have HC := Lib.hid (fun (w' : World) (h1 : B ≤ w'.heap.size) (h2 : ExAt w' B [.int .i64 ek', .string nm', .int .i64 n', .int .i64 tk', .string tnm', .int .i64 tn', .slice tA' tl' tc', .slice A2 kl' cc', .slice Aa' al' ca', .slice Ab' bl' cb', .int .i64 q'] x) => HIH.out x (by have := HN.out; omega) (by have := HN4.out; omega) B w' _ h1 h2)
      have HS2 := Lib.hid hS2
      have hal : Below W'.heap.size W' (W'.alloc (.cells #[.int .i64 ek', .string nm', .int .i64 n', .int .i64 tk', .string tnm', .int .i64 tn', .slice tA' tl' tc', .slice A2 kl' cc', .slice Aa' al' ca', .slice Ab' bl' cb', .int .i64 q'] 29)) := (Below.refl _ _).alloc (Nat.le_refl _) _
      have HAL := Lib.hid hal
      have HBN := Lib.hid (Blk.new W' 29 #[.int .i64 ek', .string nm', .int .i64 n', .int .i64 tk', .string tnm', .int .i64 tn', .slice tA' tl' tc', .slice A2 kl' cc', .slice Aa' al' ca', .slice Ab' bl' cb', .int .i64 q'])
      have HW' := Lib.hid (show B ≤ W'.heap.size from Nat.le_trans hB (Nat.le_trans HB2.out.size hW'))
      have HLW := Lib.hid (show l' ≠ w.heap.size + 1 ∧ l' < W'.heap.size ∧ w.heap.size + 1 < W'.heap.size from ⟨by have := HZ2.out; omega, hlW, by have := HZ2.out; omega⟩)
      have HEK' := Lib.hid hek'
      clear hxk hxa hxm hxl hkl hxe hS1 hS2 hj hch hl hlW hk hal hek' hW'
      gi_wp2_with fail
      refine ⟨HAL.out, ?_⟩
      intro W3 hin
      obtain ⟨hc3, hj3, hX3, hcw⟩ := hin
      have hsz3 := hc3.size
      have hsb3 : Blk W3 (w.heap.size + 1) 3 #[.int .i64 (S1 : Nat)] := (hc3.block _ (by have := HLW.out; simp; omega) (by have := HLW.out; omega)).trans (HJK.out.alloc _)
      have hnb3 : Blk W3 W'.heap.size 29 #[.int .i64 ek', .string nm', .int .i64 n', .int .i64 tk', .string tnm', .int .i64 tn', .slice tA' tl' tc', .slice A2 kl' cc', .slice Aa' al' ca', .slice Ab' bl' cb', .int .i64 q'] := (hc3.block _ (by simp) (by have := HLW.out; omega)).trans HBN.out
      have hxa3 : ExAt W3 B [.int .i64 ek', .string nm', .int .i64 n', .int .i64 tk', .string tnm', .int .i64 tn', .slice tA' tl' tc', .slice A2 kl' cc', .slice Aa' al' ca', .slice Ab' bl' cb', .int .i64 q'] x := (HXA.out.later (HAL.out.mono HW'.out)).later (hc3.below (Nat.le_trans HW'.out HAL.out.size) (fun i hi => by have h1 := HL.out; have h2 := HZ2.out; omega))
      have hB3 : B ≤ W3.heap.size := Nat.le_trans HW'.out (Nat.le_trans HAL.out.size hsz3)
      have h1 := hsb3.cell 0
      have h1f := hsb3.frozen 0
      have g0 := hnb3.cell 0
      have g1 := hnb3.cell 1
      have g2 := hnb3.cell 2
      have g3 := hnb3.cell 3
      have g4 := hnb3.cell 4
      have g5 := hnb3.cell 5
      have g6 := hnb3.cell 6
      have g7 := hnb3.cell 7
      have g8 := hnb3.cell 8
      have g9 := hnb3.cell 9
      have g10 := hnb3.cell 10
      simp only [List.getElem?_toArray, List.getElem?_cons_succ, List.getElem?_cons_zero] at h1 g0 g1 g2 g3 g4 g5 g6 g7 g8 g9 g10
      have HSB3 := Lib.hid hsb3
      have HCC := Lib.hid (HC.out W3.drew hB3 (hxa3.keep fun _ _ => rfl))
      have HZ3 := Lib.hid (show w.heap.size + 1 < W3.heap.size by have := HLW.out; simp at hsz3; omega)
      clear hsb3 hnb3 hxa3 hc3 hcw hsz3 hj3 hX3
      gi_wp2_with fail
      gi_region_with_o ((try refine ⟨trivial, ?_⟩); (gi_at_call 10; refine (call_in HCC.out).mono ?_; rintro e5 w5 ⟨rfl, hb5⟩; have g11 := (hb5.cell (p := ⟨w.heap.size + 1, 0, none⟩) HZ3.out).trans h1; have g12 := (hb5.frozen (p := ⟨w.heap.size + 1, 0, none⟩) HZ3.out).trans h1f; rw [HS2.out]))
      all_goals
        have hwr : IntKind.i64.wrap ((S1 : Int) + (S2 : Int)) = ((S1 + S2 : Nat) : Int) := by rw [IntWalk.i64_in _ (by omega)]; omega
        have hb6 : Blk w5 (w.heap.size + 1) 3 #[.int .i64 (S1 : Nat)] := HSB3.out.below (Below.trans (Below.refl _ _).drew hb5) HZ3.out
        have HF := Lib.hid (show ChD (fun _ i => i = w.heap.size + 1) W3 (w5.setCell ⟨w.heap.size + 1, 0, none⟩ (.int .i64 (IntKind.i64.wrap ((S1 : Int) + (S2 : Int))))) ∧ Blk (w5.setCell ⟨w.heap.size + 1, 0, none⟩ (.int .i64 (IntKind.i64.wrap ((S1 : Int) + (S2 : Int))))) (w.heap.size + 1) 3 #[.int .i64 ((1 + exsSize (e.parts.take (k + 1))) : Nat)] from
          ⟨⟨(Chg.of_old (Below.trans (Below.refl _ _).drew hb5)).trans (setCell_chg _ _ _), fun _ _ h => h⟩, by rw [HST.out, ← hwr]; simpa using hb6.set_ 0 _⟩)
        clear hwr hb6 g11 g12 hb5
        gi_wp2_with fail
        exact HF.out
    case done =>
      intro D W' hD hj hch hnD hK
      have hfin : 1 + exsSize (e.parts.take e.parts.length) = e.size := by have h1 := HM.out; rw [List.take_of_length_le (Nat.le_refl _)]; omega
      rw [hfin] at hj
      have h1 := hj.cell 0
      simp only [List.getElem?_toArray, List.getElem?_cons_zero] at h1
      have hms : e.size ≤ 4000000 := by have := size_mass e; have := HN.out; have := HN4.out; omega
      have HF := Lib.hid (show Below w.heap.size w (W'.putObj D (.deferred none)) from
        (((Chg.of_old (X := fun b => b = w.heap.size + 1 ∨ b = D) HB2.out).trans (hch.chg.mono fun _ _ h => Or.inl h)).trans ((putObj_chg W' D _).mono fun _ _ h => Or.inr h)).below (Nat.le_refl _) (fun i hi => by have := HZ2.out; omega))
      clear hch hj hfin
      go_wp2_with fail
      first
        | exact marks_tmp rfl hK rfl ⟨rfl, HF.out⟩
        | exact marks_tmp rfl hK rfl ⟨congrArg (fun z => Ending.returned (.int .i64 z)) (by have := HM.out; omega), HF.out⟩

set_option maxHeartbeats 6400000 in
theorem pdeep_any (N : Nat) : ∀ (e : Ex), e.mass ≤ N → N ≤ 4000000 → ∀ (B : Nat) (w : World) (cs : List Value), B ≤ w.heap.size → ExAt w B cs e →
    Calls Try.prog 12 #[.agg cs.toArray] w fun e' w' => e' = .returned (.int .i64 (e.deep : Nat)) ∧ Below w.heap.size w w' := by
  induction N with
  | zero => intro e h; have := mass_pos e; omega
  | succ N ih =>
    intro e hN hN4 B w cs hB hx
    obtain ⟨c0, c1, c2, c3, c4, c5, c6, c7, c8, c9, c10, rfl⟩ := eleven_of hx.eleven
    obtain ⟨xn, xtk, xtn, xq, xnm, xtnm, xtA, xA, xAa, xAb, xtl, xtc, xkl, xc, xal, xca, xbl, xcb, rfl, rfl, rfl, rfl, rfl, rfl, rfl, rfl, rfl, rfl, rfl⟩ := ex_shape hx
    generalize hek : e.kind = ek at *
    obtain ⟨W2, hW2⟩ : ∃ W2, ((w.alloc (.cells #[.int .i64 ek, .string xnm, .int .i64 xn, .int .i64 xtk, .string xtnm, .int .i64 xtn, .slice xtA xtl xtc, .slice xA xkl xc, .slice xAa xal xca, .slice xAb xbl xcb, .int .i64 xq] 29)).alloc (.cells #[.int .i64 0] 3)).alloc (.cells #[.int .i64 ek, .string xnm, .int .i64 xn, .int .i64 xtk, .string xtnm, .int .i64 xtn, .slice xtA xtl xtc, .slice xA xkl xc, .slice xAa xal xca, .slice xAb xbl xcb, .int .i64 xq] 29) = W2 := ⟨_, rfl⟩
    have hb2 : Below w.heap.size w W2 := by rw [← hW2]; exact (((Below.refl _ _).alloc (Nat.le_refl _) _).alloc (by simp) _).alloc (by simp; omega) _
    have hz2 : W2.heap.size = w.heap.size + 3 := by rw [← hW2]; simp
    have hsb : Blk W2 (w.heap.size + 1) 3 #[.int .i64 0] := by
      rw [← hW2]
      have := (Blk.new (w.alloc (.cells #[.int .i64 ek, .string xnm, .int .i64 xn, .int .i64 xtk, .string xtnm, .int .i64 xtn, .slice xtA xtl xtc, .slice xA xkl xc, .slice xAa xal xca, .slice xAb xbl xcb, .int .i64 xq] 29)) 3 #[.int .i64 0]).alloc (.cells #[.int .i64 ek, .string xnm, .int .i64 xn, .int .i64 xtk, .string xtnm, .int .i64 xtn, .slice xtA xtl xtc, .slice xA xkl xc, .slice xAa xal xca, .slice xAb xbl xcb, .int .i64 xq] 29)
      simpa using this
    have heb : Blk W2 (w.heap.size + 1 + 1) 29 #[.int .i64 ek, .string xnm, .int .i64 xn, .int .i64 xtk, .string xtnm, .int .i64 xtn, .slice xtA xtl xtc, .slice xA xkl xc, .slice xAa xal xca, .slice xAb xbl xcb, .int .i64 xq] := by
      rw [← hW2]
      have := Blk.new ((w.alloc (.cells #[.int .i64 ek, .string xnm, .int .i64 xn, .int .i64 xtk, .string xtnm, .int .i64 xtn, .slice xtA xtl xtc, .slice xA xkl xc, .slice xAa xal xca, .slice xAb xbl xcb, .int .i64 xq] 29)).alloc (.cells #[.int .i64 0] 3)) 29 #[.int .i64 ek, .string xnm, .int .i64 xn, .int .i64 xtk, .string xtnm, .int .i64 xtn, .slice xtA xtl xtc, .slice xA xkl xc, .slice xAa xal xca, .slice xAb xbl xcb, .int .i64 xq]
      simpa using this
    have HW := Lib.hid hW2
    have HB2 := Lib.hid hb2
    have HSB := Lib.hid hsb
    have HEB := Lib.hid heb
    have HE := Lib.hid (hx.later (hb2.mono hB))
    have HZ2 := Lib.hid hz2
    have HEK := Lib.hid hek
    have HM := Lib.hid (size_parts e)
    have HIH := Lib.hid ih
    have HN := Lib.hid hN
    have HN4 := Lib.hid hN4
    have hmix : Try.prog.follows .mixedOrders = true := by kernel_rfl
    clear hW2 hb2 hsb heb hx hz2 hek ih hN hN4
    refine (callsIn_wide (n := 10)).1 (callsIn_of_wp_marks Try.func12 rfl trivial (wpIn_wide.2 ?_) rfl)
    simp only [Try.ntmps12, List.size_toArray, List.length_cons, List.length_nil, Nat.reduceAdd, Nat.reduceSub, Array.replicate_succ, Array.replicate_zero, List.push_toArray, List.append_toArray, List.nil_append, List.cons_append]
    go_wp2_with (go_at_call 32; refine (pparts_any _ [.int .i64 ek, .string xnm, .int .i64 xn, .int .i64 xtk, .string xtnm, .int .i64 xtn, .slice xtA xtl xtc, .slice xA xkl xc, .slice xAa xal xca, .slice xAb xbl xcb, .int .i64 xq]).mono ?_; rintro e2 w2 ⟨rfl, rfl⟩)
    rw [HW.out]
    refine range_mine (gf := 59) (lb := #[.pointer (some ⟨w.heap.size + 1 + 1, 0, none⟩)]) (K := fun k => k < B ∨ k = w.heap.size + 1 + 1) (N := e.parts.length) (Rd := PtRd e B) (fun _ i => i = w.heap.size + 1) (fun k W' => Blk W' (w.heap.size + 1) 3 #[.int .i64 ((exsDeep (e.parts.take k)) : Nat)]) rfl
      (enters_of Try.func59 (by kernel_rfl) rfl) ?hit (fun _ _ _ _ h => h) ?hX ?hK ?hps ?hJ ?h0 ?round ?done
    case hit =>
      intro W' hb hs
      exact parts_iter e B (w.heap.size + 1 + 1) W' _ (Nat.le_trans HN.out HN4.out) (Nat.le_trans hB (Nat.le_trans HB2.out.size hb.size)) (HE.out.later (hb.mono (Nat.le_trans hB HB2.out.size))) (HEB.out.below hb (by have := HZ2.out; omega))
    case hX => exact fun k A h i hi => by have h1 := Blk.lt h; have := HZ2.out; subst hi; exact ⟨h1, by omega⟩
    case hK => exact fun k hk => by have := HZ2.out; omega
    case hps => rintro Y k args W' hk ⟨cs, x, _, rfl, _⟩; rfl
    case hJ => exact fun k A B h hk => (hk.block _ rfl).trans h
    case h0 => exact HSB.out
    case round =>
      rintro l' k args W' hl hlW hk hj hnl hch ⟨cs', x, hxk, rfl, hxa⟩
      obtain ⟨c0, c1, c2, c3, c4, c5, c6, c7, c8, c9, c10, rfl⟩ := eleven_of hxa.eleven
      obtain ⟨n', tk', tn', q', nm', tnm', tA', A2, Aa', Ab', tl', tc', kl', cc', al', ca', bl', cb', rfl, rfl, rfl, rfl, rfl, rfl, rfl, rfl, rfl, rfl, rfl⟩ := ex_shape hxa
      generalize hek' : x.kind = ek' at *
      have hxm : x ∈ e.parts := List.mem_of_getElem? hxk
      have hxl := part_mass e x hxm
      have hkl : k < e.parts.length := hk
      have hxe : e.parts[k] = x := by rw [List.getElem?_eq_getElem hkl] at hxk; injection hxk
      have hW' := hch.size
      obtain ⟨S1, hS1⟩ : ∃ S1, (exsDeep (e.parts.take k)) = S1 := ⟨_, rfl⟩
      obtain ⟨S2, hS2⟩ : ∃ S2, x.deep = S2 := ⟨_, rfl⟩
      have hS1' : S1 ≤ 4000000 := by have h1 := exsSize_take_le e.parts k; have h2 := HM.out; have h3 := size_mass e; have h4 := HN.out; have h5 := HN4.out; omega
      have hS2' : S2 ≤ 4000000 := by have h3 := size_mass x; have h4 := HN.out; have h5 := HN4.out; omega
      have HST := Lib.hid (show (exsDeep (e.parts.take (k + 1))) = max S1 S2 by have h := exsSize_take e.parts k hkl; rw [hxe] at h; omega)
      rw [hS1] at hj
      have HJK := Lib.hid hj
      have HCH := Lib.hid hch
      have HL := Lib.hid hl
      have HXA := Lib.hid hxa
      have HC := Lib.hid (fun (w' : World) (h1 : B ≤ w'.heap.size) (h2 : ExAt w' B [.int .i64 ek', .string nm', .int .i64 n', .int .i64 tk', .string tnm', .int .i64 tn', .slice tA' tl' tc', .slice A2 kl' cc', .slice Aa' al' ca', .slice Ab' bl' cb', .int .i64 q'] x) => HIH.out x (by have := HN.out; omega) (by have := HN4.out; omega) B w' _ h1 h2)
      have HS2 := Lib.hid hS2
      have hal : Below W'.heap.size W' (W'.alloc (.cells #[.int .i64 ek', .string nm', .int .i64 n', .int .i64 tk', .string tnm', .int .i64 tn', .slice tA' tl' tc', .slice A2 kl' cc', .slice Aa' al' ca', .slice Ab' bl' cb', .int .i64 q'] 29)) := (Below.refl _ _).alloc (Nat.le_refl _) _
      have HAL := Lib.hid hal
      have HBN := Lib.hid (Blk.new W' 29 #[.int .i64 ek', .string nm', .int .i64 n', .int .i64 tk', .string tnm', .int .i64 tn', .slice tA' tl' tc', .slice A2 kl' cc', .slice Aa' al' ca', .slice Ab' bl' cb', .int .i64 q'])
      have HW' := Lib.hid (show B ≤ W'.heap.size from Nat.le_trans hB (Nat.le_trans HB2.out.size hW'))
      have HLW := Lib.hid (show l' ≠ w.heap.size + 1 ∧ l' < W'.heap.size ∧ w.heap.size + 1 < W'.heap.size from ⟨by have := HZ2.out; omega, hlW, by have := HZ2.out; omega⟩)
      have HEK' := Lib.hid hek'
      clear hxk hxa hxm hxl hkl hxe hS1 hS2 hj hch hl hlW hk hal hek' hW'
      gi_wp2_with fail
      refine ⟨HAL.out, ?_⟩
      intro W3 hin
      obtain ⟨hc3, hj3, hX3, hcw⟩ := hin
      have hsz3 := hc3.size
      have hsb3 : Blk W3 (w.heap.size + 1) 3 #[.int .i64 (S1 : Nat)] := (hc3.block _ (by have := HLW.out; simp; omega) (by have := HLW.out; omega)).trans (HJK.out.alloc _)
      have hnb3 : Blk W3 W'.heap.size 29 #[.int .i64 ek', .string nm', .int .i64 n', .int .i64 tk', .string tnm', .int .i64 tn', .slice tA' tl' tc', .slice A2 kl' cc', .slice Aa' al' ca', .slice Ab' bl' cb', .int .i64 q'] := (hc3.block _ (by simp) (by have := HLW.out; omega)).trans HBN.out
      have hxa3 : ExAt W3 B [.int .i64 ek', .string nm', .int .i64 n', .int .i64 tk', .string tnm', .int .i64 tn', .slice tA' tl' tc', .slice A2 kl' cc', .slice Aa' al' ca', .slice Ab' bl' cb', .int .i64 q'] x := (HXA.out.later (HAL.out.mono HW'.out)).later (hc3.below (Nat.le_trans HW'.out HAL.out.size) (fun i hi => by have h1 := HL.out; have h2 := HZ2.out; omega))
      have hB3 : B ≤ W3.heap.size := Nat.le_trans HW'.out (Nat.le_trans HAL.out.size hsz3)
      have h1 := hsb3.cell 0
      have h1f := hsb3.frozen 0
      have g0 := hnb3.cell 0
      have g1 := hnb3.cell 1
      have g2 := hnb3.cell 2
      have g3 := hnb3.cell 3
      have g4 := hnb3.cell 4
      have g5 := hnb3.cell 5
      have g6 := hnb3.cell 6
      have g7 := hnb3.cell 7
      have g8 := hnb3.cell 8
      have g9 := hnb3.cell 9
      have g10 := hnb3.cell 10
      simp only [List.getElem?_toArray, List.getElem?_cons_succ, List.getElem?_cons_zero] at h1 g0 g1 g2 g3 g4 g5 g6 g7 g8 g9 g10
      have HSB3 := Lib.hid hsb3
      have HCC := Lib.hid (HC.out W3.drew hB3 (hxa3.keep fun _ _ => rfl))
      have HZ3 := Lib.hid (show w.heap.size + 1 < W3.heap.size by have := HLW.out; simp at hsz3; omega)
      clear hsb3 hnb3 hxa3 hc3 hcw hsz3 hj3 hX3
      gi_wp2_with fail
      gi_region_with_o ((try refine ⟨trivial, ?_⟩); (gi_at_call 12; refine (call_in HCC.out).mono ?_; rintro e5 w5 ⟨rfl, hb5⟩; have g11 := (hb5.cell (p := ⟨w.heap.size + 1, 0, none⟩) HZ3.out).trans h1; have g12 := (hb5.frozen (p := ⟨w.heap.size + 1, 0, none⟩) HZ3.out).trans h1f; rw [HS2.out]))
      all_goals
        have hb6 : Blk w5 (w.heap.size + 1) 3 #[.int .i64 (S1 : Nat)] := HSB3.out.below (Below.trans (Below.refl _ _).drew hb5) HZ3.out
        have HF := Lib.hid (show ∀ z : Int, z = ((max S1 S2 : Nat) : Int) → ChD (fun _ i => i = w.heap.size + 1) W3 (w5.setCell ⟨w.heap.size + 1, 0, none⟩ (.int .i64 z)) ∧ Blk (w5.setCell ⟨w.heap.size + 1, 0, none⟩ (.int .i64 z)) (w.heap.size + 1) 3 #[.int .i64 ((exsDeep (e.parts.take (k + 1))) : Nat)] from
          fun z hz => ⟨⟨(Chg.of_old (Below.trans (Below.refl _ _).drew hb5)).trans (setCell_chg _ _ _), fun _ _ h => h⟩, by rw [HST.out, ← hz]; simpa using hb6.set_ 0 _⟩)
        clear hb6 g11 g12 hb5
        gi_wp2_with fail
        all_goals exact HF.out _ (by omega)
    case done =>
      intro D W' hD hj hch hnD hK
      have hfin : 1 + exsDeep (e.parts.take e.parts.length) = e.deep := by have h1 := HM.out; rw [List.take_of_length_le (Nat.le_refl _)]; omega
      rw [show exsDeep (e.parts.take e.parts.length) = e.deep - 1 by omega] at hj
      have h1 := hj.cell 0
      simp only [List.getElem?_toArray, List.getElem?_cons_zero] at h1
      have hms : e.deep ≤ 4000000 := by have := size_mass e; have := HN.out; have := HN4.out; omega
      have HF := Lib.hid (show Below w.heap.size w (W'.putObj D (.deferred none)) from
        (((Chg.of_old (X := fun b => b = w.heap.size + 1 ∨ b = D) HB2.out).trans (hch.chg.mono fun _ _ h => Or.inl h)).trans ((putObj_chg W' D _).mono fun _ _ h => Or.inr h)).below (Nat.le_refl _) (fun i hi => by have := HZ2.out; omega))
      clear hch hj hfin
      go_wp2_with fail
      first
        | exact marks_tmp rfl hK rfl ⟨rfl, HF.out⟩
        | exact marks_tmp rfl hK rfl ⟨congrArg (fun z => Ending.returned (.int .i64 z)) (by have := HM.out; omega), HF.out⟩

end Go.Proofs.Ytglamoiimmahgaa
