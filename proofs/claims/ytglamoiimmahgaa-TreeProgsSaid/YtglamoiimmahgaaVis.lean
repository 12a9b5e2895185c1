/- Walks: the closure that visits an expression, yielding the names that occur free. -/
import Derived.Shelf.RegionOpen
import Derived.IntWalk
import Derived.Deep.CutRange
import Derived.Test.YtglamoiimmahgaaPsize
import Derived.Test.YtglamoiimmahgaaVis0
namespace Go.Proofs.Ytglamoiimmahgaa
open Go.RowKit Go.Shelf
set_option linter.unusedVariables false
set_option linter.unusedSimpArgs false
set_option maxRecDepth 100000
attribute [local go_sem] Oper.semAt_some

def Ex.nm : Ex → ByteArray
  | .mk _ nm _ _ _ _ _ _ => nm
theorem ex_name_cell {w : World} {B : Nat} {c0 c1 c2 c3 c4 c5 c6 c7 c8 c9 c10 : Value} {e : Ex} (h : ExAt w B [c0, c1, c2, c3, c4, c5, c6, c7, c8, c9, c10] e) : c1 = .string e.nm := by
  generalize hl : [c0, c1, c2, c3, c4, c5, c6, c7, c8, c9, c10] = l at h
  cases h with
  | mk _ _ _ _ ht =>
    cases ht
    simp only [List.cons_append, List.nil_append, List.cons.injEq] at hl
    exact hl.2.1
theorem lit_small {n : Nat} (h : n ≤ 1000000000) : (Lit.int .i64 (n : Int)).wf = true := by
  have e1 : IntKind.i64.min = -9223372036854775808 := by decide
  have e2 : IntKind.i64.max = 9223372036854775807 := by decide
  simp only [Lit.wf, Bool.and_eq_true, decide_eq_true_eq, e1, e2]
  omega
/-- What a round over occurrences is handed. -/
def OcRd (all : List ByteArray) (k : Nat) (args : Array Value) (W : World) : Prop := ∃ s, all[k]? = some s ∧ args = #[.string s] ∧ s.size ≤ maxLen
/-- The closure's variables. -/
structure VSt (W : World) (l bb yb vb mb : Nat) : Prop where
  bnd : Blk W bb 112 #[.map (some mb)]
  yld : Blk W yb 111 #[.func (.yield l) #[] #[]]
  vis : Blk W vb 33 #[.func (.func 69) #[] #[.pointer (some ⟨bb, 0, none⟩), .pointer (some ⟨yb, 0, none⟩), .pointer (some ⟨vb, 0, none⟩)]]
theorem VSt.keep {W W' : World} {l bb yb vb mb : Nat} (h : VSt W l bb yb vb mb) (hk : ∀ b, b = bb ∨ b = yb ∨ b = vb → W'.heap[b]? = W.heap[b]?) : VSt W' l bb yb vb mb :=
  ⟨(hk _ (.inl rfl)).trans h.bnd, (hk _ (.inr (.inl rfl))).trans h.yld, (hk _ (.inr (.inr rfl))).trans h.vis⟩
theorem VSt.chg {X : Nat → Prop} {W W' : World} {l bb yb vb mb : Nat} (h : VSt W l bb yb vb mb) (hc : Chg X W W') (hX : ¬ X bb ∧ ¬ X yb ∧ ¬ X vb) : VSt W' l bb yb vb mb :=
  h.keep fun b hb => by
    rcases hb with rfl | rfl | rfl
    · exact hc.block _ h.bnd.lt hX.1
    · exact hc.block _ h.yld.lt hX.2.1
    · exact hc.block _ h.vis.lt hX.2.2
/-- What the closure answers. -/
def VisPost (X : World → Nat → Prop) (J : Nat → World → Prop) (mb t n : Nat) (bl : List ByteArray) (W : World) (e : Ending) (W' : World) : Prop :=
  e = .returned (.bool true) ∧ J t W' ∧ MapC W' mb n (cntF bl) ∧ ChD (fun A b => X A b ∨ b = mb) W W' ∧ ¬ X W' mb
theorem marks_cell {P : Program} {fn : Func} {R : Ending → World → Prop} {t : Tmp} {ty : TypeId} {v : Value} {tmps : Array Value} {D : Nat} {W : World} (hres : fn.results = #[.cell t ty]) (hK : W.heap[D]? = some (.deferred (some [])))
    (hv : (results fn tmps).run P (W.putObj D (.deferred none)) = .ok v (W.putObj D (.deferred none)))
    (h : R (.returned v) (W.putObj D (.deferred none))) : bodyPostM Fence.wide 10 P fn R .ret { tmps := tmps, defers := [{ target := .collected D, args := #[] }] } W :=
  ⟨by simp, .inl ⟨D, _, rfl, run_takeDeferred hK, _, hv, h⟩⟩

theorem stab_or {X : World → Nat → Prop} (hS : Stab X) (m : Nat) : Stab (fun A b => X A b ∨ b = m) := fun A B hk b hb => hb.elim (fun h => .inl (hS A B (hk.mono fun _ => .inl) b h)) .inr
set_option maxHeartbeats 12800000 in
theorem pvisit_any (l : Nat) (X : World → Nat → Prop) (J : Nat → World → Prop) (W0 : World) (all : List ByteArray) (B bb yb vb mb : Nat) (hS : Stab X) (hX : ∀ i A, J i A → ∀ b, X A b → b < A.heap.size ∧ B ≤ b)
    (hJ : ∀ i A B, J i A → Kep (X A) A B → J i B) (hb4 : W0.heap.size ≤ bb ∧ W0.heap.size ≤ yb ∧ W0.heap.size ≤ vb ∧ W0.heap.size ≤ mb ∧ bb ≠ mb ∧ yb ≠ mb ∧ vb ≠ mb) (hB0 : B ≤ W0.heap.size)
    (hY : ∀ i W1 args, i < all.length → J i W1 → ChD X W0 W1 → OcRd all i args W1 → Yld Try.prog l args W1 fun e W' => e = .returned (.bool true) ∧ ChD X W1 W' ∧ J (i + 1) W') (N : Nat) :
    ∀ (e : Ex), e.mass ≤ N → ∀ (bl : List ByteArray) (t m : Nat) (W : World) (cs : List Value), bl.length + e.mass ≤ 8000000 → e.mass ≤ 4000000 → m + 2 * e.mass ≤ 1000000000 → B ≤ W.heap.size → ExAt W B cs e → VSt W l bb yb vb mb → MapC W mb m (cntF bl) → J t W → ChD X W0 W → SegAt all t (e.occ bl) → (¬ X W bb ∧ ¬ X W yb ∧ ¬ X W vb ∧ ¬ X W mb) →
      Calls Try.prog 69 #[.agg cs.toArray, .pointer (some ⟨bb, 0, none⟩), .pointer (some ⟨yb, 0, none⟩), .pointer (some ⟨vb, 0, none⟩)] W (VisPost X J mb (t + (e.occ bl).length) (m + 2 * e.mass) bl W) := by
  have HS := Lib.hid hS
  have HX := Lib.hid hX
  have HJ := Lib.hid hJ
  have HY := Lib.hid hY
  have HB4 := Lib.hid hb4
  have HB0 := Lib.hid hB0
  clear hS hX hJ hY hb4 hB0
  induction N with
  | zero => intro e h; have := mass_pos e; omega
  | succ N ih =>
    intro e hN bl t m W cs hbl hN4 hm9 hB hx hst hmap hj hch hseg hnx
    obtain ⟨k, nm, ⟨n, ty, ks, als, bs, q0, he0⟩, hocc⟩ := occ_sc e bl
    have hnm := ex_fit hx k nm n ty ks als bs q0 he0
    obtain ⟨c0, c1, c2, c3, c4, c5, c6, c7, c8, c9, c10, rfl⟩ := eleven_of hx.eleven
    obtain ⟨xn, xtk, xtn, xq, xnm, xtnm, xtA, xA, xAa, xAb, xtl, xtc, xkl, xc, xal, xca, xbl, xcb, rfl, rfl, rfl, rfl, rfl, rfl, rfl, rfl, rfl, rfl, rfl⟩ := ex_shape hx
    have hkk : e.kind = k := by rw [he0]; rfl
    rw [hkk] at hx ⊢
    obtain rfl : xnm = nm := by
      rw [he0] at hx
      have := ex_name_cell hx
      injection this
    generalize hnn : xn = n at *
    have hfits := ex_fits hx
    obtain ⟨hd, hhd⟩ : ∃ hd, (if k = 3 ∧ hasS bl xnm = false then [xnm] else []) = hd := ⟨_, rfl⟩
    rw [hhd] at hocc
    obtain ⟨W1, hW1⟩ : ∃ W1, (W.alloc (.cells #[.int .i64 k, .string xnm, .int .i64 n, .int .i64 xtk, .string xtnm, .int .i64 xtn, .slice xtA xtl xtc, .slice xA xkl xc, .slice xAa xal xca, .slice xAb xbl xcb, .int .i64 xq] 29)).alloc (.cells #[.bool false] 4) = W1 := ⟨_, rfl⟩
    have hb1 : Below W.heap.size W W1 := by rw [← hW1]; exact ((Below.refl _ _).alloc (Nat.le_refl _) _).alloc (by simp) _
    have hz1 : W1.heap.size = W.heap.size + 2 := by rw [← hW1]; simp
    have heb : Blk W1 W.heap.size 29 #[.int .i64 k, .string xnm, .int .i64 n, .int .i64 xtk, .string xtnm, .int .i64 xtn, .slice xtA xtl xtc, .slice xA xkl xc, .slice xAa xal xca, .slice xAb xbl xcb, .int .i64 xq] := by rw [← hW1]; exact (Blk.new _ _ _).alloc _
    have hrb : Blk W1 (W.heap.size + 1) 4 #[.bool false] := by
      rw [← hW1]
      have := Blk.new (W.alloc (.cells #[.int .i64 k, .string xnm, .int .i64 n, .int .i64 xtk, .string xtnm, .int .i64 xtn, .slice xtA xtl xtc, .slice xA xkl xc, .slice xAa xal xca, .slice xAb xbl xcb, .int .i64 xq] 29)) 4 #[.bool false]
      simpa using this
    have hst1 : VSt W1 l bb yb vb mb := hst.keep fun b hb => hb1.block b (by rcases hb with rfl | rfl | rfl; exact hst.bnd.lt; exact hst.yld.lt; exact hst.vis.lt)
    have hmap1 : MapC W1 mb m (cntF bl) := hmap.blk (hb1.block mb hmap.lt)
    have hXW0 : ∀ i, X W i → i < W.heap.size := fun i hi => (HX.out t W hj i hi).1
    have hk1 : Kep (X W) W W1 := Kep.of_below hb1 hXW0
    have hX1 : ∀ i, X W1 i → X W i := HS.out W W1 hk1
    have hXW : ∀ i, X W1 i → i < W.heap.size := fun i hi => hXW0 i (hX1 i hi)
    have hj1 : J t W1 := HJ.out t W W1 hj hk1
    have hch1 : ChD X W0 W1 := hch.trans (ChD.own HS.out hXW0 hb1)
    have HNX := Lib.hid (show ¬ X W1 bb ∧ ¬ X W1 yb ∧ ¬ X W1 vb ∧ ¬ X W1 mb from ⟨fun h => hnx.1 (hX1 _ h), fun h => hnx.2.1 (hX1 _ h), fun h => hnx.2.2.1 (hX1 _ h), fun h => hnx.2.2.2 (hX1 _ h)⟩)
    have HCH0 := Lib.hid (ChD.own HS.out hXW0 hb1)
    have hx1 := hx.later (hb1.mono hB)
    have hc0 := heb.cell 0
    have hc1 := heb.cell 1
    have hbc := hst1.bnd.cell 0
    have hyc := hst1.yld.cell 0
    simp only [List.getElem?_toArray, List.getElem?_cons_succ, List.getElem?_cons_zero] at hc0 hc1 hbc hyc
    have hlook := hmap1.look hnm
    have hbe1 := HB4.out
    have HW := Lib.hid hW1
    have HB1 := Lib.hid hb1
    have HZ1 := Lib.hid hz1
    have HEB := Lib.hid heb
    have HRB := Lib.hid hrb
    have HST := Lib.hid hst1
    have HMP := Lib.hid hmap1
    have HXW := Lib.hid hXW
    have HJ1 := Lib.hid hj1
    have HCH := Lib.hid hch1
    have HE := Lib.hid hx1
    have HSEG := Lib.hid hseg
    have HOCC := Lib.hid hocc
    have HHD := Lib.hid hhd
    have HIH := Lib.hid ih
    have HFT := Lib.hid hfits
    have HN := Lib.hid (show e.mass ≤ N + 1 ∧ e.mass ≤ 4000000 ∧ bl.length + e.mass ≤ 8000000 ∧ m + 2 * e.mass ≤ 1000000000 ∧ B ≤ W.heap.size from ⟨hN, hN4, hbl, hm9, hB⟩)
    have HBE := Lib.hid hbe1
    have HS0 := Lib.hid hch.size
    have HMB := Lib.hid (show mb < W.heap.size ∧ bb < W.heap.size ∧ yb < W.heap.size ∧ vb < W.heap.size from ⟨hmap.lt, hst.bnd.lt, hst.yld.lt, hst.vis.lt⟩)
    clear hW1 hb1 hz1 heb hrb hst1 hmap1 hXW hj1 hch1 hx1 hseg hocc hhd ih hfits hst hmap hj hch hx he0 hkk hnx hXW0 hk1 hX1 hN hN4 hm9 hbl hB hbe1
    refine (callsIn_wide (n := 10)).1 (callsIn_of_wp_marks Try.func69 rfl trivial (wpIn_wide.2 ?_) rfl)
    simp only [Try.ntmps69, List.size_toArray, List.length_cons, List.length_nil, Nat.reduceAdd, Nat.reduceSub, Array.replicate_succ, Array.replicate_zero, List.push_toArray, List.append_toArray, List.nil_append, List.cons_append]
    go_upto_region 1 with fail
    rw [HW.out]
    go_cut [30] from 14 to 30 (fun v wx => v = .bool false ∧ J (t + hd.length) wx ∧ MapC wx mb m (cntF bl) ∧ ChD X W1 wx ∧ ¬ X wx mb)
    case first =>
      by_cases h3 : k = 3
      · have d3 : (k == 3) = true := by simpa using h3
        cases hh : hasS bl xnm with
        | true =>
          have hH := Lib.hid (show hd = [] by rw [← HHD.out, hh]; simp)
          have hF : cntF bl xnm.data.toList ≠ 0 := fun h => by rw [(cnt_has bl xnm).2 h] at hh; cases hh
          obtain ⟨F, hFF⟩ : ∃ F, cntF bl xnm.data.toList = F := ⟨_, rfl⟩
          rw [hFF] at hF hlook
          have dF : ((F : Int) == 0) = false := by simpa using hF
          clear h3 hh hFF hF
          go_wp2_with fail
          go_meet
          exact ⟨rfl, by rw [hH.out]; exact HJ1.out, HMP.out, ChD.refl _ _, HNX.out.2.2.2⟩
        | false =>
          have hH := Lib.hid (show hd = [xnm] by rw [← HHD.out, hh, if_pos ⟨h3, rfl⟩])
          have hF := (cnt_has bl xnm).1 hh
          rw [hF] at hlook
          have hat := HSEG.out 0 xnm (by rw [HOCC.out, hH.out]; rfl)
          obtain ⟨fn, tmps, assign, body, hy, hR⟩ := HY.out t W1 #[.string xnm] (List.getElem?_eq_some_iff.1 hat).1 HJ1.out HCH.out ⟨xnm, hat, rfl, hnm⟩
          clear h3 hh hF hat
          refine (wpIn_wide (n := 10)).1 ?_
          gi_wp2_with ((with_reducible refine (yld_in hR).mono ?_); clear hR hy; rintro e2 W2 ⟨rfl, hc2, hj2⟩)
          have hF := Lib.hid (show J (t + hd.length) W2 ∧ MapC W2 mb m (cntF bl) ∧ ChD X W1 W2 ∧ ¬ X W2 mb from ⟨by rw [hH.out]; exact hj2, HMP.out.blk (hc2.chg.block mb HMP.out.lt HNX.out.2.2.2), hc2, hc2.out HMP.out.lt HNX.out.2.2.2⟩)
          clear hj2 hc2
          go_wp2_with fail
          go_meet
          exact ⟨rfl, hF.out.1, hF.out.2.1, hF.out.2.2.1, hF.out.2.2.2⟩
      · have d3 : (k == 3) = false := by simpa using h3
        have hH := Lib.hid (show hd = [] by rw [← HHD.out, if_neg (fun h => h3 h.1)])
        clear h3
        go_wp2_with fail
        go_meet
        exact ⟨rfl, by rw [hH.out]; exact HJ1.out, HMP.out, ChD.refl _ _, HNX.out.2.2.2⟩
    case rest =>
      obtain ⟨rfl, hjx, hmx, hcx, hnmx⟩ := hcut
      have hbb := HB4.out
      have hsz := HS0.out
      have hstx : VSt wc l bb yb vb mb := HST.out.chg hcx.chg ⟨HNX.out.1, HNX.out.2.1, HNX.out.2.2.1⟩
      have hebx : Blk wc W.heap.size 29 #[.int .i64 k, .string xnm, .int .i64 n, .int .i64 xtk, .string xtnm, .int .i64 xtn, .slice xtA xtl xtc, .slice xA xkl xc, .slice xAa xal xca, .slice xAb xbl xcb, .int .i64 xq] := (hcx.chg.block _ HEB.out.lt (fun h => by have := HXW.out _ h; omega)).trans HEB.out
      have hrbx : Blk wc (W.heap.size + 1) 4 #[.bool false] := (hcx.chg.block _ HRB.out.lt (fun h => by have := HXW.out _ h; omega)).trans HRB.out
      have hXB : ∀ j A, J j A → ∀ i, X A i → B ≤ i := fun j A hj i h => (HX.out j A hj i h).2
      have hBW : B ≤ W1.heap.size := by have := HN.out; have := HZ1.out; omega
      have hex := HE.out.later (hcx.below hBW (hXB _ W1 HJ1.out))
      have hBx : B ≤ wc.heap.size := Nat.le_trans hBW hcx.size
      have g0 := hebx.cell 0
      have g1 := hebx.cell 1
      have g2 := hebx.cell 2
      have g3 := hebx.cell 3
      have g4 := hebx.cell 4
      have g5 := hebx.cell 5
      have g6 := hebx.cell 6
      have g7 := hebx.cell 7
      have g8 := hebx.cell 8
      have g9 := hebx.cell 9
      have g10 := hebx.cell 10
      simp only [List.getElem?_toArray, List.getElem?_cons_succ, List.getElem?_cons_zero] at g0 g1 g2 g3 g4 g5 g6 g7 g8 g9 g10
      obtain ⟨W2, hW2⟩ : ∃ W2, wc.alloc (.cells #[.int .i64 k, .string xnm, .int .i64 n, .int .i64 xtk, .string xtnm, .int .i64 xtn, .slice xtA xtl xtc, .slice xA xkl xc, .slice xAa xal xca, .slice xAb xbl xcb, .int .i64 xq] 29) = W2 := ⟨_, rfl⟩
      have hb2 : Below wc.heap.size wc W2 := by rw [← hW2]; exact (Below.refl _ _).alloc (Nat.le_refl _) _
      have hz2 : W2.heap.size = wc.heap.size + 1 := by rw [← hW2]; simp
      have hsb : Blk W2 wc.heap.size 29 #[.int .i64 k, .string xnm, .int .i64 n, .int .i64 xtk, .string xtnm, .int .i64 xtn, .slice xtA xtl xtc, .slice xA xkl xc, .slice xAa xal xca, .slice xAb xbl xcb, .int .i64 xq] := by rw [← hW2]; exact Blk.new _ _ _
      have hXc : ∀ i, X wc i → i < wc.heap.size := fun i hi => (HX.out _ wc hjx i hi).1
      have hk2 : Kep (X wc) wc W2 := Kep.of_below hb2 hXc
      have hX2 : ∀ i, X W2 i → X wc i := HS.out wc W2 hk2
      have HNX2 := Lib.hid (show ¬ X W2 bb ∧ ¬ X W2 yb ∧ ¬ X W2 vb ∧ ¬ X W2 mb ∧ ¬ X W2 wc.heap.size ∧ ¬ X W2 (W.heap.size + 1) from
        ⟨fun h => hcx.out HST.out.bnd.lt HNX.out.1 (hX2 _ h), fun h => hcx.out HST.out.yld.lt HNX.out.2.1 (hX2 _ h), fun h => hcx.out HST.out.vis.lt HNX.out.2.2.1 (hX2 _ h), fun h => hnmx (hX2 _ h),
          fun h => by have := hXc _ (hX2 _ h); omega, fun h => hcx.out HRB.out.lt (fun h => by have := HXW.out _ h; omega) (hX2 _ h)⟩)
      have HCX2 := Lib.hid (show ChD X W1 W2 from hcx.trans (ChD.own HS.out hXc hb2))
      have HJ22 := Lib.hid (HJ.out _ wc W2 hjx hk2)
      have HX2B := Lib.hid (show ∀ i, X W2 i → i < wc.heap.size from fun i hi => hXc i (hX2 i hi))
      have HS1 := Lib.hid (stab_or HS.out mb)
      have hwc : W.heap.size + 2 ≤ wc.heap.size := by have := HZ1.out; have := hcx.size; omega
      have hst2 : VSt W2 l bb yb vb mb := hstx.keep fun b hb => hb2.block b (by rcases hb with rfl | rfl | rfl; exact hstx.bnd.lt; exact hstx.yld.lt; exact hstx.vis.lt)
      have HXB := Lib.hid hXB
      have HW2 := Lib.hid hW2
      have HB2 := Lib.hid hb2
      have HZ2 := Lib.hid hz2
      have HSB := Lib.hid hsb
      have HST2 := Lib.hid hst2
      have HRBX := Lib.hid hrbx
      have HJX := Lib.hid hjx
      have HMX := Lib.hid hmx
      have HCX := Lib.hid hcx
      have HEX := Lib.hid (hex.later (hb2.mono hBx))
      have HBX := Lib.hid hBx
      have HWC := Lib.hid hwc
      clear hk2 hX2 hnmx hbb hsz hstx hebx hrbx hXB hBW hex hBx hW2 hb2 hz2 hsb hXc hwc hst2 hjx hmx hcx hc0 hc1 hbc hyc hlook
      go_wp2_with (go_at_call 60; refine (pscopes_any _ [.int .i64 k, .string xnm, .int .i64 n, .int .i64 xtk, .string xtnm, .int .i64 xtn, .slice xtA xtl xtc, .slice xA xkl xc, .slice xAa xal xca, .slice xAb xbl xcb, .int .i64 xq]).mono ?_; rintro e2 w2 ⟨rfl, rfl⟩)
      rw [HW2.out]
      refine range_mine (gf := 70) (lb := #[.pointer (some ⟨wc.heap.size, 0, none⟩)]) (K := fun i => i < B ∨ i = wc.heap.size) (N := e.scL.length) (Rd := ScRd e B) (fun A i => X A i ∨ i = mb)
        (fun i W' => J (t + hd.length + (scOcc bl (e.scL.take i)).length) W' ∧ MapC W' mb (m + 2 * scS (e.scL.take i)) (cntF bl) ∧ ¬ X W' mb ∧ ¬ X W' wc.heap.size) rfl (enters_of Try.func70 (by kernel_rfl) rfl) ?hit HS1.out ?hX ?hK ?hps ?hJ ?h0 ?round ?done
      case hit =>
        intro W' hb hs
        exact scopes_iter e B wc.heap.size W' _ HN.out.2.1 (Nat.le_trans HBX.out (Nat.le_trans HB2.out.size hb.size)) (HEX.out.later (hb.mono (Nat.le_trans HBX.out HB2.out.size))) (HSB.out.below hb (by have := HZ2.out; omega))
      case hX =>
        rintro k A ⟨h1, h2, h3, h4⟩ i hi
        have h5 := HMX.out.lt
        have h6 := HB4.out
        have h7 := HB0.out
        rcases hi with hi | rfl
        · refine ⟨(HX.out _ A h1 i hi).1, fun h => ?_⟩
          rcases h with h | rfl
          · have := HXB.out _ A h1 i hi; omega
          · exact h4 hi
        · exact ⟨h2.lt, by omega⟩
      case hK => exact fun i hi => by have := HZ2.out; have := HBX.out; omega
      case hps => rintro Y i args W' hi ⟨ns, es, A, c, A', c', L, _, rfl, _⟩; rfl
      case hJ => exact fun i A B h hk => ⟨HJ.out _ A B h.1 (hk.mono fun _ => .inl), h.2.1.blk (hk.block mb (.inr rfl)), fun hx => h.2.2.1 (HS.out A B (hk.mono fun _ => .inl) _ hx), fun hx => h.2.2.2 (HS.out A B (hk.mono fun _ => .inl) _ hx)⟩
      case h0 => exact ⟨by simpa [scOcc] using HJ22.out, by simpa [scS] using HMX.out.blk (HB2.out.block mb HMX.out.lt), HNX2.out.2.2.2.1, HNX2.out.2.2.2.2.1⟩
      case round =>
        rintro l' kk args W' hl hlW hkk ⟨hj, hmp, hnm, hnbx⟩ hnl' hch ⟨ns, es, A, c, A', c', L, hsc, rfl, hnr, hrow, hexs, hs1, hs2⟩
        obtain ⟨nl, hnl⟩ : ∃ nl, ns.length = nl := ⟨_, rfl⟩
        obtain ⟨m2, hm2⟩ : ∃ m2, es.length = m2 := ⟨_, rfl⟩
        have hft : ∀ x ∈ ns, x.size ≤ maxLen := HFT.out (ns, es) (List.mem_of_getElem? hsc)
        have hsct := scS_take hsc
        have hscl := scS_take_le e.scL (kk + 1)
        have hscm := scS_mass e
        simp only [hnl] at hsct
        rw [hnl] at hnr hs1 ⊢
        rw [hm2] at hrow hs2 ⊢
        obtain ⟨mk, hmk⟩ : ∃ mk, m + 2 * scS (e.scL.take kk) = mk := ⟨_, rfl⟩
        obtain ⟨em, hem⟩ : ∃ em, exsMass es = em := ⟨_, rfl⟩
        rw [hem] at hsct
        rw [hmk] at hmp
        have hnum : mk + 2 * nl + 2 * em ≤ 1000000000 ∧ bl.length + nl + em ≤ 8000000 ∧ nl ≤ 4000000 ∧ m2 ≤ 4000000 := by
          have h1 := HN.out
          have h2 := exs_len_mass es
          omega
        have HNUM := Lib.hid (show m + 2 * scS (e.scL.take (kk + 1)) = mk + 2 * nl + 2 * em by omega)
        have hwW := hch.size
        have hstW : VSt W' l bb yb vb mb := HST2.out.keep fun b hb => hch.chg.block b (by rcases hb with rfl | rfl | rfl; exact HST2.out.bnd.lt; exact HST2.out.yld.lt; exact HST2.out.vis.lt) (by
          have h := HB4.out
          have h2 := HNX2.out
          have h3 : b < W2.heap.size := by rcases hb with rfl | rfl | rfl; exact HST2.out.bnd.lt; exact HST2.out.yld.lt; exact HST2.out.vis.lt
          rintro ((h4 | h4) | h4)
          · rcases hb with rfl | rfl | rfl
            · exact h2.1 h4
            · exact h2.2.1 h4
            · exact h2.2.2.1 h4
          · rcases hb with rfl | rfl | rfl
            · exact h.2.2.2.2.1 h4
            · exact h.2.2.2.2.2.1 h4
            · exact h.2.2.2.2.2.2 h4
          · omega)
        have hnxW : ¬ X W' bb ∧ ¬ X W' yb ∧ ¬ X W' vb := by
          have h := HB4.out
          have h2 := HNX2.out
          refine ⟨fun hx => ?_, fun hx => ?_, fun hx => ?_⟩
          · rcases hch.sub bb HST2.out.bnd.lt (.inl (.inl hx)) with (h4 | h4) | h4
            · exact h2.1 h4
            · exact h.2.2.2.2.1 h4
            · have := HST2.out.bnd.lt; omega
          · rcases hch.sub yb HST2.out.yld.lt (.inl (.inl hx)) with (h4 | h4) | h4
            · exact h2.2.1 h4
            · exact h.2.2.2.2.2.1 h4
            · have := HST2.out.yld.lt; omega
          · rcases hch.sub vb HST2.out.vis.lt (.inl (.inl hx)) with (h4 | h4) | h4
            · exact h2.2.2.1 h4
            · exact h.2.2.2.2.2.2 h4
            · have := HST2.out.vis.lt; omega
        have hlmb : mb ≠ l' := by have := HMB.out; have := HWC.out; have := HZ2.out; omega
        have HFN := Lib.hid hft
        have HSC := Lib.hid hsc
        have HROW := Lib.hid hrow
        have HEXS := Lib.hid hexs
        have HNR := Lib.hid hnr
        have HSFN := Lib.hid (show ∀ ad, A = some ad → 0 < nl → ¬ ad.block = mb from fun ad e h hx => hs1 ad e h (.inl (.inr hx)))
        have HS1' := Lib.hid (show ∀ ad, A = some ad → 0 < nl → (¬ X W' ad.block ∧ ad.block ≠ mb ∧ ad.block ≠ l') from fun ad e h => ⟨fun hx => hs1 ad e h (.inl (.inl hx)), fun hx => hs1 ad e h (.inl (.inr hx)), fun hx => hs1 ad e h (.inr hx)⟩)
        have HS2 := Lib.hid (show ∀ ad, A' = some ad → 0 < m2 → (¬ X W' ad.block ∧ ad.block ≠ mb ∧ ad.block ≠ l') from fun ad e h => ⟨fun hx => hs2 ad e h (.inl (.inl hx)), fun hx => hs2 ad e h (.inl (.inr hx)), fun hx => hs2 ad e h (.inr hx)⟩)
        have HNL := Lib.hid hnl
        have HM2 := Lib.hid hm2
        have HEM := Lib.hid hem
        have HJK := Lib.hid hj
        have HMK := Lib.hid hmp
        have HCW := Lib.hid hch
        have HL := Lib.hid hl
        have HNB := Lib.hid hnum
        have HSTW := Lib.hid hstW
        have HWW := Lib.hid (show B ≤ W'.heap.size ∧ W2.heap.size ≤ W'.heap.size from ⟨Nat.le_trans HBX.out (Nat.le_trans HB2.out.size hwW), hwW⟩)
        have HKK := Lib.hid hkk
        have HNXW := Lib.hid hnxW
        have HLMB := Lib.hid hlmb
        have HNM := Lib.hid hnm
        clear hnxW hlmb hnm hnbx hnl' hft hsct hscl hscm hsc hrow hexs hnr hs1 hs2 hnl hm2 hem hj hmp hch hl hnum hstW hwW hmk hkk
        gi_wp2_with fail
        refine ⟨Below.refl _ _, ?_⟩
        intro W3 hin
        obtain ⟨hc3, ⟨hj3, hmp3, hnm3, hnb3⟩, hX3, hcw⟩ := hin
        have HSTL := Lib.hid (HSTW.out.chg hc3 (by have := HL.out; have := HMB.out; have := HWC.out; have := HZ2.out; exact ⟨by omega, by omega, by omega⟩))
        have HMP3 := Lib.hid (HMK.out.blk (hc3.block mb HMK.out.lt HLMB.out))
        have HNM3 := Lib.hid hnm3
        have HNB3 := Lib.hid hnb3
        have HX3W := Lib.hid (show ∀ b, X W3 b → X W' b ∨ b = mb from fun b h => hX3 b (.inl h))
        have HJ3 := Lib.hid hj3
        have HNRL := Lib.hid (reads_chg HNR.out (fun ad e h => (HS1'.out ad e h).2.2) hc3)
        have HRL := Lib.hid (show Reads W3 W3.heap.size 11 A' m2 L.flatten from reads_chg HROW.out.reads (fun ad e h => (HS2.out ad e h).2.2) hc3)
        have HXL := Lib.hid (HEXS.out.later (hc3.below HWW.out.1 (fun i hi => by have := HL.out; have := HZ2.out; have := HBX.out; omega)))
        have HC3 := Lib.hid hc3
        have HCW3 := Lib.hid hcw
        have HZ3 := Lib.hid (show B ≤ W3.heap.size ∧ W2.heap.size ≤ W3.heap.size ∧ mb < W3.heap.size from ⟨Nat.le_trans HWW.out.1 hc3.size, Nat.le_trans HWW.out.2 hc3.size, Nat.lt_of_lt_of_le HMK.out.lt hc3.size⟩)
        clear hc3 hcw hj3 hmp3 hnm3 hnb3 hX3
        gi_wp2_with fail
        gi_loopw [37] (fun i wr => ∃ j : Nat, i = .int .i64 j ∧ j ≤ nl ∧ MapC wr mb (mk + j) (cntF (bl ++ ns.take j)) ∧ Chg (· = mb) W3 wr) (fun i _ => nl - (intOf i).toNat)
        case atStart => exact ⟨0, rfl, Nat.zero_le _, by simpa using HMP3.out, Chg.refl _ _⟩
        case round =>
          obtain ⟨j, rfl, hj, hmj, hcj⟩ := hrel
          have hbb : VSt wr l bb yb vb mb := HSTL.out.chg hcj ⟨HB4.out.2.2.2.2.1, HB4.out.2.2.2.2.2.1, HB4.out.2.2.2.2.2.2⟩
          have hbc := hbb.bnd.cell 0
          simp only [List.getElem?_toArray, List.getElem?_cons_zero] at hbc
          have hnr' : Reads wr wr.heap.size 1 A nl (nmVals ns) := reads_chg HNRL.out (fun ad e h => HSFN.out ad e h) hcj
          have HMJ := Lib.hid hmj
          have HCJ := Lib.hid hcj
          by_cases hlt : j < nl
          · obtain ⟨ad, rfl, hbl, hl, hc⟩ := nm_at hnr' hlt
            obtain ⟨x, hx⟩ : ∃ x, ns[j] = x := ⟨_, rfl⟩
            rw [hx] at hc
            have hxf : x.size ≤ maxLen := HFN.out x (by rw [← hx]; exact List.getElem_mem hl)
            obtain ⟨F, hF⟩ : ∃ F, (cntF (bl ++ ns.take j)) x.data.toList = F := ⟨_, rfl⟩
            have hlook := hmj.look hxf
            rw [hF] at hlook
            have hF9 : F ≤ 8000000 ∧ True := by
              rw [← hF]
              exact ⟨by have h := cnt_le (bl ++ ns.take j) x.data.toList; have h2 := HNB.out; simp at h; omega, trivial⟩
            have HNXT := Lib.hid (show updF (cntF (bl ++ ns.take j)) x.data.toList (F + 1) = cntF (bl ++ ns.take (j + 1)) by rw [← hF, ← hx]; rw [upd_more, List.append_assoc, List.take_succ_eq_append_getElem hl])
            obtain ⟨D, hown, hD, hDf⟩ := hmj
            have HDM := Lib.hid (And.intro hD hDf)
            have hkey := Go.WideMaps.keyOf_string_mk (P := Try.prog) Try.underlying9 hxf
            have hnb := HNB.out
            clear hnr' hx hxf hF hcj hD hDf hbl
            gi_wp2_with (gi_at_mapUpdate; refine wpListIn_mapUpdate_own _ rfl _ _ _ 112 rfl 9 3 (Go.Maps.string_keyed Try.underlying9) Try.underlying112 _ mb (mk + j) D rfl hown (by unfold maxLen; omega) _ (.int .i64 ((F : Int) + 1)) (.string x.data.toList) rfl rfl hkey (.lit (.int .i64 ((F : Int) + 1))) [] (plainElem_int Try.underlying3 (by have h9 := lit_small (n := F + 1) (by omega); rw [show ((F + 1 : Nat) : Int) = (F : Int) + 1 by omega] at h9; exact h9)) ?_; intro w1 hown1 hgrow1)
            have HN1 := Lib.hid (show MapC w1 mb (mk + (j + 1)) (cntF (bl ++ ns.take (j + 1))) by rw [← HNXT.out]; exact MapC.put x.data.toList HDM.out.1 HDM.out.2 (by rw [show ((F + 1 : Nat) : Int) = (F : Int) + 1 by omega]; exact hown1))
            have HC1 := Lib.hid (HCJ.out.trans (⟨hgrow1.os, hgrow1.tape, hgrow1.output, hgrow1.size, fun b hb hn => hgrow1.block b hb (fun e => hn (by injection e))⟩ : Chg (· = mb) wr w1))
            clear hown1 hgrow1 hown
            gi_wp2_with fail
            go_roundw
            case rel => exact ⟨j + 1, by go_num, by omega, HN1.out, HC1.out⟩
            case measure => simp [intOf]; omega
          · obtain rfl : nl = j := by omega
            obtain ⟨W4, rfl⟩ : ∃ W4, W4 = wr := ⟨_, rfl⟩
            have htk : ns.take nl = ns := List.take_of_length_le (by rw [HNL.out]; omega)
            have hz4 := hcj.size
            have HMP4 := Lib.hid (show MapC W4 mb (mk + nl) (cntF (bl ++ ns)) by rw [htk] at hmj; exact hmj)
            have hk4 : Kep (X W3) W3 W4 := Kep.of_chg hcj fun i hi => ⟨(HX.out _ W3 HJ3.out i hi).1, fun e => HNM3.out (e ▸ hi)⟩
            have HX4W := Lib.hid (show ∀ b, X W4 b → X W3 b from HS.out W3 W4 hk4)
            have HJ4 := Lib.hid (HJ.out _ _ W4 HJ3.out hk4)
            have HST4 := Lib.hid hbb
            have HR4 := Lib.hid (reads_chg HRL.out (fun ad e h => (HS2.out ad e h).2.1) hcj)
            have HNR4 := Lib.hid hnr'
            have HX4 := Lib.hid (HXL.out.later (hcj.below HZ3.out.1 (fun i hi => by have := HB4.out; have := HB0.out; omega)))
            have HC34 := Lib.hid (show ChD (fun A b => X A b ∨ b = mb) W3 W4 from ⟨hcj.mono fun _ _ h => .inr h, fun i _ h => h.elim (fun h => .inl (HX4W.out i h)) .inr⟩)
            have HB44 := Lib.hid (Nat.le_trans HZ3.out.1 hz4)
            have HCA4 := Lib.hid (show ChD (fun A b => (X A b ∨ b = mb) ∨ b = l') W2 W4 from HCW3.out.trans ⟨hcj.mono fun _ _ h => .inl (.inr h), fun i _ h => h.elim (fun h => h.elim (fun h => .inl (.inl (HX4W.out i h))) (fun h => .inl (.inr h))) .inr⟩)
            clear hk4 hmj hcj hbb hbc hnr' htk
            gi_wp2_with fail
            gi_loopw [48] (fun i wr => ∃ j : Nat, i = .int .i64 j ∧ j ≤ m2 ∧ J ((t + hd.length + (scOcc bl (e.scL.take kk)).length) + (exsOcc (es.take j) (bl ++ ns)).length) wr ∧ MapC wr mb (mk + nl + 2 * exsMass (es.take j)) (cntF (bl ++ ns)) ∧ ChD (fun A b => X A b ∨ b = mb) W4 wr ∧ ¬ X wr mb) (fun i _ => m2 - (intOf i).toNat)
            case atStart => exact ⟨0, rfl, Nat.zero_le _, by simpa [exsOcc] using HJ4.out, by simpa [exsMass] using HMP4.out, ChD.refl _ _, fun h => HNM3.out (HX4W.out _ h)⟩
            case round =>
              obtain ⟨j, rfl, hj, hjj, hmj, hcj, hnmj⟩ := hrel
              have hXm : ∀ b, b = bb ∨ b = yb ∨ b = vb → ¬ (X W4 b ∨ b = mb) := fun b hb h => by
                have h4 := HB4.out
                have h5 := HNXW.out
                rcases h with h | h
                · rcases HX3W.out _ (HX4W.out _ h) with h | h
                  · rcases hb with rfl | rfl | rfl
                    · exact h5.1 h
                    · exact h5.2.1 h
                    · exact h5.2.2 h
                  · rcases hb with rfl | rfl | rfl
                    · exact h4.2.2.2.2.1 h
                    · exact h4.2.2.2.2.2.1 h
                    · exact h4.2.2.2.2.2.2 h
                · rcases hb with rfl | rfl | rfl
                  · exact h4.2.2.2.2.1 h
                  · exact h4.2.2.2.2.2.1 h
                  · exact h4.2.2.2.2.2.2 h
              have hstr : VSt wr l bb yb vb mb := HST4.out.chg hcj.chg ⟨hXm _ (.inl rfl), hXm _ (.inr (.inl rfl)), hXm _ (.inr (.inr rfl))⟩
              have hrowr : Row wr wr.heap.size 11 A' m2 L := ⟨HROW.out.len, HROW.out.each, reads_chg HR4.out (fun ad e' h hx => by have h0 := HS2.out ad e' h; rcases hx with hx | hx; exact (HX3W.out _ (HX4W.out _ hx)).elim h0.1 h0.2.1; exact h0.2.1 hx) hcj.chg⟩
              have hB4' : B ≤ W4.heap.size := HB44.out
              have hexr := HX4.out.later (hcj.below hB4' (fun i hi => by rcases hi with hi | rfl; exact HXB.out _ W4 HJ4.out i hi; have := HB4.out; have := HB0.out; omega))
              have hzr := hcj.size
              have HCJ := Lib.hid hcj
              have HSTR := Lib.hid hstr
              have HJJ := Lib.hid hjj
              have HMJ := Lib.hid hmj
              have hnb4 : ¬ X wr bb ∧ ¬ X wr yb ∧ ¬ X wr vb := ⟨fun h => hcj.out HST4.out.bnd.lt (hXm _ (.inl rfl)) (.inl h), fun h => hcj.out HST4.out.yld.lt (hXm _ (.inr (.inl rfl))) (.inl h), fun h => hcj.out HST4.out.vis.lt (hXm _ (.inr (.inr rfl))) (.inl h)⟩
              clear hXm
              by_cases hlt : j < m2
              · have hjk : j < es.length := by rw [HM2.out]; exact hlt
                obtain ⟨g, o, c0, c1, c2, c3, c4, c5, c6, c7, c8, c9, c10, rfl, hg, ⟨hl1, hLj⟩, k0, k1, k2, k3, k4, k5, k6, k7, k8, k9, k10⟩ := ex_cells hrowr hlt
                have hej := hexr.exp j hl1 hjk
                rw [hLj] at hej
                obtain ⟨n', tk', tn', q', nm', tnm', tA', A2, Aa', Ab', tl', tc', kl', cc', al', ca', bl', cb', rfl, rfl, rfl, rfl, rfl, rfl, rfl, rfl, rfl, rfl, rfl⟩ := ex_shape hej
                generalize es[j].kind = ek' at *
                have hal : Below wr.heap.size wr (wr.alloc (.cells #[.int .i64 ek', .string nm', .int .i64 n', .int .i64 tk', .string tnm', .int .i64 tn', .slice tA' tl' tc', .slice A2 kl' cc', .slice Aa' al' ca', .slice Ab' bl' cb', .int .i64 q'] 29)) := (Below.refl _ _).alloc (Nat.le_refl _) _
                have hBr : B ≤ wr.heap.size := Nat.le_trans hB4' hzr
                have hstA : VSt (wr.alloc (.cells #[.int .i64 ek', .string nm', .int .i64 n', .int .i64 tk', .string tnm', .int .i64 tn', .slice tA' tl' tc', .slice A2 kl' cc', .slice Aa' al' ca', .slice Ab' bl' cb', .int .i64 q'] 29)) l bb yb vb mb := hstr.keep fun b hb => hal.block b (by rcases hb with rfl | rfl | rfl; exact hstr.bnd.lt; exact hstr.yld.lt; exact hstr.vis.lt)
                have hvc := hstA.vis.cell 0
                simp only [List.getElem?_toArray, List.getElem?_cons_zero] at hvc
                have hmem : es[j] ∈ es := List.getElem_mem hjk
                have hmj9 := exs_mem_mass es es[j] hmem
                have hmt := exsMass_take hjk
                have hmt2 := exsMass_take_le es (j + 1)
                have hemm := HEM.out
                have hnum := HNB.out
                have hbnd : (bl ++ ns).length + es[j].mass ≤ 8000000 ∧ es[j].mass ≤ 4000000 ∧ mk + nl + 2 * exsMass (es.take j) + 2 * es[j].mass ≤ 1000000000 ∧ es[j].mass ≤ N := by
                  have h1 := HNL.out
                  have h2 := HN.out
                  have hpm : es[j] ∈ e.parts := by
                    rw [← scL_parts]
                    exact List.mem_flatten.2 ⟨es, List.mem_map.2 ⟨(ns, es), List.mem_of_getElem? HSC.out, rfl⟩, hmem⟩
                  have h3 := part_mass e es[j] hpm
                  simp only [List.length_append]
                  omega
                have hsegj : SegAt all ((t + hd.length + (scOcc bl (e.scL.take kk)).length) + (exsOcc (es.take j) (bl ++ ns)).length) (es[j].occ (bl ++ ns)) := by
                  have h0 := HSEG.out
                  rw [HOCC.out, scOcc_split bl HSC.out] at h0
                  have h1 := h0.right.right.left
                  simp only at h1
                  rw [exsOcc_split (bl ++ ns) hjk] at h1
                  exact h1.right.left
                have hXr : ∀ i, X wr i → i < wr.heap.size := fun i hi => (HX.out _ wr hjj i hi).1
                have hkr : Kep (X wr) wr (wr.alloc (.cells #[.int .i64 ek', .string nm', .int .i64 n', .int .i64 tk', .string tnm', .int .i64 tn', .slice tA' tl' tc', .slice A2 kl' cc', .slice Aa' al' ca', .slice Ab' bl' cb', .int .i64 q'] 29)) := Kep.of_below hal hXr
                have hXr2 : ∀ i, X (wr.alloc (.cells #[.int .i64 ek', .string nm', .int .i64 n', .int .i64 tk', .string tnm', .int .i64 tn', .slice tA' tl' tc', .slice A2 kl' cc', .slice Aa' al' ca', .slice Ab' bl' cb', .int .i64 q'] 29)) i → X wr i := HS.out _ _ hkr
                have hch2 := HCA4.out.trans (show ChD (fun A b => (X A b ∨ b = mb) ∨ b = l') W4 wr from ⟨hcj.chg.mono fun _ _ h => .inl h, fun i hi h => h.elim (fun h => .inl (hcj.sub i hi h)) .inr⟩)
                have hchA : ChD X W0 (wr.alloc (.cells #[.int .i64 ek', .string nm', .int .i64 n', .int .i64 tk', .string tnm', .int .i64 tn', .slice tA' tl' tc', .slice A2 kl' cc', .slice Aa' al' ca', .slice Ab' bl' cb', .int .i64 q'] 29)) := by
                  refine ChD.trans (?_ : ChD X W0 wr) (ChD.own HS.out hXr hal)
                  have h02 : ChD X W0 W2 := HCH.out.trans HCX2.out
                  have h1 := HB4.out
                  have h2 : W0.heap.size < l' := by have := HL.out; have := HS0.out; have := HWC.out; have := HZ2.out; omega
                  refine ⟨⟨hch2.chg.os.trans h02.chg.os, hch2.chg.tape.trans h02.chg.tape, hch2.chg.output.trans h02.chg.output, Nat.le_trans h02.size hch2.size, fun i hi hx => (hch2.chg.block i (Nat.lt_of_lt_of_le hi h02.size) ?_).trans (h02.chg.block i hi hx)⟩, fun i hi h => ?_⟩
                  · rintro ((h4 | rfl) | rfl)
                    · exact hx (h02.sub i hi h4)
                    · omega
                    · omega
                  · rcases hch2.sub i (Nat.lt_of_lt_of_le hi h02.size) (.inl (.inl h)) with (h4 | rfl) | rfl
                    · exact h02.sub i hi h4
                    · omega
                    · omega
                have C := HIH.out es[j] hbnd.2.2.2 (bl ++ ns) ((t + hd.length + (scOcc bl (e.scL.take kk)).length) + (exsOcc (es.take j) (bl ++ ns)).length) (mk + nl + 2 * exsMass (es.take j)) (wr.alloc (.cells #[.int .i64 ek', .string nm', .int .i64 n', .int .i64 tk', .string tnm', .int .i64 tn', .slice tA' tl' tc', .slice A2 kl' cc', .slice Aa' al' ca', .slice Ab' bl' cb', .int .i64 q'] 29)) [.int .i64 ek', .string nm', .int .i64 n', .int .i64 tk', .string tnm', .int .i64 tn', .slice tA' tl' tc', .slice A2 kl' cc', .slice Aa' al' ca', .slice Ab' bl' cb', .int .i64 q'] hbnd.1 hbnd.2.1 hbnd.2.2.1 (Nat.le_trans hBr hal.size) (hej.later (hal.mono hBr)) hstA (hmj.blk (hal.block mb hmj.lt))
                  (HJ.out _ wr _ hjj hkr) hchA hsegj ⟨fun h => hnb4.1 (hXr2 _ h), fun h => hnb4.2.1 (hXr2 _ h), fun h => hnb4.2.2 (hXr2 _ h), fun h => hnmj (hXr2 _ h)⟩
                have HC := Lib.hid C
                have HAL := Lib.hid (show ChD (fun A b => X A b ∨ b = mb) wr (wr.alloc (.cells #[.int .i64 ek', .string nm', .int .i64 n', .int .i64 tk', .string tnm', .int .i64 tn', .slice tA' tl' tc', .slice A2 kl' cc', .slice Aa' al' ca', .slice Ab' bl' cb', .int .i64 q'] 29)) from ⟨Chg.of_old hal, fun i _ h => h.elim (fun h => .inl (hXr2 i h)) .inr⟩)
                have HTK := Lib.hid (show (t + hd.length + (scOcc bl (e.scL.take kk)).length) + (exsOcc (es.take j) (bl ++ ns)).length + (es[j].occ (bl ++ ns)).length = (t + hd.length + (scOcc bl (e.scL.take kk)).length) + (exsOcc (es.take (j + 1)) (bl ++ ns)).length by rw [exsOcc_take _ hjk, List.length_append]; omega)
                have HTM := Lib.hid (show mk + nl + 2 * exsMass (es.take j) + 2 * es[j].mass = mk + nl + 2 * exsMass (es.take (j + 1)) by rw [hmt]; omega)
                have hm29 : m2 ≤ 4000000 := hnum.2.2.2
                clear hrowr hexr hej hal hstA hmem hmj9 hmt hmt2 hemm hnum hbnd hsegj hchA hXr hkr hXr2 hch2 hnb4 C hstr hjj hmj hcj hLj hnmj
                gi_wp2_with ((try refine ⟨trivial, ?_⟩); gi_at_call 69; refine (call_in HC.out).mono ?_; rintro e6 w6 ⟨rfl, hj6, hm6, hc6, hn6⟩)
                have HF := Lib.hid (show J ((t + hd.length + (scOcc bl (e.scL.take kk)).length) + (exsOcc (es.take (j + 1)) (bl ++ ns)).length) w6 ∧ MapC w6 mb (mk + nl + 2 * exsMass (es.take (j + 1))) (cntF (bl ++ ns)) ∧ ChD (fun A b => X A b ∨ b = mb) W4 w6 ∧ ¬ X w6 mb from ⟨by rw [← HTK.out]; exact hj6, by rw [← HTM.out]; exact hm6, (HCJ.out.trans HAL.out).trans hc6, hn6⟩)
                clear hj6 hm6 hc6 hn6
                gi_wp2_with fail
                go_roundw
                case rel => exact ⟨j + 1, by go_num, by omega, HF.out.1, HF.out.2.1, HF.out.2.2.1, HF.out.2.2.2⟩
                case measure => simp [intOf]; omega
              · obtain rfl : m2 = j := by omega
                obtain ⟨W5, rfl⟩ : ∃ W5, W5 = wr := ⟨_, rfl⟩
                have htk : es.take m2 = es := List.take_of_length_le (by rw [HM2.out]; omega)
                have HMP5 := Lib.hid (show MapC W5 mb (mk + nl + 2 * em) (cntF (bl ++ ns)) by rw [htk, HEM.out] at hmj; exact hmj)
                have HJ5 := Lib.hid (show J ((t + hd.length + (scOcc bl (e.scL.take kk)).length) + (exsOcc es (bl ++ ns)).length) W5 by rw [htk] at hjj; exact hjj)
                have HST5 := Lib.hid hstr
                have HC5 := Lib.hid (HC34.out.trans hcj)
                have HNM5 := Lib.hid hnmj
                have HNBX5 := Lib.hid (show ¬ X W5 wc.heap.size from fun h => (hcj.sub wc.heap.size (by have := HZ3.out; have := HC34.out.size; have := HZ2.out; omega) (.inl h)).elim (fun h => HNB3.out (HX4W.out _ h)) (fun h => by have := HMB.out; have := HWC.out; omega))
                have HNR5 := Lib.hid (reads_chg HNR4.out (fun ad e h hx => by have h0 := HS1'.out ad e h; rcases hx with hx | hx; exact (HX3W.out _ (HX4W.out _ hx)).elim h0.1 h0.2.1; exact h0.2.1 hx) hcj.chg)
                have hz5 := hcj.size
                clear hmj hjj hcj hstr hrowr hexr htk hnmj hnb4
                gi_wp2_with fail
                gi_loopw [59] (fun i wr => ∃ j : Nat, i = .int .i64 j ∧ j ≤ nl ∧ MapC wr mb ((mk + nl + 2 * em) + j) (cntF (bl ++ ns.drop j)) ∧ Chg (· = mb) W5 wr) (fun i _ => nl - (intOf i).toNat)
                case atStart => exact ⟨0, rfl, Nat.zero_le _, by simpa using HMP5.out, Chg.refl _ _⟩
                case round =>
                  obtain ⟨j, rfl, hj, hmj, hcj⟩ := hrel
                  have hbb : VSt wr l bb yb vb mb := HST5.out.chg hcj ⟨HB4.out.2.2.2.2.1, HB4.out.2.2.2.2.2.1, HB4.out.2.2.2.2.2.2⟩
                  have hbc := hbb.bnd.cell 0
                  simp only [List.getElem?_toArray, List.getElem?_cons_zero] at hbc
                  have hnr' : Reads wr wr.heap.size 1 A nl (nmVals ns) := reads_chg HNR5.out (fun ad e h => HSFN.out ad e h) hcj
                  have HMJ := Lib.hid hmj
                  have HCJ := Lib.hid hcj
                  by_cases hlt : j < nl
                  · obtain ⟨ad, rfl, hbl, hl, hc⟩ := nm_at hnr' hlt
                    obtain ⟨x, hx⟩ : ∃ x, ns[j] = x := ⟨_, rfl⟩
                    rw [hx] at hc
                    have hxf : x.size ≤ maxLen := HFN.out x (by rw [← hx]; exact List.getElem_mem hl)
                    obtain ⟨F, hF⟩ : ∃ F, (cntF (bl ++ ns.drop j)) x.data.toList = F := ⟨_, rfl⟩
                    have hlook := hmj.look hxf
                    rw [hF] at hlook
                    have hF9 : F ≤ 8000000 ∧ 1 ≤ F := by
                      rw [← hF]
                      exact ⟨by have h := cnt_le (bl ++ ns.drop j) x.data.toList; have h2 := HNB.out; have h3 := HNL.out; simp at h; omega, by rw [← List.getElem_cons_drop hl, hx, cnt_app]; simp [cntF]; omega⟩
                    have HNXT := Lib.hid (show updF (cntF (bl ++ ns.drop j)) x.data.toList (F - 1) = cntF (bl ++ ns.drop (j + 1)) by rw [← hF, ← hx]; rw [← List.getElem_cons_drop hl, upd_less])
                    obtain ⟨D, hown, hD, hDf⟩ := hmj
                    have HDM := Lib.hid (And.intro hD hDf)
                    have hkey := Go.WideMaps.keyOf_string_mk (P := Try.prog) Try.underlying9 hxf
                    have hnb := HNB.out
                    clear hnr' hx hxf hF hcj hD hDf hbl
                    gi_wp2_with (gi_at_mapUpdate; refine wpListIn_mapUpdate_own _ rfl _ _ _ 112 rfl 9 3 (Go.Maps.string_keyed Try.underlying9) Try.underlying112 _ mb ((mk + nl + 2 * em) + j) D rfl hown (by unfold maxLen; omega) _ (.int .i64 ((F : Int) - 1)) (.string x.data.toList) rfl rfl hkey (.lit (.int .i64 ((F : Int) - 1))) [] (plainElem_int Try.underlying3 (by have h9 := lit_small (n := F - 1) (by omega); rw [show ((F - 1 : Nat) : Int) = (F : Int) - 1 by omega] at h9; exact h9)) ?_; intro w1 hown1 hgrow1)
                    have HN1 := Lib.hid (show MapC w1 mb ((mk + nl + 2 * em) + (j + 1)) (cntF (bl ++ ns.drop (j + 1))) by rw [← HNXT.out]; exact MapC.put x.data.toList HDM.out.1 HDM.out.2 (by rw [show ((F - 1 : Nat) : Int) = (F : Int) - 1 by omega]; exact hown1))
                    have HC1 := Lib.hid (HCJ.out.trans (⟨hgrow1.os, hgrow1.tape, hgrow1.output, hgrow1.size, fun b hb hn => hgrow1.block b hb (fun e => hn (by injection e))⟩ : Chg (· = mb) wr w1))
                    clear hown1 hgrow1 hown
                    gi_wp2_with fail
                    go_roundw
                    case rel => exact ⟨j + 1, by go_num, by omega, HN1.out, HC1.out⟩
                    case measure => simp [intOf]; omega
                  · obtain rfl : nl = j := by omega
                    have hnl := HNL.out
                    have hfin : MapC wr mb (m + 2 * scS (e.scL.take (kk + 1))) (cntF bl) := by
                      have h := hmj
                      rw [List.drop_of_length_le (by omega), List.append_nil] at h
                      exact h.mono (by have := HNUM.out; omega)
                    have hk6 : Kep (X W5) W5 wr := Kep.of_chg hcj fun i hi => ⟨(HX.out _ W5 HJ5.out i hi).1, fun e => HNM5.out (e ▸ hi)⟩
                    have hX6 : ∀ b, X wr b → X W5 b := HS.out W5 wr hk6
                    have HF := Lib.hid (show ChD (fun A i => X A i ∨ i = mb) W3 wr ∧ J (t + hd.length + (scOcc bl (e.scL.take (kk + 1))).length) wr ∧ MapC wr mb (m + 2 * scS (e.scL.take (kk + 1))) (cntF bl) ∧ ¬ X wr mb ∧ ¬ X wr wc.heap.size from
                      ⟨HC5.out.trans ⟨hcj.mono fun _ _ h => .inr h, fun i _ h => h.elim (fun h => .inl (hX6 i h)) .inr⟩, by
                        have h := HJ.out _ _ wr HJ5.out hk6
                        rw [scOcc_take HSC.out, List.length_append, ← Nat.add_assoc]
                        exact h, hfin, fun h => HNM5.out (hX6 _ h), fun h => HNBX5.out (hX6 _ h)⟩)
                    clear hk6 hX6 hmj hcj hfin hnl hnr'
                    gi_wp2_with fail
                    exact HF.out
      case done =>
        rintro D W' hD ⟨hj, hmp, hnm, _⟩ hch hnD hK
        have hrbN : ¬ (X W2 (W.heap.size + 1) ∨ W.heap.size + 1 = mb) := fun h => h.elim HNX2.out.2.2.2.2.2 (fun h => by have := HMB.out; omega)
        have hrb' : Blk W' (W.heap.size + 1) 4 #[.bool false] := (hch.chg.block _ (by have := HWC.out; have := HZ2.out; omega) hrbN).trans (HRBX.out.below HB2.out HRBX.out.lt)
        have hrbN' : ¬ X W' (W.heap.size + 1) := fun h => hch.out (by have := HWC.out; have := HZ2.out; omega) hrbN (.inl h)
        have hc0 := hrb'.cell 0
        have hf0 := hrb'.frozen 0
        simp only [List.getElem?_toArray, List.getElem?_cons_zero] at hc0
        have hne : D ≠ W.heap.size + 1 := by have := HWC.out; have := HZ2.out; omega
        have hK2 : (W'.setCell ⟨W.heap.size + 1, 0, none⟩ (.bool true)).heap[D]? = some (.deferred (some [])) := (Below.heap_setCell _ _ _ _ hne).trans hK
        have hb6 : Blk ((W'.setCell ⟨W.heap.size + 1, 0, none⟩ (.bool true)).putObj D (.deferred none)) (W.heap.size + 1) 4 #[.bool true] := (World.putObj_heap_other (fun h => hne h.symm)).trans (show Blk (W'.setCell ⟨W.heap.size + 1, 0, none⟩ (.bool true)) (W.heap.size + 1) 4 #[.bool true] by simpa using hrb'.set_ 0 (.bool true))
        have hc6 := hb6.cell 0
        simp only [List.getElem?_toArray, List.getElem?_cons_zero] at hc6
        have hchB : Chg (fun b => b = W.heap.size + 1 ∨ b = D) W' ((W'.setCell ⟨W.heap.size + 1, 0, none⟩ (.bool true)).putObj D (.deferred none)) := ((setCell_chg W' (W.heap.size + 1) (.bool true)).mono fun _ _ h => .inl h).trans ((putObj_chg _ D _).mono fun _ _ h => .inr h)
        have hmb := HMB.out
        have hkB : Kep (X W') W' ((W'.setCell ⟨W.heap.size + 1, 0, none⟩ (.bool true)).putObj D (.deferred none)) := Kep.of_chg hchB fun i hi => ⟨(HX.out _ W' hj i hi).1, fun e => e.elim (fun e => hrbN' (e ▸ hi)) (fun e => hnD (.inl (e ▸ hi)))⟩
        have hXB' : ∀ b, X ((W'.setCell ⟨W.heap.size + 1, 0, none⟩ (.bool true)).putObj D (.deferred none)) b → X W' b := HS.out _ _ hkB
        have hW2' := (show ChD (fun A b => X A b ∨ b = mb) W W2 from
          ⟨((HCH0.out.trans HCX2.out).chg.mono fun _ _ h => .inl h), fun i hi h => h.elim (fun h => .inl ((HCH0.out.trans HCX2.out).sub i hi h)) .inr⟩).trans hch
        have HF := Lib.hid (show VisPost X J mb (t + (e.occ bl).length) (m + 2 * e.mass) bl W (.returned (.bool true)) ((W'.setCell ⟨W.heap.size + 1, 0, none⟩ (.bool true)).putObj D (.deferred none)) from
          ⟨rfl, by
            have h := HJ.out _ W' _ hj hkB
            rw [List.take_length] at h
            rw [HOCC.out, List.length_append, ← Nat.add_assoc]
            exact h, (hmp.blk (hchB.block mb hmp.lt (by have := HWC.out; have := HZ2.out; omega))).mono (by rw [List.take_length]; have := scS_mass e; omega),
            ⟨((hW2'.chg.mono (Y := fun b => (X W b ∨ b = mb) ∨ b = W.heap.size + 1 ∨ b = D) (fun _ _ h => .inl h)).trans (hchB.mono fun _ _ h => .inr h)).mono (fun b h1 h2 => by
              rcases h2 with h2 | rfl | rfl
              · exact h2
              · omega
              · have := HWC.out; have := HZ2.out; omega), fun i hi h => hW2'.sub i hi (h.elim (fun h => .inl (hXB' i h)) .inr)⟩, fun h => hnm (hXB' _ h)⟩)
        clear hrbN hrbN' hkB hXB' hW2' hnm hnD hj hmp hch hchB hb6 hrb' hK hne
        go_wp2_with fail
        exact marks_cell rfl hK2 (by simp [results, Try.results69, go_sem, hc6]) HF.out

end Go.Proofs.Ytglamoiimmahgaa
