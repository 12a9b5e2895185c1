/- Walks: the document's part. -/
import Derived.Test.YtgmcjnhaedfinaaQdoc
import Derived.Test.YtgmcjnhaedfinaaQac
import Derived.Test.YtgmcjnhaedfinaaQbb
import Derived.Test.YtgmcjnhaedfinaaQaw
import Derived.IntWalk
namespace Go.Proofs.Ytgmcjnhaedfinaa
open Go.RowKit
set_option linter.unusedVariables false
set_option linter.unusedSimpArgs false
set_option maxRecDepth 100000
/-- What the document's part answers. -/
def PartPost (B : Nat) (r : Option Ty) (w : World) (e : Ending) (w' : World) : Prop := Below w.heap.size w w' ∧ ∃ e0 e1 e2 e3 : Value, e = .returned (.tuple #[.agg #[e0, e1, e2, e3], .bool r.isSome]) ∧ (∀ u ∈ [e0, e1, e2, e3], u.oneCell' = true) ∧ ∀ u, r = some u → TyAt w' B [e0, e1, e2, e3] u
theorem partL_none (x : ByteArray) : ∀ l m : List Ty, (l = [] ∨ m = []) → partL l m x = none
  | [], m, _ => by unfold partL; rfl
  | a :: l, [], _ => by unfold partL; rfl
  | a :: l, b :: m, h => by simp at h
theorem partL_step (x : ByteArray) (l m : List Ty) (j : Nat) (h : j < l.length) (h2 : j < m.length) : partL (l.drop j) (m.drop j) x = match partT l[j] m[j] x with | some u => some u | none => partL (l.drop (j + 1)) (m.drop (j + 1)) x := by
  rw [List.drop_eq_getElem_cons h, List.drop_eq_getElem_cons h2, partL]
  rfl
theorem partL_go {x : ByteArray} {l m : List Ty} {j : Nat} {r : Option Ty} (h : j < l.length) (h2 : j < m.length) (hi : partL (l.drop j) (m.drop j) x = r) (hn : partT l[j] m[j] x = none) : partL (l.drop (j + 1)) (m.drop (j + 1)) x = r := by
  rw [partL_step x l m j h h2, hn] at hi; exact hi
theorem partL_hit {x : ByteArray} {l m : List Ty} {j : Nat} {r : Option Ty} {u : Ty} (h : j < l.length) (h2 : j < m.length) (hi : partL (l.drop j) (m.drop j) x = r) (hn : partT l[j] m[j] x = some u) : r = some u := by
  rw [partL_step x l m j h h2, hn] at hi; exact hi.symm
theorem part_hit {B R : Nat} {r : Option Ty} {u : Ty} {w W : World} {e0 e1 e2 e3 : Value} (hr : r = some u) (hg : Below w.heap.size w W) (hB : B ≤ w.heap.size) (hR : w.heap.size ≤ R) (ht : TyAt W B [e0, e1, e2, e3] u) : PartPost B r w (.returned (.tuple #[.agg #[e0, e1, e2, e3], .bool true])) (put4 W R e0 e1 e2 e3) :=
  ⟨below_put4 hg hR _ _ _ _, e0, e1, e2, e3, by rw [hr]; rfl, ty_ones ht, fun v hv => by
    rw [hr] at hv
    obtain rfl := Option.some.inj hv
    exact ht.later (below_put4 (Below.refl B W) (by omega) _ _ _ _)⟩
theorem part_miss {B R : Nat} {r : Option Ty} {w W : World} (hr : r = none) (hg : Below w.heap.size w W) (hR : w.heap.size ≤ R) : PartPost B r w (.returned (.tuple #[.agg #[.int .i64 0, .string ⟨#[]⟩, .int .i64 0, .slice none 0 0], .bool false])) (put4 W R (.int .i64 0) (.string ⟨#[]⟩) (.int .i64 0) (.slice none 0 0)) :=
  ⟨below_put4 hg hR _ _ _ _, _, _, _, _, by rw [hr]; rfl, by intro u hu; simp at hu; rcases hu with rfl | rfl | rfl | rfl <;> rfl, fun v hv => by rw [hr] at hv; cases hv⟩
set_option maxHeartbeats 3200000 in
theorem part_any (N : Nat) : ∀ (t s : Ty), t.nodes ≤ N → N ≤ 4000000 → s.nodes ≤ 4000000 → ∀ (x : ByteArray) (B : Nat) (w : World) (cs ds : List Value), B ≤ w.heap.size → TyAt w B cs t → TyAt w B ds s →
    Calls Try.prog 53 #[.agg cs.toArray, .agg ds.toArray, .string x] w (PartPost B (partT t s x) w) := by
  induction N with
  | zero => intro t s h; cases t; unfold Ty.nodes at h; omega
  | succ N ih =>
    intro t s hN hN2 hs9 x B w cs ds hB hx hy
    obtain ⟨k, nm, n, A, c, ks, rfl, rfl⟩ := ty_cells hx
    obtain ⟨k', nm', n', A', c', ks', rfl, rfl⟩ := ty_cells hy
    obtain ⟨_, hk, hs, hn, hc, hm, L, htx⟩ := ty_open hx _ _ _ _ _ _ _ rfl rfl
    obtain ⟨_, hk', hs', hn', hc', hm', L', hty⟩ := ty_open hy _ _ _ _ _ _ _ rfl rfl
    unfold Ty.nodes at hN hs9
    obtain ⟨l, hl⟩ : ∃ l, ks.length = l := ⟨_, rfl⟩
    obtain ⟨l', hl'⟩ : ∃ l, ks'.length = l := ⟨_, rfl⟩
    have hln := tysNodes_len ks
    have hln' := tysNodes_len ks'
    rw [hl, hl']
    obtain ⟨W3, hW3⟩ : ∃ W, ((w.alloc (.cells #[.int .i64 k, .string nm, .int .i64 n, .slice A l c] 24)).alloc (.cells #[.int .i64 k', .string nm', .int .i64 n', .slice A' l' c'] 24)).alloc (.cells zTy 24) = W := ⟨_, rfl⟩
    have hg : Below w.heap.size w W3 := by rw [← hW3]; exact (((Below.refl _ _).alloc (Nat.le_refl _) _).alloc (by simp) _).alloc (by simp; omega) _
    have hz : W3.heap.size = w.heap.size + 3 := by rw [← hW3]; simp
    have hbx : Blk W3 w.heap.size 24 #[.int .i64 k, .string nm, .int .i64 n, .slice A l c] := by rw [← hW3]; exact ((Blk.new _ _ _).alloc _).alloc _
    have hby : Blk W3 (w.heap.size + 1) 24 #[.int .i64 k', .string nm', .int .i64 n', .slice A' l' c'] := by rw [← hW3]; have := (Blk.new (w.alloc (.cells #[.int .i64 k, .string nm, .int .i64 n, .slice A l c] 24)) 24 #[.int .i64 k', .string nm', .int .i64 n', .slice A' l' c']).alloc (.cells zTy 24); simpa using this
    have hbr : Blk W3 (w.heap.size + 2) 24 zTy := by rw [← hW3]; have := Blk.new ((w.alloc (.cells #[.int .i64 k, .string nm, .int .i64 n, .slice A l c] 24)).alloc (.cells #[.int .i64 k', .string nm', .int .i64 n', .slice A' l' c'] 24)) 24 zTy; simpa using this
    have HW := Lib.hid hW3
    have HG := Lib.hid hg
    have HZ := Lib.hid hz
    have HBX := Lib.hid hbx
    have HBY := Lib.hid hby
    have HBR := Lib.hid hbr
    have HX := Lib.hid (htx.later (hg.mono hB))
    have HY := Lib.hid (hty.later (hg.mono hB))
    have HS := Lib.hid (hy.later (hg.mono hB))
    have HL := Lib.hid hl
    have HL2 := Lib.hid hl'
    have HBB := Lib.hid hB
    have HIH := Lib.hid (fun (t s : Ty) (ht : t ∈ ks) (hs : s ∈ ks') => ih t s (by have := tys_mem ks t ht; omega) (by omega) (by have := tys_mem ks' s hs; omega) x B)
    have hl9 : l ≤ 4000000 := by omega
    have hl9' : l' ≤ 4000000 := by omega
    obtain ⟨r, hr⟩ : ∃ r, partT (.mk k nm n ks) (.mk k' nm' n' ks') x = r := ⟨_, rfl⟩
    rw [hr]
    have HR := Lib.hid hr
    have HP := Lib.hid (show (k = 1 ∧ nmEq nm x = true) ∨ partL ks ks' x = r by
      unfold partT at hr
      by_cases h : k = 1 ∧ nmEq nm x = true
      · exact .inl h
      · rw [if_neg h] at hr; exact .inr hr)
    have p0 := hbx.cell 0
    have p1 := hbx.cell 1
    have p2 := hbx.cell 2
    have p3 := hbx.cell 3
    simp only [zTy, List.getElem?_toArray, List.getElem?_cons_succ, List.getElem?_cons_zero] at p0 p1 p2 p3
    have q0 := hby.cell 0
    have q1 := hby.cell 1
    have q2 := hby.cell 2
    have q3 := hby.cell 3
    simp only [zTy, List.getElem?_toArray, List.getElem?_cons_succ, List.getElem?_cons_zero] at q0 q1 q2 q3
    have z0 := hbr.cell 0
    have z1 := hbr.cell 1
    have z2 := hbr.cell 2
    have z3 := hbr.cell 3
    simp only [zTy, List.getElem?_toArray, List.getElem?_cons_succ, List.getElem?_cons_zero] at z0 z1 z2 z3
    have f0 := hbr.frozen 0
    have f1 := hbr.frozen 1
    have f2 := hbr.frozen 2
    have f3 := hbr.frozen 3
    clear hx hy htx hty hW3 hg hz hbx hby hbr ih hN hN2 hs9 hc hm hc' hm' hl hl' hk hs hn hk' hs' hn' hln hln' hB hr
    by_cases h1 : k = 1
    · have d1 : (k == 1) = true := by simpa using h1
      cases h2 : nmEq nm x with
      | true =>
        have d2 := nm_yes h2
        have HE := Lib.hid (show r = some (Ty.mk k' nm' n' ks') by have := HR.out; unfold partT at this; rw [if_pos ⟨h1, h2⟩] at this; exact this.symm)
        clear h1 h2
        go_enter Try.func53, Try.ntmps53
        go_upto_region 1 with fail
        unfold zTy at HW
        rw [show w.heap.size + 1 + 1 = w.heap.size + 2 from rfl]
        rw [HW.out]
        go_wp2_with fail
        exact bodyPost_ret (v := .tuple #[.agg #[.int .i64 k', .string nm', .int .i64 n', .slice A' l' c'], .bool true]) (res_cell4_tmp (s := 7) (c := 6) rfl rfl (HBR.out.put4_ _ _ _ _) rfl) rfl (part_hit HE.out HG.out HBB.out (by omega) (by rw [← HL2.out]; exact HS.out))
      | false =>
        have d2 := nm_no h2
        have HQ := Lib.hid (show partL ks ks' x = r from HP.out.resolve_left (fun h => by rw [h2] at h; simp at h))
        clear h1 h2
        go_enter Try.func53, Try.ntmps53
        go_upto_region 1 with fail
        unfold zTy at HW
        rw [show w.heap.size + 1 + 1 = w.heap.size + 2 from rfl]
        rw [HW.out]
        go_wp2_with fail
        clear z0 z1 z2 z3 f0 f1 f2 f3 p0 p1 p2 p3 q0 q1 q2 q3
        go_loopw [8] (fun i wr => ∃ j : Nat, i = .int .i64 j ∧ j ≤ l ∧ j ≤ l' ∧ partL (ks.drop j) (ks'.drop j) x = r ∧ Below W3.heap.size W3 wr) (fun i _ => l - (intOf i).toNat)
        case atStart => exact ⟨0, rfl, Nat.zero_le _, Nat.zero_le _, by simpa using HQ.out, Below.refl _ _⟩
        case round =>
          obtain ⟨j, rfl, hj, hj', hpl, hbe⟩ := hrel
          have hB2 := HBX.out.below hbe (by have := HZ.out; omega)
          have hC2 := HBY.out.below hbe (by have := HZ.out; omega)
          have hR2 := HBR.out.below hbe (by have := HZ.out; omega)
          have p0 := hB2.cell 0
          have p1 := hB2.cell 1
          have p2 := hB2.cell 2
          have p3 := hB2.cell 3
          simp only [zTy, List.getElem?_toArray, List.getElem?_cons_succ, List.getElem?_cons_zero] at p0 p1 p2 p3
          have q0 := hC2.cell 0
          have q1 := hC2.cell 1
          have q2 := hC2.cell 2
          have q3 := hC2.cell 3
          simp only [zTy, List.getElem?_toArray, List.getElem?_cons_succ, List.getElem?_cons_zero] at q0 q1 q2 q3
          have HPL := Lib.hid hpl
          have HBE := Lib.hid hbe
          have hzr := hbe.size
          clear hpl hbe
          by_cases hlt : j < l
          · by_cases hlt' : j < l'
            · have hkx : j < ks.length := by rw [HL.out]; exact hlt
              have hky : j < ks'.length := by rw [HL2.out]; exact hlt'
              have hBW : B ≤ W3.heap.size := by have := HZ.out; have := HBB.out; omega
              obtain ⟨g, o, a0, a1, a2, a3, rfl, hba, ca0, ca1, ca2, ca3, hta⟩ := (HX.out.later (HBE.out.mono hBW)).at_ hkx
              obtain ⟨g', o', b0, b1, b2, b3, rfl, hbb, cb0, cb1, cb2, cb3, htb⟩ := (HY.out.later (HBE.out.mono hBW)).at_ hky
              have C := fun (V : World) (hV : Below wr.heap.size wr V) => HIH.out ks[j] ks'[j] (List.getElem_mem hkx) (List.getElem_mem hky) V [a0, a1, a2, a3] [b0, b1, b2, b3] (by have := hV.size; omega) (hta.later (hV.mono (by omega))) (htb.later (hV.mono (by omega)))
              obtain ⟨pr, hpr⟩ : ∃ pr, partT ks[j] ks'[j] x = pr := ⟨_, rfl⟩
              rw [hpr] at C
              have HC := Lib.hid C
              have HPR := Lib.hid hpr
              have hgl : g < wr.heap.size := by omega
              have hgl' : g' < wr.heap.size := by omega
              have HB2 := Lib.hid hB2
              have HC2 := Lib.hid hC2
              have HR2 := Lib.hid hR2
              clear hta htb C hpr hB2 hC2
              cases pr with
              | some u =>
                have HU := Lib.hid (partL_hit hkx hky HPL.out HPR.out)
                have ji0 : (0 : Int) ≤ (j : Int) := by omega
                have ji1 : (j : Int) < (l : Int) := by omega
                have ji2 : (j : Int) < (l' : Int) := by omega
                go_wp2_with fail
                refine wp_region_held_drew (S := fun w' => Below wr.heap.size wr w') (by kernel_rfl) ((Below.refl wr.heap.size wr).drew) (fun hHeld => ?_)
                refine takeH' (i := 0) (d := 36) (v := .pointer (some ⟨w.heap.size, 3, none⟩)) rfl (by kernel_rfl) (by kernel_rfl) (by kernel_rfl) (fun _ _ _ h => h) (Or.inl ⟨by rfl, fun w' hS' => by (first | rfl | go_simp)⟩) hHeld rfl ?_
                try simp only [Act.put, List.setIfInBounds_toArray, List.set_cons_zero, List.set_cons_succ]
                refine takeH' (i := 1) (d := 37) (v := .slice (some ⟨g, o, none⟩) l c) rfl (by kernel_rfl) (by kernel_rfl) (by kernel_rfl) (fun _ _ _ h => h) (Or.inl ⟨by rfl, fun w' hS' => by (have hbb := HB2.out.below hS' HB2.out.lt); (have q3 := hbb.cell 3); (simp only [List.getElem?_toArray, List.getElem?_cons_succ, List.getElem?_cons_zero] at q3); (first | rfl | go_simp)⟩) hHeld rfl ?_
                try simp only [Act.put, List.setIfInBounds_toArray, List.set_cons_zero, List.set_cons_succ]
                refine takeH' (i := 2) (d := 38) (v := .int .i64 j) rfl (by kernel_rfl) (by kernel_rfl) (by kernel_rfl) (fun _ _ _ h => h) (Or.inl ⟨by rfl, fun w' hS' => by (first | rfl | go_simp)⟩) hHeld rfl ?_
                try simp only [Act.put, List.setIfInBounds_toArray, List.set_cons_zero, List.set_cons_succ]
                refine takeH' (i := 3) (d := 39) (v := .pointer (some ⟨g, o + j * 4, none⟩)) rfl (by kernel_rfl) (by kernel_rfl) (by kernel_rfl) (fun _ _ _ h => h) (Or.inl ⟨by rfl, fun w' hS' => by (first | rfl | go_simp)⟩) hHeld rfl ?_
                try simp only [Act.put, List.setIfInBounds_toArray, List.set_cons_zero, List.set_cons_succ]
                refine takeH' (i := 4) (d := 40) (v := .agg #[a0, a1, a2, a3]) rfl (by kernel_rfl) (by kernel_rfl) (by kernel_rfl) (fun _ _ _ h => h) (Or.inl ⟨by rfl, fun w' hS' => by (have r0 := (hS'.cell (p := ⟨g, o + j * 4, none⟩) (by show g < _; omega)).trans ca0); (have r1 := (hS'.cell (p := ⟨g, o + j * 4 + 1, none⟩) (by show g < _; omega)).trans ca1); (have r2 := (hS'.cell (p := ⟨g, o + j * 4 + 2, none⟩) (by show g < _; omega)).trans ca2); (have r3 := (hS'.cell (p := ⟨g, o + j * 4 + 3, none⟩) (by show g < _; omega)).trans ca3); (first | rfl | go_simp)⟩) hHeld rfl ?_
                try simp only [Act.put, List.setIfInBounds_toArray, List.set_cons_zero, List.set_cons_succ]
                refine takeH' (i := 5) (d := 41) (v := .pointer (some ⟨w.heap.size + 1, 3, none⟩)) rfl (by kernel_rfl) (by kernel_rfl) (by kernel_rfl) (fun _ _ _ h => h) (Or.inl ⟨by rfl, fun w' hS' => by (first | rfl | go_simp)⟩) hHeld rfl ?_
                try simp only [Act.put, List.setIfInBounds_toArray, List.set_cons_zero, List.set_cons_succ]
                refine takeH' (i := 6) (d := 42) (v := .slice (some ⟨g', o', none⟩) l' c') rfl (by kernel_rfl) (by kernel_rfl) (by kernel_rfl) (fun _ _ _ h => h) (Or.inl ⟨by rfl, fun w' hS' => by (have hbb := HC2.out.below hS' HC2.out.lt); (have q3 := hbb.cell 3); (simp only [List.getElem?_toArray, List.getElem?_cons_succ, List.getElem?_cons_zero] at q3); (first | rfl | go_simp)⟩) hHeld rfl ?_
                try simp only [Act.put, List.setIfInBounds_toArray, List.set_cons_zero, List.set_cons_succ]
                refine takeH' (i := 7) (d := 43) (v := .int .i64 j) rfl (by kernel_rfl) (by kernel_rfl) (by kernel_rfl) (fun _ _ _ h => h) (Or.inl ⟨by rfl, fun w' hS' => by (first | rfl | go_simp)⟩) hHeld rfl ?_
                try simp only [Act.put, List.setIfInBounds_toArray, List.set_cons_zero, List.set_cons_succ]
                refine takeH' (i := 8) (d := 44) (v := .pointer (some ⟨g', o' + j * 4, none⟩)) rfl (by kernel_rfl) (by kernel_rfl) (by kernel_rfl) (fun _ _ _ h => h) (Or.inl ⟨by rfl, fun w' hS' => by (first | rfl | go_simp)⟩) hHeld rfl ?_
                try simp only [Act.put, List.setIfInBounds_toArray, List.set_cons_zero, List.set_cons_succ]
                refine takeH' (i := 9) (d := 45) (v := .agg #[b0, b1, b2, b3]) rfl (by kernel_rfl) (by kernel_rfl) (by kernel_rfl) (fun _ _ _ h => h) (Or.inl ⟨by rfl, fun w' hS' => by (have r0 := (hS'.cell (p := ⟨g', o' + j * 4, none⟩) (by show g' < _; omega)).trans cb0); (have r1 := (hS'.cell (p := ⟨g', o' + j * 4 + 1, none⟩) (by show g' < _; omega)).trans cb1); (have r2 := (hS'.cell (p := ⟨g', o' + j * 4 + 2, none⟩) (by show g' < _; omega)).trans cb2); (have r3 := (hS'.cell (p := ⟨g', o' + j * 4 + 3, none⟩) (by show g' < _; omega)).trans cb3); (first | rfl | go_simp)⟩) hHeld rfl ?_
                try simp only [Act.put, List.setIfInBounds_toArray, List.set_cons_zero, List.set_cons_succ]
                refine takeH' (i := 10) (d := 46) (v := .string x) rfl (by kernel_rfl) (by kernel_rfl) (by kernel_rfl) (fun _ _ _ h => h) (Or.inl ⟨by rfl, fun w' hS' => by (first | rfl | go_simp)⟩) hHeld rfl ?_
                try simp only [Act.put, List.setIfInBounds_toArray, List.set_cons_zero, List.set_cons_succ]
                refine wpAnyH_ready (rs := [11, 15]) (by kernel_rfl) (by simp) ?_
                refine AllReadyH.cons rfl (fun K hK => ?_) (AllReadyH.cons rfl (fun K hK => ?_) (AllReadyH.nil))
                · try go_simp
                  refine (HC.out _ ((Below.refl wr.heap.size wr).drew)).mono ?_
                  rintro e w5 ⟨hb5, e0, e1, e2, e3, rfl, oe, he⟩
                  have se0 := store_one' e0 (oe e0 (by simp))
                  have se1 := store_one' e1 (oe e1 (by simp))
                  have se2 := store_one' e2 (oe e2 (by simp))
                  have se3 := store_one' e3 (oe e3 (by simp))
                  have hS5 : Below wr.heap.size wr w5 := ((Below.refl wr.heap.size wr).drew).trans (hb5.mono ((Below.refl wr.heap.size wr).drew).size)
                  go_wp2_with fail
                  refine hK.out _ _ (hS5) (fun hHeld => ?_)
                  clear hK K
                  try simp only [Act.put, List.setIfInBounds_toArray, List.set_cons_zero, List.set_cons_succ]
                  refine takeH' (i := 12) (d := 35) (v := .tuple #[.agg #[e0, e1, e2, e3], .bool true]) rfl (by kernel_rfl) (by kernel_rfl) (by kernel_rfl) (fun _ _ _ h => h) (Or.inl ⟨by rfl, fun w' hS' => by (first | rfl | go_simp)⟩) hHeld rfl ?_
                  try simp only [Act.put, List.setIfInBounds_toArray, List.set_cons_zero, List.set_cons_succ]
                  refine takeH' (i := 13) (d := 48) (v := .agg #[e0, e1, e2, e3]) rfl (by kernel_rfl) (by kernel_rfl) (by kernel_rfl) (fun _ _ _ h => h) (Or.inl ⟨by rfl, fun w' hS' => by (first | rfl | go_simp)⟩) hHeld rfl ?_
                  try simp only [Act.put, List.setIfInBounds_toArray, List.set_cons_zero, List.set_cons_succ]
                  refine takeH' (i := 14) (d := 49) (v := .bool true) rfl (by kernel_rfl) (by kernel_rfl) (by kernel_rfl) (fun _ _ _ h => h) (Or.inl ⟨by rfl, fun w' hS' => by (first | rfl | go_simp)⟩) hHeld rfl ?_
                  try simp only [Act.put, List.setIfInBounds_toArray, List.set_cons_zero, List.set_cons_succ]
                  refine wpAnyH_ready (rs := [15]) (by kernel_rfl) (by simp) ?_
                  refine AllReadyH.cons rfl (fun K hK => ?_) (AllReadyH.nil)
                  try go_simp
                  obtain ⟨X, hX⟩ : ∃ X, w5.heap.size = X := ⟨_, rfl⟩
                  have hX1 : wr.heap.size ≤ X := by rw [← hX]; exact hS5.size
                  have hxb : Blk (w5.alloc (.cells zTy 24)) X 24 zTy := by rw [← hX]; exact Blk.new _ _ _
                  have hS6 : Below wr.heap.size wr (w5.alloc (.cells zTy 24)) := hS5.alloc hS5.size _
                  have hfr : Below w5.heap.size w5 (w5.alloc (.cells zTy 24)) := (Below.refl _ _).alloc (Nat.le_refl _) _
                  obtain ⟨w6, hw6⟩ : ∃ w6, w5.alloc (.cells zTy 24) = w6 := ⟨_, rfl⟩
                  unfold zTy at hw6
                  rw [hw6, hX]
                  rw [show w5.alloc (.cells zTy 24) = w6 from hw6] at hxb hS6 hfr
                  have he6 : ∀ y, some u = some y → TyAt w6 B [e0, e1, e2, e3] y := fun y hy => (he y hy).later (hfr.mono (by have := hb5.size; have := ((Below.refl wr.heap.size wr).drew).size; omega))
                  clear hw6
                  refine hK.out _ _ (hS6) (fun hHeld => ?_)
                  clear hK K
                  try simp only [Act.put, List.setIfInBounds_toArray, List.set_cons_zero, List.set_cons_succ]
                  have x0 := hxb.cell 0
                  have x1 := hxb.cell 1
                  have x2 := hxb.cell 2
                  have x3 := hxb.cell 3
                  simp only [zTy, List.getElem?_toArray, List.getElem?_cons_succ, List.getElem?_cons_zero] at x0 x1 x2 x3
                  have xf0 := hxb.frozen 0
                  have xf1 := hxb.frozen 1
                  have xf2 := hxb.frozen 2
                  have xf3 := hxb.frozen 3
                  refine wpAnyH_ready (rs := [16]) (by kernel_rfl) (by simp) ?_
                  refine AllReadyH.cons rfl (fun K hK => ?_) (AllReadyH.nil)
                  try go_simp
                  refine hK.out _ _ (below_put4 hS6 hX1 e0 e1 e2 e3) (fun hHeld => ?_)
                  clear hK K
                  try simp only [Act.put, List.setIfInBounds_toArray, List.set_cons_zero, List.set_cons_succ]
                  refine takeH' (i := 17) (d := 10) (v := .bool true) rfl (by kernel_rfl) (by kernel_rfl) (by kernel_rfl) (fun _ _ _ h => h) (Or.inl ⟨by rfl, fun w' hS' => by (first | rfl | go_simp)⟩) hHeld rfl ?_
                  try simp only [Act.put, List.setIfInBounds_toArray, List.set_cons_zero, List.set_cons_succ]
                  refine wpAnyH_done (by kernel_rfl) ?_ _
                  have hx7 := hxb.put4_ e0 e1 e2 e3
                  have hS7 := below_put4 hS6 hX1 e0 e1 e2 e3
                  have he7 : ∀ y, some u = some y → TyAt (put4 w6 X e0 e1 e2 e3) B [e0, e1, e2, e3] y := fun y hy => (he6 y hy).later (below_put4 (Below.refl B w6) (by omega) e0 e1 e2 e3)
                  obtain ⟨w7, hw7⟩ : ∃ w7, put4 w6 X e0 e1 e2 e3 = w7 := ⟨_, rfl⟩
                  rw [hw7] at hx7 hS7 he7
                  have hw7' : (((w6.setCell ⟨X, 0, none⟩ e0).setCell ⟨X, 1, none⟩ e1).setCell ⟨X, 2, none⟩ e2).setCell ⟨X, 3, none⟩ e3 = w7 := hw7
                  rw [hw7']
                  have HE7 := Lib.hid he7
                  have HS7 := Lib.hid hS7
                  have hz7 := hS7.size
                  clear he7 hS7 hw7 hw7' he6 hxb x0 x1 x2 x3 xf0 xf1 xf2 xf3 hHeld
                  have y0 := hx7.cell 0
                  have y1 := hx7.cell 1
                  have y2 := hx7.cell 2
                  have y3 := hx7.cell 3
                  simp only [zTy, List.getElem?_toArray, List.getElem?_cons_succ, List.getElem?_cons_zero] at y0 y1 y2 y3
                  have hR7 := HR2.out.below HS7.out HR2.out.lt
                  have z0 := hR7.cell 0
                  have z1 := hR7.cell 1
                  have z2 := hR7.cell 2
                  have z3 := hR7.cell 3
                  simp only [zTy, List.getElem?_toArray, List.getElem?_cons_succ, List.getElem?_cons_zero] at z0 z1 z2 z3
                  have f0 := hR7.frozen 0
                  have f1 := hR7.frozen 1
                  have f2 := hR7.frozen 2
                  have f3 := hR7.frozen 3
                  go_wp2_with fail
                  have HB5 := Lib.hid (HG.out.trans ((HBE.out.trans (HS7.out.mono hzr)).mono HG.out.size))
                  exact bodyPost_ret (v := .tuple #[.agg #[e0, e1, e2, e3], .bool true]) (res_cell4_tmp (s := 7) (c := 6) rfl rfl (hR7.put4_ _ _ _ _) rfl) rfl (part_hit (R := w.heap.size + 2) HU.out HB5.out HBB.out (by omega) (HE7.out u rfl))
                · try go_simp
                  obtain ⟨X, hX⟩ : ∃ X, wr.heap.size = X := ⟨_, rfl⟩
                  have hX1 : wr.heap.size ≤ X := by rw [← hX]; exact Nat.le_refl _
                  have hS4 : Below wr.heap.size wr (wr.alloc (.cells zTy 24)) := (Below.refl _ _).alloc (Nat.le_refl _) _
                  have hxb0 : Blk (wr.alloc (.cells zTy 24)) X 24 zTy := by rw [← hX]; exact Blk.new _ _ _
                  obtain ⟨w4, hw4⟩ : ∃ w4, wr.alloc (.cells zTy 24) = w4 := ⟨_, rfl⟩
                  unfold zTy at hw4
                  rw [hw4, hX]
                  rw [show wr.alloc (.cells zTy 24) = w4 from hw4] at hxb0 hS4
                  clear hw4
                  refine hK.out _ _ (hS4.drew) (fun hHeld => ?_)
                  clear hK K
                  try simp only [Act.put, List.setIfInBounds_toArray, List.set_cons_zero, List.set_cons_succ]
                  refine wpAnyH_ready (rs := [11]) (by kernel_rfl) (by simp) ?_
                  refine AllReadyH.cons rfl (fun K hK => ?_) (AllReadyH.nil)
                  try go_simp
                  refine (HC.out _ (hS4.drew)).mono ?_
                  rintro e w6 ⟨hb6, e0, e1, e2, e3, rfl, oe, he⟩
                  have se0 := store_one' e0 (oe e0 (by simp))
                  have se1 := store_one' e1 (oe e1 (by simp))
                  have se2 := store_one' e2 (oe e2 (by simp))
                  have se3 := store_one' e3 (oe e3 (by simp))
                  have hS6 : Below wr.heap.size wr w6 := (hS4.drew).trans (hb6.mono (hS4.drew).size)
                  go_wp2_with fail
                  refine hK.out _ _ (hS6) (fun hHeld => ?_)
                  clear hK K
                  try simp only [Act.put, List.setIfInBounds_toArray, List.set_cons_zero, List.set_cons_succ]
                  refine takeH' (i := 12) (d := 35) (v := .tuple #[.agg #[e0, e1, e2, e3], .bool true]) rfl (by kernel_rfl) (by kernel_rfl) (by kernel_rfl) (fun _ _ _ h => h) (Or.inl ⟨by rfl, fun w' hS' => by (first | rfl | go_simp)⟩) hHeld rfl ?_
                  try simp only [Act.put, List.setIfInBounds_toArray, List.set_cons_zero, List.set_cons_succ]
                  refine takeH' (i := 13) (d := 48) (v := .agg #[e0, e1, e2, e3]) rfl (by kernel_rfl) (by kernel_rfl) (by kernel_rfl) (fun _ _ _ h => h) (Or.inl ⟨by rfl, fun w' hS' => by (first | rfl | go_simp)⟩) hHeld rfl ?_
                  try simp only [Act.put, List.setIfInBounds_toArray, List.set_cons_zero, List.set_cons_succ]
                  refine takeH' (i := 14) (d := 49) (v := .bool true) rfl (by kernel_rfl) (by kernel_rfl) (by kernel_rfl) (fun _ _ _ h => h) (Or.inl ⟨by rfl, fun w' hS' => by (first | rfl | go_simp)⟩) hHeld rfl ?_
                  try simp only [Act.put, List.setIfInBounds_toArray, List.set_cons_zero, List.set_cons_succ]
                  have hxb : Blk w6 X 24 zTy := hxb0.below ((Below.refl w4.heap.size w4).drew.trans (hb6.mono (Nat.le_refl _))) hxb0.lt
                  have he6 : ∀ y, some u = some y → TyAt w6 B [e0, e1, e2, e3] y := he
                  have x0 := hxb.cell 0
                  have x1 := hxb.cell 1
                  have x2 := hxb.cell 2
                  have x3 := hxb.cell 3
                  simp only [zTy, List.getElem?_toArray, List.getElem?_cons_succ, List.getElem?_cons_zero] at x0 x1 x2 x3
                  have xf0 := hxb.frozen 0
                  have xf1 := hxb.frozen 1
                  have xf2 := hxb.frozen 2
                  have xf3 := hxb.frozen 3
                  refine wpAnyH_ready (rs := [16]) (by kernel_rfl) (by simp) ?_
                  refine AllReadyH.cons rfl (fun K hK => ?_) (AllReadyH.nil)
                  try go_simp
                  refine hK.out _ _ (below_put4 hS6 hX1 e0 e1 e2 e3) (fun hHeld => ?_)
                  clear hK K
                  try simp only [Act.put, List.setIfInBounds_toArray, List.set_cons_zero, List.set_cons_succ]
                  refine takeH' (i := 17) (d := 10) (v := .bool true) rfl (by kernel_rfl) (by kernel_rfl) (by kernel_rfl) (fun _ _ _ h => h) (Or.inl ⟨by rfl, fun w' hS' => by (first | rfl | go_simp)⟩) hHeld rfl ?_
                  try simp only [Act.put, List.setIfInBounds_toArray, List.set_cons_zero, List.set_cons_succ]
                  refine wpAnyH_done (by kernel_rfl) ?_ _
                  have hx7 := hxb.put4_ e0 e1 e2 e3
                  have hS7 := below_put4 hS6 hX1 e0 e1 e2 e3
                  have he7 : ∀ y, some u = some y → TyAt (put4 w6 X e0 e1 e2 e3) B [e0, e1, e2, e3] y := fun y hy => (he6 y hy).later (below_put4 (Below.refl B w6) (by omega) e0 e1 e2 e3)
                  obtain ⟨w7, hw7⟩ : ∃ w7, put4 w6 X e0 e1 e2 e3 = w7 := ⟨_, rfl⟩
                  rw [hw7] at hx7 hS7 he7
                  have hw7' : (((w6.setCell ⟨X, 0, none⟩ e0).setCell ⟨X, 1, none⟩ e1).setCell ⟨X, 2, none⟩ e2).setCell ⟨X, 3, none⟩ e3 = w7 := hw7
                  rw [hw7']
                  have HE7 := Lib.hid he7
                  have HS7 := Lib.hid hS7
                  have hz7 := hS7.size
                  clear he7 hS7 hw7 hw7' he6 hxb x0 x1 x2 x3 xf0 xf1 xf2 xf3 hHeld
                  have y0 := hx7.cell 0
                  have y1 := hx7.cell 1
                  have y2 := hx7.cell 2
                  have y3 := hx7.cell 3
                  simp only [zTy, List.getElem?_toArray, List.getElem?_cons_succ, List.getElem?_cons_zero] at y0 y1 y2 y3
                  have hR7 := HR2.out.below HS7.out HR2.out.lt
                  have z0 := hR7.cell 0
                  have z1 := hR7.cell 1
                  have z2 := hR7.cell 2
                  have z3 := hR7.cell 3
                  simp only [zTy, List.getElem?_toArray, List.getElem?_cons_succ, List.getElem?_cons_zero] at z0 z1 z2 z3
                  have f0 := hR7.frozen 0
                  have f1 := hR7.frozen 1
                  have f2 := hR7.frozen 2
                  have f3 := hR7.frozen 3
                  go_wp2_with fail
                  have HB5 := Lib.hid (HG.out.trans ((HBE.out.trans (HS7.out.mono hzr)).mono HG.out.size))
                  exact bodyPost_ret (v := .tuple #[.agg #[e0, e1, e2, e3], .bool true]) (res_cell4_tmp (s := 7) (c := 6) rfl rfl (hR7.put4_ _ _ _ _) rfl) rfl (part_hit (R := w.heap.size + 2) HU.out HB5.out HBB.out (by omega) (HE7.out u rfl))
              | none =>
                have HU := Lib.hid (partL_go hkx hky HPL.out HPR.out)
                have ji0 : (0 : Int) ≤ (j : Int) := by omega
                have ji1 : (j : Int) < (l : Int) := by omega
                have ji2 : (j : Int) < (l' : Int) := by omega
                go_wp2_with fail
                refine wp_region_held_drew (S := fun w' => Below wr.heap.size wr w') (by kernel_rfl) ((Below.refl wr.heap.size wr).drew) (fun hHeld => ?_)
                refine takeH' (i := 0) (d := 36) (v := .pointer (some ⟨w.heap.size, 3, none⟩)) rfl (by kernel_rfl) (by kernel_rfl) (by kernel_rfl) (fun _ _ _ h => h) (Or.inl ⟨by rfl, fun w' hS' => by (first | rfl | go_simp)⟩) hHeld rfl ?_
                try simp only [Act.put, List.setIfInBounds_toArray, List.set_cons_zero, List.set_cons_succ]
                refine takeH' (i := 1) (d := 37) (v := .slice (some ⟨g, o, none⟩) l c) rfl (by kernel_rfl) (by kernel_rfl) (by kernel_rfl) (fun _ _ _ h => h) (Or.inl ⟨by rfl, fun w' hS' => by (have hbb := HB2.out.below hS' HB2.out.lt); (have q3 := hbb.cell 3); (simp only [List.getElem?_toArray, List.getElem?_cons_succ, List.getElem?_cons_zero] at q3); (first | rfl | go_simp)⟩) hHeld rfl ?_
                try simp only [Act.put, List.setIfInBounds_toArray, List.set_cons_zero, List.set_cons_succ]
                refine takeH' (i := 2) (d := 38) (v := .int .i64 j) rfl (by kernel_rfl) (by kernel_rfl) (by kernel_rfl) (fun _ _ _ h => h) (Or.inl ⟨by rfl, fun w' hS' => by (first | rfl | go_simp)⟩) hHeld rfl ?_
                try simp only [Act.put, List.setIfInBounds_toArray, List.set_cons_zero, List.set_cons_succ]
                refine takeH' (i := 3) (d := 39) (v := .pointer (some ⟨g, o + j * 4, none⟩)) rfl (by kernel_rfl) (by kernel_rfl) (by kernel_rfl) (fun _ _ _ h => h) (Or.inl ⟨by rfl, fun w' hS' => by (first | rfl | go_simp)⟩) hHeld rfl ?_
                try simp only [Act.put, List.setIfInBounds_toArray, List.set_cons_zero, List.set_cons_succ]
                refine takeH' (i := 4) (d := 40) (v := .agg #[a0, a1, a2, a3]) rfl (by kernel_rfl) (by kernel_rfl) (by kernel_rfl) (fun _ _ _ h => h) (Or.inl ⟨by rfl, fun w' hS' => by (have r0 := (hS'.cell (p := ⟨g, o + j * 4, none⟩) (by show g < _; omega)).trans ca0); (have r1 := (hS'.cell (p := ⟨g, o + j * 4 + 1, none⟩) (by show g < _; omega)).trans ca1); (have r2 := (hS'.cell (p := ⟨g, o + j * 4 + 2, none⟩) (by show g < _; omega)).trans ca2); (have r3 := (hS'.cell (p := ⟨g, o + j * 4 + 3, none⟩) (by show g < _; omega)).trans ca3); (first | rfl | go_simp)⟩) hHeld rfl ?_
                try simp only [Act.put, List.setIfInBounds_toArray, List.set_cons_zero, List.set_cons_succ]
                refine takeH' (i := 5) (d := 41) (v := .pointer (some ⟨w.heap.size + 1, 3, none⟩)) rfl (by kernel_rfl) (by kernel_rfl) (by kernel_rfl) (fun _ _ _ h => h) (Or.inl ⟨by rfl, fun w' hS' => by (first | rfl | go_simp)⟩) hHeld rfl ?_
                try simp only [Act.put, List.setIfInBounds_toArray, List.set_cons_zero, List.set_cons_succ]
                refine takeH' (i := 6) (d := 42) (v := .slice (some ⟨g', o', none⟩) l' c') rfl (by kernel_rfl) (by kernel_rfl) (by kernel_rfl) (fun _ _ _ h => h) (Or.inl ⟨by rfl, fun w' hS' => by (have hbb := HC2.out.below hS' HC2.out.lt); (have q3 := hbb.cell 3); (simp only [List.getElem?_toArray, List.getElem?_cons_succ, List.getElem?_cons_zero] at q3); (first | rfl | go_simp)⟩) hHeld rfl ?_
                try simp only [Act.put, List.setIfInBounds_toArray, List.set_cons_zero, List.set_cons_succ]
                refine takeH' (i := 7) (d := 43) (v := .int .i64 j) rfl (by kernel_rfl) (by kernel_rfl) (by kernel_rfl) (fun _ _ _ h => h) (Or.inl ⟨by rfl, fun w' hS' => by (first | rfl | go_simp)⟩) hHeld rfl ?_
                try simp only [Act.put, List.setIfInBounds_toArray, List.set_cons_zero, List.set_cons_succ]
                refine takeH' (i := 8) (d := 44) (v := .pointer (some ⟨g', o' + j * 4, none⟩)) rfl (by kernel_rfl) (by kernel_rfl) (by kernel_rfl) (fun _ _ _ h => h) (Or.inl ⟨by rfl, fun w' hS' => by (first | rfl | go_simp)⟩) hHeld rfl ?_
                try simp only [Act.put, List.setIfInBounds_toArray, List.set_cons_zero, List.set_cons_succ]
                refine takeH' (i := 9) (d := 45) (v := .agg #[b0, b1, b2, b3]) rfl (by kernel_rfl) (by kernel_rfl) (by kernel_rfl) (fun _ _ _ h => h) (Or.inl ⟨by rfl, fun w' hS' => by (have r0 := (hS'.cell (p := ⟨g', o' + j * 4, none⟩) (by show g' < _; omega)).trans cb0); (have r1 := (hS'.cell (p := ⟨g', o' + j * 4 + 1, none⟩) (by show g' < _; omega)).trans cb1); (have r2 := (hS'.cell (p := ⟨g', o' + j * 4 + 2, none⟩) (by show g' < _; omega)).trans cb2); (have r3 := (hS'.cell (p := ⟨g', o' + j * 4 + 3, none⟩) (by show g' < _; omega)).trans cb3); (first | rfl | go_simp)⟩) hHeld rfl ?_
                try simp only [Act.put, List.setIfInBounds_toArray, List.set_cons_zero, List.set_cons_succ]
                refine takeH' (i := 10) (d := 46) (v := .string x) rfl (by kernel_rfl) (by kernel_rfl) (by kernel_rfl) (fun _ _ _ h => h) (Or.inl ⟨by rfl, fun w' hS' => by (first | rfl | go_simp)⟩) hHeld rfl ?_
                try simp only [Act.put, List.setIfInBounds_toArray, List.set_cons_zero, List.set_cons_succ]
                refine wpAnyH_ready (rs := [11, 15]) (by kernel_rfl) (by simp) ?_
                refine AllReadyH.cons rfl (fun K hK => ?_) (AllReadyH.cons rfl (fun K hK => ?_) (AllReadyH.nil))
                · try go_simp
                  refine (HC.out _ ((Below.refl wr.heap.size wr).drew)).mono ?_
                  rintro e w5 ⟨hb5, e0, e1, e2, e3, rfl, oe, he⟩
                  have se0 := store_one' e0 (oe e0 (by simp))
                  have se1 := store_one' e1 (oe e1 (by simp))
                  have se2 := store_one' e2 (oe e2 (by simp))
                  have se3 := store_one' e3 (oe e3 (by simp))
                  have hS5 : Below wr.heap.size wr w5 := ((Below.refl wr.heap.size wr).drew).trans (hb5.mono ((Below.refl wr.heap.size wr).drew).size)
                  go_wp2_with fail
                  refine hK.out _ _ (hS5) (fun hHeld => ?_)
                  clear hK K
                  try simp only [Act.put, List.setIfInBounds_toArray, List.set_cons_zero, List.set_cons_succ]
                  refine takeH' (i := 12) (d := 35) (v := .tuple #[.agg #[e0, e1, e2, e3], .bool false]) rfl (by kernel_rfl) (by kernel_rfl) (by kernel_rfl) (fun _ _ _ h => h) (Or.inl ⟨by rfl, fun w' hS' => by (first | rfl | go_simp)⟩) hHeld rfl ?_
                  try simp only [Act.put, List.setIfInBounds_toArray, List.set_cons_zero, List.set_cons_succ]
                  refine takeH' (i := 13) (d := 48) (v := .agg #[e0, e1, e2, e3]) rfl (by kernel_rfl) (by kernel_rfl) (by kernel_rfl) (fun _ _ _ h => h) (Or.inl ⟨by rfl, fun w' hS' => by (first | rfl | go_simp)⟩) hHeld rfl ?_
                  try simp only [Act.put, List.setIfInBounds_toArray, List.set_cons_zero, List.set_cons_succ]
                  refine takeH' (i := 14) (d := 49) (v := .bool false) rfl (by kernel_rfl) (by kernel_rfl) (by kernel_rfl) (fun _ _ _ h => h) (Or.inl ⟨by rfl, fun w' hS' => by (first | rfl | go_simp)⟩) hHeld rfl ?_
                  try simp only [Act.put, List.setIfInBounds_toArray, List.set_cons_zero, List.set_cons_succ]
                  refine wpAnyH_ready (rs := [15]) (by kernel_rfl) (by simp) ?_
                  refine AllReadyH.cons rfl (fun K hK => ?_) (AllReadyH.nil)
                  try go_simp
                  obtain ⟨X, hX⟩ : ∃ X, w5.heap.size = X := ⟨_, rfl⟩
                  have hX1 : wr.heap.size ≤ X := by rw [← hX]; exact hS5.size
                  have hxb : Blk (w5.alloc (.cells zTy 24)) X 24 zTy := by rw [← hX]; exact Blk.new _ _ _
                  have hS6 : Below wr.heap.size wr (w5.alloc (.cells zTy 24)) := hS5.alloc hS5.size _
                  have hfr : Below w5.heap.size w5 (w5.alloc (.cells zTy 24)) := (Below.refl _ _).alloc (Nat.le_refl _) _
                  obtain ⟨w6, hw6⟩ : ∃ w6, w5.alloc (.cells zTy 24) = w6 := ⟨_, rfl⟩
                  unfold zTy at hw6
                  rw [hw6, hX]
                  rw [show w5.alloc (.cells zTy 24) = w6 from hw6] at hxb hS6 hfr
                  have he6 : ∀ y, (none : Option Ty) = some y → TyAt w6 B [e0, e1, e2, e3] y := fun y hy => (he y hy).later (hfr.mono (by have := hb5.size; have := ((Below.refl wr.heap.size wr).drew).size; omega))
                  clear hw6
                  refine hK.out _ _ (hS6) (fun hHeld => ?_)
                  clear hK K
                  try simp only [Act.put, List.setIfInBounds_toArray, List.set_cons_zero, List.set_cons_succ]
                  have x0 := hxb.cell 0
                  have x1 := hxb.cell 1
                  have x2 := hxb.cell 2
                  have x3 := hxb.cell 3
                  simp only [zTy, List.getElem?_toArray, List.getElem?_cons_succ, List.getElem?_cons_zero] at x0 x1 x2 x3
                  have xf0 := hxb.frozen 0
                  have xf1 := hxb.frozen 1
                  have xf2 := hxb.frozen 2
                  have xf3 := hxb.frozen 3
                  refine wpAnyH_ready (rs := [16]) (by kernel_rfl) (by simp) ?_
                  refine AllReadyH.cons rfl (fun K hK => ?_) (AllReadyH.nil)
                  try go_simp
                  refine hK.out _ _ (below_put4 hS6 hX1 e0 e1 e2 e3) (fun hHeld => ?_)
                  clear hK K
                  try simp only [Act.put, List.setIfInBounds_toArray, List.set_cons_zero, List.set_cons_succ]
                  refine takeH' (i := 17) (d := 10) (v := .bool false) rfl (by kernel_rfl) (by kernel_rfl) (by kernel_rfl) (fun _ _ _ h => h) (Or.inl ⟨by rfl, fun w' hS' => by (first | rfl | go_simp)⟩) hHeld rfl ?_
                  try simp only [Act.put, List.setIfInBounds_toArray, List.set_cons_zero, List.set_cons_succ]
                  refine wpAnyH_done (by kernel_rfl) ?_ _
                  have hx7 := hxb.put4_ e0 e1 e2 e3
                  have hS7 := below_put4 hS6 hX1 e0 e1 e2 e3
                  have he7 : ∀ y, (none : Option Ty) = some y → TyAt (put4 w6 X e0 e1 e2 e3) B [e0, e1, e2, e3] y := fun y hy => (he6 y hy).later (below_put4 (Below.refl B w6) (by omega) e0 e1 e2 e3)
                  obtain ⟨w7, hw7⟩ : ∃ w7, put4 w6 X e0 e1 e2 e3 = w7 := ⟨_, rfl⟩
                  rw [hw7] at hx7 hS7 he7
                  have hw7' : (((w6.setCell ⟨X, 0, none⟩ e0).setCell ⟨X, 1, none⟩ e1).setCell ⟨X, 2, none⟩ e2).setCell ⟨X, 3, none⟩ e3 = w7 := hw7
                  rw [hw7']
                  have HE7 := Lib.hid he7
                  have HS7 := Lib.hid hS7
                  have hz7 := hS7.size
                  clear he7 hS7 hw7 hw7' he6 hxb x0 x1 x2 x3 xf0 xf1 xf2 xf3 hHeld
                  have y0 := hx7.cell 0
                  have y1 := hx7.cell 1
                  have y2 := hx7.cell 2
                  have y3 := hx7.cell 3
                  simp only [zTy, List.getElem?_toArray, List.getElem?_cons_succ, List.getElem?_cons_zero] at y0 y1 y2 y3
                  have hR7 := HR2.out.below HS7.out HR2.out.lt
                  have z0 := hR7.cell 0
                  have z1 := hR7.cell 1
                  have z2 := hR7.cell 2
                  have z3 := hR7.cell 3
                  simp only [zTy, List.getElem?_toArray, List.getElem?_cons_succ, List.getElem?_cons_zero] at z0 z1 z2 z3
                  have f0 := hR7.frozen 0
                  have f1 := hR7.frozen 1
                  have f2 := hR7.frozen 2
                  have f3 := hR7.frozen 3
                  go_wp2_with fail
                  go_roundw
                  case rel => exact ⟨j + 1, by go_num, by omega, by omega, HU.out, HBE.out.trans (HS7.out.mono hzr)⟩
                  case measure => simp [intOf]; omega
                · try go_simp
                  obtain ⟨X, hX⟩ : ∃ X, wr.heap.size = X := ⟨_, rfl⟩
                  have hX1 : wr.heap.size ≤ X := by rw [← hX]; exact Nat.le_refl _
                  have hS4 : Below wr.heap.size wr (wr.alloc (.cells zTy 24)) := (Below.refl _ _).alloc (Nat.le_refl _) _
                  have hxb0 : Blk (wr.alloc (.cells zTy 24)) X 24 zTy := by rw [← hX]; exact Blk.new _ _ _
                  obtain ⟨w4, hw4⟩ : ∃ w4, wr.alloc (.cells zTy 24) = w4 := ⟨_, rfl⟩
                  unfold zTy at hw4
                  rw [hw4, hX]
                  rw [show wr.alloc (.cells zTy 24) = w4 from hw4] at hxb0 hS4
                  clear hw4
                  refine hK.out _ _ (hS4.drew) (fun hHeld => ?_)
                  clear hK K
                  try simp only [Act.put, List.setIfInBounds_toArray, List.set_cons_zero, List.set_cons_succ]
                  refine wpAnyH_ready (rs := [11]) (by kernel_rfl) (by simp) ?_
                  refine AllReadyH.cons rfl (fun K hK => ?_) (AllReadyH.nil)
                  try go_simp
                  refine (HC.out _ (hS4.drew)).mono ?_
                  rintro e w6 ⟨hb6, e0, e1, e2, e3, rfl, oe, he⟩
                  have se0 := store_one' e0 (oe e0 (by simp))
                  have se1 := store_one' e1 (oe e1 (by simp))
                  have se2 := store_one' e2 (oe e2 (by simp))
                  have se3 := store_one' e3 (oe e3 (by simp))
                  have hS6 : Below wr.heap.size wr w6 := (hS4.drew).trans (hb6.mono (hS4.drew).size)
                  go_wp2_with fail
                  refine hK.out _ _ (hS6) (fun hHeld => ?_)
                  clear hK K
                  try simp only [Act.put, List.setIfInBounds_toArray, List.set_cons_zero, List.set_cons_succ]
                  refine takeH' (i := 12) (d := 35) (v := .tuple #[.agg #[e0, e1, e2, e3], .bool false]) rfl (by kernel_rfl) (by kernel_rfl) (by kernel_rfl) (fun _ _ _ h => h) (Or.inl ⟨by rfl, fun w' hS' => by (first | rfl | go_simp)⟩) hHeld rfl ?_
                  try simp only [Act.put, List.setIfInBounds_toArray, List.set_cons_zero, List.set_cons_succ]
                  refine takeH' (i := 13) (d := 48) (v := .agg #[e0, e1, e2, e3]) rfl (by kernel_rfl) (by kernel_rfl) (by kernel_rfl) (fun _ _ _ h => h) (Or.inl ⟨by rfl, fun w' hS' => by (first | rfl | go_simp)⟩) hHeld rfl ?_
                  try simp only [Act.put, List.setIfInBounds_toArray, List.set_cons_zero, List.set_cons_succ]
                  refine takeH' (i := 14) (d := 49) (v := .bool false) rfl (by kernel_rfl) (by kernel_rfl) (by kernel_rfl) (fun _ _ _ h => h) (Or.inl ⟨by rfl, fun w' hS' => by (first | rfl | go_simp)⟩) hHeld rfl ?_
                  try simp only [Act.put, List.setIfInBounds_toArray, List.set_cons_zero, List.set_cons_succ]
                  have hxb : Blk w6 X 24 zTy := hxb0.below ((Below.refl w4.heap.size w4).drew.trans (hb6.mono (Nat.le_refl _))) hxb0.lt
                  have he6 : ∀ y, (none : Option Ty) = some y → TyAt w6 B [e0, e1, e2, e3] y := he
                  have x0 := hxb.cell 0
                  have x1 := hxb.cell 1
                  have x2 := hxb.cell 2
                  have x3 := hxb.cell 3
                  simp only [zTy, List.getElem?_toArray, List.getElem?_cons_succ, List.getElem?_cons_zero] at x0 x1 x2 x3
                  have xf0 := hxb.frozen 0
                  have xf1 := hxb.frozen 1
                  have xf2 := hxb.frozen 2
                  have xf3 := hxb.frozen 3
                  refine wpAnyH_ready (rs := [16]) (by kernel_rfl) (by simp) ?_
                  refine AllReadyH.cons rfl (fun K hK => ?_) (AllReadyH.nil)
                  try go_simp
                  refine hK.out _ _ (below_put4 hS6 hX1 e0 e1 e2 e3) (fun hHeld => ?_)
                  clear hK K
                  try simp only [Act.put, List.setIfInBounds_toArray, List.set_cons_zero, List.set_cons_succ]
                  refine takeH' (i := 17) (d := 10) (v := .bool false) rfl (by kernel_rfl) (by kernel_rfl) (by kernel_rfl) (fun _ _ _ h => h) (Or.inl ⟨by rfl, fun w' hS' => by (first | rfl | go_simp)⟩) hHeld rfl ?_
                  try simp only [Act.put, List.setIfInBounds_toArray, List.set_cons_zero, List.set_cons_succ]
                  refine wpAnyH_done (by kernel_rfl) ?_ _
                  have hx7 := hxb.put4_ e0 e1 e2 e3
                  have hS7 := below_put4 hS6 hX1 e0 e1 e2 e3
                  have he7 : ∀ y, (none : Option Ty) = some y → TyAt (put4 w6 X e0 e1 e2 e3) B [e0, e1, e2, e3] y := fun y hy => (he6 y hy).later (below_put4 (Below.refl B w6) (by omega) e0 e1 e2 e3)
                  obtain ⟨w7, hw7⟩ : ∃ w7, put4 w6 X e0 e1 e2 e3 = w7 := ⟨_, rfl⟩
                  rw [hw7] at hx7 hS7 he7
                  have hw7' : (((w6.setCell ⟨X, 0, none⟩ e0).setCell ⟨X, 1, none⟩ e1).setCell ⟨X, 2, none⟩ e2).setCell ⟨X, 3, none⟩ e3 = w7 := hw7
                  rw [hw7']
                  have HE7 := Lib.hid he7
                  have HS7 := Lib.hid hS7
                  have hz7 := hS7.size
                  clear he7 hS7 hw7 hw7' he6 hxb x0 x1 x2 x3 xf0 xf1 xf2 xf3 hHeld
                  have y0 := hx7.cell 0
                  have y1 := hx7.cell 1
                  have y2 := hx7.cell 2
                  have y3 := hx7.cell 3
                  simp only [zTy, List.getElem?_toArray, List.getElem?_cons_succ, List.getElem?_cons_zero] at y0 y1 y2 y3
                  have hR7 := HR2.out.below HS7.out HR2.out.lt
                  have z0 := hR7.cell 0
                  have z1 := hR7.cell 1
                  have z2 := hR7.cell 2
                  have z3 := hR7.cell 3
                  simp only [zTy, List.getElem?_toArray, List.getElem?_cons_succ, List.getElem?_cons_zero] at z0 z1 z2 z3
                  have f0 := hR7.frozen 0
                  have f1 := hR7.frozen 1
                  have f2 := hR7.frozen 2
                  have f3 := hR7.frozen 3
                  go_wp2_with fail
                  go_roundw
                  case rel => exact ⟨j + 1, by go_num, by omega, by omega, HU.out, HBE.out.trans (HS7.out.mono hzr)⟩
                  case measure => simp [intOf]; omega
            · have HPN := Lib.hid (show r = none by rw [← HPL.out]; exact partL_none x _ _ (by right; exact List.drop_eq_nil_of_le (by have := HL2.out; omega)))
              have z0 := hR2.cell 0
              have z1 := hR2.cell 1
              have z2 := hR2.cell 2
              have z3 := hR2.cell 3
              simp only [zTy, List.getElem?_toArray, List.getElem?_cons_succ, List.getElem?_cons_zero] at z0 z1 z2 z3
              have f0 := hR2.frozen 0
              have f1 := hR2.frozen 1
              have f2 := hR2.frozen 2
              have f3 := hR2.frozen 3
              go_wp2_with fail
              exact bodyPost_ret (v := .tuple #[.agg #[.int .i64 0, .string ⟨#[]⟩, .int .i64 0, .slice none 0 0], .bool false]) (res_cell4_tmp (s := 7) (c := 6) rfl rfl (hR2.put4_ _ _ _ _) rfl) rfl (part_miss HPN.out (HG.out.trans (HBE.out.mono HG.out.size)) (by omega))
          · have HPN := Lib.hid (show r = none by rw [← HPL.out]; exact partL_none x _ _ (by left; exact List.drop_eq_nil_of_le (by have := HL.out; omega)))
            have z0 := hR2.cell 0
            have z1 := hR2.cell 1
            have z2 := hR2.cell 2
            have z3 := hR2.cell 3
            simp only [zTy, List.getElem?_toArray, List.getElem?_cons_succ, List.getElem?_cons_zero] at z0 z1 z2 z3
            have f0 := hR2.frozen 0
            have f1 := hR2.frozen 1
            have f2 := hR2.frozen 2
            have f3 := hR2.frozen 3
            go_wp2_with fail
            exact bodyPost_ret (v := .tuple #[.agg #[.int .i64 0, .string ⟨#[]⟩, .int .i64 0, .slice none 0 0], .bool false]) (res_cell4_tmp (s := 7) (c := 6) rfl rfl (hR2.put4_ _ _ _ _) rfl) rfl (part_miss HPN.out (HG.out.trans (HBE.out.mono HG.out.size)) (by omega))
    · have d1 : (k == 1) = false := by simpa using h1
      have HQ := Lib.hid (show partL ks ks' x = r from HP.out.resolve_left (fun h => h1 h.1))
      clear h1
      go_enter Try.func53, Try.ntmps53
      go_upto_region 1 with fail
      unfold zTy at HW
      rw [show w.heap.size + 1 + 1 = w.heap.size + 2 from rfl]
      rw [HW.out]
      go_wp2_with fail
      clear z0 z1 z2 z3 f0 f1 f2 f3 p0 p1 p2 p3 q0 q1 q2 q3
      go_loopw [8] (fun i wr => ∃ j : Nat, i = .int .i64 j ∧ j ≤ l ∧ j ≤ l' ∧ partL (ks.drop j) (ks'.drop j) x = r ∧ Below W3.heap.size W3 wr) (fun i _ => l - (intOf i).toNat)
      case atStart => exact ⟨0, rfl, Nat.zero_le _, Nat.zero_le _, by simpa using HQ.out, Below.refl _ _⟩
      case round =>
        obtain ⟨j, rfl, hj, hj', hpl, hbe⟩ := hrel
        have hB2 := HBX.out.below hbe (by have := HZ.out; omega)
        have hC2 := HBY.out.below hbe (by have := HZ.out; omega)
        have hR2 := HBR.out.below hbe (by have := HZ.out; omega)
        have p0 := hB2.cell 0
        have p1 := hB2.cell 1
        have p2 := hB2.cell 2
        have p3 := hB2.cell 3
        simp only [zTy, List.getElem?_toArray, List.getElem?_cons_succ, List.getElem?_cons_zero] at p0 p1 p2 p3
        have q0 := hC2.cell 0
        have q1 := hC2.cell 1
        have q2 := hC2.cell 2
        have q3 := hC2.cell 3
        simp only [zTy, List.getElem?_toArray, List.getElem?_cons_succ, List.getElem?_cons_zero] at q0 q1 q2 q3
        have HPL := Lib.hid hpl
        have HBE := Lib.hid hbe
        have hzr := hbe.size
        clear hpl hbe
        by_cases hlt : j < l
        · by_cases hlt' : j < l'
          · have hkx : j < ks.length := by rw [HL.out]; exact hlt
            have hky : j < ks'.length := by rw [HL2.out]; exact hlt'
            have hBW : B ≤ W3.heap.size := by have := HZ.out; have := HBB.out; omega
            obtain ⟨g, o, a0, a1, a2, a3, rfl, hba, ca0, ca1, ca2, ca3, hta⟩ := (HX.out.later (HBE.out.mono hBW)).at_ hkx
            obtain ⟨g', o', b0, b1, b2, b3, rfl, hbb, cb0, cb1, cb2, cb3, htb⟩ := (HY.out.later (HBE.out.mono hBW)).at_ hky
            have C := fun (V : World) (hV : Below wr.heap.size wr V) => HIH.out ks[j] ks'[j] (List.getElem_mem hkx) (List.getElem_mem hky) V [a0, a1, a2, a3] [b0, b1, b2, b3] (by have := hV.size; omega) (hta.later (hV.mono (by omega))) (htb.later (hV.mono (by omega)))
            obtain ⟨pr, hpr⟩ : ∃ pr, partT ks[j] ks'[j] x = pr := ⟨_, rfl⟩
            rw [hpr] at C
            have HC := Lib.hid C
            have HPR := Lib.hid hpr
            have hgl : g < wr.heap.size := by omega
            have hgl' : g' < wr.heap.size := by omega
            have HB2 := Lib.hid hB2
            have HC2 := Lib.hid hC2
            have HR2 := Lib.hid hR2
            clear hta htb C hpr hB2 hC2
            cases pr with
            | some u =>
              have HU := Lib.hid (partL_hit hkx hky HPL.out HPR.out)
              have ji0 : (0 : Int) ≤ (j : Int) := by omega
              have ji1 : (j : Int) < (l : Int) := by omega
              have ji2 : (j : Int) < (l' : Int) := by omega
              go_wp2_with fail
              refine wp_region_held_drew (S := fun w' => Below wr.heap.size wr w') (by kernel_rfl) ((Below.refl wr.heap.size wr).drew) (fun hHeld => ?_)
              refine takeH' (i := 0) (d := 36) (v := .pointer (some ⟨w.heap.size, 3, none⟩)) rfl (by kernel_rfl) (by kernel_rfl) (by kernel_rfl) (fun _ _ _ h => h) (Or.inl ⟨by rfl, fun w' hS' => by (first | rfl | go_simp)⟩) hHeld rfl ?_
              try simp only [Act.put, List.setIfInBounds_toArray, List.set_cons_zero, List.set_cons_succ]
              refine takeH' (i := 1) (d := 37) (v := .slice (some ⟨g, o, none⟩) l c) rfl (by kernel_rfl) (by kernel_rfl) (by kernel_rfl) (fun _ _ _ h => h) (Or.inl ⟨by rfl, fun w' hS' => by (have hbb := HB2.out.below hS' HB2.out.lt); (have q3 := hbb.cell 3); (simp only [List.getElem?_toArray, List.getElem?_cons_succ, List.getElem?_cons_zero] at q3); (first | rfl | go_simp)⟩) hHeld rfl ?_
              try simp only [Act.put, List.setIfInBounds_toArray, List.set_cons_zero, List.set_cons_succ]
              refine takeH' (i := 2) (d := 38) (v := .int .i64 j) rfl (by kernel_rfl) (by kernel_rfl) (by kernel_rfl) (fun _ _ _ h => h) (Or.inl ⟨by rfl, fun w' hS' => by (first | rfl | go_simp)⟩) hHeld rfl ?_
              try simp only [Act.put, List.setIfInBounds_toArray, List.set_cons_zero, List.set_cons_succ]
              refine takeH' (i := 3) (d := 39) (v := .pointer (some ⟨g, o + j * 4, none⟩)) rfl (by kernel_rfl) (by kernel_rfl) (by kernel_rfl) (fun _ _ _ h => h) (Or.inl ⟨by rfl, fun w' hS' => by (first | rfl | go_simp)⟩) hHeld rfl ?_
              try simp only [Act.put, List.setIfInBounds_toArray, List.set_cons_zero, List.set_cons_succ]
              refine takeH' (i := 4) (d := 40) (v := .agg #[a0, a1, a2, a3]) rfl (by kernel_rfl) (by kernel_rfl) (by kernel_rfl) (fun _ _ _ h => h) (Or.inl ⟨by rfl, fun w' hS' => by (have r0 := (hS'.cell (p := ⟨g, o + j * 4, none⟩) (by show g < _; omega)).trans ca0); (have r1 := (hS'.cell (p := ⟨g, o + j * 4 + 1, none⟩) (by show g < _; omega)).trans ca1); (have r2 := (hS'.cell (p := ⟨g, o + j * 4 + 2, none⟩) (by show g < _; omega)).trans ca2); (have r3 := (hS'.cell (p := ⟨g, o + j * 4 + 3, none⟩) (by show g < _; omega)).trans ca3); (first | rfl | go_simp)⟩) hHeld rfl ?_
              try simp only [Act.put, List.setIfInBounds_toArray, List.set_cons_zero, List.set_cons_succ]
              refine takeH' (i := 5) (d := 41) (v := .pointer (some ⟨w.heap.size + 1, 3, none⟩)) rfl (by kernel_rfl) (by kernel_rfl) (by kernel_rfl) (fun _ _ _ h => h) (Or.inl ⟨by rfl, fun w' hS' => by (first | rfl | go_simp)⟩) hHeld rfl ?_
              try simp only [Act.put, List.setIfInBounds_toArray, List.set_cons_zero, List.set_cons_succ]
              refine takeH' (i := 6) (d := 42) (v := .slice (some ⟨g', o', none⟩) l' c') rfl (by kernel_rfl) (by kernel_rfl) (by kernel_rfl) (fun _ _ _ h => h) (Or.inl ⟨by rfl, fun w' hS' => by (have hbb := HC2.out.below hS' HC2.out.lt); (have q3 := hbb.cell 3); (simp only [List.getElem?_toArray, List.getElem?_cons_succ, List.getElem?_cons_zero] at q3); (first | rfl | go_simp)⟩) hHeld rfl ?_
              try simp only [Act.put, List.setIfInBounds_toArray, List.set_cons_zero, List.set_cons_succ]
              refine takeH' (i := 7) (d := 43) (v := .int .i64 j) rfl (by kernel_rfl) (by kernel_rfl) (by kernel_rfl) (fun _ _ _ h => h) (Or.inl ⟨by rfl, fun w' hS' => by (first | rfl | go_simp)⟩) hHeld rfl ?_
              try simp only [Act.put, List.setIfInBounds_toArray, List.set_cons_zero, List.set_cons_succ]
              refine takeH' (i := 8) (d := 44) (v := .pointer (some ⟨g', o' + j * 4, none⟩)) rfl (by kernel_rfl) (by kernel_rfl) (by kernel_rfl) (fun _ _ _ h => h) (Or.inl ⟨by rfl, fun w' hS' => by (first | rfl | go_simp)⟩) hHeld rfl ?_
              try simp only [Act.put, List.setIfInBounds_toArray, List.set_cons_zero, List.set_cons_succ]
              refine takeH' (i := 9) (d := 45) (v := .agg #[b0, b1, b2, b3]) rfl (by kernel_rfl) (by kernel_rfl) (by kernel_rfl) (fun _ _ _ h => h) (Or.inl ⟨by rfl, fun w' hS' => by (have r0 := (hS'.cell (p := ⟨g', o' + j * 4, none⟩) (by show g' < _; omega)).trans cb0); (have r1 := (hS'.cell (p := ⟨g', o' + j * 4 + 1, none⟩) (by show g' < _; omega)).trans cb1); (have r2 := (hS'.cell (p := ⟨g', o' + j * 4 + 2, none⟩) (by show g' < _; omega)).trans cb2); (have r3 := (hS'.cell (p := ⟨g', o' + j * 4 + 3, none⟩) (by show g' < _; omega)).trans cb3); (first | rfl | go_simp)⟩) hHeld rfl ?_
              try simp only [Act.put, List.setIfInBounds_toArray, List.set_cons_zero, List.set_cons_succ]
              refine takeH' (i := 10) (d := 46) (v := .string x) rfl (by kernel_rfl) (by kernel_rfl) (by kernel_rfl) (fun _ _ _ h => h) (Or.inl ⟨by rfl, fun w' hS' => by (first | rfl | go_simp)⟩) hHeld rfl ?_
              try simp only [Act.put, List.setIfInBounds_toArray, List.set_cons_zero, List.set_cons_succ]
              refine wpAnyH_ready (rs := [11, 15]) (by kernel_rfl) (by simp) ?_
              refine AllReadyH.cons rfl (fun K hK => ?_) (AllReadyH.cons rfl (fun K hK => ?_) (AllReadyH.nil))
              · try go_simp
                refine (HC.out _ ((Below.refl wr.heap.size wr).drew)).mono ?_
                rintro e w5 ⟨hb5, e0, e1, e2, e3, rfl, oe, he⟩
                have se0 := store_one' e0 (oe e0 (by simp))
                have se1 := store_one' e1 (oe e1 (by simp))
                have se2 := store_one' e2 (oe e2 (by simp))
                have se3 := store_one' e3 (oe e3 (by simp))
                have hS5 : Below wr.heap.size wr w5 := ((Below.refl wr.heap.size wr).drew).trans (hb5.mono ((Below.refl wr.heap.size wr).drew).size)
                go_wp2_with fail
                refine hK.out _ _ (hS5) (fun hHeld => ?_)
                clear hK K
                try simp only [Act.put, List.setIfInBounds_toArray, List.set_cons_zero, List.set_cons_succ]
                refine takeH' (i := 12) (d := 35) (v := .tuple #[.agg #[e0, e1, e2, e3], .bool true]) rfl (by kernel_rfl) (by kernel_rfl) (by kernel_rfl) (fun _ _ _ h => h) (Or.inl ⟨by rfl, fun w' hS' => by (first | rfl | go_simp)⟩) hHeld rfl ?_
                try simp only [Act.put, List.setIfInBounds_toArray, List.set_cons_zero, List.set_cons_succ]
                refine takeH' (i := 13) (d := 48) (v := .agg #[e0, e1, e2, e3]) rfl (by kernel_rfl) (by kernel_rfl) (by kernel_rfl) (fun _ _ _ h => h) (Or.inl ⟨by rfl, fun w' hS' => by (first | rfl | go_simp)⟩) hHeld rfl ?_
                try simp only [Act.put, List.setIfInBounds_toArray, List.set_cons_zero, List.set_cons_succ]
                refine takeH' (i := 14) (d := 49) (v := .bool true) rfl (by kernel_rfl) (by kernel_rfl) (by kernel_rfl) (fun _ _ _ h => h) (Or.inl ⟨by rfl, fun w' hS' => by (first | rfl | go_simp)⟩) hHeld rfl ?_
                try simp only [Act.put, List.setIfInBounds_toArray, List.set_cons_zero, List.set_cons_succ]
                refine wpAnyH_ready (rs := [15]) (by kernel_rfl) (by simp) ?_
                refine AllReadyH.cons rfl (fun K hK => ?_) (AllReadyH.nil)
                try go_simp
                obtain ⟨X, hX⟩ : ∃ X, w5.heap.size = X := ⟨_, rfl⟩
                have hX1 : wr.heap.size ≤ X := by rw [← hX]; exact hS5.size
                have hxb : Blk (w5.alloc (.cells zTy 24)) X 24 zTy := by rw [← hX]; exact Blk.new _ _ _
                have hS6 : Below wr.heap.size wr (w5.alloc (.cells zTy 24)) := hS5.alloc hS5.size _
                have hfr : Below w5.heap.size w5 (w5.alloc (.cells zTy 24)) := (Below.refl _ _).alloc (Nat.le_refl _) _
                obtain ⟨w6, hw6⟩ : ∃ w6, w5.alloc (.cells zTy 24) = w6 := ⟨_, rfl⟩
                unfold zTy at hw6
                rw [hw6, hX]
                rw [show w5.alloc (.cells zTy 24) = w6 from hw6] at hxb hS6 hfr
                have he6 : ∀ y, some u = some y → TyAt w6 B [e0, e1, e2, e3] y := fun y hy => (he y hy).later (hfr.mono (by have := hb5.size; have := ((Below.refl wr.heap.size wr).drew).size; omega))
                clear hw6
                refine hK.out _ _ (hS6) (fun hHeld => ?_)
                clear hK K
                try simp only [Act.put, List.setIfInBounds_toArray, List.set_cons_zero, List.set_cons_succ]
                have x0 := hxb.cell 0
                have x1 := hxb.cell 1
                have x2 := hxb.cell 2
                have x3 := hxb.cell 3
                simp only [zTy, List.getElem?_toArray, List.getElem?_cons_succ, List.getElem?_cons_zero] at x0 x1 x2 x3
                have xf0 := hxb.frozen 0
                have xf1 := hxb.frozen 1
                have xf2 := hxb.frozen 2
                have xf3 := hxb.frozen 3
                refine wpAnyH_ready (rs := [16]) (by kernel_rfl) (by simp) ?_
                refine AllReadyH.cons rfl (fun K hK => ?_) (AllReadyH.nil)
                try go_simp
                refine hK.out _ _ (below_put4 hS6 hX1 e0 e1 e2 e3) (fun hHeld => ?_)
                clear hK K
                try simp only [Act.put, List.setIfInBounds_toArray, List.set_cons_zero, List.set_cons_succ]
                refine takeH' (i := 17) (d := 10) (v := .bool true) rfl (by kernel_rfl) (by kernel_rfl) (by kernel_rfl) (fun _ _ _ h => h) (Or.inl ⟨by rfl, fun w' hS' => by (first | rfl | go_simp)⟩) hHeld rfl ?_
                try simp only [Act.put, List.setIfInBounds_toArray, List.set_cons_zero, List.set_cons_succ]
                refine wpAnyH_done (by kernel_rfl) ?_ _
                have hx7 := hxb.put4_ e0 e1 e2 e3
                have hS7 := below_put4 hS6 hX1 e0 e1 e2 e3
                have he7 : ∀ y, some u = some y → TyAt (put4 w6 X e0 e1 e2 e3) B [e0, e1, e2, e3] y := fun y hy => (he6 y hy).later (below_put4 (Below.refl B w6) (by omega) e0 e1 e2 e3)
                obtain ⟨w7, hw7⟩ : ∃ w7, put4 w6 X e0 e1 e2 e3 = w7 := ⟨_, rfl⟩
                rw [hw7] at hx7 hS7 he7
                have hw7' : (((w6.setCell ⟨X, 0, none⟩ e0).setCell ⟨X, 1, none⟩ e1).setCell ⟨X, 2, none⟩ e2).setCell ⟨X, 3, none⟩ e3 = w7 := hw7
                rw [hw7']
                have HE7 := Lib.hid he7
                have HS7 := Lib.hid hS7
                have hz7 := hS7.size
                clear he7 hS7 hw7 hw7' he6 hxb x0 x1 x2 x3 xf0 xf1 xf2 xf3 hHeld
                have y0 := hx7.cell 0
                have y1 := hx7.cell 1
                have y2 := hx7.cell 2
                have y3 := hx7.cell 3
                simp only [zTy, List.getElem?_toArray, List.getElem?_cons_succ, List.getElem?_cons_zero] at y0 y1 y2 y3
                have hR7 := HR2.out.below HS7.out HR2.out.lt
                have z0 := hR7.cell 0
                have z1 := hR7.cell 1
                have z2 := hR7.cell 2
                have z3 := hR7.cell 3
                simp only [zTy, List.getElem?_toArray, List.getElem?_cons_succ, List.getElem?_cons_zero] at z0 z1 z2 z3
                have f0 := hR7.frozen 0
                have f1 := hR7.frozen 1
                have f2 := hR7.frozen 2
                have f3 := hR7.frozen 3
                go_wp2_with fail
                have HB5 := Lib.hid (HG.out.trans ((HBE.out.trans (HS7.out.mono hzr)).mono HG.out.size))
                exact bodyPost_ret (v := .tuple #[.agg #[e0, e1, e2, e3], .bool true]) (res_cell4_tmp (s := 7) (c := 6) rfl rfl (hR7.put4_ _ _ _ _) rfl) rfl (part_hit (R := w.heap.size + 2) HU.out HB5.out HBB.out (by omega) (HE7.out u rfl))
              · try go_simp
                obtain ⟨X, hX⟩ : ∃ X, wr.heap.size = X := ⟨_, rfl⟩
                have hX1 : wr.heap.size ≤ X := by rw [← hX]; exact Nat.le_refl _
                have hS4 : Below wr.heap.size wr (wr.alloc (.cells zTy 24)) := (Below.refl _ _).alloc (Nat.le_refl _) _
                have hxb0 : Blk (wr.alloc (.cells zTy 24)) X 24 zTy := by rw [← hX]; exact Blk.new _ _ _
                obtain ⟨w4, hw4⟩ : ∃ w4, wr.alloc (.cells zTy 24) = w4 := ⟨_, rfl⟩
                unfold zTy at hw4
                rw [hw4, hX]
                rw [show wr.alloc (.cells zTy 24) = w4 from hw4] at hxb0 hS4
                clear hw4
                refine hK.out _ _ (hS4.drew) (fun hHeld => ?_)
                clear hK K
                try simp only [Act.put, List.setIfInBounds_toArray, List.set_cons_zero, List.set_cons_succ]
                refine wpAnyH_ready (rs := [11]) (by kernel_rfl) (by simp) ?_
                refine AllReadyH.cons rfl (fun K hK => ?_) (AllReadyH.nil)
                try go_simp
                refine (HC.out _ (hS4.drew)).mono ?_
                rintro e w6 ⟨hb6, e0, e1, e2, e3, rfl, oe, he⟩
                have se0 := store_one' e0 (oe e0 (by simp))
                have se1 := store_one' e1 (oe e1 (by simp))
                have se2 := store_one' e2 (oe e2 (by simp))
                have se3 := store_one' e3 (oe e3 (by simp))
                have hS6 : Below wr.heap.size wr w6 := (hS4.drew).trans (hb6.mono (hS4.drew).size)
                go_wp2_with fail
                refine hK.out _ _ (hS6) (fun hHeld => ?_)
                clear hK K
                try simp only [Act.put, List.setIfInBounds_toArray, List.set_cons_zero, List.set_cons_succ]
                refine takeH' (i := 12) (d := 35) (v := .tuple #[.agg #[e0, e1, e2, e3], .bool true]) rfl (by kernel_rfl) (by kernel_rfl) (by kernel_rfl) (fun _ _ _ h => h) (Or.inl ⟨by rfl, fun w' hS' => by (first | rfl | go_simp)⟩) hHeld rfl ?_
                try simp only [Act.put, List.setIfInBounds_toArray, List.set_cons_zero, List.set_cons_succ]
                refine takeH' (i := 13) (d := 48) (v := .agg #[e0, e1, e2, e3]) rfl (by kernel_rfl) (by kernel_rfl) (by kernel_rfl) (fun _ _ _ h => h) (Or.inl ⟨by rfl, fun w' hS' => by (first | rfl | go_simp)⟩) hHeld rfl ?_
                try simp only [Act.put, List.setIfInBounds_toArray, List.set_cons_zero, List.set_cons_succ]
                refine takeH' (i := 14) (d := 49) (v := .bool true) rfl (by kernel_rfl) (by kernel_rfl) (by kernel_rfl) (fun _ _ _ h => h) (Or.inl ⟨by rfl, fun w' hS' => by (first | rfl | go_simp)⟩) hHeld rfl ?_
                try simp only [Act.put, List.setIfInBounds_toArray, List.set_cons_zero, List.set_cons_succ]
                have hxb : Blk w6 X 24 zTy := hxb0.below ((Below.refl w4.heap.size w4).drew.trans (hb6.mono (Nat.le_refl _))) hxb0.lt
                have he6 : ∀ y, some u = some y → TyAt w6 B [e0, e1, e2, e3] y := he
                have x0 := hxb.cell 0
                have x1 := hxb.cell 1
                have x2 := hxb.cell 2
                have x3 := hxb.cell 3
                simp only [zTy, List.getElem?_toArray, List.getElem?_cons_succ, List.getElem?_cons_zero] at x0 x1 x2 x3
                have xf0 := hxb.frozen 0
                have xf1 := hxb.frozen 1
                have xf2 := hxb.frozen 2
                have xf3 := hxb.frozen 3
                refine wpAnyH_ready (rs := [16]) (by kernel_rfl) (by simp) ?_
                refine AllReadyH.cons rfl (fun K hK => ?_) (AllReadyH.nil)
                try go_simp
                refine hK.out _ _ (below_put4 hS6 hX1 e0 e1 e2 e3) (fun hHeld => ?_)
                clear hK K
                try simp only [Act.put, List.setIfInBounds_toArray, List.set_cons_zero, List.set_cons_succ]
                refine takeH' (i := 17) (d := 10) (v := .bool true) rfl (by kernel_rfl) (by kernel_rfl) (by kernel_rfl) (fun _ _ _ h => h) (Or.inl ⟨by rfl, fun w' hS' => by (first | rfl | go_simp)⟩) hHeld rfl ?_
                try simp only [Act.put, List.setIfInBounds_toArray, List.set_cons_zero, List.set_cons_succ]
                refine wpAnyH_done (by kernel_rfl) ?_ _
                have hx7 := hxb.put4_ e0 e1 e2 e3
                have hS7 := below_put4 hS6 hX1 e0 e1 e2 e3
                have he7 : ∀ y, some u = some y → TyAt (put4 w6 X e0 e1 e2 e3) B [e0, e1, e2, e3] y := fun y hy => (he6 y hy).later (below_put4 (Below.refl B w6) (by omega) e0 e1 e2 e3)
                obtain ⟨w7, hw7⟩ : ∃ w7, put4 w6 X e0 e1 e2 e3 = w7 := ⟨_, rfl⟩
                rw [hw7] at hx7 hS7 he7
                have hw7' : (((w6.setCell ⟨X, 0, none⟩ e0).setCell ⟨X, 1, none⟩ e1).setCell ⟨X, 2, none⟩ e2).setCell ⟨X, 3, none⟩ e3 = w7 := hw7
                rw [hw7']
                have HE7 := Lib.hid he7
                have HS7 := Lib.hid hS7
                have hz7 := hS7.size
                clear he7 hS7 hw7 hw7' he6 hxb x0 x1 x2 x3 xf0 xf1 xf2 xf3 hHeld
                have y0 := hx7.cell 0
                have y1 := hx7.cell 1
                have y2 := hx7.cell 2
                have y3 := hx7.cell 3
                simp only [zTy, List.getElem?_toArray, List.getElem?_cons_succ, List.getElem?_cons_zero] at y0 y1 y2 y3
                have hR7 := HR2.out.below HS7.out HR2.out.lt
                have z0 := hR7.cell 0
                have z1 := hR7.cell 1
                have z2 := hR7.cell 2
                have z3 := hR7.cell 3
                simp only [zTy, List.getElem?_toArray, List.getElem?_cons_succ, List.getElem?_cons_zero] at z0 z1 z2 z3
                have f0 := hR7.frozen 0
                have f1 := hR7.frozen 1
                have f2 := hR7.frozen 2
                have f3 := hR7.frozen 3
                go_wp2_with fail
                have HB5 := Lib.hid (HG.out.trans ((HBE.out.trans (HS7.out.mono hzr)).mono HG.out.size))
                exact bodyPost_ret (v := .tuple #[.agg #[e0, e1, e2, e3], .bool true]) (res_cell4_tmp (s := 7) (c := 6) rfl rfl (hR7.put4_ _ _ _ _) rfl) rfl (part_hit (R := w.heap.size + 2) HU.out HB5.out HBB.out (by omega) (HE7.out u rfl))
            | none =>
              have HU := Lib.hid (partL_go hkx hky HPL.out HPR.out)
              have ji0 : (0 : Int) ≤ (j : Int) := by omega
              have ji1 : (j : Int) < (l : Int) := by omega
              have ji2 : (j : Int) < (l' : Int) := by omega
              go_wp2_with fail
              refine wp_region_held_drew (S := fun w' => Below wr.heap.size wr w') (by kernel_rfl) ((Below.refl wr.heap.size wr).drew) (fun hHeld => ?_)
              refine takeH' (i := 0) (d := 36) (v := .pointer (some ⟨w.heap.size, 3, none⟩)) rfl (by kernel_rfl) (by kernel_rfl) (by kernel_rfl) (fun _ _ _ h => h) (Or.inl ⟨by rfl, fun w' hS' => by (first | rfl | go_simp)⟩) hHeld rfl ?_
              try simp only [Act.put, List.setIfInBounds_toArray, List.set_cons_zero, List.set_cons_succ]
              refine takeH' (i := 1) (d := 37) (v := .slice (some ⟨g, o, none⟩) l c) rfl (by kernel_rfl) (by kernel_rfl) (by kernel_rfl) (fun _ _ _ h => h) (Or.inl ⟨by rfl, fun w' hS' => by (have hbb := HB2.out.below hS' HB2.out.lt); (have q3 := hbb.cell 3); (simp only [List.getElem?_toArray, List.getElem?_cons_succ, List.getElem?_cons_zero] at q3); (first | rfl | go_simp)⟩) hHeld rfl ?_
              try simp only [Act.put, List.setIfInBounds_toArray, List.set_cons_zero, List.set_cons_succ]
              refine takeH' (i := 2) (d := 38) (v := .int .i64 j) rfl (by kernel_rfl) (by kernel_rfl) (by kernel_rfl) (fun _ _ _ h => h) (Or.inl ⟨by rfl, fun w' hS' => by (first | rfl | go_simp)⟩) hHeld rfl ?_
              try simp only [Act.put, List.setIfInBounds_toArray, List.set_cons_zero, List.set_cons_succ]
              refine takeH' (i := 3) (d := 39) (v := .pointer (some ⟨g, o + j * 4, none⟩)) rfl (by kernel_rfl) (by kernel_rfl) (by kernel_rfl) (fun _ _ _ h => h) (Or.inl ⟨by rfl, fun w' hS' => by (first | rfl | go_simp)⟩) hHeld rfl ?_
              try simp only [Act.put, List.setIfInBounds_toArray, List.set_cons_zero, List.set_cons_succ]
              refine takeH' (i := 4) (d := 40) (v := .agg #[a0, a1, a2, a3]) rfl (by kernel_rfl) (by kernel_rfl) (by kernel_rfl) (fun _ _ _ h => h) (Or.inl ⟨by rfl, fun w' hS' => by (have r0 := (hS'.cell (p := ⟨g, o + j * 4, none⟩) (by show g < _; omega)).trans ca0); (have r1 := (hS'.cell (p := ⟨g, o + j * 4 + 1, none⟩) (by show g < _; omega)).trans ca1); (have r2 := (hS'.cell (p := ⟨g, o + j * 4 + 2, none⟩) (by show g < _; omega)).trans ca2); (have r3 := (hS'.cell (p := ⟨g, o + j * 4 + 3, none⟩) (by show g < _; omega)).trans ca3); (first | rfl | go_simp)⟩) hHeld rfl ?_
              try simp only [Act.put, List.setIfInBounds_toArray, List.set_cons_zero, List.set_cons_succ]
              refine takeH' (i := 5) (d := 41) (v := .pointer (some ⟨w.heap.size + 1, 3, none⟩)) rfl (by kernel_rfl) (by kernel_rfl) (by kernel_rfl) (fun _ _ _ h => h) (Or.inl ⟨by rfl, fun w' hS' => by (first | rfl | go_simp)⟩) hHeld rfl ?_
              try simp only [Act.put, List.setIfInBounds_toArray, List.set_cons_zero, List.set_cons_succ]
              refine takeH' (i := 6) (d := 42) (v := .slice (some ⟨g', o', none⟩) l' c') rfl (by kernel_rfl) (by kernel_rfl) (by kernel_rfl) (fun _ _ _ h => h) (Or.inl ⟨by rfl, fun w' hS' => by (have hbb := HC2.out.below hS' HC2.out.lt); (have q3 := hbb.cell 3); (simp only [List.getElem?_toArray, List.getElem?_cons_succ, List.getElem?_cons_zero] at q3); (first | rfl | go_simp)⟩) hHeld rfl ?_
              try simp only [Act.put, List.setIfInBounds_toArray, List.set_cons_zero, List.set_cons_succ]
              refine takeH' (i := 7) (d := 43) (v := .int .i64 j) rfl (by kernel_rfl) (by kernel_rfl) (by kernel_rfl) (fun _ _ _ h => h) (Or.inl ⟨by rfl, fun w' hS' => by (first | rfl | go_simp)⟩) hHeld rfl ?_
              try simp only [Act.put, List.setIfInBounds_toArray, List.set_cons_zero, List.set_cons_succ]
              refine takeH' (i := 8) (d := 44) (v := .pointer (some ⟨g', o' + j * 4, none⟩)) rfl (by kernel_rfl) (by kernel_rfl) (by kernel_rfl) (fun _ _ _ h => h) (Or.inl ⟨by rfl, fun w' hS' => by (first | rfl | go_simp)⟩) hHeld rfl ?_
              try simp only [Act.put, List.setIfInBounds_toArray, List.set_cons_zero, List.set_cons_succ]
              refine takeH' (i := 9) (d := 45) (v := .agg #[b0, b1, b2, b3]) rfl (by kernel_rfl) (by kernel_rfl) (by kernel_rfl) (fun _ _ _ h => h) (Or.inl ⟨by rfl, fun w' hS' => by (have r0 := (hS'.cell (p := ⟨g', o' + j * 4, none⟩) (by show g' < _; omega)).trans cb0); (have r1 := (hS'.cell (p := ⟨g', o' + j * 4 + 1, none⟩) (by show g' < _; omega)).trans cb1); (have r2 := (hS'.cell (p := ⟨g', o' + j * 4 + 2, none⟩) (by show g' < _; omega)).trans cb2); (have r3 := (hS'.cell (p := ⟨g', o' + j * 4 + 3, none⟩) (by show g' < _; omega)).trans cb3); (first | rfl | go_simp)⟩) hHeld rfl ?_
              try simp only [Act.put, List.setIfInBounds_toArray, List.set_cons_zero, List.set_cons_succ]
              refine takeH' (i := 10) (d := 46) (v := .string x) rfl (by kernel_rfl) (by kernel_rfl) (by kernel_rfl) (fun _ _ _ h => h) (Or.inl ⟨by rfl, fun w' hS' => by (first | rfl | go_simp)⟩) hHeld rfl ?_
              try simp only [Act.put, List.setIfInBounds_toArray, List.set_cons_zero, List.set_cons_succ]
              refine wpAnyH_ready (rs := [11, 15]) (by kernel_rfl) (by simp) ?_
              refine AllReadyH.cons rfl (fun K hK => ?_) (AllReadyH.cons rfl (fun K hK => ?_) (AllReadyH.nil))
              · try go_simp
                refine (HC.out _ ((Below.refl wr.heap.size wr).drew)).mono ?_
                rintro e w5 ⟨hb5, e0, e1, e2, e3, rfl, oe, he⟩
                have se0 := store_one' e0 (oe e0 (by simp))
                have se1 := store_one' e1 (oe e1 (by simp))
                have se2 := store_one' e2 (oe e2 (by simp))
                have se3 := store_one' e3 (oe e3 (by simp))
                have hS5 : Below wr.heap.size wr w5 := ((Below.refl wr.heap.size wr).drew).trans (hb5.mono ((Below.refl wr.heap.size wr).drew).size)
                go_wp2_with fail
                refine hK.out _ _ (hS5) (fun hHeld => ?_)
                clear hK K
                try simp only [Act.put, List.setIfInBounds_toArray, List.set_cons_zero, List.set_cons_succ]
                refine takeH' (i := 12) (d := 35) (v := .tuple #[.agg #[e0, e1, e2, e3], .bool false]) rfl (by kernel_rfl) (by kernel_rfl) (by kernel_rfl) (fun _ _ _ h => h) (Or.inl ⟨by rfl, fun w' hS' => by (first | rfl | go_simp)⟩) hHeld rfl ?_
                try simp only [Act.put, List.setIfInBounds_toArray, List.set_cons_zero, List.set_cons_succ]
                refine takeH' (i := 13) (d := 48) (v := .agg #[e0, e1, e2, e3]) rfl (by kernel_rfl) (by kernel_rfl) (by kernel_rfl) (fun _ _ _ h => h) (Or.inl ⟨by rfl, fun w' hS' => by (first | rfl | go_simp)⟩) hHeld rfl ?_
                try simp only [Act.put, List.setIfInBounds_toArray, List.set_cons_zero, List.set_cons_succ]
                refine takeH' (i := 14) (d := 49) (v := .bool false) rfl (by kernel_rfl) (by kernel_rfl) (by kernel_rfl) (fun _ _ _ h => h) (Or.inl ⟨by rfl, fun w' hS' => by (first | rfl | go_simp)⟩) hHeld rfl ?_
                try simp only [Act.put, List.setIfInBounds_toArray, List.set_cons_zero, List.set_cons_succ]
                refine wpAnyH_ready (rs := [15]) (by kernel_rfl) (by simp) ?_
                refine AllReadyH.cons rfl (fun K hK => ?_) (AllReadyH.nil)
                try go_simp
                obtain ⟨X, hX⟩ : ∃ X, w5.heap.size = X := ⟨_, rfl⟩
                have hX1 : wr.heap.size ≤ X := by rw [← hX]; exact hS5.size
                have hxb : Blk (w5.alloc (.cells zTy 24)) X 24 zTy := by rw [← hX]; exact Blk.new _ _ _
                have hS6 : Below wr.heap.size wr (w5.alloc (.cells zTy 24)) := hS5.alloc hS5.size _
                have hfr : Below w5.heap.size w5 (w5.alloc (.cells zTy 24)) := (Below.refl _ _).alloc (Nat.le_refl _) _
                obtain ⟨w6, hw6⟩ : ∃ w6, w5.alloc (.cells zTy 24) = w6 := ⟨_, rfl⟩
                unfold zTy at hw6
                rw [hw6, hX]
                rw [show w5.alloc (.cells zTy 24) = w6 from hw6] at hxb hS6 hfr
                have he6 : ∀ y, (none : Option Ty) = some y → TyAt w6 B [e0, e1, e2, e3] y := fun y hy => (he y hy).later (hfr.mono (by have := hb5.size; have := ((Below.refl wr.heap.size wr).drew).size; omega))
                clear hw6
                refine hK.out _ _ (hS6) (fun hHeld => ?_)
                clear hK K
                try simp only [Act.put, List.setIfInBounds_toArray, List.set_cons_zero, List.set_cons_succ]
                have x0 := hxb.cell 0
                have x1 := hxb.cell 1
                have x2 := hxb.cell 2
                have x3 := hxb.cell 3
                simp only [zTy, List.getElem?_toArray, List.getElem?_cons_succ, List.getElem?_cons_zero] at x0 x1 x2 x3
                have xf0 := hxb.frozen 0
                have xf1 := hxb.frozen 1
                have xf2 := hxb.frozen 2
                have xf3 := hxb.frozen 3
                refine wpAnyH_ready (rs := [16]) (by kernel_rfl) (by simp) ?_
                refine AllReadyH.cons rfl (fun K hK => ?_) (AllReadyH.nil)
                try go_simp
                refine hK.out _ _ (below_put4 hS6 hX1 e0 e1 e2 e3) (fun hHeld => ?_)
                clear hK K
                try simp only [Act.put, List.setIfInBounds_toArray, List.set_cons_zero, List.set_cons_succ]
                refine takeH' (i := 17) (d := 10) (v := .bool false) rfl (by kernel_rfl) (by kernel_rfl) (by kernel_rfl) (fun _ _ _ h => h) (Or.inl ⟨by rfl, fun w' hS' => by (first | rfl | go_simp)⟩) hHeld rfl ?_
                try simp only [Act.put, List.setIfInBounds_toArray, List.set_cons_zero, List.set_cons_succ]
                refine wpAnyH_done (by kernel_rfl) ?_ _
                have hx7 := hxb.put4_ e0 e1 e2 e3
                have hS7 := below_put4 hS6 hX1 e0 e1 e2 e3
                have he7 : ∀ y, (none : Option Ty) = some y → TyAt (put4 w6 X e0 e1 e2 e3) B [e0, e1, e2, e3] y := fun y hy => (he6 y hy).later (below_put4 (Below.refl B w6) (by omega) e0 e1 e2 e3)
                obtain ⟨w7, hw7⟩ : ∃ w7, put4 w6 X e0 e1 e2 e3 = w7 := ⟨_, rfl⟩
                rw [hw7] at hx7 hS7 he7
                have hw7' : (((w6.setCell ⟨X, 0, none⟩ e0).setCell ⟨X, 1, none⟩ e1).setCell ⟨X, 2, none⟩ e2).setCell ⟨X, 3, none⟩ e3 = w7 := hw7
                rw [hw7']
                have HE7 := Lib.hid he7
                have HS7 := Lib.hid hS7
                have hz7 := hS7.size
                clear he7 hS7 hw7 hw7' he6 hxb x0 x1 x2 x3 xf0 xf1 xf2 xf3 hHeld
                have y0 := hx7.cell 0
                have y1 := hx7.cell 1
                have y2 := hx7.cell 2
                have y3 := hx7.cell 3
                simp only [zTy, List.getElem?_toArray, List.getElem?_cons_succ, List.getElem?_cons_zero] at y0 y1 y2 y3
                have hR7 := HR2.out.below HS7.out HR2.out.lt
                have z0 := hR7.cell 0
                have z1 := hR7.cell 1
                have z2 := hR7.cell 2
                have z3 := hR7.cell 3
                simp only [zTy, List.getElem?_toArray, List.getElem?_cons_succ, List.getElem?_cons_zero] at z0 z1 z2 z3
                have f0 := hR7.frozen 0
                have f1 := hR7.frozen 1
                have f2 := hR7.frozen 2
                have f3 := hR7.frozen 3
                go_wp2_with fail
                go_roundw
                case rel => exact ⟨j + 1, by go_num, by omega, by omega, HU.out, HBE.out.trans (HS7.out.mono hzr)⟩
                case measure => simp [intOf]; omega
              · try go_simp
                obtain ⟨X, hX⟩ : ∃ X, wr.heap.size = X := ⟨_, rfl⟩
                have hX1 : wr.heap.size ≤ X := by rw [← hX]; exact Nat.le_refl _
                have hS4 : Below wr.heap.size wr (wr.alloc (.cells zTy 24)) := (Below.refl _ _).alloc (Nat.le_refl _) _
                have hxb0 : Blk (wr.alloc (.cells zTy 24)) X 24 zTy := by rw [← hX]; exact Blk.new _ _ _
                obtain ⟨w4, hw4⟩ : ∃ w4, wr.alloc (.cells zTy 24) = w4 := ⟨_, rfl⟩
                unfold zTy at hw4
                rw [hw4, hX]
                rw [show wr.alloc (.cells zTy 24) = w4 from hw4] at hxb0 hS4
                clear hw4
                refine hK.out _ _ (hS4.drew) (fun hHeld => ?_)
                clear hK K
                try simp only [Act.put, List.setIfInBounds_toArray, List.set_cons_zero, List.set_cons_succ]
                refine wpAnyH_ready (rs := [11]) (by kernel_rfl) (by simp) ?_
                refine AllReadyH.cons rfl (fun K hK => ?_) (AllReadyH.nil)
                try go_simp
                refine (HC.out _ (hS4.drew)).mono ?_
                rintro e w6 ⟨hb6, e0, e1, e2, e3, rfl, oe, he⟩
                have se0 := store_one' e0 (oe e0 (by simp))
                have se1 := store_one' e1 (oe e1 (by simp))
                have se2 := store_one' e2 (oe e2 (by simp))
                have se3 := store_one' e3 (oe e3 (by simp))
                have hS6 : Below wr.heap.size wr w6 := (hS4.drew).trans (hb6.mono (hS4.drew).size)
                go_wp2_with fail
                refine hK.out _ _ (hS6) (fun hHeld => ?_)
                clear hK K
                try simp only [Act.put, List.setIfInBounds_toArray, List.set_cons_zero, List.set_cons_succ]
                refine takeH' (i := 12) (d := 35) (v := .tuple #[.agg #[e0, e1, e2, e3], .bool false]) rfl (by kernel_rfl) (by kernel_rfl) (by kernel_rfl) (fun _ _ _ h => h) (Or.inl ⟨by rfl, fun w' hS' => by (first | rfl | go_simp)⟩) hHeld rfl ?_
                try simp only [Act.put, List.setIfInBounds_toArray, List.set_cons_zero, List.set_cons_succ]
                refine takeH' (i := 13) (d := 48) (v := .agg #[e0, e1, e2, e3]) rfl (by kernel_rfl) (by kernel_rfl) (by kernel_rfl) (fun _ _ _ h => h) (Or.inl ⟨by rfl, fun w' hS' => by (first | rfl | go_simp)⟩) hHeld rfl ?_
                try simp only [Act.put, List.setIfInBounds_toArray, List.set_cons_zero, List.set_cons_succ]
                refine takeH' (i := 14) (d := 49) (v := .bool false) rfl (by kernel_rfl) (by kernel_rfl) (by kernel_rfl) (fun _ _ _ h => h) (Or.inl ⟨by rfl, fun w' hS' => by (first | rfl | go_simp)⟩) hHeld rfl ?_
                try simp only [Act.put, List.setIfInBounds_toArray, List.set_cons_zero, List.set_cons_succ]
                have hxb : Blk w6 X 24 zTy := hxb0.below ((Below.refl w4.heap.size w4).drew.trans (hb6.mono (Nat.le_refl _))) hxb0.lt
                have he6 : ∀ y, (none : Option Ty) = some y → TyAt w6 B [e0, e1, e2, e3] y := he
                have x0 := hxb.cell 0
                have x1 := hxb.cell 1
                have x2 := hxb.cell 2
                have x3 := hxb.cell 3
                simp only [zTy, List.getElem?_toArray, List.getElem?_cons_succ, List.getElem?_cons_zero] at x0 x1 x2 x3
                have xf0 := hxb.frozen 0
                have xf1 := hxb.frozen 1
                have xf2 := hxb.frozen 2
                have xf3 := hxb.frozen 3
                refine wpAnyH_ready (rs := [16]) (by kernel_rfl) (by simp) ?_
                refine AllReadyH.cons rfl (fun K hK => ?_) (AllReadyH.nil)
                try go_simp
                refine hK.out _ _ (below_put4 hS6 hX1 e0 e1 e2 e3) (fun hHeld => ?_)
                clear hK K
                try simp only [Act.put, List.setIfInBounds_toArray, List.set_cons_zero, List.set_cons_succ]
                refine takeH' (i := 17) (d := 10) (v := .bool false) rfl (by kernel_rfl) (by kernel_rfl) (by kernel_rfl) (fun _ _ _ h => h) (Or.inl ⟨by rfl, fun w' hS' => by (first | rfl | go_simp)⟩) hHeld rfl ?_
                try simp only [Act.put, List.setIfInBounds_toArray, List.set_cons_zero, List.set_cons_succ]
                refine wpAnyH_done (by kernel_rfl) ?_ _
                have hx7 := hxb.put4_ e0 e1 e2 e3
                have hS7 := below_put4 hS6 hX1 e0 e1 e2 e3
                have he7 : ∀ y, (none : Option Ty) = some y → TyAt (put4 w6 X e0 e1 e2 e3) B [e0, e1, e2, e3] y := fun y hy => (he6 y hy).later (below_put4 (Below.refl B w6) (by omega) e0 e1 e2 e3)
                obtain ⟨w7, hw7⟩ : ∃ w7, put4 w6 X e0 e1 e2 e3 = w7 := ⟨_, rfl⟩
                rw [hw7] at hx7 hS7 he7
                have hw7' : (((w6.setCell ⟨X, 0, none⟩ e0).setCell ⟨X, 1, none⟩ e1).setCell ⟨X, 2, none⟩ e2).setCell ⟨X, 3, none⟩ e3 = w7 := hw7
                rw [hw7']
                have HE7 := Lib.hid he7
                have HS7 := Lib.hid hS7
                have hz7 := hS7.size
                clear he7 hS7 hw7 hw7' he6 hxb x0 x1 x2 x3 xf0 xf1 xf2 xf3 hHeld
                have y0 := hx7.cell 0
                have y1 := hx7.cell 1
                have y2 := hx7.cell 2
                have y3 := hx7.cell 3
                simp only [zTy, List.getElem?_toArray, List.getElem?_cons_succ, List.getElem?_cons_zero] at y0 y1 y2 y3
                have hR7 := HR2.out.below HS7.out HR2.out.lt
                have z0 := hR7.cell 0
                have z1 := hR7.cell 1
                have z2 := hR7.cell 2
                have z3 := hR7.cell 3
                simp only [zTy, List.getElem?_toArray, List.getElem?_cons_succ, List.getElem?_cons_zero] at z0 z1 z2 z3
                have f0 := hR7.frozen 0
                have f1 := hR7.frozen 1
                have f2 := hR7.frozen 2
                have f3 := hR7.frozen 3
                go_wp2_with fail
                go_roundw
                case rel => exact ⟨j + 1, by go_num, by omega, by omega, HU.out, HBE.out.trans (HS7.out.mono hzr)⟩
                case measure => simp [intOf]; omega
          · have HPN := Lib.hid (show r = none by rw [← HPL.out]; exact partL_none x _ _ (by right; exact List.drop_eq_nil_of_le (by have := HL2.out; omega)))
            have z0 := hR2.cell 0
            have z1 := hR2.cell 1
            have z2 := hR2.cell 2
            have z3 := hR2.cell 3
            simp only [zTy, List.getElem?_toArray, List.getElem?_cons_succ, List.getElem?_cons_zero] at z0 z1 z2 z3
            have f0 := hR2.frozen 0
            have f1 := hR2.frozen 1
            have f2 := hR2.frozen 2
            have f3 := hR2.frozen 3
            go_wp2_with fail
            exact bodyPost_ret (v := .tuple #[.agg #[.int .i64 0, .string ⟨#[]⟩, .int .i64 0, .slice none 0 0], .bool false]) (res_cell4_tmp (s := 7) (c := 6) rfl rfl (hR2.put4_ _ _ _ _) rfl) rfl (part_miss HPN.out (HG.out.trans (HBE.out.mono HG.out.size)) (by omega))
        · have HPN := Lib.hid (show r = none by rw [← HPL.out]; exact partL_none x _ _ (by left; exact List.drop_eq_nil_of_le (by have := HL.out; omega)))
          have z0 := hR2.cell 0
          have z1 := hR2.cell 1
          have z2 := hR2.cell 2
          have z3 := hR2.cell 3
          simp only [zTy, List.getElem?_toArray, List.getElem?_cons_succ, List.getElem?_cons_zero] at z0 z1 z2 z3
          have f0 := hR2.frozen 0
          have f1 := hR2.frozen 1
          have f2 := hR2.frozen 2
          have f3 := hR2.frozen 3
          go_wp2_with fail
          exact bodyPost_ret (v := .tuple #[.agg #[.int .i64 0, .string ⟨#[]⟩, .int .i64 0, .slice none 0 0], .bool false]) (res_cell4_tmp (s := 7) (c := 6) rfl rfl (hR2.put4_ _ _ _ _) rfl) rfl (part_miss HPN.out (HG.out.trans (HBE.out.mono HG.out.size)) (by omega))
end Go.Proofs.Ytgmcjnhaedfinaa
