/- Walks: the document's Match. -/
import Derived.Test.YtgmcjnhaedfinaaQpt
import Derived.Test.YtgmcjnhaedfinaaQdoc
import Derived.Test.YtgmcjnhaedfinaaQbe
import Derived.Test.YtgmcjnhaedfinaaQae
namespace Go.Proofs.Ytgmcjnhaedfinaa
open Go.RowKit
set_option linter.unusedVariables false
set_option linter.unusedSimpArgs false
set_option maxRecDepth 100000
theorem docTs_len {g s : Ty} : ∀ (l : List ByteArray) (us : List Ty), docTs g s l = some us → us.length = l.length
  | [], us, h => by unfold docTs at h; cases h; rfl
  | x :: l, us, h => by
    unfold docTs at h
    cases hp : partT g s x with
    | none => rw [hp] at h; cases h
    | some u =>
      rw [hp] at h
      simp only [Option.map_eq_some_iff] at h
      obtain ⟨r, hr, rfl⟩ := h
      simp [docTs_len l r hr]
/-- What the document's Match answers. -/
def DocPost (B : Nat) (t s : Ty) (w : World) (e : Ending) (w' : World) : Prop := Below w.heap.size w w' ∧ match docM t s with
  | none => e = .returned (.tuple #[.slice none 0 0, .slice none 0 0, .bool false])
  | some ts => ∃ v1 v2 L, e = .returned (.tuple #[v1, v2, .bool true]) ∧ w'.ownsRow w.heap.size 9 1 v1 (varsT t).length (nmVals (varsT t)) ∧ w'.ownsRow w.heap.size 24 4 v2 (varsT t).length L.flatten ∧ TsAt w' B ts L
theorem DocPost.none_ {B : Nat} {t s : Ty} {w w' : World} (h : docM t s = none) (hb : Below w.heap.size w w') : DocPost B t s w (.returned (.tuple #[.slice none 0 0, .slice none 0 0, .bool false])) w' := by
  unfold DocPost
  rw [h]
  exact ⟨hb, rfl⟩
theorem DocPost.some_ {B : Nat} {t s : Ty} {w w' : World} {ts : List Ty} {v1 v2 : Value} {L : List (List Value)} (h : docM t s = some ts) (hb : Below w.heap.size w w') (h1 : w'.ownsRow w.heap.size 9 1 v1 (varsT t).length (nmVals (varsT t))) (h2 : w'.ownsRow w.heap.size 24 4 v2 (varsT t).length L.flatten)
    (h3 : TsAt w' B ts L) : DocPost B t s w (.returned (.tuple #[v1, v2, .bool true])) w' := by
  unfold DocPost
  rw [h]
  exact ⟨hb, v1, v2, L, rfl, h1, h2, h3⟩
/-- What has been gathered so far. -/
def DocSo (t s : Ty) (j : Nat) (us : List Ty) : Prop := us.length = j ∧ docTs t s (varsT t) = (docTs t s ((varsT t).drop j)).map (us ++ ·)
theorem DocSo.start (t s : Ty) : DocSo t s 0 [] := ⟨rfl, by simp⟩
theorem DocSo.step {t s : Ty} {j : Nat} {us : List Ty} {x : ByteArray} {u : Ty} (h : DocSo t s j us) (hj : j < (varsT t).length) (hx : (varsT t)[j] = x) (hu : partT t s x = some u) : DocSo t s (j + 1) (us ++ [u]) := by
  refine ⟨by simp [h.1], ?_⟩
  rw [h.2, List.drop_eq_getElem_cons hj, hx]
  conv => lhs; unfold docTs
  rw [hu]
  simp only [Option.map_map]
  congr 1
  funext r
  simp
theorem DocSo.miss {t s : Ty} {j : Nat} {us : List Ty} {x : ByteArray} (h : DocSo t s j us) (hj : j < (varsT t).length) (hx : (varsT t)[j] = x) (hu : partT t s x = none) : docM t s = none := by
  unfold docM
  rw [h.2, List.drop_eq_getElem_cons hj, hx]
  unfold docTs
  rw [hu]
  rfl
theorem DocSo.done {t s : Ty} {j : Nat} {us : List Ty} (h : DocSo t s j us) (hj : j = (varsT t).length) : docTs t s (varsT t) = some us := by
  rw [h.2, hj, List.drop_length]
  simp [docTs]
theorem docM_yes {t s : Ty} {us : List Ty} (h : docTs t s (varsT t) = some us) (hs : tySame (t.repl (putF (varsT t) us)) s = true) : docM t s = some us := by
  unfold docM; rw [h]; show (if _ then _ else _) = _; rw [if_pos hs]
theorem docM_no {t s : Ty} {us : List Ty} (h : docTs t s (varsT t) = some us) (hs : tySame (t.repl (putF (varsT t) us)) s = false) : docM t s = none := by
  unfold docM; rw [h]; show (if _ then _ else _) = _; rw [if_neg (by rw [hs]; decide)]
theorem TsAt.row_ {w : World} {base B : Nat} {v : Value} {us : List Ty} {L : List (List Value)} {j : Nat} (h : w.ownsRow base 24 4 v j L.flatten) (ht : TsAt w B us L) (hj : us.length = j) (hB : B ≤ w.heap.size) :
    ∃ A c, v = .slice A j c ∧ TysAt w w.heap.size A us L := by
  obtain ⟨A, c, rfl, _⟩ := own_shape4 h
  refine ⟨A, c, rfl, ⟨by rw [hj]; exact ⟨by rw [ht.len, hj], ht.each, Reads.of_own h⟩, fun i h1 h2 => (ht.ty i h1 h2).more hB⟩⟩
set_option maxHeartbeats 6400000 in
theorem rmatch_any (t s : Ty) (ht9 : t.nodes ≤ 2000) (hs9 : s.nodes ≤ 2000) (B : Nat) (w : World) (cs ds : List Value) (hB : B ≤ w.heap.size) (hx : TyAt w B cs t) (hy : TyAt w B ds s) :
    Calls Try.prog 31 #[.agg cs.toArray, .agg ds.toArray] w (DocPost B t s w) := by
  have HVF := Lib.hid (vars_fit hx)
  have oo := ty_ones hx
  have oy := ty_ones hy
  obtain ⟨a0, a1, a2, a3, rfl⟩ := four_of hx.four
  obtain ⟨b0, b1, b2, b3, rfl⟩ := four_of hy.four
  have sa0 := store_one' a0 (oo a0 (by simp))
  have sa1 := store_one' a1 (oo a1 (by simp))
  have sa2 := store_one' a2 (oo a2 (by simp))
  have sa3 := store_one' a3 (oo a3 (by simp))
  have sb0 := store_one' b0 (oy b0 (by simp))
  have sb1 := store_one' b1 (oy b1 (by simp))
  have sb2 := store_one' b2 (oy b2 (by simp))
  have sb3 := store_one' b3 (oy b3 (by simp))
  have HX := Lib.hid hx
  have HY := Lib.hid hy
  obtain ⟨i0, hi, hz0, hz1, hz2⟩ := info_parts ty_info
  have HI := Lib.hid hi
  have HZ0 := Lib.hid hz0
  have HZ1 := Lib.hid hz1
  have HZ2 := Lib.hid hz2
  clear hi hz0 hz1 hz2
  obtain ⟨W2, hW2⟩ : ∃ W, (w.alloc (.cells #[a0, a1, a2, a3] 24)).alloc (.cells #[b0, b1, b2, b3] 24) = W := ⟨_, rfl⟩
  have hg : Below w.heap.size w W2 := by rw [← hW2]; exact ((Below.refl _ _).alloc (Nat.le_refl _) _).alloc (by simp) _
  have hz : W2.heap.size = w.heap.size + 2 := by rw [← hW2]; simp
  have hbx : Blk W2 w.heap.size 24 #[a0, a1, a2, a3] := by rw [← hW2]; exact (Blk.new _ _ _).alloc _
  have hby : Blk W2 (w.heap.size + 1) 24 #[b0, b1, b2, b3] := by rw [← hW2]; have := Blk.new (w.alloc (.cells #[a0, a1, a2, a3] 24)) 24 #[b0, b1, b2, b3]; simpa using this
  have HW := Lib.hid hW2
  have HG := Lib.hid hg
  have HZ := Lib.hid hz
  have HBX := Lib.hid hbx
  have HBY := Lib.hid hby
  obtain ⟨q, hq⟩ : ∃ q, (varsT t).length = q := ⟨_, rfl⟩
  have hq9 : q ≤ 2000 := by rw [← hq]; exact Nat.le_trans (vars_len t) ht9
  have HQ := Lib.hid hq
  have C1 := Lib.hid (rvars_any t (by omega) B W2 [a0, a1, a2, a3] (by omega) (hx.later (hg.mono hB)))
  have HT9 := Lib.hid ht9
  have HS9 := Lib.hid hs9
  have HBB := Lib.hid hB
  have p0 := hbx.cell 0
  have p1 := hbx.cell 1
  have p2 := hbx.cell 2
  have p3 := hbx.cell 3
  simp only [zTy, List.getElem?_toArray, List.getElem?_cons_succ, List.getElem?_cons_zero] at p0 p1 p2 p3
  clear oo oy hx hy hW2 hg hz hbx hby hq ht9 hs9 hB
  go_enter Try.func31, Try.ntmps31
  go_upto_region 1 with fail
  rw [HW.out]
  go_wp2_with (go_at_call 16; (with_reducible refine C1.out.mono ?_); rintro e w4 ⟨v1, rfl, hown1, hb4⟩; (rw [HQ.out] at hown1); (obtain ⟨A1, c1, rfl, hrd⟩ := own_shape hown1); (have hz4 := hb4.size); (have HO1 := Lib.hid hown1); (have HRD := Lib.hid hrd); (have HB4 := Lib.hid (HG.out.trans (hb4.mono HG.out.size))); (have HP4 := Lib.hid (HBX.out.below hb4 HBX.out.lt)); (have HQ4 := Lib.hid (HBY.out.below hb4 HBY.out.lt)); clear hown1 hrd hb4)
  have hzz := HZ.out
  clear p0 p1 p2 p3
  go_loopw [8, 9] (fun v i wr => ∃ (j : Nat) (Lr : List (List Value)) (us : List Ty), i = .int .i64 j ∧ j ≤ q ∧ wr.ownsRow w4.heap.size 24 4 v j Lr.flatten ∧ TsAt wr B us Lr ∧ DocSo t s j us ∧ Below w4.heap.size w4 wr) (fun _ i _ => q - (intOf i).toNat)
  case atStart => exact ⟨0, [], [], rfl, Nat.zero_le _, World.ownsRow_nil _ _ _ _, TsAt.nil_ _ _, DocSo.start t s, Below.refl _ _⟩
  case round =>
    obtain ⟨j, Lr, us, rfl, hj, hown, hts, hso, hbe⟩ := hrel
    have hzr := hbe.size
    have hp := HP4.out.below hbe HP4.out.lt
    have hq := HQ4.out.below hbe HQ4.out.lt
    have HP := Lib.hid hp
    have HPQ := Lib.hid hq
    have HOW := Lib.hid hown
    have HTS := Lib.hid hts
    have HSO := Lib.hid hso
    have HBE := Lib.hid hbe
    have HBW := Lib.hid (show B ≤ wr.heap.size by have := HBB.out; have := HB4.out.size; omega)
    have HTX := Lib.hid (HX.out.later ((HB4.out.trans (hbe.mono HB4.out.size)).mono HBB.out))
    have HTY := Lib.hid (HY.out.later ((HB4.out.trans (hbe.mono HB4.out.size)).mono HBB.out))
    by_cases hlt : j < q
    · obtain ⟨ad, rfl, hbl, hl', hc⟩ := nm_at (HRD.out.below hbe) hlt
      obtain ⟨x, hx⟩ : ∃ x, (varsT t)[j] = x := ⟨_, rfl⟩
      rw [hx] at hc
      have HXX := Lib.hid hx
      have HLV := Lib.hid (show j < (varsT t).length by rw [HQ.out]; exact hlt)
      obtain ⟨pr, hpr⟩ : ∃ pr, partT t s x = pr := ⟨_, rfl⟩
      have C := fun (V : World) (hV : Below wr.heap.size wr V) => part_any t.nodes t s (Nat.le_refl _) (by have := HT9.out; omega) (by have := HS9.out; omega) x B V [a0, a1, a2, a3] [b0, b1, b2, b3] (Nat.le_trans HBW.out hV.size) (HTX.out.later (hV.mono HBW.out)) (HTY.out.later (hV.mono HBW.out))
      rw [hpr] at C
      have HC := Lib.hid C
      have HPR := Lib.hid hpr
      have ji0 : (0 : Int) ≤ (j : Int) := by omega
      have ji1 : (j : Int) < (q : Int) := by omega
      have hcb : (ad.add j).block < wr.heap.size := Nat.lt_of_lt_of_le hbl hzr
      clear hown hts hso hbe hx hpr C hp hq
      cases pr with
      | some u =>
        go_wp2_with fail
        refine wp_region_held_drew (S := fun w' => Below wr.heap.size wr w') (by kernel_rfl) ((Below.refl wr.heap.size wr).drew) (fun hHeld => ?_)
        refine takeH' (i := 0) (d := 21) (v := .agg #[a0, a1, a2, a3]) rfl (by kernel_rfl) (by kernel_rfl) (by kernel_rfl) (fun _ _ _ h => h) (Or.inl ⟨by rfl, fun w' hS' => by (have hbb := HP.out.below hS' HP.out.lt); (have q0 := hbb.cell 0); (have q1 := hbb.cell 1); (have q2 := hbb.cell 2); (have q3 := hbb.cell 3); (simp only [List.getElem?_toArray, List.getElem?_cons_succ, List.getElem?_cons_zero] at q0 q1 q2 q3); (first | rfl | go_simp)⟩) hHeld rfl ?_
        try simp only [Act.put, List.setIfInBounds_toArray, List.set_cons_zero, List.set_cons_succ]
        refine takeH' (i := 1) (d := 22) (v := .agg #[b0, b1, b2, b3]) rfl (by kernel_rfl) (by kernel_rfl) (by kernel_rfl) (fun _ _ _ h => h) (Or.inl ⟨by rfl, fun w' hS' => by (have hbb := HPQ.out.below hS' HPQ.out.lt); (have q0 := hbb.cell 0); (have q1 := hbb.cell 1); (have q2 := hbb.cell 2); (have q3 := hbb.cell 3); (simp only [List.getElem?_toArray, List.getElem?_cons_succ, List.getElem?_cons_zero] at q0 q1 q2 q3); (first | rfl | go_simp)⟩) hHeld rfl ?_
        try simp only [Act.put, List.setIfInBounds_toArray, List.set_cons_zero, List.set_cons_succ]
        refine takeH' (i := 2) (d := 23) (v := .slice (some ad) q c1) rfl (by kernel_rfl) (by kernel_rfl) (by kernel_rfl) (fun _ _ _ h => h) (Or.inl ⟨by rfl, fun w' hS' => by (first | rfl | go_simp)⟩) hHeld rfl ?_
        try simp only [Act.put, List.setIfInBounds_toArray, List.set_cons_zero, List.set_cons_succ]
        refine takeH' (i := 3) (d := 24) (v := .int .i64 j) rfl (by kernel_rfl) (by kernel_rfl) (by kernel_rfl) (fun _ _ _ h => h) (Or.inl ⟨by rfl, fun w' hS' => by (first | rfl | go_simp)⟩) hHeld rfl ?_
        try simp only [Act.put, List.setIfInBounds_toArray, List.set_cons_zero, List.set_cons_succ]
        refine takeH' (i := 4) (d := 25) (v := .pointer (some (ad.add j))) rfl (by kernel_rfl) (by kernel_rfl) (by kernel_rfl) (fun _ _ _ h => h) (Or.inl ⟨by rfl, fun w' hS' => by (first | rfl | go_simp)⟩) hHeld rfl ?_
        try simp only [Act.put, List.setIfInBounds_toArray, List.set_cons_zero, List.set_cons_succ]
        refine takeH' (i := 5) (d := 26) (v := .string x) rfl (by kernel_rfl) (by kernel_rfl) (by kernel_rfl) (fun _ _ _ h => h) (Or.inl ⟨by rfl, fun w' hS' => by (have r0 := (hS'.cell hcb).trans hc); (first | rfl | go_simp)⟩) hHeld rfl ?_
        try simp only [Act.put, List.setIfInBounds_toArray, List.set_cons_zero, List.set_cons_succ]
        refine wpAnyH_ready (rs := [6, 10]) (by kernel_rfl) (by simp) ?_
        refine AllReadyH.cons rfl (fun K hK => ?_) (AllReadyH.cons rfl (fun K hK => ?_) (AllReadyH.nil))
        · try go_simp
          refine (HC.out _ ((Below.refl wr.heap.size wr).drew)).mono ?_
          rintro e w5 ⟨hb5, e0, e1, e2, e3, rfl, oe, he⟩
          have se0 := store_one' e0 (oe e0 (by simp))
          have se1 := store_one' e1 (oe e1 (by simp))
          have se2 := store_one' e2 (oe e2 (by simp))
          have se3 := store_one' e3 (oe e3 (by simp))
          have hS5 : Below wr.heap.size wr w5 := ((Below.refl wr.heap.size wr).drew).trans (hb5.mono ((Below.refl wr.heap.size wr).drew).size)
          go_wp2_with fail
          refine hK.out _ _ (hS5) (fun hHeld => ?_)
          clear hK K
          try simp only [Act.put, List.setIfInBounds_toArray, List.set_cons_zero, List.set_cons_succ]
          refine takeH' (i := 7) (d := 20) (v := .tuple #[.agg #[e0, e1, e2, e3], .bool true]) rfl (by kernel_rfl) (by kernel_rfl) (by kernel_rfl) (fun _ _ _ h => h) (Or.inl ⟨by rfl, fun w' hS' => by (first | rfl | go_simp)⟩) hHeld rfl ?_
          try simp only [Act.put, List.setIfInBounds_toArray, List.set_cons_zero, List.set_cons_succ]
          refine takeH' (i := 8) (d := 28) (v := .agg #[e0, e1, e2, e3]) rfl (by kernel_rfl) (by kernel_rfl) (by kernel_rfl) (fun _ _ _ h => h) (Or.inl ⟨by rfl, fun w' hS' => by (first | rfl | go_simp)⟩) hHeld rfl ?_
          try simp only [Act.put, List.setIfInBounds_toArray, List.set_cons_zero, List.set_cons_succ]
          refine takeH' (i := 9) (d := 29) (v := .bool true) rfl (by kernel_rfl) (by kernel_rfl) (by kernel_rfl) (fun _ _ _ h => h) (Or.inl ⟨by rfl, fun w' hS' => by (first | rfl | go_simp)⟩) hHeld rfl ?_
          try simp only [Act.put, List.setIfInBounds_toArray, List.set_cons_zero, List.set_cons_succ]
          refine wpAnyH_ready (rs := [10]) (by kernel_rfl) (by simp) ?_
          refine AllReadyH.cons rfl (fun K hK => ?_) (AllReadyH.nil)
          try go_simp
          obtain ⟨X, hX⟩ : ∃ X, w5.heap.size = X := ⟨_, rfl⟩
          have hX1 : wr.heap.size ≤ X := by rw [← hX]; exact hS5.size
          have hxb : Blk (w5.alloc (.cells zTy 24)) X 24 zTy := by rw [← hX]; exact Blk.new _ _ _
          have hS6 : Below wr.heap.size wr (w5.alloc (.cells zTy 24)) := hS5.alloc hS5.size _
          have hfr : Below w5.heap.size w5 (w5.alloc (.cells zTy 24)) := (Below.refl _ _).alloc (Nat.le_refl _) _
          obtain ⟨w6, hw6⟩ : ∃ w6, w5.alloc (.cells zTy 24) = w6 := ⟨_, rfl⟩
          unfold zTy at hw6
          rw [hw6, hX]
          rw [show w5.alloc (.cells zTy 24) = w6 from hw6] at hxb hS6 hfr
          have he6 : ∀ y, some u = some y → TyAt w6 B [e0, e1, e2, e3] y := fun y hy => (he y hy).later (hfr.mono (Nat.le_trans HBW.out hS5.size))
          clear hw6
          refine hK.out _ _ (hS6) (fun hHeld => ?_)
          clear hK K
          try simp only [Act.put, List.setIfInBounds_toArray, List.set_cons_zero, List.set_cons_succ]
          have x0 := hxb.cell 0
          have x1 := hxb.cell 1
          have x2 := hxb.cell 2
          have x3 := hxb.cell 3
          simp only [zTy, List.getElem?_toArray, List.getElem?_cons_succ, List.getElem?_cons_zero] at x0 x1 x2 x3
          have xf0 := hxb.frozen 0
          have xf1 := hxb.frozen 1
          have xf2 := hxb.frozen 2
          have xf3 := hxb.frozen 3
          refine wpAnyH_ready (rs := [11]) (by kernel_rfl) (by simp) ?_
          refine AllReadyH.cons rfl (fun K hK => ?_) (AllReadyH.nil)
          try go_simp
          refine hK.out _ _ (below_put4 hS6 hX1 e0 e1 e2 e3) (fun hHeld => ?_)
          clear hK K
          try simp only [Act.put, List.setIfInBounds_toArray, List.set_cons_zero, List.set_cons_succ]
          refine takeH' (i := 12) (d := 11) (v := .bool true) rfl (by kernel_rfl) (by kernel_rfl) (by kernel_rfl) (fun _ _ _ h => h) (Or.inl ⟨by rfl, fun w' hS' => by (first | rfl | go_simp)⟩) hHeld rfl ?_
          try simp only [Act.put, List.setIfInBounds_toArray, List.set_cons_zero, List.set_cons_succ]
          refine wpAnyH_done (by kernel_rfl) ?_ _
          have hx7 := hxb.put4_ e0 e1 e2 e3
          have hS7 := below_put4 hS6 hX1 e0 e1 e2 e3
          have he7 : ∀ y, some u = some y → TyAt (put4 w6 X e0 e1 e2 e3) B [e0, e1, e2, e3] y := fun y hy => (he6 y hy).later (below_put4 (Below.refl B w6) (by have := HBW.out; omega) e0 e1 e2 e3)
          obtain ⟨w7, hw7⟩ : ∃ w7, put4 w6 X e0 e1 e2 e3 = w7 := ⟨_, rfl⟩
          rw [hw7] at hx7 hS7 he7
          have hw7' : (((w6.setCell ⟨X, 0, none⟩ e0).setCell ⟨X, 1, none⟩ e1).setCell ⟨X, 2, none⟩ e2).setCell ⟨X, 3, none⟩ e3 = w7 := hw7
          rw [hw7']
          have HE7 := Lib.hid he7
          have HS7 := Lib.hid hS7
          have hz7 := hS7.size
          clear he7 hS7 hw7 hw7' he6 hxb x0 x1 x2 x3 xf0 xf1 xf2 xf3 hHeld
          have y0 := hx7.cell 0
          have y1 := hx7.cell 1
          have y2 := hx7.cell 2
          have y3 := hx7.cell 3
          simp only [zTy, List.getElem?_toArray, List.getElem?_cons_succ, List.getElem?_cons_zero] at y0 y1 y2 y3
          have HOW7 := Lib.hid (own_kept HOW.out HS7.out)
          have HTS7 := Lib.hid (HTS.out.later (HS7.out.mono HBW.out))
          have HSO2 := Lib.hid (HSO.out.step HLV.out HXX.out HPR.out)
          go_wp2_with (at_builtin; refine wpList_append_own _ rfl (.tmp 32) (.tmp 34) 22 rfl w4.heap.size 24 i0 (.agg #[.int .i64 0, .string ⟨#[]⟩, .int .i64 0, .slice none 0 0]) 4 56 Try.underlying22 HI.out HZ0.out HZ1.out HZ2.out rfl (by decide) _ _ _ rfl (HOW7.out.alloc _) ⟨w7.heap.size, 0, none⟩ 1 1 [e0, e1, e2, e3] rfl rfl (new_cells w7 [e0, e1, e2, e3]) oe (by unfold maxLen; omega) (by omega) (by simp; omega) ?_)
          intro v3 w8 hown3 hg3 _
          have hb8 : Below w4.heap.size w7 w8 := ((Below.refl _ _).alloc (by omega) _).grown hg3 (by simp; omega) (own_base HOW7.out)
          have HN3 := Lib.hid (show w8.ownsRow w4.heap.size 24 4 v3 (j + 1) (Lr ++ [[e0, e1, e2, e3]]).flatten by rw [List.flatten_append]; simpa using hown3)
          have HT3 := Lib.hid ((HTS7.out.app (TsAt.one (HE7.out u rfl))).later (hb8.mono (by have := HBB.out; have := HB4.out.size; omega)))
          have HB8 := Lib.hid (HBE.out.trans ((HS7.out.mono hzr).trans hb8))
          clear hown3 hg3 hb8
          go_wp2_with fail
          go_roundw
          case rel => exact ⟨j + 1, Lr ++ [[e0, e1, e2, e3]], us ++ [u], by go_num, by omega, HN3.out, HT3.out, HSO2.out, HB8.out⟩
          case measure => simp [intOf]; omega
        · try go_simp
          obtain ⟨X, hX⟩ : ∃ X, wr.heap.size = X := ⟨_, rfl⟩
          have hX1 : wr.heap.size ≤ X := by rw [← hX]; exact Nat.le_refl _
          have hS4 : Below wr.heap.size wr (wr.alloc (.cells zTy 24)) := (Below.refl _ _).alloc (Nat.le_refl _) _
          have hxb0 : Blk (wr.alloc (.cells zTy 24)) X 24 zTy := by rw [← hX]; exact Blk.new _ _ _
          obtain ⟨w4', hw4⟩ : ∃ w4', wr.alloc (.cells zTy 24) = w4' := ⟨_, rfl⟩
          unfold zTy at hw4
          rw [hw4, hX]
          rw [show wr.alloc (.cells zTy 24) = w4' from hw4] at hxb0 hS4
          clear hw4
          refine hK.out _ _ (hS4.drew) (fun hHeld => ?_)
          clear hK K
          try simp only [Act.put, List.setIfInBounds_toArray, List.set_cons_zero, List.set_cons_succ]
          refine wpAnyH_ready (rs := [6]) (by kernel_rfl) (by simp) ?_
          refine AllReadyH.cons rfl (fun K hK => ?_) (AllReadyH.nil)
          try go_simp
          refine (HC.out _ (hS4.drew)).mono ?_
          rintro e w6 ⟨hb6, e0, e1, e2, e3, rfl, oe, he⟩
          have se0 := store_one' e0 (oe e0 (by simp))
          have se1 := store_one' e1 (oe e1 (by simp))
          have se2 := store_one' e2 (oe e2 (by simp))
          have se3 := store_one' e3 (oe e3 (by simp))
          have hS6 : Below wr.heap.size wr w6 := (hS4.drew).trans (hb6.mono (hS4.drew).size)
          go_wp2_with fail
          refine hK.out _ _ (hS6) (fun hHeld => ?_)
          clear hK K
          try simp only [Act.put, List.setIfInBounds_toArray, List.set_cons_zero, List.set_cons_succ]
          refine takeH' (i := 7) (d := 20) (v := .tuple #[.agg #[e0, e1, e2, e3], .bool true]) rfl (by kernel_rfl) (by kernel_rfl) (by kernel_rfl) (fun _ _ _ h => h) (Or.inl ⟨by rfl, fun w' hS' => by (first | rfl | go_simp)⟩) hHeld rfl ?_
          try simp only [Act.put, List.setIfInBounds_toArray, List.set_cons_zero, List.set_cons_succ]
          refine takeH' (i := 8) (d := 28) (v := .agg #[e0, e1, e2, e3]) rfl (by kernel_rfl) (by kernel_rfl) (by kernel_rfl) (fun _ _ _ h => h) (Or.inl ⟨by rfl, fun w' hS' => by (first | rfl | go_simp)⟩) hHeld rfl ?_
          try simp only [Act.put, List.setIfInBounds_toArray, List.set_cons_zero, List.set_cons_succ]
          refine takeH' (i := 9) (d := 29) (v := .bool true) rfl (by kernel_rfl) (by kernel_rfl) (by kernel_rfl) (fun _ _ _ h => h) (Or.inl ⟨by rfl, fun w' hS' => by (first | rfl | go_simp)⟩) hHeld rfl ?_
          try simp only [Act.put, List.setIfInBounds_toArray, List.set_cons_zero, List.set_cons_succ]
          have hxb : Blk w6 X 24 zTy := hxb0.below ((Below.refl w4'.heap.size w4').drew.trans (hb6.mono (Nat.le_refl _))) hxb0.lt
          have he6 : ∀ y, some u = some y → TyAt w6 B [e0, e1, e2, e3] y := he
          have x0 := hxb.cell 0
          have x1 := hxb.cell 1
          have x2 := hxb.cell 2
          have x3 := hxb.cell 3
          simp only [zTy, List.getElem?_toArray, List.getElem?_cons_succ, List.getElem?_cons_zero] at x0 x1 x2 x3
          have xf0 := hxb.frozen 0
          have xf1 := hxb.frozen 1
          have xf2 := hxb.frozen 2
          have xf3 := hxb.frozen 3
          refine wpAnyH_ready (rs := [11]) (by kernel_rfl) (by simp) ?_
          refine AllReadyH.cons rfl (fun K hK => ?_) (AllReadyH.nil)
          try go_simp
          refine hK.out _ _ (below_put4 hS6 hX1 e0 e1 e2 e3) (fun hHeld => ?_)
          clear hK K
          try simp only [Act.put, List.setIfInBounds_toArray, List.set_cons_zero, List.set_cons_succ]
          refine takeH' (i := 12) (d := 11) (v := .bool true) rfl (by kernel_rfl) (by kernel_rfl) (by kernel_rfl) (fun _ _ _ h => h) (Or.inl ⟨by rfl, fun w' hS' => by (first | rfl | go_simp)⟩) hHeld rfl ?_
          try simp only [Act.put, List.setIfInBounds_toArray, List.set_cons_zero, List.set_cons_succ]
          refine wpAnyH_done (by kernel_rfl) ?_ _
          have hx7 := hxb.put4_ e0 e1 e2 e3
          have hS7 := below_put4 hS6 hX1 e0 e1 e2 e3
          have he7 : ∀ y, some u = some y → TyAt (put4 w6 X e0 e1 e2 e3) B [e0, e1, e2, e3] y := fun y hy => (he6 y hy).later (below_put4 (Below.refl B w6) (by have := HBW.out; omega) e0 e1 e2 e3)
          obtain ⟨w7, hw7⟩ : ∃ w7, put4 w6 X e0 e1 e2 e3 = w7 := ⟨_, rfl⟩
          rw [hw7] at hx7 hS7 he7
          have hw7' : (((w6.setCell ⟨X, 0, none⟩ e0).setCell ⟨X, 1, none⟩ e1).setCell ⟨X, 2, none⟩ e2).setCell ⟨X, 3, none⟩ e3 = w7 := hw7
          rw [hw7']
          have HE7 := Lib.hid he7
          have HS7 := Lib.hid hS7
          have hz7 := hS7.size
          clear he7 hS7 hw7 hw7' he6 hxb x0 x1 x2 x3 xf0 xf1 xf2 xf3 hHeld
          have y0 := hx7.cell 0
          have y1 := hx7.cell 1
          have y2 := hx7.cell 2
          have y3 := hx7.cell 3
          simp only [zTy, List.getElem?_toArray, List.getElem?_cons_succ, List.getElem?_cons_zero] at y0 y1 y2 y3
          have HOW7 := Lib.hid (own_kept HOW.out HS7.out)
          have HTS7 := Lib.hid (HTS.out.later (HS7.out.mono HBW.out))
          have HSO2 := Lib.hid (HSO.out.step HLV.out HXX.out HPR.out)
          go_wp2_with (at_builtin; refine wpList_append_own _ rfl (.tmp 32) (.tmp 34) 22 rfl w4.heap.size 24 i0 (.agg #[.int .i64 0, .string ⟨#[]⟩, .int .i64 0, .slice none 0 0]) 4 56 Try.underlying22 HI.out HZ0.out HZ1.out HZ2.out rfl (by decide) _ _ _ rfl (HOW7.out.alloc _) ⟨w7.heap.size, 0, none⟩ 1 1 [e0, e1, e2, e3] rfl rfl (new_cells w7 [e0, e1, e2, e3]) oe (by unfold maxLen; omega) (by omega) (by simp; omega) ?_)
          intro v3 w8 hown3 hg3 _
          have hb8 : Below w4.heap.size w7 w8 := ((Below.refl _ _).alloc (by omega) _).grown hg3 (by simp; omega) (own_base HOW7.out)
          have HN3 := Lib.hid (show w8.ownsRow w4.heap.size 24 4 v3 (j + 1) (Lr ++ [[e0, e1, e2, e3]]).flatten by rw [List.flatten_append]; simpa using hown3)
          have HT3 := Lib.hid ((HTS7.out.app (TsAt.one (HE7.out u rfl))).later (hb8.mono (by have := HBB.out; have := HB4.out.size; omega)))
          have HB8 := Lib.hid (HBE.out.trans ((HS7.out.mono hzr).trans hb8))
          clear hown3 hg3 hb8
          go_wp2_with fail
          go_roundw
          case rel => exact ⟨j + 1, Lr ++ [[e0, e1, e2, e3]], us ++ [u], by go_num, by omega, HN3.out, HT3.out, HSO2.out, HB8.out⟩
          case measure => simp [intOf]; omega
      | none =>
        go_wp2_with fail
        refine wp_region_held_drew (S := fun w' => Below wr.heap.size wr w') (by kernel_rfl) ((Below.refl wr.heap.size wr).drew) (fun hHeld => ?_)
        refine takeH' (i := 0) (d := 21) (v := .agg #[a0, a1, a2, a3]) rfl (by kernel_rfl) (by kernel_rfl) (by kernel_rfl) (fun _ _ _ h => h) (Or.inl ⟨by rfl, fun w' hS' => by (have hbb := HP.out.below hS' HP.out.lt); (have q0 := hbb.cell 0); (have q1 := hbb.cell 1); (have q2 := hbb.cell 2); (have q3 := hbb.cell 3); (simp only [List.getElem?_toArray, List.getElem?_cons_succ, List.getElem?_cons_zero] at q0 q1 q2 q3); (first | rfl | go_simp)⟩) hHeld rfl ?_
        try simp only [Act.put, List.setIfInBounds_toArray, List.set_cons_zero, List.set_cons_succ]
        refine takeH' (i := 1) (d := 22) (v := .agg #[b0, b1, b2, b3]) rfl (by kernel_rfl) (by kernel_rfl) (by kernel_rfl) (fun _ _ _ h => h) (Or.inl ⟨by rfl, fun w' hS' => by (have hbb := HPQ.out.below hS' HPQ.out.lt); (have q0 := hbb.cell 0); (have q1 := hbb.cell 1); (have q2 := hbb.cell 2); (have q3 := hbb.cell 3); (simp only [List.getElem?_toArray, List.getElem?_cons_succ, List.getElem?_cons_zero] at q0 q1 q2 q3); (first | rfl | go_simp)⟩) hHeld rfl ?_
        try simp only [Act.put, List.setIfInBounds_toArray, List.set_cons_zero, List.set_cons_succ]
        refine takeH' (i := 2) (d := 23) (v := .slice (some ad) q c1) rfl (by kernel_rfl) (by kernel_rfl) (by kernel_rfl) (fun _ _ _ h => h) (Or.inl ⟨by rfl, fun w' hS' => by (first | rfl | go_simp)⟩) hHeld rfl ?_
        try simp only [Act.put, List.setIfInBounds_toArray, List.set_cons_zero, List.set_cons_succ]
        refine takeH' (i := 3) (d := 24) (v := .int .i64 j) rfl (by kernel_rfl) (by kernel_rfl) (by kernel_rfl) (fun _ _ _ h => h) (Or.inl ⟨by rfl, fun w' hS' => by (first | rfl | go_simp)⟩) hHeld rfl ?_
        try simp only [Act.put, List.setIfInBounds_toArray, List.set_cons_zero, List.set_cons_succ]
        refine takeH' (i := 4) (d := 25) (v := .pointer (some (ad.add j))) rfl (by kernel_rfl) (by kernel_rfl) (by kernel_rfl) (fun _ _ _ h => h) (Or.inl ⟨by rfl, fun w' hS' => by (first | rfl | go_simp)⟩) hHeld rfl ?_
        try simp only [Act.put, List.setIfInBounds_toArray, List.set_cons_zero, List.set_cons_succ]
        refine takeH' (i := 5) (d := 26) (v := .string x) rfl (by kernel_rfl) (by kernel_rfl) (by kernel_rfl) (fun _ _ _ h => h) (Or.inl ⟨by rfl, fun w' hS' => by (have r0 := (hS'.cell hcb).trans hc); (first | rfl | go_simp)⟩) hHeld rfl ?_
        try simp only [Act.put, List.setIfInBounds_toArray, List.set_cons_zero, List.set_cons_succ]
        refine wpAnyH_ready (rs := [6, 10]) (by kernel_rfl) (by simp) ?_
        refine AllReadyH.cons rfl (fun K hK => ?_) (AllReadyH.cons rfl (fun K hK => ?_) (AllReadyH.nil))
        · try go_simp
          refine (HC.out _ ((Below.refl wr.heap.size wr).drew)).mono ?_
          rintro e w5 ⟨hb5, e0, e1, e2, e3, rfl, oe, he⟩
          have se0 := store_one' e0 (oe e0 (by simp))
          have se1 := store_one' e1 (oe e1 (by simp))
          have se2 := store_one' e2 (oe e2 (by simp))
          have se3 := store_one' e3 (oe e3 (by simp))
          have hS5 : Below wr.heap.size wr w5 := ((Below.refl wr.heap.size wr).drew).trans (hb5.mono ((Below.refl wr.heap.size wr).drew).size)
          go_wp2_with fail
          refine hK.out _ _ (hS5) (fun hHeld => ?_)
          clear hK K
          try simp only [Act.put, List.setIfInBounds_toArray, List.set_cons_zero, List.set_cons_succ]
          refine takeH' (i := 7) (d := 20) (v := .tuple #[.agg #[e0, e1, e2, e3], .bool false]) rfl (by kernel_rfl) (by kernel_rfl) (by kernel_rfl) (fun _ _ _ h => h) (Or.inl ⟨by rfl, fun w' hS' => by (first | rfl | go_simp)⟩) hHeld rfl ?_
          try simp only [Act.put, List.setIfInBounds_toArray, List.set_cons_zero, List.set_cons_succ]
          refine takeH' (i := 8) (d := 28) (v := .agg #[e0, e1, e2, e3]) rfl (by kernel_rfl) (by kernel_rfl) (by kernel_rfl) (fun _ _ _ h => h) (Or.inl ⟨by rfl, fun w' hS' => by (first | rfl | go_simp)⟩) hHeld rfl ?_
          try simp only [Act.put, List.setIfInBounds_toArray, List.set_cons_zero, List.set_cons_succ]
          refine takeH' (i := 9) (d := 29) (v := .bool false) rfl (by kernel_rfl) (by kernel_rfl) (by kernel_rfl) (fun _ _ _ h => h) (Or.inl ⟨by rfl, fun w' hS' => by (first | rfl | go_simp)⟩) hHeld rfl ?_
          try simp only [Act.put, List.setIfInBounds_toArray, List.set_cons_zero, List.set_cons_succ]
          refine wpAnyH_ready (rs := [10]) (by kernel_rfl) (by simp) ?_
          refine AllReadyH.cons rfl (fun K hK => ?_) (AllReadyH.nil)
          try go_simp
          obtain ⟨X, hX⟩ : ∃ X, w5.heap.size = X := ⟨_, rfl⟩
          have hX1 : wr.heap.size ≤ X := by rw [← hX]; exact hS5.size
          have hxb : Blk (w5.alloc (.cells zTy 24)) X 24 zTy := by rw [← hX]; exact Blk.new _ _ _
          have hS6 : Below wr.heap.size wr (w5.alloc (.cells zTy 24)) := hS5.alloc hS5.size _
          have hfr : Below w5.heap.size w5 (w5.alloc (.cells zTy 24)) := (Below.refl _ _).alloc (Nat.le_refl _) _
          obtain ⟨w6, hw6⟩ : ∃ w6, w5.alloc (.cells zTy 24) = w6 := ⟨_, rfl⟩
          unfold zTy at hw6
          rw [hw6, hX]
          rw [show w5.alloc (.cells zTy 24) = w6 from hw6] at hxb hS6 hfr
          have he6 : ∀ y, (none : Option Ty) = some y → TyAt w6 B [e0, e1, e2, e3] y := fun y hy => (he y hy).later (hfr.mono (Nat.le_trans HBW.out hS5.size))
          clear hw6
          refine hK.out _ _ (hS6) (fun hHeld => ?_)
          clear hK K
          try simp only [Act.put, List.setIfInBounds_toArray, List.set_cons_zero, List.set_cons_succ]
          have x0 := hxb.cell 0
          have x1 := hxb.cell 1
          have x2 := hxb.cell 2
          have x3 := hxb.cell 3
          simp only [zTy, List.getElem?_toArray, List.getElem?_cons_succ, List.getElem?_cons_zero] at x0 x1 x2 x3
          have xf0 := hxb.frozen 0
          have xf1 := hxb.frozen 1
          have xf2 := hxb.frozen 2
          have xf3 := hxb.frozen 3
          refine wpAnyH_ready (rs := [11]) (by kernel_rfl) (by simp) ?_
          refine AllReadyH.cons rfl (fun K hK => ?_) (AllReadyH.nil)
          try go_simp
          refine hK.out _ _ (below_put4 hS6 hX1 e0 e1 e2 e3) (fun hHeld => ?_)
          clear hK K
          try simp only [Act.put, List.setIfInBounds_toArray, List.set_cons_zero, List.set_cons_succ]
          refine takeH' (i := 12) (d := 11) (v := .bool false) rfl (by kernel_rfl) (by kernel_rfl) (by kernel_rfl) (fun _ _ _ h => h) (Or.inl ⟨by rfl, fun w' hS' => by (first | rfl | go_simp)⟩) hHeld rfl ?_
          try simp only [Act.put, List.setIfInBounds_toArray, List.set_cons_zero, List.set_cons_succ]
          refine wpAnyH_done (by kernel_rfl) ?_ _
          have hx7 := hxb.put4_ e0 e1 e2 e3
          have hS7 := below_put4 hS6 hX1 e0 e1 e2 e3
          have he7 : ∀ y, (none : Option Ty) = some y → TyAt (put4 w6 X e0 e1 e2 e3) B [e0, e1, e2, e3] y := fun y hy => (he6 y hy).later (below_put4 (Below.refl B w6) (by have := HBW.out; omega) e0 e1 e2 e3)
          obtain ⟨w7, hw7⟩ : ∃ w7, put4 w6 X e0 e1 e2 e3 = w7 := ⟨_, rfl⟩
          rw [hw7] at hx7 hS7 he7
          have hw7' : (((w6.setCell ⟨X, 0, none⟩ e0).setCell ⟨X, 1, none⟩ e1).setCell ⟨X, 2, none⟩ e2).setCell ⟨X, 3, none⟩ e3 = w7 := hw7
          rw [hw7']
          have HE7 := Lib.hid he7
          have HS7 := Lib.hid hS7
          have hz7 := hS7.size
          clear he7 hS7 hw7 hw7' he6 hxb x0 x1 x2 x3 xf0 xf1 xf2 xf3 hHeld
          have y0 := hx7.cell 0
          have y1 := hx7.cell 1
          have y2 := hx7.cell 2
          have y3 := hx7.cell 3
          simp only [zTy, List.getElem?_toArray, List.getElem?_cons_succ, List.getElem?_cons_zero] at y0 y1 y2 y3
          have HF := Lib.hid (DocPost.none_ (B := B) (HSO.out.miss HLV.out HXX.out HPR.out) (HB4.out.trans ((HBE.out.trans (HS7.out.mono hzr)).mono HB4.out.size)))
          go_wp2_with fail
          refine bodyPost_ret (results_tmp3 rfl _ _ _) rfl ?_
          exact HF.out
        · try go_simp
          obtain ⟨X, hX⟩ : ∃ X, wr.heap.size = X := ⟨_, rfl⟩
          have hX1 : wr.heap.size ≤ X := by rw [← hX]; exact Nat.le_refl _
          have hS4 : Below wr.heap.size wr (wr.alloc (.cells zTy 24)) := (Below.refl _ _).alloc (Nat.le_refl _) _
          have hxb0 : Blk (wr.alloc (.cells zTy 24)) X 24 zTy := by rw [← hX]; exact Blk.new _ _ _
          obtain ⟨w4', hw4⟩ : ∃ w4', wr.alloc (.cells zTy 24) = w4' := ⟨_, rfl⟩
          unfold zTy at hw4
          rw [hw4, hX]
          rw [show wr.alloc (.cells zTy 24) = w4' from hw4] at hxb0 hS4
          clear hw4
          refine hK.out _ _ (hS4.drew) (fun hHeld => ?_)
          clear hK K
          try simp only [Act.put, List.setIfInBounds_toArray, List.set_cons_zero, List.set_cons_succ]
          refine wpAnyH_ready (rs := [6]) (by kernel_rfl) (by simp) ?_
          refine AllReadyH.cons rfl (fun K hK => ?_) (AllReadyH.nil)
          try go_simp
          refine (HC.out _ (hS4.drew)).mono ?_
          rintro e w6 ⟨hb6, e0, e1, e2, e3, rfl, oe, he⟩
          have se0 := store_one' e0 (oe e0 (by simp))
          have se1 := store_one' e1 (oe e1 (by simp))
          have se2 := store_one' e2 (oe e2 (by simp))
          have se3 := store_one' e3 (oe e3 (by simp))
          have hS6 : Below wr.heap.size wr w6 := (hS4.drew).trans (hb6.mono (hS4.drew).size)
          go_wp2_with fail
          refine hK.out _ _ (hS6) (fun hHeld => ?_)
          clear hK K
          try simp only [Act.put, List.setIfInBounds_toArray, List.set_cons_zero, List.set_cons_succ]
          refine takeH' (i := 7) (d := 20) (v := .tuple #[.agg #[e0, e1, e2, e3], .bool false]) rfl (by kernel_rfl) (by kernel_rfl) (by kernel_rfl) (fun _ _ _ h => h) (Or.inl ⟨by rfl, fun w' hS' => by (first | rfl | go_simp)⟩) hHeld rfl ?_
          try simp only [Act.put, List.setIfInBounds_toArray, List.set_cons_zero, List.set_cons_succ]
          refine takeH' (i := 8) (d := 28) (v := .agg #[e0, e1, e2, e3]) rfl (by kernel_rfl) (by kernel_rfl) (by kernel_rfl) (fun _ _ _ h => h) (Or.inl ⟨by rfl, fun w' hS' => by (first | rfl | go_simp)⟩) hHeld rfl ?_
          try simp only [Act.put, List.setIfInBounds_toArray, List.set_cons_zero, List.set_cons_succ]
          refine takeH' (i := 9) (d := 29) (v := .bool false) rfl (by kernel_rfl) (by kernel_rfl) (by kernel_rfl) (fun _ _ _ h => h) (Or.inl ⟨by rfl, fun w' hS' => by (first | rfl | go_simp)⟩) hHeld rfl ?_
          try simp only [Act.put, List.setIfInBounds_toArray, List.set_cons_zero, List.set_cons_succ]
          have hxb : Blk w6 X 24 zTy := hxb0.below ((Below.refl w4'.heap.size w4').drew.trans (hb6.mono (Nat.le_refl _))) hxb0.lt
          have he6 : ∀ y, (none : Option Ty) = some y → TyAt w6 B [e0, e1, e2, e3] y := he
          have x0 := hxb.cell 0
          have x1 := hxb.cell 1
          have x2 := hxb.cell 2
          have x3 := hxb.cell 3
          simp only [zTy, List.getElem?_toArray, List.getElem?_cons_succ, List.getElem?_cons_zero] at x0 x1 x2 x3
          have xf0 := hxb.frozen 0
          have xf1 := hxb.frozen 1
          have xf2 := hxb.frozen 2
          have xf3 := hxb.frozen 3
          refine wpAnyH_ready (rs := [11]) (by kernel_rfl) (by simp) ?_
          refine AllReadyH.cons rfl (fun K hK => ?_) (AllReadyH.nil)
          try go_simp
          refine hK.out _ _ (below_put4 hS6 hX1 e0 e1 e2 e3) (fun hHeld => ?_)
          clear hK K
          try simp only [Act.put, List.setIfInBounds_toArray, List.set_cons_zero, List.set_cons_succ]
          refine takeH' (i := 12) (d := 11) (v := .bool false) rfl (by kernel_rfl) (by kernel_rfl) (by kernel_rfl) (fun _ _ _ h => h) (Or.inl ⟨by rfl, fun w' hS' => by (first | rfl | go_simp)⟩) hHeld rfl ?_
          try simp only [Act.put, List.setIfInBounds_toArray, List.set_cons_zero, List.set_cons_succ]
          refine wpAnyH_done (by kernel_rfl) ?_ _
          have hx7 := hxb.put4_ e0 e1 e2 e3
          have hS7 := below_put4 hS6 hX1 e0 e1 e2 e3
          have he7 : ∀ y, (none : Option Ty) = some y → TyAt (put4 w6 X e0 e1 e2 e3) B [e0, e1, e2, e3] y := fun y hy => (he6 y hy).later (below_put4 (Below.refl B w6) (by have := HBW.out; omega) e0 e1 e2 e3)
          obtain ⟨w7, hw7⟩ : ∃ w7, put4 w6 X e0 e1 e2 e3 = w7 := ⟨_, rfl⟩
          rw [hw7] at hx7 hS7 he7
          have hw7' : (((w6.setCell ⟨X, 0, none⟩ e0).setCell ⟨X, 1, none⟩ e1).setCell ⟨X, 2, none⟩ e2).setCell ⟨X, 3, none⟩ e3 = w7 := hw7
          rw [hw7']
          have HE7 := Lib.hid he7
          have HS7 := Lib.hid hS7
          have hz7 := hS7.size
          clear he7 hS7 hw7 hw7' he6 hxb x0 x1 x2 x3 xf0 xf1 xf2 xf3 hHeld
          have y0 := hx7.cell 0
          have y1 := hx7.cell 1
          have y2 := hx7.cell 2
          have y3 := hx7.cell 3
          simp only [zTy, List.getElem?_toArray, List.getElem?_cons_succ, List.getElem?_cons_zero] at y0 y1 y2 y3
          have HF := Lib.hid (DocPost.none_ (B := B) (HSO.out.miss HLV.out HXX.out HPR.out) (HB4.out.trans ((HBE.out.trans (HS7.out.mono hzr)).mono HB4.out.size)))
          go_wp2_with fail
          refine bodyPost_ret (results_tmp3 rfl _ _ _) rfl ?_
          exact HF.out
    · have hj2 : j = q := by omega
      subst hj2
      obtain ⟨A2, c2, rfl, hr2⟩ := TsAt.row_ hown hts hso.1 HBW.out
      have HR2 := Lib.hid hr2
      have HTSL := Lib.hid hts
      have HDT := Lib.hid (hso.done HQ.out.symm)
      have HUL := Lib.hid hso.1
      obtain ⟨r, hr⟩ : ∃ r, tySame (t.repl (putF (varsT t) us)) s = r := ⟨_, rfl⟩
      have HR := Lib.hid hr
      have HO2 := Lib.hid hown
      clear hown hts hso hbe hr hr2 hp hq
      go_wp2_with fail
      refine wp_region_held_drew (S := fun w' => Below wr.heap.size wr w') (by kernel_rfl) ((Below.refl wr.heap.size wr).drew) (fun hHeld => ?_)
      refine takeH' (i := 0) (d := 36) (v := .slice A1 j c1) rfl (by kernel_rfl) (by kernel_rfl) (by kernel_rfl) (fun _ _ _ h => h) (Or.inl ⟨by rfl, fun w' hS' => by (first | rfl | go_simp)⟩) hHeld rfl ?_
      try simp only [Act.put, List.setIfInBounds_toArray, List.set_cons_zero, List.set_cons_succ]
      refine takeH' (i := 1) (d := 37) (v := .slice A2 j c2) rfl (by kernel_rfl) (by kernel_rfl) (by kernel_rfl) (fun _ _ _ h => h) (Or.inl ⟨by rfl, fun w' hS' => by (first | rfl | go_simp)⟩) hHeld rfl ?_
      try simp only [Act.put, List.setIfInBounds_toArray, List.set_cons_zero, List.set_cons_succ]
      refine takeH' (i := 2) (d := 38) (v := .agg #[a0, a1, a2, a3]) rfl (by kernel_rfl) (by kernel_rfl) (by kernel_rfl) (fun _ _ _ h => h) (Or.inl ⟨by rfl, fun w' hS' => by (have hbb := HP.out.below hS' HP.out.lt); (have q0 := hbb.cell 0); (have q1 := hbb.cell 1); (have q2 := hbb.cell 2); (have q3 := hbb.cell 3); (simp only [List.getElem?_toArray, List.getElem?_cons_succ, List.getElem?_cons_zero] at q0 q1 q2 q3); (first | rfl | go_simp)⟩) hHeld rfl ?_
      try simp only [Act.put, List.setIfInBounds_toArray, List.set_cons_zero, List.set_cons_succ]
      refine takeH' (i := 4) (d := 40) (v := .agg #[b0, b1, b2, b3]) rfl (by kernel_rfl) (by kernel_rfl) (by kernel_rfl) (fun _ _ _ h => h) (Or.inl ⟨by rfl, fun w' hS' => by (have hbb := HPQ.out.below hS' HPQ.out.lt); (have q0 := hbb.cell 0); (have q1 := hbb.cell 1); (have q2 := hbb.cell 2); (have q3 := hbb.cell 3); (simp only [List.getElem?_toArray, List.getElem?_cons_succ, List.getElem?_cons_zero] at q0 q1 q2 q3); (first | rfl | go_simp)⟩) hHeld rfl ?_
      try simp only [Act.put, List.setIfInBounds_toArray, List.set_cons_zero, List.set_cons_succ]
      refine wpAnyH_ready (rs := [3]) (by kernel_rfl) (by simp) ?_
      refine AllReadyH.cons rfl (fun K hK => ?_) (AllReadyH.nil)
      try go_simp
      refine (rput_any (varsT t) us A1 A2 j c1 j c2 (wr.drew).heap.size Lr HQ.out (by omega) HUL.out (by omega) t.nodes t (Nat.le_refl _) (by have := HT9.out; omega) wr.drew [a0, a1, a2, a3] (Nat.le_refl _) ((HRD.out.below (HBE.out.drew)).more HBE.out.drew.size) (HR2.out.later (Below.refl wr.heap.size wr).drew) ((HTX.out.later ((Below.refl wr.heap.size wr).drew.mono HBW.out)).more HBW.out)).mono ?_
      rintro e v7 hp
      obtain ⟨f0, f1, f2, f3, rfl, htf, of, hbn⟩ := hp.plain
      have hSv7 : Below wr.heap.size wr v7 := ((Below.refl wr.heap.size wr).drew).trans (hbn.mono ((Below.refl wr.heap.size wr).drew).size)
      clear hbn
      go_wp2_with fail
      refine hK.out _ _ (hSv7) (fun hHeld => ?_)
      clear hK K
      try simp only [Act.put, List.setIfInBounds_toArray, List.set_cons_zero, List.set_cons_succ]
      refine wpAnyH_ready (rs := [5]) (by kernel_rfl) (by simp) ?_
      refine AllReadyH.cons rfl (fun K hK => ?_) (AllReadyH.nil)
      try go_simp
      refine (rsametype_any _ _ _ (Nat.le_refl _) v7.heap.size v7 [f0, f1, f2, f3] [b0, b1, b2, b3] (Nat.le_refl _) htf ((HTY.out.later (hSv7.mono HBW.out)).more (Nat.le_trans HBW.out hSv7.size))).mono ?_
      rintro e v8 ⟨rfl, hbn⟩
      rw [HR.out]
      have hSv8 : Below wr.heap.size wr v8 := hSv7.trans (hbn.mono hSv7.size)
      clear hbn
      go_wp2_with fail
      refine hK.out _ _ (hSv8) (fun hHeld => ?_)
      clear hK K
      try simp only [Act.put, List.setIfInBounds_toArray, List.set_cons_zero, List.set_cons_succ]
      have HSV8 := Lib.hid hSv8
      cases r with
      | false =>
        refine takeH' (i := 6) (d := 42) (v := .bool true) rfl (by kernel_rfl) (by kernel_rfl) (by kernel_rfl) (fun _ _ _ h => h) (Or.inl ⟨by rfl, fun w' hS' => by (first | rfl | go_simp)⟩) hHeld rfl ?_
        try simp only [Act.put, List.setIfInBounds_toArray, List.set_cons_zero, List.set_cons_succ]
        refine wpAnyH_done (by kernel_rfl) ?_ _
        have HF := Lib.hid (DocPost.none_ (B := B) (docM_no HDT.out HR.out) (HB4.out.trans ((HBE.out.trans (HSV8.out.mono hzr)).mono HB4.out.size)))
        clear hHeld hSv7 hSv8
        go_wp2_with fail
        refine bodyPost_ret (results_tmp3 rfl _ _ _) rfl ?_
        exact HF.out
      | true =>
        refine takeH' (i := 6) (d := 42) (v := .bool false) rfl (by kernel_rfl) (by kernel_rfl) (by kernel_rfl) (fun _ _ _ h => h) (Or.inl ⟨by rfl, fun w' hS' => by (first | rfl | go_simp)⟩) hHeld rfl ?_
        try simp only [Act.put, List.setIfInBounds_toArray, List.set_cons_zero, List.set_cons_succ]
        refine wpAnyH_done (by kernel_rfl) ?_ _
        have HF := Lib.hid (DocPost.some_ (B := B) (docM_yes HDT.out HR.out) (HB4.out.trans ((HBE.out.trans (HSV8.out.mono hzr)).mono HB4.out.size)) (by rw [HQ.out]; exact own_less (own_kept HO1.out (HBE.out.trans (HSV8.out.mono hzr))) HG.out.size) (by rw [HQ.out]; exact own_less (own_kept HO2.out HSV8.out) (Nat.le_trans HG.out.size hz4)) (HTSL.out.later (HSV8.out.mono HBW.out)))
        clear hHeld hSv7 hSv8
        go_wp2_with fail
        refine bodyPost_ret (results_tmp3 rfl _ _ _) rfl ?_
        exact HF.out

end Go.Proofs.Ytgmcjnhaedfinaa
