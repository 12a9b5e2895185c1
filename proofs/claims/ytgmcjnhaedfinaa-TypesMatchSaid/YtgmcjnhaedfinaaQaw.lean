/- The chapter's examples hold. -/
import Derived.Test.YtgmcjnhaedfinaaQmc
import Derived.Test.YtgmcjnhaedfinaaQle
import Derived.Test.YtgmcjnhaedfinaaQad
import Derived.Deep.RegionHeld3
namespace Go.Proofs.Ytgmcjnhaedfinaa
open Go.RowKit
set_option linter.unusedVariables false
set_option linter.unusedSimpArgs false
set_option maxRecDepth 100000

theorem takeH' {P : Program} {md : Region.Mode} {ops : Array Oper} {Q : Exit → Act → World → Prop} {S : World → Prop} {i d : Nat} {oi : Oper} {v : Value} {fuel : Nat} {listed : Array Bool} {a : Act} {w : World} (hi : ops[i]? = some oi)
    (hs : Region.noSelect ops = true) (hf : Region.free md ops listed i = true) (hr : (Region.ready md ops listed).contains i = true)
    (hQ : ∀ c a w, Q (.panic c) (a.put oi.dst v) w → Q (.panic c) a w) (hy : YieldsIf P ops S oi v a) (hS : S w) (hd : oi.dst = some d)
    (h : wpAnyH P md ops Q S fuel (listed.setIfInBounds i true) (a.put (some d) v) w) : wpAnyH P md ops Q S (fuel + 1) listed a w :=
  wpAnyH_take hi hs hf hr hQ hy hS (by rw [hd]; exact h)
abbrev nmA : ByteArray := ⟨#[97]⟩
abbrev nmInt : ByteArray := ⟨#[73, 110, 116]⟩
abbrev tA : Ty := .mk 1 nmA 0 []
abbrev tI : Ty := .mk 3 nmInt 0 []
abbrev fT (t u : Ty) : Ty := .mk 3 sArrow 0 [t, u]
theorem mat_aw : matchC (fT tA tA) (fT tI tI) [] = some [(nmA, tI)] := by kernel_rfl
theorem vars_aw : varsT (fT tA tA) = [nmA] := by kernel_rfl
theorem tys_aw : tysOf [(nmA, tI)] [nmA] = [tI] := by kernel_rfl
theorem args_aw : ArgsR (fT tA (fT tI tA)) [tA, tI] tA := .step (by kernel_rfl) (.step (by kernel_rfl) (.stop (by kernel_rfl)))
theorem row_none (w : World) (B size : Nat) : Row w B size none 0 [] := ⟨rfl, fun l h => by simp at h, Reads.none_⟩
theorem tA_at (w : World) (B : Nat) : TyAt w B [.int .i64 1, .string nmA, .int .i64 0, .slice none 0 0] tA :=
  TyAt.mk (ks := []) (L := []) (ok_lit _ (by omega) (by omega)) (by simp [ByteArray.size, maxLen]) (ok_lit _ (by omega) (by omega)) (by simp) (by simp [maxLen]) (by simp) (row_none _ _ _) (fun i h => by simp at h)
theorem let_aw : (⟨(letterL 27).toArray⟩ : ByteArray) = ⟨#[98, 49]⟩ := by kernel_rfl
theorem TyPost.plain {B : Nat} {t : Ty} {w w' : World} {e : Ending} (h : TyPost B t w e w') : ∃ x0 x1 x2 x3, e = .returned (.agg #[x0, x1, x2, x3]) ∧ TyAt w' w'.heap.size [x0, x1, x2, x3] t ∧ (∀ u ∈ [x0, x1, x2, x3], u.oneCell' = true) ∧ Below w.heap.size w w' := by
  obtain ⟨cs, rfl, hty, hb⟩ := h
  obtain ⟨x0, x1, x2, x3, rfl⟩ := four_of (TyAt.four hty)
  exact ⟨x0, x1, x2, x3, rfl, hty.plain, ty_ones hty, hb⟩
set_option maxHeartbeats 12800000 in
theorem awake_any (w : World) : Calls Try.prog 7 #[] w fun e w' => e = .returned (.bool true) ∧ Below w.heap.size w w' := by
  have C1 := Lib.hid (con_any nmInt (by simp [ByteArray.size, maxLen]) [] none [] 0 0 0 w (by omega) rfl (by omega) (row_none _ _ _) (TsAt.nil_ _ _))
  have C9 := Lib.hid (fun W => letter_any 27 (ok_lit _ (by omega) (by omega)) W)
  rw [let_aw] at C9
  go_enter Try.func7, Try.ntmps7
  go_upto_region 2 with (go_at_call 24; (with_reducible refine C1.out.mono ?_); rintro e w2 hp2; (obtain ⟨n0, n1, n2, n3, rfl, hty2, on, hb2⟩ := hp2.plain); (have sn0 := store_one' n0 (on n0 (by simp))); (have sn1 := store_one' n1 (on n1 (by simp))); (have sn2 := store_one' n2 (on n2 (by simp))); (have sn3 := store_one' n3 (on n3 (by simp))))
  obtain ⟨W3, hW3⟩ : ∃ W3, (w2.alloc (.cells #[.int .i64 1, .string nmA, .int .i64 0, .slice none 0 0] 24)).alloc (.cells #[n0, n1, n2, n3] 24) = W3 := ⟨_, rfl⟩
  rw [hW3]
  have hb3 : Below w2.heap.size w2 W3 := by rw [← hW3]; exact ((Below.refl _ _).alloc (Nat.le_refl _) _).alloc (by simp) _
  have hsz : W3.heap.size = w2.heap.size + 2 := by rw [← hW3]; simp
  have hba : Blk W3 w2.heap.size 24 #[.int .i64 1, .string nmA, .int .i64 0, .slice none 0 0] := by rw [← hW3]; exact (Blk.new _ _ _).alloc _
  have hbn : Blk W3 (w2.heap.size + 1) 24 #[n0, n1, n2, n3] := by rw [← hW3]; have := Blk.new (w2.alloc (.cells #[.int .i64 1, .string nmA, .int .i64 0, .slice none 0 0] 24)) 24 #[n0, n1, n2, n3]; simpa using this
  have htn : TyAt W3 W3.heap.size [n0, n1, n2, n3] tI := (hty2.later hb3).more hb3.size
  have HB3 := Lib.hid (hb2.trans (hb3.mono hb2.size))
  have HBA := Lib.hid hba
  have HBN := Lib.hid hbn
  have HTN := Lib.hid htn
  have hmx : Try.prog.follows .mixedOrders = true := by kernel_rfl
  clear hW3 hb3 hba hbn htn hty2 hp2 hb2 on
  have RA := Lib.hid (fun (w' : World) (h : Below W3.heap.size W3 w') => HBA.out.below h HBA.out.lt)
  have RN := Lib.hid (fun (w' : World) (h : Below W3.heap.size W3 w') => HBN.out.below h HBN.out.lt)
  have HHM := Lib.hid (fun (W : World) (cs ds : List Value) (B : Nat) (hB : B ≤ W.heap.size) (hx : TyAt W B cs (fT tA tA)) (hy : TyAt W B ds (fT tI tI)) => match_any (fT tA tA) (fT tI tI) (by simp [Ty.nodes, tysNodes]) (by simp [Ty.nodes, tysNodes])
    (fun M hM x hx => by rw [mat_aw] at hM; injection hM with hM; subst hM; rw [vars_aw] at hx; simp at hx; subst hx; exact ⟨tI, by kernel_rfl⟩) B W cs ds hB hx hy)
  refine wp_region_held_drew (S := fun w' => Below W3.heap.size W3 w') (by kernel_rfl) ((Below.refl W3.heap.size W3).drew) (fun hHeld => ?_)
  refine takeH' (i := 0) (d := 11) (v := .agg #[.int .i64 1, .string nmA, .int .i64 0, .slice none 0 0]) rfl (by kernel_rfl) (by kernel_rfl) (by kernel_rfl) (fun _ _ _ h => h) (Or.inl ⟨by rfl, fun w' hS' => by (have hbb := RA.out w' hS'); (have q0 := hbb.cell 0); (have q1 := hbb.cell 1); (have q2 := hbb.cell 2); (have q3 := hbb.cell 3); (simp only [List.getElem?_toArray, List.getElem?_cons_succ, List.getElem?_cons_zero] at q0 q1 q2 q3); (first | rfl | go_simp)⟩) hHeld rfl ?_
  try simp only [Act.put, List.setIfInBounds_toArray, List.set_cons_zero, List.set_cons_succ]
  refine takeH' (i := 1) (d := 12) (v := .agg #[.int .i64 1, .string nmA, .int .i64 0, .slice none 0 0]) rfl (by kernel_rfl) (by kernel_rfl) (by kernel_rfl) (fun _ _ _ h => h) (Or.inl ⟨by rfl, fun w' hS' => by (have hbb := RA.out w' hS'); (have q0 := hbb.cell 0); (have q1 := hbb.cell 1); (have q2 := hbb.cell 2); (have q3 := hbb.cell 3); (simp only [List.getElem?_toArray, List.getElem?_cons_succ, List.getElem?_cons_zero] at q0 q1 q2 q3); (first | rfl | go_simp)⟩) hHeld rfl ?_
  try simp only [Act.put, List.setIfInBounds_toArray, List.set_cons_zero, List.set_cons_succ]
  refine takeH' (i := 3) (d := 14) (v := .agg #[n0, n1, n2, n3]) rfl (by kernel_rfl) (by kernel_rfl) (by kernel_rfl) (fun _ _ _ h => h) (Or.inl ⟨by rfl, fun w' hS' => by (have hbb := RN.out w' hS'); (have q0 := hbb.cell 0); (have q1 := hbb.cell 1); (have q2 := hbb.cell 2); (have q3 := hbb.cell 3); (simp only [List.getElem?_toArray, List.getElem?_cons_succ, List.getElem?_cons_zero] at q0 q1 q2 q3); (first | rfl | go_simp)⟩) hHeld rfl ?_
  try simp only [Act.put, List.setIfInBounds_toArray, List.set_cons_zero, List.set_cons_succ]
  refine takeH' (i := 4) (d := 15) (v := .agg #[n0, n1, n2, n3]) rfl (by kernel_rfl) (by kernel_rfl) (by kernel_rfl) (fun _ _ _ h => h) (Or.inl ⟨by rfl, fun w' hS' => by (have hbb := RN.out w' hS'); (have q0 := hbb.cell 0); (have q1 := hbb.cell 1); (have q2 := hbb.cell 2); (have q3 := hbb.cell 3); (simp only [List.getElem?_toArray, List.getElem?_cons_succ, List.getElem?_cons_zero] at q0 q1 q2 q3); (first | rfl | go_simp)⟩) hHeld rfl ?_
  try simp only [Act.put, List.setIfInBounds_toArray, List.set_cons_zero, List.set_cons_succ]
  refine wpAnyH_ready (rs := [2]) (by kernel_rfl) (by simp) ?_
  refine AllReadyH.cons rfl (fun K hK => ?_) AllReadyH.nil
  try go_simp
  refine (fun_any tA tA [.int .i64 1, .string nmA, .int .i64 0, .slice none 0 0] [.int .i64 1, .string nmA, .int .i64 0, .slice none 0 0] W3.heap.size W3.drew (((Below.refl W3.heap.size W3).drew)).size (tA_at _ _) (tA_at _ _)).mono ?_
  rintro e w4 hp
  obtain ⟨x0, x1, x2, x3, rfl, htx, ox, hbx⟩ := hp.plain
  have hSw4 : Below W3.heap.size W3 w4 := ((Below.refl W3.heap.size W3).drew).trans (hbx.mono (by have := (((Below.refl W3.heap.size W3).drew)).size; omega))
  clear hp
  go_wp2_with fail
  refine hK.out _ _ hSw4 (fun hHeld => ?_)
  clear hK K
  try simp only [Act.put, List.setIfInBounds_toArray, List.set_cons_zero, List.set_cons_succ]
  refine wpAnyH_ready (rs := [5]) (by kernel_rfl) (by simp) ?_
  refine AllReadyH.cons rfl (fun K hK => ?_) AllReadyH.nil
  try go_simp
  refine (fun_any tI tI [n0, n1, n2, n3] [n0, n1, n2, n3] W3.heap.size w4 (hSw4).size (HTN.out.later hSw4) (HTN.out.later hSw4)).mono ?_
  rintro e w5 hp
  obtain ⟨y0, y1, y2, y3, rfl, hty, oy, hby⟩ := hp.plain
  have hSw5 : Below W3.heap.size W3 w5 := hSw4.trans (hby.mono (by have := (hSw4).size; omega))
  clear hp
  go_wp2_with fail
  refine hK.out _ _ hSw5 (fun hHeld => ?_)
  clear hK K
  try simp only [Act.put, List.setIfInBounds_toArray, List.set_cons_zero, List.set_cons_succ]
  refine wpAnyH_ready (rs := [6]) (by kernel_rfl) (by simp) ?_
  refine AllReadyH.cons rfl (fun K hK => ?_) AllReadyH.nil
  try go_simp
  have hSz := (hSw5).size
  refine (HHM.out w5 [x0, x1, x2, x3] [y0, y1, y2, y3] w5.heap.size (Nat.le_refl _) ((htx.later hby).more hby.size) hty).mono ?_
  rintro e w6 hpm
  obtain ⟨v1, v2, L6, he6, ho1, ho2, ht6, hb6⟩ : ∃ v1 v2 L, e = .returned (.tuple #[v1, v2, .bool true]) ∧ w6.ownsRow w5.heap.size 9 1 v1 1 [.string nmA] ∧ w6.ownsRow w5.heap.size 24 4 v2 1 L.flatten ∧ TsAt w6 w5.heap.size [tI] L ∧ Below w5.heap.size w5 w6 := by
    obtain ⟨hb, hm⟩ := hpm
    rw [mat_aw] at hm
    obtain ⟨v1, v2, L, he, h1, h2, h3⟩ := hm
    rw [vars_aw] at h1 h2 h3
    rw [tys_aw] at h3
    exact ⟨v1, v2, L, he, h1, h2, h3, hb⟩
  subst he6
  obtain ⟨A1, c1, rfl, hrd1⟩ := own_shape ho1
  obtain ⟨A2, c2, rfl, hc2a, hc2b, htys2⟩ := own_tys (l := [tI]) ho2 ht6 hb6.size
  have hS6 : Below W3.heap.size W3 w6 := (hSw5).trans (hb6.mono (by have := (hSw5).size; omega))
  clear hpm
  go_wp2_with fail
  refine hK.out _ _ hS6 (fun hHeld => ?_)
  clear hK K
  try simp only [Act.put, List.setIfInBounds_toArray, List.set_cons_zero, List.set_cons_succ]
  refine takeH' (i := 7) (d := 10) (v := .tuple #[.slice A1 1 c1, .slice A2 1 c2, .bool true]) rfl (by kernel_rfl) (by kernel_rfl) (by kernel_rfl) (fun _ _ _ h => h) (Or.inl ⟨by rfl, fun w' hS' => by (first | rfl | go_simp)⟩) hHeld rfl ?_
  try simp only [Act.put, List.setIfInBounds_toArray, List.set_cons_zero, List.set_cons_succ]
  refine takeH' (i := 8) (d := 18) (v := .slice A1 1 c1) rfl (by kernel_rfl) (by kernel_rfl) (by kernel_rfl) (fun _ _ _ h => h) (Or.inl ⟨by rfl, fun w' hS' => by (first | rfl | go_simp)⟩) hHeld rfl ?_
  try simp only [Act.put, List.setIfInBounds_toArray, List.set_cons_zero, List.set_cons_succ]
  refine takeH' (i := 9) (d := 19) (v := .slice A2 1 c2) rfl (by kernel_rfl) (by kernel_rfl) (by kernel_rfl) (fun _ _ _ h => h) (Or.inl ⟨by rfl, fun w' hS' => by (first | rfl | go_simp)⟩) hHeld rfl ?_
  try simp only [Act.put, List.setIfInBounds_toArray, List.set_cons_zero, List.set_cons_succ]
  refine takeH' (i := 10) (d := 20) (v := .bool true) rfl (by kernel_rfl) (by kernel_rfl) (by kernel_rfl) (fun _ _ _ h => h) (Or.inl ⟨by rfl, fun w' hS' => by (first | rfl | go_simp)⟩) hHeld rfl ?_
  try simp only [Act.put, List.setIfInBounds_toArray, List.set_cons_zero, List.set_cons_succ]
  refine takeH' (i := 11) (d := 3) (v := .slice A1 1 c1) rfl (by kernel_rfl) (by kernel_rfl) (by kernel_rfl) (fun _ _ _ h => h) (Or.inl ⟨by rfl, fun w' hS' => by (first | rfl | go_simp)⟩) hHeld rfl ?_
  try simp only [Act.put, List.setIfInBounds_toArray, List.set_cons_zero, List.set_cons_succ]
  refine takeH' (i := 12) (d := 4) (v := .slice A2 1 c2) rfl (by kernel_rfl) (by kernel_rfl) (by kernel_rfl) (fun _ _ _ h => h) (Or.inl ⟨by rfl, fun w' hS' => by (first | rfl | go_simp)⟩) hHeld rfl ?_
  try simp only [Act.put, List.setIfInBounds_toArray, List.set_cons_zero, List.set_cons_succ]
  refine takeH' (i := 13) (d := 5) (v := .bool true) rfl (by kernel_rfl) (by kernel_rfl) (by kernel_rfl) (fun _ _ _ h => h) (Or.inl ⟨by rfl, fun w' hS' => by (first | rfl | go_simp)⟩) hHeld rfl ?_
  try simp only [Act.put, List.setIfInBounds_toArray, List.set_cons_zero, List.set_cons_succ]
  have HS6 := Lib.hid hS6
  have HRD1 := Lib.hid hrd1
  have HTY2 := Lib.hid htys2
  clear hb6 ho1 ho2 ht6 htys2 hrd1 hS6
  refine wpAnyH_done (by kernel_rfl) ?_ _
  go_wp2_with fail
  refine wp_region_held_drew (S := fun w' => Below w6.heap.size w6 w') (by kernel_rfl) ((Below.refl w6.heap.size w6).drew) (fun hHeld => ?_)
  refine takeH' (i := 0) (d := 22) (v := .agg #[.int .i64 1, .string nmA, .int .i64 0, .slice none 0 0]) rfl (by kernel_rfl) (by kernel_rfl) (by kernel_rfl) (fun _ _ _ h => h) (Or.inl ⟨by rfl, fun w' hS' => by (have hbb := RA.out w' (HS6.out.trans (hS'.mono HS6.out.size))); (have q0 := hbb.cell 0); (have q1 := hbb.cell 1); (have q2 := hbb.cell 2); (have q3 := hbb.cell 3); (simp only [List.getElem?_toArray, List.getElem?_cons_succ, List.getElem?_cons_zero] at q0 q1 q2 q3); (first | rfl | go_simp)⟩) hHeld rfl ?_
  try simp only [Act.put, List.setIfInBounds_toArray, List.set_cons_zero, List.set_cons_succ]
  refine takeH' (i := 1) (d := 23) (v := .agg #[n0, n1, n2, n3]) rfl (by kernel_rfl) (by kernel_rfl) (by kernel_rfl) (fun _ _ _ h => h) (Or.inl ⟨by rfl, fun w' hS' => by (have hbb := RN.out w' (HS6.out.trans (hS'.mono HS6.out.size))); (have q0 := hbb.cell 0); (have q1 := hbb.cell 1); (have q2 := hbb.cell 2); (have q3 := hbb.cell 3); (simp only [List.getElem?_toArray, List.getElem?_cons_succ, List.getElem?_cons_zero] at q0 q1 q2 q3); (first | rfl | go_simp)⟩) hHeld rfl ?_
  try simp only [Act.put, List.setIfInBounds_toArray, List.set_cons_zero, List.set_cons_succ]
  refine takeH' (i := 2) (d := 24) (v := .agg #[.int .i64 1, .string nmA, .int .i64 0, .slice none 0 0]) rfl (by kernel_rfl) (by kernel_rfl) (by kernel_rfl) (fun _ _ _ h => h) (Or.inl ⟨by rfl, fun w' hS' => by (have hbb := RA.out w' (HS6.out.trans (hS'.mono HS6.out.size))); (have q0 := hbb.cell 0); (have q1 := hbb.cell 1); (have q2 := hbb.cell 2); (have q3 := hbb.cell 3); (simp only [List.getElem?_toArray, List.getElem?_cons_succ, List.getElem?_cons_zero] at q0 q1 q2 q3); (first | rfl | go_simp)⟩) hHeld rfl ?_
  try simp only [Act.put, List.setIfInBounds_toArray, List.set_cons_zero, List.set_cons_succ]
  refine wpAnyH_ready (rs := [3, 9]) (by kernel_rfl) (by simp) ?_
  refine AllReadyH.cons rfl (fun K hK => ?_) (AllReadyH.cons rfl (fun K hK => ?_) AllReadyH.nil)
  · try go_simp
    refine (fun_any tI tA [n0, n1, n2, n3] [.int .i64 1, .string nmA, .int .i64 0, .slice none 0 0] W3.heap.size (w6.drew) (by have := HS6.out.size; have := (((Below.refl w6.heap.size w6).drew)).size; omega) (HTN.out.later (HS6.out.trans ((((Below.refl w6.heap.size w6).drew)).mono HS6.out.size))) (tA_at _ _)).mono ?_
    rintro e w7 hp
    obtain ⟨z0, z1, z2, z3, rfl, htz, oz, hbn⟩ := hp.plain
    have hSw7 : Below w6.heap.size w6 w7 := (((Below.refl w6.heap.size w6).drew)).trans (hbn.mono (by have := (((Below.refl w6.heap.size w6).drew)).size; omega))
    go_wp2_with fail
    refine hK.out _ _ hSw7 (fun hHeld => ?_)
    clear hK K
    try simp only [Act.put, List.setIfInBounds_toArray, List.set_cons_zero, List.set_cons_succ]
    refine wpAnyH_ready (rs := [4, 9]) (by kernel_rfl) (by simp) ?_
    refine AllReadyH.cons rfl (fun K hK => ?_) (AllReadyH.cons rfl (fun K hK => ?_) AllReadyH.nil)
    · try go_simp
      refine (fun_any tA (fT tI tA) [.int .i64 1, .string nmA, .int .i64 0, .slice none 0 0] [z0, z1, z2, z3] (w7).heap.size (w7) (Nat.le_refl _) (tA_at _ _) htz).mono ?_
      rintro e w8 hp
      obtain ⟨u0, u1, u2, u3, rfl, htu, ou, hbn⟩ := hp.plain
      have hSw8 : Below w6.heap.size w6 w8 := (hSw7).trans (hbn.mono (by have := (hSw7).size; omega))
      go_wp2_with fail
      refine hK.out _ _ hSw8 (fun hHeld => ?_)
      clear hK K
      try simp only [Act.put, List.setIfInBounds_toArray, List.set_cons_zero, List.set_cons_succ]
      refine wpAnyH_ready (rs := [5, 9]) (by kernel_rfl) (by simp) ?_
      refine AllReadyH.cons rfl (fun K hK => ?_) (AllReadyH.cons rfl (fun K hK => ?_) AllReadyH.nil)
      · try go_simp
        refine (pargs_any args_aw (by simp) (w8).heap.size (w8) [u0, u1, u2, u3] (Nat.le_refl _) htu).mono ?_
        rintro e w9 hp
        obtain ⟨v9, cs9, L9, rfl, hown9, hts9, hty9, hbn⟩ := hp
        obtain ⟨r0, r1, r2, r3, rfl⟩ := four_of (TyAt.four hty9)
        obtain ⟨A9, c9, rfl, _⟩ := own_shape4 hown9
        have or9 := ty_ones hty9
        have hSw9 : Below w6.heap.size w6 w9 := (hSw8).trans (hbn.mono (by have := (hSw8).size; omega))
        go_wp2_with fail
        refine hK.out _ _ hSw9 (fun hHeld => ?_)
        clear hK K
        try simp only [Act.put, List.setIfInBounds_toArray, List.set_cons_zero, List.set_cons_succ]
        refine takeH' (i := 6) (d := 21) (v := .tuple #[.slice A9 2 c9, .agg #[r0, r1, r2, r3]]) rfl (by kernel_rfl) (by kernel_rfl) (by kernel_rfl) (fun _ _ _ h => h) (Or.inl ⟨by rfl, fun w' hS' => by (first | rfl | go_simp)⟩) hHeld rfl ?_
        try simp only [Act.put, List.setIfInBounds_toArray, List.set_cons_zero, List.set_cons_succ]
        refine takeH' (i := 7) (d := 28) (v := .slice A9 2 c9) rfl (by kernel_rfl) (by kernel_rfl) (by kernel_rfl) (fun _ _ _ h => h) (Or.inl ⟨by rfl, fun w' hS' => by (first | rfl | go_simp)⟩) hHeld rfl ?_
        try simp only [Act.put, List.setIfInBounds_toArray, List.set_cons_zero, List.set_cons_succ]
        refine takeH' (i := 8) (d := 29) (v := .agg #[r0, r1, r2, r3]) rfl (by kernel_rfl) (by kernel_rfl) (by kernel_rfl) (fun _ _ _ h => h) (Or.inl ⟨by rfl, fun w' hS' => by (first | rfl | go_simp)⟩) hHeld rfl ?_
        try simp only [Act.put, List.setIfInBounds_toArray, List.set_cons_zero, List.set_cons_succ]
        refine wpAnyH_ready (rs := [9]) (by kernel_rfl) (by simp) ?_
        refine AllReadyH.cons rfl (fun K hK => ?_) AllReadyH.nil
        try go_simp
        obtain ⟨w10, hww10⟩ : ∃ x, World.alloc (w9) (.cells #[.int .i64 0, .string ⟨#[]⟩, .int .i64 0, .slice none 0 0] 24) = x := ⟨_, rfl⟩
        have hal : Below (w9).heap.size (w9) w10 := by rw [← hww10]; exact (Below.refl _ _).alloc (Nat.le_refl _) _
        have hBL : Blk w10 (w9).heap.size 24 zTy := by rw [← hww10]; exact Blk.new _ _ _
        have hBG : w6.heap.size ≤ (w9).heap.size := (hSw9).size
        obtain ⟨pb, hpb⟩ : ∃ pb, (w9).heap.size = pb := ⟨_, rfl⟩
        rw [hpb] at hBL hBG
        have hSw10 : Below w6.heap.size w6 w10 := (hSw9).trans (hal.mono (hSw9).size)
        try rw [hww10]
        try rw [hpb]
        clear hww10
        refine hK.out _ _ hSw10 (fun hHeld => ?_)
        clear hK K
        try simp only [Act.put, List.setIfInBounds_toArray, List.set_cons_zero, List.set_cons_succ]
        refine takeH' (i := 10) (d := 6) (v := .slice A9 2 c9) rfl (by kernel_rfl) (by kernel_rfl) (by kernel_rfl) (fun _ _ _ h => h) (Or.inl ⟨by rfl, fun w' hS' => by (first | rfl | go_simp)⟩) hHeld rfl ?_
        try simp only [Act.put, List.setIfInBounds_toArray, List.set_cons_zero, List.set_cons_succ]
        have bc0 := hBL.cell 0
        have bc1 := hBL.cell 1
        have bc2 := hBL.cell 2
        have bc3 := hBL.cell 3
        simp only [zTy, List.getElem?_toArray, List.getElem?_cons_succ, List.getElem?_cons_zero] at bc0 bc1 bc2 bc3
        have bf0 := hBL.frozen 0
        have bf1 := hBL.frozen 1
        have bf2 := hBL.frozen 2
        have bf3 := hBL.frozen 3
        have sr0 := store_one' r0 (or9 r0 (by simp))
        have sr1 := store_one' r1 (or9 r1 (by simp))
        have sr2 := store_one' r2 (or9 r2 (by simp))
        have sr3 := store_one' r3 (or9 r3 (by simp))
        refine wpAnyH_ready (rs := [11]) (by kernel_rfl) (by simp) ?_
        refine AllReadyH.cons rfl (fun K hK => ?_) AllReadyH.nil
        go_simp
        have hSF : Below w6.heap.size w6 (put4 (w10) pb r0 r1 r2 r3) := below_put4 (hSw10) hBG r0 r1 r2 r3
        refine hK.out _ _ hSF (fun hHeld => ?_)
        clear hK K
        try simp only [Act.put, List.setIfInBounds_toArray, List.set_cons_zero, List.set_cons_succ]
        refine wpAnyH_done (by kernel_rfl) ?_ _
        obtain ⟨ad, hA1, _, hl1, hc1⟩ := nm_at (ss := [nmA]) (HRD1.out.below hSF) (show 0 < 1 by omega)
        have hc1' : (put4 (w10) pb r0 r1 r2 r3).cell? ad = some (.string nmA) := hc1
        obtain ⟨g2, o2, t0, t1, t2, t3, hA2, _, j0, j1, j2, j3, htt⟩ := (HTY2.out.later hSF).at_ (i := 0) (by simp)
        obtain ⟨_, e1, _⟩ := ty_kind htt
        simp only [Nat.zero_mul, Nat.add_zero, List.getElem_cons_zero, Ty.nm] at j1 e1
        rw [e1] at j1
        subst hA1 hA2
        have HSF := Lib.hid hSF
        clear hSF htt hc1 j0 j2 j3
        go_wp2_with (go_at_call 32; (with_reducible refine (C9.out _).mono ?_); rintro e wl ⟨rfl, hbl⟩)
        go_ret
        exact ⟨rfl, (HB3.out.trans (HS6.out.mono HB3.out.size)).trans ((HSF.out.trans (hbl.mono HSF.out.size)).mono (Nat.le_trans HB3.out.size HS6.out.size))⟩
      · try go_simp
        obtain ⟨w9, hww9⟩ : ∃ x, World.alloc (w8) (.cells #[.int .i64 0, .string ⟨#[]⟩, .int .i64 0, .slice none 0 0] 24) = x := ⟨_, rfl⟩
        have hal : Below (w8).heap.size (w8) w9 := by rw [← hww9]; exact (Below.refl _ _).alloc (Nat.le_refl _) _
        have hBL : Blk w9 (w8).heap.size 24 zTy := by rw [← hww9]; exact Blk.new _ _ _
        have hBG : w6.heap.size ≤ (w8).heap.size := (hSw8).size
        obtain ⟨pb, hpb⟩ : ∃ pb, (w8).heap.size = pb := ⟨_, rfl⟩
        rw [hpb] at hBL hBG
        have hSw9 : Below w6.heap.size w6 w9 := (hSw8).trans (hal.mono (hSw8).size)
        have htu := (htu.later hal).more hal.size
        try rw [hww9]
        try rw [hpb]
        clear hww9
        refine hK.out _ _ hSw9 (fun hHeld => ?_)
        clear hK K
        try simp only [Act.put, List.setIfInBounds_toArray, List.set_cons_zero, List.set_cons_succ]
        refine wpAnyH_ready (rs := [5]) (by kernel_rfl) (by simp) ?_
        refine AllReadyH.cons rfl (fun K hK => ?_) AllReadyH.nil
        try go_simp
        refine (pargs_any args_aw (by simp) (w9).heap.size (w9) [u0, u1, u2, u3] (Nat.le_refl _) htu).mono ?_
        rintro e w10 hp
        obtain ⟨v9, cs9, L9, rfl, hown9, hts9, hty9, hbn⟩ := hp
        obtain ⟨r0, r1, r2, r3, rfl⟩ := four_of (TyAt.four hty9)
        obtain ⟨A9, c9, rfl, _⟩ := own_shape4 hown9
        have or9 := ty_ones hty9
        have hSw10 : Below w6.heap.size w6 w10 := (hSw9).trans (hbn.mono (by have := (hSw9).size; omega))
        have hBL := hBL.below hbn hBL.lt
        go_wp2_with fail
        refine hK.out _ _ hSw10 (fun hHeld => ?_)
        clear hK K
        try simp only [Act.put, List.setIfInBounds_toArray, List.set_cons_zero, List.set_cons_succ]
        refine takeH' (i := 6) (d := 21) (v := .tuple #[.slice A9 2 c9, .agg #[r0, r1, r2, r3]]) rfl (by kernel_rfl) (by kernel_rfl) (by kernel_rfl) (fun _ _ _ h => h) (Or.inl ⟨by rfl, fun w' hS' => by (first | rfl | go_simp)⟩) hHeld rfl ?_
        try simp only [Act.put, List.setIfInBounds_toArray, List.set_cons_zero, List.set_cons_succ]
        refine takeH' (i := 7) (d := 28) (v := .slice A9 2 c9) rfl (by kernel_rfl) (by kernel_rfl) (by kernel_rfl) (fun _ _ _ h => h) (Or.inl ⟨by rfl, fun w' hS' => by (first | rfl | go_simp)⟩) hHeld rfl ?_
        try simp only [Act.put, List.setIfInBounds_toArray, List.set_cons_zero, List.set_cons_succ]
        refine takeH' (i := 8) (d := 29) (v := .agg #[r0, r1, r2, r3]) rfl (by kernel_rfl) (by kernel_rfl) (by kernel_rfl) (fun _ _ _ h => h) (Or.inl ⟨by rfl, fun w' hS' => by (first | rfl | go_simp)⟩) hHeld rfl ?_
        try simp only [Act.put, List.setIfInBounds_toArray, List.set_cons_zero, List.set_cons_succ]
        refine takeH' (i := 10) (d := 6) (v := .slice A9 2 c9) rfl (by kernel_rfl) (by kernel_rfl) (by kernel_rfl) (fun _ _ _ h => h) (Or.inl ⟨by rfl, fun w' hS' => by (first | rfl | go_simp)⟩) hHeld rfl ?_
        try simp only [Act.put, List.setIfInBounds_toArray, List.set_cons_zero, List.set_cons_succ]
        have bc0 := hBL.cell 0
        have bc1 := hBL.cell 1
        have bc2 := hBL.cell 2
        have bc3 := hBL.cell 3
        simp only [zTy, List.getElem?_toArray, List.getElem?_cons_succ, List.getElem?_cons_zero] at bc0 bc1 bc2 bc3
        have bf0 := hBL.frozen 0
        have bf1 := hBL.frozen 1
        have bf2 := hBL.frozen 2
        have bf3 := hBL.frozen 3
        have sr0 := store_one' r0 (or9 r0 (by simp))
        have sr1 := store_one' r1 (or9 r1 (by simp))
        have sr2 := store_one' r2 (or9 r2 (by simp))
        have sr3 := store_one' r3 (or9 r3 (by simp))
        refine wpAnyH_ready (rs := [11]) (by kernel_rfl) (by simp) ?_
        refine AllReadyH.cons rfl (fun K hK => ?_) AllReadyH.nil
        go_simp
        have hSF : Below w6.heap.size w6 (put4 (w10) pb r0 r1 r2 r3) := below_put4 (hSw10) hBG r0 r1 r2 r3
        refine hK.out _ _ hSF (fun hHeld => ?_)
        clear hK K
        try simp only [Act.put, List.setIfInBounds_toArray, List.set_cons_zero, List.set_cons_succ]
        refine wpAnyH_done (by kernel_rfl) ?_ _
        obtain ⟨ad, hA1, _, hl1, hc1⟩ := nm_at (ss := [nmA]) (HRD1.out.below hSF) (show 0 < 1 by omega)
        have hc1' : (put4 (w10) pb r0 r1 r2 r3).cell? ad = some (.string nmA) := hc1
        obtain ⟨g2, o2, t0, t1, t2, t3, hA2, _, j0, j1, j2, j3, htt⟩ := (HTY2.out.later hSF).at_ (i := 0) (by simp)
        obtain ⟨_, e1, _⟩ := ty_kind htt
        simp only [Nat.zero_mul, Nat.add_zero, List.getElem_cons_zero, Ty.nm] at j1 e1
        rw [e1] at j1
        subst hA1 hA2
        have HSF := Lib.hid hSF
        clear hSF htt hc1 j0 j2 j3
        go_wp2_with (go_at_call 32; (with_reducible refine (C9.out _).mono ?_); rintro e wl ⟨rfl, hbl⟩)
        go_ret
        exact ⟨rfl, (HB3.out.trans (HS6.out.mono HB3.out.size)).trans ((HSF.out.trans (hbl.mono HSF.out.size)).mono (Nat.le_trans HB3.out.size HS6.out.size))⟩
    · try go_simp
      obtain ⟨w8, hww8⟩ : ∃ x, World.alloc (w7) (.cells #[.int .i64 0, .string ⟨#[]⟩, .int .i64 0, .slice none 0 0] 24) = x := ⟨_, rfl⟩
      have hal : Below (w7).heap.size (w7) w8 := by rw [← hww8]; exact (Below.refl _ _).alloc (Nat.le_refl _) _
      have hBL : Blk w8 (w7).heap.size 24 zTy := by rw [← hww8]; exact Blk.new _ _ _
      have hBG : w6.heap.size ≤ (w7).heap.size := (hSw7).size
      obtain ⟨pb, hpb⟩ : ∃ pb, (w7).heap.size = pb := ⟨_, rfl⟩
      rw [hpb] at hBL hBG
      have hSw8 : Below w6.heap.size w6 w8 := (hSw7).trans (hal.mono (hSw7).size)
      have htz := (htz.later hal).more hal.size
      try rw [hww8]
      try rw [hpb]
      clear hww8
      refine hK.out _ _ hSw8 (fun hHeld => ?_)
      clear hK K
      try simp only [Act.put, List.setIfInBounds_toArray, List.set_cons_zero, List.set_cons_succ]
      refine wpAnyH_ready (rs := [4]) (by kernel_rfl) (by simp) ?_
      refine AllReadyH.cons rfl (fun K hK => ?_) AllReadyH.nil
      try go_simp
      refine (fun_any tA (fT tI tA) [.int .i64 1, .string nmA, .int .i64 0, .slice none 0 0] [z0, z1, z2, z3] (w8).heap.size (w8) (Nat.le_refl _) (tA_at _ _) htz).mono ?_
      rintro e w9 hp
      obtain ⟨u0, u1, u2, u3, rfl, htu, ou, hbn⟩ := hp.plain
      have hSw9 : Below w6.heap.size w6 w9 := (hSw8).trans (hbn.mono (by have := (hSw8).size; omega))
      have hBL := hBL.below hbn hBL.lt
      go_wp2_with fail
      refine hK.out _ _ hSw9 (fun hHeld => ?_)
      clear hK K
      try simp only [Act.put, List.setIfInBounds_toArray, List.set_cons_zero, List.set_cons_succ]
      refine wpAnyH_ready (rs := [5]) (by kernel_rfl) (by simp) ?_
      refine AllReadyH.cons rfl (fun K hK => ?_) AllReadyH.nil
      try go_simp
      refine (pargs_any args_aw (by simp) (w9).heap.size (w9) [u0, u1, u2, u3] (Nat.le_refl _) htu).mono ?_
      rintro e w10 hp
      obtain ⟨v9, cs9, L9, rfl, hown9, hts9, hty9, hbn⟩ := hp
      obtain ⟨r0, r1, r2, r3, rfl⟩ := four_of (TyAt.four hty9)
      obtain ⟨A9, c9, rfl, _⟩ := own_shape4 hown9
      have or9 := ty_ones hty9
      have hSw10 : Below w6.heap.size w6 w10 := (hSw9).trans (hbn.mono (by have := (hSw9).size; omega))
      have hBL := hBL.below hbn hBL.lt
      go_wp2_with fail
      refine hK.out _ _ hSw10 (fun hHeld => ?_)
      clear hK K
      try simp only [Act.put, List.setIfInBounds_toArray, List.set_cons_zero, List.set_cons_succ]
      refine takeH' (i := 6) (d := 21) (v := .tuple #[.slice A9 2 c9, .agg #[r0, r1, r2, r3]]) rfl (by kernel_rfl) (by kernel_rfl) (by kernel_rfl) (fun _ _ _ h => h) (Or.inl ⟨by rfl, fun w' hS' => by (first | rfl | go_simp)⟩) hHeld rfl ?_
      try simp only [Act.put, List.setIfInBounds_toArray, List.set_cons_zero, List.set_cons_succ]
      refine takeH' (i := 7) (d := 28) (v := .slice A9 2 c9) rfl (by kernel_rfl) (by kernel_rfl) (by kernel_rfl) (fun _ _ _ h => h) (Or.inl ⟨by rfl, fun w' hS' => by (first | rfl | go_simp)⟩) hHeld rfl ?_
      try simp only [Act.put, List.setIfInBounds_toArray, List.set_cons_zero, List.set_cons_succ]
      refine takeH' (i := 8) (d := 29) (v := .agg #[r0, r1, r2, r3]) rfl (by kernel_rfl) (by kernel_rfl) (by kernel_rfl) (fun _ _ _ h => h) (Or.inl ⟨by rfl, fun w' hS' => by (first | rfl | go_simp)⟩) hHeld rfl ?_
      try simp only [Act.put, List.setIfInBounds_toArray, List.set_cons_zero, List.set_cons_succ]
      refine takeH' (i := 10) (d := 6) (v := .slice A9 2 c9) rfl (by kernel_rfl) (by kernel_rfl) (by kernel_rfl) (fun _ _ _ h => h) (Or.inl ⟨by rfl, fun w' hS' => by (first | rfl | go_simp)⟩) hHeld rfl ?_
      try simp only [Act.put, List.setIfInBounds_toArray, List.set_cons_zero, List.set_cons_succ]
      have bc0 := hBL.cell 0
      have bc1 := hBL.cell 1
      have bc2 := hBL.cell 2
      have bc3 := hBL.cell 3
      simp only [zTy, List.getElem?_toArray, List.getElem?_cons_succ, List.getElem?_cons_zero] at bc0 bc1 bc2 bc3
      have bf0 := hBL.frozen 0
      have bf1 := hBL.frozen 1
      have bf2 := hBL.frozen 2
      have bf3 := hBL.frozen 3
      have sr0 := store_one' r0 (or9 r0 (by simp))
      have sr1 := store_one' r1 (or9 r1 (by simp))
      have sr2 := store_one' r2 (or9 r2 (by simp))
      have sr3 := store_one' r3 (or9 r3 (by simp))
      refine wpAnyH_ready (rs := [11]) (by kernel_rfl) (by simp) ?_
      refine AllReadyH.cons rfl (fun K hK => ?_) AllReadyH.nil
      go_simp
      have hSF : Below w6.heap.size w6 (put4 (w10) pb r0 r1 r2 r3) := below_put4 (hSw10) hBG r0 r1 r2 r3
      refine hK.out _ _ hSF (fun hHeld => ?_)
      clear hK K
      try simp only [Act.put, List.setIfInBounds_toArray, List.set_cons_zero, List.set_cons_succ]
      refine wpAnyH_done (by kernel_rfl) ?_ _
      obtain ⟨ad, hA1, _, hl1, hc1⟩ := nm_at (ss := [nmA]) (HRD1.out.below hSF) (show 0 < 1 by omega)
      have hc1' : (put4 (w10) pb r0 r1 r2 r3).cell? ad = some (.string nmA) := hc1
      obtain ⟨g2, o2, t0, t1, t2, t3, hA2, _, j0, j1, j2, j3, htt⟩ := (HTY2.out.later hSF).at_ (i := 0) (by simp)
      obtain ⟨_, e1, _⟩ := ty_kind htt
      simp only [Nat.zero_mul, Nat.add_zero, List.getElem_cons_zero, Ty.nm] at j1 e1
      rw [e1] at j1
      subst hA1 hA2
      have HSF := Lib.hid hSF
      clear hSF htt hc1 j0 j2 j3
      go_wp2_with (go_at_call 32; (with_reducible refine (C9.out _).mono ?_); rintro e wl ⟨rfl, hbl⟩)
      go_ret
      exact ⟨rfl, (HB3.out.trans (HS6.out.mono HB3.out.size)).trans ((HSF.out.trans (hbl.mono HSF.out.size)).mono (Nat.le_trans HB3.out.size HS6.out.size))⟩
  · try go_simp
    obtain  ⟨w7, hww7⟩ : ∃ x, World.drew (World.alloc w6 (.cells #[.int .i64 0, .string ⟨#[]⟩, .int .i64 0, .slice none 0 0] 24)) = x := ⟨_, rfl⟩
    have hal : Below w6.heap.size w6 w7 := by rw [← hww7]; exact ((Below.refl _ _).alloc (Nat.le_refl _) _).drew
    have hBL : Blk w7 w6.heap.size 24 zTy := by rw [← hww7]; exact Blk.new _ _ _
    have hBG : w6.heap.size ≤ w6.heap.size := Nat.le_refl _
    obtain ⟨pb, hpb⟩ : ∃ pb, w6.heap.size = pb := ⟨_, rfl⟩
    have hBL := hpb ▸ hBL
    have hBG : w6.heap.size ≤ pb := by omega
    have hSw7 : Below w6.heap.size w6 w7 := hal
    try rw [hww7]
    try rw [hpb]
    clear hww7
    refine hK.out _ _ hSw7 (fun hHeld => ?_)
    clear hK K
    try simp only [Act.put, List.setIfInBounds_toArray, List.set_cons_zero, List.set_cons_succ]
    refine wpAnyH_ready (rs := [3]) (by kernel_rfl) (by simp) ?_
    refine AllReadyH.cons rfl (fun K hK => ?_) AllReadyH.nil
    try go_simp
    refine (fun_any tI tA [n0, n1, n2, n3] [.int .i64 1, .string nmA, .int .i64 0, .slice none 0 0] W3.heap.size (w7) (by have := HS6.out.size; have := (hSw7).size; omega) (HTN.out.later (HS6.out.trans ((hSw7).mono HS6.out.size))) (tA_at _ _)).mono ?_
    rintro e w8 hp
    obtain ⟨z0, z1, z2, z3, rfl, htz, oz, hbn⟩ := hp.plain
    have hSw8 : Below w6.heap.size w6 w8 := (hSw7).trans (hbn.mono (by have := (hSw7).size; omega))
    have hBL := hBL.below hbn hBL.lt
    go_wp2_with fail
    refine hK.out _ _ hSw8 (fun hHeld => ?_)
    clear hK K
    try simp only [Act.put, List.setIfInBounds_toArray, List.set_cons_zero, List.set_cons_succ]
    refine wpAnyH_ready (rs := [4]) (by kernel_rfl) (by simp) ?_
    refine AllReadyH.cons rfl (fun K hK => ?_) AllReadyH.nil
    try go_simp
    refine (fun_any tA (fT tI tA) [.int .i64 1, .string nmA, .int .i64 0, .slice none 0 0] [z0, z1, z2, z3] (w8).heap.size (w8) (Nat.le_refl _) (tA_at _ _) htz).mono ?_
    rintro e w9 hp
    obtain ⟨u0, u1, u2, u3, rfl, htu, ou, hbn⟩ := hp.plain
    have hSw9 : Below w6.heap.size w6 w9 := (hSw8).trans (hbn.mono (by have := (hSw8).size; omega))
    have hBL := hBL.below hbn hBL.lt
    go_wp2_with fail
    refine hK.out _ _ hSw9 (fun hHeld => ?_)
    clear hK K
    try simp only [Act.put, List.setIfInBounds_toArray, List.set_cons_zero, List.set_cons_succ]
    refine wpAnyH_ready (rs := [5]) (by kernel_rfl) (by simp) ?_
    refine AllReadyH.cons rfl (fun K hK => ?_) AllReadyH.nil
    try go_simp
    refine (pargs_any args_aw (by simp) (w9).heap.size (w9) [u0, u1, u2, u3] (Nat.le_refl _) htu).mono ?_
    rintro e w10 hp
    obtain ⟨v9, cs9, L9, rfl, hown9, hts9, hty9, hbn⟩ := hp
    obtain ⟨r0, r1, r2, r3, rfl⟩ := four_of (TyAt.four hty9)
    obtain ⟨A9, c9, rfl, _⟩ := own_shape4 hown9
    have or9 := ty_ones hty9
    have hSw10 : Below w6.heap.size w6 w10 := (hSw9).trans (hbn.mono (by have := (hSw9).size; omega))
    have hBL := hBL.below hbn hBL.lt
    go_wp2_with fail
    refine hK.out _ _ hSw10 (fun hHeld => ?_)
    clear hK K
    try simp only [Act.put, List.setIfInBounds_toArray, List.set_cons_zero, List.set_cons_succ]
    refine takeH' (i := 6) (d := 21) (v := .tuple #[.slice A9 2 c9, .agg #[r0, r1, r2, r3]]) rfl (by kernel_rfl) (by kernel_rfl) (by kernel_rfl) (fun _ _ _ h => h) (Or.inl ⟨by rfl, fun w' hS' => by (first | rfl | go_simp)⟩) hHeld rfl ?_
    try simp only [Act.put, List.setIfInBounds_toArray, List.set_cons_zero, List.set_cons_succ]
    refine takeH' (i := 7) (d := 28) (v := .slice A9 2 c9) rfl (by kernel_rfl) (by kernel_rfl) (by kernel_rfl) (fun _ _ _ h => h) (Or.inl ⟨by rfl, fun w' hS' => by (first | rfl | go_simp)⟩) hHeld rfl ?_
    try simp only [Act.put, List.setIfInBounds_toArray, List.set_cons_zero, List.set_cons_succ]
    refine takeH' (i := 8) (d := 29) (v := .agg #[r0, r1, r2, r3]) rfl (by kernel_rfl) (by kernel_rfl) (by kernel_rfl) (fun _ _ _ h => h) (Or.inl ⟨by rfl, fun w' hS' => by (first | rfl | go_simp)⟩) hHeld rfl ?_
    try simp only [Act.put, List.setIfInBounds_toArray, List.set_cons_zero, List.set_cons_succ]
    refine takeH' (i := 10) (d := 6) (v := .slice A9 2 c9) rfl (by kernel_rfl) (by kernel_rfl) (by kernel_rfl) (fun _ _ _ h => h) (Or.inl ⟨by rfl, fun w' hS' => by (first | rfl | go_simp)⟩) hHeld rfl ?_
    try simp only [Act.put, List.setIfInBounds_toArray, List.set_cons_zero, List.set_cons_succ]
    have bc0 := hBL.cell 0
    have bc1 := hBL.cell 1
    have bc2 := hBL.cell 2
    have bc3 := hBL.cell 3
    simp only [zTy, List.getElem?_toArray, List.getElem?_cons_succ, List.getElem?_cons_zero] at bc0 bc1 bc2 bc3
    have bf0 := hBL.frozen 0
    have bf1 := hBL.frozen 1
    have bf2 := hBL.frozen 2
    have bf3 := hBL.frozen 3
    have sr0 := store_one' r0 (or9 r0 (by simp))
    have sr1 := store_one' r1 (or9 r1 (by simp))
    have sr2 := store_one' r2 (or9 r2 (by simp))
    have sr3 := store_one' r3 (or9 r3 (by simp))
    refine wpAnyH_ready (rs := [11]) (by kernel_rfl) (by simp) ?_
    refine AllReadyH.cons rfl (fun K hK => ?_) AllReadyH.nil
    go_simp
    have hSF : Below w6.heap.size w6 (put4 (w10) pb r0 r1 r2 r3) := below_put4 (hSw10) hBG r0 r1 r2 r3
    refine hK.out _ _ hSF (fun hHeld => ?_)
    clear hK K
    try simp only [Act.put, List.setIfInBounds_toArray, List.set_cons_zero, List.set_cons_succ]
    refine wpAnyH_done (by kernel_rfl) ?_ _
    obtain ⟨ad, hA1, _, hl1, hc1⟩ := nm_at (ss := [nmA]) (HRD1.out.below hSF) (show 0 < 1 by omega)
    have hc1' : (put4 (w10) pb r0 r1 r2 r3).cell? ad = some (.string nmA) := hc1
    obtain ⟨g2, o2, t0, t1, t2, t3, hA2, _, j0, j1, j2, j3, htt⟩ := (HTY2.out.later hSF).at_ (i := 0) (by simp)
    obtain ⟨_, e1, _⟩ := ty_kind htt
    simp only [Nat.zero_mul, Nat.add_zero, List.getElem_cons_zero, Ty.nm] at j1 e1
    rw [e1] at j1
    subst hA1 hA2
    have HSF := Lib.hid hSF
    clear hSF htt hc1 j0 j2 j3
    go_wp2_with (go_at_call 32; (with_reducible refine (C9.out _).mono ?_); rintro e wl ⟨rfl, hbl⟩)
    go_ret
    exact ⟨rfl, (HB3.out.trans (HS6.out.mono HB3.out.size)).trans ((HSF.out.trans (hbl.mono HSF.out.size)).mono (Nat.le_trans HB3.out.size HS6.out.size))⟩

end Go.Proofs.Ytgmcjnhaedfinaa
