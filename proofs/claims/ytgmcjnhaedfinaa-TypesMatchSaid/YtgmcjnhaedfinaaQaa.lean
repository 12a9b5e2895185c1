/- Walks: the document's IsFun, Args, Answer. -/
import Derived.Test.YtgmcjnhaedfinaaQpl
namespace Go.Proofs.Ytgmcjnhaedfinaa
open Go.RowKit
set_option linter.unusedVariables false
set_option linter.unusedSimpArgs false
set_option maxRecDepth 100000

theorem isfun_no {k n : Int} {nm : ByteArray} {ks : List Ty} (h : ¬ (k = 3 ∧ nmEq nm sArrow = true ∧ ks.length = 2)) : isFunT (.mk k nm n ks) = false := by
  cases hf : isFunT (.mk k nm n ks) with
  | false => rfl
  | true =>
    simp only [isFunT, Ty.k, Ty.nm, Ty.ks, Bool.and_eq_true, beq_iff_eq] at hf
    exact absurd ⟨hf.1, hf.2.1, hf.2.2⟩ h
theorem arrow_yes {nm : ByteArray} (h : nmEq nm sArrow = true) : (nm.toList == [45, 62]) = true := by
  have := nm_yes h
  rw [ByteArray.toList_eq, ByteArray.toList_eq] at this
  rw [ByteArray.toList_eq]
  exact this
theorem arrow_no {nm : ByteArray} (h : nmEq nm sArrow = false) : (nm.toList == [45, 62]) = false := by
  have := nm_no h
  rw [ByteArray.toList_eq, ByteArray.toList_eq] at this
  rw [ByteArray.toList_eq]
  exact this
set_option maxHeartbeats 1600000 in
theorem risfun_any (t : Ty) (cs : List Value) (B : Nat) (w : World) (hB : B ≤ w.heap.size) (hx : TyAt w B cs t) :
    Calls Try.prog 35 #[.agg cs.toArray] w fun e w' => e = .returned (.bool (isFunT t)) ∧ Below w.heap.size w w' := by
  cases hx with
  | @mk k n nm A c ks L hk hs hn hc hm hb hr hks =>
  have HG := Lib.hid ((Below.refl w.heap.size w).alloc (Nat.le_refl _) (.cells #[.int .i64 k, .string nm, .int .i64 n, .slice A ks.length c] 24))
  obtain ⟨l, hl⟩ : ∃ l, ks.length = l := ⟨_, rfl⟩
  have HL := Lib.hid hl
  rw [hl] at HG ⊢
  clear hr hks hc hb hl
  by_cases e1 : k = 3
  · have d1 : (k == 3) = true := by simpa using e1
    cases e2 : nmEq nm sArrow with
    | true =>
      have d2 := arrow_yes e2
      by_cases e3 : l = 2
      · have d3 : ((l : Int) == 2) = true := by simp; omega
        have HE := Lib.hid (show isFunT (.mk k nm n ks) = true by simp [isFunT, Ty.k, Ty.nm, Ty.ks, e1, e2, HL.out, e3])
        clear e1 e2 e3
        go_enter Try.func35, Try.ntmps35
        go_wp2_with fail
        go_ret
        exact ⟨ret_bool HE.out.symm, HG.out⟩
      · have d3 : ((l : Int) == 2) = false := by simp; omega
        have HE := Lib.hid (show isFunT (.mk k nm n ks) = false from isfun_no fun h => e3 (by rw [← HL.out]; exact h.2.2))
        clear e1 e2 e3
        go_enter Try.func35, Try.ntmps35
        go_wp2_with fail
        go_ret
        exact ⟨ret_bool HE.out.symm, HG.out⟩
    | false =>
      have d2 := arrow_no e2
      have HE := Lib.hid (show isFunT (.mk k nm n ks) = false from isfun_no fun h => by rw [h.2.1] at e2; cases e2)
      clear e1 e2
      go_enter Try.func35, Try.ntmps35
      go_wp2_with fail
      go_ret
      exact ⟨ret_bool HE.out.symm, HG.out⟩
  · have d1 : (k == 3) = false := by simpa using e1
    have HE := Lib.hid (show isFunT (.mk k nm n ks) = false from isfun_no fun h => e1 h.1)
    clear e1
    go_enter Try.func35, Try.ntmps35
    go_wp2_with fail
    go_ret
    exact ⟨ret_bool HE.out.symm, HG.out⟩

theorem own_less {w : World} {base base' size n : Nat} {e : TypeId} {v : Value} {xs : List Value} (h : w.ownsRow base e size v n xs) (hb : base' ≤ base) : w.ownsRow base' e size v n xs := by
  refine ⟨h.1, ?_⟩
  rcases h.2 with h0 | ⟨g, cap, cur, hv, hg, hr⟩
  · exact .inl h0
  · exact .inr ⟨g, cap, cur, hv, Nat.le_trans hb hg, hr⟩
/-- What answers a row of old types. -/
def TsPost (B : Nat) (l : List Ty) (w : World) (e : Ending) (w' : World) : Prop :=
  ∃ v L, e = .returned v ∧ w'.ownsRow w.heap.size 24 4 v l.length L.flatten ∧ TsAt w' B l L ∧ Below w.heap.size w w'
/-- The first and the second of a row, as the walk meets their cells. -/
theorem TysAt.two {w : World} {B : Nat} {A : Option Addr} {a b : Ty} {L : List (List Value)} (h : TysAt w B A [a, b] L) :
    ∃ g o c0 c1 c2 c3 d0 d1 d2 d3, A = some ⟨g, o, none⟩ ∧ g < B ∧ w.cell? ⟨g, o, none⟩ = some c0 ∧ w.cell? ⟨g, o + 1, none⟩ = some c1 ∧ w.cell? ⟨g, o + 2, none⟩ = some c2 ∧ w.cell? ⟨g, o + 3, none⟩ = some c3 ∧ TyAt w B [c0, c1, c2, c3] a ∧
      w.cell? ⟨g, o + 4, none⟩ = some d0 ∧ w.cell? ⟨g, o + 4 + 1, none⟩ = some d1 ∧ w.cell? ⟨g, o + 4 + 2, none⟩ = some d2 ∧ w.cell? ⟨g, o + 4 + 3, none⟩ = some d3 ∧ TyAt w B [d0, d1, d2, d3] b := by
  obtain ⟨g, o, c0, c1, c2, c3, e, hg, k0, k1, k2, k3, ht⟩ := h.at_ (i := 0) (by simp)
  obtain ⟨g', o', d0, d1, d2, d3, e', hg', q0, q1, q2, q3, hu⟩ := h.at_ (i := 1) (by simp)
  rw [e] at e'
  injection e' with e'
  injection e' with e1 e2
  subst e1 e2
  exact ⟨g, o, c0, c1, c2, c3, d0, d1, d2, d3, e, hg, by simpa using k0, by simpa using k1, by simpa using k2, by simpa using k3, by simpa using ht, by simpa using q0, by simpa using q1, by simpa using q2, by simpa using q3, by simpa using hu⟩

set_option maxHeartbeats 3200000 in
theorem rargs_any {t : Ty} {l : List Ty} {x : Ty} (h : ArgsR t l x) : l.length ≤ 4000000 → ∀ (B : Nat) (w : World) (cs : List Value), B ≤ w.heap.size → TyAt w B cs t →
    Calls Try.prog 11 #[.agg cs.toArray] w (TsPost B l w) := by
  induction h with
  | @stop t hf =>
    intro _ B w cs hB hx
    obtain ⟨k, nm, n, A, c, ks, rfl, rfl⟩ := ty_cells hx
    have hg := (Below.refl w.heap.size w).alloc (Nat.le_refl _) (.cells #[.int .i64 k, .string nm, .int .i64 n, .slice A ks.length c] 24)
    have C := Lib.hid (risfun_any _ [.int .i64 k, .string nm, .int .i64 n, .slice A ks.length c] B _ (by simp; omega) (hx.later (hg.mono hB)))
    rw [hf] at C
    have HG := Lib.hid hg
    clear hx hf hg
    go_enter Try.func11, Try.ntmps11
    go_wp2_with (go_at_call 35; (with_reducible refine C.out.mono ?_); rintro e w2 ⟨rfl, hb2⟩)
    go_ret
    exact ⟨_, [], rfl, World.ownsRow_nil _ _ _ _, TsAt.nil_ _ _, HG.out.trans (hb2.mono HG.out.size)⟩
  | @step k n nm a b x l hf hb ih =>
    intro hl B w cs hB hx
    cases hx with
    | @mk _ _ _ A c _ L hk hs hn hc hm hbb hr hks =>
    obtain ⟨i0, hi, hz0, hz1, hz2⟩ := info_parts ty_info
    have HI := Lib.hid hi
    have HZ0 := Lib.hid hz0
    have HZ1 := Lib.hid hz1
    have HZ2 := Lib.hid hz2
    have hx : TyAt w B [.int .i64 k, .string nm, .int .i64 n, .slice A 2 c] (.mk k nm n [a, b]) := TyAt.mk hk hs hn hc hm hbb hr hks
    obtain ⟨W1, hW1⟩ : ∃ W1, w.alloc (.cells #[.int .i64 k, .string nm, .int .i64 n, .slice A 2 c] 24) = W1 := ⟨_, rfl⟩
    have hg : Below w.heap.size w W1 := by rw [← hW1]; exact (Below.refl _ _).alloc (Nat.le_refl _) _
    have hsz : W1.heap.size = w.heap.size + 1 := by rw [← hW1]; simp
    have hbx : Blk W1 w.heap.size 24 #[.int .i64 k, .string nm, .int .i64 n, .slice A 2 c] := by rw [← hW1]; exact Blk.new _ _ _
    have C := Lib.hid (risfun_any _ [.int .i64 k, .string nm, .int .i64 n, .slice A 2 c] B W1 (by omega) (hx.later (hg.mono hB)))
    rw [hf] at C
    have HTY := Lib.hid ((TysAt.mk hr hks).later (hg.mono hB))
    have HW := Lib.hid hW1
    have HG := Lib.hid hg
    have HSZ := Lib.hid hsz
    have HBX := Lib.hid hbx
    have HIH := Lib.hid (ih (by simp at hl; omega))
    have hBz := hB
    clear hx hf hg hr hks hW1 hbx hi hz0 hz1 hz2 ih hsz hbb
    have x0 := HBX.out.cell 0
    have x1 := HBX.out.cell 1
    have x2 := HBX.out.cell 2
    have x3 := HBX.out.cell 3
    simp only [zTy, List.getElem?_toArray, List.getElem?_cons_succ, List.getElem?_cons_zero] at x0 x1 x2 x3
    go_enter Try.func11, Try.ntmps11
    go_upto_region 2 with fail
    try rw [HW.out]
    have hz := HSZ.out
    go_wp2_with (first | (go_at_call 35; (with_reducible refine C.out.mono ?_); rintro e w2 ⟨rfl, hb2⟩; (have hz2 := hb2.size); (have hB2 := HBX.out.below hb2 (by omega)); (have x3 := hB2.cell 3); (simp only [List.getElem?_toArray, List.getElem?_cons_succ, List.getElem?_cons_zero] at x3); (obtain ⟨g, o, c0, c1, c2, c3, d0, d1, d2, d3, hA, hgB, k0, k1, k2, k3, hta, q0, q1, q2, q3, htb⟩ := (HTY.out.later (hb2.mono (by omega))).two); (subst hA); (have o1 := ty_ones hta); (have sc0 := store_one' c0 (o1 c0 (by simp))); (have sc1 := store_one' c1 (o1 c1 (by simp))); (have sc2 := store_one' c2 (o1 c2 (by simp))); (have sc3 := store_one' c3 (o1 c3 (by simp)))) | (at_builtin; refine wpList_append_own _ rfl (.tmp 6) (.tmp 11) 22 rfl W1.heap.size 24 i0 (.agg #[.int .i64 0, .string ⟨#[]⟩, .int .i64 0, .slice none 0 0]) 4 56 Try.underlying22 HI.out HZ0.out HZ1.out HZ2.out rfl (by decide) (.slice none 0 0) 0 [] rfl (World.ownsRow_nil _ _ _ _) ⟨w2.heap.size, 0, none⟩ 1 1 [c0, c1, c2, c3] rfl rfl (new_cells w2 [c0, c1, c2, c3]) o1 (by unfold maxLen; omega) (by omega) (by simp; omega) ?_))
    intro v3 w3 hown3 hgrow3 _
    have hb23 : Below W1.heap.size w2 w3 := ((Below.refl _ _).alloc (by omega) _).grown hgrow3 (by simp; omega) (fun k hk => by simp [Value.ownBlock] at hk)
    have hb13 : Below W1.heap.size W1 w3 := hb2.trans hb23
    have hB3 := HBX.out.below hb13 (by omega)
    have y0 := hB3.cell 0
    have y1 := hB3.cell 1
    have y2 := hB3.cell 2
    have y3 := hB3.cell 3
    simp only [zTy, List.getElem?_toArray, List.getElem?_cons_succ, List.getElem?_cons_zero] at y0 y1 y2 y3
    have q0' := (hb23.cell (p := ⟨g, o + 4, none⟩) (by show g < _; omega)).trans q0
    have q1' := (hb23.cell (p := ⟨g, o + 4 + 1, none⟩) (by show g < _; omega)).trans q1
    have q2' := (hb23.cell (p := ⟨g, o + 4 + 2, none⟩) (by show g < _; omega)).trans q2
    have q3' := (hb23.cell (p := ⟨g, o + 4 + 3, none⟩) (by show g < _; omega)).trans q3
    have htb3 := htb.later (hb23.mono (by omega))
    have C2 := Lib.hid (HIH.out B w3 [d0, d1, d2, d3] (by have := hb13.size; omega) htb3)
    have HO3 := Lib.hid hown3
    have HX3 := Lib.hid (TsAt.one (hta.later (hb23.mono (by omega))))
    have HB13 := Lib.hid hb13
    have hz3 := hb13.size
    clear hown3 hgrow3 hb23 hb13 hta htb htb3 k0 k1 k2 k3 q0 q1 q2 q3 hB2 hb2 hB3
    go_wp2_with (first | (go_at_call 11; (with_reducible refine C2.out.mono ?_); rintro e w4 ⟨v4, L4, rfl, hown4, hx4, hb4⟩; (obtain ⟨A4, c4, rfl, hcc4, hcm4, htys4⟩ := own_tys hown4 hx4 (by have := hb4.size; omega)); (have HO4 := Lib.hid (own_kept HO3.out hb4)); (have HX4 := Lib.hid hx4); (have HT4 := Lib.hid htys4); (have HB4 := Lib.hid hb4); (have hz4 := hb4.size); clear hown4 hx4 htys4 hb4) | (at_builtin; refine wpList_append_any _ rfl (.tmp 13) (.tmp 18) 22 rfl _ 24 i0 (.agg #[.int .i64 0, .string ⟨#[]⟩, .int .i64 0, .slice none 0 0]) 4 56 Try.underlying22 HI.out HZ0.out HZ1.out HZ2.out rfl (by decide) _ _ _ rfl HO4.out w4.heap.size A4 l.length c4 L4.flatten rfl HT4.out.row.reads (ts_ones HX4.out) (by unfold maxLen; simp at hl; omega) (by simp at hl; omega) (by omega) ?_))
    intro v5 w5 hown5 hgrow5 _
    have hb45 : Below W1.heap.size w4 w5 := (Below.refl _ _).grown hgrow5 (by omega) (fun k hk => by have := own_base HO4.out k hk; omega)
    have HF := Lib.hid (show ∃ v L, v5 = v ∧ w5.ownsRow w.heap.size 24 4 v (a :: l).length L.flatten ∧ TsAt w5 B (a :: l) L ∧ Below w.heap.size w w5 from
      ⟨v5, [[c0, c1, c2, c3]] ++ L4, rfl, by
        have := own_less (base' := w.heap.size) hown5 (by omega)
        rw [List.flatten_append]
        simpa [Nat.add_comm] using this, ((HX3.out.later (HB4.out.mono (by omega))).app HX4.out).later (hb45.mono (by omega)), (HG.out.trans (HB13.out.mono (by omega))).trans ((HB4.out.mono (by omega)).trans (hb45.mono (by omega)))⟩)
    clear hown5 hgrow5 hb45
    go_wp2_with fail
    go_ret
    obtain ⟨v, L5, rfl, r1, r2, r3⟩ := HF.out
    exact ⟨_, L5, rfl, r1, r2, r3⟩

end Go.Proofs.Ytgmcjnhaedfinaa
