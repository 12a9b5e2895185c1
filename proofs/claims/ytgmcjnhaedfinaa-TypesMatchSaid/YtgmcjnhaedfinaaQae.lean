/- Walks: the document's Vars, HasInt, Metas. -/
import Derived.Test.YtgmcjnhaedfinaaQab
namespace Go.Proofs.Ytgmcjnhaedfinaa
open Go.RowKit
set_option linter.unusedVariables false
set_option linter.unusedSimpArgs false
set_option maxRecDepth 100000

abbrev intVals (l : List Int) : List Value := l.map (Value.int .i64)
theorem int_info : (Try.prog.info? 3).map (fun i => (i.zero, i.size, i.bytes)) = some (some (.int .i64 0), 1, 8) := by kernel_rfl
theorem in_len {w : World} {B n : Nat} {A : Option Addr} {ss : List Int} (h : Reads w B 1 A n (intVals ss)) : ss.length = n := by
  have := h.1
  simpa using this
theorem in_at {w : World} {B n : Nat} {A : Option Addr} {ss : List Int} (h : Reads w B 1 A n (intVals ss)) {k : Nat} (hk : k < n) :
    ∃ ad, A = some ad ∧ ad.block < B ∧ ∃ hl : k < ss.length, w.cell? (ad.add k) = some (.int .i64 ss[k]) := by
  have hl : k < ss.length := by rw [in_len h]; exact hk
  obtain ⟨ad, u, e, hb, hx, hc⟩ := h.at_ hk
  refine ⟨ad, e, hb, hl, ?_⟩
  rw [hc]
  simp [List.getElem?_map, List.getElem?_eq_getElem hl] at hx
  rw [← hx]
theorem in_oneCell (l : List Int) : ∀ u ∈ intVals l, u.oneCell' = true := by
  intro u hu
  obtain ⟨x, _, rfl⟩ := List.mem_map.1 hu
  rfl
theorem hasI_take {l : List Int} {s : Int} {k : Nat} (hk : k < l.length) (h : hasI (l.take k) s = false) (h1 : (l[k] == s) = false) : hasI (l.take (k + 1)) s = false := by
  rw [List.take_succ_eq_append_getElem hk]
  unfold hasI at *
  rw [List.any_append, h]
  simpa using h1
theorem hasI_hit {l : List Int} {s : Int} {k : Nat} (hk : k < l.length) (h1 : (l[k] == s) = true) : hasI l s = true := by
  unfold hasI
  rw [List.any_eq_true]
  exact ⟨l[k], List.getElem_mem hk, h1⟩
theorem own_shapeI {w : World} {base : Nat} {e : TypeId} {v : Value} {n : Nat} {xs : List Value} (h : w.ownsRow base e 1 v n xs) : ∃ (A : Option Addr) (c : Nat), v = .slice A n c ∧ Reads w w.heap.size 1 A n xs := by
  have hr := h.2
  rcases hr with ⟨rfl, h0⟩ | ⟨g, cap, cur, rfl, _⟩
  · subst h0
    have : xs = [] := List.eq_nil_of_length_eq_zero (by have := h.1; simpa using this)
    subst this
    exact ⟨none, 0, rfl, Reads.none_⟩
  · exact ⟨_, cap, rfl, Reads.of_own h⟩
set_option maxHeartbeats 800000 in
theorem rhasI_any (l : List Int) (s : Int) (A : Option Addr) (n c B : Nat) (w : World) (hn9 : n ≤ 9223372036854775807) (ha : Reads w B 1 A n (intVals l)) (u : Bool) (hu : Hid (hasI l s = u)) :
    Calls Try.prog 41 #[.slice A n c, .int .i64 s] w fun e w' => e = .returned (.bool u) ∧ w = w' := by
  have HL := Lib.hid (in_len ha)
  have HA := Lib.hid ha
  clear ha
  go_enter Try.func41, Try.ntmps41
  go_wp2_with fail
  go_loop [5] (fun i => ∃ k : Nat, i = .int .i64 k ∧ k ≤ n ∧ hasI (l.take k) s = false) (fun i => n - (intOf i).toNat)
  case atStart => exact ⟨0, rfl, Nat.zero_le _, rfl⟩
  case round =>
    obtain ⟨k, rfl, hk, hh⟩ := hrel
    have HH := Lib.hid hh
    clear hh
    by_cases hlt : k < n
    · obtain ⟨ad, rfl, hbl, hl, hc⟩ := in_at HA.out hlt
      obtain ⟨x, hx⟩ : ∃ x, l[k] = x := ⟨_, rfl⟩
      rw [hx] at hc
      cases hxy : (x == s)
      · have HN := Lib.hid (hasI_take hl HH.out (by rw [hx]; exact hxy))
        clear hx
        go_wp2_with fail
        go_round
        case rel => exact ⟨k + 1, by go_num, by omega, HN.out⟩
        case measure => simp [intOf]; omega
      · have HT := Lib.hid (hasI_hit hl (by rw [hx]; exact hxy))
        clear hx
        go_wp2_with fail
        go_ret
        exact ⟨ret_bool (by rw [← hu.out, HT.out]), rfl⟩
    · have HF := Lib.hid (show hasI l s = false by rw [← HH.out, List.take_of_length_le (by rw [HL.out]; omega)])
      go_wp2_with fail
      go_ret
      exact ⟨ret_bool (by rw [← hu.out, HF.out]), rfl⟩

/-- What answers a new row of names. -/
def NmPost (l : List ByteArray) (w : World) (e : Ending) (w' : World) : Prop := ∃ v, e = .returned v ∧ w'.ownsRow w.heap.size 9 1 v l.length (nmVals l) ∧ Below w.heap.size w w'
def InPost (l : List Int) (w : World) (e : Ending) (w' : World) : Prop := ∃ v, e = .returned v ∧ w'.ownsRow w.heap.size 3 1 v l.length (intVals l) ∧ Below w.heap.size w w'
theorem ty_kind {w : World} {B : Nat} {c0 c1 c2 c3 : Value} {t : Ty} (h : TyAt w B [c0, c1, c2, c3] t) : c0 = .int .i64 t.k ∧ c1 = .string t.nm ∧ c2 = .int .i64 t.n := by
  generalize hl : [c0, c1, c2, c3] = l at h
  cases h
  simp only [List.cons.injEq] at hl
  exact ⟨hl.1, hl.2.1, hl.2.2.1⟩
theorem varL_snoc {l : List Ty} {j : Nat} (hj : j < l.length) : varL (l.take (j + 1)) = varL (l.take j) ++ (if l[j].k = 1 then [l[j].nm] else []) := by
  rw [take_snoc hj, varL_app]; simp [varL]
theorem metL_snoc {l : List Ty} {j : Nat} (hj : j < l.length) : metL (l.take (j + 1)) = metL (l.take j) ++ (if l[j].k = 2 then [l[j].n] else []) := by
  rw [take_snoc hj, metL_app]; simp [metL]
set_option maxHeartbeats 6400000 in
theorem rvars_any (t : Ty) (ht9 : t.nodes ≤ 4000000) (B : Nat) (w : World) (cs : List Value) (hB : B ≤ w.heap.size) (hx : TyAt w B cs t) :
    Calls Try.prog 16 #[.agg cs.toArray] w (NmPost (varsT t) w) := by
  obtain ⟨m, hm⟩ : ∃ m, t.all.length = m := ⟨_, rfl⟩
  have hm9 : m ≤ 4000000 := by rw [← hm, all_len]; exact ht9
  obtain ⟨k, nm, n, A, c, ks, ht, rfl⟩ := ty_cells hx
  obtain ⟨W1, hW1⟩ : ∃ W1, w.alloc (.cells #[.int .i64 k, .string nm, .int .i64 n, .slice A ks.length c] 24) = W1 := ⟨_, rfl⟩
  have hg : Below w.heap.size w W1 := by rw [← hW1]; exact (Below.refl _ _).alloc (Nat.le_refl _) _
  have hbx : Blk W1 w.heap.size 24 #[.int .i64 k, .string nm, .int .i64 n, .slice A ks.length c] := by rw [← hW1]; exact Blk.new _ _ _
  have C := Lib.hid (rall_any t.nodes t (Nat.le_refl _) ht9 B W1 _ (Nat.le_trans hB hg.size) (hx.later (hg.mono hB)))
  obtain ⟨i0, hi, hz0, hz1, hz2⟩ := info_parts str_info
  have HI := Lib.hid hi
  have HZ0 := Lib.hid hz0
  have HZ1 := Lib.hid hz1
  have HZ2 := Lib.hid hz2
  clear hi hz0 hz1 hz2
  have HW := Lib.hid hW1
  have HG := Lib.hid hg
  have HM := Lib.hid hm
  have x0 := hbx.cell 0
  have x1 := hbx.cell 1
  have x2 := hbx.cell 2
  have x3 := hbx.cell 3
  simp only [zTy, List.getElem?_toArray, List.getElem?_cons_succ, List.getElem?_cons_zero] at x0 x1 x2 x3
  clear hx hg hW1 hbx hm ht9 ht
  go_enter Try.func16, Try.ntmps16
  go_upto_region 1 with fail
  rw [HW.out]
  go_wp2_with (go_at_call 21; (with_reducible refine C.out.mono ?_); rintro e w2 ⟨v2, L2, rfl, hown2, hts2, hb2⟩; (obtain ⟨A2, c2, rfl, hcc2, hcm2, htys2⟩ := own_tys hown2 hts2 (by have := hb2.size; have := HG.out.size; omega)); (rw [HM.out]); (have HA := Lib.hid htys2); (have HB2 := Lib.hid (HG.out.trans (hb2.mono HG.out.size))); clear hown2 htys2 hts2 hb2)
  go_loopw [4, 5] (fun v i wr => ∃ (j : Nat), i = .int .i64 j ∧ j ≤ m ∧ wr.ownsRow w2.heap.size 9 1 v (joinS [] (varL (t.all.take j))).length (nmVals (joinS [] (varL (t.all.take j)))) ∧ Below w2.heap.size w2 wr) (fun _ i _ => m - (intOf i).toNat)
  case atStart => exact ⟨0, rfl, Nat.zero_le _, World.ownsRow_nil _ _ _ _, Below.refl _ _⟩
  case round =>
    obtain ⟨j, rfl, hj, hown, hbe⟩ := hrel
    have hzr := hbe.size
    have HBE := Lib.hid hbe
    by_cases hlt : j < m
    · have hkx : j < t.all.length := by rw [HM.out]; exact hlt
      obtain ⟨g, o, a0, a1, a2, a3, rfl, hba, ca0, ca1, ca2, ca3, hta⟩ := (HA.out.later hbe).at_ hkx
      obtain ⟨e0, e1, e2⟩ := ty_kind hta
      have HST := Lib.hid (varL_snoc hkx)
      obtain ⟨x, hxx⟩ : ∃ x, t.all[j].nm = x := ⟨_, rfl⟩
      obtain ⟨kk, hkk⟩ : ∃ kk, t.all[j].k = kk := ⟨_, rfl⟩
      rw [hxx, hkk] at HST
      rw [hkk] at e0
      rw [hxx] at e1
      subst e0 e1 e2
      obtain ⟨acc, hacc⟩ : ∃ acc, joinS [] (varL (t.all.take j)) = acc := ⟨_, rfl⟩
      rw [hacc] at hown
      have HAC := Lib.hid hacc
      have hq9 : acc.length ≤ 4000000 := by
        have h1 := join_len (varL (t.all.take j)) []
        have h2 := varL_len (t.all.take j)
        rw [← hacc]
        simp only [List.length_nil, List.length_take] at h1 h2
        omega
      obtain ⟨q, hq⟩ : ∃ q, acc.length = q := ⟨_, rfl⟩
      rw [hq] at hown hq9
      have HQ := Lib.hid hq
      obtain ⟨A3, c3, rfl, hrd⟩ := own_shapeI hown
      have HOW := Lib.hid hown
      by_cases h1 : kk = 1
      · have d1 : (kk == 1) = true := by simpa using h1
        obtain ⟨u, hu⟩ : ∃ u, hasS acc x = u := ⟨_, rfl⟩
        have CH := Lib.hid (rhas_any acc x A3 q c3 wr.heap.size wr (by omega) hrd u (Lib.hid hu))
        have HS1 := Lib.hid (show joinS [] (varL (t.all.take (j + 1))) = if u = true then acc else acc ++ [x] by rw [HST.out, if_pos h1, joinS_app, HAC.out, joinS_one, hu])
        clear hu hxx hkk h1 hta hown hbe hrd hq hacc HST
        cases u with
        | true =>
          have HS2 := Lib.hid (show joinS [] (varL (t.all.take (j + 1))) = acc by rw [HS1.out]; simp)
          go_wp2_with (go_at_call 38; (with_reducible refine CH.out.mono ?_); rintro e w3 ⟨rfl, rfl⟩)
          go_roundw
          case rel => exact ⟨j + 1, by go_num, by omega, by rw [HS2.out, HQ.out]; exact HOW.out, HBE.out⟩
          case measure => simp [intOf]; omega
        | false =>
          have HS2 := Lib.hid (show joinS [] (varL (t.all.take (j + 1))) = acc ++ [x] by rw [HS1.out]; simp)
          go_wp2_with (first | (go_at_call 38; (with_reducible refine CH.out.mono ?_); rintro e w3 ⟨rfl, rfl⟩) | (at_builtin; refine wpList_append_own _ rfl (.tmp 30) (.tmp 36) 34 rfl w2.heap.size 9 i0 (.string ⟨#[]⟩) 1 16 Try.underlying34 HI.out HZ0.out HZ1.out HZ2.out rfl (by decide) _ _ _ rfl (HOW.out.alloc _) ⟨wr.heap.size, 0, none⟩ 1 1 [.string x] rfl rfl (one_new _ _ _) (one_is rfl) (by unfold maxLen; omega) (by omega) (by simp; omega) ?_))
          intro v' w4 hown' hgrow _
          have HN4 := Lib.hid (show w4.ownsRow w2.heap.size 9 1 v' (acc ++ [x]).length (nmVals (acc ++ [x])) by rw [List.length_append, HQ.out]; simpa using hown')
          have HB4 := Lib.hid ((HBE.out.alloc hzr _).grown hgrow (by simp; omega) (own_base HOW.out))
          clear hown' hgrow
          go_wp2_with fail
          go_roundw
          case rel => exact ⟨j + 1, by go_num, by omega, by rw [HS2.out]; exact HN4.out, HB4.out⟩
          case measure => simp [intOf]; omega
      · have d1 : (kk == 1) = false := by simpa using h1
        have HS2 := Lib.hid (show joinS [] (varL (t.all.take (j + 1))) = acc by rw [HST.out, if_neg h1, List.append_nil]; exact HAC.out)
        clear hxx hkk h1 hta hown hbe hrd hq hacc HST
        go_wp2_with fail
        go_roundw
        case rel => exact ⟨j + 1, by go_num, by omega, by rw [HS2.out, HQ.out]; exact HOW.out, HBE.out⟩
        case measure => simp [intOf]; omega
    · have h1 := own_less (base' := w.heap.size) hown HB2.out.size
      rw [List.take_of_length_le (by rw [HM.out]; omega)] at h1
      have HE := Lib.hid (And.intro h1 (HB2.out.trans (hbe.mono HB2.out.size)))
      clear h1 hown
      go_wp2_with fail
      go_ret
      exact ⟨_, rfl, HE.out.1, HE.out.2⟩
set_option maxHeartbeats 6400000 in
theorem rmetas_any (t : Ty) (ht9 : t.nodes ≤ 4000000) (B : Nat) (w : World) (cs : List Value) (hB : B ≤ w.heap.size) (hx : TyAt w B cs t) :
    Calls Try.prog 19 #[.agg cs.toArray] w (InPost (metasT t) w) := by
  obtain ⟨m, hm⟩ : ∃ m, t.all.length = m := ⟨_, rfl⟩
  have hm9 : m ≤ 4000000 := by rw [← hm, all_len]; exact ht9
  obtain ⟨k, nm, n, A, c, ks, ht, rfl⟩ := ty_cells hx
  obtain ⟨W1, hW1⟩ : ∃ W1, w.alloc (.cells #[.int .i64 k, .string nm, .int .i64 n, .slice A ks.length c] 24) = W1 := ⟨_, rfl⟩
  have hg : Below w.heap.size w W1 := by rw [← hW1]; exact (Below.refl _ _).alloc (Nat.le_refl _) _
  have hbx : Blk W1 w.heap.size 24 #[.int .i64 k, .string nm, .int .i64 n, .slice A ks.length c] := by rw [← hW1]; exact Blk.new _ _ _
  have C := Lib.hid (rall_any t.nodes t (Nat.le_refl _) ht9 B W1 _ (Nat.le_trans hB hg.size) (hx.later (hg.mono hB)))
  obtain ⟨i0, hi, hz0, hz1, hz2⟩ := info_parts int_info
  have HI := Lib.hid hi
  have HZ0 := Lib.hid hz0
  have HZ1 := Lib.hid hz1
  have HZ2 := Lib.hid hz2
  clear hi hz0 hz1 hz2
  have HW := Lib.hid hW1
  have HG := Lib.hid hg
  have HM := Lib.hid hm
  have x0 := hbx.cell 0
  have x1 := hbx.cell 1
  have x2 := hbx.cell 2
  have x3 := hbx.cell 3
  simp only [zTy, List.getElem?_toArray, List.getElem?_cons_succ, List.getElem?_cons_zero] at x0 x1 x2 x3
  clear hx hg hW1 hbx hm ht9 ht
  go_enter Try.func19, Try.ntmps19
  go_upto_region 1 with fail
  rw [HW.out]
  go_wp2_with (go_at_call 21; (with_reducible refine C.out.mono ?_); rintro e w2 ⟨v2, L2, rfl, hown2, hts2, hb2⟩; (obtain ⟨A2, c2, rfl, hcc2, hcm2, htys2⟩ := own_tys hown2 hts2 (by have := hb2.size; have := HG.out.size; omega)); (rw [HM.out]); (have HA := Lib.hid htys2); (have HB2 := Lib.hid (HG.out.trans (hb2.mono HG.out.size))); clear hown2 htys2 hts2 hb2)
  go_loopw [4, 5] (fun v i wr => ∃ (j : Nat), i = .int .i64 j ∧ j ≤ m ∧ wr.ownsRow w2.heap.size 3 1 v (joinI [] (metL (t.all.take j))).length (intVals (joinI [] (metL (t.all.take j)))) ∧ Below w2.heap.size w2 wr) (fun _ i _ => m - (intOf i).toNat)
  case atStart => exact ⟨0, rfl, Nat.zero_le _, World.ownsRow_nil _ _ _ _, Below.refl _ _⟩
  case round =>
    obtain ⟨j, rfl, hj, hown, hbe⟩ := hrel
    have hzr := hbe.size
    have HBE := Lib.hid hbe
    by_cases hlt : j < m
    · have hkx : j < t.all.length := by rw [HM.out]; exact hlt
      obtain ⟨g, o, a0, a1, a2, a3, rfl, hba, ca0, ca1, ca2, ca3, hta⟩ := (HA.out.later hbe).at_ hkx
      obtain ⟨e0, e1, e2⟩ := ty_kind hta
      have HST := Lib.hid (metL_snoc hkx)
      obtain ⟨x, hxx⟩ : ∃ x, t.all[j].n = x := ⟨_, rfl⟩
      obtain ⟨kk, hkk⟩ : ∃ kk, t.all[j].k = kk := ⟨_, rfl⟩
      rw [hxx, hkk] at HST
      rw [hkk] at e0
      rw [hxx] at e2
      subst e0 e1 e2
      obtain ⟨acc, hacc⟩ : ∃ acc, joinI [] (metL (t.all.take j)) = acc := ⟨_, rfl⟩
      rw [hacc] at hown
      have HAC := Lib.hid hacc
      have hq9 : acc.length ≤ 4000000 := by
        have h1 := joinI_len (metL (t.all.take j)) []
        have h2 := metL_len (t.all.take j)
        rw [← hacc]
        simp only [List.length_nil, List.length_take] at h1 h2
        omega
      obtain ⟨q, hq⟩ : ∃ q, acc.length = q := ⟨_, rfl⟩
      rw [hq] at hown hq9
      have HQ := Lib.hid hq
      obtain ⟨A3, c3, rfl, hrd⟩ := own_shapeI hown
      have HOW := Lib.hid hown
      by_cases h1 : kk = 2
      · have d1 : (kk == 2) = true := by simpa using h1
        obtain ⟨u, hu⟩ : ∃ u, hasI acc x = u := ⟨_, rfl⟩
        have CH := Lib.hid (rhasI_any acc x A3 q c3 wr.heap.size wr (by omega) hrd u (Lib.hid hu))
        have HS1 := Lib.hid (show joinI [] (metL (t.all.take (j + 1))) = if u = true then acc else acc ++ [x] by rw [HST.out, if_pos h1, joinI_app, HAC.out, joinI_one, hu])
        clear hu hxx hkk h1 hta hown hbe hrd hq hacc HST
        cases u with
        | true =>
          have HS2 := Lib.hid (show joinI [] (metL (t.all.take (j + 1))) = acc by rw [HS1.out]; simp)
          go_wp2_with (go_at_call 41; (with_reducible refine CH.out.mono ?_); rintro e w3 ⟨rfl, rfl⟩)
          go_roundw
          case rel => exact ⟨j + 1, by go_num, by omega, by rw [HS2.out, HQ.out]; exact HOW.out, HBE.out⟩
          case measure => simp [intOf]; omega
        | false =>
          have HS2 := Lib.hid (show joinI [] (metL (t.all.take (j + 1))) = acc ++ [x] by rw [HS1.out]; simp)
          go_wp2_with (first | (go_at_call 41; (with_reducible refine CH.out.mono ?_); rintro e w3 ⟨rfl, rfl⟩) | (at_builtin; refine wpList_append_own _ rfl (.tmp 30) (.tmp 36) 37 rfl w2.heap.size 3 i0 (.int .i64 0) 1 8 Try.underlying37 HI.out HZ0.out HZ1.out HZ2.out rfl (by decide) _ _ _ rfl (HOW.out.alloc _) ⟨wr.heap.size, 0, none⟩ 1 1 [.int .i64 x] rfl rfl (one_new _ _ _) (one_is rfl) (by unfold maxLen; omega) (by omega) (by simp; omega) ?_))
          intro v' w4 hown' hgrow _
          have HN4 := Lib.hid (show w4.ownsRow w2.heap.size 3 1 v' (acc ++ [x]).length (intVals (acc ++ [x])) by rw [List.length_append, HQ.out]; simpa using hown')
          have HB4 := Lib.hid ((HBE.out.alloc hzr _).grown hgrow (by simp; omega) (own_base HOW.out))
          clear hown' hgrow
          go_wp2_with fail
          go_roundw
          case rel => exact ⟨j + 1, by go_num, by omega, by rw [HS2.out]; exact HN4.out, HB4.out⟩
          case measure => simp [intOf]; omega
      · have d1 : (kk == 2) = false := by simpa using h1
        have HS2 := Lib.hid (show joinI [] (metL (t.all.take (j + 1))) = acc by rw [HST.out, if_neg h1, List.append_nil]; exact HAC.out)
        clear hxx hkk h1 hta hown hbe hrd hq hacc HST
        go_wp2_with fail
        go_roundw
        case rel => exact ⟨j + 1, by go_num, by omega, by rw [HS2.out, HQ.out]; exact HOW.out, HBE.out⟩
        case measure => simp [intOf]; omega
    · have h1 := own_less (base' := w.heap.size) hown HB2.out.size
      rw [List.take_of_length_le (by rw [HM.out]; omega)] at h1
      have HE := Lib.hid (And.intro h1 (HB2.out.trans (hbe.mono HB2.out.size)))
      clear h1 hown
      go_wp2_with fail
      go_ret
      exact ⟨_, rfl, HE.out.1, HE.out.2⟩

end Go.Proofs.Ytgmcjnhaedfinaa
