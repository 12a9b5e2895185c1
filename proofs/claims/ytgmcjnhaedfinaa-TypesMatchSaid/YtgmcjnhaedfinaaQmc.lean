/- Walks: Match. -/
import Derived.Test.YtgmcjnhaedfinaaQmb
import Derived.Test.YtgmcjnhaedfinaaQbc
namespace Go.Proofs.Ytgmcjnhaedfinaa
open Go.RowKit Go.Maps
set_option linter.unusedVariables false
set_option linter.unusedSimpArgs false
set_option maxRecDepth 100000

theorem mem_tysAll {u : Ty} : ∀ {l : List Ty}, u ∈ tysAll l → ∃ i, ∃ h : i < l.length, u ∈ l[i].all
  | [], h => by simp [tysAll] at h
  | t :: l, h => by
    simp only [tysAll, List.mem_append] at h
    rcases h with h | h
    · exact ⟨0, by simp, h⟩
    · obtain ⟨i, hi, h'⟩ := mem_tysAll h
      exact ⟨i + 1, by simp; omega, by simpa using h'⟩
theorem all_fits {w : World} {B : Nat} {cs : List Value} {t : Ty} (h : TyAt w B cs t) : ∀ u ∈ t.all, u.nm.size ≤ maxLen ∧ ok64 u.n := by
  induction h with
  | @mk k n nm A c ks L hk hs hn hc hm hb hr hks ih =>
    intro u hu
    unfold Ty.all at hu
    rcases List.mem_cons.1 hu with rfl | hu
    · exact ⟨hs, hn⟩
    · obtain ⟨i, hi, h'⟩ := mem_tysAll hu
      exact ih i (by rw [hr.len]; exact hi) hi u h'
theorem mem_joinS {x : ByteArray} : ∀ {l a : List ByteArray}, x ∈ joinS a l → x ∈ a ∨ x ∈ l
  | [], a, h => .inl h
  | y :: l, a, h => by
    rw [show joinS a (y :: l) = joinS (joinS a [y]) l from joinS_app l [y] a, joinS_one] at h
    rcases mem_joinS h with h | h
    · split at h
      · exact .inl h
      · rcases List.mem_append.1 h with h | h
        · exact .inl h
        · exact .inr (by simp at h; simp [h])
    · exact .inr (by simp [h])
theorem mem_varL {x : ByteArray} : ∀ {l : List Ty}, x ∈ varL l → ∃ u ∈ l, u.k = 1 ∧ u.nm = x
  | [], h => by simp [varL] at h
  | t :: l, h => by
    unfold varL at h
    rcases List.mem_append.1 h with h | h
    · by_cases hk : t.k = 1
      · rw [if_pos hk] at h; exact ⟨t, by simp, hk, by simp at h; exact h.symm⟩
      · rw [if_neg hk] at h; simp at h
    · obtain ⟨u, hu, h'⟩ := mem_varL h
      exact ⟨u, by simp [hu], h'⟩
theorem vars_fit {w : World} {B : Nat} {cs : List Value} {t : Ty} (h : TyAt w B cs t) : ∀ x ∈ varsT t, x.size ≤ maxLen := by
  intro x hx
  rcases mem_joinS hx with h0 | h0
  · simp at h0
  · obtain ⟨u, hu, _, rfl⟩ := mem_varL h0
    exact (all_fits h u hu).1
theorem vars_len (t : Ty) : (varsT t).length ≤ t.nodes := by
  have h1 := join_len (varL t.all) []
  have h2 := varL_len t.all
  rw [all_len] at h2
  unfold varsT
  simp only [List.length_nil] at h1
  omega
def tysOf (M : List (ByteArray × Ty)) (names : List ByteArray) : List Ty := names.map fun x => (lookM M x).getD (.mk 0 ⟨#[]⟩ 0 [])
/-- What Match answers. -/
def MatPost (B : Nat) (t s : Ty) (w : World) (e : Ending) (w' : World) : Prop := Below w.heap.size w w' ∧ match matchC t s [] with
  | none => e = .returned (.tuple #[.slice none 0 0, .slice none 0 0, .bool false])
  | some M => ∃ v1 v2 L, e = .returned (.tuple #[v1, v2, .bool true]) ∧ w'.ownsRow w.heap.size 9 1 v1 (varsT t).length (nmVals (varsT t)) ∧ w'.ownsRow w.heap.size 24 4 v2 (varsT t).length L.flatten ∧ TsAt w' B (tysOf M (varsT t)) L
theorem MatPost.none_ {B : Nat} {t s : Ty} {w w' : World} (h : matchC t s [] = none) (hb : Below w.heap.size w w') : MatPost B t s w (.returned (.tuple #[.slice none 0 0, .slice none 0 0, .bool false])) w' := by
  unfold MatPost
  rw [h]
  exact ⟨hb, rfl⟩
theorem MatPost.some_ {B : Nat} {t s : Ty} {w w' : World} {M : List (ByteArray × Ty)} {v1 v2 : Value} {L : List (List Value)} (h : matchC t s [] = some M) (hb : Below w.heap.size w w') (h1 : w'.ownsRow w.heap.size 9 1 v1 (varsT t).length (nmVals (varsT t))) (h2 : w'.ownsRow w.heap.size 24 4 v2 (varsT t).length L.flatten)
    (h3 : TsAt w' B (tysOf M (varsT t)) L) : MatPost B t s w (.returned (.tuple #[v1, v2, .bool true])) w' := by
  unfold MatPost
  rw [h]
  exact ⟨hb, v1, v2, L, rfl, h1, h2, h3⟩

set_option maxHeartbeats 6400000 in
theorem match_any (t s : Ty) (ht9 : t.nodes ≤ 4000000) (hs9 : s.nodes ≤ 4000000) (hv : ∀ M, matchC t s [] = some M → ∀ x ∈ varsT t, ∃ u, lookM M x = some u) (B : Nat) (w : World) (cs ds : List Value) (hB : B ≤ w.heap.size) (hx : TyAt w B cs t) (hy : TyAt w B ds s) :
    Calls Try.prog 30 #[.agg cs.toArray, .agg ds.toArray] w (MatPost B t s w) := by
  have hmf : ∀ (fn : Fn) (first cap : Array Value) (w : World), (Instr.makeFunc fn first cap).run Try.prog w = .ok (.func fn first cap) w := fun _ _ _ _ => rfl
  have hmm := @run_makeMap Try.prog
  have HVF := Lib.hid (vars_fit hx)
  have oo := ty_ones hx
  have oy := ty_ones hy
  obtain ⟨a0, a1, a2, a3, rfl⟩ := four_of hx.four
  obtain ⟨b0, b1, b2, b3, rfl⟩ := four_of hy.four
  have sa0 := store_one' a0 (oo a0 (by simp))
  have sa1 := store_one' a1 (oo a1 (by simp))
  have sa2 := store_one' a2 (oo a2 (by simp))
  have sa3 := store_one' a3 (oo a3 (by simp))
  have sb0 := store_one' b0 (oy b0 (by simp))
  have sb1 := store_one' b1 (oy b1 (by simp))
  have sb2 := store_one' b2 (oy b2 (by simp))
  have sb3 := store_one' b3 (oy b3 (by simp))
  obtain ⟨b, hb⟩ : ∃ b, w.heap.size = b := ⟨_, rfl⟩
  have sf := store_one' (.func (.func 49) #[] #[.pointer (some ⟨b + 4, 0, none⟩), .pointer (some ⟨b + 3, 0, none⟩)]) rfl
  have HX := Lib.hid hx
  have HY := Lib.hid hy
  have HV := Lib.hid hv
  obtain ⟨i0, hi, hz0, hz1, hz2⟩ := info_parts ty_info
  have HI := Lib.hid hi
  have HZ0 := Lib.hid hz0
  have HZ1 := Lib.hid hz1
  have HZ2 := Lib.hid hz2
  clear hi hz0 hz1 hz2
  clear oo oy hx hy hv
  go_enter Try.func30, Try.ntmps30
  go_upto_region 3 with fail
  generalize hW5 : World.alloc _ _ = W5
  simp only [Nat.add_assoc, Nat.reduceAdd] at hW5 ⊢
  have h5 := five _ _ _ _ _ _ _ hW5.symm
  rw [hb] at h5
  obtain ⟨p0, p1, p2, p3, p4, hz, hbe⟩ := h5
  obtain ⟨fv, hfv⟩ : ∃ fv, (Value.func (.func 49) #[] #[.pointer (some ⟨b + 4, 0, none⟩), .pointer (some ⟨b + 3, 0, none⟩)]) = fv := ⟨_, rfl⟩
  have n0 : Blk W5 b 24 #[a0, a1, a2, a3] := p0
  have n1 : Blk W5 (b + 1) 24 #[b0, b1, b2, b3] := p1
  have n3 : Blk W5 (b + 3) 64 #[.map (some (b + 2))] := p3
  have n4 : Blk W5 (b + 4) 31 #[.nilFunc] := p4
  have hm5 : MapV W5 9 (b + 2) 0 (fnd []) := map_made _ p2
  have hbe5 : Below b w W5 := hb ▸ hbe
  have hb6 := below_set hbe5 (p := ⟨b + 4, 0, none⟩) (by show b ≤ b + 4; omega) fv
  have m0 := n0.far (p := ⟨b + 4, 0, none⟩) (by show b ≠ b + 4; omega) fv
  have m1 := n1.far (p := ⟨b + 4, 0, none⟩) (by show b + 1 ≠ b + 4; omega) fv
  have m3 := n3.far (p := ⟨b + 4, 0, none⟩) (by show b + 3 ≠ b + 4; omega) fv
  have m4 : Blk (W5.setCell ⟨b + 4, 0, none⟩ fv) (b + 4) 31 #[fv] := by simpa using n4.set_ 0 fv
  have hst : MSt B (b + 4) (b + 3) (b + 2) (W5.setCell ⟨b + 4, 0, none⟩ fv) [] := ⟨by rw [hfv]; exact m4, m3, ⟨[], ⟨rfl, fun i h => by simp at h⟩, hm5.blk (Below.heap_setCell _ _ _ _ (by show b + 2 ≠ b + 4; omega))⟩, fun p hp => by simp at hp⟩
  rw [← hfv] at hb6 m0 m1 m4 hst
  have C := Lib.hid (mat_any (b + 2) B (b + 4) (b + 3) (b + 2) (by omega) (by omega) (by omega) (by omega) ⟨by omega, by omega⟩ t.nodes t (Nat.le_refl _) ht9 s hs9 [] _ [a0, a1, a2, a3] [b0, b1, b2, b3] (by simp; omega) (HX.out.later (hb6.mono (by omega))) (HY.out.later (hb6.mono (by omega))) hst)
  have y4 := n4.cell 0
  have f4 := n4.frozen 0
  have z4 := m4.cell 0
  simp only [List.getElem?_toArray, List.getElem?_cons_succ, List.getElem?_cons_zero] at y4 z4
  have x0 := m0.cell 0
  have x1 := m0.cell 1
  have x2 := m0.cell 2
  have x3 := m0.cell 3
  simp only [zTy, List.getElem?_toArray, List.getElem?_cons_succ, List.getElem?_cons_zero] at x0 x1 x2 x3
  have y0 := m1.cell 0
  have y1 := m1.cell 1
  have y2 := m1.cell 2
  have y3 := m1.cell 3
  simp only [zTy, List.getElem?_toArray, List.getElem?_cons_succ, List.getElem?_cons_zero] at y0 y1 y2 y3
  have HB6 := Lib.hid hb6
  have HM0 := Lib.hid m0
  have HWB := Lib.hid hb
  obtain ⟨r, hr⟩ : ∃ r, matchC t s [] = r := ⟨_, rfl⟩
  rw [hr] at C
  have HR := Lib.hid hr
  have HZ5 := Lib.hid (show (W5.setCell ⟨b + 4, 0, none⟩ (Value.func (.func 49) #[] #[.pointer (some ⟨b + 4, 0, none⟩), .pointer (some ⟨b + 3, 0, none⟩)])).heap.size = b + 5 by simp [World.setCell, hz])
  clear p0 p1 p2 p3 p4 hW5 n0 n1 n3 n4 hm5 hbe hbe5 hb6 m0 m1 m3 m4 hst hfv hr
  cases r with
  | none =>
    go_wp2_with (go_at_call 49; (with_reducible refine C.out.mono ?_); rintro e w3 ⟨hb3, rfl⟩)
    have hw := HWB.out
    refine bodyPost_ret (results_tmp3 rfl _ _ _) rfl (MatPost.none_ HR.out (by rw [hw]; exact HB6.out.trans (hb3.mono (by omega))))
  | some M =>
    obtain ⟨q, hq⟩ : ∃ q, (varsT t).length = q := ⟨_, rfl⟩
    have hq9 : q ≤ 4000000 := by rw [← hq]; exact Nat.le_trans (vars_len t) ht9
    have HQ := Lib.hid hq
    have hzv : ∀ w : World, (zeroValue 24).run Try.prog w = .ok (.agg zTy) w := fun w => Try.zeroValue24 w
    clear hq
    go_wp2_with (first | (go_at_call 49; (with_reducible refine C.out.mono ?_); rintro e w3 ⟨hb3, rfl, hst3⟩; (have hm3 := HM0.out.below hb3 (by omega)); (have g0 := hm3.cell 0); (have g1 := hm3.cell 1); (have g2 := hm3.cell 2); (have g3 := hm3.cell 3); (simp only [zTy, List.getElem?_toArray, List.getElem?_cons_succ, List.getElem?_cons_zero] at g0 g1 g2 g3); (have hz3 := hb3.size); (rw [HZ5.out] at hz3); (have CV := Lib.hid (pvars_any t ht9 B w3 [a0, a1, a2, a3] (by omega) (HX.out.later ((HB6.out.trans (hb3.mono (by omega))).mono (by omega))))); (have HST3 := Lib.hid hst3); (have HB3 := Lib.hid (HB6.out.trans (hb3.mono (by omega)))); clear hst3 hb3 hm3) | (go_at_call 15; (with_reducible refine CV.out.mono ?_); rintro e w4 ⟨v1, rfl, hown1, hb4⟩; (rw [HQ.out] at hown1); (obtain ⟨A1, c1, rfl, hrd⟩ := own_shape hown1); (have hz4 := hb4.size); (have HO1 := Lib.hid hown1); (have HRD := Lib.hid hrd); (have HB4 := Lib.hid (HB3.out.trans (hb4.mono (by omega)))); (have HST4 := Lib.hid (HST3.out.below (by omega) hb4)); clear hown1 hrd hb4))
    go_loopw [10, 24] (fun v i wr => ∃ (j : Nat) (Lr : List (List Value)), i = .int .i64 j ∧ j ≤ q ∧ wr.ownsRow w4.heap.size 24 4 v j Lr.flatten ∧ TsAt wr B ((tysOf M (varsT t)).take j) Lr ∧ Below w4.heap.size w4 wr) (fun _ i _ => q - (intOf i).toNat)
    case atStart => exact ⟨0, [], rfl, Nat.zero_le _, World.ownsRow_nil _ _ _ _, by rw [List.take_zero]; exact TsAt.nil_ _ _, Below.refl _ _⟩
    case round =>
      obtain ⟨j, Lr, rfl, hj, hown, hts, hbe⟩ := hrel
      have hzr := hbe.size
      have HOW := Lib.hid hown
      have HTS := Lib.hid hts
      have HBE := Lib.hid hbe
      have hstr := HST4.out.below (by omega) hbe
      have sc := hstr.seen.cell 0
      simp only [List.getElem?_toArray, List.getElem?_cons_succ, List.getElem?_cons_zero] at sc
      by_cases hlt : j < q
      · obtain ⟨ad, rfl, hbl, hl', hc⟩ := nm_at (HRD.out.below hbe) hlt
        obtain ⟨x, hx⟩ : ∃ x, (varsT t)[j] = x := ⟨_, rfl⟩
        rw [hx] at hc
        have hxm : x ∈ varsT t := by rw [← hx]; exact List.getElem_mem _
        obtain ⟨u, hu⟩ := HV.out M HR.out x hxm
        obtain ⟨P, hPM, hmap⟩ := hstr.map
        have hLO := fnd_lookM x M P hPM
        rw [hu] at hLO
        obtain ⟨es, hf, he⟩ := hLO
        obtain ⟨e0, e1, e2, e3, rfl⟩ := four_of he.four
        have hget := hmap.get keyed_str Try.underlying64 (hzv wr) (key_str (HVF.out x hxm))
        rw [hf] at hget
        simp only [Option.getD_some] at hget
        have oo := ty_ones he
        have se0 := store_one' e0 (oo e0 (by simp))
        have se1 := store_one' e1 (oo e1 (by simp))
        have se2 := store_one' e2 (oo e2 (by simp))
        have se3 := store_one' e3 (oo e3 (by simp))
        have HE := Lib.hid he
        have hjt : j < (tysOf M (varsT t)).length := by unfold tysOf; rw [List.length_map, HQ.out]; exact hlt
        have HST := Lib.hid (show (tysOf M (varsT t)).take (j + 1) = (tysOf M (varsT t)).take j ++ [u] by
          rw [take_snoc hjt]
          congr 2
          simp only [tysOf, List.getElem_map, hx, hu, Option.getD_some])
        clear hown hts hbe hstr hx hxm hu hPM hmap hf he hjt
        go_wp2_with (at_builtin; refine wpList_append_own _ rfl (.tmp 28) (.tmp 32) 22 rfl w4.heap.size 24 i0 (.agg #[.int .i64 0, .string ⟨#[]⟩, .int .i64 0, .slice none 0 0]) 4 56 Try.underlying22 HI.out HZ0.out HZ1.out HZ2.out rfl (by decide) _ _ _ rfl (HOW.out.alloc _) ⟨wr.heap.size, 0, none⟩ 1 1 [e0, e1, e2, e3] rfl rfl (new_cells wr [e0, e1, e2, e3]) oo (by unfold maxLen; omega) (by omega) (by simp; omega) ?_)
        intro v3 w5 hown3 hg3 _
        have hb5 : Below w4.heap.size wr w5 := ((Below.refl _ _).alloc (by omega) _).grown hg3 (by simp; omega) (own_base HOW.out)
        have HN3 := Lib.hid (show w5.ownsRow w4.heap.size 24 4 v3 (j + 1) (Lr ++ [[e0, e1, e2, e3]]).flatten by rw [List.flatten_append]; simpa using hown3)
        have HT3 := Lib.hid (show TsAt w5 B ((tysOf M (varsT t)).take (j + 1)) (Lr ++ [[e0, e1, e2, e3]]) by rw [HST.out]; exact (HTS.out.app (TsAt.one HE.out)).later (hb5.mono (by omega)))
        have HB5 := Lib.hid (HBE.out.trans hb5)
        clear hown3 hg3 hb5
        go_wp2_with fail
        go_roundw
        case rel => exact ⟨j + 1, Lr ++ [[e0, e1, e2, e3]], by go_num, by omega, HN3.out, HT3.out, HB5.out⟩
        case measure => simp [intOf]; omega
      · have hj2 : j = q := by omega
        subst hj2
        have h1 := own_less (base' := w.heap.size) (own_kept HO1.out hbe) (by have := HWB.out; omega)
        have h2 := own_less (base' := w.heap.size) hown (by have := HWB.out; omega)
        have h3 := hts
        rw [List.take_of_length_le (by unfold tysOf; rw [List.length_map, HQ.out]; omega)] at h3
        have hw := HWB.out
        have hb9 : Below w.heap.size w wr := by rw [hw]; exact HB4.out.trans (hbe.mono (by omega))
        have HF := Lib.hid (MatPost.some_ HR.out hb9 (by rw [HQ.out]; exact h1) (by rw [HQ.out]; exact h2) h3)
        clear h1 h2 h3 hown hts hbe hstr hb9
        go_wp2_with fail
        refine bodyPost_ret (results_tmp3 rfl _ _ _) rfl ?_
        exact HF.out

end Go.Proofs.Ytgmcjnhaedfinaa
