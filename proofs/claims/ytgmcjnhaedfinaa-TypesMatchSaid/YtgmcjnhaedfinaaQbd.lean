/- Walks: Apply. -/
import Derived.Test.YtgmcjnhaedfinaaQbc
namespace Go.Proofs.Ytgmcjnhaedfinaa
open Go.RowKit Go.Maps
set_option linter.unusedVariables false
set_option linter.unusedSimpArgs false
set_option maxRecDepth 100000
attribute [local go_sem] Oper.semAt_some

/-- A row of substitutions. -/
structure SbsAt (w : World) (B : Nat) (A : Option Addr) (ls : List Sb) (L : List (List Value)) : Prop where
  row : Row w B 5 A ls.length L
  each : ∀ i (h1 : i < L.length) (h2 : i < ls.length), ∃ cs : List Value, L[i] = .int .i64 ls[i].n :: cs ∧ ok64 ls[i].n ∧ TyAt w B cs ls[i].t
theorem SbsAt.later {w w' : World} {B : Nat} {A : Option Addr} {ls : List Sb} {L : List (List Value)} (h : SbsAt w B A ls L) (hb : Below B w w') : SbsAt w' B A ls L :=
  ⟨h.row.keep fun _ hp => hb.cell hp, fun i h1 h2 => by obtain ⟨cs, e, h3, h4⟩ := h.each i h1 h2; exact ⟨cs, e, h3, h4.later hb⟩⟩
def prB : List Sb → List (List Value) → List (Lit × List Value)
  | s :: l, c :: L => (.int .i64 s.n, c.tail) :: prB l L
  | _, _ => []
theorem prB_len : ∀ (l : List Sb) (L : List (List Value)), L.length = l.length → (prB l L).length = l.length
  | [], L, _ => by simp [prB]
  | a :: l, [], h => by simp at h
  | a :: l, c :: L, h => by simp only [prB, List.length_cons, prB_len l L (by simpa using h)]
theorem prB_at : ∀ (l : List Sb) (L : List (List Value)) (i : Nat) (h : i < (prB l L).length) (h1 : i < l.length) (h2 : i < L.length), (prB l L)[i] = (.int .i64 l[i].n, L[i].tail)
  | a :: l, c :: L, 0, _, _, _ => rfl
  | a :: l, c :: L, i + 1, h, h1, h2 => by
    simp only [prB, List.getElem_cons_succ]
    exact prB_at l L i (by simpa [prB] using h) (by simpa using h1) (by simpa using h2)
  | [], L, i, h, _, _ => by simp [prB] at h
  | a :: l, [], i, h, _, _ => by simp [prB] at h
theorem four_new (w : World) (o0 o1 o2 o3 : Obj) : ∀ W : World, W = (((w.alloc o0).alloc o1).alloc o2).alloc o3 →
    W.heap[w.heap.size]? = some o0 ∧ W.heap[w.heap.size + 1]? = some o1 ∧ W.heap[w.heap.size + 2]? = some o2 ∧ W.heap[w.heap.size + 3]? = some o3 ∧ W.heap.size = w.heap.size + 4 ∧ Below w.heap.size w W := by
  rintro W rfl
  have n0 := heap_alloc_new w o0
  have n1 := heap_alloc_new (w.alloc o0) o1
  have n2 := heap_alloc_new ((w.alloc o0).alloc o1) o2
  have n3 := heap_alloc_new (((w.alloc o0).alloc o1).alloc o2) o3
  simp only [alloc_size, Nat.add_assoc, Nat.reduceAdd] at n1 n2 n3
  refine ⟨at_next _ (at_next _ (at_next _ n0)), at_next _ (at_next _ n1), at_next _ n2, n3, by simp only [alloc_size], ?_⟩
  exact ((((Below.refl _ _).alloc (Nat.le_refl _) _).alloc (by rw [alloc_size]; omega) _).alloc (by simp only [alloc_size]; omega) _).alloc (by simp only [alloc_size]; omega) _

set_option maxHeartbeats 6400000 in
theorem apply_any (ls : List Sb) (t : Ty) (A : Option Addr) (q c B : Nat) (L : List (List Value)) (w : World) (cs : List Value) (hB : B ≤ w.heap.size) (hq : ls.length = q) (hqc : q ≤ c) (hq9 : q ≤ 4000000) (ha : SbsAt w B A ls L) (ht : t.nodes ≤ 4000000) (hx : TyAt w B cs t) :
    Calls Try.prog 28 #[.slice A q c, .agg cs.toArray] w (TyPost B (t.repl (appF ls)) w) := by
  have hmf : ∀ (fn : Fn) (first cap : Array Value) (w : World), (Instr.makeFunc fn first cap).run Try.prog w = .ok (.func fn first cap) w := fun _ _ _ _ => rfl
  have hmm := @run_makeMap Try.prog
  have h4 := hx.four
  have oo := ty_ones hx
  obtain ⟨a0, a1, a2, a3, rfl⟩ := four_of h4
  have sa0 := store_one' a0 (oo a0 (by simp))
  have sa1 := store_one' a1 (oo a1 (by simp))
  have sa2 := store_one' a2 (oo a2 (by simp))
  have sa3 := store_one' a3 (oo a3 (by simp))
  obtain ⟨b, hb⟩ : ∃ b, w.heap.size = b := ⟨_, rfl⟩
  have HX := Lib.hid hx
  have HA := Lib.hid ha
  have HLQ := Lib.hid hq
  have hLq : L.length = q := by rw [ha.row.len, hq]
  clear oo h4 hx ha hq
  refine (callsIn_wide (n := 10)).1 (callsIn_of_wp_marks Try.func28 rfl trivial (wpIn_wide.2 ?_) rfl)
  simp only [Try.ntmps28, List.size_toArray, List.length_cons, List.length_nil, Nat.reduceAdd, Nat.reduceSub, Array.replicate_succ, Array.replicate_zero, List.push_toArray, List.append_toArray, List.nil_append, List.cons_append]
  go_upto_region 2 with fail
  generalize hW5 : World.alloc _ _ = W5
  simp only [Nat.add_assoc, Nat.reduceAdd] at hW5 ⊢
  have h5 := four_new _ _ _ _ _ _ hW5.symm
  rw [hb] at h5
  obtain ⟨p1, p2, p3, p4, hz, hbe⟩ := h5
  have n1 : Blk W5 b 24 #[a0, a1, a2, a3] := p1
  have n2 : Blk W5 (b + 1) 24 zTy := p2
  have n4 : Blk W5 (b + 3) 72 #[.map (some (b + 2))] := p4
  have hm5 : MapV W5 3 (b + 2) 0 (fun _ => none) := map_made _ p3
  clear hW5
  go_wp2_with (go_at_call 47; (with_reducible refine (backB_any _ A q c).mono ?_); rintro e w6 ⟨rfl, hw6⟩)
  have hz6 : w6.heap.size = b + 5 := by rw [← hw6, alloc_size, hz]
  have hb56 : Below W5.heap.size W5 w6 := by rw [← hw6]; exact (Below.refl _ _).alloc (Nat.le_refl _) _
  have hbox6 : Blk w6 (b + 4) 42 #[.slice A q c] := by rw [← hw6, ← hz]; exact Blk.new _ _ _
  have n16 := n1.below hb56 n1.lt
  have n26 := n2.below hb56 n2.lt
  have n46 := n4.below hb56 n4.lt
  have hb6 : Below b w w6 := (hb ▸ hbe : Below b w W5).trans (hb56.mono (by omega))
  obtain ⟨P, hP⟩ : ∃ P, prB ls L = P := ⟨_, rfl⟩
  have hPq : P.length = q := by rw [← hP, prB_len _ _ (by rw [hLq, HLQ.out]), HLQ.out]
  have H16 := Lib.hid n16
  have H26 := Lib.hid n26
  have H46 := Lib.hid n46
  have HBX := Lib.hid hbox6
  have HB6 := Lib.hid hb6
  have HZ6 := Lib.hid hz6
  have HM6 := Lib.hid (hm5.below hb56)
  have HPQ := Lib.hid hPq
  have HP := Lib.hid hP
  have HLM := Lib.hid hLq
  have HBW := Lib.hid hb
  clear n1 n2 n4 p1 p2 p3 p4 hm5 hbe hb56 hbox6 n16 n26 n46 hb6 hPq hP hLq hw6 hz6
  refine range0 (gf := 60) (lb := #[.pointer (some ⟨b + 4, 0, none⟩)]) (N := L.length) (Rd := BkRdB L) (Ok := BkOkB L A c (b + 4)) (PutJ 3 (b + 2) P w6) ?hg (enters_of Try.func60 (by kernel_rfl) rfl) (iterB_any L A c (b + 4) (by rw [HLM.out]; omega)) ?hps ?hOk ?hJ ?h0 ?hround ?hdone
  case hg => first | rfl | (rw [← hz]; rfl)
  case hps => rintro k args hk ⟨t', _, rfl⟩; rfl
  case hOk =>
    rintro k A' ⟨_, hch⟩
    refine ⟨by rw [HLM.out]; exact (hch.block _ (by have := HZ6.out; omega) (by omega)).trans HBX.out, ?_⟩
    have hbA : Below b w A' := HB6.out.trans (hch.below (by have := HZ6.out; omega) (fun k hk => by omega))
    have h1 := (HA.out.later (hbA.mono (by have := HBW.out; omega))).row.more (show B ≤ A'.heap.size by have := hbA.size; have := HBW.out; omega)
    rw [HLQ.out] at h1
    rw [HLM.out]
    exact h1
  case hJ => exact fun k A' o h _ => putJ_put (by have := HZ6.out; omega) k A' o h
  case h0 =>
    intro W1' hb1 hs1
    refine ⟨?_, Chg.of_old hb1⟩
    rw [Nat.sub_zero, List.drop_length]
    exact HM6.out.below hb1
  case hround =>
    rintro k args Wr hk hJk ⟨xl, hat, rfl⟩ hlW
    obtain ⟨hj1, hkl, hx⟩ := rev_get hat
    obtain ⟨j, hj⟩ : ∃ j, L.length - 1 - k = j := ⟨_, rfl⟩
    simp only [hj] at hj1 hx
    have hj2 : j = P.length - 1 - k := by rw [HPQ.out, ← HLM.out]; exact hj.symm
    have hjm : j < ls.length := by have := HLQ.out; have := HLM.out; omega
    obtain ⟨ct, e5, hok, hty⟩ := HA.out.each j hj1 hjm
    obtain ⟨x, hxn⟩ : ∃ x, ls[j].n = x := ⟨_, rfl⟩
    rw [hxn] at e5 hok
    rw [hx] at e5
    obtain ⟨c0, c1, c2, c3, rfl⟩ := four_of hty.four
    subst e5
    have oo := ty_ones hty
    have sc0 := store_one' c0 (oo c0 (by simp))
    have sc1 := store_one' c1 (oo c1 (by simp))
    have sc2 := store_one' c2 (oo c2 (by simp))
    have sc3 := store_one' c3 (oo c3 (by simp))
    have hpj : P[j]? = some (.int .i64 x, [c0, c1, c2, c3]) := by
      have h1 : j < P.length := by rw [HPQ.out, ← HLM.out]; exact hj1
      rw [List.getElem?_eq_getElem h1]
      have hP := HP.out
      subst hP
      rw [prB_at ls L j h1 hjm hj1, hx, hxn]; rfl
    obtain ⟨hmap, hch⟩ := hJk
    have HJM := Lib.hid hmap
    have HCH := Lib.hid hch
    have HJ2 := Lib.hid hj2
    have HPJ := Lib.hid hpj
    have HXS := Lib.hid hok
    have hkP : k < P.length := by rw [HPQ.out, ← HLM.out]; exact hkl
    have HKP := Lib.hid hkP
    have hk9 : k < 4000000 := by have := HPQ.out; omega
    have hmx : Try.prog.follows .mixedOrders = true := by kernel_rfl
    rw [hj]
    clear hat hj1 hkl hj2 hjm hpj hok hty hmap hch hx hj hkP hxn oo
    dsimp only
    gi_wp2_with fail
    refine ⟨(Below.refl _ _).alloc (Nat.le_refl _) _, ?_⟩
    intro W3 hc3
    have hz6 := HZ6.out
    have hsA : (Wr.alloc (.cells #[.int .i64 x, c0, c1, c2, c3] 47)).heap.size = Wr.heap.size + 1 := alloc_size _ _
    have hzr := HCH.out.size
    have hsz3 : w6.heap.size + 2 ≤ W3.heap.size := by have := hc3.size; rw [hsA] at this; omega
    have turn : ∀ (kk : Nat), kk < w6.heap.size → kk ≠ b + 2 → W3.heap[kk]? = w6.heap[kk]? := fun kk h1 h2 => (hc3.block kk (by rw [hsA]; omega) (by omega)).trans ((Below.heap_alloc _ _ _ (by omega)).trans (HCH.out.block kk h1 h2))
    have e0 : Blk W3 Wr.heap.size 47 #[.int .i64 x, c0, c1, c2, c3] := (hc3.block _ (by rw [hsA]; omega) (by omega)).trans (Blk.new _ _ _)
    have e4 : Blk W3 (b + 3) 72 #[.map (some (b + 2))] := (turn _ (by omega) (by omega)).trans H46.out
    have y0 := e0.cell 0
    have y1 := e0.cell 1
    have y2 := e0.cell 2
    have y3 := e0.cell 3
    have y5 := e0.cell 4
    have y4 := e4.cell 0
    simp only [List.getElem?_toArray, List.getElem?_cons_succ, List.getElem?_cons_zero] at y0 y1 y2 y3 y4 y5
    have hm3 : MapV W3 3 (b + 2) k (fnd (P.drop (P.length - k))) := HJM.out.blk ((hc3.block _ (by rw [hsA]; have := HJM.out.lt; omega) (by omega)).trans (Below.heap_alloc _ _ _ HJM.out.lt))
    obtain ⟨w4, hmu, hm4, hg4⟩ := hm3.put (t := 72) (val := .agg #[c0, c1, c2, c3]) (by unfold maxLen; omega) keyed_int Try.underlying72 (key_int HXS.out) (lit_int _)
    have hm3d : MapV W3.drew 3 (b + 2) k (fnd (P.drop (P.length - k))) := hm3
    have HFIN := Lib.hid (show PutJ 3 (b + 2) P w6 (k + 1) w4 ∧ ∀ i, i = w6.heap.size + 1 ∨ i = w6.heap.size → w4.heap[i]? = W3.heap[i]? from by
      have hs := hg4.size
      refine ⟨putJ_step HJ2.out HKP.out HPJ.out hm4 ⟨hg4.os.trans (hc3.os.trans HCH.out.os), hg4.tape.trans (hc3.tape.trans HCH.out.tape), hg4.output.trans (hc3.output.trans HCH.out.output), by omega, fun kk hk hx => ?_⟩, fun i hi => ?_⟩
      · exact (hg4.block kk (by omega) (by intro e; injection e with e; exact hx e)).trans (turn kk hk hx)
      · exact hg4.block i (by omega) (by intro e; injection e with e; omega))
    clear hm3 hm4 hg4 hc3 turn e0 e4 hsz3 HJM hm3d hsA
    gi_wp2_with fail
    all_goals exact HFIN.out
  case hdone =>
    rintro D wd rfl ⟨hmap, hch⟩ hD
    have hz6 := HZ6.out
    have hzd := hch.size
    rw [show P.length - L.length = 0 by rw [HPQ.out, HLM.out]; omega, List.drop_zero, HLM.out] at hmap
    have t1 : Blk wd b 24 #[a0, a1, a2, a3] := (hch.block _ (by omega) (by omega)).trans H16.out
    have t2 : Blk wd (b + 1) 24 zTy := (hch.block _ (by omega) (by omega)).trans H26.out
    have t4 : Blk wd (b + 3) 72 #[.map (some (b + 2))] := (hch.block _ (by omega) (by omega)).trans H46.out
    have hbd : Below b w wd := HB6.out.trans (hch.below (n := b) (by omega) (fun k hk => by omega))
    have hw := HBW.out
    have CR := Lib.hid (repla_any (appF ls) B (b + 3) wd (by omega) (fun t' cs' W' hW' hx' => app1_any (fnd (prB ls L)) (lookSb ls t'.n) B (b + 2) (b + 3) q W' (by have := hW'.size; omega) (t4.below hW' t4.lt) (by rw [HP.out]; exact hmap.below hW') t' cs' hx'
      (fnd_subs ls t'.n (prB ls L) (prB_len _ _ (by rw [HLM.out, HLQ.out])) (fun i h1 h2 => by
        have h3 : i < L.length := by rw [HLM.out, ← HLQ.out]; exact h2
        obtain ⟨ct, e5, _, hty⟩ := HA.out.each i h3 h2
        rw [prB_at ls L i h1 h2 h3, e5]
        exact ⟨rfl, hty.later ((hbd.trans (hW'.mono (by omega))).mono (by omega))⟩)) _ rfl) t ht [a0, a1, a2, a3] (HX.out.later (hbd.mono (by omega))))
    have x0 := t1.cell 0
    have x1 := t1.cell 1
    have x2 := t1.cell 2
    have x3 := t1.cell 3
    simp only [zTy, List.getElem?_toArray, List.getElem?_cons_succ, List.getElem?_cons_zero] at x0 x1 x2 x3
    have HT2 := Lib.hid t2
    have HD := Lib.hid hD
    have HBD := Lib.hid hbd
    have HZ := Lib.hid hz6
    have HZD := Lib.hid hzd
    clear hmap hch hD t1 t2 t4 hbd hz6 hzd
    go_wp2_with (go_at_call 44; (with_reducible refine CR.out.mono ?_); rintro e w7 ⟨xs, rfl, hty, hb7⟩; (have hR := HT2.out.below hb7 HT2.out.lt); (have r0 := hR.cell 0); (have r1 := hR.cell 1); (have r2 := hR.cell 2); (have r3 := hR.cell 3); (simp only [zTy, List.getElem?_toArray, List.getElem?_cons_succ, List.getElem?_cons_zero] at r0 r1 r2 r3); (have fr0 := hR.frozen 0); (have fr1 := hR.frozen 1); (have fr2 := hR.frozen 2); (have fr3 := hR.frozen 3); (have oo := ty_ones hty); (obtain ⟨m0, m1, m2, m3, rfl⟩ := four_of (TyAt.four hty)); (have sm0 := store_one' m0 (oo m0 (by simp))); (have sm1 := store_one' m1 (oo m1 (by simp))); (have sm2 := store_one' m2 (oo m2 (by simp))); (have sm3 := store_one' m3 (oo m3 (by simp))))
    have hz6 := HZ.out
    have hzd := HZD.out
    have hz7 := hb7.size
    have hD9 : (put4 w7 (b + 1) m0 m1 m2 m3).heap[w6.heap.size]? = some (.deferred (some [])) := (heap_put4 w7 (b + 1) _ (by omega) m0 m1 m2 m3).trans ((hb7.block _ (Array.getElem?_eq_some_iff.1 HD.out).1).trans HD.out)
    have hDl := (Array.getElem?_eq_some_iff.1 HD.out).1
    have hp := putObj_chg (put4 w7 (b + 1) m0 m1 m2 m3) w6.heap.size (.deferred none)
    have hB10 : Blk ((put4 w7 (b + 1) m0 m1 m2 m3).putObj w6.heap.size (.deferred none)) (b + 1) 24 #[m0, m1, m2, m3] := (hp.block _ (hR.put4_ m0 m1 m2 m3).lt (by omega)).trans (hR.put4_ m0 m1 m2 m3)
    have hc10 : Chg (fun k => mid B wd.heap.size k = true) w7 ((put4 w7 (b + 1) m0 m1 m2 m3).putObj w6.heap.size (.deferred none)) := (chg_put4 (Chg.refl _ _) (.inl (mid_iff.2 (by omega))) _ _ _ _).trans (hp.mono fun k _ hk => by subst hk; exact mid_iff.2 (by omega))
    have hb10 : Below b w ((put4 w7 (b + 1) m0 m1 m2 m3).putObj w6.heap.size (.deferred none)) := (below_put4 (HBD.out.trans (hb7.mono (by omega))) (by omega) _ _ _ _).trans (hp.below (by rw [put4_size]; omega) (fun k hk => by omega))
    refine marks_any (v := .agg #[m0, m1, m2, m3]) (D := w6.heap.size) hD9 ?_ ?_
    · exact res_cell4 rfl rfl hB10 rfl
    · exact ⟨[m0, m1, m2, m3], rfl, (hty.later hc10).weaken fun k _ hk => mid_more (by omega) hk, by rw [hw]; exact hb10⟩

end Go.Proofs.Ytgmcjnhaedfinaa
