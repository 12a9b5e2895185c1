/- Walks: Put, Apply. -/
import Derived.Test.YtgmcjnhaedfinaaQbb
import Derived.Test.YtgmcjnhaedfinaaQrc
import Derived.Test.YtgmcjnhaedfinaaQcp
import Derived.BigRegionIn
import Derived.Laws.Small
import Derived.Laws.Slices
namespace Go.Proofs.Ytgmcjnhaedfinaa
open Go.RowKit Go.Maps
set_option linter.unusedVariables false
set_option linter.unusedSimpArgs false
set_option maxRecDepth 100000
attribute [local go_sem] Oper.semAt_some

theorem five (w : World) (o0 o1 o2 o3 o4 : Obj) : ∀ W : World, W = ((((w.alloc o0).alloc o1).alloc o2).alloc o3).alloc o4 →
    W.heap[w.heap.size]? = some o0 ∧ W.heap[w.heap.size + 1]? = some o1 ∧ W.heap[w.heap.size + 2]? = some o2 ∧ W.heap[w.heap.size + 3]? = some o3 ∧ W.heap[w.heap.size + 4]? = some o4 ∧ W.heap.size = w.heap.size + 5 ∧ Below w.heap.size w W := by
  rintro W rfl
  have n0 := heap_alloc_new w o0
  have n1 := heap_alloc_new (w.alloc o0) o1
  have n2 := heap_alloc_new ((w.alloc o0).alloc o1) o2
  have n3 := heap_alloc_new (((w.alloc o0).alloc o1).alloc o2) o3
  have n4 := heap_alloc_new ((((w.alloc o0).alloc o1).alloc o2).alloc o3) o4
  simp only [alloc_size, Nat.add_assoc, Nat.reduceAdd] at n1 n2 n3 n4
  refine ⟨at_next _ (at_next _ (at_next _ (at_next _ n0))), at_next _ (at_next _ (at_next _ n1)), at_next _ (at_next _ n2), at_next _ n3, n4, by simp only [alloc_size], ?_⟩
  exact (((((Below.refl _ _).alloc (Nat.le_refl _) _).alloc (by rw [alloc_size]; omega) _).alloc (by simp only [alloc_size]; omega) _).alloc (by simp only [alloc_size]; omega) _).alloc (by simp only [alloc_size]; omega) _
theorem map_made {W : World} {mb : Nat} (kt : TypeId) (h : W.heap[mb]? = some (.map #[] 0)) : MapV W kt mb 0 (fun _ => none) :=
  ⟨.map [], ⟨#[], 0, h, ⟨by simp, Go.MapKept.stamped_empty 0, by simp⟩, Nat.le_refl _, rfl⟩, ⟨[], rfl⟩, fun s => ⟨rfl, fun z => rfl⟩⟩
theorem run_min_nat (w : World) (ts : Array TypeId) (t : TypeId) (n m q : Nat) (h : min n m = q) : (Builtin.min_ ts t #[.int .i64 (n : Int), .int .i64 (m : Int)]).run Try.prog w = .ok (.int .i64 (q : Int)) w := by
  rw [run_min_int2]
  by_cases hl : (m : Int) < n
  · rw [if_pos hl]; congr 3; omega
  · rw [if_neg hl]; congr 3; omega
theorem run_slice_to (w : World) (A : Option Addr) (n c q : Nat) (h : q ≤ c) : (Instr.sliceAt 34 (.slice A n c) none (some (.int .i64 (q : Int))) none).run Try.prog w = .ok (.slice A q c) w := by
  cases A with
  | none => simp [go_sem, h]
  | some a => simp [go_sem, h]
theorem run_slice_to2 (w : World) (A : Option Addr) (n c q : Nat) (h : q ≤ c) : (Instr.slice 34 (.slice A n c) none (some (.int .i64 (q : Int))) none).run Try.prog w = .ok (.slice A q c) w := by
  cases A with
  | none => simp [go_sem, h]
  | some a => simp [go_sem, h]
theorem marks_any {P : Program} {fn : Func} {R : Ending → World → Prop} {v : Value} {tmps : Array Value} {D : Nat} {W : World} (hK : W.heap[D]? = some (.deferred (some [])))
    (hv : (results fn tmps).run P (W.putObj D (.deferred none)) = .ok v (W.putObj D (.deferred none))) (h : R (.returned v) (W.putObj D (.deferred none))) :
    bodyPostM Fence.wide 10 P fn R .ret { tmps := tmps, defers := [{ target := .collected D, args := #[] }] } W :=
  ⟨by simp, .inl ⟨D, _, rfl, run_takeDeferred hK, _, hv, h⟩⟩
theorem reads_take {w : World} {B n q : Nat} {A : Option Addr} {l : List ByteArray} (h : Reads w B 1 A n (nmVals l)) (hq : q ≤ n) : Reads w B 1 A q (nmVals (l.take q)) := by
  have hl := nm_len h
  refine ⟨by simp; omega, fun h0 => ?_⟩
  obtain ⟨ad, e, hb, hc⟩ := h.2 (by omega)
  refine ⟨ad, e, hb, fun j u hu => hc j u ?_⟩
  simp only [nmVals, List.map_take, List.getElem?_take] at hu
  split at hu
  · exact hu
  · cases hu
theorem prS_take : ∀ (l : List ByteArray) (L : List (List Value)) (q : Nat), min l.length L.length ≤ q → prS (l.take q) L = prS l L
  | [], L, q, _ => by simp
  | a :: l, [], q, _ => by cases q <;> simp [prS]
  | a :: l, c :: L, 0, h => by simp at h
  | a :: l, c :: L, q + 1, h => by simp only [List.take_succ_cons, prS]; rw [prS_take l L q (by simp at h; omega)]
/-- What the loop holds: the pairs from the end. -/
def PutJ (kt : TypeId) (mb : Nat) (P : List (Lit × List Value)) (w6 : World) (k : Nat) (W : World) : Prop := MapV W kt mb k (fnd (P.drop (P.length - k))) ∧ Chg (· = mb) w6 W
theorem putJ_put {kt : TypeId} {mb : Nat} {P : List (Lit × List Value)} {w6 : World} (hm : mb < w6.heap.size) (k : Nat) (A : World) (o : Obj) (h : PutJ kt mb P w6 k A) : PutJ kt mb P w6 k (A.putObj (w6.heap.size + 1) o) := by
  obtain ⟨h1, hc⟩ := h
  have hp := putObj_chg A (w6.heap.size + 1) o
  exact ⟨h1.blk (hp.block mb h1.lt (by omega)), ((hc.mono (Y := fun i => i = mb ∨ i = w6.heap.size + 1) fun i _ hi => .inl hi).trans (hp.mono fun i _ hi => .inr hi)).mono fun i h1 hi => hi.elim id fun e => by omega⟩
theorem putJ_step {kt : TypeId} {mb : Nat} {P : List (Lit × List Value)} {w6 W4 : World} {k j : Nat} {key : Lit} {cs : List Value} (hj : j = P.length - 1 - k) (hk : k < P.length) (hp : P[j]? = some (key, cs)) (hm : MapV W4 kt mb (k + 1) (updV (fnd (P.drop (P.length - k))) key (.agg cs.toArray))) (hc : Chg (· = mb) w6 W4) : PutJ kt mb P w6 (k + 1) W4 := by
  refine ⟨?_, hc⟩
  have hjl : j < P.length := by omega
  have e1 : P.length - (k + 1) = j := by omega
  have e2 : P.length - k = j + 1 := by omega
  rw [List.getElem?_eq_getElem hjl] at hp
  injection hp with hp
  rw [e1, List.drop_eq_getElem_cons hjl, hp, ← fnd_put, ← e2]
  exact hm
theorem tys_cells_eq {w : World} {B : Nat} {ks : List Ty} {L : List (List Value)} {g o i : Nat} {c0 c1 c2 c3 : Value} (h : TysAt w B (some ⟨g, o, none⟩) ks L) (hi : i < ks.length)
    (k0 : w.cell? ⟨g, o + i * 4, none⟩ = some c0) (k1 : w.cell? ⟨g, o + i * 4 + 1, none⟩ = some c1) (k2 : w.cell? ⟨g, o + i * 4 + 2, none⟩ = some c2) (k3 : w.cell? ⟨g, o + i * 4 + 3, none⟩ = some c3) : L[i]'(by rw [h.row.len]; exact hi) = [c0, c1, c2, c3] := by
  obtain ⟨g', o', e, _, hl, h4, hc⟩ := h.row.cells (by omega) hi
  injection e with e
  injection e with e1 e2
  subst e1 e2
  obtain ⟨a0, a1, a2, a3, e4⟩ := four_of h4
  rw [e4] at hc
  have q0 := hc 0 a0 rfl
  have q1 := hc 1 a1 rfl
  have q2 := hc 2 a2 rfl
  have q3 := hc 3 a3 rfl
  rw [Nat.add_zero, k0] at q0
  rw [k1] at q1
  rw [k2] at q2
  rw [k3] at q3
  injection q0 with q0
  injection q1 with q1
  injection q2 with q2
  injection q3 with q3
  rw [e4, q0, q1, q2, q3]
theorem rev_get {α : Type} {l : List α} {k : Nat} {t : α} (h : l.reverse[k]? = some t) : ∃ hk : l.length - 1 - k < l.length, k < l.length ∧ l[l.length - 1 - k] = t := by
  have hk : k < l.length := by
    have := (List.getElem?_eq_some_iff.1 h).1
    simpa using this
  rw [List.getElem?_reverse hk, List.getElem?_eq_getElem (by omega)] at h
  injection h with h
  exact ⟨by omega, hk, h⟩

set_option maxHeartbeats 6400000 in
theorem put_any (names : List ByteArray) (ts : List Ty) (t : Ty) (A A' : Option Addr) (n c m c' B : Nat) (L : List (List Value)) (w : World) (cs : List Value) (hB : B ≤ w.heap.size) (hn : names.length = n) (hnc : n ≤ c) (hn9 : n ≤ 4000000) (hrd : Reads w w.heap.size 1 A n (nmVals names))
    (hns : ∀ s ∈ names, s.size ≤ maxLen) (hm : ts.length = m) (hm9 : m ≤ 4000000) (ha : TysAt w B A' ts L) (ht : t.nodes ≤ 4000000) (hx : TyAt w B cs t) :
    Calls Try.prog 26 #[.slice A n c, .slice A' m c', .agg cs.toArray] w (TyPost B (t.repl (putF names ts)) w) := by
  have hmf : ∀ (fn : Fn) (first cap : Array Value) (w : World), (Instr.makeFunc fn first cap).run Try.prog w = .ok (.func fn first cap) w := fun _ _ _ _ => rfl
  have hmm := @run_makeMap Try.prog
  have h4 := hx.four
  have oo := ty_ones hx
  obtain ⟨a0, a1, a2, a3, rfl⟩ := four_of h4
  have sa0 := store_one' a0 (oo a0 (by simp))
  have sa1 := store_one' a1 (oo a1 (by simp))
  have sa2 := store_one' a2 (oo a2 (by simp))
  have sa3 := store_one' a3 (oo a3 (by simp))
  obtain ⟨b, hb⟩ : ∃ b, w.heap.size = b := ⟨_, rfl⟩
  obtain ⟨q, hq⟩ : ∃ q, min n m = q := ⟨_, rfl⟩
  have hqn : q ≤ n := by omega
  have hqm : q ≤ m := by omega
  have hqc : q ≤ c := by omega
  have HX := Lib.hid hx
  have HN := Lib.hid hn
  have HM := Lib.hid hm
  have HRD := Lib.hid hrd
  have HNS := Lib.hid hns
  have HA := Lib.hid ha
  have HQ := Lib.hid hq
  clear oo h4 hx hn hm hrd hns ha hq
  refine (callsIn_wide (n := 10)).1 (callsIn_of_wp_marks Try.func26 rfl trivial (wpIn_wide.2 ?_) rfl)
  simp only [Try.ntmps26, List.size_toArray, List.length_cons, List.length_nil, Nat.reduceAdd, Nat.reduceSub, Array.replicate_succ, Array.replicate_zero, List.push_toArray, List.append_toArray, List.nil_append, List.cons_append]
  go_upto_region 2 with fail
  generalize hW5 : World.alloc _ _ = W5
  simp only [Nat.add_assoc, Nat.reduceAdd] at hW5 ⊢
  have h5 := five _ _ _ _ _ _ _ hW5.symm
  rw [hb] at h5
  obtain ⟨p0, p1, p2, p3, p4, hz, hbe⟩ := h5
  have n0 : Blk W5 b 22 #[.slice A' m c'] := p0
  have n1 : Blk W5 (b + 1) 24 #[a0, a1, a2, a3] := p1
  have n2 : Blk W5 (b + 2) 24 zTy := p2
  have n4 : Blk W5 (b + 4) 64 #[.map (some (b + 3))] := p4
  have hm5 : MapV W5 9 (b + 3) 0 (fun _ => none) := map_made _ p3
  have x0 := n0.cell 0
  simp only [List.getElem?_toArray, List.getElem?_cons_succ, List.getElem?_cons_zero] at x0
  have hmin : ∀ (w : World) (ts : Array TypeId) (t : TypeId), (Builtin.min_ ts t #[.int .i64 (n : Int), .int .i64 (m : Int)]).run Try.prog w = .ok (.int .i64 (q : Int)) w := fun w ts t => run_min_nat w ts t n m q HQ.out
  have hsl := fun w => run_slice_to w A n c q hqc
  have hsl2 := fun w => run_slice_to2 w A n c q hqc
  clear hW5
  go_wp2_with (go_at_call 43; (with_reducible refine (backS_any _ A q c).mono ?_); rintro e w6 ⟨rfl, hw6⟩)
  have hz6 : w6.heap.size = b + 6 := by rw [← hw6, alloc_size, hz]
  have hb56 : Below W5.heap.size W5 w6 := by rw [← hw6]; exact (Below.refl _ _).alloc (Nat.le_refl _) _
  have hbox6 : Blk w6 (b + 5) 34 #[.slice A q c] := by rw [← hw6, ← hz]; exact Blk.new _ _ _
  have n06 := n0.below hb56 n0.lt
  have n16 := n1.below hb56 n1.lt
  have n26 := n2.below hb56 n2.lt
  have n46 := n4.below hb56 n4.lt
  have hb6 : Below b w w6 := (hb ▸ hbe : Below b w W5).trans (hb56.mono (by omega))
  obtain ⟨l, hl⟩ : ∃ l, names.take q = l := ⟨_, rfl⟩
  have hlq : l.length = q := by rw [← hl, List.length_take, HN.out]; omega
  have hLm : L.length = m := by rw [HA.out.row.len, HM.out]
  obtain ⟨P, hP⟩ : ∃ P, prS l L = P := ⟨_, rfl⟩
  have hPq : P.length = q := by rw [← hP, prS_len, hlq, hLm]; omega
  have hPn : P = prS names L := by rw [← hP, ← hl]; exact prS_take _ _ _ (by rw [HN.out, hLm]; exact Nat.le_of_eq HQ.out)
  have hrl : Reads w b 1 A q (nmVals l) := by rw [← hl]; exact reads_take (by rw [← hb]; exact HRD.out) hqn
  have H06 := Lib.hid n06
  have H16 := Lib.hid n16
  have H26 := Lib.hid n26
  have H46 := Lib.hid n46
  have HBX := Lib.hid hbox6
  have HB6 := Lib.hid hb6
  have HZ6 := Lib.hid hz6
  have HM6 := Lib.hid (hm5.below hb56)
  have HLQ := Lib.hid hlq
  have HPQ := Lib.hid hPq
  have HPN := Lib.hid hPn
  have HP := Lib.hid hP
  have HL := Lib.hid hl
  have HRL := Lib.hid hrl
  have HLM := Lib.hid hLm
  have HBW := Lib.hid hb
  clear n0 n1 n2 n4 p0 p1 p2 p3 p4 hm5 hbe hb56 hbox6 n06 n16 n26 n46 hb6 hlq hPq hPn hP hl hrl hLm hmin hsl hsl2 hw6 x0 hz6
  refine range0 (gf := 58) (lb := #[.pointer (some ⟨b + 5, 0, none⟩)]) (N := l.length) (Rd := BkRdS l) (Ok := BkOkS l A c (b + 5)) (PutJ 9 (b + 3) P w6) ?hg (enters_of Try.func58 (by kernel_rfl) rfl) (iterS_any l A c (b + 5) (by rw [HLQ.out]; omega)) ?hps ?hOk ?hJ ?h0 ?hround ?hdone
  case hg => first | rfl | (rw [← hz]; rfl)
  case hps => rintro k args hk ⟨t', _, rfl⟩; rfl
  case hOk =>
    rintro k A' ⟨_, hch⟩
    refine ⟨by rw [HLQ.out]; exact (hch.block _ (by have := HZ6.out; omega) (by omega)).trans HBX.out, ?_⟩
    have hbA : Below b w A' := HB6.out.trans (hch.below (by have := HZ6.out; omega) (fun k hk => by omega))
    rw [HLQ.out]
    exact (HRL.out.below hbA).more (by have := hbA.size; have := HBW.out; omega)
  case hJ => exact fun k A' o h _ => putJ_put (by have := HZ6.out; omega) k A' o h
  case h0 =>
    intro W1' hb1 hs1
    refine ⟨?_, Chg.of_old hb1⟩
    rw [Nat.sub_zero, List.drop_length]
    exact HM6.out.below hb1
  case hround =>
    rintro k args Wr hk hJk ⟨x, hat, rfl⟩ hlW
    obtain ⟨hj1, hkl, hx⟩ := rev_get hat
    obtain ⟨j, hj⟩ : ∃ j, l.length - 1 - k = j := ⟨_, rfl⟩
    simp only [hj] at hj1 hx
    have hj2 : j = P.length - 1 - k := by rw [HPQ.out, ← HLQ.out]; exact hj.symm
    have hjm : j < ts.length := by have := HLQ.out; have := HM.out; omega
    have hpj : P[j]? = some (.string x.data.toList, L[j]'(by rw [HLM.out, ← HM.out]; exact hjm)) := by
      have h1 : j < P.length := by rw [HPQ.out, ← HLQ.out]; exact hj1
      rw [List.getElem?_eq_getElem h1]
      have hP := HP.out
      subst hP
      rw [prS_at l L j h1 hj1 (by rw [HLM.out, ← HM.out]; exact hjm), hx]
    have hxs : x.size ≤ maxLen := by
      refine HNS.out x ?_
      have : x ∈ l := by rw [← hx]; exact List.getElem_mem _
      rw [← HL.out] at this
      exact List.mem_of_mem_take this
    obtain ⟨g, o, c0, c1, c2, c3, hA', hgB, k0, k1, k2, k3, hta⟩ := HA.out.at_ hjm
    have hLj := HA.out.each j (by rw [HLM.out, ← HM.out]; exact hjm) hjm
    have hLe : L[j]'(by rw [HLM.out, ← HM.out]; exact hjm) = [c0, c1, c2, c3] := tys_cells_eq (hA' ▸ HA.out) hjm k0 k1 k2 k3
    rw [hLe] at hpj
    subst hA'
    have hJK := hJk
    obtain ⟨hmap, hch⟩ := hJk
    have HJM := Lib.hid hmap
    have HCH := Lib.hid hch
    have HJ2 := Lib.hid hj2
    have HPJ := Lib.hid hpj
    have HXS := Lib.hid hxs
    have hkP : k < P.length := by rw [HPQ.out, ← HLQ.out]; exact hkl
    have HKP := Lib.hid hkP
    have hjc : j < m := by rw [← HM.out]; exact hjm
    have hk9 : k < 4000000 := by have := HPQ.out; omega
    have hmx : Try.prog.follows .mixedOrders = true := by kernel_rfl
    rw [hj]
    clear hat hj1 hkl hj2 hjm hpj hxs hta hLj hLe hJK hmap hch hx hj hkP
    gi_wp2_with fail
    refine ⟨Below.refl _ _, ?_⟩
    intro W3 hc3
    have hz6 := HZ6.out
    have hbW3 : Below b w W3 := HB6.out.trans ((HCH.out.below (n := b) (by omega) (fun k hk => by omega)).trans (hc3.below (n := b) (by have := HCH.out.size; omega) (fun k hk => by omega)))
    have hsz3 : w6.heap.size + 2 ≤ W3.heap.size := Nat.le_trans (by omega) hc3.size
    have turn : ∀ (kk : Nat), kk < w6.heap.size → kk ≠ b + 3 → W3.heap[kk]? = w6.heap[kk]? := fun kk h1 h2 => (hc3.block kk (by have := HCH.out.size; omega) (by omega)).trans (HCH.out.block kk h1 h2)
    have e0 : Blk W3 b 22 #[.slice (some ⟨g, o, none⟩) m c'] := (turn _ (by omega) (by omega)).trans H06.out
    have e4 : Blk W3 (b + 4) 64 #[.map (some (b + 3))] := (turn _ (by omega) (by omega)).trans H46.out
    have y0 := e0.cell 0
    have y4 := e4.cell 0
    have z0 := (hbW3.cell (p := ⟨g, o + j * 4, none⟩) (by show g < b; omega)).trans k0
    have z1 := (hbW3.cell (p := ⟨g, o + j * 4 + 1, none⟩) (by show g < b; omega)).trans k1
    have z2 := (hbW3.cell (p := ⟨g, o + j * 4 + 2, none⟩) (by show g < b; omega)).trans k2
    have z3 := (hbW3.cell (p := ⟨g, o + j * 4 + 3, none⟩) (by show g < b; omega)).trans k3
    simp only [List.getElem?_toArray, List.getElem?_cons_succ, List.getElem?_cons_zero] at y0 y4
    have hm3 : MapV W3.drew 9 (b + 3) k (fnd (P.drop (P.length - k))) := HJM.out.blk (hc3.block _ HJM.out.lt (by omega))
    obtain ⟨w4, hmu, hm4, hg4⟩ := hm3.put (t := 64) (val := .agg #[c0, c1, c2, c3]) (by unfold maxLen; omega) keyed_str Try.underlying64 (key_str HXS.out) (lit_str _)
    have HM4 := Lib.hid hm4
    have HG4 := Lib.hid hg4
    have HC3 := Lib.hid hc3
    have HS3 := Lib.hid hsz3
    clear hm3 hm4 hg4 hc3 turn e0 e4 hbW3 k0 k1 k2 k3 hsz3 HJM
    have HFIN := Lib.hid (show PutJ 9 (b + 3) P w6 (k + 1) w4 ∧ ∀ i, i = w6.heap.size + 1 ∨ i = w6.heap.size → w4.heap[i]? = W3.heap[i]? from by
      have hg4 := HG4.out
      have hs := hg4.size
      have hs3 := HS3.out
      have hs3' : W3.drew.heap.size = W3.heap.size := rfl
      refine ⟨putJ_step HJ2.out HKP.out HPJ.out HM4.out ⟨hg4.os.trans (HC3.out.os.trans HCH.out.os), hg4.tape.trans (HC3.out.tape.trans HCH.out.tape), hg4.output.trans (HC3.out.output.trans HCH.out.output), by omega, fun kk hk hx => ?_⟩, fun i hi => ?_⟩
      · exact (hg4.block kk (by omega) (by intro e; injection e with e; exact hx e)).trans ((HC3.out.block kk (by have := HCH.out.size; omega) (by omega)).trans (HCH.out.block kk hk hx))
      · exact hg4.block i (by omega) (by intro e; injection e with e; omega))
    gi_wp2_with fail
    gi_region
    all_goals exact HFIN.out
  case hdone =>
    rintro D wd rfl ⟨hmap, hch⟩ hD
    have hz6 := HZ6.out
    have hzd := hch.size
    rw [show P.length - l.length = 0 by rw [HPQ.out, HLQ.out]; omega, List.drop_zero, HLQ.out] at hmap
    have t1 : Blk wd (b + 1) 24 #[a0, a1, a2, a3] := (hch.block _ (by omega) (by omega)).trans H16.out
    have t2 : Blk wd (b + 2) 24 zTy := (hch.block _ (by omega) (by omega)).trans H26.out
    have t4 : Blk wd (b + 4) 64 #[.map (some (b + 3))] := (hch.block _ (by omega) (by omega)).trans H46.out
    have hbd : Below b w wd := HB6.out.trans (hch.below (n := b) (by omega) (fun k hk => by omega))
    have hw := HBW.out
    have CR := Lib.hid (replp_any (putF names ts) B (b + 4) wd (by omega) (fun t' cs' W' hW' hx' => put1_any (fnd (prS names L)) (lookT names ts t'.nm) B (b + 3) (b + 4) q W' (by have := hW'.size; omega) (t4.below hW' t4.lt) (by rw [← HPN.out]; exact hmap.below hW') t' cs' hx'
      (fnd_look t'.nm names ts L HA.out.row.len (fun i h1 h2 => (HA.out.each i h1 h2).later ((hbd.trans (hW'.mono (by omega))).mono (by omega)))) _ rfl) t ht [a0, a1, a2, a3] (HX.out.later (hbd.mono (by omega))))
    have x0 := t1.cell 0
    have x1 := t1.cell 1
    have x2 := t1.cell 2
    have x3 := t1.cell 3
    simp only [zTy, List.getElem?_toArray, List.getElem?_cons_succ, List.getElem?_cons_zero] at x0 x1 x2 x3
    have HT2 := Lib.hid t2
    have HD := Lib.hid hD
    have HBD := Lib.hid hbd
    have HZ := Lib.hid hz6
    have HZD := Lib.hid hzd
    clear hmap hch hD t1 t2 t4 hbd hz6 hzd
    go_wp2_with (go_at_call 44; (with_reducible refine CR.out.mono ?_); rintro e w7 ⟨xs, rfl, hty, hb7⟩; (have hR := HT2.out.below hb7 HT2.out.lt); (have r0 := hR.cell 0); (have r1 := hR.cell 1); (have r2 := hR.cell 2); (have r3 := hR.cell 3); (simp only [zTy, List.getElem?_toArray, List.getElem?_cons_succ, List.getElem?_cons_zero] at r0 r1 r2 r3); (have fr0 := hR.frozen 0); (have fr1 := hR.frozen 1); (have fr2 := hR.frozen 2); (have fr3 := hR.frozen 3); (have oo := ty_ones hty); (obtain ⟨m0, m1, m2, m3, rfl⟩ := four_of (TyAt.four hty)); (have sm0 := store_one' m0 (oo m0 (by simp))); (have sm1 := store_one' m1 (oo m1 (by simp))); (have sm2 := store_one' m2 (oo m2 (by simp))); (have sm3 := store_one' m3 (oo m3 (by simp))))
    have hz6 := HZ.out
    have hzd := HZD.out
    have hz7 := hb7.size
    have hD9 : (put4 w7 (b + 2) m0 m1 m2 m3).heap[w6.heap.size]? = some (.deferred (some [])) := (heap_put4 w7 (b + 2) _ (by omega) m0 m1 m2 m3).trans ((hb7.block _ (Array.getElem?_eq_some_iff.1 HD.out).1).trans HD.out)
    have hDl := (Array.getElem?_eq_some_iff.1 HD.out).1
    have hp := putObj_chg (put4 w7 (b + 2) m0 m1 m2 m3) w6.heap.size (.deferred none)
    have hB10 : Blk ((put4 w7 (b + 2) m0 m1 m2 m3).putObj w6.heap.size (.deferred none)) (b + 2) 24 #[m0, m1, m2, m3] := (hp.block _ (hR.put4_ m0 m1 m2 m3).lt (by omega)).trans (hR.put4_ m0 m1 m2 m3)
    have hc10 : Chg (fun k => mid B wd.heap.size k = true) w7 ((put4 w7 (b + 2) m0 m1 m2 m3).putObj w6.heap.size (.deferred none)) := (chg_put4 (Chg.refl _ _) (.inl (mid_iff.2 (by omega))) _ _ _ _).trans (hp.mono fun k _ hk => by subst hk; exact mid_iff.2 (by omega))
    have hb10 : Below b w ((put4 w7 (b + 2) m0 m1 m2 m3).putObj w6.heap.size (.deferred none)) := (below_put4 (HBD.out.trans (hb7.mono (by omega))) (by omega) _ _ _ _).trans (hp.below (by rw [put4_size]; omega) (fun k hk => by omega))
    refine marks_any (v := .agg #[m0, m1, m2, m3]) (D := w6.heap.size) hD9 ?_ ?_
    · exact res_cell4 rfl rfl hB10 rfl
    · exact ⟨[m0, m1, m2, m3], rfl, (hty.later hc10).weaken fun k _ hk => mid_more (by omega) hk, by rw [hw]; exact hb10⟩

end Go.Proofs.Ytgmcjnhaedfinaa
