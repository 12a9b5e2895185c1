/- Walks: iterators over names and over substitutions, from the last one to the first; what has been found, as a map. -/
import Derived.RangeFuncBound
import Derived.RangeFuncCalls
import Derived.Shelf.Abstract
import Derived.OwnWalkIn
import Derived.TacticsInMore
import Derived.LoopNIn
import Derived.LoopIn
import Derived.Deep.DeepCutAuto
import Derived.Deep.CutBlock
import Derived.Test.YtgmcjnhaedfinaaRgo
import Derived.Test.YtgmcjnhaedfinaaQra
namespace Go.Proofs.Ytgmcjnhaedfinaa
open Go.RowKit Go.Maps
set_option linter.unusedVariables false
set_option linter.unusedSimpArgs false
set_option maxRecDepth 100000
attribute [local go_sem] Oper.semAt_some

theorem yld_in' {P : Program} {l m : Nat} {f : FuncId} {tmps : Array Value} {assign body : Code} {w : World} {R : Ending → World → Prop} (h : ∀ m, RoundIn Fence.wide m P l f tmps assign body w R) : RoundIn Fence.wide m P l f tmps assign body w R := h m
theorem rev_at {α : Type} {l : List α} {i : Nat} (h : i < l.length) : l.reverse[l.length - 1 - i]? = some l[i] := by
  rw [List.getElem?_reverse (by omega)]
  rw [show l.length - 1 - (l.length - 1 - i) = i by omega]
  exact List.getElem?_eq_getElem h
/-- What has been found: the first entry of a key counts. -/
def fnd : List (Lit × List Value) → Lit → Option Value
  | [], _ => none
  | p :: l, s => if s.sameKey p.1 = true then some (.agg p.2.toArray) else fnd l s
theorem fnd_put (l : List (Lit × List Value)) (k : Lit) (cs : List Value) : updV (fnd l) k (.agg cs.toArray) = fnd ((k, cs) :: l) := by funext s; rfl
/-- Names and what stands for them, as far as both go. -/
def prS : List ByteArray → List (List Value) → List (Lit × List Value)
  | a :: l, c :: L => (.string a.data.toList, c) :: prS l L
  | _, _ => []
theorem prS_len : ∀ (l : List ByteArray) (L : List (List Value)), (prS l L).length = min l.length L.length
  | [], L => by simp [prS]
  | a :: l, [] => by simp [prS]
  | a :: l, c :: L => by simp only [prS, List.length_cons, prS_len l L]; omega
theorem prS_at : ∀ (l : List ByteArray) (L : List (List Value)) (i : Nat) (h : i < (prS l L).length) (h1 : i < l.length) (h2 : i < L.length), (prS l L)[i] = (.string l[i].data.toList, L[i])
  | a :: l, c :: L, 0, _, _, _ => rfl
  | a :: l, c :: L, i + 1, h, h1, h2 => by
    simp only [prS, List.getElem_cons_succ]
    exact prS_at l L i (by simpa [prS] using h) (by simpa using h1) (by simpa using h2)
  | [], L, i, h, _, _ => by simp [prS] at h
  | a :: l, [], i, h, _, _ => by simp [prS] at h
theorem fnd_look {W : World} {B : Nat} (x : ByteArray) : ∀ (names : List ByteArray) (ts : List Ty) (L : List (List Value)), L.length = ts.length → (∀ i (h1 : i < L.length) (h2 : i < ts.length), TyAt W B L[i] ts[i]) →
    match lookT names ts x with
    | some u => ∃ cs : List Value, fnd (prS names L) (.string x.data.toList) = some (.agg cs.toArray) ∧ TyAt W B cs u
    | none => fnd (prS names L) (.string x.data.toList) = none
  | [], ts, L, _, _ => by simp [lookT, prS, fnd]
  | a :: l, [], L, hl, _ => by
    have : L = [] := List.eq_nil_of_length_eq_zero (by simpa using hl)
    subst this
    simp [lookT, prS, fnd]
  | a :: l, t :: ts, [], hl, _ => by simp at hl
  | a :: l, t :: ts, c :: L, hl, hT => by
    have ih := fnd_look x l ts L (by simpa using hl) (fun i h1 h2 => hT (i + 1) (by simp; omega) (by simp; omega))
    have e : (Lit.string x.data.toList).sameKey (Lit.string a.data.toList) = nmEq a x := by
      show (x.data.toList == a.data.toList) = (a.data.toList == x.data.toList)
      rw [Bool.eq_iff_iff, beq_iff_eq, beq_iff_eq]; exact eq_comm
    simp only [lookT, prS, fnd, e]
    cases hn : nmEq a x with
    | true =>
      simp only [if_true]
      exact ⟨c, rfl, hT 0 (by simp) (by simp)⟩
    | false => simpa using ih

set_option maxHeartbeats 1600000 in
theorem backS_any (w : World) (A : Option Addr) (n c : Nat) :
    Calls Try.prog 43 #[.slice A n c] w fun e w' => e = .returned (.func (.func 58) #[] #[.pointer (some ⟨w.heap.size, 0, none⟩)]) ∧ w.alloc (.cells #[.slice A n c] 34) = w' := by
  have hmf : ∀ (w0 : World) (f : Fn) (a b : Array Value), (Instr.makeFunc f a b).run Try.prog w0 = .ok (.func f a b) w0 := fun _ _ _ _ => rfl
  go_enter Try.func43, Try.ntmps43
  go_wp2_with fail
  go_ret
  exact ⟨rfl, rfl⟩
/-- What a round is handed: the last one first. -/
def BkRdS (l : List ByteArray) (k : Nat) (args : Array Value) : Prop := ∃ t, l.reverse[k]? = some t ∧ args = #[.int .i64 ((l.length - 1 - k : Nat) : Int), .string t]
/-- What the iterator reads: its variable, and the row. -/
def BkOkS (l : List ByteArray) (A : Option Addr) (c b : Nat) (W : World) : Prop := Blk W b 34 #[.slice A l.length c] ∧ Reads W W.heap.size 1 A l.length (nmVals l)
set_option maxHeartbeats 6400000 in
theorem iterS_any (l : List ByteArray) (A : Option Addr) (c b : Nat) (hl6 : l.length ≤ 4000000) :
    Iter0 Try.prog 58 #[.pointer (some ⟨b, 0, none⟩)] l.length (BkRdS l) (BkOkS l A c b) := by
  intro y J W hOk hY h0
  obtain ⟨n, hn⟩ : ∃ n, l.length = n := ⟨_, rfl⟩
  have hbox := (hOk 0 W h0).1
  rw [hn] at hbox hl6 hY ⊢
  have hc0 := hbox.cell 0
  simp only [List.getElem?_toArray, List.getElem?_cons_zero] at hc0
  have HOK := Lib.hid hOk
  have HY := Lib.hid hY
  have H0 := Lib.hid h0
  have HN := Lib.hid hn
  clear hbox hOk hY h0
  refine (callsIn_wide (n := 10)).1 (callsIn_of_wp Try.func58 rfl trivial (wpIn_wide.2 ?_) rfl)
  simp only [Try.ntmps58, List.size_toArray, List.length_cons, List.length_nil, Nat.reduceAdd, Nat.reduceSub, Array.replicate_succ, Array.replicate_zero, List.push_toArray, List.append_toArray, List.nil_append, List.cons_append]
  refine (wpIn_wide (n := 10)).1 ?_
  gi_wp2_with fail
  gi_loopw [3] (fun i wr => ∃ k : Nat, i = .int .i64 ((n : Int) - 1 - k) ∧ k ≤ n ∧ J k wr) (fun i _ => ((intOf i) + 1).toNat)
  case atStart => exact ⟨0, by go_num, Nat.zero_le _, H0.out⟩
  case round =>
    obtain ⟨k, rfl, hk, hj⟩ := hrel
    have hb0 := (HOK.out k wr hj).1.cell 0
    rw [HN.out] at hb0
    simp only [List.getElem?_toArray, List.getElem?_cons_zero] at hb0
    have HJK := Lib.hid hj
    clear hj
    by_cases hlt : k < n
    · obtain ⟨j, hj⟩ : ∃ j : Nat, n - 1 - k = j := ⟨_, rfl⟩
      have hjn : j < n := by omega
      have hje : (n : Int) - 1 - k = (j : Int) := by omega
      rw [hje]
      obtain ⟨ad, rfl, t, hat, m0⟩ : ∃ ad, A = some ad ∧ ∃ t, l.reverse[k]? = some t ∧ wr.cell? (ad.add j) = some (.string t) := by
        have hn := HN.out
        subst hn
        obtain ⟨ad, e, _, hl, hc⟩ := nm_at (HOK.out k wr HJK.out).2 hjn
        have hat := rev_at (l := l) hjn
        rw [show l.length - 1 - j = k by omega] at hat
        exact ⟨ad, e, l[j], hat, hc⟩
      obtain ⟨fn, tmps, assign, body, hy, hR⟩ := HY.out k wr #[.int .i64 (j : Int), .string t] hlt HJK.out ⟨t, hat, by rw [HN.out, hj]; try rfl⟩
      have HJN := Lib.hid hj
      clear hat hj hje
      gi_wp2_with ((with_reducible refine (yld_in' hR).mono ?_); clear hR hy; rintro e5 W5 ⟨rfl, hj5⟩)
      have HF := Lib.hid hj5
      clear hj5
      gi_wp2_with fail
      go_roundw
      case rel => exact ⟨k + 1, by have := HJN.out; go_num, by omega, HF.out⟩
      case measure => simp [intOf]
    · obtain rfl : k = n := by omega
      have hje : (k : Int) - 1 - k = -1 := by omega
      rw [hje]
      gi_wp2_with fail
      exact bodyPost_end (results_none rfl _ _ _) rfl ⟨⟨_, rfl⟩, HJK.out⟩

set_option maxHeartbeats 1600000 in
theorem backB_any (w : World) (A : Option Addr) (n c : Nat) :
    Calls Try.prog 47 #[.slice A n c] w fun e w' => e = .returned (.func (.func 60) #[] #[.pointer (some ⟨w.heap.size, 0, none⟩)]) ∧ w.alloc (.cells #[.slice A n c] 42) = w' := by
  have hmf : ∀ (w0 : World) (f : Fn) (a b : Array Value), (Instr.makeFunc f a b).run Try.prog w0 = .ok (.func f a b) w0 := fun _ _ _ _ => rfl
  go_enter Try.func47, Try.ntmps47
  go_wp2_with fail
  go_ret
  exact ⟨rfl, rfl⟩
/-- What a round is handed: the last one first. -/
def BkRdB (l : List (List Value)) (k : Nat) (args : Array Value) : Prop := ∃ t, l.reverse[k]? = some t ∧ args = #[.int .i64 ((l.length - 1 - k : Nat) : Int), (fun cs : List Value => Value.agg cs.toArray) t]
/-- What the iterator reads: its variable, and the row. -/
def BkOkB (l : List (List Value)) (A : Option Addr) (c b : Nat) (W : World) : Prop := Blk W b 42 #[.slice A l.length c] ∧ Row W W.heap.size 5 A l.length l
set_option maxHeartbeats 6400000 in
theorem iterB_any (l : List (List Value)) (A : Option Addr) (c b : Nat) (hl6 : l.length ≤ 4000000) :
    Iter0 Try.prog 60 #[.pointer (some ⟨b, 0, none⟩)] l.length (BkRdB l) (BkOkB l A c b) := by
  intro y J W hOk hY h0
  obtain ⟨n, hn⟩ : ∃ n, l.length = n := ⟨_, rfl⟩
  have hbox := (hOk 0 W h0).1
  rw [hn] at hbox hl6 hY ⊢
  have hc0 := hbox.cell 0
  simp only [List.getElem?_toArray, List.getElem?_cons_zero] at hc0
  have HOK := Lib.hid hOk
  have HY := Lib.hid hY
  have H0 := Lib.hid h0
  have HN := Lib.hid hn
  clear hbox hOk hY h0
  refine (callsIn_wide (n := 10)).1 (callsIn_of_wp Try.func60 rfl trivial (wpIn_wide.2 ?_) rfl)
  simp only [Try.ntmps60, List.size_toArray, List.length_cons, List.length_nil, Nat.reduceAdd, Nat.reduceSub, Array.replicate_succ, Array.replicate_zero, List.push_toArray, List.append_toArray, List.nil_append, List.cons_append]
  refine (wpIn_wide (n := 10)).1 ?_
  gi_wp2_with fail
  gi_loopw [3] (fun i wr => ∃ k : Nat, i = .int .i64 ((n : Int) - 1 - k) ∧ k ≤ n ∧ J k wr) (fun i _ => ((intOf i) + 1).toNat)
  case atStart => exact ⟨0, by go_num, Nat.zero_le _, H0.out⟩
  case round =>
    obtain ⟨k, rfl, hk, hj⟩ := hrel
    have hb0 := (HOK.out k wr hj).1.cell 0
    rw [HN.out] at hb0
    simp only [List.getElem?_toArray, List.getElem?_cons_zero] at hb0
    have HJK := Lib.hid hj
    clear hj
    by_cases hlt : k < n
    · obtain ⟨j, hj⟩ : ∃ j : Nat, n - 1 - k = j := ⟨_, rfl⟩
      have hjn : j < n := by omega
      have hje : (n : Int) - 1 - k = (j : Int) := by omega
      rw [hje]
      obtain ⟨g, o, rfl, c0, c1, c2, c3, c4, hat, m0, m1, m2, m3, m4⟩ : ∃ g o, A = some ⟨g, o, none⟩ ∧ ∃ c0 c1 c2 c3 c4, l.reverse[k]? = some [c0, c1, c2, c3, c4] ∧ wr.cell? ⟨g, o + j * 5, none⟩ = some c0 ∧ wr.cell? ⟨g, o + j * 5 + 1, none⟩ = some c1 ∧ wr.cell? ⟨g, o + j * 5 + 2, none⟩ = some c2 ∧ wr.cell? ⟨g, o + j * 5 + 3, none⟩ = some c3 ∧ wr.cell? ⟨g, o + j * 5 + 4, none⟩ = some c4 := by
        have hn := HN.out
        subst hn
        obtain ⟨g, o, e, _, hl, h5, hc⟩ := (HOK.out k wr HJK.out).2.cells (by omega) hjn
        have hat := rev_at (l := l) hjn
        rw [show l.length - 1 - j = k by omega] at hat
        obtain ⟨c0, c1, c2, c3, c4, e5⟩ := five_of h5
        rw [e5] at hat hc
        exact ⟨g, o, e, c0, c1, c2, c3, c4, hat, hc 0 c0 rfl, hc 1 c1 rfl, hc 2 c2 rfl, hc 3 c3 rfl, hc 4 c4 rfl⟩
      obtain ⟨fn, tmps, assign, body, hy, hR⟩ := HY.out k wr #[.int .i64 (j : Int), .agg #[c0, c1, c2, c3, c4]] hlt HJK.out ⟨[c0, c1, c2, c3, c4], hat, by rw [HN.out, hj]; try rfl⟩
      have HJN := Lib.hid hj
      clear hat hj hje
      gi_wp2_with ((with_reducible refine (yld_in' hR).mono ?_); clear hR hy; rintro e5 W5 ⟨rfl, hj5⟩)
      have HF := Lib.hid hj5
      clear hj5
      gi_wp2_with fail
      go_roundw
      case rel => exact ⟨k + 1, by have := HJN.out; go_num, by omega, HF.out⟩
      case measure => simp [intOf]
    · obtain rfl : k = n := by omega
      have hje : (k : Int) - 1 - k = -1 := by omega
      rw [hje]
      gi_wp2_with fail
      exact bodyPost_end (results_none rfl _ _ _) rfl ⟨⟨_, rfl⟩, HJK.out⟩

end Go.Proofs.Ytgmcjnhaedfinaa
