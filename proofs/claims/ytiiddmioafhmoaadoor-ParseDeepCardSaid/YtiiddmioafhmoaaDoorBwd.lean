/- Walks: an iterator over tokens, from the last one to the first. -/
import Derived.RangeFuncBound
import Derived.RangeFuncCalls
import Derived.Shelf.Abstract
import Derived.OwnWalkIn
import Derived.TacticsInMore
import Derived.LoopNIn
import Derived.LoopIn
import Derived.Deep.DeepCutAuto
import Derived.Deep.CutBlock
import Derived.Test.YtiiddmioafhmoaaDoorPtl
import Derived.Test.YtiiddmioafhmoaaDoorMgh
namespace Go.Proofs.YtiiddmioafhmoaaDoor
open Go.RowKit
set_option linter.unusedVariables false
set_option linter.unusedSimpArgs false
set_option maxRecDepth 100000
attribute [local go_sem] Oper.semAt_some

theorem yld_in' {P : Program} {l m : Nat} {f : FuncId} {tmps : Array Value} {assign body : Code} {w : World} {R : Ending → World → Prop} (h : ∀ m, RoundIn Fence.wide m P l f tmps assign body w R) : RoundIn Fence.wide m P l f tmps assign body w R := h m

set_option maxHeartbeats 1600000 in
theorem backward_any (w : World) (A : Option Addr) (n c : Nat) :
    Calls Tryd.prog 48 #[.slice A n c] w fun e w' => e = .returned (.func (.func 64) #[] #[.pointer (some ⟨w.heap.size, 0, none⟩)]) ∧ w.alloc (.cells #[.slice A n c] 43) = w' := by
  have hmf : ∀ (w0 : World) (f : Fn) (a b : Array Value), (Instr.makeFunc f a b).run Tryd.prog w0 = .ok (.func f a b) w0 := fun _ _ _ _ => rfl
  go_enter Tryd.func48, Tryd.ntmps48
  go_wp2_with fail
  go_ret
  exact ⟨rfl, rfl⟩

/-- What a round over tokens is handed: the last one first. -/
def BkRd (l : List Tk) (k : Nat) (args : Array Value) : Prop := ∃ t, l.reverse[k]? = some t ∧ args = #[.int .i64 ((l.length - 1 - k : Nat) : Int), tkV t]

theorem rev_at {l : List Tk} {i : Nat} (h : i < l.length) : l.reverse[l.length - 1 - i]? = some l[i] := by
  rw [List.getElem?_reverse (by omega)]
  rw [show l.length - 1 - (l.length - 1 - i) = i by omega]
  exact List.getElem?_eq_getElem h

/-- What the iterator reads: its variable, and the row. -/
def BkOk (l : List Tk) (g o c b : Nat) (W : World) : Prop := Blk W b 43 #[.slice (some ⟨g, o, none⟩) l.length c] ∧
    ∀ (i : Nat) (h : i < l.length), W.cell? ⟨g, o + i * 4, none⟩ = some (.int .i64 l[i].kind) ∧ W.cell? ⟨g, o + i * 4 + 1, none⟩ = some (.string ⟨l[i].text.toArray⟩) ∧ W.cell? ⟨g, o + i * 4 + 2, none⟩ = some (.int .i64 l[i].num) ∧ W.cell? ⟨g, o + i * 4 + 3, none⟩ = some (.int .i64 l[i].pos)

set_option maxHeartbeats 6400000 in
theorem back_iter (l : List Tk) (g o c b : Nat) (hl : 0 < l.length) (hl6 : l.length ≤ 60002) :
    Iter0 Tryd.prog 64 #[.pointer (some ⟨b, 0, none⟩)] l.length (BkRd l) (BkOk l g o c b) := by
  intro y J W hOk hY h0
  obtain ⟨n, hn⟩ : ∃ n, l.length = n := ⟨_, rfl⟩
  have hbox := (hOk 0 W h0).1
  rw [hn] at hbox hl hl6 hY ⊢
  have hc0 := hbox.cell 0
  simp only [List.getElem?_toArray, List.getElem?_cons_zero] at hc0
  have HOK := Lib.hid hOk
  have HY := Lib.hid hY
  have H0 := Lib.hid h0
  have HN := Lib.hid hn
  clear hbox hOk hY h0
  refine (callsIn_wide (n := 10)).1 (callsIn_of_wp Tryd.func64 rfl trivial (wpIn_wide.2 ?_) rfl)
  simp only [Tryd.ntmps64, List.size_toArray, List.length_cons, List.length_nil, Nat.reduceAdd, Nat.reduceSub, Array.replicate_succ, Array.replicate_zero, List.push_toArray, List.append_toArray, List.nil_append, List.cons_append]
  refine (wpIn_wide (n := 10)).1 ?_
  gi_wp2_with fail
  gi_loopw [3] (fun i wr => ∃ k : Nat, i = .int .i64 ((n : Int) - 1 - k) ∧ k ≤ n ∧ J k wr) (fun i _ => ((intOf i) + 1).toNat)
  case atStart => exact ⟨0, by go_num, Nat.zero_le _, H0.out⟩
  case round =>
    obtain ⟨k, rfl, hk, hj⟩ := hrel
    have hb0 := (HOK.out k wr hj).1.cell 0
    rw [HN.out] at hb0
    simp only [List.getElem?_toArray, List.getElem?_cons_zero] at hb0
    have HJK := Lib.hid hj
    clear hj
    by_cases hlt : k < n
    · obtain ⟨j, hj⟩ : ∃ j : Nat, n - 1 - k = j := ⟨_, rfl⟩
      have hjn : j < n := by omega
      have hje : (n : Int) - 1 - k = (j : Int) := by omega
      rw [hje]
      obtain ⟨t, hat, m0, m1, m2, m3⟩ : ∃ t, l.reverse[k]? = some t ∧ wr.cell? ⟨g, o + j * 4, none⟩ = some (.int .i64 t.kind) ∧ wr.cell? ⟨g, o + j * 4 + 1, none⟩ = some (.string ⟨t.text.toArray⟩) ∧ wr.cell? ⟨g, o + j * 4 + 2, none⟩ = some (.int .i64 t.num) ∧ wr.cell? ⟨g, o + j * 4 + 3, none⟩ = some (.int .i64 t.pos) := by
        have hn := HN.out
        subst hn
        obtain ⟨k0, k1, k2, k3⟩ := (HOK.out k wr HJK.out).2 j hjn
        have hat := rev_at (l := l) hjn
        rw [show l.length - 1 - j = k by omega] at hat
        exact ⟨l[j], hat, k0, k1, k2, k3⟩
      obtain ⟨fn, tmps, assign, body, hy, hR⟩ := HY.out k wr #[.int .i64 (j : Int), .agg #[.int .i64 t.kind, .string ⟨t.text.toArray⟩, .int .i64 t.num, .int .i64 t.pos]] hlt HJK.out ⟨t, hat, by rw [HN.out, hj]; rfl⟩
      have HJN := Lib.hid hj
      clear hat hj hje
      gi_wp2_with ((with_reducible refine (yld_in' hR).mono ?_); clear hR hy; rintro e5 W5 ⟨rfl, hj5⟩)
      have HF := Lib.hid hj5
      clear hj5
      gi_wp2_with fail
      go_roundw
      case rel => exact ⟨k + 1, by have := HJN.out; go_num, by omega, HF.out⟩
      case measure => simp [intOf]
    · obtain rfl : k = n := by omega
      have hje : (k : Int) - 1 - k = -1 := by omega
      rw [hje]
      gi_wp2_with fail
      exact bodyPost_end (results_none rfl _ _ _) rfl ⟨⟨_, rfl⟩, HJK.out⟩

end Go.Proofs.YtiiddmioafhmoaaDoor
