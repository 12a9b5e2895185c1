/-
  The law 'LexWords' of the document's layer returns true for every input, and leaves what it was given as it was. No condition.
-/
import Derived.Test.YtlojlgchiemkjaaDoorRows
import Derived.WalkKit
import Derived.ProofKit
import Derived.OpenShut
import Derived.ShutString
import Derived.ChangeOld
import Derived.Below
import Derived.Carry
import Derived.Lib.SmallJoins
import Derived.Test.YtlojlgchiemkjaaDoorCards
import Derived.Test.YtlojlgchiemkjaaDoorTie
import Derived.LaidMore
import Derived.Lay
import Derived.SevenTiedAt
import Derived.Stop.Joined
import Derived.Test.YtlojlgchiemkjaaDoorAwake03
import Derived.Test.YtlojlgchiemkjaaDoorRefc03
namespace Go.Proofs.YtlojlgchiemkjaaDoor.lexWords
open Go.Proofs.YtlojlgchiemkjaaDoor
open Go.ChangeShapes Go.WideShapes Go.ChangeAt Go.RowKit Go.Joins
open Go.ChangeMaps (open_string shut_string)
set_option linter.unusedVariables false

theorem own : ownKnob Tryd.prog.godebug = none := by kernel_rfl
theorem laidOut : laidOutB Tryd.prog = true := by kernel_rfl

set_option maxHeartbeats 3200000 in
theorem walk (a0 : ByteArray) (w : World) (w0 : a0.size ≤ maxLen) :
    Calls Tryd.prog 3 #[.string a0] w fun e w' => e = .returned (.bool true) ∧ Below w.heap.size w w' := by
  by_cases h200 : 200 < a0.size
  · have d0 : decide ((200 : Int) < (a0.size : Int)) = true := by simp; omega
    go_enter Tryd.func3, Tryd.ntmps3
    go_wp2_with (go_at_call 5; refine (awake03_any _).mono ?_; rintro e w2 ⟨rfl, hg⟩)
    go_ret
    exact ⟨rfl, hg⟩
  · have d0 : decide ((200 : Int) < (a0.size : Int)) = false := by simp; omega
    obtain ⟨u1, hu1⟩ : ∃ u1, isKeyL a0.data.toList = u1 := ⟨_, rfl⟩
    obtain ⟨u2, hu2⟩ : ∃ u2, isMarkL a0.data.toList = u2 := ⟨_, rfl⟩
    obtain ⟨u3, hu3⟩ : ∃ u3, rLow a0.data.toList = u3 := ⟨_, rfl⟩
    obtain ⟨u4, hu4⟩ : ∃ u4, rUp a0.data.toList = u4 := ⟨_, rfl⟩
    obtain ⟨u5, hu5⟩ : ∃ u5, rOp a0.data.toList = u5 := ⟨_, rfl⟩
    have Lu1 := Lib.hid (fun w => lkey_any a0 u1 (Lib.hid hu1) w w0)
    have Ru1 := Lib.hid (fun w => rkey_any a0 u1 (Lib.hid hu1) w)
    have Lu2 := Lib.hid (fun w => lmark_any a0 u2 (Lib.hid hu2) w w0)
    have Ru2 := Lib.hid (fun w => rmark_any a0 u2 (Lib.hid hu2) w)
    have Lu3 := Lib.hid (fun w => llow_any a0 u3 (Lib.hid hu3) w w0)
    have Ru3 := Lib.hid (fun w => rlow_any a0 u3 (Lib.hid hu3) w w0)
    have Lu4 := Lib.hid (fun w => lup_any a0 u4 (Lib.hid hu4) w w0)
    have Ru4 := Lib.hid (fun w => rup_any a0 u4 (Lib.hid hu4) w w0)
    have Lu5 := Lib.hid (fun w => lop_any a0 u5 (Lib.hid hu5) w w0)
    have Ru5 := Lib.hid (fun w => rop_any a0 u5 (Lib.hid hu5) w w0)
    clear hu1 hu2 hu3 hu4 hu5
    go_enter Tryd.func3, Tryd.ntmps3
    go_wp2_with (first | (go_at_call 5; refine (awake03_any _).mono ?_; rintro e w2 ⟨rfl, hg⟩) | (go_at_call 6; (with_reducible refine (Lu1.out _).mono ?_); rintro e w' ⟨rfl, rfl⟩) | (go_at_call 7; (with_reducible refine (Ru1.out _).mono ?_); rintro e wn ⟨rfl, hb0⟩) | (go_at_call 8; (with_reducible refine (Lu2.out _).mono ?_); rintro e w' ⟨rfl, rfl⟩) | (go_at_call 9; (with_reducible refine (Ru2.out _).mono ?_); rintro e wn ⟨rfl, hb1⟩) | (go_at_call 10; (with_reducible refine (Lu3.out _).mono ?_); rintro e w' ⟨rfl, rfl⟩) | (go_at_call 11; (with_reducible refine (Ru3.out _).mono ?_); rintro e wn ⟨rfl, hb2⟩) | (go_at_call 12; (with_reducible refine (Lu4.out _).mono ?_); rintro e w' ⟨rfl, rfl⟩) | (go_at_call 13; (with_reducible refine (Ru4.out _).mono ?_); rintro e wn ⟨rfl, hb3⟩) | (go_at_call 14; (with_reducible refine (Lu5.out _).mono ?_); rintro e w' ⟨rfl, rfl⟩) | (go_at_call 15; (with_reducible refine (Ru5.out _).mono ?_); rintro e wn ⟨rfl, hb4⟩))
    go_ret
    have g0 := hg.trans (hb0.mono hg.size)
    have g1 := g0.trans (hb1.mono g0.size)
    have g2 := g1.trans (hb2.mono g1.size)
    have g3 := g2.trans (hb3.mono g2.size)
    exact ⟨rfl, g3.trans (hb4.mono g3.size)⟩

set_option maxRecDepth 100000 in
theorem lifted (os : Os) (started : os.Started) (H : Type) (enc : TypeId × Value → H) :
    ReturnsInHanded {} Tryd.checked os 3 .any (fun w args => (Rows.lexWordsSpec.pre enc Tryd.prog Tryd.f3 Rows.lexWordsRow.domain false w args ∧ laidMetH Tryd.prog Rows.lexWordsRow.laid w) ∧ sizedMet enc Tryd.prog Tryd.f3 (OpenSpec.ofChange Rows.lexWordsSpec) false w args) (Rows.lexWordsSpec.post enc Tryd.prog Tryd.f3 false true false false) := by
  refine returnsInHanded_of_change_and (C := Tryd.checked) (X := fun w _ => laidMetH Tryd.prog Rows.lexWordsRow.laid w) (fun _ _ _ hh h => h.of_heap hh) own started (by kernel_rfl) Tryd.func3
    (ChangeSpec.witness_shaped (enc := enc) (C := Tryd.checked) (os := os) (X := fun w _ => laidMetH Tryd.prog Rows.lexWordsRow.laid w) false (World.laidAll Tryd.prog os Rows.lexWordsRow.laid) #[.string ByteArray.empty] 8 (World.laidAll_os _ _ _)
      (World.shaped_of_ZipB (by kernel_rfl) (by kernel_rfl)) (by kernel_rfl) (by kernel_rfl) (by kernel_rfl)
      (by rw [MakeChecks.laidMetH_plain _ _ _ (by kernel_rfl)]; exact laidMet_laidAll _ (by kernel_rfl) (by kernel_rfl))) ?_
  intro W base args ds gs before hval0 hW hcnd _ hL _
  have hval : ∀ (j : Nat) t v, Tryd.f3.params[j]? = some t → args[j]? = some v → Value.okWide Tryd.prog W .any base t v := hval0
  have hW' := hW
  obtain ⟨p, q, hA0, hV, rfl, hfz, hnd⟩ := hW
  have hA : DataW.TrodAll enc Tryd.prog W 0 (fun _ => true) true Tryd.f3.params.toList args.toList ds p := hA0
  rw [Tryd.params3] at hA hval
  obtain ⟨v0, vs0, d0, ds0, p0, q0, hargs, rfl, rfl, h0, r0⟩ := trodAll_cons hA
  obtain ⟨rfl, rfl, rfl⟩ := trodAll_nil r0
  obtain rfl : args = #[v0] := by cases args; simp_all
  obtain ⟨rfl, rfl⟩ := trodVars_none hV
  have k0 := h0
  have lt0 : ∀ x ∈ p0, x.block < W.heap.size := by obtain ⟨m, hm⟩ := k0; exact DataW.trod_lt m _ _ _ hm
  obtain ⟨a0, rfl, rfl, rfl, w0⟩ := open_string Tryd.underlying9 (hval 0 9 v0 rfl rfl) h0
  clear hA0 hval0
  refine (walk a0 W w0).mono fun e W' ⟨he, bel⟩ => ?_
  subst he
  exact ⟨_, rfl, _, _, _, [], _, [], hW', trodAll_mk1 (shut_bool Tryd.underlying4 _), (trodAll_cons_mk (Below.trod laidOut (by kernel_rfl) (of_decide_eq_true (by kernel_rfl)) k0 bel lt0) trodAll_mk0), rfl, bel.frame _, fun h => by cases h⟩

theorem over : Rows.lexWordsRow.holds Tryd.pinned (OpenSpec.ofChange Rows.lexWordsSpec) :=
  OpenClaim.holds_of_wide 3 Tryd.f3 rfl rfl rfl rfl rfl rfl rfl ⟨rfl, rfl, rfl, rfl, rfl⟩ rfl rfl rfl rfl rfl (by kernel_rfl) Tryd.func3 (by kernel_rfl)
    (of_decide_eq_true (by kernel_rfl)) (by unfold Func.isWrapper; first | (rw [if_pos (by decide +kernel)]; kernel_rfl) | (rw [if_neg (by decide +kernel)]; exact ⟨rfl, rfl⟩))
    (fun os started H enc _ => lifted os started H enc)

theorem plain (f : FuncId) (fn : Func) (hf : Tryd.pinned.checked.prog.funcNamed "cognate/cognatelaw03.LexWords" = some f) (hfn : Tryd.pinned.checked.prog.funcs[f]? = some fn) :
    false = Tryd.pinned.checked.prog.looks [] ∧ ∀ (j : Nat) t, fn.params[j]? = some t → Tryd.pinned.checked.prog.wantsStandIn t = false := by
  obtain rfl : f = 3 := Option.some.inj ((show Tryd.prog.funcNamed "cognate/cognatelaw03.LexWords" = some 3 by kernel_rfl).symm.trans hf) |>.symm
  obtain rfl : fn = Tryd.f3 := (Option.some.inj (Tryd.func3.symm.trans hfn)).symm
  refine ⟨by kernel_rfl, fun j t ht => ?_⟩
  rw [Tryd.params3] at ht
  have hm : t ∈ [9] := by have := Array.mem_of_getElem? ht; simpa using this
  have hall : ([9].all fun u => !Tryd.prog.wantsStandIn u) = true := by kernel_rfl
  exact (show Tryd.prog.wantsStandIn t = false by simpa using List.all_eq_true.1 hall t hm)

/-- The statement: the card. -/
theorem proved : Rows.LexWordsCardSaid :=
  Claim7.holds_tied_plain_at .later [] _ _ _ _ over (fun _ h => by cases h) (by kernel_rfl) (fun _ h => by cases h) lexWords_row_tie rfl ⟨rfl, rfl⟩ (by kernel_rfl) rfl plain (by kernel_rfl)
#print axioms proved
end Go.Proofs.YtlojlgchiemkjaaDoor.lexWords
