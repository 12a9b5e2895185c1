/-
  The law 'FixOrders' of the document's layer returns true for every input, and leaves what it was given as it was. No condition.
-/
import Derived.Test.YtcfehoollfgmhaaRows
import Derived.WalkKit
import Derived.ProofKit
import Derived.OpenShut
import Derived.ShutString
import Derived.ChangeOld
import Derived.Below
import Derived.Carry
import Derived.Lib.SmallJoins
import Derived.SliceStrings
import Derived.Test.YtcfehoollfgmhaaFixf
namespace Go.Proofs.Ytcfehoollfgmhaa.fixOrders
open Go.Proofs.Ytcfehoollfgmhaa
open Go.ChangeShapes Go.WideShapes Go.ChangeAt Go.RowKit Go.Joins
open Go.ChangeMaps (open_string shut_string)
set_option linter.unusedVariables false

theorem own : ownKnob Try.prog.godebug = none := by kernel_rfl
theorem laidOut : laidOutB Try.prog = true := by kernel_rfl

set_option maxHeartbeats 3200000 in
theorem walk (a0 : Option Addr) (n0 c0 : Nat) (z0 : List ByteArray) (w : World) (w0 : IsStrs w a0 n0 c0 z0) :
    Calls Try.prog 4 #[.slice a0 n0 c0] w fun e w' => e = .returned (.bool true) ∧ Below w.heap.size w w' := by
  obtain ⟨hlen, hnc, hcm, hrd, _⟩ := w0
  have hcm2 := hcm
  unfold maxLen at hcm2
  obtain ⟨f, hf⟩ : ∃ f, lvs z0 = f := ⟨_, rfl⟩
  by_cases hbig : 100 < n0
  · have d0 : decide ((100 : Int) < (n0 : Int)) = true := by simp; omega
    clear hlen hf
    go_enter Try.func4, Try.ntmps4
    go_wp2_with (go_at_call 6; refine (awake04_any _).mono ?_; rintro e w2 ⟨rfl, hg⟩)
    go_ret
    exact ⟨rfl, hg⟩
  · have d0 : decide ((100 : Int) < (n0 : Int)) = false := by simp; omega
    have hnm : n0 ≤ 8796093022208 := by omega
    rcases clash_or f n0 with ⟨k, hk, h1, h2⟩ | hn
    · have C1 := Lib.hid (fun W (hb : Below w.heap.size w W) => order_clash z0 a0 n0 c0 k W hnm ((hrd.below hb).more hb.size) hk (by rw [hf]; exact h1) (by rw [hf]; exact h2))
      have C2 := Lib.hid (fun W (hb : Below w.heap.size w W) => rclash_yes z0 a0 n0 c0 k W hnm ((hrd.below hb).more hb.size) hk (by rw [hf]; exact h1) (by rw [hf]; exact h2))
      clear hlen hf h1 h2
      go_enter Try.func4, Try.ntmps4
      go_wp2_with (first | (go_at_call 6; refine (awake04_any _).mono ?_; rintro e w2 ⟨rfl, hg⟩) | (go_at_call 12; (with_reducible refine (C1.out _ hg).mono ?_); rintro e w3 ⟨rfl, hb3⟩; have hg3 := hg.trans (hb3.mono hg.size)) | (go_at_call 13; (with_reducible refine (C2.out _ hg3).mono ?_); rintro e w4 ⟨rfl, hb4⟩))
      go_ret
      exact ⟨rfl, hg3.trans (hb4.mono hg3.size)⟩
    · have C1 := Lib.hid (fun W (hb : Below w.heap.size w W) => order_noc z0 a0 n0 c0 W hnm ((hrd.below hb).more hb.size) (by rw [hf]; exact hn))
      have C2 := Lib.hid (fun W (hb : Below w.heap.size w W) => rclash_no z0 a0 n0 c0 W hnm ((hrd.below hb).more hb.size) (by rw [hf]; exact hn))
      have C3 := Lib.hid (fun W (hb : Below w.heap.size w W) => rorder_any z0 n0 c0 n0 hnm a0 0 n0 W (by omega) (Nat.zero_le _) (Nat.le_refl _) ((hrd.below hb).more hb.size))
      rw [hf] at C1 C3
      obtain ⟨lst, hl⟩ : ∃ lst, ordL f 0 n0 = lst := ⟨_, rfl⟩
      rw [hl] at C1 C3
      clear hlen hf hl hn
      go_enter Try.func4, Try.ntmps4
      go_wp2_with (first | (go_at_call 6; refine (awake04_any _).mono ?_; rintro e w2 ⟨rfl, hg⟩) | (go_at_call 12; (with_reducible refine (C1.out _ hg).mono ?_); rintro e w3 ⟨rfl, ⟨hr3, hs3⟩, hb3⟩; have hg3 := hg.trans (hb3.mono hg.size)) | (go_at_call 13; (with_reducible refine (C2.out _ hg3).mono ?_); rintro e w4 ⟨rfl, hb4⟩; have hg4 := hg3.trans (hb4.mono hg3.size)) | (go_at_call 14; refine (C3.out _ hg4).mono ?_; rintro e w5 ⟨A5, c5, rfl, hr5, hb5⟩; have hg5 := hg4.trans (hb5.mono hg4.size)))
      have HR3 := Lib.hid (((hr3.below hb4).more hb4.size).below hb5)
      have HR5 := Lib.hid hr5
      have HG5 := Lib.hid hg5
      have hs45 := hb5.size
      clear hr3 hr5 hb3 hb4 hb5
      go_loopw [55, 8] (fun i _ wr => ∃ j : Nat, i = .int .i64 j ∧ j ≤ n0 ∧ Below w5.heap.size w5 wr) (fun i _ _ => n0 - (intOf i).toNat)
      case atStart => exact ⟨0, rfl, Nat.zero_le _, Below.refl _ _⟩
      case round =>
        obtain ⟨j, rfl, hj, hbw⟩ := hrel
        have HB := Lib.hid hbw
        clear hbw
        by_cases hlt : j < n0
        · obtain ⟨hbl3, hc3⟩ := ints_head HR3.out hlt
          obtain ⟨ad5, rfl, hbl5, hc5⟩ := ints_at HR5.out hlt
          obtain ⟨x, hx⟩ : ∃ x, lst.getD j 0 = x := ⟨_, rfl⟩
          rw [hx] at hc3 hc5
          have hc3' := (HB.out.cell (p := ⟨w2.heap.size, j, none⟩) (by show w2.heap.size < _; omega)).trans hc3
          have hc5' := (HB.out.cell hbl5).trans hc5
          clear hx hc3 hc5
          go_wp2_with fail
          go_region
          go_wp2_with fail
          go_roundw
          case rel => exact ⟨j + 1, by go_num, by omega, HB.out.drew⟩
          case measure => simp [intOf]; omega
        · go_wp2_with fail
          go_ret
          exact ⟨rfl, HG5.out.trans (HB.out.mono HG5.out.size)⟩

set_option maxRecDepth 100000 in
theorem lifted (os : Os) (started : os.Started) (H : Type) (enc : TypeId × Value → H) :
    ReturnsInHanded {} Try.checked os 4 .any (Rows.fixOrdersSpec.pre6 enc Try.prog Try.f4 Rows.fixOrdersRow.domain false) (Rows.fixOrdersSpec.post enc Try.prog Try.f4 false true false false) := by
  refine returnsInHanded_of_change (C := Try.checked) own started (by kernel_rfl) Try.func4
    (ChangeSpec.witness6 (enc := enc) (C := Try.checked) false ⟨#[], #[.slice none 0 0], []⟩ 8 (by kernel_rfl) (by kernel_rfl) (by kernel_rfl) (by kernel_rfl)) ?_
  intro W base args ds gs before hval0 hW hcnd _
  have hval : ∀ (j : Nat) t v, Try.f4.params[j]? = some t → args[j]? = some v → Value.okWide Try.prog W .any base t v := hval0
  have hW' := hW
  obtain ⟨p, q, hA0, hV, rfl, hfz, hnd⟩ := hW
  have hA : DataW.TrodAll enc Try.prog W 0 (fun _ => true) true Try.f4.params.toList args.toList ds p := hA0
  rw [Try.params4] at hA hval
  obtain ⟨v0, vs0, d0, ds0, p0, q0, hargs, rfl, rfl, h0, r0⟩ := trodAll_cons hA
  obtain ⟨rfl, rfl, rfl⟩ := trodAll_nil r0
  obtain rfl : args = #[v0] := by cases args; simp_all
  obtain ⟨rfl, rfl⟩ := trodVars_none hV
  have k0 := h0
  have lt0 : ∀ x ∈ p0, x.block < W.heap.size := by obtain ⟨m, hm⟩ := k0; exact DataW.trod_lt m _ _ _ hm
  obtain ⟨a0, n0, c0, rfl⟩ := okWide_slice Try.underlying28 (hval 0 28 v0 rfl rfl)
  obtain ⟨z0, w0⟩ : ∃ zs, IsStrs W a0 n0 c0 zs := by
    obtain ⟨fuel, hf⟩ := h0
    rcases open_strings Try.underlying28 Try.underlying9 (by kernel_rfl) hf with ⟨hcs, _⟩ | ⟨x, l, c, ss, hcs, _, hl, hm, hz, _, hcell, hws⟩
    · simp [Value.cells] at hcs
      obtain ⟨rfl, rfl, rfl⟩ := hcs
      exact ⟨[], IsStrs.none_ W⟩
    · simp [Value.cells] at hcs
      obtain ⟨rfl, rfl, rfl⟩ := hcs
      exact ⟨ss.take _, IsStrs.some_ hl hm (by rw [hz]; split <;> omega) hcell hws⟩
  clear hA0 hval0
  refine (walk a0 n0 c0 z0 W w0).mono fun e W' ⟨he, bel⟩ => ?_
  subst he
  exact ⟨_, rfl, _, _, _, [], _, [], hW', trodAll_mk1 (shut_bool Try.underlying4 _), (trodAll_cons_mk (Below.trod laidOut (by kernel_rfl) (of_decide_eq_true (by kernel_rfl)) k0 bel lt0) trodAll_mk0), rfl, bel.frame _, fun h => by cases h⟩

theorem over : Rows.fixOrdersRow.holds Try.pinned (OpenSpec.ofChange Rows.fixOrdersSpec) :=
  OpenClaim.holds_of_wide 4 Try.f4 rfl rfl rfl rfl rfl rfl rfl ⟨rfl, rfl, rfl, rfl, rfl⟩ rfl rfl rfl rfl rfl (by kernel_rfl) Try.func4 (by kernel_rfl)
    (of_decide_eq_true (by kernel_rfl)) (by unfold Func.isWrapper; first | (rw [if_pos (by decide +kernel)]; kernel_rfl) | (rw [if_neg (by decide +kernel)]; exact ⟨rfl, rfl⟩))
    (fun os started H enc _ => lifted os started H enc)

/-- The statement. -/
theorem proved : Rows.FixOrdersSaid := over
#print axioms proved
end Go.Proofs.Ytcfehoollfgmhaa.fixOrders
