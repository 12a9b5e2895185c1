/-
  The law 'WordTexts' of the document's layer returns true for every input, and leaves what it was given as it was. No condition.
-/
import Derived.Test.YthicbajnfhidhaaRows
import Derived.WalkKit
import Derived.ProofKit
import Derived.OpenShut
import Derived.ShutString
import Derived.ChangeOld
import Derived.Below
import Derived.Carry
import Derived.Lib.SmallJoins
import Derived.Test.YthicbajnfhidhaaAwake02
namespace Go.Proofs.Ythicbajnfhidhaa.wordTexts
open Go.Proofs.Ythicbajnfhidhaa
open Go.ChangeShapes Go.WideShapes Go.ChangeAt Go.RowKit Go.Joins
open Go.ChangeMaps (open_string shut_string)
set_option linter.unusedVariables false

theorem own : ownKnob Try.prog.godebug = none := by kernel_rfl
theorem laidOut : laidOutB Try.prog = true := by kernel_rfl

set_option maxHeartbeats 3200000 in
theorem walk (a0 : ByteArray) (a1 : Option Addr) (n1 c1 : Nat) (z1 : List Int) (a2 : Int) (w : World) (w0 : a0.size ≤ maxLen) (w1 : IsRow .u64 w a1 n1 c1 z1) (w2 : (Lit.int .i64 a2).wf = true) :
    Calls Try.prog 6 #[.string a0, .slice a1 n1 c1, .int .i64 a2] w fun e w' => e = .returned (.bool true) ∧ Below w.heap.size w w' := by
  obtain ⟨ys, hys, hylen, hr, hfit⟩ := w1.reads
  have hn := (wf_is_i64 w2).2
  clear hys w0 w1 w2
  obtain ⟨l0, rfl⟩ : ∃ l0 : List UInt8, a0 = ⟨l0.toArray⟩ := ⟨a0.data.toList, by simp⟩
  have hsz : (⟨l0.toArray⟩ : ByteArray).size = l0.length := by simp [ByteArray.size]
  by_cases h500 : 500 < l0.length
  · have ht : decide ((500 : Int) < ((⟨l0.toArray⟩ : ByteArray).size : Int)) = true := by rw [hsz]; simp; omega
    have HL := Lib.hid hylen
    clear hsz hylen
    go_enter Try.func6, Try.ntmps6
    go_wp2_with (go_at_call 8; refine (awake02_any _).mono ?_; rintro e w2 ⟨rfl, hg⟩)
    go_ret
    exact ⟨rfl, hg⟩
  · have ht : decide ((500 : Int) < ((⟨l0.toArray⟩ : ByteArray).size : Int)) = false := by rw [hsz]; simp; omega
    by_cases h60 : 60 < n1
    · have HL := Lib.hid hylen
      clear hsz hylen
      go_enter Try.func6, Try.ntmps6
      go_wp2_with (go_at_call 8; refine (awake02_any _).mono ?_; rintro e w2 ⟨rfl, hg⟩)
      go_ret
      exact ⟨rfl, hg⟩
    · have hfit64 : Fit64 ys := fun z hz => wf_is_u64 (hfit z hz)
      have hyl : ys.length ≤ 60 := by omega
      obtain ⟨m, hm⟩ : ∃ m, m = (l0.length + 7) / 8 := ⟨_, rfl⟩
      have hml : m ≤ 1000 := by omega
      have hl0 : l0.length ≤ 1000 := by omega
      have HM := Lib.hid hm
      have HL := Lib.hid hylen
      have b1 : (unpackE ys a2 == 0) = validB ys a2 := by unfold unpackE; cases validB ys a2 <;> rfl
      have b2 : (unpackE ys a2 == 2) = !validB ys a2 := by unfold unpackE; cases validB ys a2 <;> rfl
      have sm : sameB (packTo l0 m) (packTo l0 m) = true := by simp [sameB]
      have SM := Lib.hid sm
      clear hsz hylen hm hfit sm
      cases hp : validB ys a2
      all_goals
        rw [hp] at b1 b2
        go_enter Try.func6, Try.ntmps6
        go_wp2_with (first | (go_at_call 8; refine (awake02_any _).mono ?_; rintro e w2 ⟨rfl, hg⟩; have hr2 := hr.below hg; have z2 := hg.size) | (go_at_call 22; refine (unpack_any ys _ _ _ _ _ _ z2 hn (by omega) hfit64 hr2).mono ?_; rintro e w3 ⟨rfl, hb3⟩; have g3 := hg.trans (hb3.mono z2); have z3 := g3.size; have hr3 := hr.below g3) | (go_at_call 23; refine (runpack_any ys _ _ _ _ _ _ z3 (by omega) hfit64 hr3).mono ?_; rintro e w4 ⟨rfl, hb4⟩; have g4 := g3.trans (hb4.mono z3); have z4 := g4.size) | (go_at_call 25; refine (pack_txt l0 m _ (by omega) HM.out).mono ?_; rintro e w5 ⟨A5, c5, rfl, hr5, hb5⟩; have g5 := g4.trans (hb5.mono z4); have z5 := g5.size) | (go_at_call 26; refine (rpack_txt l0 m _ (by omega) HM.out).mono ?_; rintro e w6 ⟨A6, c6, rfl, hr6, hb6⟩; have g6 := g5.trans (hb6.mono z5); have hr56 := hr5.below hb6) | (go_at_call 24; refine (same_any _ _ _ _ _ _ _ _ _ _ _ (by rw [packTo_len]; omega) hr56 hr6).mono ?_; rw [SM.out]; rintro e w7 ⟨rfl, n7, rfl⟩))
        go_ret
        exact ⟨rfl, below_drewN g6 n7⟩

set_option maxRecDepth 100000 in
theorem lifted (os : Os) (started : os.Started) (H : Type) (enc : TypeId × Value → H) :
    ReturnsInHanded {} Try.checked os 6 .any (Rows.wordTextsSpec.pre6 enc Try.prog Try.f6 Rows.wordTextsRow.domain false) (Rows.wordTextsSpec.post enc Try.prog Try.f6 false true false false) := by
  refine returnsInHanded_of_change (C := Try.checked) own started (by kernel_rfl) Try.func6
    (ChangeSpec.witness6 (enc := enc) (C := Try.checked) false ⟨#[], #[.string ByteArray.empty, .slice none 0 0, .int .i64 0], []⟩ 8 (by kernel_rfl) (by kernel_rfl) (by kernel_rfl) (by kernel_rfl)) ?_
  intro W base args ds gs before hval0 hW hcnd _
  have hval : ∀ (j : Nat) t v, Try.f6.params[j]? = some t → args[j]? = some v → Value.okWide Try.prog W .any base t v := hval0
  have hW' := hW
  obtain ⟨p, q, hA0, hV, rfl, hfz, hnd⟩ := hW
  have hA : DataW.TrodAll enc Try.prog W 0 (fun _ => true) true Try.f6.params.toList args.toList ds p := hA0
  rw [Try.params6] at hA hval
  obtain ⟨v0, vs0, d0, ds0, p0, q0, hargs, rfl, rfl, h0, r0⟩ := trodAll_cons hA
  obtain ⟨v1, vs1, d1, ds1, p1, q1, rfl, rfl, rfl, h1, r1⟩ := trodAll_cons r0
  obtain ⟨v2, vs2, d2, ds2, p2, q2, rfl, rfl, rfl, h2, r2⟩ := trodAll_cons r1
  obtain ⟨rfl, rfl, rfl⟩ := trodAll_nil r2
  obtain rfl : args = #[v0, v1, v2] := by cases args; simp_all
  obtain ⟨rfl, rfl⟩ := trodVars_none hV
  have k0 := h0
  have lt0 : ∀ x ∈ p0, x.block < W.heap.size := by obtain ⟨m, hm⟩ := k0; exact DataW.trod_lt m _ _ _ hm
  obtain ⟨a0, rfl, rfl, rfl, w0⟩ := open_string Try.underlying9 (hval 0 9 v0 rfl rfl) h0
  have k1 := h1
  have lt1 : ∀ x ∈ p1, x.block < W.heap.size := by obtain ⟨m, hm⟩ := k1; exact DataW.trod_lt m _ _ _ hm
  obtain ⟨a1, n1, c1, rfl⟩ := okWide_slice Try.underlying44 (hval 1 44 v1 rfl rfl)
  obtain ⟨z1, w1⟩ : ∃ zs, IsRow .u64 W a1 n1 c1 zs := by
    obtain ⟨fuel, hf⟩ := h1
    rcases open_ints Try.underlying44 Try.underlying22 (by kernel_rfl) hf with ⟨hcs, _⟩ | ⟨x, l, c, zs, hcs, _, hl, hm, hz, _, hcell, hwz⟩
    · simp [Value.cells] at hcs
      obtain ⟨rfl, rfl, rfl⟩ := hcs
      exact ⟨[], .inl ⟨rfl, rfl, rfl, rfl⟩⟩
    · simp [Value.cells] at hcs
      obtain ⟨rfl, rfl, rfl⟩ := hcs
      exact ⟨zs, .inr ⟨_, rfl, hl, hm, by simpa using hz, hcell, hwz⟩⟩
  have k2 := h2
  have lt2 : ∀ x ∈ p2, x.block < W.heap.size := by obtain ⟨m, hm⟩ := k2; exact DataW.trod_lt m _ _ _ hm
  obtain ⟨a2, rfl, rfl, rfl, w2⟩ := open_int Try.underlying3 (hval 2 3 v2 rfl rfl) h2
  clear hA0 hval0
  refine (walk a0 a1 n1 c1 z1 a2 W w0 w1 w2).mono fun e W' ⟨he, bel⟩ => ?_
  subst he
  exact ⟨_, rfl, _, _, _, [], _, [], hW', trodAll_mk1 (shut_bool Try.underlying4 _), (trodAll_cons_mk (Below.trod laidOut (by kernel_rfl) (of_decide_eq_true (by kernel_rfl)) k0 bel lt0) (trodAll_cons_mk (Below.trod laidOut (by kernel_rfl) (of_decide_eq_true (by kernel_rfl)) k1 bel lt1) (trodAll_cons_mk (Below.trod laidOut (by kernel_rfl) (of_decide_eq_true (by kernel_rfl)) k2 bel lt2) trodAll_mk0))), rfl, bel.frame _, fun h => by cases h⟩

theorem over : Rows.wordTextsRow.holds Try.pinned (OpenSpec.ofChange Rows.wordTextsSpec) :=
  OpenClaim.holds_of_wide 6 Try.f6 rfl rfl rfl rfl rfl rfl rfl ⟨rfl, rfl, rfl, rfl, rfl⟩ rfl rfl rfl rfl rfl (by kernel_rfl) Try.func6 (by kernel_rfl)
    (of_decide_eq_true (by kernel_rfl)) (by unfold Func.isWrapper; first | (rw [if_pos (by decide +kernel)]; kernel_rfl) | (rw [if_neg (by decide +kernel)]; exact ⟨rfl, rfl⟩))
    (fun os started H enc _ => lifted os started H enc)

/-- The statement. -/
theorem proved : Rows.WordTextsSaid := over
#print axioms proved
end Go.Proofs.Ythicbajnfhidhaa.wordTexts
