/-
  The law 'WordBack' of the document's layer returns true for every input, and leaves what it was given as it was. No condition.
-/
import Derived.Test.YthicbajnfhidhaaRows
import Derived.WalkKit
import Derived.ProofKit
import Derived.OpenShut
import Derived.ShutString
import Derived.ChangeOld
import Derived.Below
import Derived.Carry
import Derived.Lib.SmallJoins
import Derived.Test.YthicbajnfhidhaaBack02
namespace Go.Proofs.Ythicbajnfhidhaa.wordBack
open Go.Proofs.Ythicbajnfhidhaa
open Go.ChangeShapes Go.WideShapes Go.ChangeAt Go.RowKit Go.Joins
open Go.ChangeMaps (open_string shut_string)
set_option linter.unusedVariables false

theorem own : ownKnob Try.prog.godebug = none := by kernel_rfl
theorem laidOut : laidOutB Try.prog = true := by kernel_rfl

set_option maxHeartbeats 3200000 in
theorem walk (a0 : Int) (a1_0 a1_1 a1_2 : Int) (a2 : ByteArray) (w : World) (w0 : (Lit.int .i64 a0).wf = true) (w1_0 : (Lit.int .i64 a1_0).wf = true) (w1_1 : (Lit.int .i64 a1_1).wf = true) (w1_2 : (Lit.int .i64 a1_2).wf = true) (w2 : a2.size ≤ maxLen) :
    Calls Try.prog 7 #[.int .i64 a0, .agg #[.int .i64 a1_0, .int .i64 a1_1, .int .i64 a1_2], .string a2] w fun e w' => e = .returned (.bool true) ∧ Below w.heap.size w w' := by
  clear w0 w1_0 w1_1 w1_2 w2
  obtain ⟨l0, rfl⟩ : ∃ l0 : List UInt8, a2 = ⟨l0.toArray⟩ := ⟨a2.data.toList, by simp⟩
  have hsz : (⟨l0.toArray⟩ : ByteArray).size = l0.length := by simp [ByteArray.size]
  by_cases h500 : 500 < l0.length
  · have ht : decide ((500 : Int) < ((⟨l0.toArray⟩ : ByteArray).size : Int)) = true := by rw [hsz]; simp; omega
    clear hsz
    go_enter Try.func7, Try.ntmps7
    go_wp2_with (go_at_call 8; refine (awake02_any _).mono ?_; rintro e w2 ⟨rfl, hg⟩)
    go_ret
    exact ⟨rfl, ((Below.refl _ _).alloc (Nat.le_refl _) _).trans (hg.mono (by simp))⟩
  · have ht : decide ((500 : Int) < ((⟨l0.toArray⟩ : ByteArray).size : Int)) = false := by rw [hsz]; simp; omega
    obtain ⟨m, hm⟩ : ∃ m, m = (l0.length + 7) / 8 := ⟨_, rfl⟩
    have hml : m ≤ 1000 := by omega
    have hl0 : l0.length ≤ 1000 := by omega
    have hvb := back_valid l0
    have hbb := back_bytes l0
    rw [← hm] at hvb hbb
    obtain ⟨len, hlen⟩ : ∃ len : Int, len = ((⟨l0.toArray⟩ : ByteArray).size : Int) := ⟨_, rfl⟩
    have hll : len = (l0.length : Int) := by rw [hlen, hsz]
    have ub : unpackL (packTo l0 m) len = l0 := by unfold unpackL; rw [hll, hvb, if_pos rfl]; exact hbb
    have ue : unpackE (packTo l0 m) len = 0 := by unfold unpackE; rw [hll, hvb]; rfl
    rw [hlen] at ub ue
    have hfit : Fit64 (packTo l0 m) := by
      intro z hz
      simp only [packTo, List.mem_map] at hz
      obtain ⟨t, _, rfl⟩ := hz
      have := wordOf_lt l0 t
      omega
    have hs9 : ((⟨l0.toArray⟩ : ByteArray).size : Int) ≤ 9223372036854775807 := by rw [hsz]; omega
    have hpl : (packTo l0 m).length ≤ 68719476736 := by rw [packTo_len]; omega
    have HM := Lib.hid hm
    have UB := Lib.hid ub
    have UE := Lib.hid ue
    have o1 := int_back a0
    have o2 := int_value a0
    have o3 := headE a1_0 a1_1 a1_2
    obtain ⟨i1, i2⟩ := head_in a1_0 a1_1 a1_2
    obtain ⟨j1, j2⟩ := ptr_in a1_2
    clear hm ub ue hvb hbb hlen hll hsz o3
    have OH := fun h => Lib.hid (head_opens a1_0 a1_1 a1_2 h)
    have nx : ((w63 a0) != (w63 a0)) = false := by simp
    cases hp : headB a1_0 a1_1 a1_2 <;> cases hq : ptrB a1_2
    all_goals
      have e1 : headE a1_0 a1_1 a1_2 = if headB a1_0 a1_1 a1_2 then 0 else 2 := rfl
      have e2 : ptrE a1_2 = if ptrB a1_2 then 0 else 2 := rfl
      rw [hp] at e1
      rw [hq] at e2
      simp only [Bool.false_eq_true, if_false, if_true] at e1 e2
      have PB := Lib.hid (ptr_back a1_2)
      have OH1 := Lib.hid OH
      have HP := Lib.hid hp
      have HQ := Lib.hid hq
      clear OH hp hq
      go_enter Try.func7, Try.ntmps7
      go_wp2_with (first | (go_at_call 8; refine (awake02_any _).mono ?_; rintro e w2 ⟨rfl, hg⟩; have hc0 := boxed_cell hg 0 _ rfl; have hc1 := boxed_cell hg 1 _ rfl; have hc2 := boxed_cell hg 2 _ rfl; have g2 := ((Below.refl w.heap.size w).alloc (Nat.le_refl _) _).trans (hg.mono (by simp)); have z2 := g2.size) | (go_at_call 11; refine (wint_any _ _).mono ?_; rintro e w' ⟨rfl, rfl⟩) | (go_at_call 9; refine (toint_any _ _ (by omega) (by omega)).mono ?_; rw [o1, o2]; rintro e w' ⟨rfl, rfl⟩) | (go_at_call 27; refine (wrap_any _ _).mono ?_; rintro e w' ⟨rfl, rfl⟩) | (go_at_call 18; refine (whead_any _ _ _ _).mono ?_; rw [e1]; rintro e w' ⟨rfl, rfl⟩) | (go_at_call 14; refine (ptr_any _ _).mono ?_; rw [e2]; rintro e w' ⟨rfl, rfl⟩) | (go_at_call 20; ((with_reducible refine (open_any (headV a1_0 a1_1 a1_2) _ i1 i2).mono ?_); rw [(OH1.out HP.out).out]; rintro e w' ⟨rfl, rfl⟩)) | (go_at_call 20; ((with_reducible refine (open_any (ptrV a1_2) _ j1 j2).mono ?_); rw [opens_no (PB.out HQ.out).2.2.2]; rintro e w' ⟨rfl, rfl⟩)) | (go_at_call 16; refine (at_any _ _ j1 j2).mono ?_; rw [(PB.out HQ.out).1, (PB.out HQ.out).2.1]; rintro e w' ⟨rfl, rfl⟩) | (go_at_call 13; refine (isint_any _ _ j1 j2).mono ?_; rw [(PB.out HQ.out).2.2.1]; rintro e w' ⟨rfl, rfl⟩) | (go_at_call 25; refine (pack_txt l0 m _ (by omega) HM.out).mono ?_; rintro e w5 ⟨A5, c5, rfl, hr5, hb5⟩; have g5 := g2.trans (hb5.mono z2)) | (go_at_call 22; refine (unpack_any (packTo l0 m) _ _ _ _ _ _ (Nat.le_refl _) hs9 hpl hfit hr5).mono ?_; rw [UB.out, UE.out]; rintro e w6 ⟨rfl, hb6⟩; have g6 := g5.trans (hb6.mono g5.size)))
      go_ret
      exact ⟨rfl, g6⟩

set_option maxRecDepth 100000 in
theorem lifted (os : Os) (started : os.Started) (H : Type) (enc : TypeId × Value → H) :
    ReturnsInHanded {} Try.checked os 7 .any (Rows.wordBackSpec.pre6 enc Try.prog Try.f7 Rows.wordBackRow.domain false) (Rows.wordBackSpec.post enc Try.prog Try.f7 false true false false) := by
  refine returnsInHanded_of_change (C := Try.checked) own started (by kernel_rfl) Try.func7
    (ChangeSpec.witness6 (enc := enc) (C := Try.checked) false ⟨#[], #[.int .i64 0, .agg #[.int .i64 0, .int .i64 0, .int .i64 0], .string ByteArray.empty], []⟩ 8 (by kernel_rfl) (by kernel_rfl) (by kernel_rfl) (by kernel_rfl)) ?_
  intro W base args ds gs before hval0 hW hcnd _
  have hval : ∀ (j : Nat) t v, Try.f7.params[j]? = some t → args[j]? = some v → Value.okWide Try.prog W .any base t v := hval0
  have hW' := hW
  obtain ⟨p, q, hA0, hV, rfl, hfz, hnd⟩ := hW
  have hA : DataW.TrodAll enc Try.prog W 0 (fun _ => true) true Try.f7.params.toList args.toList ds p := hA0
  rw [Try.params7] at hA hval
  obtain ⟨v0, vs0, d0, ds0, p0, q0, hargs, rfl, rfl, h0, r0⟩ := trodAll_cons hA
  obtain ⟨v1, vs1, d1, ds1, p1, q1, rfl, rfl, rfl, h1, r1⟩ := trodAll_cons r0
  obtain ⟨v2, vs2, d2, ds2, p2, q2, rfl, rfl, rfl, h2, r2⟩ := trodAll_cons r1
  obtain ⟨rfl, rfl, rfl⟩ := trodAll_nil r2
  obtain rfl : args = #[v0, v1, v2] := by cases args; simp_all
  obtain ⟨rfl, rfl⟩ := trodVars_none hV
  have k0 := h0
  have lt0 : ∀ x ∈ p0, x.block < W.heap.size := by obtain ⟨m, hm⟩ := k0; exact DataW.trod_lt m _ _ _ hm
  obtain ⟨a0, rfl, rfl, rfl, w0⟩ := open_int Try.underlying2 (hval 0 2 v0 rfl rfl) h0
  have k1 := h1
  have lt1 : ∀ x ∈ p1, x.block < W.heap.size := by obtain ⟨m, hm⟩ := k1; exact DataW.trod_lt m _ _ _ hm
  obtain ⟨b1_0, b1_1, b1_2, y1_0, y1_1, y1_2, m1, rfl, rfl, rfl, h1_0, h1_1, h1_2⟩ := open_agg3 Try.underlying38 (by kernel_rfl) (by kernel_rfl) (hval 1 38 v1 rfl rfl) h1
  obtain ⟨a1_0, e1_0, rfl, w1_0⟩ := DataW.trod_int Try.underlying3 h1_0
  obtain rfl : b1_0 = .int .i64 a1_0 := by simpa using e1_0
  obtain ⟨a1_1, e1_1, rfl, w1_1⟩ := DataW.trod_int Try.underlying3 h1_1
  obtain rfl : b1_1 = .int .i64 a1_1 := by simpa using e1_1
  obtain ⟨a1_2, e1_2, rfl, w1_2⟩ := DataW.trod_int Try.underlying3 h1_2
  obtain rfl : b1_2 = .int .i64 a1_2 := by simpa using e1_2
  have k2 := h2
  have lt2 : ∀ x ∈ p2, x.block < W.heap.size := by obtain ⟨m, hm⟩ := k2; exact DataW.trod_lt m _ _ _ hm
  obtain ⟨a2, rfl, rfl, rfl, w2⟩ := open_string Try.underlying9 (hval 2 9 v2 rfl rfl) h2
  clear hA0 hval0
  refine (walk a0 a1_0 a1_1 a1_2 a2 W w0 w1_0 w1_1 w1_2 w2).mono fun e W' ⟨he, bel⟩ => ?_
  subst he
  exact ⟨_, rfl, _, _, _, [], _, [], hW', trodAll_mk1 (shut_bool Try.underlying4 _), (trodAll_cons_mk (Below.trod laidOut (by kernel_rfl) (of_decide_eq_true (by kernel_rfl)) k0 bel lt0) (trodAll_cons_mk (Below.trod laidOut (by kernel_rfl) (of_decide_eq_true (by kernel_rfl)) k1 bel lt1) (trodAll_cons_mk (Below.trod laidOut (by kernel_rfl) (of_decide_eq_true (by kernel_rfl)) k2 bel lt2) trodAll_mk0))), rfl, bel.frame _, fun h => by cases h⟩

theorem over : Rows.wordBackRow.holds Try.pinned (OpenSpec.ofChange Rows.wordBackSpec) :=
  OpenClaim.holds_of_wide 7 Try.f7 rfl rfl rfl rfl rfl rfl rfl ⟨rfl, rfl, rfl, rfl, rfl⟩ rfl rfl rfl rfl rfl (by kernel_rfl) Try.func7 (by kernel_rfl)
    (of_decide_eq_true (by kernel_rfl)) (by unfold Func.isWrapper; first | (rw [if_pos (by decide +kernel)]; kernel_rfl) | (rw [if_neg (by decide +kernel)]; exact ⟨rfl, rfl⟩))
    (fun os started H enc _ => lifted os started H enc)

/-- The statement. -/
theorem proved : Rows.WordBackSaid := over
#print axioms proved
end Go.Proofs.Ythicbajnfhidhaa.wordBack
