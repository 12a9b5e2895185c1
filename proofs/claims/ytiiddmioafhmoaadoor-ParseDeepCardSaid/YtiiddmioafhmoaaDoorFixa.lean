/- Walks: the level of an operator, and which operands need brackets. -/
import Derived.Test.YtiiddmioafhmoaaDoorReads
import Derived.Test.YtiiddmioafhmoaaDoorFixdef
namespace Go.Proofs.YtiiddmioafhmoaaDoor
open Go.RowKit
set_option linter.unusedVariables false

theorem bytes_data {a b : ByteArray} (h : a.data.toList = b.data.toList) : a = b := by
  cases a; cases b; simp at h; subst h; rfl
theorem bytes_ne (s : ByteArray) (l : List UInt8) (h : ¬ s = ⟨l.toArray⟩) : (s.toList == l) = false := by
  rw [ByteArray.toList_eq]
  simp only [beq_eq_false_iff_ne, ne_eq]
  intro e
  exact h (bytes_data (by rw [e]))

theorem lv_none (s : ByteArray) (h0 : (s.toList == [58, 61]) = false) (h1 : (s.toList == [124, 124]) = false) (h2 : (s.toList == [38, 38]) = false) (h3 : (s.toList == [61, 61]) = false) (h4 : (s.toList == [47, 61]) = false) (h5 : (s.toList == [60]) = false) (h6 : (s.toList == [60, 61]) = false) (h7 : (s.toList == [62]) = false) (h8 : (s.toList == [62, 61]) = false) (h9 : (s.toList == [58, 58]) = false) (h10 : (s.toList == [94]) = false) (h11 : (s.toList == [43]) = false) (h12 : (s.toList == [45]) = false) (h13 : (s.toList == [42]) = false) (h14 : (s.toList == [47]) = false) (h15 : (s.toList == [37]) = false) : lvL s.data.toList = 8 := by
  refine lv_out _ ?_
  intro j hj
  simp only [ByteArray.toList_eq] at h0 h1 h2 h3 h4 h5 h6 h7 h8 h9 h10 h11 h12 h13 h14 h15
  match j, hj with
  | 0, _ => show List.contains [[58, 61]] s.data.toList = false; simp only [List.contains_cons, List.contains_nil, h0, Bool.or_false]
  | 1, _ => show List.contains [[124, 124]] s.data.toList = false; simp only [List.contains_cons, List.contains_nil, h1, Bool.or_false]
  | 2, _ => show List.contains [[38, 38]] s.data.toList = false; simp only [List.contains_cons, List.contains_nil, h2, Bool.or_false]
  | 3, _ => show List.contains [[61, 61], [47, 61], [60], [60, 61], [62], [62, 61]] s.data.toList = false; simp only [List.contains_cons, List.contains_nil, h3, h4, h5, h6, h7, h8, Bool.or_false]
  | 4, _ => show List.contains [[58, 58], [94]] s.data.toList = false; simp only [List.contains_cons, List.contains_nil, h9, h10, Bool.or_false]
  | 5, _ => show List.contains [[43], [45]] s.data.toList = false; simp only [List.contains_cons, List.contains_nil, h11, h12, Bool.or_false]
  | 6, _ => show List.contains [[42], [47], [37]] s.data.toList = false; simp only [List.contains_cons, List.contains_nil, h13, h14, h15, Bool.or_false]

set_option maxHeartbeats 400000 in
theorem levelof_0 (w : World) :
    Calls Tryd.prog 70 #[.string ⟨#[58, 61]⟩] w fun e w' => e = .returned (.int .i64 1) ∧ w = w' := by
  go_enter Tryd.func70, Tryd.ntmps70
  go_wp2
  go_ret
  exact ⟨rfl, rfl⟩
set_option maxHeartbeats 400000 in
theorem levelof_1 (w : World) :
    Calls Tryd.prog 70 #[.string ⟨#[124, 124]⟩] w fun e w' => e = .returned (.int .i64 2) ∧ w = w' := by
  go_enter Tryd.func70, Tryd.ntmps70
  go_wp2
  go_ret
  exact ⟨rfl, rfl⟩
set_option maxHeartbeats 400000 in
theorem levelof_2 (w : World) :
    Calls Tryd.prog 70 #[.string ⟨#[38, 38]⟩] w fun e w' => e = .returned (.int .i64 3) ∧ w = w' := by
  go_enter Tryd.func70, Tryd.ntmps70
  go_wp2
  go_ret
  exact ⟨rfl, rfl⟩
set_option maxHeartbeats 400000 in
theorem levelof_3 (w : World) :
    Calls Tryd.prog 70 #[.string ⟨#[61, 61]⟩] w fun e w' => e = .returned (.int .i64 4) ∧ w = w' := by
  go_enter Tryd.func70, Tryd.ntmps70
  go_wp2
  go_ret
  exact ⟨rfl, rfl⟩
set_option maxHeartbeats 400000 in
theorem levelof_4 (w : World) :
    Calls Tryd.prog 70 #[.string ⟨#[47, 61]⟩] w fun e w' => e = .returned (.int .i64 4) ∧ w = w' := by
  go_enter Tryd.func70, Tryd.ntmps70
  go_wp2
  go_ret
  exact ⟨rfl, rfl⟩
set_option maxHeartbeats 400000 in
theorem levelof_5 (w : World) :
    Calls Tryd.prog 70 #[.string ⟨#[60]⟩] w fun e w' => e = .returned (.int .i64 4) ∧ w = w' := by
  go_enter Tryd.func70, Tryd.ntmps70
  go_wp2
  go_ret
  exact ⟨rfl, rfl⟩
set_option maxHeartbeats 400000 in
theorem levelof_6 (w : World) :
    Calls Tryd.prog 70 #[.string ⟨#[60, 61]⟩] w fun e w' => e = .returned (.int .i64 4) ∧ w = w' := by
  go_enter Tryd.func70, Tryd.ntmps70
  go_wp2
  go_ret
  exact ⟨rfl, rfl⟩
set_option maxHeartbeats 400000 in
theorem levelof_7 (w : World) :
    Calls Tryd.prog 70 #[.string ⟨#[62]⟩] w fun e w' => e = .returned (.int .i64 4) ∧ w = w' := by
  go_enter Tryd.func70, Tryd.ntmps70
  go_wp2
  go_ret
  exact ⟨rfl, rfl⟩
set_option maxHeartbeats 400000 in
theorem levelof_8 (w : World) :
    Calls Tryd.prog 70 #[.string ⟨#[62, 61]⟩] w fun e w' => e = .returned (.int .i64 4) ∧ w = w' := by
  go_enter Tryd.func70, Tryd.ntmps70
  go_wp2
  go_ret
  exact ⟨rfl, rfl⟩
set_option maxHeartbeats 400000 in
theorem levelof_9 (w : World) :
    Calls Tryd.prog 70 #[.string ⟨#[58, 58]⟩] w fun e w' => e = .returned (.int .i64 5) ∧ w = w' := by
  go_enter Tryd.func70, Tryd.ntmps70
  go_wp2
  go_ret
  exact ⟨rfl, rfl⟩
set_option maxHeartbeats 400000 in
theorem levelof_10 (w : World) :
    Calls Tryd.prog 70 #[.string ⟨#[94]⟩] w fun e w' => e = .returned (.int .i64 5) ∧ w = w' := by
  go_enter Tryd.func70, Tryd.ntmps70
  go_wp2
  go_ret
  exact ⟨rfl, rfl⟩
set_option maxHeartbeats 400000 in
theorem levelof_11 (w : World) :
    Calls Tryd.prog 70 #[.string ⟨#[43]⟩] w fun e w' => e = .returned (.int .i64 6) ∧ w = w' := by
  go_enter Tryd.func70, Tryd.ntmps70
  go_wp2
  go_ret
  exact ⟨rfl, rfl⟩
set_option maxHeartbeats 400000 in
theorem levelof_12 (w : World) :
    Calls Tryd.prog 70 #[.string ⟨#[45]⟩] w fun e w' => e = .returned (.int .i64 6) ∧ w = w' := by
  go_enter Tryd.func70, Tryd.ntmps70
  go_wp2
  go_ret
  exact ⟨rfl, rfl⟩
set_option maxHeartbeats 400000 in
theorem levelof_13 (w : World) :
    Calls Tryd.prog 70 #[.string ⟨#[42]⟩] w fun e w' => e = .returned (.int .i64 7) ∧ w = w' := by
  go_enter Tryd.func70, Tryd.ntmps70
  go_wp2
  go_ret
  exact ⟨rfl, rfl⟩
set_option maxHeartbeats 400000 in
theorem levelof_14 (w : World) :
    Calls Tryd.prog 70 #[.string ⟨#[47]⟩] w fun e w' => e = .returned (.int .i64 7) ∧ w = w' := by
  go_enter Tryd.func70, Tryd.ntmps70
  go_wp2
  go_ret
  exact ⟨rfl, rfl⟩
set_option maxHeartbeats 400000 in
theorem levelof_15 (w : World) :
    Calls Tryd.prog 70 #[.string ⟨#[37]⟩] w fun e w' => e = .returned (.int .i64 7) ∧ w = w' := by
  go_enter Tryd.func70, Tryd.ntmps70
  go_wp2
  go_ret
  exact ⟨rfl, rfl⟩

set_option maxHeartbeats 800000 in
theorem levelof_no (s : ByteArray) (w : World) (h0 : (s.toList == [58, 61]) = false) (h1 : (s.toList == [124, 124]) = false) (h2 : (s.toList == [38, 38]) = false) (h3 : (s.toList == [61, 61]) = false) (h4 : (s.toList == [47, 61]) = false) (h5 : (s.toList == [60]) = false) (h6 : (s.toList == [60, 61]) = false) (h7 : (s.toList == [62]) = false) (h8 : (s.toList == [62, 61]) = false) (h9 : (s.toList == [58, 58]) = false) (h10 : (s.toList == [94]) = false) (h11 : (s.toList == [43]) = false) (h12 : (s.toList == [45]) = false) (h13 : (s.toList == [42]) = false) (h14 : (s.toList == [47]) = false) (h15 : (s.toList == [37]) = false) :
    Calls Tryd.prog 70 #[.string s] w fun e w' => e = .returned (.int .i64 8) ∧ w = w' := by
  go_enter Tryd.func70, Tryd.ntmps70
  go_wp2
  go_ret
  exact ⟨rfl, rfl⟩

theorem levelof_any (s : ByteArray) (w : World) (G : Nat) (hG : Hid (lvL s.data.toList = G)) :
    Calls Tryd.prog 70 #[.string s] w fun e w' => e = .returned (.int .i64 G) ∧ w = w' := by
  by_cases h0 : s = ⟨([58, 61] : List UInt8).toArray⟩
  · subst h0; have : G = 1 := by rw [← hG.out]; decide
    subst this; exact levelof_0 w
  by_cases h1 : s = ⟨([124, 124] : List UInt8).toArray⟩
  · subst h1; have : G = 2 := by rw [← hG.out]; decide
    subst this; exact levelof_1 w
  by_cases h2 : s = ⟨([38, 38] : List UInt8).toArray⟩
  · subst h2; have : G = 3 := by rw [← hG.out]; decide
    subst this; exact levelof_2 w
  by_cases h3 : s = ⟨([61, 61] : List UInt8).toArray⟩
  · subst h3; have : G = 4 := by rw [← hG.out]; decide
    subst this; exact levelof_3 w
  by_cases h4 : s = ⟨([47, 61] : List UInt8).toArray⟩
  · subst h4; have : G = 4 := by rw [← hG.out]; decide
    subst this; exact levelof_4 w
  by_cases h5 : s = ⟨([60] : List UInt8).toArray⟩
  · subst h5; have : G = 4 := by rw [← hG.out]; decide
    subst this; exact levelof_5 w
  by_cases h6 : s = ⟨([60, 61] : List UInt8).toArray⟩
  · subst h6; have : G = 4 := by rw [← hG.out]; decide
    subst this; exact levelof_6 w
  by_cases h7 : s = ⟨([62] : List UInt8).toArray⟩
  · subst h7; have : G = 4 := by rw [← hG.out]; decide
    subst this; exact levelof_7 w
  by_cases h8 : s = ⟨([62, 61] : List UInt8).toArray⟩
  · subst h8; have : G = 4 := by rw [← hG.out]; decide
    subst this; exact levelof_8 w
  by_cases h9 : s = ⟨([58, 58] : List UInt8).toArray⟩
  · subst h9; have : G = 5 := by rw [← hG.out]; decide
    subst this; exact levelof_9 w
  by_cases h10 : s = ⟨([94] : List UInt8).toArray⟩
  · subst h10; have : G = 5 := by rw [← hG.out]; decide
    subst this; exact levelof_10 w
  by_cases h11 : s = ⟨([43] : List UInt8).toArray⟩
  · subst h11; have : G = 6 := by rw [← hG.out]; decide
    subst this; exact levelof_11 w
  by_cases h12 : s = ⟨([45] : List UInt8).toArray⟩
  · subst h12; have : G = 6 := by rw [← hG.out]; decide
    subst this; exact levelof_12 w
  by_cases h13 : s = ⟨([42] : List UInt8).toArray⟩
  · subst h13; have : G = 7 := by rw [← hG.out]; decide
    subst this; exact levelof_13 w
  by_cases h14 : s = ⟨([47] : List UInt8).toArray⟩
  · subst h14; have : G = 7 := by rw [← hG.out]; decide
    subst this; exact levelof_14 w
  by_cases h15 : s = ⟨([37] : List UInt8).toArray⟩
  · subst h15; have : G = 7 := by rw [← hG.out]; decide
    subst this; exact levelof_15 w
  have k0 := bytes_ne s [58, 61] h0
  have k1 := bytes_ne s [124, 124] h1
  have k2 := bytes_ne s [38, 38] h2
  have k3 := bytes_ne s [61, 61] h3
  have k4 := bytes_ne s [47, 61] h4
  have k5 := bytes_ne s [60] h5
  have k6 := bytes_ne s [60, 61] h6
  have k7 := bytes_ne s [62] h7
  have k8 := bytes_ne s [62, 61] h8
  have k9 := bytes_ne s [58, 58] h9
  have k10 := bytes_ne s [94] h10
  have k11 := bytes_ne s [43] h11
  have k12 := bytes_ne s [45] h12
  have k13 := bytes_ne s [42] h13
  have k14 := bytes_ne s [47] h14
  have k15 := bytes_ne s [37] h15
  have : G = 8 := by rw [← hG.out]; exact lv_none s k0 k1 k2 k3 k4 k5 k6 k7 k8 k9 k10 k11 k12 k13 k14 k15
  subst this
  exact levelof_no s w k0 k1 k2 k3 k4 k5 k6 k7 k8 k9 k10 k11 k12 k13 k14 k15

end Go.Proofs.YtiiddmioafhmoaaDoor
