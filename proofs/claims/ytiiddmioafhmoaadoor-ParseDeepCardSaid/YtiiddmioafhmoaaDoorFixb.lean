/- Walks: levels with their sides, and brackets. -/
import Derived.Test.YtiiddmioafhmoaaDoorFixa
namespace Go.Proofs.YtiiddmioafhmoaaDoor
open Go.RowKit
set_option linter.unusedVariables false

set_option maxHeartbeats 400000 in
theorem level_any (s : ByteArray) (w : World) (G : Nat) (hG : Hid (lvL s.data.toList = G)) :
    Calls Tryd.prog 69 #[.string s] w fun e w' => e = .returned (.tuple #[.int .i64 G, .int .i64 (sdN G : Nat)]) ∧ w = w' := by
  have h1 : 1 ≤ G := by rw [← hG.out]; exact lv_ge _
  have h8 : G ≤ 8 := by rw [← hG.out]; exact lv_le _
  have C := Lib.hid (fun w => levelof_any s w G hG)
  rcases show G = 1 ∨ G = 2 ∨ G = 3 ∨ G = 4 ∨ G = 5 ∨ G = 6 ∨ G = 7 ∨ G = 8 by omega with h | h | h | h | h | h | h | h
  all_goals
    subst h
    clear h1 h8
    go_enter Tryd.func69, Tryd.ntmps69
    go_wp2_with (go_at_call 70; (with_reducible refine (C.out _).mono ?_); rintro e w' ⟨rfl, rfl⟩)
    go_ret2
    exact ⟨rfl, rfl⟩

theorem nd1 (ga gb : Nat) (r : Bool) (h : ((gb : Int) != (ga : Int)) = true) : decide (gb < ga) = ndB ga gb r := by
  have h1 : gb ≠ ga := by intro e; subst e; simp at h
  simp [ndB, h1]
theorem nd2 (ga gb sd : Nat) (r : Bool) (h : ((gb : Int) != (ga : Int)) = false) (hs : sdN ga = sd) (hr : r = true) : ((sd : Int) != 2) = ndB ga gb r := by
  have h1 : gb = ga := by simp at h; omega
  subst h1; subst hs; subst hr
  simp [ndB]
  rw [Bool.eq_iff_iff]; simp; omega
theorem nd3 (ga gb sd : Nat) (r : Bool) (h : ((gb : Int) != (ga : Int)) = false) (hs : sdN ga = sd) (hr : r = false) : ((sd : Int) != 1) = ndB ga gb r := by
  have h1 : gb = ga := by simp at h; omega
  subst h1; subst hs; subst hr
  simp [ndB]
  rw [Bool.eq_iff_iff]; simp; omega

set_option maxHeartbeats 800000 in
theorem needs_any (a b : ByteArray) (r : Bool) (w : World) (ga gb : Nat) (ha : Hid (lvL a.data.toList = ga)) (hb : Hid (lvL b.data.toList = gb)) (u : Bool) (hu : Hid (ndB ga gb r = u)) :
    Calls Tryd.prog 54 #[.string a, .string b, .bool r] w fun e w' => e = .returned (.bool u) ∧ w = w' := by
  obtain ⟨sd, hsd⟩ : ∃ sd, sdN ga = sd := ⟨_, rfl⟩
  have C1 := Lib.hid (fun w => level_any a w ga ha)
  have C2 := Lib.hid (fun w => levelof_any b w gb hb)
  rw [hsd] at C1
  have HSD := Lib.hid hsd
  clear hsd
  go_enter Tryd.func54, Tryd.ntmps54
  go_wp2_with (first | (go_at_call 69; (with_reducible refine (C1.out _).mono ?_); rintro e w' ⟨rfl, rfl⟩) | (go_at_call 70; (with_reducible refine (C2.out _).mono ?_); rintro e w' ⟨rfl, rfl⟩))
  all_goals go_ret
  · exact ⟨ret_bool (by rw [← hu.out]; exact nd1 _ _ _ (by assumption)), rfl⟩
  · exact ⟨ret_bool (by rw [← hu.out]; exact nd2 _ _ _ _ (by assumption) HSD.out (by assumption)), rfl⟩
  · exact ⟨ret_bool (by rw [← hu.out]; exact nd3 _ _ _ _ (by assumption) HSD.out (by assumption)), rfl⟩


end Go.Proofs.YtiiddmioafhmoaaDoor
