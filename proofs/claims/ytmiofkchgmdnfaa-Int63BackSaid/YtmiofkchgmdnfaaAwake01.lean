/- The chapter's examples hold. -/
import Derived.Test.YtmiofkchgmdnfaaText
import Derived.Test.YtmiofkchgmdnfaaParse
namespace Go.Proofs.Ytmiofkchgmdnfaa
open Go.RowKit

theorem aw_quo : quoVal (-7) 2 = -3 := by decide
theorem aw_err : quoErr 2 = 0 := by decide
theorem aw_add : w63 (4611686018427387903 + 1) = -4611686018427387904 := by decide
theorem aw_text : intText (w63 (-5)) = [45, 53] := by
  have : w63 (-5) = -5 := by decide
  rw [this]; unfold intText; rw [if_pos (by decide)]; show 45 :: dec 5 = _; rw [dec_small 5 (by decide)]; rfl

set_option maxHeartbeats 400000 in
theorem awake01_any (w : World) :
    Calls Try.prog 7 #[] w fun e w' => e = .returned (.bool true) ∧ Grown w w' := by
  go_enter Try.func7, Try.ntmps7
  go_wp2_with (first | (go_at_call 18; refine (quo_any _ _ _).mono ?_; rw [aw_quo, aw_err]; rintro e w' ⟨rfl, rfl⟩) | (go_at_call 12; refine (add_any _ _ _).mono ?_; rw [aw_add]; rintro e w' ⟨rfl, rfl⟩) | (go_at_call 22; refine (text_any _ _).mono ?_; rw [aw_text]; rintro e w' ⟨rfl, hg⟩))
  go_ret
  exact ⟨rfl, hg⟩

end Go.Proofs.Ytmiofkchgmdnfaa
