/- The chapter's examples hold. -/
import Derived.Test.YthicbajnfhidhaaWord
import Derived.Test.YthicbajnfhidhaaRunpack
namespace Go.Proofs.Ythicbajnfhidhaa
open Go.RowKit

theorem aw2_ptr : ptrV 5 = 10 ∧ ptrE 5 = 0 := by decide
theorem aw2_head : headV 2 0 1 = 1048581 ∧ headE 2 0 1 = 0 := by decide
theorem aw2_int : 2 * ((5 : Int) % 9223372036854775808) + 1 = 11 := by decide
theorem aw2_pack : (packTo [97, 98] 1).getD 0 0 = 25185 := by decide

set_option maxHeartbeats 800000 in
theorem awake02_any (w : World) :
    Calls Try.prog 8 #[] w fun e w' => e = .returned (.bool true) ∧ Below w.heap.size w w' := by
  go_enter Try.func8, Try.ntmps8
  go_wp2_with (first | (go_at_call 14; refine (ptr_any _ _).mono ?_; rw [aw2_ptr.1, aw2_ptr.2]; rintro e w' ⟨rfl, rfl⟩) | (go_at_call 18; refine (whead_any _ _ _ _).mono ?_; rw [aw2_head.1, aw2_head.2]; rintro e w' ⟨rfl, rfl⟩) | (go_at_call 11; refine (wint_any _ _).mono ?_; rw [aw2_int]; rintro e w' ⟨rfl, rfl⟩) | (go_at_call 25; refine (pack_txt [97, 98] 1 _ (by decide) (by decide)).mono ?_; rintro e w2 ⟨A2, c2, rfl, hr2, hb2⟩; obtain ⟨ad, rfl, _, hc⟩ := reads_at (k := 0) hr2 (by omega); rw [aw2_pack, show ad.add 0 = ad from rfl] at hc))
  go_ret
  exact ⟨rfl, hb2⟩

end Go.Proofs.Ythicbajnfhidhaa
