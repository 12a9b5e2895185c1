/- The chapter's example holds. -/
import Derived.Test.YtlojlgchiemkjaaDoorLexi
namespace Go.Proofs.YtlojlgchiemkjaaDoor
open Go.RowKit
set_option linter.unusedVariables false

theorem aw3_scan : scanL [120, 39, 49, 32, 58, 61, 32, 34, 97, 92, 110, 34, 32, 35, 32, 98] = ([⟨1, [120, 39, 49], 0, 0⟩, ⟨5, [58, 61], 0, 4⟩, ⟨4, [97, 10], 0, 7⟩, ⟨0, [], 0, 16⟩], 0, 0) := by kernel_rfl

set_option maxHeartbeats 1600000 in
theorem awake03_any (w : World) :
    Calls Tryd.prog 5 #[] w fun e w' => e = .returned (.bool true) ∧ Below w.heap.size w w' := by
  have C1 := Lib.hid (fun w => scan_any ⟨#[120, 39, 49, 32, 58, 61, 32, 34, 97, 92, 110, 34, 32, 35, 32, 98]⟩ w (by decide))
  rw [show (⟨#[120, 39, 49, 32, 58, 61, 32, 34, 97, 92, 110, 34, 32, 35, 32, 98]⟩ : ByteArray).data.toList = [120, 39, 49, 32, 58, 61, 32, 34, 97, 92, 110, 34, 32, 35, 32, 98] from rfl, aw3_scan] at C1
  go_enter Tryd.func5, Tryd.ntmps5
  go_wp2_with (go_at_call 16; (with_reducible refine (C1.out _).mono ?_); rintro e w2 ⟨⟨A, c, rfl, hr, hc4, hcm⟩, hb2⟩; obtain ⟨g, o, rfl, hlt, hall⟩ := hr (by decide); have a0 : w2.cell? ⟨g, o + 4, none⟩ = some (.int .i64 5) := (hall 1 (by decide)).1; have a1 : w2.cell? ⟨g, o + 8 + 1, none⟩ = some (.string ⟨#[97, 10]⟩) := (hall 2 (by decide)).2.1; have a3 : w2.cell? ⟨g, o + 8 + 3, none⟩ = some (.int .i64 7) := (hall 2 (by decide)).2.2.2; have g3 : w2.cell? ⟨g, o + 12 + 3, none⟩ = some (.int .i64 16) := (hall 3 (by decide)).2.2.2; clear hall hr)
  go_ret
  exact ⟨rfl, hb2.alloc (by have := hb2.size; omega) _⟩

end Go.Proofs.YtlojlgchiemkjaaDoor
