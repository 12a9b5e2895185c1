/- The chapter's examples hold. -/
import Derived.Test.YtcfehoollfgmhaaFixe
namespace Go.Proofs.Ytcfehoollfgmhaa
open Go.RowKit
set_option linter.unusedVariables false

theorem reads_new (w : World) (ss : List ByteArray) (n : Nat) (hn : ss.length = n) : Reads (w.alloc (.cells (strVals ss).toArray 9)) (w.alloc (.cells (strVals ss).toArray 9)).heap.size 1 (some ⟨w.heap.size, 0, none⟩) n (strVals ss) := by
  refine ⟨by simp [hn], fun _ => ⟨_, rfl, by simp, fun j u hu => ?_⟩⟩
  have : (⟨w.heap.size, 0, none⟩ : Addr).add j = ⟨w.heap.size, j, none⟩ := by unfold Addr.add; split <;> simp_all
  rw [this, (Blk.new w 9 _).cell j]
  simpa using hu
theorem ex1_lv : lvs [⟨#[43]⟩, ⟨#[42]⟩] 0 = 6 ∧ lvs [⟨#[43]⟩, ⟨#[42]⟩] 1 = 7 := by decide
theorem ex2_lv : lvs [⟨#[61, 61]⟩, ⟨#[43]⟩, ⟨#[61, 61]⟩] 0 = 4 ∧ lvs [⟨#[61, 61]⟩, ⟨#[43]⟩, ⟨#[61, 61]⟩] 1 = 6 ∧ lvs [⟨#[61, 61]⟩, ⟨#[43]⟩, ⟨#[61, 61]⟩] 2 = 4 := by decide
theorem ex1_ord {f : Nat → Nat} (h0 : f 0 = 6) (h1 : f 1 = 7) : ordL f 0 2 = [1, 0] := by
  have hr : IsRoot f 0 2 0 := ⟨by omega, by omega, fun j h1 h2 => by omega, fun j h2 h3 => by
    have : j = 1 := by omega
    subst this; rw [h0, h1]; decide⟩
  have hr2 : IsRoot f 1 2 1 := ⟨by omega, by omega, fun j h1 h2 => by omega, fun j h2 h3 => by omega⟩
  rw [ord_root hr, ord_nil f (Nat.le_refl 0), ord_root hr2, ord_nil f (Nat.le_refl 1), ord_nil f (Nat.le_refl 2)]
  rfl

theorem order_ex1 (w : World) : Calls Try.prog 12 #[.slice (some ⟨w.heap.size, 0, none⟩) 2 2] (w.alloc (.cells #[.string ⟨#[43]⟩, .string ⟨#[42]⟩] 9)) fun e w' =>
    e = .returned (.tuple #[.slice (some ⟨w.heap.size + 1, 0, none⟩) 2 2, .int .i64 0, .int .i64 0]) ∧ w'.cell? ⟨w.heap.size + 1, 0, none⟩ = some (.int .i64 1) ∧ Below w.heap.size w w' := by
  refine (order_any [⟨#[43]⟩, ⟨#[42]⟩] _ 2 2 _ (by omega) (reads_new w [⟨#[43]⟩, ⟨#[42]⟩] 2 rfl)).mono fun e w' h => ?_
  rcases h with ⟨_, he, ho, hb⟩ | ⟨k, hk, hc, _⟩
  · have hs : (w.alloc (.cells #[.string ⟨#[43]⟩, .string ⟨#[42]⟩] 9)).heap.size = w.heap.size + 1 := by simp
    have hb' : Below w.heap.size w w' := ((Below.refl _ _).alloc (Nat.le_refl _) _).trans (hb.mono (by simp))
    refine ⟨?_, ?_, hb'⟩
    · rw [he]; simp
    · have := ho.cellAt 0 (by omega)
      rw [ex1_ord ex1_lv.1 ex1_lv.2] at this
      simpa using this
  · exfalso
    rcases show k = 0 ∨ k = 1 by omega with rfl | rfl
    · have := hc.1; rw [ex1_lv.1] at this; omega
    · have := hc.1; rw [ex1_lv.2] at this; omega
theorem order_ex2 (w : World) : Calls Try.prog 12 #[.slice (some ⟨w.heap.size, 0, none⟩) 3 3] (w.alloc (.cells #[.string ⟨#[61, 61]⟩, .string ⟨#[43]⟩, .string ⟨#[61, 61]⟩] 9)) fun e w' =>
    e = .returned (.tuple #[.slice none 0 0, .int .i64 2, .int .i64 112]) ∧ Below w.heap.size w w' := by
  refine (order_any [⟨#[61, 61]⟩, ⟨#[43]⟩, ⟨#[61, 61]⟩] _ 3 3 _ (by omega) (reads_new w [⟨#[61, 61]⟩, ⟨#[43]⟩, ⟨#[61, 61]⟩] 3 rfl)).mono fun e w' h => ?_
  rcases h with ⟨hn, _⟩ | ⟨k, hk, hc, _, he, hb⟩
  · refine absurd ⟨ex2_lv.2.2, 0, by omega, ex2_lv.1, fun m h1 h2 => ?_⟩ (hn 2 (by omega))
    have : m = 1 := by omega
    subst this; rw [ex2_lv.2.1]; omega
  · have hb' : Below w.heap.size w w' := ((Below.refl _ _).alloc (Nat.le_refl _) _).trans (hb.mono (by simp))
    rcases show k = 0 ∨ k = 1 ∨ k = 2 by omega with rfl | rfl | rfl
    · obtain ⟨_, s, hs, _⟩ := hc; omega
    · have := hc.1; rw [ex2_lv.2.1] at this; omega
    · exact ⟨he, hb'⟩

set_option maxHeartbeats 1600000 in
theorem awake04_any (w : World) :
    Calls Try.prog 6 #[] w fun e w' => e = .returned (.bool true) ∧ Below w.heap.size w w' := by
  have C1 := Lib.hid (fun w => order_ex1 w)
  have C2 := Lib.hid (fun w => order_ex2 w)
  go_enter Try.func6, Try.ntmps6
  go_wp2_with (first | (go_at_call 12; (with_reducible refine (C1.out _).mono ?_); rintro e w2 ⟨rfl, hc1, hb1⟩) | (go_at_call 12; (with_reducible refine (C2.out _).mono ?_); rintro e w3 ⟨rfl, hb2⟩; have hc2 := (hb2.cell (p := ⟨w.heap.size + 1, 0, none⟩) (World.block_lt_of_cell? w2 _ hc1)).trans hc1))
  go_ret
  exact ⟨rfl, hb1.trans (hb2.mono hb1.size)⟩

end Go.Proofs.Ytcfehoollfgmhaa
