/- Joined: Base Nat. -/
import Derived.Test.YtiiddmioafhmoaaDoorRows
import Derived.WalkKit
import Derived.WalkSpells
import Derived.WalkLawsBesides
import Derived.Lib.Hide
import Derived.Deep.LoopGhost
import Derived.BigQuiet
import Derived.Deep.QuietTactic

section
namespace Go.Proofs.YtiiddmioafhmoaaDoor
open Go.RowKit
theorem ret_int {k : IntKind} {a b : Int} (h : a = b) : Ending.returned (.int k a) = .returned (.int k b) := by rw [h]
theorem ret_bool {a b : Bool} (h : a = b) : Ending.returned (.bool a) = .returned (.bool b) := by rw [h]
end Go.Proofs.YtiiddmioafhmoaaDoor
end

section
namespace Go.Proofs.YtiiddmioafhmoaaDoor
open Go.RowKit

def isDig (c : UInt8) : Bool := decide (48 ≤ c.toNat) && decide (c.toNat ≤ 57)
def isNat (l : List UInt8) : Bool := l.all isDig && (l == [48] || (!l.isEmpty && l.head? != some 48))

theorem data_len (s : ByteArray) : s.data.toList.length = s.size := rfl
theorem data_get (s : ByteArray) (k : Nat) (h : k < s.size) : s.data.toList[k]'h = s[k] := rfl
theorem isNat_no (s : ByteArray) (k : Nat) (h : k < s.size) (hc : ¬ (48 ≤ s[k].toNat ∧ s[k].toNat ≤ 57)) : isNat s.data.toList = false := by
  have : s.data.toList.all isDig = false := by
    rw [List.all_eq_false]
    exact ⟨s[k], by rw [← data_get s k h]; exact List.getElem_mem _, by simp only [isDig, Bool.and_eq_true, decide_eq_true_eq]; exact hc⟩
  simp [isNat, this]
theorem take_all (s : ByteArray) (k : Nat) (h : k < s.size) (ha : (s.data.toList.take k).all isDig = true) (hc : 48 ≤ s[k].toNat ∧ s[k].toNat ≤ 57) : (s.data.toList.take (k + 1)).all isDig = true := by
  rw [List.take_succ_eq_append_getElem (by rw [data_len]; exact h), List.all_append, ha, data_get]
  simp [isDig, hc]
theorem isNat_yes (s : ByteArray) (h : s.data.toList.all isDig = true) : isNat s.data.toList = (s.data.toList == [48] || (!s.data.toList.isEmpty && s.data.toList.head? != some 48)) := by
  simp only [isNat, h, Bool.true_and]
theorem u8_eq (a b : UInt8) : ((a.toNat : Int) != (b.toNat : Int)) = (a != b) := by
  rw [Bool.eq_iff_iff]; simp [← UInt8.toNat_inj]; omega
theorem head_not (s : ByteArray) (h : 0 < s.size) : (s.data.toList.head? != some 48) = ((s[0].toNat : Int) != 48) := by
  have e : s.data.toList.head? = some s[0] := by rw [List.head?_eq_getElem?, List.getElem?_eq_getElem (by rw [data_len]; exact h), data_get]
  rw [e, show (48 : Int) = (((48 : UInt8).toNat : Nat) : Int) from rfl, u8_eq]
  rfl

set_option maxHeartbeats 400000 in
theorem isnat_any (s : ByteArray) (w : World) (hs : s.size ≤ maxLen) :
    Calls Tryd.prog 60 #[.string s] w fun e w' => e = .returned (.bool (isNat s.data.toList)) ∧ w = w' := by
  unfold maxLen at hs
  go_enter Tryd.func60, Tryd.ntmps60
  go_wp2
  go_loop [6] (fun i => ∃ k : Nat, i = .int .i64 k ∧ k ≤ s.size ∧ (s.data.toList.take k).all isDig = true) (fun i => s.size - (intOf i).toNat)
  case atStart => exact ⟨0, rfl, by omega, rfl⟩
  case round =>
    obtain ⟨k, rfl, hk, hall⟩ := hrel
    by_cases hlt : k < s.size
    · by_cases hd : 48 ≤ s[k].toNat ∧ s[k].toNat ≤ 57
      · have HA := Lib.hid (take_all s k hlt hall hd)
        clear hall
        obtain ⟨d1, d2⟩ := hd
        go_wp2
        go_round
        case rel => exact ⟨k + 1, by go_num, by omega, HA.out⟩
        case measure => simp [intOf]; omega
      · have HN := Lib.hid (isNat_no s k hlt hd)
        clear hall
        go_wp2
        all_goals first | (go_ret; exact ⟨ret_bool HN.out.symm, rfl⟩) | omega
    · have HY := Lib.hid (isNat_yes s (by rw [List.take_of_length_le (by rw [data_len]; omega)] at hall; exact hall))
      clear hall
      by_cases h0 : 0 < s.size
      · have HH := Lib.hid (head_not s h0)
        have e0 : ¬ s.toList = [] := by rw [ByteArray.toList_eq]; intro h; rw [← data_len, h] at h0; simp at h0
        go_wp2
        all_goals
          go_ret
          refine ⟨ret_bool ?_, rfl⟩
          first | (rw [HY.out, HH.out, ← ByteArray.toList_eq]; done) | (rw [HY.out, HH.out, ← ByteArray.toList_eq]; simp [*])
      · have e0 : s.toList = [] := by rw [ByteArray.toList_eq, ← List.length_eq_zero_iff, data_len]; omega
        go_wp2
        all_goals
          go_ret
          refine ⟨ret_bool ?_, rfl⟩
          first | (rw [HY.out, ← ByteArray.toList_eq, e0]; done) | (rw [HY.out, ← ByteArray.toList_eq, e0]; rfl)

end Go.Proofs.YtiiddmioafhmoaaDoor
end
