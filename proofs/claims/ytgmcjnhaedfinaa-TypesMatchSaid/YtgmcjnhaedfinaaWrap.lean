/- Contracts of wrapping and of the document's reading of an integer; bits. -/
import Derived.Test.YtgmcjnhaedfinaaReads
import Derived.Laws.BitsAllLaws
import Derived.Laws.BitsLemmas
namespace Go.Proofs.Ytgmcjnhaedfinaa
open Go.RowKit

/-- The integer that n means. -/
def w63 (n : Int) : Int := (n + 4611686018427387904) % 9223372036854775808 - 4611686018427387904
theorem w63_ge (n : Int) : -4611686018427387904 ≤ w63 n := by unfold w63; omega
theorem w63_le (n : Int) : w63 n ≤ 4611686018427387903 := by unfold w63; omega
theorem wrap_half (n : Int) : wrap64 (n * 2) / 2 = w63 n := by unfold wrap64 w63; omega
theorem w63_wrap (n : Int) : w63 (wrap64 n) = w63 n := by unfold wrap64 w63; omega
theorem w63_w63 (n : Int) : w63 (w63 n) = w63 n := by unfold w63; omega
theorem w63_in (n : Int) (h1 : -4611686018427387904 ≤ n) (h2 : n ≤ 4611686018427387903) : w63 n = n := by unfold w63; omega

set_option maxHeartbeats 400000 in
theorem wrap_any (n : Int) (w : World) :
    Calls Try.prog 61 #[.int .i64 n] w fun e w' => e = .returned (.int .i64 (w63 n)) ∧ w = w' := by
  go_enter Try.func61, Try.ntmps61
  go_wp2
  go_ret
  exact ⟨ret_int (wrap_half n), rfl⟩

theorem u64_mod63 (n : Int) : (IntKind.u64.wrap n).tmod 9223372036854775808 = n % 9223372036854775808 := by
  have h : IntKind.u64.wrap n = n % 18446744073709551616 := by simp [IntKind.wrap, IntKind.bits, IntKind.signed]
  rw [h, Int.tmod_eq_emod_of_nonneg (by omega)]; omega

set_option maxHeartbeats 400000 in
theorem rmod_any (n : Int) (w : World) :
    Calls Try.prog 66 #[.int .i64 n] w fun e w' => e = .returned (.int .u64 (n % 9223372036854775808)) ∧ w = w' := by
  go_enter Try.func66, Try.ntmps66
  go_wp2
  go_ret
  exact ⟨ret_int (u64_mod63 n), rfl⟩

set_option maxHeartbeats 400000 in
theorem rmean_any (u : Int) (w : World) (h1 : 0 ≤ u) (h2 : u < 9223372036854775808) :
    Calls Try.prog 65 #[.int .u64 u] w fun e w' => e = .returned (.int .i64 (w63 u)) ∧ w = w' := by
  go_enter Try.func65, Try.ntmps65
  go_wp2
  all_goals
    go_ret
    exact ⟨ret_int (by unfold w63; omega), rfl⟩


theorem u64_in (n : Int) (h1 : 0 ≤ n) (h2 : n < 18446744073709551616) : IntKind.u64.wrap n = n := by rw [IntKind.wrap_u64]; omega
theorem wraps_u64 (n : Int) (h1 : 0 ≤ n) (h2 : n < 2 ^ 64) : IntKind.u64.wrap n = n := u64_in n h1 (by omega)
theorem and_low (i : Nat) (hi : i ≤ 64) (x : Int) (h1 : 0 ≤ x) (h2 : x < 18446744073709551616) : bits .and .u64 x (2 ^ i - 1) = x % 2 ^ i :=
  bits_mask .u64 64 (by decide) wraps_u64 i hi x h1 (by omega)
theorem and_1 (x : Int) (h1 : 0 ≤ x) (h2 : x < 18446744073709551616) : bits .and .u64 x 1 = x % 2 := and_low 1 (by omega) x h1 h2
theorem and_7 (x : Int) (h1 : 0 ≤ x) (h2 : x < 18446744073709551616) : bits .and .u64 x 7 = x % 8 := and_low 3 (by omega) x h1 h2
theorem and_16 (x : Int) (h1 : 0 ≤ x) (h2 : x < 18446744073709551616) : bits .and .u64 x 65535 = x % 65536 := and_low 16 (by omega) x h1 h2
theorem or_high (i : Nat) (x y : Int) (h0 : 0 ≤ x) (h1 : x % 2 ^ i = 0) (h2 : x < 18446744073709551616) (h3 : 0 ≤ y) (h4 : y < 2 ^ i) (h5 : y < 18446744073709551616) : bits .or .u64 x y = x + y :=
  bits_join .u64 64 (by decide) wraps_u64 i x y h0 h1 (by omega) h3 h4 (by omega)
theorem or_low (i : Nat) (x y : Int) (h0 : 0 ≤ x) (h1 : x % 2 ^ i = 0) (h2 : x < 18446744073709551616) (h3 : 0 ≤ y) (h4 : y < 2 ^ i) (h5 : y < 18446744073709551616) : bits .or .u64 y x = x + y := by
  rw [← or_high i x y h0 h1 h2 h3 h4 h5]
  obtain ⟨a, rfl⟩ := Int.eq_ofNat_of_zero_le h0
  obtain ⟨b, rfl⟩ := Int.eq_ofNat_of_zero_le h3
  rw [u64_or_nat _ _ (by omega) (by omega), u64_or_nat _ _ (by omega) (by omega), Nat.or_comm]

end Go.Proofs.Ytgmcjnhaedfinaa
