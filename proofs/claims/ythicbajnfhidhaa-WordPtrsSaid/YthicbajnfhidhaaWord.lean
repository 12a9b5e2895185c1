/- Words of integers, of addresses, and heads: what each function returns, and that it leaves the world alone. -/
import Derived.Test.YthicbajnfhidhaaWrap
namespace Go.Proofs.Ythicbajnfhidhaa
open Go.RowKit

/-! ### Integers -/
theorem int_word (n : Int) : IntKind.u64.wrap (IntKind.u64.wrap (w63 n) * 2) = 2 * (n % 9223372036854775808) := by
  rw [IntKind.wrap_u64, IntKind.wrap_u64]; unfold w63; omega

set_option maxHeartbeats 400000 in
theorem wint_any (n : Int) (w : World) :
    Calls Try.prog 11 #[.int .i64 n] w fun e w' => e = .returned (.int .u64 (2 * (n % 9223372036854775808) + 1)) ∧ w = w' := by
  have e1 := int_word n
  have e2 : bits .or .u64 (2 * (n % 9223372036854775808)) 1 = 2 * (n % 9223372036854775808) + 1 := or_high 1 _ _ (by omega) (by omega) (by omega) (by omega) (by omega) (by omega)
  go_enter Try.func11, Try.ntmps11
  go_wp2_with (go_at_call 27; refine (wrap_any _ _).mono ?_; rintro e w' ⟨rfl, rfl⟩)
  go_ret
  exact ⟨rfl, rfl⟩

set_option maxHeartbeats 400000 in
theorem rint_any (n : Int) (w : World) :
    Calls Try.prog 12 #[.int .i64 n] w fun e w' => e = .returned (.int .u64 (2 * (n % 9223372036854775808) + 1)) ∧ w = w' := by
  have h1 : 0 ≤ n % 9223372036854775808 := by omega
  have h2 : n % 9223372036854775808 ≤ 9223372036854775807 := by omega
  go_enter Try.func12, Try.ntmps12
  go_wp2_with (go_at_call 29; refine (rmod_any _ _).mono ?_; rintro e w' ⟨rfl, rfl⟩)
  go_ret
  exact ⟨rfl, rfl⟩

set_option maxHeartbeats 400000 in
theorem isint_odd (x : Int) (w : World) (h1 : 0 ≤ x) (h2 : x < 18446744073709551616) (h : x % 2 = 1) :
    Calls Try.prog 13 #[.int .u64 x] w fun e w' => e = .returned (.bool true) ∧ w = w' := by
  have e := and_1 x h1 h2
  rw [h] at e
  clear h
  go_enter Try.func13, Try.ntmps13
  go_wp2
  go_ret
  exact ⟨rfl, rfl⟩
set_option maxHeartbeats 400000 in
theorem isint_even (x : Int) (w : World) (h1 : 0 ≤ x) (h2 : x < 18446744073709551616) (h : x % 2 = 0) :
    Calls Try.prog 13 #[.int .u64 x] w fun e w' => e = .returned (.bool false) ∧ w = w' := by
  have e := and_1 x h1 h2
  rw [h] at e
  clear h
  go_enter Try.func13, Try.ntmps13
  go_wp2
  go_ret
  exact ⟨rfl, rfl⟩
/-- Is a word odd? -/
def oddB (x : Int) : Bool := decide (x % 2 = 1)
theorem odd_yes {x : Int} (h : x % 2 = 1) : oddB x = true := by unfold oddB; simp [h]
theorem odd_no {x : Int} (h : x % 2 = 0) : oddB x = false := by unfold oddB; simp [h]
theorem isint_any (x : Int) (w : World) (h1 : 0 ≤ x) (h2 : x < 18446744073709551616) :
    Calls Try.prog 13 #[.int .u64 x] w fun e w' => e = .returned (.bool (oddB x)) ∧ w = w' := by
  rcases show x % 2 = 1 ∨ x % 2 = 0 by omega with h | h
  · rw [odd_yes h]; exact isint_odd x w h1 h2 h
  · rw [odd_no h]; exact isint_even x w h1 h2 h

theorem half_word (x : Int) : wrap64 x / 2 = w63 (x / 2) := by unfold wrap64 w63; omega
/-- The integer of a word. -/
def toIntV (x : Int) : Int := if oddB x then w63 (x / 2) else 0

set_option maxHeartbeats 400000 in
theorem toint_any (x : Int) (w : World) (h1 : 0 ≤ x) (h2 : x < 18446744073709551616) :
    Calls Try.prog 9 #[.int .u64 x] w fun e w' => e = .returned (.tuple #[.int .i64 (toIntV x), .bool (oddB x)]) ∧ w = w' := by
  have e1 := half_word x
  cases ho : oddB x
  · have e2 : toIntV x = 0 := by unfold toIntV; rw [ho]; rfl
    go_enter Try.func9, Try.ntmps9
    go_wp2_with (go_at_call 13; refine (isint_any _ _ h1 h2).mono ?_; rw [ho]; rintro e w' ⟨rfl, rfl⟩)
    go_ret2
    exact ⟨by first | rfl | (simp only [e2]; rfl), rfl⟩
  · have e2 : toIntV x = w63 (x / 2) := by unfold toIntV; rw [ho]; rfl
    go_enter Try.func9, Try.ntmps9
    go_wp2_with (go_at_call 13; refine (isint_any _ _ h1 h2).mono ?_; rw [ho]; rintro e w' ⟨rfl, rfl⟩)
    go_ret2
    exact ⟨by first | rfl | (simp only [e2]; rfl), rfl⟩

set_option maxHeartbeats 400000 in
theorem rtoint_any (x : Int) (w : World) (h1 : 0 ≤ x) (h2 : x < 18446744073709551616) :
    Calls Try.prog 10 #[.int .u64 x] w fun e w' => e = .returned (.tuple #[.int .i64 (toIntV x), .bool (oddB x)]) ∧ w = w' := by
  rcases show x % 2 = 1 ∨ x % 2 = 0 by omega with h | h
  · have ho := odd_yes h
    have e2 : toIntV x = w63 (x / 2) := by unfold toIntV; rw [ho]; rfl
    have h3 : (x % 2 == 0) = false := by simp [h]
    clear h
    go_enter Try.func10, Try.ntmps10
    go_wp2_with (go_at_call 28; refine (rmean_any _ _ (by omega) (by omega)).mono ?_; rintro e w' ⟨rfl, rfl⟩)
    go_ret2
    exact ⟨by first | rfl | (simp only [e2, ho]; rfl), rfl⟩
  · have ho := odd_no h
    have e2 : toIntV x = 0 := by unfold toIntV; rw [ho]; rfl
    have h3 : (x % 2 == 0) = true := by simp [h]
    clear h
    go_enter Try.func10, Try.ntmps10
    go_wp2
    go_ret2
    exact ⟨by first | rfl | (simp only [e2, ho]; rfl), rfl⟩

/-! ### Addresses -/
def ptrB (n : Int) : Bool := decide (0 ≤ n ∧ n ≤ 4294967296)
def ptrV (n : Int) : Int := if ptrB n then 2 * n else 0
def ptrE (n : Int) : Int := if ptrB n then 0 else 2
theorem ptr_yes {n : Int} (h1 : 0 ≤ n) (h2 : n ≤ 4294967296) : ptrB n = true := by unfold ptrB; simp [h1, h2]
theorem ptr_no {n : Int} (h : n < 0 ∨ 4294967296 < n) : ptrB n = false := by unfold ptrB; simp; omega

set_option maxHeartbeats 400000 in
theorem ptr_any (n : Int) (w : World) :
    Calls Try.prog 14 #[.int .i64 n] w fun e w' => e = .returned (.tuple #[.int .u64 (ptrV n), .int .i64 (ptrE n)]) ∧ w = w' := by
  rcases show (0 ≤ n ∧ n ≤ 4294967296) ∨ n < 0 ∨ (0 ≤ n ∧ 4294967296 < n) by omega with ⟨h1, h2⟩ | h | ⟨h1, h2⟩
  · have e1 : ptrV n = 2 * n := by unfold ptrV; rw [ptr_yes h1 h2]; rfl
    have e2 : ptrE n = 0 := by unfold ptrE; rw [ptr_yes h1 h2]; rfl
    go_enter Try.func14, Try.ntmps14
    go_wp2
    go_ret2
    exact ⟨ret_ii (by rw [e1]; omega) e2.symm, rfl⟩
  · have e1 : ptrV n = 0 := by unfold ptrV; rw [ptr_no (.inl h)]; rfl
    have e2 : ptrE n = 2 := by unfold ptrE; rw [ptr_no (.inl h)]; rfl
    go_enter Try.func14, Try.ntmps14
    go_wp2
    go_ret2
    exact ⟨by first | rfl | (simp only [e1, e2]; rfl), rfl⟩
  · have e1 : ptrV n = 0 := by unfold ptrV; rw [ptr_no (.inr h2)]; rfl
    have e2 : ptrE n = 2 := by unfold ptrE; rw [ptr_no (.inr h2)]; rfl
    go_enter Try.func14, Try.ntmps14
    go_wp2
    go_ret2
    exact ⟨by first | rfl | (simp only [e1, e2]; rfl), rfl⟩

set_option maxHeartbeats 400000 in
theorem rptr_any (n : Int) (w : World) :
    Calls Try.prog 15 #[.int .i64 n] w fun e w' => e = .returned (.tuple #[.int .u64 (ptrV n), .bool (ptrB n)]) ∧ w = w' := by
  rcases show (0 ≤ n ∧ n ≤ 4294967296) ∨ n < 0 ∨ (0 ≤ n ∧ 4294967296 < n) by omega with ⟨h1, h2⟩ | h | ⟨h1, h2⟩
  · have e0 := ptr_yes h1 h2
    have e1 : ptrV n = 2 * n := by unfold ptrV; rw [e0]; rfl
    go_enter Try.func15, Try.ntmps15
    go_wp2
    go_ret2
    exact ⟨by first | rfl | (simp only [e0, e1]; rfl), rfl⟩
  · have e0 := ptr_no (.inl h)
    have e1 : ptrV n = 0 := by unfold ptrV; rw [e0]; rfl
    go_enter Try.func15, Try.ntmps15
    go_wp2
    go_ret2
    exact ⟨by first | rfl | (simp only [e0, e1]; rfl), rfl⟩
  · have e0 := ptr_no (.inr h2)
    have e1 : ptrV n = 0 := by unfold ptrV; rw [e0]; rfl
    go_enter Try.func15, Try.ntmps15
    go_wp2
    go_ret2
    exact ⟨by first | rfl | (simp only [e0, e1]; rfl), rfl⟩

/-- Is a word an address's? -/
def atB (x : Int) : Bool := decide (x % 2 = 0 ∧ x ≤ 8589934592)
def atV (x : Int) : Int := if atB x then x / 2 else 0

set_option maxHeartbeats 400000 in
theorem at_any (x : Int) (w : World) (h1 : 0 ≤ x) (h2 : x < 18446744073709551616) :
    Calls Try.prog 16 #[.int .u64 x] w fun e w' => e = .returned (.tuple #[.int .i64 (atV x), .bool (atB x)]) ∧ w = w' := by
  rcases show x % 2 = 1 ∨ (x % 2 = 0 ∧ x ≤ 8589934592) ∨ (x % 2 = 0 ∧ 4294967296 < x / 2) by omega with h | ⟨h, g⟩ | ⟨h, g⟩
  · have e0 : atB x = false := by unfold atB; simp; omega
    have e1 : atV x = 0 := by unfold atV; rw [e0]; rfl
    have ho := odd_yes h
    clear h
    go_enter Try.func16, Try.ntmps16
    go_wp2_with (go_at_call 13; refine (isint_any _ _ h1 h2).mono ?_; rw [ho]; rintro e w' ⟨rfl, rfl⟩)
    go_ret2
    exact ⟨by first | rfl | (simp only [e0, e1]; rfl), rfl⟩
  · have e0 : atB x = true := by unfold atB; simp; omega
    have e1 : atV x = x / 2 := by unfold atV; rw [e0]; rfl
    have ho := odd_no h
    clear h
    go_enter Try.func16, Try.ntmps16
    go_wp2_with (go_at_call 13; refine (isint_any _ _ h1 h2).mono ?_; rw [ho]; rintro e w' ⟨rfl, rfl⟩)
    go_ret2
    exact ⟨by first | rfl | (simp only [e0, e1]; rfl), rfl⟩
  · have e0 : atB x = false := by unfold atB; simp; omega
    have e1 : atV x = 0 := by unfold atV; rw [e0]; rfl
    have ho := odd_no h
    clear h
    go_enter Try.func16, Try.ntmps16
    go_wp2_with (go_at_call 13; refine (isint_any _ _ h1 h2).mono ?_; rw [ho]; rintro e w' ⟨rfl, rfl⟩)
    go_ret2
    exact ⟨by first | rfl | (simp only [e0, e1]; rfl), rfl⟩

set_option maxHeartbeats 400000 in
theorem rat_any (x : Int) (w : World) (h1 : 0 ≤ x) (h2 : x < 18446744073709551616) :
    Calls Try.prog 17 #[.int .u64 x] w fun e w' => e = .returned (.tuple #[.int .i64 (atV x), .bool (atB x)]) ∧ w = w' := by
  rcases show x % 2 = 1 ∨ (x % 2 = 0 ∧ x ≤ 8589934592) ∨ (x % 2 = 0 ∧ 8589934592 < x) by omega with h | ⟨h, g⟩ | ⟨h, g⟩
  · have e0 : atB x = false := by unfold atB; simp; omega
    have e1 : atV x = 0 := by unfold atV; rw [e0]; rfl
    have h3 : (x % 2 == 1) = true := by simp [h]
    clear h
    go_enter Try.func17, Try.ntmps17
    go_wp2
    go_ret2
    exact ⟨by first | rfl | (simp only [e0, e1]; rfl), rfl⟩
  · have e0 : atB x = true := by unfold atB; simp; omega
    have e1 : atV x = x / 2 := by unfold atV; rw [e0]; rfl
    have h3 : (x % 2 == 1) = false := by simp [h]
    clear h
    go_enter Try.func17, Try.ntmps17
    go_wp2
    go_ret2
    exact ⟨by first | rfl | (simp only [e0, e1]; rfl), rfl⟩
  · have e0 : atB x = false := by unfold atB; simp; omega
    have e1 : atV x = 0 := by unfold atV; rw [e0]; rfl
    have h3 : (x % 2 == 1) = false := by simp [h]
    clear h
    go_enter Try.func17, Try.ntmps17
    go_wp2
    go_ret2
    exact ⟨by first | rfl | (simp only [e0, e1]; rfl), rfl⟩

/-! ### Heads -/
def headB (k t z : Int) : Bool := decide (0 ≤ k ∧ k ≤ 3 ∧ 0 ≤ t ∧ t ≤ 65535 ∧ 0 ≤ z ∧ z ≤ 16777216)
def headV (k t z : Int) : Int := if headB k t z then 1048576 * z + 16 * t + 2 * k + 1 else 0
def headE (k t z : Int) : Int := if headB k t z then 0 else 2
theorem head_yes {k t z : Int} (h1 : 0 ≤ k) (h2 : k ≤ 3) (h3 : 0 ≤ t) (h4 : t ≤ 65535) (h5 : 0 ≤ z) (h6 : z ≤ 16777216) : headB k t z = true := by unfold headB; simp; omega
theorem head_no {k t z : Int} (h : k < 0 ∨ 3 < k ∨ t < 0 ∨ 65535 < t ∨ z < 0 ∨ 16777216 < z) : headB k t z = false := by unfold headB; simp; omega

set_option maxHeartbeats 400000 in
theorem iskind_yes (k : Int) (w : World) (h1 : 0 ≤ k) (h2 : k ≤ 3) :
    Calls Try.prog 30 #[.int .i64 k] w fun e w' => e = .returned (.bool true) ∧ w = w' := by
  rcases show k = 0 ∨ k = 1 ∨ k = 2 ∨ k = 3 by omega with rfl | rfl | rfl | rfl
  all_goals
    go_enter Try.func30, Try.ntmps30
    go_wp2
    go_ret
    exact ⟨rfl, rfl⟩
set_option maxHeartbeats 400000 in
theorem iskind_no (k : Int) (w : World) (h : k < 0 ∨ 3 < k) :
    Calls Try.prog 30 #[.int .i64 k] w fun e w' => e = .returned (.bool false) ∧ w = w' := by
  rcases h with h | h
  all_goals
    go_enter Try.func30, Try.ntmps30
    go_wp2
    go_ret
    exact ⟨rfl, rfl⟩

set_option maxHeartbeats 800000 in
theorem head_ok (k t z : Int) (w : World) (h1 : 0 ≤ k) (h2 : k ≤ 3) (h3 : 0 ≤ t) (h4 : t ≤ 65535) (h5 : 0 ≤ z) (h6 : z ≤ 16777216) :
    Calls Try.prog 18 #[.int .i64 k, .int .i64 t, .int .i64 z] w fun e w' => e = .returned (.tuple #[.int .u64 (1048576 * z + 16 * t + 2 * k + 1), .int .i64 0]) ∧ w = w' := by
  have b1 : bits .or .u64 1 (k * 2) = 1 + 2 * k := by rw [or_low 1 (k * 2) 1 (by omega) (by omega) (by omega) (by omega) (by omega) (by omega)]; omega
  have b2 : bits .or .u64 (1 + 2 * k) (t * 16) = 16 * t + 2 * k + 1 := by rw [or_low 4 (t * 16) (1 + 2 * k) (by omega) (by omega) (by omega) (by omega) (by omega) (by omega)]; omega
  have b3 : bits .or .u64 (16 * t + 2 * k + 1) (z * 1048576) = 1048576 * z + 16 * t + 2 * k + 1 := by rw [or_low 20 (z * 1048576) (16 * t + 2 * k + 1) (by omega) (by omega) (by omega) (by omega) (by omega) (by omega)]; omega
  go_enter Try.func18, Try.ntmps18
  go_wp2_with (go_at_call 30; refine (iskind_yes _ _ h1 h2).mono ?_; rintro e w' ⟨rfl, rfl⟩)
  go_ret2
  exact ⟨rfl, rfl⟩

set_option maxHeartbeats 800000 in
theorem head_bad (k t z : Int) (w : World) (h : k < 0 ∨ 3 < k ∨ t < 0 ∨ 65535 < t ∨ z < 0 ∨ 16777216 < z) :
    Calls Try.prog 18 #[.int .i64 k, .int .i64 t, .int .i64 z] w fun e w' => e = .returned (.tuple #[.int .u64 0, .int .i64 2]) ∧ w = w' := by
  rcases show (k < 0 ∨ 3 < k) ∨ ((0 ≤ k ∧ k ≤ 3) ∧ (t < 0 ∨ (0 ≤ t ∧ 65535 < t) ∨ (0 ≤ t ∧ t ≤ 65535 ∧ z < 0) ∨ (0 ≤ t ∧ t ≤ 65535 ∧ 0 ≤ z ∧ 16777216 < z))) by omega with g | ⟨⟨g1, g2⟩, g⟩
  · clear h
    go_enter Try.func18, Try.ntmps18
    go_wp2_with (go_at_call 30; refine (iskind_no _ _ g).mono ?_; rintro e w' ⟨rfl, rfl⟩)
    go_ret2
    exact ⟨rfl, rfl⟩
  · clear h
    rcases g with g | ⟨g3, g⟩ | ⟨g3, g4, g⟩ | ⟨g3, g4, g5, g⟩
    all_goals
      go_enter Try.func18, Try.ntmps18
      go_wp2_with (go_at_call 30; refine (iskind_yes _ _ g1 g2).mono ?_; rintro e w' ⟨rfl, rfl⟩)
      go_ret2
      exact ⟨rfl, rfl⟩

theorem whead_any (k t z : Int) (w : World) :
    Calls Try.prog 18 #[.int .i64 k, .int .i64 t, .int .i64 z] w fun e w' => e = .returned (.tuple #[.int .u64 (headV k t z), .int .i64 (headE k t z)]) ∧ w = w' := by
  by_cases h : 0 ≤ k ∧ k ≤ 3 ∧ 0 ≤ t ∧ t ≤ 65535 ∧ 0 ≤ z ∧ z ≤ 16777216
  · obtain ⟨h1, h2, h3, h4, h5, h6⟩ := h
    have e := head_yes h1 h2 h3 h4 h5 h6
    unfold headV headE
    rw [e]
    exact head_ok k t z w h1 h2 h3 h4 h5 h6
  · have e := head_no (k := k) (t := t) (z := z) (by omega)
    unfold headV headE
    rw [e]
    exact head_bad k t z w (by omega)

set_option maxHeartbeats 800000 in
theorem rhead_any (k t z : Int) (w : World) :
    Calls Try.prog 19 #[.int .i64 k, .int .i64 t, .int .i64 z] w fun e w' => e = .returned (.tuple #[.int .u64 (headV k t z), .bool (headB k t z)]) ∧ w = w' := by
  by_cases h : 0 ≤ k ∧ k ≤ 3 ∧ 0 ≤ t ∧ t ≤ 65535 ∧ 0 ≤ z ∧ z ≤ 16777216
  · obtain ⟨h1, h2, h3, h4, h5, h6⟩ := h
    have e := head_yes h1 h2 h3 h4 h5 h6
    unfold headV
    rw [e]
    clear e
    go_enter Try.func19, Try.ntmps19
    go_wp2
    go_ret2
    exact ⟨rfl, rfl⟩
  · have e := head_no (k := k) (t := t) (z := z) (by omega)
    unfold headV
    rw [e]
    clear e
    rcases show k < 0 ∨ (0 ≤ k ∧ 3 < k) ∨ (0 ≤ k ∧ k ≤ 3 ∧ t < 0) ∨ (0 ≤ k ∧ k ≤ 3 ∧ 0 ≤ t ∧ 65535 < t) ∨ (0 ≤ k ∧ k ≤ 3 ∧ 0 ≤ t ∧ t ≤ 65535 ∧ z < 0) ∨ (0 ≤ k ∧ k ≤ 3 ∧ 0 ≤ t ∧ t ≤ 65535 ∧ 0 ≤ z ∧ 16777216 < z) by omega with g | ⟨g1, g⟩ | ⟨g1, g2, g⟩ | ⟨g1, g2, g3, g⟩ | ⟨g1, g2, g3, g4, g⟩ | ⟨g1, g2, g3, g4, g5, g⟩
    all_goals
      clear h
      go_enter Try.func19, Try.ntmps19
      go_wp2
      go_ret2
      exact ⟨rfl, rfl⟩

/-! ### What a word says as a head -/
/-- Is a word a head? -/
def openB (x : Int) : Bool := decide (x % 2 = 1 ∧ x / 2 % 8 ≤ 3 ∧ x / 1048576 ≤ 16777216)
def openK (x : Int) : Int := if openB x then x / 2 % 8 else 0
def openT (x : Int) : Int := if openB x then x / 16 % 65536 else 0
def openZ (x : Int) : Int := if openB x then x / 1048576 else 0
theorem open_yes {x : Int} (h1 : x % 2 = 1) (h2 : x / 2 % 8 ≤ 3) (h3 : x / 1048576 ≤ 16777216) : openB x = true := by unfold openB; simp; omega
theorem open_no {x : Int} (h : x % 2 = 0 ∨ 3 < x / 2 % 8 ∨ 16777216 < x / 1048576) : openB x = false := by unfold openB; simp; omega
def Opens (x : Int) : Ending := .returned (.tuple #[.int .i64 (openK x), .int .i64 (openT x), .int .i64 (openZ x), .bool (openB x)])
theorem opens_yes {x : Int} (h : openB x = true) : Opens x = .returned (.tuple #[.int .i64 (x / 2 % 8), .int .i64 (x / 16 % 65536), .int .i64 (x / 1048576), .bool true]) := by
  unfold Opens openK openT openZ; rw [h]; rfl
theorem opens_no {x : Int} (h : openB x = false) : Opens x = .returned (.tuple #[.int .i64 0, .int .i64 0, .int .i64 0, .bool false]) := by
  unfold Opens openK openT openZ; rw [h]; rfl

set_option maxHeartbeats 800000 in
theorem ropen_any (x : Int) (w : World) (h1 : 0 ≤ x) (h2 : x < 18446744073709551616) :
    Calls Try.prog 21 #[.int .u64 x] w fun e w' => e = Opens x ∧ w = w' := by
  have a1 : 0 ≤ x / 2 % 8 := by omega
  have a2 : x / 2 % 8 ≤ 7 := by omega
  have a3 : 0 ≤ x / 16 % 65536 := by omega
  have a4 : x / 16 % 65536 ≤ 65535 := by omega
  have a5 : 0 ≤ x / 1048576 := by omega
  rcases show x % 2 = 0 ∨ (x % 2 = 1 ∧ 16777216 < x / 1048576) ∨ (x % 2 = 1 ∧ x / 1048576 ≤ 16777216 ∧ 3 < x / 2 % 8) ∨ (x % 2 = 1 ∧ x / 1048576 ≤ 16777216 ∧ x / 2 % 8 ≤ 3) by omega with g | ⟨g1, g⟩ | ⟨g1, g2, g⟩ | ⟨g1, g2, g⟩
  · rw [opens_no (open_no (.inl g))]
    have h3 : (x % 2 == 0) = true := by simp [g]
    clear g
    go_enter Try.func21, Try.ntmps21
    go_wp2
    refine bodyPost_ret (results_tmp4 rfl _ _ _) rfl ?_
    exact ⟨rfl, rfl⟩
  · rw [opens_no (open_no (.inr (.inr g)))]
    have h3 : (x % 2 == 0) = false := by simp [g1]
    clear g1
    go_enter Try.func21, Try.ntmps21
    go_wp2
    refine bodyPost_ret (results_tmp4 rfl _ _ _) rfl ?_
    exact ⟨rfl, rfl⟩
  · rw [opens_no (open_no (.inr (.inl g)))]
    have h3 : (x % 2 == 0) = false := by simp [g1]
    clear g1
    go_enter Try.func21, Try.ntmps21
    go_wp2
    refine bodyPost_ret (results_tmp4 rfl _ _ _) rfl ?_
    exact ⟨rfl, rfl⟩
  · rw [opens_yes (open_yes g1 g g2)]
    have h3 : (x % 2 == 0) = false := by simp [g1]
    clear g1
    go_enter Try.func21, Try.ntmps21
    go_wp2
    refine bodyPost_ret (results_tmp4 rfl _ _ _) rfl ?_
    exact ⟨rfl, rfl⟩

set_option maxHeartbeats 800000 in
theorem open_any (x : Int) (w : World) (h1 : 0 ≤ x) (h2 : x < 18446744073709551616) :
    Calls Try.prog 20 #[.int .u64 x] w fun e w' => e = Opens x ∧ w = w' := by
  have a1 : 0 ≤ x / 2 % 8 := by omega
  have a2 : x / 2 % 8 ≤ 7 := by omega
  have a3 : 0 ≤ x / 16 % 65536 := by omega
  have a4 : x / 16 % 65536 ≤ 65535 := by omega
  have a5 : 0 ≤ x / 1048576 := by omega
  have b1 := and_7 (x / 2) (by omega) (by omega)
  have b2 := and_16 (x / 16) (by omega) (by omega)
  by_cases hb : x / 2 % 8 ≤ 3 ∧ x / 1048576 ≤ 16777216
  · obtain ⟨g, g2⟩ := hb
    rcases show x % 2 = 1 ∨ x % 2 = 0 by omega with g1 | g1
    · rw [opens_yes (open_yes g1 g g2)]
      have hv : 1048576 * (x / 1048576) + 16 * (x / 16 % 65536) + 2 * (x / 2 % 8) + 1 = x := by omega
      clear g1
      go_enter Try.func20, Try.ntmps20
      go_wp2_with (go_at_call 18; refine (head_ok _ _ _ _ a1 g a3 a4 a5 g2).mono ?_; rw [hv]; rintro e w' ⟨rfl, rfl⟩)
      refine bodyPost_ret (results_tmp4 rfl _ _ _) rfl ?_
      exact ⟨rfl, rfl⟩
    · rw [opens_no (open_no (.inl g1))]
      have hv : (1048576 * (x / 1048576) + 16 * (x / 16 % 65536) + 2 * (x / 2 % 8) + 1 != x) = true := by simp; omega
      clear g1
      go_enter Try.func20, Try.ntmps20
      go_wp2_with (go_at_call 18; refine (head_ok _ _ _ _ a1 g a3 a4 a5 g2).mono ?_; rintro e w' ⟨rfl, rfl⟩)
      refine bodyPost_ret (results_tmp4 rfl _ _ _) rfl ?_
      exact ⟨rfl, rfl⟩
  · rw [opens_no (open_no (by omega))]
    have g : x / 2 % 8 < 0 ∨ 3 < x / 2 % 8 ∨ x / 16 % 65536 < 0 ∨ 65535 < x / 16 % 65536 ∨ x / 1048576 < 0 ∨ 16777216 < x / 1048576 := by omega
    clear hb
    go_enter Try.func20, Try.ntmps20
    go_wp2_with (go_at_call 18; refine (head_bad _ _ _ _ g).mono ?_; rintro e w' ⟨rfl, rfl⟩)
    refine bodyPost_ret (results_tmp4 rfl _ _ _) rfl ?_
    exact ⟨rfl, rfl⟩

end Go.Proofs.Ythicbajnfhidhaa
