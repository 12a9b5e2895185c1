/- Contracts of the integers' functions and of the document's answer for them: what each call returns, and that it leaves the world alone. -/
import Derived.Test.YtmiofkchgmdnfaaRows
import Derived.WalkKit
import Derived.WalkSpells
import Derived.WalkLawsBesides
import Derived.Lib.Hide
namespace Go.Proofs.Ytmiofkchgmdnfaa
open Go.RowKit

theorem grown_trans {a b c : World} (h : Grown a b) (g : Grown b c) : Grown a c :=
  ⟨World.keptBut_trans h.1 g.1, fun x => (g.2.1 x).trans (h.2.1 x), Nat.le_trans h.2.2 g.2.2⟩

/-- The integer that n means. -/
def w63 (n : Int) : Int := (n + 4611686018427387904) % 9223372036854775808 - 4611686018427387904
theorem w63_ge (n : Int) : -4611686018427387904 ≤ w63 n := by unfold w63; omega
theorem w63_le (n : Int) : w63 n ≤ 4611686018427387903 := by unfold w63; omega
theorem ret_int {k : IntKind} {a b : Int} (h : a = b) : Ending.returned (.int k a) = .returned (.int k b) := by rw [h]
theorem ret_bool {a b : Bool} (h : a = b) : Ending.returned (.bool a) = .returned (.bool b) := by rw [h]
theorem wrap_half (n : Int) : wrap64 (n * 2) / 2 = w63 n := by unfold wrap64 w63; omega
theorem w63_wrap (n : Int) : w63 (wrap64 n) = w63 n := by unfold wrap64 w63; omega
theorem w63_w63 (n : Int) : w63 (w63 n) = w63 n := by unfold w63; omega
theorem w63_in (n : Int) (h1 : -4611686018427387904 ≤ n) (h2 : n ≤ 4611686018427387903) : w63 n = n := by unfold w63; omega

set_option maxHeartbeats 400000 in
theorem wrap_any (n : Int) (w : World) :
    Calls Try.prog 10 #[.int .i64 n] w fun e w' => e = .returned (.int .i64 (w63 n)) ∧ w = w' := by
  go_enter Try.func10, Try.ntmps10
  go_wp2
  go_ret
  exact ⟨ret_int (wrap_half n), rfl⟩

set_option maxHeartbeats 400000 in
theorem add_any (a b : Int) (w : World) :
    Calls Try.prog 12 #[.int .i64 a, .int .i64 b] w fun e w' => e = .returned (.int .i64 (w63 (a + b))) ∧ w = w' := by
  go_enter Try.func12, Try.ntmps12
  go_wp2_with (go_at_call 10; refine (wrap_any _ _).mono ?_; rintro e w' ⟨rfl, rfl⟩)
  go_ret
  exact ⟨ret_int (w63_wrap _), rfl⟩

set_option maxHeartbeats 400000 in
theorem sub_any (a b : Int) (w : World) :
    Calls Try.prog 14 #[.int .i64 a, .int .i64 b] w fun e w' => e = .returned (.int .i64 (w63 (a - b))) ∧ w = w' := by
  go_enter Try.func14, Try.ntmps14
  go_wp2_with (go_at_call 10; refine (wrap_any _ _).mono ?_; rintro e w' ⟨rfl, rfl⟩)
  go_ret
  exact ⟨ret_int (w63_wrap _), rfl⟩

set_option maxHeartbeats 400000 in
theorem mul_any (a b : Int) (w : World) :
    Calls Try.prog 16 #[.int .i64 a, .int .i64 b] w fun e w' => e = .returned (.int .i64 (w63 (a * b))) ∧ w = w' := by
  go_enter Try.func16, Try.ntmps16
  go_wp2_with (go_at_call 10; refine (wrap_any _ _).mono ?_; rintro e w' ⟨rfl, rfl⟩)
  go_ret
  exact ⟨ret_int (w63_wrap _), rfl⟩

set_option maxHeartbeats 400000 in
theorem fits_any (n : Int) (w : World) :
    Calls Try.prog 11 #[.int .i64 n] w fun e w' => e = .returned (.bool (n == w63 n)) ∧ w = w' := by
  go_enter Try.func11, Try.ntmps11
  go_wp2_with (go_at_call 10; refine (wrap_any _ _).mono ?_; rintro e w' ⟨rfl, rfl⟩)
  go_ret
  exact ⟨rfl, rfl⟩

def cmp (a b : Int) : Int := if a < b then -1 else if b < a then 1 else 0

set_option maxHeartbeats 400000 in
theorem cmp_any (a b : Int) (w : World) :
    Calls Try.prog 9 #[.int .i64 a, .int .i64 b] w fun e w' => e = .returned (.int .i64 (cmp (w63 a) (w63 b))) ∧ w = w' := by
  go_enter Try.func9, Try.ntmps9
  go_wp2_with (go_at_call 10; refine (wrap_any _ _).mono ?_; rintro e w' ⟨rfl, rfl⟩)
  all_goals
    go_ret
    exact ⟨ret_int (by unfold cmp; repeat (first | rw [if_pos (by assumption)] | rw [if_neg (by omega)])), rfl⟩

theorem u64_mod63 (n : Int) : (IntKind.u64.wrap n).tmod 9223372036854775808 = n % 9223372036854775808 := by
  have h : IntKind.u64.wrap n = n % 18446744073709551616 := by simp [IntKind.wrap, IntKind.bits, IntKind.signed]
  rw [h, Int.tmod_eq_emod_of_nonneg (by omega)]; omega

set_option maxHeartbeats 400000 in
theorem rmod_any (n : Int) (w : World) :
    Calls Try.prog 24 #[.int .i64 n] w fun e w' => e = .returned (.int .u64 (n % 9223372036854775808)) ∧ w = w' := by
  go_enter Try.func24, Try.ntmps24
  go_wp2
  go_ret
  exact ⟨ret_int (u64_mod63 n), rfl⟩

set_option maxHeartbeats 400000 in
theorem rmean_any (u : Int) (w : World) (h1 : 0 ≤ u) (h2 : u < 9223372036854775808) :
    Calls Try.prog 23 #[.int .u64 u] w fun e w' => e = .returned (.int .i64 (w63 u)) ∧ w = w' := by
  go_enter Try.func23, Try.ntmps23
  go_wp2
  all_goals
    go_ret
    exact ⟨ret_int (by unfold w63; omega), rfl⟩

theorem mod_ge (n : Int) : 0 ≤ n % 9223372036854775808 := by omega
theorem mod_lt (n : Int) : n % 9223372036854775808 < 9223372036854775808 := by omega
theorem mod_le (n : Int) : n % 9223372036854775808 ≤ 9223372036854775807 := by omega
theorem w63_mod (n : Int) : w63 (n % 9223372036854775808) = w63 n := by unfold w63; omega
theorem w63_of {a b : Int} (h : a % 9223372036854775808 = b % 9223372036854775808) : w63 a = w63 b := by unfold w63; omega

set_option maxHeartbeats 400000 in
theorem rwrap_any (n : Int) (w : World) :
    Calls Try.prog 8 #[.int .i64 n] w fun e w' => e = .returned (.int .i64 (w63 n)) ∧ w = w' := by
  go_enter Try.func8, Try.ntmps8
  go_wp2_with (first | (go_at_call 24; refine (rmod_any _ _).mono ?_; rintro e w' ⟨rfl, rfl⟩) | (go_at_call 23; refine (rmean_any _ _ (mod_ge _) (mod_lt _)).mono ?_; rintro e w' ⟨rfl, rfl⟩))
  go_ret
  exact ⟨ret_int (w63_mod n), rfl⟩

set_option maxHeartbeats 400000 in
theorem radd_any (a b : Int) (w : World) :
    Calls Try.prog 13 #[.int .i64 a, .int .i64 b] w fun e w' => e = .returned (.int .i64 (w63 (a + b))) ∧ w = w' := by
  have h1 := mod_ge a
  have h2 := mod_le a
  have h3 := mod_ge b
  have h4 := mod_le b
  have e1 : w63 ((a + b) % 9223372036854775808) = w63 (a + b) := by unfold w63; omega
  have E := Lib.hid e1
  clear e1
  go_enter Try.func13, Try.ntmps13
  go_wp2_with (first | (go_at_call 24; refine (rmod_any _ _).mono ?_; rintro e w' ⟨rfl, rfl⟩) | (go_at_call 23; refine (rmean_any _ _ (mod_ge _) (mod_lt _)).mono ?_; rintro e w' ⟨rfl, rfl⟩))
  go_ret
  exact ⟨ret_int E.out, rfl⟩

set_option maxHeartbeats 400000 in
theorem rsub_any (a b : Int) (w : World) :
    Calls Try.prog 15 #[.int .i64 a, .int .i64 b] w fun e w' => e = .returned (.int .i64 (w63 (a - b))) ∧ w = w' := by
  have h1 := mod_ge a
  have h2 := mod_le a
  have h3 := mod_ge b
  have h4 := mod_le b
  have e1 : w63 ((a % 9223372036854775808 + 9223372036854775808 - b) % 9223372036854775808) = w63 (a - b) := by unfold w63; omega
  have E := Lib.hid e1
  clear e1
  go_enter Try.func15, Try.ntmps15
  go_wp2_with (first | (go_at_call 24; refine (rmod_any _ _).mono ?_; rintro e w' ⟨rfl, rfl⟩) | (go_at_call 23; refine (rmean_any _ _ (mod_ge _) (mod_lt _)).mono ?_; rintro e w' ⟨rfl, rfl⟩))
  go_ret
  exact ⟨ret_int E.out, rfl⟩

/-- How much an integer is, without its sign. -/
def mag (n : Int) : Int := if n < 0 then -n else n
theorem mag_ge (n : Int) : 0 ≤ mag n := by unfold mag; split <;> omega
theorem mag_le (n : Int) (h1 : -4611686018427387904 ≤ n) (h2 : n ≤ 4611686018427387903) : mag n ≤ 4611686018427387904 := by unfold mag; split <;> omega

set_option maxHeartbeats 400000 in
theorem rsize_any (n : Int) (w : World) (h1 : -4611686018427387904 ≤ n) (h2 : n ≤ 4611686018427387903) :
    Calls Try.prog 26 #[.int .i64 n] w fun e w' => e = .returned (.int .u64 (mag n)) ∧ w = w' := by
  go_enter Try.func26, Try.ntmps26
  go_wp2
  all_goals
    go_ret
    exact ⟨ret_int (by unfold mag; split <;> omega), rfl⟩

/-- A size with a sign. -/
def signed (u : Int) (neg : Bool) : Int := w63 (if neg then -u else u)

set_option maxHeartbeats 400000 in
theorem rsigned_any (u : Int) (neg : Bool) (w : World) (h1 : 0 ≤ u) (h2 : u < 9223372036854775808) :
    Calls Try.prog 25 #[.int .u64 u, .bool neg] w fun e w' => e = .returned (.int .i64 (signed u neg)) ∧ w = w' := by
  have h3 := mod_ge u
  have h4 := mod_le u
  cases neg
  all_goals
    go_enter Try.func25, Try.ntmps25
    go_wp2_with (first | (go_at_call 15; refine (rsub_any _ _ _).mono ?_; rintro e w' ⟨rfl, rfl⟩) | (go_at_call 8; refine (rwrap_any _ _).mono ?_; rintro e w' ⟨rfl, rfl⟩))
    go_ret
    exact ⟨ret_int (by simp only [signed]; unfold w63; first | (simp; done) | (simp; omega)), rfl⟩

/-! ### Quotients -/
theorem tdiv_signed (x y : Int) : w63 (x.tdiv y) = signed (mag x / mag y) (decide (x < 0) != decide (y < 0)) := by
  unfold signed mag
  by_cases hx : x < 0 <;> by_cases hy' : y < 0
  · have : x.tdiv y = (-x) / (-y) := by rw [← Int.tdiv_eq_ediv_of_nonneg (by omega)]; simp
    simp [hx, hy', this]
  · have : x.tdiv y = -((-x) / y) := by rw [← Int.tdiv_eq_ediv_of_nonneg (by omega)]; simp
    simp [hx, hy', this]
  · have : x.tdiv y = -(x / (-y)) := by rw [← Int.tdiv_eq_ediv_of_nonneg (by omega)]; simp
    simp [hx, hy', this]
  · have : x.tdiv y = x / y := Int.tdiv_eq_ediv_of_nonneg (by omega)
    simp [hx, hy', this]
theorem tmod_signed (x y : Int) (hy : y ≠ 0) (h1 : -4611686018427387904 ≤ x) (h2 : x ≤ 4611686018427387903) : x.tmod y = signed (mag x % mag y) (decide (x < 0)) := by
  have key : x.tmod y = if x < 0 then -(mag x % mag y) else mag x % mag y := by
    unfold mag
    by_cases hx : x < 0 <;> by_cases hy' : y < 0
    · have : x.tmod y = -((-x) % (-y)) := by rw [← Int.tmod_eq_emod_of_nonneg (by omega)]; simp
      simp [hx, hy', this]
    · have : x.tmod y = -((-x) % y) := by rw [← Int.tmod_eq_emod_of_nonneg (by omega)]; simp
      simp [hx, hy', this]
    · have : x.tmod y = (x % (-y)) := by rw [← Int.tmod_eq_emod_of_nonneg (by omega)]; simp
      simp [hx, hy', this]
    · have : x.tmod y = x % y := Int.tmod_eq_emod_of_nonneg (by omega)
      simp [hx, hy', this]
  have hb : 0 ≤ mag x % mag y ∧ mag x % mag y ≤ mag x := by
    have hm : 0 < mag y := by unfold mag; split <;> omega
    refine ⟨Int.emod_nonneg _ (by omega), ?_⟩
    by_cases h : mag x < mag y
    · rw [Int.emod_eq_of_lt (mag_ge x) h]; omega
    · have := Int.emod_lt_of_pos (mag x) hm; omega
  have hm := mag_le x h1 h2
  rw [key]; unfold signed
  by_cases hx : x < 0
  · have hx' : mag x = -x := by unfold mag; simp [hx]
    simp [hx]; rw [w63_in _ (by omega) (by omega)]
  · have hx' : mag x = x := by unfold mag; simp [hx]
    simp [hx]; rw [w63_in _ (by omega) (by omega)]

/-- The error for a division by nought. -/
def quoErr (b : Int) : Int := if w63 b = 0 then 4 else 0
def quoVal (a b : Int) : Int := if w63 b = 0 then 0 else w63 ((w63 a).tdiv (w63 b))
def remVal (a b : Int) : Int := if w63 b = 0 then 0 else (w63 a).tmod (w63 b)
theorem ret_two {k l : IntKind} {a b c d : Int} (h : a = b) (g : c = d) : Ending.returned (.tuple #[.int k a, .int l c]) = .returned (.tuple #[.int k b, .int l d]) := by rw [h, g]
theorem ret_quo {k l : IntKind} {a b c d : Int} {p q : Bool} (h : a = b) (g : c = d) (i : p = q) : Ending.returned (.tuple #[.int k a, .int l c, .bool p]) = .returned (.tuple #[.int k b, .int l d, .bool q]) := by rw [h, g, i]

set_option maxHeartbeats 400000 in
theorem quo_any (a b : Int) (w : World) :
    Calls Try.prog 18 #[.int .i64 a, .int .i64 b] w fun e w' => e = .returned (.tuple #[.int .i64 (quoVal a b), .int .i64 (quoErr b)]) ∧ w = w' := by
  by_cases hb : w63 b = 0
  · have h1 : (w63 b == 0) = true := by simp [hb]
    have E := Lib.hid hb
    clear hb
    go_enter Try.func18, Try.ntmps18
    go_wp2_with (go_at_call 10; refine (wrap_any _ _).mono ?_; rintro e w' ⟨rfl, rfl⟩)
    go_ret2
    exact ⟨ret_two (by unfold quoVal; rw [if_pos E.out]) (by unfold quoErr; rw [if_pos E.out]), rfl⟩
  · have h1 : (w63 b == 0) = false := by simp [hb]
    have E := Lib.hid hb
    clear hb
    go_enter Try.func18, Try.ntmps18
    go_wp2_with (go_at_call 10; refine (wrap_any _ _).mono ?_; rintro e w' ⟨rfl, rfl⟩)
    go_ret2
    exact ⟨ret_two (by unfold quoVal; rw [if_neg E.out]; exact w63_wrap _) (by unfold quoErr; rw [if_neg E.out]), rfl⟩

set_option maxHeartbeats 400000 in
theorem rem_any (a b : Int) (w : World) :
    Calls Try.prog 19 #[.int .i64 a, .int .i64 b] w fun e w' => e = .returned (.tuple #[.int .i64 (remVal a b), .int .i64 (quoErr b)]) ∧ w = w' := by
  by_cases hb : w63 b = 0
  · have h1 : (w63 b == 0) = true := by simp [hb]
    have E := Lib.hid hb
    clear hb
    go_enter Try.func19, Try.ntmps19
    go_wp2_with (go_at_call 10; refine (wrap_any _ _).mono ?_; rintro e w' ⟨rfl, rfl⟩)
    go_ret2
    exact ⟨ret_two (by unfold remVal; rw [if_pos E.out]) (by unfold quoErr; rw [if_pos E.out]), rfl⟩
  · have h1 : (w63 b == 0) = false := by simp [hb]
    have E := Lib.hid hb
    clear hb
    go_enter Try.func19, Try.ntmps19
    go_wp2_with (go_at_call 10; refine (wrap_any _ _).mono ?_; rintro e w' ⟨rfl, rfl⟩)
    go_ret2
    exact ⟨ret_two (by unfold remVal; rw [if_neg E.out]) (by unfold quoErr; rw [if_neg E.out]), rfl⟩

/-- The document's answer for a quotient. -/
theorem mag_pos (n : Int) (h : n ≠ 0) : 1 ≤ mag n := by unfold mag; split <;> omega
set_option maxHeartbeats 400000 in
theorem rquo_zero (a b : Int) (w : World) (hb : w63 b = 0) :
    Calls Try.prog 20 #[.int .i64 a, .int .i64 b] w fun e w' => e = .returned (.tuple #[.int .i64 0, .int .i64 0, .bool false]) ∧ w = w' := by
  have h1 : (w63 b == 0) = true := by simp [hb]
  clear hb
  go_enter Try.func20, Try.ntmps20
  go_wp2_with (go_at_call 8; refine (rwrap_any _ _).mono ?_; rintro e w' ⟨rfl, rfl⟩)
  go_ret3
  exact ⟨rfl, rfl⟩

set_option maxHeartbeats 400000 in
theorem rquo_any (a b : Int) (w : World) (hb : w63 b ≠ 0) :
    Calls Try.prog 20 #[.int .i64 a, .int .i64 b] w fun e w' => e = .returned (.tuple #[.int .i64 (w63 ((w63 a).tdiv (w63 b))), .int .i64 ((w63 a).tmod (w63 b)), .bool true]) ∧ w = w' := by
  have h1 : (w63 b == 0) = false := by simp [hb]
  have a1 := w63_ge a
  have a2 := w63_le a
  have b1 := w63_ge b
  have b2 := w63_le b
  have E1 := Lib.hid (tdiv_signed (w63 a) (w63 b))
  have E2 := Lib.hid (tmod_signed (w63 a) (w63 b) hb a1 a2)
  have m1 := mag_ge (w63 a)
  have m2 := mag_le (w63 a) a1 a2
  have m3 := mag_pos (w63 b) hb
  have m4 := mag_le (w63 b) b1 b2
  have q1 := Int.ediv_nonneg m1 (show 0 ≤ mag (w63 b) by omega)
  have q2 := Int.ediv_le_self (mag (w63 b)) m1
  have r1 := Int.emod_nonneg (mag (w63 a)) (show mag (w63 b) ≠ 0 by omega)
  have r2 := Int.emod_lt_of_pos (mag (w63 a)) (show 0 < mag (w63 b) by omega)
  clear hb
  go_enter Try.func20, Try.ntmps20
  go_wp2_with (first | (go_at_call 8; refine (rwrap_any _ _).mono ?_; rintro e w' ⟨rfl, rfl⟩) | (go_at_call 26; refine (rsize_any _ _ (by omega) (by omega)).mono ?_; rintro e w' ⟨rfl, rfl⟩) | (go_at_call 25; refine (rsigned_any _ _ _ (by omega) (by omega)).mono ?_; rintro e w' ⟨rfl, rfl⟩))
  go_ret3
  exact ⟨ret_quo E1.out.symm E2.out.symm rfl, rfl⟩

end Go.Proofs.Ytmiofkchgmdnfaa
