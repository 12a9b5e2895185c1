/-
  The law 'ParseDeep' of the document's layer returns true for every input, and leaves what it was given as it was. No condition.
-/
import Derived.Test.YtiiddmioafhmoaaDoorRows
import Derived.WalkKit
import Derived.ProofKit
import Derived.OpenShut
import Derived.ShutString
import Derived.ChangeOld
import Derived.Below
import Derived.Carry
import Derived.Lib.SmallJoins
import Derived.SliceStrings
import Derived.Test.YtiiddmioafhmoaaDoorCards
import Derived.Test.YtiiddmioafhmoaaDoorTie
import Derived.LaidMore
import Derived.Lay
import Derived.SevenTiedAt
import Derived.Stop.Joined
import Derived.Test.YtiiddmioafhmoaaDoorMgi
namespace Go.Proofs.YtiiddmioafhmoaaDoor.parseDeep
open Go.Proofs.YtiiddmioafhmoaaDoor
open Go.ChangeShapes Go.WideShapes Go.ChangeAt Go.RowKit Go.Joins
open Go.ChangeMaps (open_string shut_string)
set_option linter.unusedVariables false

theorem own : ownKnob Tryd.prog.godebug = none := by kernel_rfl
theorem laidOut : laidOutB Tryd.prog = true := by kernel_rfl

theorem repL_len (s : List UInt8) : ∀ m, (repL s m).length = m * s.length
  | 0 => by simp [repL]
  | m + 1 => by rw [repL, List.length_append, repL_len s m, Nat.succ_mul]
theorem repL_nil : ∀ m, repL [] m = []
  | 0 => rfl
  | m + 1 => by rw [repL, repL_nil m]; rfl
set_option maxRecDepth 100000 in
set_option maxHeartbeats 12800000 in
theorem walk (a0 : Int) (a1 : Int) (w : World) (w0 : (Lit.int .i64 a0).wf = true) (w1 : (Lit.int .i64 a1).wf = true) :
    Calls Tryd.prog 3 #[.int .i64 a0, .int .i64 a1] w fun e w' => e = .returned (.bool true) ∧ Below w.heap.size w w' := by
  by_cases hn0 : a0 < 0
  · have d0 : decide (a0 < 0) = true := by simpa using hn0
    go_enter Tryd.func3, Tryd.ntmps3
    go_wp2_with (go_at_call 4; refine (awake06_any _).mono ?_; rintro e w2 ⟨rfl, hg⟩)
    go_ret
    exact ⟨rfl, hg⟩
  have d0 : decide (a0 < 0) = false := by simp; omega
  by_cases hn6 : 600 < a0
  · have d1 : decide ((600 : Int) < a0) = true := by simpa using hn6
    go_enter Tryd.func3, Tryd.ntmps3
    go_wp2_with (go_at_call 4; refine (awake06_any _).mono ?_; rintro e w2 ⟨rfl, hg⟩)
    go_ret
    exact ⟨rfl, hg⟩
  have d1 : decide ((600 : Int) < a0) = false := by simp; omega
  obtain ⟨n, rfl⟩ : ∃ n : Nat, a0 = (n : Int) := ⟨a0.toNat, by omega⟩
  have hn : n ≤ 600 := by omega
  clear hn0 hn6
  have hcases : (IntKind.u64.wrap a1).tmod 4 = 0 ∨ (IntKind.u64.wrap a1).tmod 4 = 1 ∨ (IntKind.u64.wrap a1).tmod 4 = 2 ∨ (IntKind.u64.wrap a1).tmod 4 = 3 := by
    have h0 : 0 ≤ IntKind.u64.wrap a1 := by simp only [IntKind.wrap, IntKind.signed, IntKind.bits]; simp; omega
    rw [Int.tmod_eq_emod_of_nonneg h0]; omega
  rcases hcases with hk | hk | hk | hk
  · go_enter Tryd.func3, Tryd.ntmps3
    go_wp2_with (go_at_call 4; refine (awake06_any _).mono ?_; rintro e w2 ⟨rfl, hg⟩)
    go_loopw [5, 26] (fun v i wrQ => ∃ (j : Nat) (s : ByteArray), v = .string s ∧ i = .int .i64 j ∧ j ≤ n ∧ s.data.toList = repL st0 j ∧ Below w.heap.size w wrQ) (fun _ i _ => n - (intOf i).toNat)
    case atStart => exact ⟨0, ⟨#[]⟩, rfl, rfl, Nat.zero_le _, rfl, hg.alloc hg.size _⟩
    case round =>
      obtain ⟨j, s, rfl, rfl, hj, hs, hbw⟩ := hrel
      have hsz : s.size = j * 1 := by rw [← data_len, hs, repL_len]; rfl
      have HS := Lib.hid hs
      have HBW := Lib.hid hbw
      clear hs hbw
      by_cases hlt : j < n
      · have hap : (s ++ (⟨#[40]⟩ : ByteArray)).data.toList = repL st0 (j + 1) := by rw [ByteArray.data_append, Array.toList_append, HS.out]; rfl
        have HAP := Lib.hid hap
        clear hap
        go_wp2_with fail
        go_roundw
        case rel => exact ⟨j + 1, s ++ (⟨#[40]⟩ : ByteArray), rfl, by go_num, by omega, HAP.out, HBW.out⟩
        case measure => simp [intOf]; omega
      · obtain rfl : j = n := by omega
        have hap : (s ++ ⟨#[97]⟩).data.toList = repL st0 j ++ [97] := by rw [ByteArray.data_append, Array.toList_append, HS.out]
        have HAP := Lib.hid hap
        clear hap
        go_wp2_with fail
        go_loopw [5, 37] (fun v i wrQ => ∃ (i2 : Nat) (t : ByteArray), v = .string t ∧ i = .int .i64 i2 ∧ i2 ≤ j ∧ t.data.toList = repL st0 j ++ [97] ++ repL su0 i2 ∧ Below w.heap.size w wrQ) (fun _ i _ => j - (intOf i).toNat)
        case atStart => exact ⟨0, s ++ ⟨#[97]⟩, rfl, rfl, Nat.zero_le _, by rw [HAP.out]; simp [repL], HBW.out⟩
        case round =>
          obtain ⟨i2, t, rfl, rfl, hi2, ht, hbw2⟩ := hrel
          have htz : t.size = j * 1 + 1 + i2 * 1 := by rw [← data_len, ht, List.length_append, List.length_append, repL_len, repL_len]; rfl
          have HT := Lib.hid ht
          have HBW2 := Lib.hid hbw2
          clear ht hbw2
          by_cases hlt2 : i2 < j
          · have hap2 : (t ++ (⟨#[41]⟩ : ByteArray)).data.toList = repL st0 j ++ [97] ++ repL su0 (i2 + 1) := by rw [ByteArray.data_append, Array.toList_append, HT.out, List.append_assoc]; rfl
            have HT2 := Lib.hid hap2
            clear hap2
            go_wp2_with fail
            go_roundw
            case rel => exact ⟨i2 + 1, t ++ (⟨#[41]⟩ : ByteArray), rfl, by go_num, by omega, HT2.out, HBW2.out⟩
            case measure => simp [intOf]; omega
          · obtain rfl : i2 = j := by omega
            have hsrc : t.data.toList = srcK 0 i2 := HT.out
            have hmx : t.size ≤ maxLen := by rw [htz]; unfold maxLen; omega
            by_cases h3 : i2 < 300
            · obtain ⟨ex, qq, hex⟩ := (src_says 0 i2 (by decide) hn).1 h3
              have CE := Lib.hid (fun W => exp_src t W hmx (.ok ex (endT qq)) (by rw [hsrc]; exact hex) (by simp))
              have d3 : decide ((i2 : Int) < 300) = true := by simp; omega
              clear hsrc hmx hex
              go_wp2_with (go_at_call 5; (with_reducible refine (CE.out _).mono ?_); rintro e w3 ⟨hb3, cs, hlen, rfl, hty⟩; (obtain ⟨x0, x1, x2, x3, x4, x5, x6, x7, x8, x9, x10, rfl⟩ := eleven_of hlen); (have s0 := store_one' x0 (ex_ones' hty x0 (by simp))); (have s1 := store_one' x1 (ex_ones' hty x1 (by simp))); (have s2 := store_one' x2 (ex_ones' hty x2 (by simp))); (have s3 := store_one' x3 (ex_ones' hty x3 (by simp))); (have s4 := store_one' x4 (ex_ones' hty x4 (by simp))); (have s5 := store_one' x5 (ex_ones' hty x5 (by simp))); (have s6 := store_one' x6 (ex_ones' hty x6 (by simp))); (have s7 := store_one' x7 (ex_ones' hty x7 (by simp))); (have s8 := store_one' x8 (ex_ones' hty x8 (by simp))); (have s9 := store_one' x9 (ex_ones' hty x9 (by simp))); (have s10 := store_one' x10 (ex_ones' hty x10 (by simp))))
              go_ret
              have hb4 := HBW2.out.trans (hb3.mono HBW2.out.size)
              exact ⟨rfl, (hb4.alloc hb4.size _).alloc (by simp; have := hb4.size; omega) _⟩
            · have hex := (src_says 0 i2 (by decide) hn).2 (by omega)
              rw [show firstK 0 = 300 from rfl] at hex
              have CE := Lib.hid (fun W => exp_src t W hmx (.bad 111 300) (by rw [hsrc]; exact hex) (by simp))
              have d3 : decide ((i2 : Int) < 300) = false := by simp; omega
              have h300 : 300 ≤ i2 := by omega
              clear hsrc hmx hex
              go_wp2_with (go_at_call 5; (with_reducible refine (CE.out _).mono ?_); rintro e w3 ⟨hb3, rfl⟩)
              go_ret
              have hb4 := HBW2.out.trans (hb3.mono HBW2.out.size)
              exact ⟨ret_bool (by simp <;> omega), (hb4.alloc hb4.size _).alloc (by simp; have := hb4.size; omega) _⟩
  · go_enter Tryd.func3, Tryd.ntmps3
    go_wp2_with (go_at_call 4; refine (awake06_any _).mono ?_; rintro e w2 ⟨rfl, hg⟩)
    go_loopw [5, 26] (fun v i wrQ => ∃ (j : Nat) (s : ByteArray), v = .string s ∧ i = .int .i64 j ∧ j ≤ n ∧ s.data.toList = repL st1 j ∧ Below w.heap.size w wrQ) (fun _ i _ => n - (intOf i).toNat)
    case atStart => exact ⟨0, ⟨#[]⟩, rfl, rfl, Nat.zero_le _, rfl, hg.alloc hg.size _⟩
    case round =>
      obtain ⟨j, s, rfl, rfl, hj, hs, hbw⟩ := hrel
      have hsz : s.size = j * 6 := by rw [← data_len, hs, repL_len]; rfl
      have HS := Lib.hid hs
      have HBW := Lib.hid hbw
      clear hs hbw
      by_cases hlt : j < n
      · have hap : (s ++ (⟨#[92, 120, 32, 45, 62, 32]⟩ : ByteArray)).data.toList = repL st1 (j + 1) := by rw [ByteArray.data_append, Array.toList_append, HS.out]; rfl
        have HAP := Lib.hid hap
        clear hap
        go_wp2_with fail
        go_roundw
        case rel => exact ⟨j + 1, s ++ (⟨#[92, 120, 32, 45, 62, 32]⟩ : ByteArray), rfl, by go_num, by omega, HAP.out, HBW.out⟩
        case measure => simp [intOf]; omega
      · obtain rfl : j = n := by omega
        have hap : (s ++ ⟨#[97]⟩).data.toList = repL st1 j ++ [97] := by rw [ByteArray.data_append, Array.toList_append, HS.out]
        have HAP := Lib.hid hap
        clear hap
        go_wp2_with fail
        go_loopw [5, 37] (fun v i wrQ => ∃ (i2 : Nat) (t : ByteArray), v = .string t ∧ i = .int .i64 i2 ∧ i2 ≤ j ∧ t.data.toList = repL st1 j ++ [97] ++ repL [] i2 ∧ Below w.heap.size w wrQ) (fun _ i _ => j - (intOf i).toNat)
        case atStart => exact ⟨0, s ++ ⟨#[97]⟩, rfl, rfl, Nat.zero_le _, by rw [HAP.out]; simp [repL], HBW.out⟩
        case round =>
          obtain ⟨i2, t, rfl, rfl, hi2, ht, hbw2⟩ := hrel
          have htz : t.size = j * 6 + 1 + i2 * 0 := by rw [← data_len, ht, List.length_append, List.length_append, repL_len, repL_len]; rfl
          have HT := Lib.hid ht
          have HBW2 := Lib.hid hbw2
          clear ht hbw2
          by_cases hlt2 : i2 < j
          · have hap2 : t.data.toList = repL st1 j ++ [97] ++ repL [] (i2 + 1) := by rw [HT.out, repL_nil, repL_nil]
            have HT2 := Lib.hid hap2
            clear hap2
            go_wp2_with fail
            go_roundw
            case rel => exact ⟨i2 + 1, t, rfl, by go_num, by omega, HT2.out, HBW2.out⟩
            case measure => simp [intOf]; omega
          · obtain rfl : i2 = j := by omega
            have hsrc : t.data.toList = srcK 1 i2 := HT.out
            have hmx : t.size ≤ maxLen := by rw [htz]; unfold maxLen; omega
            by_cases h3 : i2 < 300
            · obtain ⟨ex, qq, hex⟩ := (src_says 1 i2 (by decide) hn).1 h3
              have CE := Lib.hid (fun W => exp_src t W hmx (.ok ex (endT qq)) (by rw [hsrc]; exact hex) (by simp))
              have d3 : decide ((i2 : Int) < 300) = true := by simp; omega
              clear hsrc hmx hex
              go_wp2_with (go_at_call 5; (with_reducible refine (CE.out _).mono ?_); rintro e w3 ⟨hb3, cs, hlen, rfl, hty⟩; (obtain ⟨x0, x1, x2, x3, x4, x5, x6, x7, x8, x9, x10, rfl⟩ := eleven_of hlen); (have s0 := store_one' x0 (ex_ones' hty x0 (by simp))); (have s1 := store_one' x1 (ex_ones' hty x1 (by simp))); (have s2 := store_one' x2 (ex_ones' hty x2 (by simp))); (have s3 := store_one' x3 (ex_ones' hty x3 (by simp))); (have s4 := store_one' x4 (ex_ones' hty x4 (by simp))); (have s5 := store_one' x5 (ex_ones' hty x5 (by simp))); (have s6 := store_one' x6 (ex_ones' hty x6 (by simp))); (have s7 := store_one' x7 (ex_ones' hty x7 (by simp))); (have s8 := store_one' x8 (ex_ones' hty x8 (by simp))); (have s9 := store_one' x9 (ex_ones' hty x9 (by simp))); (have s10 := store_one' x10 (ex_ones' hty x10 (by simp))))
              go_ret
              have hb4 := HBW2.out.trans (hb3.mono HBW2.out.size)
              exact ⟨rfl, (hb4.alloc hb4.size _).alloc (by simp; have := hb4.size; omega) _⟩
            · have hex := (src_says 1 i2 (by decide) hn).2 (by omega)
              rw [show firstK 1 = 1800 from rfl] at hex
              have CE := Lib.hid (fun W => exp_src t W hmx (.bad 111 1800) (by rw [hsrc]; exact hex) (by simp))
              have d3 : decide ((i2 : Int) < 300) = false := by simp; omega
              have h300 : 300 ≤ i2 := by omega
              clear hsrc hmx hex
              go_wp2_with (go_at_call 5; (with_reducible refine (CE.out _).mono ?_); rintro e w3 ⟨hb3, rfl⟩)
              go_ret
              have hb4 := HBW2.out.trans (hb3.mono HBW2.out.size)
              exact ⟨ret_bool (by simp <;> omega), (hb4.alloc hb4.size _).alloc (by simp; have := hb4.size; omega) _⟩
  · go_enter Tryd.func3, Tryd.ntmps3
    go_wp2_with (go_at_call 4; refine (awake06_any _).mono ?_; rintro e w2 ⟨rfl, hg⟩)
    go_loopw [5, 26] (fun v i wrQ => ∃ (j : Nat) (s : ByteArray), v = .string s ∧ i = .int .i64 j ∧ j ≤ n ∧ s.data.toList = repL st2 j ∧ Below w.heap.size w wrQ) (fun _ i _ => n - (intOf i).toNat)
    case atStart => exact ⟨0, ⟨#[]⟩, rfl, rfl, Nat.zero_le _, rfl, hg.alloc hg.size _⟩
    case round =>
      obtain ⟨j, s, rfl, rfl, hj, hs, hbw⟩ := hrel
      have hsz : s.size = j * 17 := by rw [← data_len, hs, repL_len]; rfl
      have HS := Lib.hid hs
      have HBW := Lib.hid hbw
      clear hs hbw
      by_cases hlt : j < n
      · have hap : (s ++ (⟨#[105, 102, 32, 97, 32, 116, 104, 101, 110, 32, 98, 32, 101, 108, 115, 101, 32]⟩ : ByteArray)).data.toList = repL st2 (j + 1) := by rw [ByteArray.data_append, Array.toList_append, HS.out]; rfl
        have HAP := Lib.hid hap
        clear hap
        go_wp2_with fail
        go_roundw
        case rel => exact ⟨j + 1, s ++ (⟨#[105, 102, 32, 97, 32, 116, 104, 101, 110, 32, 98, 32, 101, 108, 115, 101, 32]⟩ : ByteArray), rfl, by go_num, by omega, HAP.out, HBW.out⟩
        case measure => simp [intOf]; omega
      · obtain rfl : j = n := by omega
        have hap : (s ++ ⟨#[97]⟩).data.toList = repL st2 j ++ [97] := by rw [ByteArray.data_append, Array.toList_append, HS.out]
        have HAP := Lib.hid hap
        clear hap
        go_wp2_with fail
        go_loopw [5, 37] (fun v i wrQ => ∃ (i2 : Nat) (t : ByteArray), v = .string t ∧ i = .int .i64 i2 ∧ i2 ≤ j ∧ t.data.toList = repL st2 j ++ [97] ++ repL [] i2 ∧ Below w.heap.size w wrQ) (fun _ i _ => j - (intOf i).toNat)
        case atStart => exact ⟨0, s ++ ⟨#[97]⟩, rfl, rfl, Nat.zero_le _, by rw [HAP.out]; simp [repL], HBW.out⟩
        case round =>
          obtain ⟨i2, t, rfl, rfl, hi2, ht, hbw2⟩ := hrel
          have htz : t.size = j * 17 + 1 + i2 * 0 := by rw [← data_len, ht, List.length_append, List.length_append, repL_len, repL_len]; rfl
          have HT := Lib.hid ht
          have HBW2 := Lib.hid hbw2
          clear ht hbw2
          by_cases hlt2 : i2 < j
          · have hap2 : t.data.toList = repL st2 j ++ [97] ++ repL [] (i2 + 1) := by rw [HT.out, repL_nil, repL_nil]
            have HT2 := Lib.hid hap2
            clear hap2
            go_wp2_with fail
            go_roundw
            case rel => exact ⟨i2 + 1, t, rfl, by go_num, by omega, HT2.out, HBW2.out⟩
            case measure => simp [intOf]; omega
          · obtain rfl : i2 = j := by omega
            have hsrc : t.data.toList = srcK 2 i2 := HT.out
            have hmx : t.size ≤ maxLen := by rw [htz]; unfold maxLen; omega
            by_cases h3 : i2 < 300
            · obtain ⟨ex, qq, hex⟩ := (src_says 2 i2 (by decide) hn).1 h3
              have CE := Lib.hid (fun W => exp_src t W hmx (.ok ex (endT qq)) (by rw [hsrc]; exact hex) (by simp))
              have d3 : decide ((i2 : Int) < 300) = true := by simp; omega
              clear hsrc hmx hex
              go_wp2_with (go_at_call 5; (with_reducible refine (CE.out _).mono ?_); rintro e w3 ⟨hb3, cs, hlen, rfl, hty⟩; (obtain ⟨x0, x1, x2, x3, x4, x5, x6, x7, x8, x9, x10, rfl⟩ := eleven_of hlen); (have s0 := store_one' x0 (ex_ones' hty x0 (by simp))); (have s1 := store_one' x1 (ex_ones' hty x1 (by simp))); (have s2 := store_one' x2 (ex_ones' hty x2 (by simp))); (have s3 := store_one' x3 (ex_ones' hty x3 (by simp))); (have s4 := store_one' x4 (ex_ones' hty x4 (by simp))); (have s5 := store_one' x5 (ex_ones' hty x5 (by simp))); (have s6 := store_one' x6 (ex_ones' hty x6 (by simp))); (have s7 := store_one' x7 (ex_ones' hty x7 (by simp))); (have s8 := store_one' x8 (ex_ones' hty x8 (by simp))); (have s9 := store_one' x9 (ex_ones' hty x9 (by simp))); (have s10 := store_one' x10 (ex_ones' hty x10 (by simp))))
              go_ret
              have hb4 := HBW2.out.trans (hb3.mono HBW2.out.size)
              exact ⟨rfl, (hb4.alloc hb4.size _).alloc (by simp; have := hb4.size; omega) _⟩
            · have hex := (src_says 2 i2 (by decide) hn).2 (by omega)
              rw [show firstK 2 = 5086 from rfl] at hex
              have CE := Lib.hid (fun W => exp_src t W hmx (.bad 111 5086) (by rw [hsrc]; exact hex) (by simp))
              have d3 : decide ((i2 : Int) < 300) = false := by simp; omega
              have h300 : 300 ≤ i2 := by omega
              clear hsrc hmx hex
              go_wp2_with (go_at_call 5; (with_reducible refine (CE.out _).mono ?_); rintro e w3 ⟨hb3, rfl⟩)
              go_ret
              have hb4 := HBW2.out.trans (hb3.mono HBW2.out.size)
              exact ⟨ret_bool (by simp <;> omega), (hb4.alloc hb4.size _).alloc (by simp; have := hb4.size; omega) _⟩
  · go_enter Tryd.func3, Tryd.ntmps3
    go_wp2_with (go_at_call 4; refine (awake06_any _).mono ?_; rintro e w2 ⟨rfl, hg⟩)
    go_loopw [5, 26] (fun v i wrQ => ∃ (j : Nat) (s : ByteArray), v = .string s ∧ i = .int .i64 j ∧ j ≤ n ∧ s.data.toList = repL st3 j ∧ Below w.heap.size w wrQ) (fun _ i _ => n - (intOf i).toNat)
    case atStart => exact ⟨0, ⟨#[]⟩, rfl, rfl, Nat.zero_le _, rfl, hg.alloc hg.size _⟩
    case round =>
      obtain ⟨j, s, rfl, rfl, hj, hs, hbw⟩ := hrel
      have hsz : s.size = j * 8 := by rw [← data_len, hs, repL_len]; rfl
      have HS := Lib.hid hs
      have HBW := Lib.hid hbw
      clear hs hbw
      by_cases hlt : j < n
      · have hap : (s ++ (⟨#[108, 101, 116, 32, 121, 32, 61, 32]⟩ : ByteArray)).data.toList = repL st3 (j + 1) := by rw [ByteArray.data_append, Array.toList_append, HS.out]; rfl
        have HAP := Lib.hid hap
        clear hap
        go_wp2_with fail
        go_roundw
        case rel => exact ⟨j + 1, s ++ (⟨#[108, 101, 116, 32, 121, 32, 61, 32]⟩ : ByteArray), rfl, by go_num, by omega, HAP.out, HBW.out⟩
        case measure => simp [intOf]; omega
      · obtain rfl : j = n := by omega
        have hap : (s ++ ⟨#[97]⟩).data.toList = repL st3 j ++ [97] := by rw [ByteArray.data_append, Array.toList_append, HS.out]
        have HAP := Lib.hid hap
        clear hap
        go_wp2_with fail
        go_loopw [5, 37] (fun v i wrQ => ∃ (i2 : Nat) (t : ByteArray), v = .string t ∧ i = .int .i64 i2 ∧ i2 ≤ j ∧ t.data.toList = repL st3 j ++ [97] ++ repL su3 i2 ∧ Below w.heap.size w wrQ) (fun _ i _ => j - (intOf i).toNat)
        case atStart => exact ⟨0, s ++ ⟨#[97]⟩, rfl, rfl, Nat.zero_le _, by rw [HAP.out]; simp [repL], HBW.out⟩
        case round =>
          obtain ⟨i2, t, rfl, rfl, hi2, ht, hbw2⟩ := hrel
          have htz : t.size = j * 8 + 1 + i2 * 5 := by rw [← data_len, ht, List.length_append, List.length_append, repL_len, repL_len]; rfl
          have HT := Lib.hid ht
          have HBW2 := Lib.hid hbw2
          clear ht hbw2
          by_cases hlt2 : i2 < j
          · have hap2 : (t ++ (⟨#[32, 105, 110, 32, 121]⟩ : ByteArray)).data.toList = repL st3 j ++ [97] ++ repL su3 (i2 + 1) := by rw [ByteArray.data_append, Array.toList_append, HT.out, List.append_assoc]; rfl
            have HT2 := Lib.hid hap2
            clear hap2
            go_wp2_with fail
            go_roundw
            case rel => exact ⟨i2 + 1, t ++ (⟨#[32, 105, 110, 32, 121]⟩ : ByteArray), rfl, by go_num, by omega, HT2.out, HBW2.out⟩
            case measure => simp [intOf]; omega
          · obtain rfl : i2 = j := by omega
            have hsrc : t.data.toList = srcK 3 i2 := HT.out
            have hmx : t.size ≤ maxLen := by rw [htz]; unfold maxLen; omega
            by_cases h3 : i2 < 300
            · obtain ⟨ex, qq, hex⟩ := (src_says 3 i2 (by decide) hn).1 h3
              have CE := Lib.hid (fun W => exp_src t W hmx (.ok ex (endT qq)) (by rw [hsrc]; exact hex) (by simp))
              have d3 : decide ((i2 : Int) < 300) = true := by simp; omega
              clear hsrc hmx hex
              go_wp2_with (go_at_call 5; (with_reducible refine (CE.out _).mono ?_); rintro e w3 ⟨hb3, cs, hlen, rfl, hty⟩; (obtain ⟨x0, x1, x2, x3, x4, x5, x6, x7, x8, x9, x10, rfl⟩ := eleven_of hlen); (have s0 := store_one' x0 (ex_ones' hty x0 (by simp))); (have s1 := store_one' x1 (ex_ones' hty x1 (by simp))); (have s2 := store_one' x2 (ex_ones' hty x2 (by simp))); (have s3 := store_one' x3 (ex_ones' hty x3 (by simp))); (have s4 := store_one' x4 (ex_ones' hty x4 (by simp))); (have s5 := store_one' x5 (ex_ones' hty x5 (by simp))); (have s6 := store_one' x6 (ex_ones' hty x6 (by simp))); (have s7 := store_one' x7 (ex_ones' hty x7 (by simp))); (have s8 := store_one' x8 (ex_ones' hty x8 (by simp))); (have s9 := store_one' x9 (ex_ones' hty x9 (by simp))); (have s10 := store_one' x10 (ex_ones' hty x10 (by simp))))
              go_ret
              have hb4 := HBW2.out.trans (hb3.mono HBW2.out.size)
              exact ⟨rfl, (hb4.alloc hb4.size _).alloc (by simp; have := hb4.size; omega) _⟩
            · have hex := (src_says 3 i2 (by decide) hn).2 (by omega)
              rw [show firstK 3 = 2400 from rfl] at hex
              have CE := Lib.hid (fun W => exp_src t W hmx (.bad 111 2400) (by rw [hsrc]; exact hex) (by simp))
              have d3 : decide ((i2 : Int) < 300) = false := by simp; omega
              have h300 : 300 ≤ i2 := by omega
              clear hsrc hmx hex
              go_wp2_with (go_at_call 5; (with_reducible refine (CE.out _).mono ?_); rintro e w3 ⟨hb3, rfl⟩)
              go_ret
              have hb4 := HBW2.out.trans (hb3.mono HBW2.out.size)
              exact ⟨ret_bool (by simp <;> omega), (hb4.alloc hb4.size _).alloc (by simp; have := hb4.size; omega) _⟩

set_option maxRecDepth 100000 in
theorem lifted (os : Os) (started : os.Started) (H : Type) (enc : TypeId × Value → H) :
    ReturnsInHanded {} Tryd.checked os 3 .any (fun w args => (Rows.parseDeepSpec.pre enc Tryd.prog Tryd.f3 Rows.parseDeepRow.domain false w args ∧ laidMetH Tryd.prog Rows.parseDeepRow.laid w) ∧ sizedMet enc Tryd.prog Tryd.f3 (OpenSpec.ofChange Rows.parseDeepSpec) false w args) (Rows.parseDeepSpec.post enc Tryd.prog Tryd.f3 false true false false) := by
  refine returnsInHanded_of_change_and (C := Tryd.checked) (X := fun w _ => laidMetH Tryd.prog Rows.parseDeepRow.laid w) (fun _ _ _ hh h => h.of_heap hh) own started (by kernel_rfl) Tryd.func3
    (ChangeSpec.witness_shaped (enc := enc) (C := Tryd.checked) (os := os) (X := fun w _ => laidMetH Tryd.prog Rows.parseDeepRow.laid w) false (World.laidAll Tryd.prog os Rows.parseDeepRow.laid) #[.int .i64 0, .int .i64 0] 8 (World.laidAll_os _ _ _)
      (World.shaped_of_ZipB (by kernel_rfl) (by kernel_rfl)) (by kernel_rfl) (by kernel_rfl) (by kernel_rfl)
      (by rw [MakeChecks.laidMetH_plain _ _ _ (by kernel_rfl)]; exact laidMet_laidAll _ (by kernel_rfl) (by kernel_rfl))) ?_
  intro W base args ds gs before hval0 hW hcnd _ hL _
  have hval : ∀ (j : Nat) t v, Tryd.f3.params[j]? = some t → args[j]? = some v → Value.okWide Tryd.prog W .any base t v := hval0
  have hW' := hW
  obtain ⟨p, q, hA0, hV, rfl, hfz, hnd⟩ := hW
  have hA : DataW.TrodAll enc Tryd.prog W 0 (fun _ => true) true Tryd.f3.params.toList args.toList ds p := hA0
  rw [Tryd.params3] at hA hval
  obtain ⟨v0, vs0, d0, ds0, p0, q0, hargs, rfl, rfl, h0, r0⟩ := trodAll_cons hA
  obtain ⟨v1, vs1, d1, ds1, p1, q1, rfl, rfl, rfl, h1, r1⟩ := trodAll_cons r0
  obtain ⟨rfl, rfl, rfl⟩ := trodAll_nil r1
  obtain rfl : args = #[v0, v1] := by cases args; simp_all
  obtain ⟨rfl, rfl⟩ := trodVars_none hV
  have k0 := h0
  have lt0 : ∀ x ∈ p0, x.block < W.heap.size := by obtain ⟨m, hm⟩ := k0; exact DataW.trod_lt m _ _ _ hm
  obtain ⟨a0, rfl, rfl, rfl, w0⟩ := open_int Tryd.underlying3 (hval 0 3 v0 rfl rfl) h0
  have k1 := h1
  have lt1 : ∀ x ∈ p1, x.block < W.heap.size := by obtain ⟨m, hm⟩ := k1; exact DataW.trod_lt m _ _ _ hm
  obtain ⟨a1, rfl, rfl, rfl, w1⟩ := open_int Tryd.underlying3 (hval 1 3 v1 rfl rfl) h1
  clear hA0 hval0
  refine (walk a0 a1 W w0 w1).mono fun e W' ⟨he, bel⟩ => ?_
  subst he
  exact ⟨_, rfl, _, _, _, [], _, [], hW', trodAll_mk1 (shut_bool Tryd.underlying4 _), (trodAll_cons_mk (Below.trod laidOut (by kernel_rfl) (of_decide_eq_true (by kernel_rfl)) k0 bel lt0) (trodAll_cons_mk (Below.trod laidOut (by kernel_rfl) (of_decide_eq_true (by kernel_rfl)) k1 bel lt1) trodAll_mk0)), rfl, bel.frame _, fun h => by cases h⟩

theorem over : Rows.parseDeepRow.holds Tryd.pinned (OpenSpec.ofChange Rows.parseDeepSpec) :=
  OpenClaim.holds_of_wide 3 Tryd.f3 rfl rfl rfl rfl rfl rfl rfl ⟨rfl, rfl, rfl, rfl, rfl⟩ rfl rfl rfl rfl rfl (by kernel_rfl) Tryd.func3 (by kernel_rfl)
    (of_decide_eq_true (by kernel_rfl)) (by unfold Func.isWrapper; first | (rw [if_pos (by decide +kernel)]; kernel_rfl) | (rw [if_neg (by decide +kernel)]; exact ⟨rfl, rfl⟩))
    (fun os started H enc _ => lifted os started H enc)

theorem plain (f : FuncId) (fn : Func) (hf : Tryd.pinned.checked.prog.funcNamed "cognate/cognatelaw06.ParseDeep" = some f) (hfn : Tryd.pinned.checked.prog.funcs[f]? = some fn) :
    true = Tryd.pinned.checked.prog.looks [] ∧ ∀ (j : Nat) t, fn.params[j]? = some t → Tryd.pinned.checked.prog.wantsStandIn t = false := by
  obtain rfl : f = 3 := Option.some.inj ((show Tryd.prog.funcNamed "cognate/cognatelaw06.ParseDeep" = some 3 by kernel_rfl).symm.trans hf) |>.symm
  obtain rfl : fn = Tryd.f3 := (Option.some.inj (Tryd.func3.symm.trans hfn)).symm
  refine ⟨by kernel_rfl, fun j t ht => ?_⟩
  rw [Tryd.params3] at ht
  have hm : t ∈ [3] := by have := Array.mem_of_getElem? ht; simpa using this
  have hall : ([3].all fun u => !Tryd.prog.wantsStandIn u) = true := by kernel_rfl
  exact (show Tryd.prog.wantsStandIn t = false by simpa using List.all_eq_true.1 hall t hm)

/-- The statement: the card. -/
theorem proved : Rows.ParseDeepCardSaid :=
  Claim7.holds_tied_plain_at .later [] _ _ _ _ over (fun _ h => by cases h) (by kernel_rfl) (fun _ h => by cases h) parseDeep_row_tie rfl ⟨rfl, rfl⟩ (by kernel_rfl) rfl plain (by kernel_rfl)
#print axioms proved
end Go.Proofs.YtiiddmioafhmoaaDoor.parseDeep
