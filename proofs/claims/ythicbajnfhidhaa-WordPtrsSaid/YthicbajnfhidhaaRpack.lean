/- The document's packing: the same words. -/
import Derived.Test.YthicbajnfhidhaaPack
import Derived.Test.YthicbajnfhidhaaSame
namespace Go.Proofs.Ythicbajnfhidhaa
open Go.RowKit

/-- The first j words of a text. -/
def packTo (l : List UInt8) (j : Nat) : List Int := (List.range j).map fun t => (wordOf l t : Int)
theorem packTo_len (l : List UInt8) (j : Nat) : (packTo l j).length = j := by simp [packTo]
theorem packTo_succ (l : List UInt8) (j : Nat) : packTo l (j + 1) = packTo l j ++ [(wordOf l j : Int)] := by simp [packTo, List.range_succ]
theorem wordVals_succ (l : List UInt8) (j : Nat) : wordVals (packTo l (j + 1)) = wordVals (packTo l j) ++ [.int .u64 (wordOf l j)] := by rw [packTo_succ]; simp [wordVals]
/-- What is left of a word from byte r on. -/
def rest (l : List UInt8) (j r : Nat) : Nat := num (((l.drop (8 * j)).take 8).drop r)
theorem rest_all (l : List UInt8) (j : Nat) : rest l j 0 = wordOf l j := rfl
theorem rest_none (l : List UInt8) (j : Nat) : rest l j 8 = 0 := by
  unfold rest; rw [List.drop_eq_nil_of_le (by simp; omega)]; rfl
theorem rest_lt (l : List UInt8) (j r : Nat) (h : 1 ≤ r) : rest l j r ≤ 72057594037927935 := by
  unfold rest
  have h1 := num_lt (((l.drop (8 * j)).take 8).drop r)
  have h2 : (((l.drop (8 * j)).take 8).drop r).length ≤ 7 := by simp; omega
  have h3 : 256 ^ (((l.drop (8 * j)).take 8).drop r).length ≤ 256 ^ 7 := Nat.pow_le_pow_right (by omega) h2
  omega
theorem rest_byte (l : List UInt8) (j r : Nat) (hr : r < 8) (h : 8 * j + r < l.length) : rest l j r = 256 * rest l j (r + 1) + (l[8 * j + r]).toNat := by
  unfold rest
  have hl : r < ((l.drop (8 * j)).take 8).length := by simp; omega
  rw [List.drop_eq_getElem_cons hl]
  simp only [num, List.getElem_take, List.getElem_drop]
  omega
theorem rest_past (l : List UInt8) (j r : Nat) (h : l.length ≤ 8 * j + r) : rest l j r = 256 * rest l j (r + 1) := by
  unfold rest
  rw [List.drop_eq_nil_of_le (by simp; omega), List.drop_eq_nil_of_le (by simp; omega)]
  rfl

set_option maxHeartbeats 1600000 in
theorem rpack_any (s : ByteArray) (w : World) (hs : s.size ≤ 1099511627776) :
    Calls Try.prog 26 #[.string s] w fun e w' => ∃ (m : Nat) (v : Value), m = (s.size + 7) / 8 ∧ e = .returned v ∧ w'.ownsRow w.heap.size 22 1 v m (wordVals (packTo s.data.toList m)) ∧ Below w.heap.size w w' := by
  obtain ⟨m, hm⟩ : ∃ m : Nat, (s.size + 7) / 8 = m := ⟨_, rfl⟩
  obtain ⟨i0, hi, hz0, hz1, hz2⟩ := info_parts Try.info22
  have hmm : m ≤ 137438953472 := by omega
  have HM := Lib.hid hm
  have HI := Lib.hid hi
  have HZ0 := Lib.hid hz0
  have HZ1 := Lib.hid hz1
  have HZ2 := Lib.hid hz2
  clear hm hi hz0 hz1 hz2
  go_enter Try.func26, Try.ntmps26
  go_wp2
  go_loopw [3, 4] (fun v i wr => ∃ j : Nat, j ≤ m ∧ i = .int .i64 (8 * (j : Int)) ∧ wr.ownsRow w.heap.size 22 1 v j (wordVals (packTo s.data.toList j)) ∧ Below w.heap.size w wr) (fun _ i _ => 8 * m - (intOf i).toNat)
  case atStart => exact ⟨0, Nat.zero_le _, rfl, World.ownsRow_nil _ _ _ _, Below.refl _ _⟩
  case round =>
    obtain ⟨j, hj, rfl, hown, hbel⟩ := hrel
    by_cases hlt : 8 * j < s.size
    · obtain ⟨wo, rfl⟩ : ∃ wo : World, wo = wr := ⟨_, rfl⟩
      have hd : decide (8 * (j : Int) < (s.size : Int)) = true := by simp; omega
      have hsz := hbel.size
      go_wp2
      go_loop [5, 6] (fun a b => ∃ r : Nat, r ≤ 8 ∧ b = .int .i64 ((r : Int) - 1) ∧ a = .int .u64 (rest s.data.toList j r)) (fun _ b => (intOf b + 1).toNat)
      case atStart => exact ⟨8, Nat.le_refl _, rfl, by rw [rest_none]; rfl⟩
      case round =>
        obtain ⟨r, hr, rfl, rfl⟩ := hrel
        by_cases h0 : 1 ≤ r
        · have hb := rest_lt s.data.toList j r h0
          have g1 : (0 : Int) ≤ (r : Int) - 1 := by omega
          obtain ⟨q, hq⟩ : ∃ q : Nat, r = q + 1 := ⟨r - 1, by omega⟩
          subst hq
          by_cases hin : 8 * j + q < s.size
          · have hby := rest_byte s.data.toList j q (by omega) (by simpa using hin)
            have HBY := Lib.hid hby
            clear hby
            have hc : (s[8 * j + q]).toNat < 256 := (s[8 * j + q]).toNat_lt
            go_wp2
            go_round
            case rel => exact ⟨q, by omega, by go_num, by rw [HBY.out]; simp; rfl⟩
            case measure => simp [intOf]
          · have hby := rest_past s.data.toList j q (by simp; omega)
            have HBY := Lib.hid hby
            clear hby
            go_wp2
            go_round
            case rel => exact ⟨q, by omega, by go_num, by rw [HBY.out]; go_num⟩
            case measure => simp [intOf]
        · obtain rfl : r = 0 := by omega
          go_wp2_with (first
            | (at_builtin; refine wpList_append_own _ rfl _ _ 44 rfl w.heap.size 22 i0 (.int .u64 0) 1 8 Try.underlying44 HI.out HZ0.out HZ1.out HZ2.out rfl (by decide) _ _ _ rfl (hown.alloc _) ⟨wo.heap.size, 0, none⟩ 1 1 [.int .u64 ↑(rest s.data.toList j 0)] rfl rfl (one_new _ _ _) (one_is rfl) (by unfold maxLen; omega) (by omega) (by simp; omega) ?_)
            | go_in)
          · intro v' w1 hown' hgrow _
            rw [rest_all, ← wordVals_succ] at hown'
            have hb2 : Below w.heap.size w w1 := (hbel.alloc hsz _).grown hgrow (by have := hbel.size; simp; omega) (own_base hown)
            clear hown hgrow hbel
            go_wp2
            go_roundw
            case rel => exact ⟨j + 1, by have := HM.out; omega, by go_num, hown', hb2⟩
            case measure => have := HM.out; simp [intOf]; omega
    · have hjm : j = m := by have := HM.out; omega
      subst hjm
      go_wp2
      go_ret
      exact ⟨j, _, HM.out.symm, rfl, hown, hbel⟩

end Go.Proofs.Ythicbajnfhidhaa
