/- Packing: what Pack returns, over new memory. -/
import Derived.Test.YthicbajnfhidhaaNum
namespace Go.Proofs.Ythicbajnfhidhaa
open Go.RowKit

theorem wordsof_any (n : Nat) (w : World) (hn : n ≤ 9223372036854775807) :
    Calls Try.prog 31 #[.int .i64 n] w fun e w' => e = .returned (.int .i64 (((n + 7) / 8 : Nat) : Int)) ∧ w = w' := by
  obtain ⟨m, hm⟩ : ∃ m : Nat, m = (n + 7) / 8 := ⟨_, rfl⟩
  rw [← hm]
  by_cases h : n % 8 = 0
  · have h1 : ((n : Int) % 8 == 0) = true := by simp; omega
    have HM := Lib.hid hm
    have HH := Lib.hid h
    clear hm h
    go_enter Try.func31, Try.ntmps31
    go_wp2
    go_ret
    exact ⟨ret_int (by have := HM.out; have := HH.out; omega), rfl⟩
  · have h1 : ((n : Int) % 8 == 0) = false := by simp; omega
    have HM := Lib.hid hm
    have HH := Lib.hid h
    clear hm h
    go_enter Try.func31, Try.ntmps31
    go_wp2
    go_ret
    exact ⟨ret_int (by have := HM.out; have := HH.out; omega), rfl⟩

/-- The words of the first k bytes, as the cells of a block. -/
def cellsOf (l : List UInt8) (k m : Nat) : Array Value := ((List.range m).map fun j => Value.int .u64 (wordOf (l.take k) j)).toArray
theorem cellsOf_size (l : List UInt8) (k m : Nat) : (cellsOf l k m).size = m := by simp [cellsOf]
theorem cellsOf_at (l : List UInt8) (k m j : Nat) (h : j < m) : (cellsOf l k m)[j]? = some (.int .u64 (wordOf (l.take k) j)) := by
  simp [cellsOf, h]
theorem cellsOf_zero (l : List UInt8) (m : Nat) : madeCells #[.int .u64 0] m = cellsOf l 0 m := by
  apply Array.ext_getElem?
  intro j
  by_cases h : j < m
  · rw [cellsOf_at _ _ _ _ h, word_none, Array.getElem?_eq_getElem (by rw [size_madeCells]; omega)]
    simp [madeCells, Nat.mod_one]
  · rw [Array.getElem?_eq_none (by rw [size_madeCells]; omega), Array.getElem?_eq_none (by rw [cellsOf_size]; omega)]
theorem cellsOf_step (l : List UInt8) (k m : Nat) (hk : k < l.length) (hm : k / 8 < m) :
    (cellsOf l k m).setIfInBounds (k / 8) (.int .u64 ((wordOf (l.take k) (k / 8) + 256 ^ (k % 8) * (l[k]).toNat : Nat) : Int)) = cellsOf l (k + 1) m := by
  apply Array.ext_getElem?
  intro j
  rw [Array.getElem?_setIfInBounds, cellsOf_size]
  by_cases h : k / 8 = j
  · subst h
    rw [if_pos rfl, if_pos hm, cellsOf_at _ _ _ _ hm, word_grows l k hk]
  · rw [if_neg h]
    by_cases hj : j < m
    · rw [cellsOf_at _ _ _ _ hj, cellsOf_at _ _ _ _ hj, word_stays l k j (Ne.symm h)]
    · rw [Array.getElem?_eq_none (by rw [cellsOf_size]; omega), Array.getElem?_eq_none (by rw [cellsOf_size]; omega)]


theorem pack_put (s : ByteArray) (k m : Nat) (hk : k < s.size) (hm : k / 8 < m) :
    (cellsOf s.data.toList k m).setIfInBounds (k / 8) (.int .u64 (bits .or .u64 (↑(wordOf (s.data.toList.take k) (k / 8))) (IntKind.u64.wrap (IntKind.u64.wrap ↑(s[k].toNat) * 2 ^ (k % 8 * 8))))) = cellsOf s.data.toList (k + 1) m := by
  have hl : k < s.data.toList.length := by simpa using hk
  have hc : (s[k]).toNat < 256 := (s[k]).toNat_lt
  rw [← cellsOf_step _ k m hl hm, u64_in (s[k].toNat : Int) (by omega) (by omega), or_byte _ _ _ (by omega) (part_lt _ _) hc]
  rfl

theorem Try.info22 : (Try.prog.info? 22).map (fun i => (i.zero, i.size, i.bytes)) = some (some (.int .u64 0), 1, 8) := by kernel_rfl

set_option maxHeartbeats 800000 in
theorem pack_any (s : ByteArray) (w : World) (hs : s.size ≤ 1099511627776) :
    Calls Try.prog 25 #[.string s] w fun e w' => ∃ m : Nat, m = (s.size + 7) / 8 ∧ e = .returned (.slice (some ⟨w.heap.size, 0, none⟩) m m) ∧ Blk w' w.heap.size 22 (cellsOf s.data.toList s.size m) ∧ Below w.heap.size w w' := by
  obtain ⟨m, hm⟩ : ∃ m : Nat, (s.size + 7) / 8 = m := ⟨_, rfl⟩
  obtain ⟨i0, hi, hz0, hz1, hz2⟩ := info_parts Try.info22
  have hmk : ∀ W, _ := fun W => run_make_rowN (P := Try.prog) 44 22 i0 (.int .u64 0) Try.underlying44 hi hz0 .i64 .i64 m m (Nat.le_refl _) (by rw [hz2]; omega) (by omega) W
  rw [hz1] at hmk
  have hmm : m ≤ 137438953472 := by omega
  have HM := Lib.hid hm
  clear hm hi hz0 hz1 hz2
  go_enter Try.func25, Try.ntmps25
  go_wp2_with (go_at_call 31; refine (wordsof_any _ _ (by omega)).mono ?_; rw [HM.out]; rintro e w' ⟨rfl, rfl⟩)
  go_loopw [11] (fun i wr => ∃ k : Nat, k ≤ s.size ∧ i = .int .i64 k ∧ Blk wr w.heap.size 22 (cellsOf s.data.toList k m) ∧ Below w.heap.size w wr) (fun i _ => s.size - (intOf i).toNat)
  case atStart => exact ⟨0, Nat.zero_le _, rfl, by rw [cellsOf_zero s.data.toList m]; exact Blk.new _ _ _, (Below.refl _ _).alloc (Nat.le_refl _) _⟩
  case round =>
    obtain ⟨k, hk, rfl, hB, hbel⟩ := hrel
    by_cases hlt : k < s.size
    · have hj : k / 8 < m := by have := HM.out; omega
      have hc := (hB.cell (k / 8)).trans (cellsOf_at _ _ _ _ hj)
      have hf := hB.frozen (k / 8)
      have hlen : k < s.data.toList.length := by simpa using hlt
      have hst := pack_put s k m hlt hj
      have HST := Lib.hid hst
      clear hst
      go_wp2
      go_region
      go_wp2
      go_roundw
      case rel => exact ⟨k + 1, by omega, by go_num, by rw [← HST.out]; exact (hB.set_ (k / 8) _).drew, (hbel.setCell (by exact Nat.le_refl _) _).drew⟩
      case measure => simp [intOf]; omega
    · have hk2 : k = s.size := by omega
      subst hk2
      go_wp2
      go_ret
      exact ⟨m, HM.out.symm, rfl, hB, hbel⟩

end Go.Proofs.Ythicbajnfhidhaa
