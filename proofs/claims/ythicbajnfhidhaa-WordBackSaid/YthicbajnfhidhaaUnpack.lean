/- Unpack: what it returns. -/
import Derived.Test.YthicbajnfhidhaaUnp
namespace Go.Proofs.Ythicbajnfhidhaa
open Go.RowKit

/-- Words that fit. -/
def Fit64 (zs : List Int) : Prop := ∀ z ∈ zs, 0 ≤ z ∧ z < 18446744073709551616
theorem fit_at {zs : List Int} (h : Fit64 zs) (j : Nat) : 0 ≤ zs.getD j 0 ∧ zs.getD j 0 < 18446744073709551616 := getD_lt h j
theorem reads_at {w : World} {B n : Nat} {A : Option Addr} {zs : List Int} {k : Nat} (h : Reads w B 1 A n (wordVals zs)) (hk : k < n) : ∃ ad, A = some ad ∧ ad.block < B ∧ w.cell? (ad.add k) = some (.int .u64 (zs.getD k 0)) := by
  obtain ⟨ad, u, e, hb, hx, hc⟩ := h.at_ hk
  have hl : k < zs.length := by have := h.1; rw [wordVals_len] at this; omega
  rw [wordVals_at hl] at hx
  injection hx with hx
  exact ⟨ad, e, hb, by rw [hc, ← hx]; simp [List.getD, List.getElem?_eq_getElem hl]⟩
theorem pow_shift (z : Int) (r : Nat) (h : 0 ≤ z) : z / 2 ^ (r * 8) = ((z.toNat / 256 ^ r : Nat) : Int) := by
  obtain ⟨a, rfl⟩ := Int.eq_ofNat_of_zero_le h
  rw [pow_bits]
  simp

set_option maxHeartbeats 800000 in
theorem padded_any (zs : List Int) (A : Option Addr) (c k B : Nat) (w : World) (hz : Fit64 zs) (h1 : Reads w B 1 A zs.length (wordVals zs)) (hl : zs.length = (k + 7) / 8) (hk : k ≤ 1099511627776) :
    Calls Try.prog 32 #[.slice A zs.length c, .int .i64 k] w fun e w' => e = .returned (.bool (padB zs k)) ∧ w = w' := by
  obtain ⟨len, hlen⟩ : ∃ len, zs.length = len := ⟨_, rfl⟩
  have hln : len = (k + 7) / 8 := by omega
  by_cases h : k % 8 = 0
  · have hp : padB zs k = true := by simp [padB, h]
    have h3 : ((k : Int) % 8 == 0) = true := by simp; omega
    have HP := Lib.hid hp
    clear hp h hl hlen hln
    go_enter Try.func32, Try.ntmps32
    go_wp2
    go_ret
    exact ⟨ret_bool HP.out.symm, rfl⟩
  · have h3 : ((k : Int) % 8 == 0) = false := by simp; omega
    obtain ⟨ad, rfl, _, hc⟩ := reads_at (k := len - 1) h1 (by omega)
    have hb := fit_at hz (len - 1)
    have hlpos : 1 ≤ len := by omega
    have hlmax : len ≤ 137438953472 := by omega
    have hs := pow_shift (zs.getD (len - 1) 0) (k % 8) hb.1
    have hpd : padB zs k = (zs.getD (len - 1) 0 / 2 ^ (k % 8 * 8) == 0) := by
      rw [hs]
      unfold padB
      rw [hlen, Bool.eq_iff_iff, decide_eq_true_iff, beq_iff_eq]
      constructor
      · intro g
        rcases g with g | g
        · exact absurd g h
        · rw [g]; rfl
      · intro g
        right
        omega
    rw [hlen] at h1 ⊢
    obtain ⟨z, hzz⟩ : ∃ z, z = zs.getD (len - 1) 0 := ⟨_, rfl⟩
    rw [← hzz] at hc hb hs hpd
    obtain ⟨hb1, hb2⟩ := hb
    have HP := Lib.hid hpd
    clear hpd hs hzz hlen hl hln h
    go_enter Try.func32, Try.ntmps32
    go_wp2
    go_ret
    exact ⟨ret_bool HP.out.symm, rfl⟩

/-- The first k bytes of m, as the cells of a block. -/
def byteCells (zs : List Int) (k m : Nat) : Array Value := ((List.range m).map fun i => Value.int .u8 (if i < k then ((byteAt zs i).toNat : Int) else 0)).toArray
theorem byteCells_size (zs : List Int) (k m : Nat) : (byteCells zs k m).size = m := by simp [byteCells]
theorem byteCells_at (zs : List Int) (k m i : Nat) (h : i < m) : (byteCells zs k m)[i]? = some (.int .u8 (if i < k then ((byteAt zs i).toNat : Int) else 0)) := by simp [byteCells, h]
theorem byteCells_zero (zs : List Int) (m : Nat) : madeCells #[.int .u8 0] m = byteCells zs 0 m := by
  apply Array.ext_getElem?
  intro j
  by_cases h : j < m
  · rw [byteCells_at _ _ _ _ h, Array.getElem?_eq_getElem (by rw [size_madeCells]; omega)]
    simp [madeCells, Nat.mod_one]
  · rw [Array.getElem?_eq_none (by rw [size_madeCells]; omega), Array.getElem?_eq_none (by rw [byteCells_size]; omega)]
theorem byteCells_step (zs : List Int) (k m : Nat) (hk : k < m) : (byteCells zs k m).setIfInBounds k (.int .u8 ((byteAt zs k).toNat : Int)) = byteCells zs (k + 1) m := by
  apply Array.ext_getElem?
  intro j
  rw [Array.getElem?_setIfInBounds, byteCells_size]
  by_cases h : k = j
  · subst h
    rw [if_pos rfl, if_pos hk, byteCells_at _ _ _ _ hk, if_pos (by omega)]
  · rw [if_neg h]
    by_cases hj : j < m
    · rw [byteCells_at _ _ _ _ hj, byteCells_at _ _ _ _ hj]
      by_cases hjk : j < k
      · rw [if_pos hjk, if_pos (by omega)]
      · rw [if_neg hjk, if_neg (by omega)]
    · rw [Array.getElem?_eq_none (by rw [byteCells_size]; omega), Array.getElem?_eq_none (by rw [byteCells_size]; omega)]
theorem byte_put (zs : List Int) (k : Nat) (hz : Fit64 zs) : IntKind.u8.wrap (zs.getD (k / 8) 0 / 2 ^ (k % 8 * 8)) = ((byteAt zs k).toNat : Int) := by
  rw [pow_shift _ _ (fit_at hz _).1, IntKind.wrap_u8, byteAt, byteOf_nat]
  simp

theorem Try.info5 : (Try.prog.info? 5).map (fun i => (i.zero, i.size, i.bytes)) = some (some (.int .u8 0), 1, 1) := by kernel_rfl

set_option maxHeartbeats 1600000 in
theorem unpack_ok (zs : List Int) (A : Option Addr) (c k B : Nat) (w : World) (hB : B ≤ w.heap.size) (hz : Fit64 zs) (h1 : Reads w B 1 A zs.length (wordVals zs)) (hk : k ≤ 1099511627776) (hv : validB zs k = true) :
    Calls Try.prog 22 #[.slice A zs.length c, .int .i64 k] w fun e w' => e = .returned (.tuple #[.string ⟨(bytesOf zs k).toArray⟩, .int .i64 0]) ∧ Below w.heap.size w w' := by
  have hl : zs.length = (k + 7) / 8 := by unfold validB at hv; simp at hv; omega
  have hp : padB zs k = true := by unfold validB at hv; simp at hv; exact hv.2
  have HL := Lib.hid hl
  have HP := Lib.hid hp
  have hq : ((zs.length : Int) != (zs.length : Int)) = false := by simp
  obtain ⟨i0, hi, hz0, hz1, hz2⟩ := info_parts Try.info5
  have hmk : ∀ W, _ := fun W => run_make_rowN (P := Try.prog) 59 5 i0 (.int .u8 0) Try.underlying59 hi hz0 .i64 .i64 k k (Nat.le_refl _) (by rw [hz2]; omega) (by omega) W
  rw [hz1] at hmk
  clear hl hp hv hi hz0 hz1 hz2
  go_enter Try.func22, Try.ntmps22
  go_wp2_with (first | (go_at_call 31; refine (wordsof_any _ _ (by omega)).mono ?_; rw [← HL.out]; rintro e w' ⟨rfl, rfl⟩) | (go_at_call 32; refine (padded_any zs _ _ _ _ _ hz h1 HL.out (by omega)).mono ?_; rw [HP.out]; rintro e w' ⟨rfl, rfl⟩))
  go_loopw [26] (fun i wr => ∃ t : Nat, t ≤ k ∧ i = .int .i64 t ∧ Blk wr w.heap.size 5 (byteCells zs t k) ∧ Below w.heap.size w wr) (fun i _ => k - (intOf i).toNat)
  case atStart => exact ⟨0, Nat.zero_le _, rfl, by rw [byteCells_zero zs k]; exact Blk.new _ _ _, (Below.refl _ _).alloc (Nat.le_refl _) _⟩
  case round =>
    obtain ⟨t, ht, rfl, hblk, hbel⟩ := hrel
    by_cases hlt : t < k
    · obtain ⟨ad, rfl, _, hc⟩ := reads_at (k := t / 8) ((h1.more hB).below hbel) (by have := HL.out; omega)
      have hv := hblk.cell t
      rw [byteCells_at _ _ _ _ hlt] at hv
      have hf := hblk.frozen t
      have hbp := byte_put zs t hz
      have hst := byteCells_step zs t k hlt
      have HST := Lib.hid hst
      obtain ⟨hb1, hb2⟩ := fit_at hz (t / 8)
      have htz : t / 8 < zs.length := by have := HL.out; omega
      obtain ⟨z, hzz⟩ : ∃ z, z = zs.getD (t / 8) 0 := ⟨_, rfl⟩
      rw [← hzz] at hc hb1 hb2 hbp
      have HBP := Lib.hid hbp
      clear hst hbp hzz
      go_wp2
      go_roundw
      case rel => exact ⟨t + 1, by omega, by go_num, by rw [← HST.out, ← HBP.out]; exact hblk.set_ t _, hbel.setCell (by exact Nat.le_refl _) _⟩
      case measure => simp [intOf]; omega
    · obtain rfl : t = k := by omega
      have hconv := fun (W : World) (hW : ∀ i, i < t → W.cell? ⟨w.heap.size, 0 + i, none⟩ = some (.int .u8 (((bytesOf zs t).map fun u => (u.toNat : Int)).getD i 0))) => run_convert_bytes_arg (P := Try.prog) W 59 5 Try.underlying59 Try.underlying5 w.heap.size 0 t t ((bytesOf zs t).map fun u => (u.toNat : Int)) (by simp [bytesOf]) hW 9 Try.underlying9
      have hcv := hconv wr (fun i hi => by
        rw [hblk.cell (0 + i), Nat.zero_add, byteCells_at _ _ _ _ hi, if_pos hi, map_at _ _ (by rw [bytesOf_len]; exact hi)]
        simp [bytesOf, hi])
      rw [text_out] at hcv
      clear hconv
      go_wp2
      go_ret2
      exact ⟨rfl, hbel⟩

/-- What Unpack returns. -/
def unpackL (zs : List Int) (n : Int) : List UInt8 := if validB zs n then bytesOf zs n.toNat else []
def unpackE (zs : List Int) (n : Int) : Int := if validB zs n then 0 else 2

set_option maxHeartbeats 1600000 in
theorem unpack_no (zs : List Int) (A : Option Addr) (c : Nat) (n : Int) (B : Nat) (w : World) (hn : n ≤ 9223372036854775807) (hzl : zs.length ≤ 68719476736) (hz : Fit64 zs) (h1 : Reads w B 1 A zs.length (wordVals zs)) (hv : validB zs n = false) :
    Calls Try.prog 22 #[.slice A zs.length c, .int .i64 n] w fun e w' => e = .returned (.tuple #[.string ⟨([] : List UInt8).toArray⟩, .int .i64 2]) ∧ w = w' := by
  by_cases h0 : n < 0
  · clear hv
    go_enter Try.func22, Try.ntmps22
    go_wp2
    go_ret2
    exact ⟨rfl, rfl⟩
  · obtain ⟨k, rfl⟩ := Int.eq_ofNat_of_zero_le (show 0 ≤ n by omega)
    by_cases hl : zs.length = (k + 7) / 8
    · have hp : padB zs k = false := by
        unfold validB at hv
        simpa [hl] using hv
      have hq : ((zs.length : Int) != (zs.length : Int)) = false := by simp
      have HL := Lib.hid hl
      have HP := Lib.hid hp
      have hk : k ≤ 1099511627776 := by omega
      clear hl hp hv
      go_enter Try.func22, Try.ntmps22
      go_wp2_with (first | (go_at_call 31; refine (wordsof_any _ _ (by omega)).mono ?_; rw [← HL.out]; rintro e w' ⟨rfl, rfl⟩) | (go_at_call 32; refine (padded_any zs _ _ _ _ _ hz h1 HL.out hk).mono ?_; rw [HP.out]; rintro e w' ⟨rfl, rfl⟩))
      go_ret2
      exact ⟨rfl, rfl⟩
    · obtain ⟨m, hm⟩ : ∃ m, (k + 7) / 8 = m := ⟨_, rfl⟩
      rw [hm] at hl
      have hq : ((zs.length : Int) != (m : Int)) = true := by simp; omega
      have HM := Lib.hid hm
      clear hl hv hm
      go_enter Try.func22, Try.ntmps22
      go_wp2_with (go_at_call 31; refine (wordsof_any _ _ (by omega)).mono ?_; rw [HM.out]; rintro e w' ⟨rfl, rfl⟩)
      go_ret2
      exact ⟨rfl, rfl⟩

theorem unpack_any (zs : List Int) (A : Option Addr) (m c : Nat) (n : Int) (B : Nat) (w : World) (hB : B ≤ w.heap.size) (hn : n ≤ 9223372036854775807) (hzl : zs.length ≤ 68719476736) (hz : Fit64 zs) (h1 : Reads w B 1 A m (wordVals zs)) :
    Calls Try.prog 22 #[.slice A m c, .int .i64 n] w fun e w' => e = .returned (.tuple #[.string ⟨(unpackL zs n).toArray⟩, .int .i64 (unpackE zs n)]) ∧ Below w.heap.size w w' := by
  obtain rfl : m = zs.length := by have := h1.1; rw [wordVals_len] at this; omega
  unfold unpackL unpackE
  cases hv : validB zs n
  · exact (unpack_no zs A c n B w hn hzl hz h1 hv).mono fun e w' ⟨he, hw⟩ => ⟨he, hw ▸ Below.refl _ _⟩
  · have hv' := hv
    unfold validB at hv'
    simp at hv'
    obtain ⟨k, rfl⟩ := Int.eq_ofNat_of_zero_le hv'.1.1
    exact unpack_ok zs A c k B w hB hz h1 (by omega) hv

end Go.Proofs.Ythicbajnfhidhaa
