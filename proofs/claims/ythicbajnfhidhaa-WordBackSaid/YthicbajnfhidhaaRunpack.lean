/- The document's unpacking: the same text, or none. -/
import Derived.Test.YthicbajnfhidhaaUnpack
namespace Go.Proofs.Ythicbajnfhidhaa
open Go.RowKit

theorem own_form {w : World} {base : Nat} {e : TypeId} {size : Nat} {v : Value} {n : Nat} {xs : List Value} (h : w.ownsRow base e size v n xs) : ∃ (A : Option Addr) (c : Nat), v = .slice A n c ∧ (A = none → n = 0) ∧ ∀ x, A = some x → ∃ g, x = ⟨g, 0, none⟩ ∧ base ≤ g := by
  have hn : xs.length = n * size := h.1
  rcases h.2 with ⟨rfl, hx⟩ | ⟨g, cap, cur, rfl, hb, _⟩
  · rcases Nat.eq_zero_or_pos n with h0 | h0
    · subst h0
      exact ⟨none, 0, rfl, fun _ => rfl, fun x hx => by cases hx⟩
    · obtain ⟨g, cap, hv, _⟩ := h.form h0
      cases hv
  · refine ⟨some ⟨g, 0, none⟩, cap, rfl, ?_, ?_⟩
    · intro hx
      cases hx
    · intro x hx
      injection hx with hx
      exact ⟨g, hx.symm, hb⟩
theorem add_head (g j : Nat) : (⟨g, 0, none⟩ : Addr).add j = ⟨g, j, none⟩ := by
  unfold Addr.add
  by_cases h : j = 0
  · subst h; rfl
  · rw [if_neg h]; simp

/-- Packing a list of bytes, as a slice that reads. -/
def PackPost (w : World) (l : List UInt8) (m : Nat) (e : Ending) (w' : World) : Prop := ∃ (A : Option Addr) (c : Nat), e = .returned (.slice A m c) ∧ Reads w' w'.heap.size 1 A m (wordVals (packTo l m)) ∧ Below w.heap.size w w'
theorem rpack_txt (l : List UInt8) (m : Nat) (w : World) (hl : l.length ≤ 1099511627776) (hm : m = (l.length + 7) / 8) :
    Calls Try.prog 26 #[.string ⟨l.toArray⟩] w (PackPost w l m) :=
  (rpack_any ⟨l.toArray⟩ w (by simpa [ByteArray.size] using hl)).mono fun e w' ⟨m', v, h1, h2, h3, h4⟩ => by
    have e1 : m' = m := by rw [h1, hm]; simp [ByteArray.size]
    subst e1
    obtain ⟨A, c, rfl, _⟩ := own_form h3
    exact ⟨A, c, h2, Reads.of_own h3, h4⟩
theorem pack_txt (l : List UInt8) (m : Nat) (w : World) (hl : l.length ≤ 1099511627776) (hm : m = (l.length + 7) / 8) :
    Calls Try.prog 25 #[.string ⟨l.toArray⟩] w (PackPost w l m) :=
  (pack_any ⟨l.toArray⟩ w (by simpa [ByteArray.size] using hl)).mono fun e w' ⟨m', h1, h2, h3, h4⟩ => by
    have e1 : m' = m := by rw [h1, hm]; simp [ByteArray.size]
    subst e1
    refine ⟨_, _, h2, ⟨by rw [wordVals_len, packTo_len]; omega, fun _ => ⟨_, rfl, h3.lt, fun j u hu => ?_⟩⟩, h4⟩
    have hj : j < m' := by
      have := (List.getElem?_eq_some_iff.1 hu).1
      rw [wordVals_len, packTo_len] at this
      exact this
    have hc := (h3.cell j).trans (cellsOf_at _ _ _ _ hj)
    have e2 : wordVals (packTo l m') = (List.range m').map fun t => Value.int .u64 (wordOf l t) := by simp [wordVals, packTo, Function.comp_def]
    rw [e2] at hu
    simp [hj] at hu
    subst hu
    have e3 : (⟨l.toArray⟩ : ByteArray).data.toList.take (⟨l.toArray⟩ : ByteArray).size = l := by simp [ByteArray.size]
    rw [e3] at hc
    rw [add_head]
    exact hc

/-- Bytes as cells. -/
def byteVals (l : List UInt8) : List Value := l.map fun u => Value.int .u8 (u.toNat : Int)
theorem byteVals_succ (zs : List Int) (t : Nat) : byteVals (bytesOf zs (t + 1)) = byteVals (bytesOf zs t) ++ [.int .u8 ((byteAt zs t).toNat : Int)] := by rw [bytesOf_succ]; simp [byteVals]
theorem byte_rest (zs : List Int) (t : Nat) (hz : Fit64 zs) : ((byteAt zs t).toNat : Int) = zs.getD (t / 8) 0 / 256 ^ (t % 8) % 256 := by
  obtain ⟨a, ha⟩ := Int.eq_ofNat_of_zero_le (fit_at hz (t / 8)).1
  rw [byteAt, byteOf_nat, ha]
  simp
/-- A row of bytes of the call's own, turned into a string, in any later world. -/
theorem own_text {w : World} {base n : Nat} {v : Value} {l : List UInt8} (h : w.ownsRow base 5 1 v n (byteVals l)) (W : World) (hb : Below w.heap.size w W) : (convert 59 9 v).run Try.prog W = .ok (.string ⟨l.toArray⟩) W := by
  have hn : l.length = n := by have := h.1; simpa [byteVals] using this
  obtain ⟨A, c, rfl, hnone, hsome⟩ := own_form h
  match A, hnone, hsome with
  | none, hnone, _ =>
    have hnz := hnone rfl
    have : l = [] := List.eq_nil_of_length_eq_zero (by omega)
    subst this
    exact run_convert_bytes_nil W 59 5 Try.underlying59 Try.underlying5 n c 9 Try.underlying9
  | some x, _, hsome =>
    obtain ⟨g, rfl, _⟩ := hsome x rfl
    have hr := Reads.of_own h
    have := run_convert_bytes_arg (P := Try.prog) W 59 5 Try.underlying59 Try.underlying5 g 0 n c (l.map fun u => (u.toNat : Int)) (by simp [hn]) (fun i hi => by
      obtain ⟨ad, u, e1, hblk, hu, hc⟩ := hr.at_ hi
      injection e1 with e1
      subst e1
      have hc1 : w.cell? ⟨g, 0 + i, none⟩ = some u := by rw [add_head] at hc; rw [Nat.zero_add]; exact hc
      have hc2 := (hb.cell (p := ⟨g, 0 + i, none⟩) hblk).trans hc1
      rw [hc2, map_at l i (by omega), ← hu]
      simp [byteVals, show i < l.length by omega]) 9 Try.underlying9
    rw [this, text_out]

set_option maxHeartbeats 1600000 in
theorem runpack_far (zs : List Int) (A : Option Addr) (c : Nat) (n : Int) (w : World) (hzl : zs.length ≤ 68719476736) (hn : n < 0 ∨ 8 * (zs.length : Int) < n) :
    Calls Try.prog 23 #[.slice A zs.length c, .int .i64 n] w fun e w' => e = .returned (.tuple #[.string ⟨([] : List UInt8).toArray⟩, .bool false]) ∧ w = w' := by
  rcases show n < 0 ∨ (0 ≤ n ∧ 8 * (zs.length : Int) < n) by omega with h | ⟨h0, h⟩
  all_goals
    go_enter Try.func23, Try.ntmps23
    go_wp2
    go_ret2
    exact ⟨rfl, rfl⟩

set_option maxHeartbeats 3200000 in
theorem runpack_near (zs : List Int) (A : Option Addr) (c k B : Nat) (w : World) (hB : B ≤ w.heap.size) (hzl : zs.length ≤ 68719476736) (hz : Fit64 zs) (h1 : Reads w B 1 A zs.length (wordVals zs)) (hk : k ≤ 8 * zs.length) :
    Calls Try.prog 23 #[.slice A zs.length c, .int .i64 k] w fun e w' => e = .returned (.tuple #[.string ⟨(unpackL zs k).toArray⟩, .bool (validB zs k)]) ∧ Below w.heap.size w w' := by
  obtain ⟨i0, hi, hz0, hz1, hz2⟩ := info_parts Try.info5
  have HI := Lib.hid hi
  have HZ0 := Lib.hid hz0
  have HZ1 := Lib.hid hz1
  have HZ2 := Lib.hid hz2
  clear hi hz0 hz1 hz2
  go_enter Try.func23, Try.ntmps23
  go_wp2
  go_loopw [6, 7] (fun v i wr => ∃ t : Nat, t ≤ k ∧ i = .int .i64 t ∧ wr.ownsRow w.heap.size 5 1 v t (byteVals (bytesOf zs t)) ∧ Below w.heap.size w wr) (fun _ i _ => k - (intOf i).toNat)
  case atStart => exact ⟨0, Nat.zero_le _, rfl, World.ownsRow_nil _ _ _ _, Below.refl _ _⟩
  case round =>
    obtain ⟨t, ht, rfl, hown, hbel⟩ := hrel
    obtain ⟨wo, rfl⟩ : ∃ wo : World, wo = wr := ⟨_, rfl⟩
    have hsz := hbel.size
    by_cases hlt : t < k
    · obtain ⟨ad, rfl, _, hc⟩ := reads_at (k := t / 8) ((h1.more hB).below hbel) (by omega)
      have hd : decide ((t : Int) < (k : Int)) = true := by simp; omega
      have htz : t / 8 < zs.length := by omega
      obtain ⟨hb1, hb2⟩ := fit_at hz (t / 8)
      have HBR := Lib.hid (byte_rest zs t hz)
      obtain ⟨z, hzz⟩ : ∃ z, z = zs.getD (t / 8) 0 := ⟨_, rfl⟩
      rw [← hzz] at hc hb1 hb2 HBR
      clear hzz
      go_wp2
      go_loop [8, 9] (fun a b => ∃ q : Nat, q ≤ t % 8 ∧ b = .int .i64 q ∧ a = .int .u64 (z / 256 ^ q)) (fun _ b => t % 8 - (intOf b).toNat)
      case atStart => exact ⟨0, Nat.zero_le _, rfl, by simp⟩
      case round =>
        obtain ⟨q, hq, rfl, rfl⟩ := hrel
        have hp1 : 0 ≤ z / 256 ^ q := Int.ediv_nonneg hb1 (Int.pow_nonneg (by omega))
        have hp2 : z / 256 ^ q < 18446744073709551616 := by
          have := Int.ediv_le_self (256 ^ q) hb1
          omega
        by_cases hqt : q < t % 8
        · have hs : z / 256 ^ q / 256 = z / 256 ^ (q + 1) := by rw [Int.pow_succ, Int.ediv_ediv_of_nonneg (Int.pow_nonneg (by omega))]
          have HS := Lib.hid hs
          clear hs
          go_wp2
          go_round
          case rel => exact ⟨q + 1, by omega, by go_num, by rw [HS.out]⟩
          case measure => simp [intOf]; omega
        · obtain rfl : q = t % 8 := by omega
          go_wp2_with (first
            | (at_builtin; refine wpList_append_own _ rfl _ _ 59 rfl w.heap.size 5 i0 (.int .u8 0) 1 1 Try.underlying59 HI.out HZ0.out HZ1.out HZ2.out rfl (by decide) _ _ _ rfl (hown.alloc _) ⟨wo.heap.size, 0, none⟩ 1 1 [.int .u8 (z / 256 ^ (t % 8) % 256)] rfl rfl (one_new _ _ _) (one_is rfl) (by unfold maxLen; omega) (by omega) (by simp; omega) ?_)
            | go_in)
          intro v' w1 hown' hgrow _
          rw [← HBR.out, ← byteVals_succ] at hown'
          have hb2 : Below w.heap.size w w1 := (hbel.alloc hsz _).grown hgrow (by simp; omega) (own_base hown)
          clear hown hgrow hbel
          go_wp2
          go_roundw
          case rel => exact ⟨t + 1, by omega, by go_num, hown', hb2⟩
          case measure => simp [intOf]; omega
    · obtain rfl : t = k := by omega
      have hcv := own_text hown wo (Below.refl _ _)
      obtain ⟨m, hm⟩ : ∃ m, m = ((bytesOf zs t).length + 7) / 8 := ⟨_, rfl⟩
      have HM := Lib.hid hm
      have hsv := same_valid zs t hz
      have hmm : m = (t + 7) / 8 := by rw [hm, bytesOf_len]
      rw [← hmm] at hsv
      have HSV := Lib.hid hsv
      have hml : m ≤ 1099511627776 := by omega
      clear hm hmm hsv
      have hsw := hbel.size
      cases hval : validB zs t
      · have e1 : unpackL zs t = [] := by unfold unpackL; rw [hval]; rfl
        rw [hval] at HSV
        have E1 := Lib.hid e1
        have HV := Lib.hid hval
        clear e1 hval
        go_wp2_with (first | (go_at_call 26; refine (rpack_txt _ m _ (by rw [bytesOf_len]; omega) HM.out).mono ?_; rintro e w2 ⟨A2, c2, rfl, hr2, hb2⟩; have hrz := ((h1.more hB).below hbel).below (hb2.mono hsw)) | (go_at_call 24; refine (same_any _ zs _ _ _ _ _ _ _ _ _ (by rw [packTo_len]; omega) hr2 hrz).mono ?_; rw [HSV.out]; rintro e w3 ⟨rfl, n3, rfl⟩))
        go_ret2
        exact ⟨by rw [E1.out, HV.out]; rfl, below_drewN (hbel.trans (hb2.mono hsw)) n3⟩
      · have e1 : unpackL zs t = bytesOf zs t := by unfold unpackL; rw [hval]; rfl
        rw [hval] at HSV
        have E1 := Lib.hid e1
        have HV := Lib.hid hval
        clear e1 hval
        go_wp2_with (first | (go_at_call 26; refine (rpack_txt _ m _ (by rw [bytesOf_len]; omega) HM.out).mono ?_; rintro e w2 ⟨A2, c2, rfl, hr2, hb2⟩; have hrz := ((h1.more hB).below hbel).below (hb2.mono hsw)) | (go_at_call 24; refine (same_any _ zs _ _ _ _ _ _ _ _ _ (by rw [packTo_len]; omega) hr2 hrz).mono ?_; rw [HSV.out]; rintro e w3 ⟨rfl, n3, rfl⟩; have hcv2 := own_text hown (w2.drewN n3) (below_drewN hb2 n3)))
        go_ret2
        exact ⟨by rw [E1.out, HV.out]; rfl, below_drewN (hbel.trans (hb2.mono hsw)) n3⟩

theorem runpack_any (zs : List Int) (A : Option Addr) (m c : Nat) (n : Int) (B : Nat) (w : World) (hB : B ≤ w.heap.size) (hzl : zs.length ≤ 68719476736) (hz : Fit64 zs) (h1 : Reads w B 1 A m (wordVals zs)) :
    Calls Try.prog 23 #[.slice A m c, .int .i64 n] w fun e w' => e = .returned (.tuple #[.string ⟨(unpackL zs n).toArray⟩, .bool (validB zs n)]) ∧ Below w.heap.size w w' := by
  obtain rfl : m = zs.length := by have := h1.1; rw [wordVals_len] at this; omega
  by_cases h : n < 0 ∨ 8 * (zs.length : Int) < n
  · have hv : validB zs n = false := by
      unfold validB
      simp
      omega
    have e1 : unpackL zs n = [] := by unfold unpackL; rw [hv]; rfl
    rw [e1, hv]
    exact (runpack_far zs A c n w hzl h).mono fun e w' ⟨he, hw⟩ => ⟨he, hw ▸ Below.refl _ _⟩
  · obtain ⟨k, rfl⟩ := Int.eq_ofNat_of_zero_le (show 0 ≤ n by omega)
    exact runpack_near zs A c k B w hB hzl hz h1 (by omega)

end Go.Proofs.Ythicbajnfhidhaa
