/- The integer whose decimal form a string is. -/
import Derived.Test.YtiiddmioafhmoaaDoorMga
import Derived.Lib.IndexBytes
namespace Go.Proofs.YtiiddmioafhmoaaDoor
open Go.RowKit

def natVal (l : List UInt8) : Nat := l.foldl (fun n c => n * 10 + (c.toNat - 48)) 0
def parseWith (neg : Bool) (lim : Nat) (ds : List UInt8) : Int × Int :=
  if !isNat ds || (neg && ds == [48]) then (0, 2) else if lim < natVal ds then (0, 3) else ((if neg then -1 else 1) * natVal ds, 0)
def parse : List UInt8 → Int × Int
  | 45 :: r => parseWith true 4611686018427387904 r
  | l => parseWith false 4611686018427387903 l

theorem fold_ge (l : List UInt8) : ∀ n : Nat, n ≤ l.foldl (fun n c => n * 10 + (c.toNat - 48)) n := by
  induction l with
  | nil => intro n; exact Nat.le_refl _
  | cons c l ih => intro n; have := ih (n * 10 + (c.toNat - 48)); simp only [List.foldl_cons]; omega
theorem natVal_take (l : List UInt8) (k : Nat) : natVal (l.take k) ≤ natVal l := by
  have h := fold_ge (l.drop k) (natVal (l.take k))
  have e : natVal l = (l.drop k).foldl (fun n c => n * 10 + (c.toNat - 48)) (natVal (l.take k)) := by
    unfold natVal; rw [← List.foldl_append, List.take_append_drop]
  rw [e]; exact h
theorem natVal_succ (D : ByteArray) (k : Nat) (h : k < D.size) : natVal (D.data.toList.take (k + 1)) = natVal (D.data.toList.take k) * 10 + (D[k].toNat - 48) := by
  rw [List.take_succ_eq_append_getElem (by rw [data_len]; exact h), data_get]
  simp [natVal, List.foldl_append]
theorem isNat_dig (D : ByteArray) (h : isNat D.data.toList = true) (k : Nat) (hk : k < D.size) : 48 ≤ D[k].toNat ∧ D[k].toNat ≤ 57 := by
  simp only [isNat, Bool.and_eq_true, List.all_eq_true] at h
  have := h.1 D[k] (by rw [← data_get D k hk]; exact List.getElem_mem _)
  simpa [isDig] using this
theorem with_bad (neg : Bool) (lim : Nat) (l : List UInt8) (h : isNat l = false) : parseWith neg lim l = (0, 2) := by simp [parseWith, h]
theorem with_high (neg : Bool) (lim : Nat) (l : List UInt8) (h : isNat l = true) (h2 : (neg && l == [48]) = false) (h3 : lim < natVal l) : parseWith neg lim l = (0, 3) := by simp [parseWith, h, h2, h3]
theorem with_ok (neg : Bool) (lim : Nat) (l : List UInt8) (h : isNat l = true) (h2 : (neg && l == [48]) = false) (h3 : natVal l ≤ lim) : parseWith neg lim l = ((if neg then -1 else 1) * (natVal l : Int), 0) := by
  simp only [parseWith, h, h2]; simp; omega

set_option maxHeartbeats 400000 in
theorem parse_pos (s : ByteArray) (w : World) (hs : s.size ≤ maxLen) (h0 : 0 < s.size) (h1 : ((s[0].toNat : Int) == 45) = false) :
    Calls Tryd.prog 40 #[.string s] w fun e w' => e = .returned (.tuple #[.int .i64 (parseWith false 4611686018427387903 s.data.toList).1, .int .i64 (parseWith false 4611686018427387903 s.data.toList).2]) ∧ w = w' := by
  have hs2 := hs
  unfold maxLen at hs
  cases hn : isNat s.data.toList
  · have HB := Lib.hid (with_bad false 4611686018427387903 _ hn)
    go_enter Tryd.func40, Tryd.ntmps40
    go_wp2_with (go_at_call 60; refine (isnat_any _ _ hs2).mono ?_; rintro e w' ⟨rfl, rfl⟩)
    go_ret2
    exact ⟨by rw [HB.out]; rfl, rfl⟩
  · have HG := Lib.hid (isNat_dig s hn)
    have HX := Lib.hid (fun h => with_high false 4611686018427387903 _ hn rfl h)
    have HO := Lib.hid (fun h => with_ok false 4611686018427387903 _ hn rfl h)
    have h48 : (s.toList == [45, 48]) = false := by
      rw [ByteArray.toList_eq, beq_eq_false_iff_ne]; intro h; rw [h] at hn; exact absurd hn (by decide)
    go_enter Tryd.func40, Tryd.ntmps40
    go_wp2_with (go_at_call 60; refine (isnat_any _ _ hs2).mono ?_; rintro e w' ⟨rfl, rfl⟩)
    go_loop [7, 30] (fun z i => ∃ k : Nat, i = .int .i64 k ∧ z = .int .i64 (natVal (s.data.toList.take k)) ∧ k ≤ s.size ∧ natVal (s.data.toList.take k) ≤ 4611686018427387903) (fun _ i => s.size - (intOf i).toNat)
    case atStart => exact ⟨0, rfl, rfl, by omega, by simp [natVal]⟩
    case round =>
      obtain ⟨k, rfl, rfl, hk, hle⟩ := hrel
      by_cases hlt : k < s.size
      · have hg := HG.out k hlt
        have g1 := hg.1
        have g2 := hg.2
        clear hg
        by_cases hbig : natVal (s.data.toList.take (k + 1)) ≤ 4611686018427387903
        · have HS := Lib.hid (natVal_succ s k hlt)
          have b2 : natVal (s.data.toList.take k) * 10 + (s[k].toNat - 48) ≤ 4611686018427387903 := by rw [← HS.out]; exact hbig
          have HB := Lib.hid hbig
          clear hbig
          generalize hN : natVal (s.data.toList.take k) = N at *
          have HN := Lib.hid hN
          clear hN
          go_wp2
          go_round
          case rel => exact ⟨k + 1, by go_num, by rw [HS.out]; congr 1; omega, by omega, HB.out⟩
          case measure => simp [intOf]; omega
        · have HS := Lib.hid (natVal_succ s k hlt)
          have b2 : 4611686018427387903 < natVal (s.data.toList.take k) * 10 + (s[k].toNat - 48) := by rw [← HS.out]; omega
          have HB := Lib.hid (HX.out (Nat.lt_of_lt_of_le (Nat.lt_of_not_le hbig) (natVal_take _ _)))
          clear hbig
          generalize hN : natVal (s.data.toList.take k) = N at *
          have HN := Lib.hid hN
          clear hN
          go_wp2
          go_ret2
          exact ⟨by rw [HB.out]; rfl, rfl⟩
      · have ht : s.data.toList.take k = s.data.toList := List.take_of_length_le (by rw [data_len]; omega)
        rw [ht] at hle ⊢
        have HB := Lib.hid (HO.out hle)
        clear ht
        generalize hN : natVal s.data.toList = N at *
        go_wp2
        go_ret2
        exact ⟨by rw [HB.out]; simp, rfl⟩

theorem minus_nought (s : ByteArray) (h0 : 0 < s.size) (h1 : s[0].toNat = 45) : (s.toList == [45, 48]) = ((s.extract 1 s.size).data.toList == [48]) := by
  have e : s.data.toList = s[0] :: (s.extract 1 s.size).data.toList := by
    rw [Lib.extract_to_end]
    rw [← data_get s 0 h0]
    exact (List.drop_eq_getElem_cons (by rw [data_len]; exact h0) : s.data.toList.drop 0 = _)
  have h2 : s[0] = 45 := UInt8.toNat_inj.1 h1
  rw [ByteArray.toList_eq, e, h2]
  simp

set_option maxHeartbeats 400000 in
theorem parse_neg (s : ByteArray) (w : World) (hs : s.size ≤ maxLen) (h0 : 0 < s.size) (h1 : ((s[0].toNat : Int) == 45) = true) (p : Int × Int) (hp : Hid (parseWith true 4611686018427387904 (s.extract 1 s.size).data.toList = p)) :
    Calls Tryd.prog 40 #[.string s] w fun e w' => e = .returned (.tuple #[.int .i64 p.1, .int .i64 p.2]) ∧ w = w' := by
  have hs2 : (s.extract 1 s.size).size ≤ maxLen := by rw [ByteArray.size_extract]; omega
  have hs3 := hs2
  unfold maxLen at hs hs3
  have HM := Lib.hid (minus_nought s h0 (by have := h1; simp at this; omega))
  cases hn : isNat (s.extract 1 s.size).data.toList
  · have HB := Lib.hid (with_bad true 4611686018427387904 _ hn)
    go_enter Tryd.func40, Tryd.ntmps40
    go_wp2_with fail
    refine (isnat_any _ _ hs2).mono ?_
    rintro e w' ⟨rfl, rfl⟩
    rw [hn]
    go_wp2
    go_ret2
    exact ⟨by rw [← hp.out, HB.out]; rfl, rfl⟩
  · cases h48 : ((s.extract 1 s.size).data.toList == [48])
    · have HG := Lib.hid (isNat_dig _ hn)
      have HX := Lib.hid (fun h => with_high true 4611686018427387904 _ hn (by rw [h48]; rfl) h)
      have HO := Lib.hid (fun h => with_ok true 4611686018427387904 _ hn (by rw [h48]; rfl) h)
      have h49 : (s.toList == [45, 48]) = false := by rw [HM.out, h48]
      clear h48
      go_enter Tryd.func40, Tryd.ntmps40
      go_wp2_with fail
      refine (isnat_any _ _ hs2).mono ?_
      rintro e w' ⟨rfl, rfl⟩
      rw [hn]
      clear HM
      generalize s.extract 1 s.size = D at *
      go_wp2
      go_loop [7, 30] (fun z i => ∃ k : Nat, i = .int .i64 k ∧ z = .int .i64 (natVal (D.data.toList.take k)) ∧ k ≤ D.size ∧ natVal (D.data.toList.take k) ≤ 4611686018427387904) (fun _ i => D.size - (intOf i).toNat)
      case atStart => exact ⟨0, rfl, rfl, by omega, by simp [natVal]⟩
      case round =>
        obtain ⟨k, rfl, rfl, hk, hle⟩ := hrel
        by_cases hlt : k < D.size
        · have hg := HG.out k hlt
          have g1 := hg.1
          have g2 := hg.2
          clear hg
          by_cases hbig : natVal (D.data.toList.take (k + 1)) ≤ 4611686018427387904
          · have HS := Lib.hid (natVal_succ D k hlt)
            have b2 : natVal (D.data.toList.take k) * 10 + (D[k].toNat - 48) ≤ 4611686018427387904 := by rw [← HS.out]; exact hbig
            have HB := Lib.hid hbig
            clear hbig
            generalize hN : natVal (D.data.toList.take k) = N at *
            have HN := Lib.hid hN
            clear hN
            go_wp2
            go_round
            case rel => exact ⟨k + 1, by go_num, by rw [HS.out]; congr 1; omega, by omega, HB.out⟩
            case measure => simp [intOf]; omega
          · have HS := Lib.hid (natVal_succ D k hlt)
            have b2 : 4611686018427387904 < natVal (D.data.toList.take k) * 10 + (D[k].toNat - 48) := by rw [← HS.out]; omega
            have HB := Lib.hid (HX.out (Nat.lt_of_lt_of_le (Nat.lt_of_not_le hbig) (natVal_take _ _)))
            clear hbig
            generalize hN : natVal (D.data.toList.take k) = N at *
            have HN := Lib.hid hN
            clear hN
            go_wp2
            go_ret2
            exact ⟨by rw [← hp.out, HB.out]; rfl, rfl⟩
        · have ht : D.data.toList.take k = D.data.toList := List.take_of_length_le (by rw [data_len]; omega)
          rw [ht] at hle ⊢
          have HB := Lib.hid (HO.out hle)
          clear ht
          generalize hN : natVal D.data.toList = N at *
          go_wp2
          go_ret2
          exact ⟨by rw [← hp.out, HB.out]; simp, rfl⟩
    · have HB : Hid (parseWith true 4611686018427387904 (s.extract 1 s.size).data.toList = (0, 2)) := Lib.hid (by simp only [parseWith, h48]; simp)
      have h49 : (s.toList == [45, 48]) = true := by rw [HM.out, h48]
      clear h48
      go_enter Tryd.func40, Tryd.ntmps40
      go_wp2_with fail
      refine (isnat_any _ _ hs2).mono ?_
      rintro e w' ⟨rfl, rfl⟩
      rw [hn]
      go_wp2
      go_ret2
      exact ⟨by rw [← hp.out, HB.out]; rfl, rfl⟩

set_option maxHeartbeats 400000 in
theorem parse_empty (s : ByteArray) (w : World) (h0 : s.size = 0) :
    Calls Tryd.prog 40 #[.string s] w fun e w' => e = .returned (.tuple #[.int .i64 0, .int .i64 2]) ∧ w = w' := by
  have hs2 : s.size ≤ maxLen := by rw [h0]; exact Nat.zero_le _
  have he : s.data.toList = [] := by rw [← List.length_eq_zero_iff, data_len]; exact h0
  have hn : isNat s.data.toList = false := by rw [he]; rfl
  clear he
  have h1 : ¬ 0 < s.size := by omega
  go_enter Tryd.func40, Tryd.ntmps40
  go_wp2_with (go_at_call 60; refine (isnat_any _ _ hs2).mono ?_; rintro e w' ⟨rfl, rfl⟩)
  go_ret2
  exact ⟨rfl, rfl⟩

/-- THE WHOLE: a string's integer, and the error. -/
theorem parse_any (s : ByteArray) (w : World) (hs : s.size ≤ maxLen) :
    Calls Tryd.prog 40 #[.string s] w fun e w' => e = .returned (.tuple #[.int .i64 (parse s.data.toList).1, .int .i64 (parse s.data.toList).2]) ∧ w = w' := by
  by_cases h0 : 0 < s.size
  · have e : s.data.toList = s[0] :: (s.extract 1 s.size).data.toList := by
      rw [Lib.extract_to_end]
      rw [← data_get s 0 h0]
      exact (List.drop_eq_getElem_cons (by rw [data_len]; exact h0) : s.data.toList.drop 0 = _)
    cases h1 : ((s[0].toNat : Int) == 45)
    · have hp : parse s.data.toList = parseWith false 4611686018427387903 s.data.toList := by
        rw [e]; unfold parse; split
        · rename_i r heq; simp at heq; rw [heq.1] at h1; simp at h1
        · rfl
      rw [hp]; exact parse_pos s w hs h0 h1
    · have h2 : s[0] = 45 := UInt8.toNat_inj.1 (by have := h1; simp at this; exact Int.ofNat_inj.1 this)
      have hp : parse s.data.toList = parseWith true 4611686018427387904 (s.extract 1 s.size).data.toList := by
        rw [e, h2]; rfl
      rw [hp]; exact parse_neg s w hs h0 h1 _ rfl
  · have he : s.data.toList = [] := by rw [← List.length_eq_zero_iff, data_len]; omega
    have hp : parse s.data.toList = (0, 2) := by rw [he]; rfl
    rw [hp]; exact parse_empty s w (by omega)

end Go.Proofs.YtiiddmioafhmoaaDoor
