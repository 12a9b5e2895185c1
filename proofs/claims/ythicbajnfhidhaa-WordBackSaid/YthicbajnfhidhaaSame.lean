/- Two lists of words compared: what Same returns; it only reads. -/
import Derived.Test.YthicbajnfhidhaaNum
namespace Go.Proofs.Ythicbajnfhidhaa
open Go.RowKit

/-- Words as cells. -/
def wordVals (zs : List Int) : List Value := zs.map (Value.int .u64)
theorem wordVals_len (zs : List Int) : (wordVals zs).length = zs.length := by simp [wordVals]
theorem wordVals_at {zs : List Int} {k : Nat} (h : k < zs.length) : (wordVals zs)[k]? = some (.int .u64 (zs[k]'h)) := by simp [wordVals, h]
theorem reads_word {w : World} {B : Nat} {A : Option Addr} {zs : List Int} {k : Nat} (h : Reads w B 1 A zs.length (wordVals zs)) (hk : k < zs.length) : ∃ ad, A = some ad ∧ w.cell? (ad.add k) = some (.int .u64 (zs[k]'hk)) := by
  obtain ⟨ad, u, e, _, hx, hc⟩ := h.at_ hk
  rw [wordVals_at hk] at hx
  injection hx with hx
  exact ⟨ad, e, by rw [hc, hx]⟩

set_option maxHeartbeats 800000 in
theorem same_yes (zs : List Int) (A A' : Option Addr) (c c' : Nat) (B B' : Nat) (w : World) (hz : zs.length ≤ 1099511627776) (h1 : Reads w B 1 A zs.length (wordVals zs)) (h2 : Reads w B' 1 A' zs.length (wordVals zs)) :
    Calls Try.prog 24 #[.slice A zs.length c, .slice A' zs.length c'] w fun e w' => e = .returned (.bool true) ∧ ∃ n, w' = w.drewN n := by
  obtain ⟨len, hlen⟩ : ∃ len, zs.length = len := ⟨_, rfl⟩
  have HL := Lib.hid hlen
  rw [hlen] at h1 h2 hz ⊢
  clear hlen
  go_enter Try.func24, Try.ntmps24
  go_wp2
  go_loopw [5] (fun i wr => ∃ k n : Nat, k ≤ len ∧ i = .int .i64 k ∧ wr = w.drewN n) (fun i _ => len - (intOf i).toNat)
  case atStart => exact ⟨0, 0, Nat.zero_le _, rfl, rfl⟩
  case round =>
    obtain ⟨k, n, hk, rfl, rfl⟩ := hrel
    by_cases hlt : k < len
    · obtain ⟨ad, rfl, hc⟩ := reads_word (HL.out ▸ h1) (HL.out.symm ▸ hlt)
      obtain ⟨ad', rfl, hc'⟩ := reads_word (HL.out ▸ h2) (HL.out.symm ▸ hlt)
      go_wp2
      go_quiet (fail)
      go_wp2
      go_roundw
      case rel => exact ⟨k + 1, _, by omega, by go_num, rfl⟩
      case measure => simp [intOf]; omega
    · go_wp2
      go_ret
      exact ⟨rfl, n, rfl⟩

set_option maxHeartbeats 800000 in
theorem same_len (A A' : Option Addr) (n n' c c' : Nat) (w : World) (h : n ≠ n') :
    Calls Try.prog 24 #[.slice A n c, .slice A' n' c'] w fun e w' => e = .returned (.bool false) ∧ ∃ n, w' = w.drewN n := by
  have hne : ((n : Int) != (n' : Int)) = true := by simp; omega
  clear h
  go_enter Try.func24, Try.ntmps24
  go_wp2
  go_ret
  exact ⟨rfl, 0, rfl⟩

theorem first_diff : ∀ {zs ys : List Int}, zs.length = ys.length → zs ≠ ys → ∃ k, ∃ h : k < zs.length, ∃ h' : k < ys.length, zs[k] ≠ ys[k]
  | [], [], _, h => absurd rfl h
  | z :: zs, y :: ys, hl, h => by
    by_cases e : z = y
    · subst e
      obtain ⟨k, h1, h2, h3⟩ := first_diff (zs := zs) (ys := ys) (by simpa using hl) (fun e => h (by rw [e]))
      exact ⟨k + 1, by simp; omega, by simp; omega, by simpa using h3⟩
    · exact ⟨0, by simp, by simp, by simpa using e⟩

set_option maxHeartbeats 1600000 in
theorem same_no (zs ys : List Int) (A A' : Option Addr) (c c' : Nat) (B B' : Nat) (w : World) (hz : zs.length ≤ 1099511627776) (hl : zs.length = ys.length) (h1 : Reads w B 1 A zs.length (wordVals zs)) (h2 : Reads w B' 1 A' ys.length (wordVals ys)) (hne : zs ≠ ys) :
    Calls Try.prog 24 #[.slice A zs.length c, .slice A' ys.length c'] w fun e w' => e = .returned (.bool false) ∧ ∃ n, w' = w.drewN n := by
  obtain ⟨t, ht1, ht2, htne⟩ := first_diff hl hne
  obtain ⟨len, hlen⟩ : ∃ len, zs.length = len := ⟨_, rfl⟩
  have HL := Lib.hid hlen
  have hlen2 : ys.length = len := by omega
  have HL2 := Lib.hid hlen2
  have HN := Lib.hid htne
  rw [hlen2] at h2
  rw [hlen] at h1 hz
  rw [hlen, hlen2]
  have htl : t < len := by omega
  clear hlen hlen2 htne hne hl
  go_enter Try.func24, Try.ntmps24
  go_wp2
  go_loopw [5] (fun i wr => ∃ k n : Nat, k ≤ t ∧ i = .int .i64 k ∧ wr = w.drewN n) (fun i _ => len - (intOf i).toNat)
  case atStart => exact ⟨0, 0, Nat.zero_le _, rfl, rfl⟩
  case round =>
    obtain ⟨k, n, hk, rfl, rfl⟩ := hrel
    have hlt : k < len := by omega
    obtain ⟨ad, rfl, hc⟩ := reads_word (HL.out ▸ h1) (HL.out.symm ▸ hlt)
    obtain ⟨ad', rfl, hc'⟩ := reads_word (HL2.out ▸ h2) (HL2.out.symm ▸ hlt)
    obtain ⟨z, hzz⟩ : ∃ z, z = zs[k]'(HL.out.symm ▸ hlt) := ⟨_, rfl⟩
    obtain ⟨y, hyy⟩ : ∃ y, y = ys[k]'(HL2.out.symm ▸ hlt) := ⟨_, rfl⟩
    rw [← hzz] at hc
    rw [← hyy] at hc'
    have HZ := Lib.hid hzz
    have HY := Lib.hid hyy
    clear hzz hyy
    by_cases he : z = y
    · have hq : (z != y) = false := by simp [he]
      have hkt : k < t := by
        rcases Nat.lt_or_ge k t with h | h
        · exact h
        · exfalso
          have e : k = t := by omega
          subst e
          exact HN.out (by rw [← HZ.out, ← HY.out, he])
      clear he
      go_wp2
      go_quiet (fail)
      go_wp2
      go_roundw
      case rel => exact ⟨k + 1, _, by omega, by go_num, rfl⟩
      case measure => simp [intOf]; omega
    · have hq : (z != y) = true := by simp [he]
      clear he
      go_wp2
      go_quiet (fail)
      go_wp2
      go_ret
      exact ⟨rfl, _, World.drewN_drewN _ _ _⟩

/-- Same, for whatever two lists. -/
def sameB (zs ys : List Int) : Bool := decide (zs = ys)
theorem same_any (zs ys : List Int) (A A' : Option Addr) (n n' c c' : Nat) (B B' : Nat) (w : World) (hz : zs.length ≤ 1099511627776) (h1 : Reads w B 1 A n (wordVals zs)) (h2 : Reads w B' 1 A' n' (wordVals ys)) :
    Calls Try.prog 24 #[.slice A n c, .slice A' n' c'] w fun e w' => e = .returned (.bool (sameB zs ys)) ∧ ∃ n, w' = w.drewN n := by
  obtain rfl : n = zs.length := by have := h1.1; rw [wordVals_len] at this; omega
  obtain rfl : n' = ys.length := by have := h2.1; rw [wordVals_len] at this; omega
  by_cases e : zs = ys
  · subst e
    have : sameB zs zs = true := by simp [sameB]
    rw [this]
    exact same_yes zs A A' c c' B B' w hz h1 h2
  · have : sameB zs ys = false := by simp [sameB, e]
    rw [this]
    by_cases hl : zs.length = ys.length
    · exact same_no zs ys A A' c c' B B' w hz hl h1 h2 e
    · exact same_len A A' _ _ c c' w hl

end Go.Proofs.Ythicbajnfhidhaa
