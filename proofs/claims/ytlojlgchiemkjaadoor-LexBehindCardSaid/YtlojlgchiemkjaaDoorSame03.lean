/- Walks: two rows of tokens that are one; positions that are moved. -/
import Derived.Test.YtlojlgchiemkjaaDoorLexi
import Derived.IntWalk
namespace Go.Proofs.YtlojlgchiemkjaaDoor
open Go.RowKit
set_option linter.unusedVariables false

/-- Are two rows of tokens one, but for positions? -/
def OneL (la lb : List Tk) : Prop := la.length = lb.length ∧ ∀ (i : Nat) (h : i < la.length) (h' : i < lb.length), la[i].kind = lb[i].kind ∧ la[i].text = lb[i].text ∧ la[i].num = lb[i].num

set_option maxHeartbeats 1600000 in
theorem same3_yes (la lb : List Tk) (A A' : Option Addr) (n c c' : Nat) (B B' : Nat) (w : World) (hz : n ≤ 1099511627776) (hn : la.length = n) (hn' : lb.length = n) (h1 : TkRow w B A la) (h2 : TkRow w B' A' lb) (ho : OneL la lb) :
    Calls Tryd.prog 17 #[.slice A n c, .slice A' n c'] w fun e w' => e = .returned (.bool true) ∧ ∃ n, w' = w.drewN n := by
  have HN := Lib.hid hn
  have HN' := Lib.hid hn'
  have HO := Lib.hid ho
  clear ho hn hn'
  go_enter Tryd.func17, Tryd.ntmps17
  go_wp2
  go_loopw [5] (fun i wr => ∃ k q : Nat, k ≤ n ∧ i = .int .i64 k ∧ wr = w.drewN q) (fun i _ => n - (intOf i).toNat)
  case atStart => exact ⟨0, 0, Nat.zero_le _, rfl, rfl⟩
  case round =>
    obtain ⟨k, q, hk, rfl, rfl⟩ := hrel
    by_cases hlt : k < n
    · have hla : k < la.length := by rw [HN.out]; exact hlt
      have hlb : k < lb.length := by rw [HN'.out]; exact hlt
      obtain ⟨g, o, rfl, _, hc⟩ := h1 (by omega)
      obtain ⟨g', o', rfl, _, hc'⟩ := h2 (by omega)
      obtain ⟨a0, a1, a2, a3⟩ := hc k hla
      obtain ⟨b0, b1, b2, b3⟩ := hc' k hlb
      obtain ⟨e0, e1, e2⟩ := HO.out.2 k hla hlb
      rw [← e0] at b0
      rw [← e1] at b1
      rw [← e2] at b2
      obtain ⟨kd, hkd⟩ : ∃ kd, la[k].kind = kd := ⟨_, rfl⟩
      obtain ⟨tx, htx⟩ : ∃ tx : ByteArray, (⟨la[k].text.toArray⟩ : ByteArray) = tx := ⟨_, rfl⟩
      obtain ⟨nm, hnm⟩ : ∃ nm, la[k].num = nm := ⟨_, rfl⟩
      rw [hkd] at a0 b0
      rw [htx] at a1 b1
      rw [hnm] at a2 b2
      clear a3 b3 hkd htx hnm e0 e1 e2 hc hc' h1 h2 hla hlb
      go_wp2
      go_quiet (fail)
      go_wp2
      go_roundw
      case rel => exact ⟨k + 1, _, by omega, by go_num, rfl⟩
      case measure => simp [intOf]; omega
    · go_wp2
      go_ret
      exact ⟨rfl, q, rfl⟩

/-- Do two rows of tokens begin at the same bytes, but for some more? -/
def AtL (la lb : List Tk) (d : Nat) : Prop := la.length ≤ lb.length ∧ ∀ (i : Nat) (h : i < la.length) (h' : i < lb.length), la[i].pos = lb[i].pos + d

set_option maxHeartbeats 1600000 in
theorem at3_yes (la lb : List Tk) (A A' : Option Addr) (n n' c c' d : Nat) (B B' : Nat) (w : World) (hz : n' ≤ 1099511627776) (hd : d ≤ 1099511627776) (hn : la.length = n) (hn' : lb.length = n') (h1 : TkRow w B A la) (h2 : TkRow w B' A' lb) (ho : AtL la lb d) (hp : ∀ (i : Nat) (h : i < lb.length), lb[i].pos ≤ 1099511627776) :
    Calls Tryd.prog 18 #[.slice A n c, .slice A' n' c', .int .i64 d] w fun e w' => e = .returned (.bool true) ∧ ∃ n, w' = w.drewN n := by
  have hnn : n ≤ n' := by rw [← hn, ← hn']; exact ho.1
  have HN := Lib.hid hn
  have HN' := Lib.hid hn'
  have HO := Lib.hid ho
  have HP := Lib.hid hp
  clear ho hn hn' hp
  go_enter Tryd.func18, Tryd.ntmps18
  go_wp2
  go_loopw [10] (fun i wr => ∃ k q : Nat, k ≤ n ∧ i = .int .i64 k ∧ wr = w.drewN q) (fun i _ => n - (intOf i).toNat)
  case atStart => exact ⟨0, 0, Nat.zero_le _, rfl, rfl⟩
  case round =>
    obtain ⟨k, q, hk, rfl, rfl⟩ := hrel
    by_cases hlt : k < n
    · have hlt' : k < n' := by omega
      have hla : k < la.length := by rw [HN.out]; exact hlt
      have hlb : k < lb.length := by rw [HN'.out]; exact hlt'
      obtain ⟨g, o, rfl, _, hc⟩ := h1 (by omega)
      obtain ⟨g', o', rfl, _, hc'⟩ := h2 (by omega)
      have a3 := (hc k hla).2.2.2
      have b3 := (hc' k hlb).2.2.2
      have e0 := HO.out.2 k hla hlb
      have p0 := HP.out k hlb
      obtain ⟨x, hx⟩ : ∃ x, lb[k].pos = x := ⟨_, rfl⟩
      rw [hx] at e0 b3 p0
      rw [e0] at a3
      have ex : ((x + d : Nat) : Int) = (x : Int) + (d : Int) := by omega
      rw [ex] at a3
      clear hx e0 ex hc hc' h1 h2 hla hlb
      have g1 : decide (n' ≤ k) = false := by simp; omega
      have g2 : ¬ n' ≤ k := by omega
      have hwr : IntKind.i64.wrap ((x : Int) + (d : Int)) = (x : Int) + (d : Int) := IntWalk.i64_in _ (by omega)
      go_wp2
      go_quiet (fail)
      go_wp2
      go_roundw
      case rel => exact ⟨k + 1, _, by omega, by go_num, rfl⟩
      case measure => simp [intOf]; omega
    · go_wp2
      go_ret
      exact ⟨rfl, q, rfl⟩

end Go.Proofs.YtlojlgchiemkjaaDoor
