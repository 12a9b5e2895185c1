/- Walks: Order and Clash, told apart by whether there is a clash. -/
import Derived.Test.YtcfehoollfgmhaaAwake04
namespace Go.Proofs.Ytcfehoollfgmhaa
open Go.RowKit
set_option linter.unusedVariables false

theorem first_one {f : Nat → Nat} {k j : Nat} (h1 : ClashAt f k) (h2 : NoC f k) (h3 : ClashAt f j) (h4 : NoC f j) : k = j := by
  rcases Nat.lt_trichotomy k j with h | h | h
  · exact absurd h1 (h4 k h)
  · exact h
  · exact absurd h3 (h2 j h)
theorem order_clash (ss : List ByteArray) (A : Option Addr) (n c k : Nat) (w : World) (hnm : n ≤ 8796093022208) (hrd : Reads w w.heap.size 1 A n (strVals ss)) (hk : k < n) (h1 : ClashAt (lvs ss) k) (h2 : NoC (lvs ss) k) :
    Calls Try.prog 12 #[.slice A n c] w fun e w' => e = .returned (.tuple #[.slice none 0 0, .int .i64 k, .int .i64 112]) ∧ Below w.heap.size w w' :=
  (order_any ss A n c w hnm hrd).mono fun e w' h => by
    rcases h with ⟨hn, _⟩ | ⟨j, hj, h3, h4, he, hb⟩
    · exact absurd h1 (hn k hk)
    · obtain rfl := first_one h1 h2 h3 h4
      exact ⟨he, hb⟩
theorem order_noc (ss : List ByteArray) (A : Option Addr) (n c : Nat) (w : World) (hnm : n ≤ 8796093022208) (hrd : Reads w w.heap.size 1 A n (strVals ss)) (h1 : NoC (lvs ss) n) :
    Calls Try.prog 12 #[.slice A n c] w fun e w' => e = .returned (.tuple #[.slice (some ⟨w.heap.size, 0, none⟩) n n, .int .i64 0, .int .i64 0]) ∧ (Reads w' w'.heap.size 1 (some ⟨w.heap.size, 0, none⟩) n (intVals (ordL (lvs ss) 0 n)) ∧ w.heap.size < w'.heap.size) ∧ Below w.heap.size w w' :=
  (order_any ss A n c w hnm hrd).mono fun e w' h => by
    rcases h with ⟨hn, he, ho, hb⟩ | ⟨j, hj, h3, h4, _⟩
    · exact ⟨he, ⟨Reads.of_own ho, (ho.lt _ rfl).2⟩, hb⟩
    · exact absurd h3 (h1 j hj)
theorem rclash_yes (ss : List ByteArray) (A : Option Addr) (n c k : Nat) (w : World) (hnm : n ≤ 8796093022208) (hrd : Reads w w.heap.size 1 A n (strVals ss)) (hk : k < n) (h1 : ClashAt (lvs ss) k) (h2 : NoC (lvs ss) k) :
    Calls Try.prog 13 #[.slice A n c] w fun e w' => e = .returned (.int .i64 k) ∧ Below w.heap.size w w' :=
  (rclash_any ss A n c w hnm hrd).mono fun e w' h => by
    obtain ⟨h, hb⟩ := h
    rcases h with ⟨j, hj, h3, h4, he⟩ | ⟨hn, _⟩
    · obtain rfl := first_one h1 h2 h3 h4
      exact ⟨he, hb⟩
    · exact absurd h1 (hn k hk)
theorem rclash_no (ss : List ByteArray) (A : Option Addr) (n c : Nat) (w : World) (hnm : n ≤ 8796093022208) (hrd : Reads w w.heap.size 1 A n (strVals ss)) (h1 : NoC (lvs ss) n) :
    Calls Try.prog 13 #[.slice A n c] w fun e w' => e = .returned (.int .i64 (-1)) ∧ Below w.heap.size w w' :=
  (rclash_any ss A n c w hnm hrd).mono fun e w' h => by
    obtain ⟨h, hb⟩ := h
    rcases h with ⟨j, hj, h3, h4, _⟩ | ⟨_, he⟩
    · exact absurd h3 (h1 j hj)
    · exact ⟨he, hb⟩
theorem add_head (g j : Nat) : (⟨g, 0, none⟩ : Addr).add j = ⟨g, j, none⟩ := by
  unfold Addr.add
  by_cases h : j = 0
  · subst h; rfl
  · rw [if_neg h]; simp
theorem ints_at {w : World} {B n : Nat} {A : Option Addr} {l : List Nat} (h : Reads w B 1 A n (intVals l)) {k : Nat} (hk : k < n) :
    ∃ ad, A = some ad ∧ (ad.add k).block < B ∧ w.cell? (ad.add k) = some (.int .i64 ((l.getD k 0 : Nat) : Int)) := by
  obtain ⟨ad, u, e, hb, hu, hc⟩ := h.at_ hk
  have hl : k < l.length := by have := h.1; simp at this; omega
  refine ⟨ad, e, by rw [block_of_add]; exact hb, ?_⟩
  rw [hc, ← hu]; simp [hl]
theorem ints_head {w : World} {B n g : Nat} {l : List Nat} (h : Reads w B 1 (some ⟨g, 0, none⟩) n (intVals l)) {k : Nat} (hk : k < n) :
    g < B ∧ w.cell? ⟨g, k, none⟩ = some (.int .i64 ((l.getD k 0 : Nat) : Int)) := by
  obtain ⟨ad, e, hb, hc⟩ := ints_at h hk
  injection e with e
  subst e
  rw [add_head] at hb hc
  exact ⟨hb, hc⟩

end Go.Proofs.Ytcfehoollfgmhaa
