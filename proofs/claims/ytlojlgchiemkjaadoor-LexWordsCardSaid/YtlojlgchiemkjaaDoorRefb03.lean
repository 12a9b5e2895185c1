/- Walks: whether a text is among some; the document's keywords and marks. -/
import Derived.Test.YtlojlgchiemkjaaDoorRefa03
namespace Go.Proofs.YtlojlgchiemkjaaDoor
open Go.RowKit
set_option linter.unusedVariables false

def strArr (L : List (List UInt8)) : Array Value := (L.map fun x => Value.string ⟨x.toArray⟩).toArray
theorem strArr_get (L : List (List UInt8)) (i : Nat) (h : i < L.length) : (strArr L)[i]? = some (.string ⟨L[i].toArray⟩) := by
  simp [strArr, h]
theorem among_hit (L : List (List UInt8)) (x : List UInt8) (k : Nat) (h : k < L.length) (hc : L[k] = x) : L.contains x = true := by
  rw [List.contains_iff_mem, ← hc]; exact List.getElem_mem _
theorem among_miss (L : List (List UInt8)) (x : List UInt8) (k : Nat) (h : k < L.length) (hc : L[k] ≠ x) (ht : (L.take k).contains x = false) : (L.take (k + 1)).contains x = false := by
  rw [List.take_succ_eq_append_getElem h, List.contains_eq_mem] at *
  simp only [decide_eq_false_iff_not, List.mem_append, List.mem_singleton] at *
  rintro (h1 | h1)
  · exact ht h1
  · exact hc h1.symm

set_option maxHeartbeats 400000 in
theorem among_any (s : ByteArray) (L : List (List UInt8)) (n : Nat) (hn : n = L.length) (hl : n ≤ 100) (g : Nat) (w : World) (hb : Blk w g 9 (strArr L)) (u : Bool) (hu : Hid (L.contains s.data.toList = u)) :
    Calls Tryd.prog 20 #[.string s, .slice (some ⟨g, 0, none⟩) n n] w fun e w' => e = .returned (.bool u) ∧ w = w' := by
  go_enter Tryd.func20, Tryd.ntmps20
  go_wp2
  go_loop [5] (fun i => ∃ k : Nat, i = .int .i64 k ∧ k ≤ n ∧ (L.take k).contains s.data.toList = false) (fun i => n - (intOf i).toNat)
  case atStart => exact ⟨0, rfl, by omega, rfl⟩
  case round =>
    obtain ⟨k, rfl, hk, ht⟩ := hrel
    have HT := Lib.hid ht
    clear ht
    by_cases hlt : k < n
    · have hlt2 : k < L.length := by omega
      obtain ⟨x, hx⟩ : ∃ x, L[k] = x := ⟨_, rfl⟩
      have c0 : w.cell? ⟨g, k, none⟩ = some (.string ⟨x.toArray⟩) := by rw [hb.cell k, strArr_get L k hlt2, hx]
      obtain ⟨D, hD⟩ : ∃ D : ByteArray, ⟨x.toArray⟩ = D := ⟨_, rfl⟩
      rw [hD] at c0
      have HN := Lib.hid hn
      have HD := Lib.hid hD
      have hDl : D.toList = x := by rw [ByteArray.toList_eq, ← hD]
      by_cases hc : x = s.data.toList
      · have b1 : (D.toList == s.toList) = true := by rw [hDl, hc, ByteArray.toList_eq]; simp
        have HH := Lib.hid (among_hit L s.data.toList k hlt2 (hx.trans hc))
        clear hx hD hn hDl hc
        go_wp2
        go_ret
        exact ⟨ret_bool (by rw [← hu.out, HH.out]), rfl⟩
      · have b1 : (D.toList == s.toList) = false := by rw [hDl, ByteArray.toList_eq, beq_eq_false_iff_ne]; exact hc
        have HH := Lib.hid (among_miss L s.data.toList k hlt2 (by rw [hx]; exact hc) HT.out)
        clear hx hD hn hDl hc
        go_wp2
        go_round
        case rel => exact ⟨k + 1, by go_num, by omega, HH.out⟩
        case measure => simp [intOf]; omega
    · have HH := Lib.hid (show L.contains s.data.toList = false by rw [← HT.out, List.take_of_length_le (by omega)])
      go_wp2
      go_ret
      exact ⟨ret_bool (by rw [← hu.out, HH.out]), rfl⟩

set_option maxHeartbeats 800000 in
theorem rkey_any (s : ByteArray) (u : Bool) (hu : Hid (isKeyL s.data.toList = u)) (w : World) :
    Calls Tryd.prog 7 #[.string s] w fun e w' => e = .returned (.bool u) ∧ Below w.heap.size w w' := by
  have C1 : Hid (Calls Tryd.prog 20 #[.string s, .slice (some ⟨w.heap.size, 0, none⟩) 17 17] (w.alloc (.cells #[.string ⟨#[100, 97, 116, 97]⟩, .string ⟨#[99, 108, 97, 115, 115]⟩, .string ⟨#[105, 110, 115, 116, 97, 110, 99, 101]⟩, .string ⟨#[102, 114, 111, 109]⟩, .string ⟨#[119, 104, 101, 114, 101]⟩, .string ⟨#[101, 110, 100]⟩, .string ⟨#[100, 101, 114, 105, 118, 105, 110, 103]⟩, .string ⟨#[100, 101, 102]⟩, .string ⟨#[108, 101, 116]⟩, .string ⟨#[114, 101, 99]⟩, .string ⟨#[97, 110, 100]⟩, .string ⟨#[105, 110]⟩, .string ⟨#[99, 97, 115, 101]⟩, .string ⟨#[111, 102]⟩, .string ⟨#[105, 102]⟩, .string ⟨#[116, 104, 101, 110]⟩, .string ⟨#[101, 108, 115, 101]⟩] 9)) fun e w' => e = .returned (.bool u) ∧ (w.alloc (.cells #[.string ⟨#[100, 97, 116, 97]⟩, .string ⟨#[99, 108, 97, 115, 115]⟩, .string ⟨#[105, 110, 115, 116, 97, 110, 99, 101]⟩, .string ⟨#[102, 114, 111, 109]⟩, .string ⟨#[119, 104, 101, 114, 101]⟩, .string ⟨#[101, 110, 100]⟩, .string ⟨#[100, 101, 114, 105, 118, 105, 110, 103]⟩, .string ⟨#[100, 101, 102]⟩, .string ⟨#[108, 101, 116]⟩, .string ⟨#[114, 101, 99]⟩, .string ⟨#[97, 110, 100]⟩, .string ⟨#[105, 110]⟩, .string ⟨#[99, 97, 115, 101]⟩, .string ⟨#[111, 102]⟩, .string ⟨#[105, 102]⟩, .string ⟨#[116, 104, 101, 110]⟩, .string ⟨#[101, 108, 115, 101]⟩] 9)) = w') := Lib.hid (among_any s keyS 17 rfl (by decide) w.heap.size (w.alloc (.cells (strArr keyS) 9)) (Blk.new _ _ _) u hu)
  go_enter Tryd.func7, Tryd.ntmps7
  go_wp2_with (go_at_call 20; (with_reducible refine C1.out.mono ?_); rintro e w' ⟨rfl, rfl⟩)
  go_ret
  exact ⟨rfl, (Below.refl _ _).alloc (Nat.le_refl _) _⟩

set_option maxHeartbeats 800000 in
theorem rmark_any (s : ByteArray) (u : Bool) (hu : Hid (isMarkL s.data.toList = u)) (w : World) :
    Calls Tryd.prog 9 #[.string s] w fun e w' => e = .returned (.bool u) ∧ Below w.heap.size w w' := by
  have C1 : Hid (Calls Tryd.prog 20 #[.string s, .slice (some ⟨w.heap.size, 0, none⟩) 10 10] (w.alloc (.cells #[.string ⟨#[40]⟩, .string ⟨#[41]⟩, .string ⟨#[44]⟩, .string ⟨#[59]⟩, .string ⟨#[92]⟩, .string ⟨#[95]⟩, .string ⟨#[61]⟩, .string ⟨#[45, 62]⟩, .string ⟨#[124]⟩, .string ⟨#[58]⟩] 9)) fun e w' => e = .returned (.bool u) ∧ (w.alloc (.cells #[.string ⟨#[40]⟩, .string ⟨#[41]⟩, .string ⟨#[44]⟩, .string ⟨#[59]⟩, .string ⟨#[92]⟩, .string ⟨#[95]⟩, .string ⟨#[61]⟩, .string ⟨#[45, 62]⟩, .string ⟨#[124]⟩, .string ⟨#[58]⟩] 9)) = w') := Lib.hid (among_any s markS 10 rfl (by decide) w.heap.size (w.alloc (.cells (strArr markS) 9)) (Blk.new _ _ _) u hu)
  go_enter Tryd.func9, Tryd.ntmps9
  go_wp2_with (go_at_call 20; (with_reducible refine C1.out.mono ?_); rintro e w' ⟨rfl, rfl⟩)
  go_ret
  exact ⟨rfl, (Below.refl _ _).alloc (Nat.le_refl _) _⟩

end Go.Proofs.YtlojlgchiemkjaaDoor
