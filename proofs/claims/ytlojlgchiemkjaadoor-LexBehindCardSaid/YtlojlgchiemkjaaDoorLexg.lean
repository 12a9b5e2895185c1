/- Walks: the first byte at which no character starts. -/
import Derived.Test.YtlojlgchiemkjaaDoorLexf
import Derived.Laws.RangeAny
import Derived.Laws.RangeString
namespace Go.Proofs.YtlojlgchiemkjaaDoor
open Go.RowKit
set_option linter.unusedVariables false

theorem get_list (s : ByteArray) (i : Nat) : s.get! i = s.data.toList.getD i 0 := by
  cases s with
  | mk d =>
    show d[i]! = d.toList.getD i 0
    by_cases h : i < d.size
    · rw [getElem!_pos d i h, List.getD_eq_getElem?_getD, List.getElem?_eq_getElem (by simpa using h)]; simp
    · rw [getElem!_neg d i h, List.getD_eq_getElem?_getD, List.getElem?_eq_none (by simpa using h)]; rfl
theorem drop_getD (l : List UInt8) (p k : Nat) : (l.drop p).getD k 0 = l.getD (p + k) 0 := by
  rw [List.getD_eq_getElem?_getD, List.getD_eq_getElem?_getD, List.getElem?_drop]
theorem dec_at (s : ByteArray) (p : Nat) : Utf8.decode s p = decL (s.data.toList.drop p) := by
  rw [Lib.decode_at]; unfold decL
  rw [List.length_drop, data_len, drop_getD, drop_getD, drop_getD, drop_getD, get_list, get_list, get_list, get_list]; rfl
theorem decN_pos (n b0 b1 b2 b3 : Nat) : 1 ≤ (Lib.decodeN n b0 b1 b2 b3).2 := by
  unfold Lib.decodeN
  repeat' split
  all_goals simp
theorem decN_le (n b0 b1 b2 b3 : Nat) (h : 1 ≤ n) : (Lib.decodeN n b0 b1 b2 b3).2 ≤ n := by
  unfold Lib.decodeN
  repeat' split
  all_goals (simp only; omega)
theorem dec_pos (r : List UInt8) : 1 ≤ (decL r).2 := decN_pos _ _ _ _ _
theorem dec_le (c : UInt8) (r : List UInt8) : (decL (c :: r)).2 ≤ r.length + 1 := by
  have := decN_le (c :: r).length ((c :: r).getD 0 0).toNat ((c :: r).getD 1 0).toNat ((c :: r).getD 2 0).toNat ((c :: r).getD 3 0).toNat (by simp)
  simpa [decL] using this

theorem badF_hit (s : ByteArray) (f k : Nat) (h : k < s.size) (h1 : (decL (s.data.toList.drop k)).1 = 65533) (h2 : Lib.hasPrefix (s.data.toList.drop k) [239, 191, 189] = false) : badF (f + 1) k (s.data.toList.drop k) = some k := by
  rw [drop_at s k h] at h1 h2 ⊢
  rw [badF, if_pos ⟨h1, h2⟩]
theorem badF_miss (s : ByteArray) (f k : Nat) (h : k < s.size) (h1 : (decL (s.data.toList.drop k)).1 = 65533 → Lib.hasPrefix (s.data.toList.drop k) [239, 191, 189] = true) :
    badF (f + 1) k (s.data.toList.drop k) = badF f (k + (decL (s.data.toList.drop k)).2) (s.data.toList.drop (k + (decL (s.data.toList.drop k)).2)) := by
  have e := List.drop_drop (i := (decL (s.data.toList.drop k)).2) (j := k) (l := s.data.toList)
  rw [← e]
  rw [drop_at s k h] at h1 ⊢
  rw [badF, if_neg]
  rintro ⟨g1, g2⟩
  rw [h1 g1] at g2; cases g2
theorem badF_end (s : ByteArray) (f k : Nat) (h : ¬ k < s.size) : badF f k (s.data.toList.drop k) = none := by
  rw [List.drop_eq_nil_of_le (by rw [data_len]; omega)]
  cases f <;> rfl

theorem below_iter (w : World) (s : ByteArray) (p : Nat) : Below w.heap.size w (w.iter s p) := (Below.refl _ _).alloc (Nat.le_refl _) _

/-- What invalidAt answers. -/
def SaysAt (r : Option Nat) (e : Ending) : Prop := e = .returned (.tuple #[.int .i64 ((r.getD 0 : Nat) : Int), .bool r.isSome])

set_option maxHeartbeats 1600000 in
theorem invalid_any (s : ByteArray) (w : World) (hm : s.size ≤ maxLen) (r : Option Nat) (hr : Hid (badL s.data.toList = r)) :
    Calls Tryd.prog 25 #[.string s] w fun e w' => SaysAt r e ∧ Below w.heap.size w w' := by
  have H0 := Lib.hid (show badF (s.size + 1) 0 (s.data.toList.drop 0) = r by rw [← hr.out, List.drop_zero]; rfl)
  have hm2 := hm
  unfold maxLen at hm
  go_enter Tryd.func25, Tryd.ntmps25
  go_wp2
  go_loopw [2] (fun _ wr => ∃ (k f : Nat), wr = w.iter s k ∧ k ≤ s.size ∧ s.size < k + f ∧ badF f k (s.data.toList.drop k) = r) (fun _ wr => s.size - wr.iterPos w.heap.size)
  case atStart => exact ⟨0, s.size + 1, rfl, by omega, by omega, H0.out⟩
  case round =>
    obtain ⟨k, f, rfl, hk, hf, he⟩ := hrel
    have HE := Lib.hid he
    clear he
    by_cases hlt : k < s.size
    · obtain ⟨rn, wd, hdec⟩ : ∃ rn wd, decL (s.data.toList.drop k) = (rn, wd) := ⟨_, _, rfl⟩
      have hnx : ∀ ty, (Instr.next (.pointer (some ⟨w.heap.size, 0, none⟩)) true ty).run Tryd.prog (w.iter s k) = .ok (.tuple #[.bool true, .int .i64 k, .int .i32 rn]) (w.iter s (k + wd)) := fun ty => by
        have := run_next_any (P := Tryd.prog) w s k ty hlt
        rw [dec_at, hdec] at this; exact this
      have hw1 : 1 ≤ wd := by have := dec_pos (s.data.toList.drop k); rw [hdec] at this; exact this
      have hw2 : k + wd ≤ s.size := by
        have := drop_at s k hlt
        have h2 := dec_le s[k] (s.data.toList.drop (k + 1))
        rw [← this, hdec, List.length_drop, data_len] at h2
        simp only at h2; omega
      obtain ⟨f, rfl⟩ : ∃ f', f = f' + 1 := ⟨f - 1, by omega⟩
      have hex : (s.extract k s.size).data.toList = s.data.toList.drop k := Lib.extract_to_end s k
      have C1 := Lib.hid (fun w => Tryd.strings_HasPrefix (s.extract k s.size) ⟨#[239, 191, 189]⟩ w)
      rw [hex, show (⟨#[239, 191, 189]⟩ : ByteArray).data.toList = [239, 191, 189] from rfl] at C1
      have hmiss := badF_miss s f k hlt
      have hhit := badF_hit s f k hlt
      rw [hdec] at hmiss hhit
      by_cases hrn : rn = 65533
      · have b1 : ((rn : Int) == 65533) = true := by rw [hrn]; rfl
        cases hp : Lib.hasPrefix (s.data.toList.drop k) [239, 191, 189]
        · have HR := Lib.hid (show r = some k by rw [← HE.out]; exact hhit hrn hp)
          rw [hp] at C1
          clear hmiss hhit hrn hp hdec hex
          go_wp2_with (go_at_call 34; (with_reducible refine (C1.out _).mono ?_); rintro e w' ⟨rfl, rfl⟩)
          go_ret2
          exact ⟨by rw [HR.out]; rfl, below_iter _ _ _⟩
        · have HR := Lib.hid (show badF f (k + wd) (s.data.toList.drop (k + wd)) = r by rw [← HE.out]; exact (hmiss fun _ => hp).symm)
          rw [hp] at C1
          clear hmiss hhit hrn hp hdec hex
          go_wp2_with (go_at_call 34; (with_reducible refine (C1.out _).mono ?_); rintro e w' ⟨rfl, rfl⟩)
          go_roundw
          case rel => exact ⟨k + wd, f, rfl, hw2, by omega, HR.out⟩
          case measure => simp; omega
      · have b1 : ((rn : Int) == 65533) = false := by simp; omega
        have HR := Lib.hid (show badF f (k + wd) (s.data.toList.drop (k + wd)) = r by rw [← HE.out]; exact (hmiss fun h => absurd h hrn).symm)
        clear hmiss hhit hrn hdec hex
        go_wp2
        go_roundw
        case rel => exact ⟨k + wd, f, rfl, hw2, by omega, HR.out⟩
        case measure => simp; omega
    · have HR := Lib.hid (show r = none by rw [← HE.out]; exact badF_end s f k hlt)
      have hnx : ∀ ty, (Instr.next (.pointer (some ⟨w.heap.size, 0, none⟩)) true ty).run Tryd.prog (w.iter s k) = _ := fun ty => run_next_end w s k ty hlt
      go_wp2
      go_ret2
      exact ⟨by rw [HR.out]; rfl, below_iter _ _ _⟩

end Go.Proofs.YtlojlgchiemkjaaDoor
