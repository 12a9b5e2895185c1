/- Joined: Lexg Lexh. -/
import Derived.Test.YtiiddmioafhmoaaDoorLexf
import Derived.Laws.RangeAny
import Derived.Laws.RangeString
import Derived.Test.YtiiddmioafhmoaaDoorMgb

section
namespace Go.Proofs.YtiiddmioafhmoaaDoor
open Go.RowKit
set_option linter.unusedVariables false

theorem get_list (s : ByteArray) (i : Nat) : s.get! i = s.data.toList.getD i 0 := by
  cases s with
  | mk d =>
    show d[i]! = d.toList.getD i 0
    by_cases h : i < d.size
    · rw [getElem!_pos d i h, List.getD_eq_getElem?_getD, List.getElem?_eq_getElem (by simpa using h)]; simp
    · rw [getElem!_neg d i h, List.getD_eq_getElem?_getD, List.getElem?_eq_none (by simpa using h)]; rfl
theorem drop_getD (l : List UInt8) (p k : Nat) : (l.drop p).getD k 0 = l.getD (p + k) 0 := by
  rw [List.getD_eq_getElem?_getD, List.getD_eq_getElem?_getD, List.getElem?_drop]
theorem dec_at (s : ByteArray) (p : Nat) : Utf8.decode s p = decL (s.data.toList.drop p) := by
  rw [Lib.decode_at]; unfold decL
  rw [List.length_drop, data_len, drop_getD, drop_getD, drop_getD, drop_getD, get_list, get_list, get_list, get_list]; rfl
theorem decN_pos (n b0 b1 b2 b3 : Nat) : 1 ≤ (Lib.decodeN n b0 b1 b2 b3).2 := by
  unfold Lib.decodeN
  repeat' split
  all_goals simp
theorem decN_le (n b0 b1 b2 b3 : Nat) (h : 1 ≤ n) : (Lib.decodeN n b0 b1 b2 b3).2 ≤ n := by
  unfold Lib.decodeN
  repeat' split
  all_goals (simp only; omega)
theorem dec_pos (r : List UInt8) : 1 ≤ (decL r).2 := decN_pos _ _ _ _ _
theorem dec_le (c : UInt8) (r : List UInt8) : (decL (c :: r)).2 ≤ r.length + 1 := by
  have := decN_le (c :: r).length ((c :: r).getD 0 0).toNat ((c :: r).getD 1 0).toNat ((c :: r).getD 2 0).toNat ((c :: r).getD 3 0).toNat (by simp)
  simpa [decL] using this

theorem badF_hit (s : ByteArray) (f k : Nat) (h : k < s.size) (h1 : (decL (s.data.toList.drop k)).1 = 65533) (h2 : Lib.hasPrefix (s.data.toList.drop k) [239, 191, 189] = false) : badF (f + 1) k (s.data.toList.drop k) = some k := by
  rw [drop_at s k h] at h1 h2 ⊢
  rw [badF, if_pos ⟨h1, h2⟩]
theorem badF_miss (s : ByteArray) (f k : Nat) (h : k < s.size) (h1 : (decL (s.data.toList.drop k)).1 = 65533 → Lib.hasPrefix (s.data.toList.drop k) [239, 191, 189] = true) :
    badF (f + 1) k (s.data.toList.drop k) = badF f (k + (decL (s.data.toList.drop k)).2) (s.data.toList.drop (k + (decL (s.data.toList.drop k)).2)) := by
  have e := List.drop_drop (i := (decL (s.data.toList.drop k)).2) (j := k) (l := s.data.toList)
  rw [← e]
  rw [drop_at s k h] at h1 ⊢
  rw [badF, if_neg]
  rintro ⟨g1, g2⟩
  rw [h1 g1] at g2; cases g2
theorem badF_end (s : ByteArray) (f k : Nat) (h : ¬ k < s.size) : badF f k (s.data.toList.drop k) = none := by
  rw [List.drop_eq_nil_of_le (by rw [data_len]; omega)]
  cases f <;> rfl

theorem below_iter (w : World) (s : ByteArray) (p : Nat) : Below w.heap.size w (w.iter s p) := (Below.refl _ _).alloc (Nat.le_refl _) _

/-- What invalidAt answers. -/
def SaysAt (r : Option Nat) (e : Ending) : Prop := e = .returned (.tuple #[.int .i64 ((r.getD 0 : Nat) : Int), .bool r.isSome])

set_option maxHeartbeats 1600000 in
theorem invalid_any (s : ByteArray) (w : World) (hm : s.size ≤ maxLen) (r : Option Nat) (hr : Hid (badL s.data.toList = r)) :
    Calls Tryd.prog 13 #[.string s] w fun e w' => SaysAt r e ∧ Below w.heap.size w w' := by
  have H0 := Lib.hid (show badF (s.size + 1) 0 (s.data.toList.drop 0) = r by rw [← hr.out, List.drop_zero]; rfl)
  have hm2 := hm
  unfold maxLen at hm
  go_enter Tryd.func13, Tryd.ntmps13
  go_wp2
  go_loopw [2] (fun _ wr => ∃ (k f : Nat), wr = w.iter s k ∧ k ≤ s.size ∧ s.size < k + f ∧ badF f k (s.data.toList.drop k) = r) (fun _ wr => s.size - wr.iterPos w.heap.size)
  case atStart => exact ⟨0, s.size + 1, rfl, by omega, by omega, H0.out⟩
  case round =>
    obtain ⟨k, f, rfl, hk, hf, he⟩ := hrel
    have HE := Lib.hid he
    clear he
    by_cases hlt : k < s.size
    · obtain ⟨rn, wd, hdec⟩ : ∃ rn wd, decL (s.data.toList.drop k) = (rn, wd) := ⟨_, _, rfl⟩
      have hnx : ∀ ty, (Instr.next (.pointer (some ⟨w.heap.size, 0, none⟩)) true ty).run Tryd.prog (w.iter s k) = .ok (.tuple #[.bool true, .int .i64 k, .int .i32 rn]) (w.iter s (k + wd)) := fun ty => by
        have := run_next_any (P := Tryd.prog) w s k ty hlt
        rw [dec_at, hdec] at this; exact this
      have hw1 : 1 ≤ wd := by have := dec_pos (s.data.toList.drop k); rw [hdec] at this; exact this
      have hw2 : k + wd ≤ s.size := by
        have := drop_at s k hlt
        have h2 := dec_le s[k] (s.data.toList.drop (k + 1))
        rw [← this, hdec, List.length_drop, data_len] at h2
        simp only at h2; omega
      obtain ⟨f, rfl⟩ : ∃ f', f = f' + 1 := ⟨f - 1, by omega⟩
      have hex : (s.extract k s.size).data.toList = s.data.toList.drop k := Lib.extract_to_end s k
      have C1 := Lib.hid (fun w => Tryd.strings_HasPrefix (s.extract k s.size) ⟨#[239, 191, 189]⟩ w)
      rw [hex, show (⟨#[239, 191, 189]⟩ : ByteArray).data.toList = [239, 191, 189] from rfl] at C1
      have hmiss := badF_miss s f k hlt
      have hhit := badF_hit s f k hlt
      rw [hdec] at hmiss hhit
      by_cases hrn : rn = 65533
      · have b1 : ((rn : Int) == 65533) = true := by rw [hrn]; rfl
        cases hp : Lib.hasPrefix (s.data.toList.drop k) [239, 191, 189]
        · have HR := Lib.hid (show r = some k by rw [← HE.out]; exact hhit hrn hp)
          rw [hp] at C1
          clear hmiss hhit hrn hp hdec hex
          go_wp2_with (go_at_call 21; (with_reducible refine (C1.out _).mono ?_); rintro e w' ⟨rfl, rfl⟩)
          go_ret2
          exact ⟨by rw [HR.out]; rfl, below_iter _ _ _⟩
        · have HR := Lib.hid (show badF f (k + wd) (s.data.toList.drop (k + wd)) = r by rw [← HE.out]; exact (hmiss fun _ => hp).symm)
          rw [hp] at C1
          clear hmiss hhit hrn hp hdec hex
          go_wp2_with (go_at_call 21; (with_reducible refine (C1.out _).mono ?_); rintro e w' ⟨rfl, rfl⟩)
          go_roundw
          case rel => exact ⟨k + wd, f, rfl, hw2, by omega, HR.out⟩
          case measure => simp; omega
      · have b1 : ((rn : Int) == 65533) = false := by simp; omega
        have HR := Lib.hid (show badF f (k + wd) (s.data.toList.drop (k + wd)) = r by rw [← HE.out]; exact (hmiss fun h => absurd h hrn).symm)
        clear hmiss hhit hrn hdec hex
        go_wp2
        go_roundw
        case rel => exact ⟨k + wd, f, rfl, hw2, by omega, HR.out⟩
        case measure => simp; omega
    · have HR := Lib.hid (show r = none by rw [← HE.out]; exact badF_end s f k hlt)
      have hnx : ∀ ty, (Instr.next (.pointer (some ⟨w.heap.size, 0, none⟩)) true ty).run Tryd.prog (w.iter s k) = _ := fun ty => run_next_end w s k ty hlt
      go_wp2
      go_ret2
      exact ⟨by rw [HR.out]; rfl, below_iter _ _ _⟩

end Go.Proofs.YtiiddmioafhmoaaDoor
end

section
namespace Go.Proofs.YtiiddmioafhmoaaDoor
open Go.RowKit
set_option linter.unusedVariables false

theorem span_one (p : UInt8 → Bool) (c : UInt8) (r : List UInt8) (h : p c = true) : 1 ≤ spanL p (c :: r) := by rw [span_cons_t p c r h]; omega
theorem name_in (c : UInt8) (h : nameS.contains c = true) : inNameS.contains c = true := by
  rw [List.contains_iff_mem] at h ⊢
  have : inNameS = nameS ++ (digitS ++ [39]) := rfl
  rw [this]; exact List.mem_append_left _ h
theorem textL_le : ∀ (n : Nat) (r : List UInt8), r.length ≤ n → ∀ x, textL r = some x → x.2 ≤ r.length := by
  intro n
  induction n with
  | zero => intro r h x hx; have hr : r = [] := List.length_eq_zero_iff.1 (by omega)
            rw [hr] at hx; cases hx
  | succ n ih =>
    intro r h x hx
    cases r with
    | nil => cases hx
    | cons c r =>
      rw [textL_cons] at hx
      simp only [List.length_cons] at h ⊢
      by_cases h1 : c = 34
      · rw [if_pos h1] at hx; injection hx with hx; subst hx; simp
      rw [if_neg h1] at hx
      by_cases h2 : c = 10
      · rw [if_pos h2] at hx; cases hx
      rw [if_neg h2] at hx
      by_cases h3 : c = 92
      · rw [if_pos h3] at hx
        cases r with
        | nil => cases hx
        | cons d r' =>
          simp only at hx
          cases hd : decodedL d with
          | none => rw [hd] at hx; cases hx
          | some b =>
            rw [hd] at hx
            obtain ⟨y, hy, rfl⟩ := Option.map_eq_some_iff.1 hx
            have := ih r' (by simp at h; omega) y hy
            simp; omega
      · rw [if_neg h3] at hx
        obtain ⟨y, hy, rfl⟩ := Option.map_eq_some_iff.1 hx
        have := ih r (by omega) y hy
        simp; omega
theorem wordL_code (r : List UInt8) (n : Nat) (h : (wordL r n).code = 0) : (wordL r n).width = n := by
  unfold wordL at h ⊢
  split at h
  · cases h
  · rw [if_neg (by assumption)]
theorem piece_width (c : UInt8) (r : List UInt8) (h : (pieceL (c :: r)).code = 0) : 1 ≤ (pieceL (c :: r)).width ∧ (pieceL (c :: r)).width ≤ r.length + 1 := by
  have hl : ∀ p, spanL p (c :: r) ≤ r.length + 1 := fun p => by simpa using span_le p (c :: r)
  cases h1 : digitS.contains c
  · by_cases h2 : c = 34
    · rw [piece_text c r h1 h2] at h ⊢
      unfold stringL at h ⊢
      cases ht : textL r with
      | none => rw [ht] at h; cases h
      | some x =>
        have := textL_le r.length r (Nat.le_refl _) x ht
        simp only; omega
    · cases h3 : nameS.contains c
      · cases h4 : opS.contains c
        · cases h5 : singleS.contains c
          · rw [piece_byte c r h1 h2 h3 h4 h5] at h; cases h
          · rw [piece_single c r h1 h2 h3 h4 h5] at h ⊢
            rw [wordL_code _ _ h]; omega
        · rw [piece_op c r h1 h2 h3 h4] at h ⊢
          rw [wordL_code _ _ h]; exact ⟨span_one _ c r h4, hl _⟩
      · rw [piece_name c r h1 h2 h3] at h ⊢
        rw [wordL_code _ _ h]; exact ⟨span_one _ c r (name_in c h3), hl _⟩
  · rw [piece_digit c r h1] at h ⊢
    unfold numberL at h ⊢
    split at h
    · rw [if_pos (by assumption)]; exact ⟨span_one _ c r h1, hl _⟩
    · cases h

theorem skip_le : ∀ (r : List UInt8) (b : Bool), skipL b r ≤ r.length := by
  intro r
  induction r with
  | nil => intro b; cases b <;> simp [skipL]
  | cons c r ih =>
    intro b
    cases b
    · rw [skipL]
      have h1 := ih false
      have h2 := ih true
      simp only [List.length_cons]
      split
      · omega
      · split <;> omega
    · rw [skipL]
      have := ih (c != 10)
      simp only [List.length_cons]; omega

theorem toksF_cons (f k : Nat) (c : UInt8) (r : List UInt8) : toksF (f + 1) k (c :: r) = if (pieceL (c :: r)).code = 0 then
      (if (toksF f (k + (pieceL (c :: r)).width + skipL false ((c :: r).drop (pieceL (c :: r)).width)) ((c :: r).drop ((pieceL (c :: r)).width + skipL false ((c :: r).drop (pieceL (c :: r)).width)))).2.1 = 0
       then (⟨(pieceL (c :: r)).kind, (pieceL (c :: r)).text, (pieceL (c :: r)).num, k⟩ :: (toksF f (k + (pieceL (c :: r)).width + skipL false ((c :: r).drop (pieceL (c :: r)).width)) ((c :: r).drop ((pieceL (c :: r)).width + skipL false ((c :: r).drop (pieceL (c :: r)).width)))).1, 0, 0)
       else ([], (toksF f (k + (pieceL (c :: r)).width + skipL false ((c :: r).drop (pieceL (c :: r)).width)) ((c :: r).drop ((pieceL (c :: r)).width + skipL false ((c :: r).drop (pieceL (c :: r)).width)))).2))
    else ([], (pieceL (c :: r)).code, k) := by
  rw [toksF]
theorem toks_zero (f k : Nat) (r : List UInt8) : ((toksF f k r).2.1 = 0 → (toksF f k r).2 = (0, 0)) ∧ ((toksF f k r).2.1 ≠ 0 → (toksF f k r).1 = []) := by
  cases f with
  | zero => simp [toksF]
  | succ f =>
    cases r with
    | nil => simp [toksF]
    | cons c r =>
      rw [toksF_cons]
      split
      · split
        · simp
        · exact ⟨fun h => absurd h (by assumption), fun _ => rfl⟩
      · exact ⟨fun h => absurd h (by assumption), fun _ => rfl⟩

/-- The tokens read so far, those to come, and all. -/
def Joined (acc : List Tk) (Y X : List Tk × Int × Nat) : Prop := X = (if Y.2.1 = 0 then acc ++ Y.1 else [], Y.2)
theorem joined_start (f k : Nat) (r : List UInt8) : Joined [] (toksF f k r) (toksF f k r) := by
  unfold Joined
  have h := toks_zero f k r
  split
  · simp
  · rw [← h.2 (by assumption)]
theorem joined_end {f k : Nat} {acc : List Tk} {X : List Tk × Int × Nat} (h : Joined acc (toksF (f + 1) k []) X) : X = (acc ++ [⟨0, [], 0, k⟩], 0, 0) := by
  unfold Joined at h; rw [h]; simp [toksF]
theorem joined_bad {f k : Nat} {c : UInt8} {r : List UInt8} {acc : List Tk} {X : List Tk × Int × Nat} (h : Joined acc (toksF (f + 1) k (c :: r)) X) (hc : (pieceL (c :: r)).code ≠ 0) : X = ([], (pieceL (c :: r)).code, k) := by
  unfold Joined at h; rw [h, toksF_cons, if_neg hc]; simp [hc]
theorem joined_step {f k : Nat} {c : UInt8} {r : List UInt8} {acc : List Tk} {X : List Tk × Int × Nat} (h : Joined acc (toksF (f + 1) k (c :: r)) X) (hc : (pieceL (c :: r)).code = 0) :
    Joined (acc ++ [⟨(pieceL (c :: r)).kind, (pieceL (c :: r)).text, (pieceL (c :: r)).num, k⟩]) (toksF f (k + (pieceL (c :: r)).width + skipL false ((c :: r).drop (pieceL (c :: r)).width)) ((c :: r).drop ((pieceL (c :: r)).width + skipL false ((c :: r).drop (pieceL (c :: r)).width)))) X := by
  unfold Joined at h ⊢
  rw [h, toksF_cons, if_pos hc]
  have hz := toks_zero f (k + (pieceL (c :: r)).width + skipL false ((c :: r).drop (pieceL (c :: r)).width)) ((c :: r).drop ((pieceL (c :: r)).width + skipL false ((c :: r).drop (pieceL (c :: r)).width)))
  generalize toksF f (k + (pieceL (c :: r)).width + skipL false ((c :: r).drop (pieceL (c :: r)).width)) ((c :: r).drop ((pieceL (c :: r)).width + skipL false ((c :: r).drop (pieceL (c :: r)).width))) = Y at *
  by_cases hy : Y.2.1 = 0
  · rw [if_pos hy, if_pos hy, hz.1 hy]; simp
  · rw [if_neg hy, if_neg hy]; simp [hy]

end Go.Proofs.YtiiddmioafhmoaaDoor
end
