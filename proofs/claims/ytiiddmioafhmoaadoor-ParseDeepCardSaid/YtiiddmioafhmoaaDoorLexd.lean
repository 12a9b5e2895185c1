/- Walks: what a code in a string stands for; a string's text. -/
import Derived.Test.YtiiddmioafhmoaaDoorMgd
namespace Go.Proofs.YtiiddmioafhmoaaDoor
open Go.RowKit
set_option linter.unusedVariables false

/-- What a call that reads a token at a position answers. -/
def Says (P : Piece) (a : Nat) (e : Ending) : Prop :=
  if P.code = 0 then e = .returned (.tuple #[.agg #[.int .i64 P.kind, .string ⟨P.text.toArray⟩, .int .i64 P.num, .int .i64 a], .int .i64 ((a + P.width : Nat) : Int), .int .i64 0])
  else e = .returned (.tuple #[.agg #[.int .i64 0, .string ⟨#[]⟩, .int .i64 0, .int .i64 0], .int .i64 0, .int .i64 P.code])
theorem ok_of {F : FuncId} {args : Array Value} {P : Piece} {a : Nat} (h : ∀ w, Calls Tryd.prog F args w fun e w' => Says P a e ∧ Below w.heap.size w w') (hc : P.code = 0) (g : Nat) (hg : a + P.width = g) (w : World) :
    Calls Tryd.prog F args w fun e w' => e = .returned (.tuple #[.agg #[.int .i64 P.kind, .string ⟨P.text.toArray⟩, .int .i64 P.num, .int .i64 a], .int .i64 g, .int .i64 0]) ∧ Below w.heap.size w w' :=
  (h w).mono fun _ _ ⟨he, hb⟩ => ⟨by unfold Says at he; rw [if_pos hc, hg] at he; exact he, hb⟩
theorem bad_of {F : FuncId} {args : Array Value} {P : Piece} {a : Nat} (h : ∀ w, Calls Tryd.prog F args w fun e w' => Says P a e ∧ Below w.heap.size w w') (hc : P.code ≠ 0) (x : Int) (hx : P.code = x) (w : World) :
    Calls Tryd.prog F args w fun e w' => e = .returned (.tuple #[.agg #[.int .i64 0, .string ⟨#[]⟩, .int .i64 0, .int .i64 0], .int .i64 0, .int .i64 x]) ∧ Below w.heap.size w w' :=
  (h w).mono fun _ _ ⟨he, hb⟩ => ⟨by unfold Says at he; rw [if_neg hc, hx] at he; exact he, hb⟩

theorem says_ok {P : Piece} {k n : Int} {t : List UInt8} {wd g : Nat} (a : Nat) (h : P = ⟨0, k, t, n, wd⟩) (hg : a + wd = g) :
    Says P a (.returned (.tuple #[.agg #[.int .i64 k, .string ⟨t.toArray⟩, .int .i64 n, .int .i64 a], .int .i64 g, .int .i64 0])) := by
  subst h; subst hg; unfold Says; rw [if_pos rfl]
theorem says_bad {P : Piece} {x : Int} (a : Nat) (h : P = .bad x) (hx : x ≠ 0) :
    Says P a (.returned (.tuple #[.agg #[.int .i64 0, .string ⟨#[]⟩, .int .i64 0, .int .i64 0], .int .i64 0, .int .i64 x])) := by
  subst h; unfold Says; rw [if_neg (by exact hx)]; rfl
theorem wordL_long (r : List UInt8) (n : Nat) (h : 40 < (r.take n).length) : wordL r n = .bad 104 := by unfold wordL; rw [if_pos h]
theorem wordL_ok (r : List UInt8) (n : Nat) (h : ¬ 40 < (r.take n).length) : wordL r n = ⟨0, kindL (r.take n), r.take n, 0, n⟩ := by unfold wordL; rw [if_neg h]
def codeIx (c : UInt8) : Int := Lib.indexByte [110, 116, 34, 92] c

set_option maxHeartbeats 400000 in
theorem decoded_end (s : ByteArray) (k : Nat) (w : World) (hs : s.size ≤ maxLen) (hk : k = s.size) :
    Calls Tryd.prog 42 #[.string s, .int .i64 k] w fun e w' => e = .returned (.tuple #[.int .u8 0, .bool false]) ∧ w = w' := by
  unfold maxLen at hs
  have b1 : ((k : Int) == (s.size : Int)) = true := by rw [hk]; simp
  have HK := Lib.hid hk
  clear hk
  go_enter Tryd.func42, Tryd.ntmps42
  go_wp2
  go_ret2
  exact ⟨rfl, rfl⟩

theorem code_none (c : UInt8) (h : decodedL c = none) : Lib.indexByte [110, 116, 34, 92] c = -1 := by
  unfold decodedL at h
  have h1 : ¬ c = 110 := by rintro rfl; simp at h
  have h2 : ¬ c = 116 := by rintro rfl; simp at h
  have h3 : ¬ c = 34 := by rintro rfl; simp at h
  have h4 : ¬ c = 92 := by rintro rfl; simp at h
  simp [Lib.indexByte, Ne.symm h1, Ne.symm h2, Ne.symm h3, Ne.symm h4]

set_option maxHeartbeats 400000 in
theorem decoded_none (s : ByteArray) (k : Nat) (w : World) (hs : s.size ≤ maxLen) (hk : k < s.size) (hd : decodedL s[k] = none) :
    Calls Tryd.prog 42 #[.string s, .int .i64 k] w fun e w' => e = .returned (.tuple #[.int .u8 0, .bool false]) ∧ w = w' := by
  unfold maxLen at hs
  have b1 : ((k : Int) == (s.size : Int)) = false := by simp; omega
  have C1 := Lib.hid (fun w => Tryd.strings_IndexByte ⟨#[110, 116, 34, 92]⟩ s[k].toNat w)
  rw [u8_back, show (⟨#[110, 116, 34, 92]⟩ : ByteArray).data.toList = [110, 116, 34, 92] from rfl, code_none _ hd] at C1
  clear hd
  go_enter Tryd.func42, Tryd.ntmps42
  go_wp2_with (go_at_call 38; (with_reducible refine (C1.out _).mono ?_); rintro e w' ⟨rfl, rfl⟩)
  go_ret2
  exact ⟨rfl, rfl⟩

theorem code_some (c b : UInt8) (h : decodedL c = some b) : (c = 110 ∧ b = 10) ∨ (c = 116 ∧ b = 9) ∨ (c = 34 ∧ b = 34) ∨ (c = 92 ∧ b = 92) := by
  unfold decodedL at h
  by_cases h1 : c = 110
  · rw [if_pos h1] at h; injection h with h; exact Or.inl ⟨h1, h.symm⟩
  rw [if_neg h1] at h
  by_cases h2 : c = 116
  · rw [if_pos h2] at h; injection h with h; exact Or.inr (Or.inl ⟨h2, h.symm⟩)
  rw [if_neg h2] at h
  by_cases h3 : c = 34
  · rw [if_pos h3] at h; injection h with h; exact Or.inr (Or.inr (Or.inl ⟨h3, h.symm⟩))
  rw [if_neg h3] at h
  by_cases h4 : c = 92
  · rw [if_pos h4] at h; injection h with h; exact Or.inr (Or.inr (Or.inr ⟨h4, h.symm⟩))
  rw [if_neg h4] at h; cases h

set_option maxHeartbeats 1600000 in
theorem decoded_some (s : ByteArray) (k : Nat) (b : UInt8) (w : World) (hs : s.size ≤ maxLen) (hk : k < s.size) (hd : decodedL s[k] = some b) :
    Calls Tryd.prog 42 #[.string s, .int .i64 k] w fun e w' => e = .returned (.tuple #[.int .u8 b.toNat, .bool true]) ∧ w = w' := by
  unfold maxLen at hs
  have b1 : ((k : Int) == (s.size : Int)) = false := by simp; omega
  have C1 := Lib.hid (fun w => Tryd.strings_IndexByte ⟨#[110, 116, 34, 92]⟩ s[k].toNat w)
  rw [u8_back, show (⟨#[110, 116, 34, 92]⟩ : ByteArray).data.toList = [110, 116, 34, 92] from rfl] at C1
  have hx := code_some _ _ hd
  clear hd
  rcases hx with ⟨hc, rfl⟩ | ⟨hc, rfl⟩ | ⟨hc, rfl⟩ | ⟨hc, rfl⟩
  all_goals
    have hi := congrArg (Lib.indexByte [110, 116, 34, 92]) hc
    first | rw [show Lib.indexByte [110, 116, 34, 92] 110 = 0 from by decide] at hi | rw [show Lib.indexByte [110, 116, 34, 92] 116 = 1 from by decide] at hi | rw [show Lib.indexByte [110, 116, 34, 92] 34 = 2 from by decide] at hi | rw [show Lib.indexByte [110, 116, 34, 92] 92 = 3 from by decide] at hi
    rw [hi] at C1
    clear hc hi
    go_enter Tryd.func42, Tryd.ntmps42
    go_wp2_with (go_at_call 38; (with_reducible refine (C1.out _).mono ?_); rintro e w' ⟨rfl, rfl⟩)
    go_ret2
    exact ⟨rfl, rfl⟩


theorem textL_cons (c : UInt8) (r : List UInt8) : textL (c :: r) = if c = 34 then some ([], 1) else if c = 10 then none else if c = 92 then (match r with | [] => none | d :: r' => match decodedL d with | none => none | some b => (textL r').map fun x => (b :: x.1, x.2 + 2)) else (textL r).map fun x => (c :: x.1, x.2 + 1) := by
  conv => lhs; rw [textL.eq_def]
  first | rfl | (cases r <;> rfl)
theorem text_quote (s : ByteArray) (k : Nat) (h : k < s.size) (hc : s[k] = 34) : textL (s.data.toList.drop k) = some ([], 1) := by
  rw [drop_at s k h, hc, textL_cons]; simp
theorem text_line (s : ByteArray) (k : Nat) (h : k < s.size) (hc : s[k] = 10) : textL (s.data.toList.drop k) = none := by
  rw [drop_at s k h, hc, textL_cons]; simp
theorem text_end (s : ByteArray) (k : Nat) (h : ¬ k < s.size) : textL (s.data.toList.drop k) = none := by
  rw [List.drop_eq_nil_of_le (by rw [data_len]; omega)]; rfl
theorem text_byte (s : ByteArray) (k : Nat) (h : k < s.size) (h1 : s[k] ≠ 34) (h2 : s[k] ≠ 10) (h3 : s[k] ≠ 92) : textL (s.data.toList.drop k) = (textL (s.data.toList.drop (k + 1))).map fun x => (s[k] :: x.1, x.2 + 1) := by
  rw [drop_at s k h, textL_cons, if_neg h1, if_neg h2, if_neg h3]
theorem text_esc_end (s : ByteArray) (k : Nat) (h : k < s.size) (hc : s[k] = 92) (he : k + 1 = s.size) : textL (s.data.toList.drop k) = none := by
  rw [drop_at s k h, hc, List.drop_eq_nil_of_le (by rw [data_len]; omega), textL_cons]; simp
theorem text_esc_bad (s : ByteArray) (k : Nat) (h : k + 1 < s.size) (hc : s[k] = 92) (hd : decodedL s[k + 1] = none) : textL (s.data.toList.drop k) = none := by
  rw [drop_at s k (by omega), drop_at s (k + 1) h, hc, textL_cons]; simp [hd]
theorem text_esc (s : ByteArray) (k : Nat) (h : k + 1 < s.size) (b : UInt8) (hc : s[k] = 92) (hd : decodedL s[k + 1] = some b) : textL (s.data.toList.drop k) = (textL (s.data.toList.drop (k + 2))).map fun x => (b :: x.1, x.2 + 2) := by
  rw [drop_at s k (by omega), drop_at s (k + 1) h, hc, textL_cons]; simp [hd]

/-- What is read so far, and what is to come. -/
def Sofar (s : ByteArray) (a k : Nat) (acc : List UInt8) (T : Option (List UInt8 × Nat)) : Prop :=
  ((textL (s.data.toList.drop k)).map fun x => (acc ++ x.1, k - a + x.2)) = T
theorem sofar_start (s : ByteArray) (a : Nat) : Sofar s a a [] (textL (s.data.toList.drop a)) := by
  unfold Sofar; simp
theorem sofar_quote {s : ByteArray} {a k : Nat} {acc : List UInt8} {T : Option (List UInt8 × Nat)} (h : Sofar s a k acc T) (e : textL (s.data.toList.drop k) = some ([], 1)) : T = some (acc, k - a + 1) := by
  unfold Sofar at h; rw [e] at h; rw [← h]; simp
theorem sofar_none {s : ByteArray} {a k : Nat} {acc : List UInt8} {T : Option (List UInt8 × Nat)} (h : Sofar s a k acc T) (e : textL (s.data.toList.drop k) = none) : T = none := by
  unfold Sofar at h; rw [e] at h; rw [← h]; simp
theorem sofar_step {s : ByteArray} {a k : Nat} {acc : List UInt8} {T : Option (List UInt8 × Nat)} (h : Sofar s a k acc T) (ha : a ≤ k) (b : UInt8) (d : Nat) (e : textL (s.data.toList.drop k) = (textL (s.data.toList.drop (k + d))).map fun x => (b :: x.1, x.2 + d)) : Sofar s a (k + d) (acc ++ [b]) T := by
  unfold Sofar at h ⊢
  rw [← h, e]
  cases textL (s.data.toList.drop (k + d)) with
  | none => rfl
  | some x => simp; omega
theorem bytecells_snoc (acc : List UInt8) (b : UInt8) : Lib.byteCells acc ++ [Value.int .u8 b.toNat] = Lib.byteCells (acc ++ [b]) := by simp [Lib.byteCells]


theorem ba_list (s : ByteArray) (a b : Nat) : s.extract a b = ⟨((s.data.toList.drop a).take (b - a)).toArray⟩ := by
  have h : (s.extract a b).data.toList = (s.data.toList.drop a).take (b - a) := by
    rw [ByteArray.data_extract]; simp [List.extract_eq_take_drop]
  cases hx : s.extract a b with
  | mk d => rw [hx] at h; simp only at h; rw [← h]

set_option maxHeartbeats 800000 in
theorem word_any (s : ByteArray) (a b : Nat) (w : World) (hs : s.size ≤ 60000) (hab : a ≤ b) (hb : b ≤ s.size) :
    Calls Tryd.prog 27 #[.string s, .int .i64 a, .int .i64 b] w fun e w' => Says (wordL (s.data.toList.drop a) (b - a)) a e ∧ Below w.heap.size w w' := by
  have hm : s.size ≤ maxLen := by unfold maxLen; omega
  have he : (s.extract a b).size = b - a := by rw [ByteArray.size_extract]; omega
  have HL := Lib.hid (ba_list s a b)
  have C1 := Lib.hid (fun w => kindof_any (s.extract a b) w (by rw [he]; omega))
  by_cases h40 : 40 < b - a
  · go_enter Tryd.func27, Tryd.ntmps27
    go_wp2_with (go_at_call 44; (with_reducible refine (C1.out _).mono ?_); rintro e w' ⟨rfl, rfl⟩)
    refine bodyPost_ret (v := .tuple #[.agg #[.int .i64 0, .string ⟨#[]⟩, .int .i64 0, .int .i64 0], .int .i64 0, .int .i64 104]) (by simp [results, Tryd.results27, go_sem]) rfl ⟨?_, (Below.refl _ _).alloc (Nat.le_refl _) _⟩
    refine says_bad _ (wordL_long _ _ ?_) (by decide)
    rw [List.length_take, List.length_drop, data_len]; omega
  · go_enter Tryd.func27, Tryd.ntmps27
    go_wp2_with (go_at_call 44; (with_reducible refine (C1.out _).mono ?_); rintro e w' ⟨rfl, rfl⟩)
    refine bodyPost_ret (v := .tuple #[.agg #[.int .i64 (kindL (s.extract a b).data.toList), .string (s.extract a b), .int .i64 0, .int .i64 a], .int .i64 b, .int .i64 0]) (by simp [results, Tryd.results27, go_sem]) rfl ⟨?_, (Below.refl _ _).alloc (Nat.le_refl _) _⟩
    rw [HL.out]
    refine says_ok _ (wordL_ok _ _ ?_) (by omega)
    rw [List.length_take, List.length_drop, data_len]; omega

end Go.Proofs.YtiiddmioafhmoaaDoor
