/- Walks: the document's lists of names. -/
import Derived.Test.YtgmcjnhaedfinaaTya
namespace Go.Proofs.Ytgmcjnhaedfinaa
open Go.RowKit
set_option linter.unusedVariables false

abbrev nmVals (l : List ByteArray) : List Value := l.map Value.string
def nmEq (a b : ByteArray) : Bool := a.data.toList == b.data.toList
def hasS (l : List ByteArray) (s : ByteArray) : Bool := l.any fun x => nmEq x s
def textsS : List ByteArray → List ByteArray → Bool
  | [], [] => true
  | a :: l, b :: m => nmEq a b && textsS l m
  | _, _ => false
def joinS : List ByteArray → List ByteArray → List ByteArray
  | l, [] => l
  | l, x :: r => joinS (if hasS l x then l else l ++ [x]) r
def withoutS (l gone : List ByteArray) : List ByteArray := l.filter fun x => !hasS gone x
theorem nm_yes {a b : ByteArray} (h : nmEq a b = true) : (a.toList == b.toList) = true := by
  unfold nmEq at h; rw [ByteArray.toList_eq, ByteArray.toList_eq]; exact h
theorem nm_no {a b : ByteArray} (h : nmEq a b = false) : (a.toList == b.toList) = false := by
  unfold nmEq at h; rw [ByteArray.toList_eq, ByteArray.toList_eq]; exact h
theorem texts_len : ∀ (a b : List ByteArray), a.length ≠ b.length → textsS a b = false
  | [], [], h => by simp at h
  | [], b :: m, _ => rfl
  | a :: l, [], _ => rfl
  | a :: l, b :: m, h => by simp only [textsS]; rw [texts_len l m (by simpa using h)]; simp
theorem texts_yes : ∀ (a b : List ByteArray), a.length = b.length → (∀ i (h1 : i < a.length) (h2 : i < b.length), nmEq a[i] b[i] = true) → textsS a b = true
  | [], [], _, _ => rfl
  | [], b :: m, h, _ => by simp at h
  | a :: l, [], h, _ => by simp at h
  | a :: l, b :: m, h, hi => by
    simp only [textsS]
    rw [show nmEq a b = true from hi 0 (by simp) (by simp), texts_yes l m (by simpa using h) (fun i h1 h2 => hi (i + 1) (by simp; omega) (by simp; omega))]; rfl
theorem texts_no : ∀ (a b : List ByteArray), ∀ i (h1 : i < a.length) (h2 : i < b.length), nmEq a[i] b[i] = false → textsS a b = false
  | [], b, i, h1, _, _ => by simp at h1
  | a :: l, [], i, _, h2, _ => by simp at h2
  | a :: l, b :: m, 0, _, _, h => by simp only [textsS]; rw [show nmEq a b = false from h]; rfl
  | a :: l, b :: m, i + 1, h1, h2, h => by simp only [textsS]; rw [texts_no l m i (by simpa using h1) (by simpa using h2) h]; simp
theorem has_take {l : List ByteArray} {s : ByteArray} {k : Nat} (hk : k < l.length) (h : hasS (l.take k) s = false) (h1 : nmEq l[k] s = false) : hasS (l.take (k + 1)) s = false := by
  unfold hasS at *
  rw [List.take_succ_eq_append_getElem hk, List.any_append, h]; simp [h1]
theorem has_hit {l : List ByteArray} {s : ByteArray} {k : Nat} (hk : k < l.length) (h1 : nmEq l[k] s = true) : hasS l s = true := by
  unfold hasS; rw [List.any_eq_true]; exact ⟨l[k], List.getElem_mem _, h1⟩
theorem join_len : ∀ (m l : List ByteArray), (joinS l m).length ≤ l.length + m.length
  | [], l => by simp [joinS]
  | x :: r, l => by
    have := join_len r (if hasS l x then l else l ++ [x])
    simp only [joinS, List.length_cons]
    by_cases h : hasS l x = true
    · simp only [h, if_true] at this ⊢; omega
    · simp only [h] at this ⊢; simp at this ⊢; omega
theorem join_take {l m : List ByteArray} {k : Nat} (hk : k < m.length) : joinS l (m.take (k + 1)) = (if hasS (joinS l (m.take k)) m[k] then joinS l (m.take k) else joinS l (m.take k) ++ [m[k]]) := by
  have app : ∀ (a b l : List ByteArray), joinS l (a ++ b) = joinS (joinS l a) b := by
    intro a; induction a with
    | nil => intro b l; rfl
    | cons x a ih => intro b l; simp only [List.cons_append, joinS]; exact ih b _
  rw [List.take_succ_eq_append_getElem hk, app]
  rfl

theorem nm_at {w : World} {B n : Nat} {A : Option Addr} {ss : List ByteArray} (h : Reads w B 1 A n (nmVals ss)) {k : Nat} (hk : k < n) :
    ∃ ad, A = some ad ∧ (ad.add k).block < B ∧ ∃ hl : k < ss.length, w.cell? (ad.add k) = some (.string ss[k]) := by
  obtain ⟨ad, u, e, hb, hu, hc⟩ := h.at_ hk
  have hl : k < ss.length := by have := h.1; simp at this; omega
  refine ⟨ad, e, by rw [block_of_add]; exact hb, hl, ?_⟩
  rw [hc, ← hu]; simp [hl]
theorem nm_len {w : World} {B n : Nat} {A : Option Addr} {ss : List ByteArray} (h : Reads w B 1 A n (nmVals ss)) : ss.length = n := by
  have := h.1; simpa using this
theorem nm_oneCell (l : List ByteArray) : ∀ u ∈ nmVals l, u.oneCell' = true := by
  intro u hu
  obtain ⟨x, _, rfl⟩ := List.mem_map.1 hu
  rfl
theorem str_info : (Try.prog.info? 9).map (fun i => (i.zero, i.size, i.bytes)) = some (some (.string ⟨#[]⟩), 1, 16) := by kernel_rfl

set_option maxHeartbeats 800000 in
theorem rtexts_any (a b : List ByteArray) (A A' : Option Addr) (n m c c' B : Nat) (w : World) (hn9 : n ≤ 9223372036854775807) (ha : Reads w B 1 A n (nmVals a)) (hb : Reads w B 1 A' m (nmVals b)) :
    Calls Try.prog 14 #[.slice A n c, .slice A' m c'] w fun e w' => e = .returned (.bool (textsS a b)) ∧ ∃ k, w' = w.drewN k := by
  have hla := nm_len ha
  have hlb := nm_len hb
  by_cases hnm : n = m
  · subst hnm
    have HA := Lib.hid ha
    have HB := Lib.hid hb
    have HLA := Lib.hid hla
    have HLB := Lib.hid hlb
    clear ha hb hla hlb
    go_enter Try.func14, Try.ntmps14
    go_wp2_with fail
    go_loopw [5] (fun i wr => ∃ k : Nat, i = .int .i64 k ∧ k ≤ n ∧ (∀ j (h1 : j < a.length) (h2 : j < b.length), j < k → nmEq a[j] b[j] = true) ∧ ∃ d, wr = w.drewN d) (fun i _ => n - (intOf i).toNat)
    case atStart => exact ⟨0, rfl, Nat.zero_le _, fun j _ _ h => by omega, 0, rfl⟩
    case round =>
      obtain ⟨k, rfl, hk, hall, d, rfl⟩ := hrel
      have HALL := Lib.hid hall
      clear hall
      by_cases hlt : k < n
      · obtain ⟨ad, rfl, hbl, hl, hc⟩ := nm_at HA.out hlt
        obtain ⟨ad', rfl, hbl', hl', hc'⟩ := nm_at HB.out hlt
        obtain ⟨x, hx⟩ : ∃ x, a[k] = x := ⟨_, rfl⟩
        obtain ⟨y, hy⟩ : ∃ y, b[k] = y := ⟨_, rfl⟩
        rw [hx] at hc
        rw [hy] at hc'
        cases hxy : nmEq x y
        · have b1 := nm_no hxy
          have HF := Lib.hid (texts_no a b k hl hl' (by rw [hx, hy]; exact hxy))
          clear hx hy hxy
          go_wp2_with fail
          go_quiet (fail)
          go_wp2_with fail
          go_ret
          exact ⟨ret_bool HF.out.symm, _, World.drewN_drewN _ _ _⟩
        · have b1 := nm_yes hxy
          have HX := Lib.hid (show nmEq a[k] b[k] = true by rw [hx, hy]; exact hxy)
          clear hx hy hxy
          go_wp2_with fail
          go_quiet (fail)
          go_wp2_with fail
          go_roundw
          case rel => exact ⟨k + 1, by go_num, by omega, fun j h1 h2 h3 => by
            rcases Nat.lt_or_ge j k with h | h
            · exact HALL.out j h1 h2 h
            · have : j = k := by omega
              subst this; exact HX.out, _, rfl⟩
          case measure => simp [intOf]; omega
      · have HT := Lib.hid (texts_yes a b (by rw [HLA.out, HLB.out]) (fun j h1 h2 => HALL.out j h1 h2 (by have := HLA.out; omega)))
        go_wp2_with fail
        go_ret
        exact ⟨ret_bool HT.out.symm, _, rfl⟩
  · have hd : ((n : Int) != (m : Int)) = true := by simp; omega
    have HF := Lib.hid (texts_len a b (by rw [hla, hlb]; exact hnm))
    clear hnm hla hlb ha hb
    go_enter Try.func14, Try.ntmps14
    go_wp2_with fail
    go_ret
    exact ⟨ret_bool HF.out.symm, 0, rfl⟩

set_option maxHeartbeats 800000 in
theorem rhas_any (l : List ByteArray) (s : ByteArray) (A : Option Addr) (n c B : Nat) (w : World) (hn9 : n ≤ 9223372036854775807) (ha : Reads w B 1 A n (nmVals l)) (u : Bool) (hu : Hid (hasS l s = u)) :
    Calls Try.prog 38 #[.slice A n c, .string s] w fun e w' => e = .returned (.bool u) ∧ w = w' := by
  have HL := Lib.hid (nm_len ha)
  have HA := Lib.hid ha
  clear ha
  go_enter Try.func38, Try.ntmps38
  go_wp2_with fail
  go_loop [5] (fun i => ∃ k : Nat, i = .int .i64 k ∧ k ≤ n ∧ hasS (l.take k) s = false) (fun i => n - (intOf i).toNat)
  case atStart => exact ⟨0, rfl, Nat.zero_le _, rfl⟩
  case round =>
    obtain ⟨k, rfl, hk, hh⟩ := hrel
    have HH := Lib.hid hh
    clear hh
    by_cases hlt : k < n
    · obtain ⟨ad, rfl, hbl, hl, hc⟩ := nm_at HA.out hlt
      obtain ⟨x, hx⟩ : ∃ x, l[k] = x := ⟨_, rfl⟩
      rw [hx] at hc
      cases hxy : nmEq x s
      · have b1 := nm_no hxy
        have HN := Lib.hid (has_take hl HH.out (by rw [hx]; exact hxy))
        clear hx hxy
        go_wp2_with fail
        go_round
        case rel => exact ⟨k + 1, by go_num, by omega, HN.out⟩
        case measure => simp [intOf]; omega
      · have b1 := nm_yes hxy
        have HT := Lib.hid (has_hit hl (by rw [hx]; exact hxy))
        clear hx hxy
        go_wp2_with fail
        go_ret
        exact ⟨ret_bool (by rw [← hu.out, HT.out]), rfl⟩
    · have HF := Lib.hid (show hasS l s = false by rw [← HH.out, List.take_of_length_le (by rw [HL.out]; omega)])
      go_wp2_with fail
      go_ret
      exact ⟨ret_bool (by rw [← hu.out, HF.out]), rfl⟩

/-- What a function over names answers: a new slice of names. -/
def NamesSays (l : List ByteArray) (w : World) (e : Ending) (w' : World) : Prop :=
  ∃ (A : Option Addr) (c : Nat), e = .returned (.slice A l.length c) ∧ Reads w' w'.heap.size 1 A l.length (nmVals l) ∧ Below w.heap.size w w'
theorem own_shape {w : World} {base : Nat} {v : Value} {n : Nat} {xs : List Value} (h : w.ownsRow base 9 1 v n xs) : ∃ (A : Option Addr) (c : Nat), v = .slice A n c ∧ Reads w w.heap.size 1 A n xs := by
  have hr := h.2
  rcases hr with ⟨rfl, h0⟩ | ⟨g, cap, cur, rfl, _⟩
  · subst h0
    have : xs = [] := List.eq_nil_of_length_eq_zero (by have := h.1; simpa using this)
    subst this
    exact ⟨none, 0, rfl, Reads.none_⟩
  · exact ⟨_, cap, rfl, Reads.of_own h⟩


end Go.Proofs.Ytgmcjnhaedfinaa
