/- Walks: the document's lists of names. -/
import Derived.Test.YtglamoiimmahgaaTrees
namespace Go.Proofs.Ytglamoiimmahgaa
open Go.RowKit
set_option linter.unusedVariables false

abbrev nmVals (ss : List ByteArray) : List Value := ss.map Value.string
def nmEq (a b : ByteArray) : Bool := a.data.toList == b.data.toList
def hasS (l : List ByteArray) (s : ByteArray) : Bool := l.any fun x => nmEq x s
def textsS : List ByteArray → List ByteArray → Bool
  | [], [] => true
  | a :: l, b :: m => nmEq a b && textsS l m
  | _, _ => false
def joinS : List ByteArray → List ByteArray → List ByteArray
  | l, [] => l
  | l, x :: r => joinS (if hasS l x then l else l ++ [x]) r
def withoutS (l gone : List ByteArray) : List ByteArray := l.filter fun x => !hasS gone x
theorem nm_yes {a b : ByteArray} (h : nmEq a b = true) : (a.toList == b.toList) = true := by
  unfold nmEq at h; rw [ByteArray.toList_eq, ByteArray.toList_eq]; exact h
theorem nm_no {a b : ByteArray} (h : nmEq a b = false) : (a.toList == b.toList) = false := by
  unfold nmEq at h; rw [ByteArray.toList_eq, ByteArray.toList_eq]; exact h
theorem texts_len : ∀ (a b : List ByteArray), a.length ≠ b.length → textsS a b = false
  | [], [], h => by simp at h
  | [], b :: m, _ => rfl
  | a :: l, [], _ => rfl
  | a :: l, b :: m, h => by simp only [textsS]; rw [texts_len l m (by simpa using h)]; simp
theorem texts_yes : ∀ (a b : List ByteArray), a.length = b.length → (∀ i (h1 : i < a.length) (h2 : i < b.length), nmEq a[i] b[i] = true) → textsS a b = true
  | [], [], _, _ => rfl
  | [], b :: m, h, _ => by simp at h
  | a :: l, [], h, _ => by simp at h
  | a :: l, b :: m, h, hi => by
    simp only [textsS]
    rw [show nmEq a b = true from hi 0 (by simp) (by simp), texts_yes l m (by simpa using h) (fun i h1 h2 => hi (i + 1) (by simp; omega) (by simp; omega))]; rfl
theorem texts_no : ∀ (a b : List ByteArray), ∀ i (h1 : i < a.length) (h2 : i < b.length), nmEq a[i] b[i] = false → textsS a b = false
  | [], b, i, h1, _, _ => by simp at h1
  | a :: l, [], i, _, h2, _ => by simp at h2
  | a :: l, b :: m, 0, _, _, h => by simp only [textsS]; rw [show nmEq a b = false from h]; rfl
  | a :: l, b :: m, i + 1, h1, h2, h => by simp only [textsS]; rw [texts_no l m i (by simpa using h1) (by simpa using h2) h]; simp
theorem has_take {l : List ByteArray} {s : ByteArray} {k : Nat} (hk : k < l.length) (h : hasS (l.take k) s = false) (h1 : nmEq l[k] s = false) : hasS (l.take (k + 1)) s = false := by
  unfold hasS at *
  rw [List.take_succ_eq_append_getElem hk, List.any_append, h]; simp [h1]
theorem has_hit {l : List ByteArray} {s : ByteArray} {k : Nat} (hk : k < l.length) (h1 : nmEq l[k] s = true) : hasS l s = true := by
  unfold hasS; rw [List.any_eq_true]; exact ⟨l[k], List.getElem_mem _, h1⟩
theorem join_len : ∀ (m l : List ByteArray), (joinS l m).length ≤ l.length + m.length
  | [], l => by simp [joinS]
  | x :: r, l => by
    have := join_len r (if hasS l x then l else l ++ [x])
    simp only [joinS, List.length_cons]
    by_cases h : hasS l x = true
    · simp only [h, if_true] at this ⊢; omega
    · simp only [h] at this ⊢; simp at this ⊢; omega
theorem join_take {l m : List ByteArray} {k : Nat} (hk : k < m.length) : joinS l (m.take (k + 1)) = (if hasS (joinS l (m.take k)) m[k] then joinS l (m.take k) else joinS l (m.take k) ++ [m[k]]) := by
  have app : ∀ (a b l : List ByteArray), joinS l (a ++ b) = joinS (joinS l a) b := by
    intro a; induction a with
    | nil => intro b l; rfl
    | cons x a ih => intro b l; simp only [List.cons_append, joinS]; exact ih b _
  rw [List.take_succ_eq_append_getElem hk, app]
  rfl

theorem nm_at {w : World} {B n : Nat} {A : Option Addr} {ss : List ByteArray} (h : Reads w B 1 A n (nmVals ss)) {k : Nat} (hk : k < n) :
    ∃ ad, A = some ad ∧ (ad.add k).block < B ∧ ∃ hl : k < ss.length, w.cell? (ad.add k) = some (.string ss[k]) := by
  obtain ⟨ad, u, e, hb, hu, hc⟩ := h.at_ hk
  have hl : k < ss.length := by have := h.1; simp at this; omega
  refine ⟨ad, e, by rw [block_of_add]; exact hb, hl, ?_⟩
  rw [hc, ← hu]; simp [hl]
theorem nm_len {w : World} {B n : Nat} {A : Option Addr} {ss : List ByteArray} (h : Reads w B 1 A n (nmVals ss)) : ss.length = n := by
  have := h.1; simpa using this
theorem nm_oneCell (l : List ByteArray) : ∀ u ∈ nmVals l, u.oneCell' = true := by
  intro u hu
  obtain ⟨x, _, rfl⟩ := List.mem_map.1 hu
  rfl
theorem str_info : (Try.prog.info? 9).map (fun i => (i.zero, i.size, i.bytes)) = some (some (.string ⟨#[]⟩), 1, 16) := by kernel_rfl

set_option maxHeartbeats 800000 in
theorem rtexts_any (a b : List ByteArray) (A A' : Option Addr) (n m c c' B : Nat) (w : World) (hn9 : n ≤ 9223372036854775807) (ha : Reads w B 1 A n (nmVals a)) (hb : Reads w B 1 A' m (nmVals b)) :
    Calls Try.prog 23 #[.slice A n c, .slice A' m c'] w fun e w' => e = .returned (.bool (textsS a b)) ∧ ∃ k, w' = w.drewN k := by
  have hla := nm_len ha
  have hlb := nm_len hb
  by_cases hnm : n = m
  · subst hnm
    have HA := Lib.hid ha
    have HB := Lib.hid hb
    have HLA := Lib.hid hla
    have HLB := Lib.hid hlb
    clear ha hb hla hlb
    go_enter Try.func23, Try.ntmps23
    go_wp2_with fail
    go_loopw [5] (fun i wr => ∃ k : Nat, i = .int .i64 k ∧ k ≤ n ∧ (∀ j (h1 : j < a.length) (h2 : j < b.length), j < k → nmEq a[j] b[j] = true) ∧ ∃ d, wr = w.drewN d) (fun i _ => n - (intOf i).toNat)
    case atStart => exact ⟨0, rfl, Nat.zero_le _, fun j _ _ h => by omega, 0, rfl⟩
    case round =>
      obtain ⟨k, rfl, hk, hall, d, rfl⟩ := hrel
      have HALL := Lib.hid hall
      clear hall
      by_cases hlt : k < n
      · obtain ⟨ad, rfl, hbl, hl, hc⟩ := nm_at HA.out hlt
        obtain ⟨ad', rfl, hbl', hl', hc'⟩ := nm_at HB.out hlt
        obtain ⟨x, hx⟩ : ∃ x, a[k] = x := ⟨_, rfl⟩
        obtain ⟨y, hy⟩ : ∃ y, b[k] = y := ⟨_, rfl⟩
        rw [hx] at hc
        rw [hy] at hc'
        cases hxy : nmEq x y
        · have b1 := nm_no hxy
          have HF := Lib.hid (texts_no a b k hl hl' (by rw [hx, hy]; exact hxy))
          clear hx hy hxy
          go_wp2_with fail
          go_quiet (fail)
          go_wp2_with fail
          go_ret
          exact ⟨ret_bool HF.out.symm, _, World.drewN_drewN _ _ _⟩
        · have b1 := nm_yes hxy
          have HX := Lib.hid (show nmEq a[k] b[k] = true by rw [hx, hy]; exact hxy)
          clear hx hy hxy
          go_wp2_with fail
          go_quiet (fail)
          go_wp2_with fail
          go_roundw
          case rel => exact ⟨k + 1, by go_num, by omega, fun j h1 h2 h3 => by
            rcases Nat.lt_or_ge j k with h | h
            · exact HALL.out j h1 h2 h
            · have : j = k := by omega
              subst this; exact HX.out, _, rfl⟩
          case measure => simp [intOf]; omega
      · have HT := Lib.hid (texts_yes a b (by rw [HLA.out, HLB.out]) (fun j h1 h2 => HALL.out j h1 h2 (by have := HLA.out; omega)))
        go_wp2_with fail
        go_ret
        exact ⟨ret_bool HT.out.symm, _, rfl⟩
  · have hd : ((n : Int) != (m : Int)) = true := by simp; omega
    have HF := Lib.hid (texts_len a b (by rw [hla, hlb]; exact hnm))
    clear hnm hla hlb ha hb
    go_enter Try.func23, Try.ntmps23
    go_wp2_with fail
    go_ret
    exact ⟨ret_bool HF.out.symm, 0, rfl⟩

set_option maxHeartbeats 800000 in
theorem rhas_any (l : List ByteArray) (s : ByteArray) (A : Option Addr) (n c B : Nat) (w : World) (hn9 : n ≤ 9223372036854775807) (ha : Reads w B 1 A n (nmVals l)) (u : Bool) (hu : Hid (hasS l s = u)) :
    Calls Try.prog 58 #[.slice A n c, .string s] w fun e w' => e = .returned (.bool u) ∧ w = w' := by
  have HL := Lib.hid (nm_len ha)
  have HA := Lib.hid ha
  clear ha
  go_enter Try.func58, Try.ntmps58
  go_wp2_with fail
  go_loop [5] (fun i => ∃ k : Nat, i = .int .i64 k ∧ k ≤ n ∧ hasS (l.take k) s = false) (fun i => n - (intOf i).toNat)
  case atStart => exact ⟨0, rfl, Nat.zero_le _, rfl⟩
  case round =>
    obtain ⟨k, rfl, hk, hh⟩ := hrel
    have HH := Lib.hid hh
    clear hh
    by_cases hlt : k < n
    · obtain ⟨ad, rfl, hbl, hl, hc⟩ := nm_at HA.out hlt
      obtain ⟨x, hx⟩ : ∃ x, l[k] = x := ⟨_, rfl⟩
      rw [hx] at hc
      cases hxy : nmEq x s
      · have b1 := nm_no hxy
        have HN := Lib.hid (has_take hl HH.out (by rw [hx]; exact hxy))
        clear hx hxy
        go_wp2_with fail
        go_round
        case rel => exact ⟨k + 1, by go_num, by omega, HN.out⟩
        case measure => simp [intOf]; omega
      · have b1 := nm_yes hxy
        have HT := Lib.hid (has_hit hl (by rw [hx]; exact hxy))
        clear hx hxy
        go_wp2_with fail
        go_ret
        exact ⟨ret_bool (by rw [← hu.out, HT.out]), rfl⟩
    · have HF := Lib.hid (show hasS l s = false by rw [← HH.out, List.take_of_length_le (by rw [HL.out]; omega)])
      go_wp2_with fail
      go_ret
      exact ⟨ret_bool (by rw [← hu.out, HF.out]), rfl⟩

/-- What a function over names answers: a new slice of names. -/
def NamesSays (l : List ByteArray) (w : World) (e : Ending) (w' : World) : Prop :=
  ∃ (A : Option Addr) (c : Nat), e = .returned (.slice A l.length c) ∧ Reads w' w'.heap.size 1 A l.length (nmVals l) ∧ Below w.heap.size w w'
theorem names_own {w w' : World} {base : Nat} {v : Value} {l : List ByteArray} {n : Nat} (hn : l.length = n) (h : w'.ownsRow base 9 1 v n (nmVals l)) (hb : Below w.heap.size w w') : NamesSays l w (.returned v) w' := by
  subst hn
  have hr := h.2
  rcases hr with ⟨rfl, h0⟩ | ⟨g, cap, cur, rfl, _⟩
  · have : l = [] := List.eq_nil_of_length_eq_zero h0
    subst this
    exact ⟨none, 0, rfl, Reads.none_, hb⟩
  · exact ⟨_, cap, rfl, Reads.of_own h, hb⟩
/-- The slice that grows, as a value with its shape. -/
theorem own_shape {w : World} {base : Nat} {v : Value} {n : Nat} {xs : List Value} (h : w.ownsRow base 9 1 v n xs) : ∃ (A : Option Addr) (c : Nat), v = .slice A n c ∧ Reads w w.heap.size 1 A n xs := by
  have hr := h.2
  rcases hr with ⟨rfl, h0⟩ | ⟨g, cap, cur, rfl, _⟩
  · subst h0
    have : xs = [] := List.eq_nil_of_length_eq_zero (by have := h.1; simpa using this)
    subst this
    exact ⟨none, 0, rfl, Reads.none_⟩
  · exact ⟨_, cap, rfl, Reads.of_own h⟩

set_option maxHeartbeats 1600000 in
theorem rwithout_any (l gone : List ByteArray) (A A' : Option Addr) (n m c c' B : Nat) (w : World) (hB : B ≤ w.heap.size) (hn9 : n ≤ 4000000) (hm9 : m ≤ 9223372036854775807) (ha : Reads w B 1 A n (nmVals l)) (hb : Reads w B 1 A' m (nmVals gone)) :
    Calls Try.prog 56 #[.slice A n c, .slice A' m c'] w (NamesSays (withoutS l gone) w) := by
  obtain ⟨i0, hi, hz0, hz1, hz2⟩ := info_parts str_info
  have HI := Lib.hid hi
  have HZ0 := Lib.hid hz0
  have HZ1 := Lib.hid hz1
  have HZ2 := Lib.hid hz2
  have HL := Lib.hid (nm_len ha)
  have HA := Lib.hid ha
  have HB := Lib.hid hb
  clear ha hb hi hz0 hz1 hz2
  go_enter Try.func56, Try.ntmps56
  go_wp2_with fail
  go_loopw [5, 6] (fun v i wr => ∃ k : Nat, i = .int .i64 k ∧ k ≤ n ∧ wr.ownsRow w.heap.size 9 1 v (withoutS (l.take k) gone).length (nmVals (withoutS (l.take k) gone)) ∧ Below w.heap.size w wr) (fun _ i _ => n - (intOf i).toNat)
  case atStart => exact ⟨0, rfl, Nat.zero_le _, World.ownsRow_nil _ _ _ _, Below.refl _ _⟩
  case round =>
    obtain ⟨k, rfl, hk, hown, hbe⟩ := hrel
    have hzr := hbe.size
    have hlw : (withoutS (l.take k) gone).length ≤ k := Nat.le_trans (List.length_filter_le _ _) (List.length_take_le _ _)
    have HOW := Lib.hid hown
    have HBE := Lib.hid hbe
    clear hown hbe
    by_cases hlt : k < n
    · obtain ⟨ad, rfl, hbl, hl, hc⟩ := nm_at (HA.out.below (HBE.out.mono hB)) hlt
      obtain ⟨x, hx⟩ : ∃ x, l[k] = x := ⟨_, rfl⟩
      rw [hx] at hc
      have C := Lib.hid (fun u hu => rhas_any gone x A' m c' B wr hm9 (HB.out.below (HBE.out.mono hB)) u hu)
      have hst : withoutS (l.take (k + 1)) gone = withoutS (l.take k) gone ++ (if hasS gone x then [] else [x]) := by
        unfold withoutS
        rw [List.take_succ_eq_append_getElem hl, List.filter_append, hx]
        cases h : hasS gone x <;> simp [h]
      cases hh : hasS gone x
      · have HST := Lib.hid (show withoutS (l.take (k + 1)) gone = withoutS (l.take k) gone ++ [x] by rw [hst, hh]; rfl)
        have HC := Lib.hid (C.out false (Lib.hid hh))
        clear hst hh hx C
        obtain ⟨q, hq⟩ : ∃ q, (withoutS (l.take k) gone).length = q := ⟨_, rfl⟩
        have ho := HOW.out
        rw [hq] at ho hlw
        have HOQ := Lib.hid ho
        have HQ := Lib.hid hq
        clear ho hq
        go_wp2_with (first | (go_at_call 58; (with_reducible refine HC.out.mono ?_); rintro e w' ⟨rfl, rfl⟩) | (at_builtin; refine wpList_append_own _ rfl (.tmp 20) (.tmp 25) 50 rfl w.heap.size 9 i0 (.string ⟨#[]⟩) 1 16 Try.underlying50 HI.out HZ0.out HZ1.out HZ2.out rfl (by decide) _ _ _ rfl (HOQ.out.alloc _) ⟨wr.heap.size, 0, none⟩ 1 1 [.string x] rfl rfl (one_new _ _ _) (one_is rfl) (by unfold maxLen; omega) (by omega) (by simp; omega) ?_))
        intro v' w2 hown' hgrow _
        have HN := Lib.hid (show w2.ownsRow w.heap.size 9 1 v' (withoutS (l.take (k + 1)) gone).length (nmVals (withoutS (l.take (k + 1)) gone)) by
          rw [HST.out, List.length_append, HQ.out]; simpa using hown')
        have HB2 := Lib.hid ((HBE.out.alloc hzr _).grown hgrow (by simp; omega) (own_base HOW.out))
        clear hown' hgrow
        go_wp2_with fail
        go_roundw
        case rel => exact ⟨k + 1, by go_num, by omega, HN.out, HB2.out⟩
        case measure => simp [intOf]; omega
      · have HST := Lib.hid (show withoutS (l.take (k + 1)) gone = withoutS (l.take k) gone by rw [hst, hh]; simp)
        have HC := Lib.hid (C.out true (Lib.hid hh))
        clear hst hh hx C
        go_wp2_with (go_at_call 58; (with_reducible refine HC.out.mono ?_); rintro e w' ⟨rfl, rfl⟩)
        go_roundw
        case rel => exact ⟨k + 1, by go_num, by omega, by rw [HST.out]; exact HOW.out, HBE.out⟩
        case measure => simp [intOf]; omega
    · have HE := Lib.hid (names_own (w := w) (l := withoutS l gone) rfl (by have := HOW.out; rw [List.take_of_length_le (by rw [HL.out]; omega)] at this; exact this) HBE.out)
      go_wp2_with fail
      go_ret
      exact HE.out

set_option maxHeartbeats 1600000 in
theorem rjoin_any (l more : List ByteArray) (A A' : Option Addr) (n m c c' B : Nat) (w : World) (hB : B ≤ w.heap.size) (hn9 : n ≤ 4000000) (hm9 : m ≤ 4000000) (ha : Reads w B 1 A n (nmVals l)) (hb : Reads w B 1 A' m (nmVals more)) :
    Calls Try.prog 30 #[.slice A n c, .slice A' m c'] w (NamesSays (joinS l more) w) := by
  obtain ⟨i0, hi, hz0, hz1, hz2⟩ := info_parts str_info
  have HI := Lib.hid hi
  have HZ0 := Lib.hid hz0
  have HZ1 := Lib.hid hz1
  have HZ2 := Lib.hid hz2
  have HL := Lib.hid (nm_len ha)
  have HM := Lib.hid (nm_len hb)
  have HA := Lib.hid ha
  have HB := Lib.hid hb
  clear ha hb hi hz0 hz1 hz2
  go_enter Try.func30, Try.ntmps30
  go_wp2_with (at_builtin; refine wpList_append_any _ rfl (.tmp 7) (.tmp 8) 50 rfl w.heap.size 9 i0 (.string ⟨#[]⟩) 1 16 Try.underlying50 HI.out HZ0.out HZ1.out HZ2.out rfl (by decide) (.slice none 0 0) 0 [] rfl (World.ownsRow_nil _ _ _ _) B A n c (nmVals l) rfl HA.out (nm_oneCell _) (by unfold maxLen; omega) (by omega) (Nat.le_refl _) ?_)
  intro v0 w0 hown0 hgrow0 _
  have HO0 := Lib.hid (show w0.ownsRow w.heap.size 9 1 v0 (joinS l (more.take 0)).length (nmVals (joinS l (more.take 0))) by
    have := HL.out
    rw [List.take_zero]; show w0.ownsRow _ _ _ _ l.length (nmVals l); rw [this]; simpa using hown0)
  have HG0 := Lib.hid (show Below w.heap.size w w0 from (Below.refl _ _).grown hgrow0 (Nat.le_refl _) (fun k hk => by simp [Value.ownBlock] at hk))
  clear hown0 hgrow0
  go_wp2_with fail
  go_loopw [5, 6] (fun v i wr => ∃ k : Nat, i = .int .i64 k ∧ k ≤ m ∧ wr.ownsRow w.heap.size 9 1 v (joinS l (more.take k)).length (nmVals (joinS l (more.take k))) ∧ Below w.heap.size w wr) (fun _ i _ => m - (intOf i).toNat)
  case atStart => exact ⟨0, rfl, Nat.zero_le _, HO0.out, HG0.out⟩
  case round =>
    obtain ⟨k, rfl, hk, hown, hbe⟩ := hrel
    have hzr := hbe.size
    have hlw : (joinS l (more.take k)).length ≤ 8000000 := by
      have h1 := join_len (more.take k) l
      have h2 : (more.take k).length ≤ k := List.length_take_le _ _
      have := HL.out; omega
    obtain ⟨q, hq⟩ : ∃ q, (joinS l (more.take k)).length = q := ⟨_, rfl⟩
    rw [hq] at hown hlw
    obtain ⟨Av, cv, rfl, hrv⟩ := own_shape hown
    have HOW := Lib.hid hown
    have HRV := Lib.hid hrv
    have HBE := Lib.hid hbe
    have HQ := Lib.hid hq
    clear hown hbe hrv hq
    by_cases hlt : k < m
    · obtain ⟨ad, rfl, hbl, hl, hc⟩ := nm_at (HB.out.below (HBE.out.mono hB)) hlt
      have hst := join_take (l := l) hl
      obtain ⟨x, hx⟩ : ∃ x, more[k] = x := ⟨_, rfl⟩
      rw [hx] at hc hst
      have C := fun u hu => rhas_any (joinS l (more.take k)) x Av q cv wr.heap.size wr (by omega) HRV.out u hu
      cases hh : hasS (joinS l (more.take k)) x
      · have HST := Lib.hid (show joinS l (more.take (k + 1)) = joinS l (more.take k) ++ [x] by rw [hst, hh]; simp)
        have HC := Lib.hid (C false (Lib.hid hh))
        clear hst hh hx C
        go_wp2_with (first | (go_at_call 58; (with_reducible refine HC.out.mono ?_); rintro e w' ⟨rfl, rfl⟩) | (at_builtin; refine wpList_append_own _ rfl (.tmp 23) (.tmp 28) 50 rfl w.heap.size 9 i0 (.string ⟨#[]⟩) 1 16 Try.underlying50 HI.out HZ0.out HZ1.out HZ2.out rfl (by decide) _ _ _ rfl (HOW.out.alloc _) ⟨wr.heap.size, 0, none⟩ 1 1 [.string x] rfl rfl (one_new _ _ _) (one_is rfl) (by unfold maxLen; omega) (by omega) (by simp; omega) ?_))
        intro v' w2 hown' hgrow _
        have HN := Lib.hid (show w2.ownsRow w.heap.size 9 1 v' (joinS l (more.take (k + 1))).length (nmVals (joinS l (more.take (k + 1)))) by
          rw [HST.out, List.length_append, HQ.out]; simpa using hown')
        have HB2 := Lib.hid ((HBE.out.alloc hzr _).grown hgrow (by simp; omega) (own_base HOW.out))
        clear hown' hgrow
        go_wp2_with fail
        go_roundw
        case rel => exact ⟨k + 1, by go_num, by omega, HN.out, HB2.out⟩
        case measure => simp [intOf]; omega
      · have HST := Lib.hid (show joinS l (more.take (k + 1)) = joinS l (more.take k) by rw [hst, hh]; simp)
        have HC := Lib.hid (C true (Lib.hid hh))
        clear hst hh hx C
        go_wp2_with (go_at_call 58; (with_reducible refine HC.out.mono ?_); rintro e w' ⟨rfl, rfl⟩)
        go_roundw
        case rel => exact ⟨k + 1, by go_num, by omega, by rw [HST.out, HQ.out]; exact HOW.out, HBE.out⟩
        case measure => simp [intOf]; omega
    · have HE := Lib.hid (names_own (w := w) (l := joinS l more) (n := q) (by rw [← HQ.out, List.take_of_length_le (by rw [HM.out]; omega)]) (by have := HOW.out; rw [List.take_of_length_le (by rw [HM.out]; omega)] at this; exact this) HBE.out)
      go_wp2_with fail
      go_ret
      exact HE.out

end Go.Proofs.Ytglamoiimmahgaa
