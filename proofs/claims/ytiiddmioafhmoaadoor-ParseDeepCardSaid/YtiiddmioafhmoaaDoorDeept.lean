/- Plain: the tokens of a source, word for word; of one that is nested so deep. -/
import Derived.Test.YtiiddmioafhmoaaDoorBack03
namespace Go.Proofs.YtiiddmioafhmoaaDoor
set_option linter.unusedVariables false

/-- The tokens from a place on, where blanks may stand. -/
def tokS (q : Nat) (r : List UInt8) : List Tk × Int × Nat := tok (q + skipL false r) (r.drop (skipL false r))
theorem tokS_nil (q : Nat) : tokS q [] = ([⟨0, [], 0, q⟩], 0, 0) := rfl
theorem skipL_blank (c : UInt8) (r : List UInt8) (hc : blankS.contains c = true) : skipL false (c :: r) = 1 + skipL false r := by
  rw [skipL, if_pos hc]
theorem skipL_none (c : UInt8) (r : List UInt8) (hc : blankS.contains c = false) (h35 : c ≠ 35) : skipL false (c :: r) = 0 := by
  rw [skipL, if_neg (by rw [hc]; simp), if_neg h35]
theorem tokS_blank (q : Nat) (c : UInt8) (r : List UInt8) (hc : blankS.contains c = true) : tokS q (c :: r) = tokS (q + 1) r := by
  unfold tokS
  rw [skipL_blank c r hc, show q + (1 + skipL false r) = q + 1 + skipL false r by omega, show (c :: r).drop (1 + skipL false r) = r.drop (skipL false r) by rw [Nat.add_comm, List.drop_succ_cons]]
theorem tokS_piece (q : Nat) (c : UInt8) (r r' : List UInt8) (kd : Int) (tx : List UInt8) (w : Nat) (l : List Tk) (hb : blankS.contains c = false) (h35 : c ≠ 35) (hp : pieceL (c :: r) = ⟨0, kd, tx, 0, w⟩) (hr : (c :: r).drop w = r') (h : tokS (q + w) r' = (l, 0, 0)) :
    tokS q (c :: r) = (⟨kd, tx, 0, q⟩ :: l, 0, 0) := by
  have h1 := tok_step q c r w (by rw [hp]) (by rw [hp]) (skipL false ((c :: r).drop w)) rfl
  rw [← List.drop_drop, hr] at h1
  have h2 : tok (q + w + skipL false r') (r'.drop (skipL false r')) = (l, 0, 0) := h
  rw [h2] at h1
  have h3 : tokS q (c :: r) = tok q (c :: r) := by unfold tokS; rw [skipL_none c r hb h35]; rfl
  rw [h3]
  unfold Joined at h1
  rw [h1, hp]
  simp
theorem span_word (p : UInt8 → Bool) (r : List UInt8) (hr : ∀ c r', r = c :: r' → p c = false) : ∀ w : List UInt8, w.all p = true → spanL p (w ++ r) = w.length := by
  intro w
  unfold spanL
  induction w with
  | nil =>
    intro _
    cases r with
    | nil => rfl
    | cons c r' => simp [hr c r' rfl]
  | cons a w ih =>
    intro h
    simp only [List.all_cons, Bool.and_eq_true] at h
    rw [List.cons_append, List.takeWhile_cons, if_pos h.1, List.length_cons, ih h.2, List.length_cons]
theorem piece_word (c : UInt8) (w r : List UInt8) (hd : digitS.contains c = false) (h34 : c ≠ 34) (hc : nameS.contains c = true) (hw : (c :: w).all inNameS.contains = true) (hl : w.length < 40) (hr : ∀ d r', r = d :: r' → inNameS.contains d = false) :
    pieceL (c :: (w ++ r)) = ⟨0, kindL (c :: w), c :: w, 0, w.length + 1⟩ := by
  show pieceC c (w ++ r) = _
  unfold pieceC
  rw [if_neg (by rw [hd]; simp), if_neg h34, if_pos hc]
  have hs := span_word inNameS.contains r hr (c :: w) hw
  rw [List.cons_append] at hs
  rw [hs]
  unfold wordL
  have ht : (c :: (w ++ r)).take (c :: w).length = c :: w := by
    rw [← List.cons_append, List.take_left]
  rw [ht, if_neg (by simp; omega)]
  rfl
theorem piece_oper (c : UInt8) (w r : List UInt8) (hd : digitS.contains c = false) (h34 : c ≠ 34) (hn : nameS.contains c = false) (hc : opS.contains c = true) (hw : (c :: w).all opS.contains = true) (hl : w.length < 40) (hr : ∀ d r', r = d :: r' → opS.contains d = false) :
    pieceL (c :: (w ++ r)) = ⟨0, kindL (c :: w), c :: w, 0, w.length + 1⟩ := by
  show pieceC c (w ++ r) = _
  unfold pieceC
  rw [if_neg (by rw [hd]; simp), if_neg h34, if_neg (by rw [hn]; simp), if_pos hc]
  have hs := span_word opS.contains r hr (c :: w) hw
  rw [List.cons_append] at hs
  rw [hs]
  unfold wordL
  have ht : (c :: (w ++ r)).take (c :: w).length = c :: w := by
    rw [← List.cons_append, List.take_left]
  rw [ht, if_neg (by simp; omega)]
  rfl
theorem piece_sng (c : UInt8) (r : List UInt8) (hd : digitS.contains c = false) (h34 : c ≠ 34) (hn : nameS.contains c = false) (ho : opS.contains c = false) (hc : singleS.contains c = true) :
    pieceL (c :: r) = ⟨0, kindL [c], [c], 0, 1⟩ := by
  show pieceC c r = _
  unfold pieceC
  rw [if_neg (by rw [hd]; simp), if_neg h34, if_neg (by rw [hn]; simp), if_neg (by rw [ho]; simp), if_pos hc]
  unfold wordL
  rw [if_neg (by simp)]
  rfl
/-- What may stand right behind a name. -/
def OkH (r : List UInt8) : Prop := ∀ d r', r = d :: r' → inNameS.contains d = false
theorem okH_nil : OkH [] := fun d r' h => by cases h
theorem okH_cons {c : UInt8} {r : List UInt8} (h : inNameS.contains c = false) : OkH (c :: r) := fun d r' e => by cases e; exact h
/-- A name or a keyword. -/
theorem tokS_word (q : Nat) (c : UInt8) (w r : List UInt8) (l : List Tk) (hb : blankS.contains c = false) (h35 : c ≠ 35) (hd : digitS.contains c = false) (h34 : c ≠ 34) (hc : nameS.contains c = true) (hw : (c :: w).all inNameS.contains = true) (hl : w.length < 40) (hr : OkH r)
    (kd : Int) (hk : kindL (c :: w) = kd) (h : tokS (q + (w.length + 1)) r = (l, 0, 0)) : tokS q (c :: (w ++ r)) = (⟨kd, c :: w, 0, q⟩ :: l, 0, 0) := by
  subst hk
  refine tokS_piece q c (w ++ r) r _ _ (w.length + 1) l hb h35 (piece_word c w r hd h34 hc hw hl hr) ?_ h
  simp
theorem tokS_oper (q : Nat) (c : UInt8) (w r : List UInt8) (l : List Tk) (hb : blankS.contains c = false) (h35 : c ≠ 35) (hd : digitS.contains c = false) (h34 : c ≠ 34) (hn : nameS.contains c = false) (hc : opS.contains c = true) (hw : (c :: w).all opS.contains = true) (hl : w.length < 40) (hr : ∀ d r', r = d :: r' → opS.contains d = false)
    (kd : Int) (hk : kindL (c :: w) = kd) (h : tokS (q + (w.length + 1)) r = (l, 0, 0)) : tokS q (c :: (w ++ r)) = (⟨kd, c :: w, 0, q⟩ :: l, 0, 0) := by
  subst hk
  refine tokS_piece q c (w ++ r) r _ _ (w.length + 1) l hb h35 (piece_oper c w r hd h34 hn hc hw hl hr) ?_ h
  simp
theorem tokS_single (q : Nat) (c : UInt8) (r : List UInt8) (l : List Tk) (hb : blankS.contains c = false) (h35 : c ≠ 35) (hd : digitS.contains c = false) (h34 : c ≠ 34) (hn : nameS.contains c = false) (ho : opS.contains c = false) (hc : singleS.contains c = true)
    (kd : Int) (hk : kindL [c] = kd) (h : tokS (q + 1) r = (l, 0, 0)) : tokS q (c :: r) = (⟨kd, [c], 0, q⟩ :: l, 0, 0) := by
  subst hk
  exact tokS_piece q c r r _ _ 1 l hb h35 (piece_sng c r hd h34 hn ho hc) rfl h

/- sources of ASCII -/
theorem bad_ascii : ∀ (f k : Nat) (r : List UInt8), (∀ c ∈ r, c < 128) → badF f k r = none := by
  intro f
  induction f with
  | zero => intro k r _; rfl
  | succ f ih =>
    intro k r h
    cases r with
    | nil => rfl
    | cons c r =>
      have hc : c.toNat < 128 := by have := h c (by simp); exact UInt8.lt_iff_toNat_lt.1 this
      have hd : decL (c :: r) = (c.toNat, 1) := by
        unfold decL Lib.decodeN
        rw [if_pos (by simpa using hc)]
        simp
      rw [bad_cons, hd, if_neg (by simp; omega)]
      exact ih _ _ (fun d hd => h d (List.mem_of_mem_drop hd))
theorem scan_ascii (l : List UInt8) (h : l.length ≤ 60000) (ha : ∀ c ∈ l, c < 128) : scanL l = tokS 0 l := by
  rw [scan_tok l h (bad_ascii _ _ l ha)]
  unfold tokS
  rw [Nat.zero_add]

/-- A source nested so deep. -/
def textD (st su : List UInt8) : Nat → List UInt8 → List UInt8
  | 0, rest => 97 :: rest
  | m + 1, rest => st ++ textD st su m (su ++ rest)
def deepT (o : Nat → List Tk) (wo : Nat) (c : Nat → List Tk) (wc : Nat) : Nat → Nat → (Nat → List Tk) → List Tk
  | 0, p, K => ⟨1, [97], 0, p⟩ :: K (p + 1)
  | m + 1, p, K => o p ++ deepT o wo c wc m (p + wo) (fun q => c q ++ K (q + wc))
def repL (s : List UInt8) : Nat → List UInt8
  | 0 => []
  | m + 1 => repL s m ++ s
theorem repL_front (s : List UInt8) : ∀ m, s ++ repL s m = repL s (m + 1)
  | 0 => by simp [repL]
  | m + 1 => by
    rw [repL, ← List.append_assoc, repL_front s m, repL]
    rfl
theorem textD_eq (st su : List UInt8) : ∀ (m : Nat) (rest : List UInt8), repL st m ++ [97] ++ repL su m ++ rest = textD st su m rest
  | 0, rest => by simp [repL, textD]
  | m + 1, rest => by
    rw [textD, ← textD_eq st su m (su ++ rest), ← repL_front st m]
    simp [repL]
theorem textD_len (st su : List UInt8) : ∀ (m : Nat) (rest : List UInt8), (textD st su m rest).length = m * (st.length + su.length) + 1 + rest.length
  | 0, rest => by simp [textD]; omega
  | m + 1, rest => by
    rw [textD, List.length_append, textD_len st su m, List.length_append, Nat.succ_mul]; omega
theorem textD_all (p : UInt8 → Prop) (st su : List UInt8) (h1 : ∀ c ∈ st, p c) (h2 : ∀ c ∈ su, p c) (h3 : p 97) : ∀ (m : Nat) (rest : List UInt8), (∀ c ∈ rest, p c) → ∀ c ∈ textD st su m rest, p c
  | 0, rest, hr => by
    intro c hc
    rw [textD, List.mem_cons] at hc
    rcases hc with rfl | hc
    · exact h3
    · exact hr c hc
  | m + 1, rest, hr => by
    intro c hc
    rw [textD, List.mem_append] at hc
    rcases hc with hc | hc
    · exact h1 c hc
    · exact textD_all p st su h1 h2 h3 m _ (fun d hd => (List.mem_append.1 hd).elim (h2 d) (hr d)) c hc
theorem tok_deep (st su : List UInt8) (o c : Nat → List Tk) (wo wc : Nat) (ho : ∀ q r l, tokS (q + wo) r = (l, 0, 0) → tokS q (st ++ r) = (o q ++ l, 0, 0))
    (hc : ∀ q r l, OkH r → tokS (q + wc) r = (l, 0, 0) → tokS q (su ++ r) = (c q ++ l, 0, 0)) (hs : ∀ r, OkH r → OkH (su ++ r)) :
    ∀ (m p : Nat) (rest : List UInt8) (K : Nat → List Tk), OkH rest → (∀ q, tokS q rest = (K q, 0, 0)) → tokS p (textD st su m rest) = (deepT o wo c wc m p K, 0, 0) := by
  intro m
  induction m with
  | zero =>
    intro p rest K hr hK
    exact tokS_word p 97 [] rest _ (by decide) (by decide) (by decide) (by decide) (by decide) (by decide) (by decide) hr 1 (by decide) (hK _)
  | succ m ih =>
    intro p rest K hr hK
    rw [textD, deepT]
    exact ho p _ _ (ih (p + wo) (su ++ rest) _ (hs rest hr) (fun q => hc q rest _ hr (hK _)))

abbrev tkM (b : List UInt8) (p : Nat) : Tk := ⟨7, b, 0, p⟩
abbrev tkKey (b : List UInt8) (p : Nat) : Tk := ⟨6, b, 0, p⟩
abbrev tkLo (b : List UInt8) (p : Nat) : Tk := ⟨1, b, 0, p⟩
/- the four shapes -/
abbrev st0 : List UInt8 := [40]
abbrev su0 : List UInt8 := [41]
abbrev st1 : List UInt8 := [92, 120, 32, 45, 62, 32]
abbrev st2 : List UInt8 := [105, 102, 32, 97, 32, 116, 104, 101, 110, 32, 98, 32, 101, 108, 115, 101, 32]
abbrev st3 : List UInt8 := [108, 101, 116, 32, 121, 32, 61, 32]
abbrev su3 : List UInt8 := [32, 105, 110, 32, 121]
def o0 (q : Nat) : List Tk := [tkM [40] q]
def c0 (q : Nat) : List Tk := [tkM [41] q]
def o1 (q : Nat) : List Tk := [tkM [92] q, tkLo [120] (q + 1), tkM [45, 62] (q + 3)]
def cN (_ : Nat) : List Tk := []
def o2 (q : Nat) : List Tk := [tkKey [105, 102] q, tkLo [97] (q + 3), tkKey [116, 104, 101, 110] (q + 5), tkLo [98] (q + 10), tkKey [101, 108, 115, 101] (q + 12)]
def o3 (q : Nat) : List Tk := [tkKey [108, 101, 116] q, tkLo [121] (q + 4), tkM [61] (q + 6)]
def c3 (q : Nat) : List Tk := [tkKey [105, 110] (q + 1), tkLo [121] (q + 4)]
theorem ho0 (q : Nat) (r : List UInt8) (l : List Tk) (h : tokS (q + 1) r = (l, 0, 0)) : tokS q (st0 ++ r) = (o0 q ++ l, 0, 0) :=
  tokS_single q 40 r l (by decide) (by decide) (by decide) (by decide) (by decide) (by decide) (by decide) 7 (by decide) h
theorem hc0 (q : Nat) (r : List UInt8) (l : List Tk) (_ : OkH r) (h : tokS (q + 1) r = (l, 0, 0)) : tokS q (su0 ++ r) = (c0 q ++ l, 0, 0) :=
  tokS_single q 41 r l (by decide) (by decide) (by decide) (by decide) (by decide) (by decide) (by decide) 7 (by decide) h
theorem ho1 (q : Nat) (r : List UInt8) (l : List Tk) (h : tokS (q + 6) r = (l, 0, 0)) : tokS q (st1 ++ r) = (o1 q ++ l, 0, 0) := by
  refine tokS_single q 92 _ (_ :: _ :: l) (by decide) (by decide) (by decide) (by decide) (by decide) (by decide) (by decide) 7 (by decide) ?_
  refine tokS_word (q + 1) 120 [] (32 :: 45 :: 62 :: 32 :: r) _ (by decide) (by decide) (by decide) (by decide) (by decide) (by decide) (by decide) (okH_cons (by decide)) 1 (by decide) ?_
  rw [tokS_blank _ 32 _ (by decide)]
  refine tokS_oper (q + 3) 45 [62] (32 :: r) _ (by decide) (by decide) (by decide) (by decide) (by decide) (by decide) (by decide) (by decide) (fun d r' e => by cases e; decide) 7 (by decide) ?_
  rw [tokS_blank _ 32 _ (by decide)]
  exact h
theorem ho2 (q : Nat) (r : List UInt8) (l : List Tk) (h : tokS (q + 17) r = (l, 0, 0)) : tokS q (st2 ++ r) = (o2 q ++ l, 0, 0) := by
  refine tokS_word q 105 [102] (32 :: 97 :: 32 :: 116 :: 104 :: 101 :: 110 :: 32 :: 98 :: 32 :: 101 :: 108 :: 115 :: 101 :: 32 :: r) (_ :: _ :: _ :: _ :: l) (by decide) (by decide) (by decide) (by decide) (by decide) (by decide) (by decide) (okH_cons (by decide)) 6 (by decide) ?_
  rw [tokS_blank _ 32 _ (by decide)]
  refine tokS_word (q + 3) 97 [] (32 :: 116 :: 104 :: 101 :: 110 :: 32 :: 98 :: 32 :: 101 :: 108 :: 115 :: 101 :: 32 :: r) _ (by decide) (by decide) (by decide) (by decide) (by decide) (by decide) (by decide) (okH_cons (by decide)) 1 (by decide) ?_
  rw [tokS_blank _ 32 _ (by decide)]
  refine tokS_word (q + 5) 116 [104, 101, 110] (32 :: 98 :: 32 :: 101 :: 108 :: 115 :: 101 :: 32 :: r) _ (by decide) (by decide) (by decide) (by decide) (by decide) (by decide) (by decide) (okH_cons (by decide)) 6 (by decide) ?_
  rw [tokS_blank _ 32 _ (by decide)]
  refine tokS_word (q + 10) 98 [] (32 :: 101 :: 108 :: 115 :: 101 :: 32 :: r) _ (by decide) (by decide) (by decide) (by decide) (by decide) (by decide) (by decide) (okH_cons (by decide)) 1 (by decide) ?_
  rw [tokS_blank _ 32 _ (by decide)]
  refine tokS_word (q + 12) 101 [108, 115, 101] (32 :: r) _ (by decide) (by decide) (by decide) (by decide) (by decide) (by decide) (by decide) (okH_cons (by decide)) 6 (by decide) ?_
  rw [tokS_blank _ 32 _ (by decide)]
  exact h
theorem ho3 (q : Nat) (r : List UInt8) (l : List Tk) (h : tokS (q + 8) r = (l, 0, 0)) : tokS q (st3 ++ r) = (o3 q ++ l, 0, 0) := by
  refine tokS_word q 108 [101, 116] (32 :: 121 :: 32 :: 61 :: 32 :: r) (_ :: _ :: l) (by decide) (by decide) (by decide) (by decide) (by decide) (by decide) (by decide) (okH_cons (by decide)) 6 (by decide) ?_
  rw [tokS_blank _ 32 _ (by decide)]
  refine tokS_word (q + 4) 121 [] (32 :: 61 :: 32 :: r) _ (by decide) (by decide) (by decide) (by decide) (by decide) (by decide) (by decide) (okH_cons (by decide)) 1 (by decide) ?_
  rw [tokS_blank _ 32 _ (by decide)]
  refine tokS_oper (q + 6) 61 [] (32 :: r) _ (by decide) (by decide) (by decide) (by decide) (by decide) (by decide) (by decide) (by decide) (fun d r' e => by cases e; decide) 7 (by decide) ?_
  rw [tokS_blank _ 32 _ (by decide)]
  exact h
theorem hc3 (q : Nat) (r : List UInt8) (l : List Tk) (hr : OkH r) (h : tokS (q + 5) r = (l, 0, 0)) : tokS q (su3 ++ r) = (c3 q ++ l, 0, 0) := by
  show tokS q (32 :: 105 :: 110 :: 32 :: 121 :: r) = _
  rw [tokS_blank _ 32 _ (by decide)]
  refine tokS_word (q + 1) 105 [110] (32 :: 121 :: r) (_ :: l) (by decide) (by decide) (by decide) (by decide) (by decide) (by decide) (by decide) (okH_cons (by decide)) 6 (by decide) ?_
  rw [tokS_blank _ 32 _ (by decide)]
  exact tokS_word (q + 4) 121 [] r _ (by decide) (by decide) (by decide) (by decide) (by decide) (by decide) (by decide) hr 1 (by decide) h
def endT (q : Nat) : List Tk := [⟨0, [], 0, q⟩]
theorem scan_deep (st su : List UInt8) (o c : Nat → List Tk) (wo wc : Nat) (ho : ∀ q r l, tokS (q + wo) r = (l, 0, 0) → tokS q (st ++ r) = (o q ++ l, 0, 0))
    (hc : ∀ q r l, OkH r → tokS (q + wc) r = (l, 0, 0) → tokS q (su ++ r) = (c q ++ l, 0, 0)) (hs : ∀ r, OkH r → OkH (su ++ r)) (h1 : ∀ c ∈ st, c < 128) (h2 : ∀ c ∈ su, c < 128) (m : Nat) (hm : m * (st.length + su.length) + 1 ≤ 60000) :
    scanL (repL st m ++ [97] ++ repL su m) = (deepT o wo c wc m 0 endT, 0, 0) := by
  have h0 := textD_eq st su m []
  rw [List.append_nil] at h0
  rw [h0, scan_ascii _ (by rw [textD_len]; simpa using hm) (textD_all _ st su h1 h2 (by decide) m [] (by simp))]
  exact tok_deep st su o c wo wc ho hc hs m 0 [] endT okH_nil (fun q => tokS_nil q)

end Go.Proofs.YtiiddmioafhmoaaDoor
