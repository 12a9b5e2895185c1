/- Plain: what is read of a source that is nested so deep. -/
import Derived.Test.YtiiddmioafhmoaaDoorDeept
import Derived.Test.YtiiddmioafhmoaaDoorPwh
namespace Go.Proofs.YtiiddmioafhmoaaDoor
set_option linter.unusedVariables false
set_option linter.unusedSimpArgs false

/-- Nothing of an expression goes on here. -/
def Ends (ts : List Tk) : Prop := kindH ts ≠ 5 ∧ seesAtomP ts = false
theorem operands_one {O : Nat → List Tk → Res Ex} {lv : Nat} {ts ts1 : List Tk} {x : Ex} (h : O lv ts = .ok x ts1) (h5 : kindH ts1 ≠ 5) : operandsP O lv ts = .ok x ts1 := by
  unfold operandsP
  rw [h]
  simp only [Res.andThen]
  rw [operandsF, if_neg h5]
  exact appliedP_one _ _
theorem exp_of {n lv : Nat} {ts ts1 : List Tk} {x : Ex} (hl : lv < 300) (h : operF n (expF n) (lv + 1) ts = .ok x ts1) (h5 : kindH ts1 ≠ 5) : expF (n + 1) lv ts = .ok x ts1 := by
  rw [expF]; unfold belowP; rw [if_neg (by omega)]; exact operands_one h h5
theorem exp_bad {n lv : Nat} {ts : List Tk} {c : Int} {p : Nat} (hl : lv < 300) (h : operF n (expF n) (lv + 1) ts = .bad c p) : expF (n + 1) lv ts = .bad c p := by
  rw [expF]; unfold belowP; rw [if_neg (by omega)]; unfold operandsP; rw [h]; rfl
theorem exp_deep {n : Nat} {ts : List Tk} : expF (n + 1) 300 ts = .bad 111 (posH ts) := by
  rw [expF]; unfold belowP; rw [if_pos rfl]
theorem oper_atom {n lv : Nat} {E : Nat → List Tk → Res Ex} {ts ts1 : List Tk} {x : Ex} (h1 : seesH sLam ts = false) (h2 : seesH sLet ts = false) (h3 : seesH sIf ts = false) (ha : atomP E (typF n) (patF n) lv ts = .ok x ts1) (hs : seesAtomP ts1 = false) : operF n E lv ts = .ok x ts1 := by
  unfold operF operP
  rw [h1, h2, h3]
  simp only [Bool.false_eq_true, if_false, ha, Res.andThen]
  rw [appF, if_neg (by rw [hs]; simp)]
theorem oper_atom_bad {n lv : Nat} {E : Nat → List Tk → Res Ex} {ts : List Tk} {c : Int} {p : Nat} (h1 : seesH sLam ts = false) (h2 : seesH sLet ts = false) (h3 : seesH sIf ts = false) (ha : atomP E (typF n) (patF n) lv ts = .bad c p) : operF n E lv ts = .bad c p := by
  unfold operF operP
  rw [h1, h2, h3]
  simp only [Bool.false_eq_true, if_false, ha, Res.andThen]
/-- A name alone. -/
theorem exp_low {n lv p : Nat} {b : List UInt8} {K : List Tk} (hl : lv < 300) (hK : Ends K) : expF (n + 1) lv (tkLo b p :: K) = .ok (namedE 3 (tkLo b p)) K := by
  refine exp_of hl (oper_atom rfl rfl rfl ?_ hK.2) hK.1
  unfold atomP
  rw [if_neg (by simp [seesAtomP, kindH]), if_pos (show kindH (tkLo b p :: K) = 1 from rfl)]
  rfl
/- brackets -/
def HeadOk (X : List Tk) : Prop := kindH X ≠ 5 ∧ seesH sRpar X = false
theorem lpar_atom {E : Nat → List Tk → Res Ex} {T : Nat → List Tk → Res Ty} {P : Nat → List Tk → Res Pt} {lv p : Nat} {X : List Tk} (hX : HeadOk X) :
    atomP E T P lv (tkM [40] p :: X) = (E lv X).andThen fun e ts1 => (if seesH sColon ts1 then (T lv ts1.tail).andThen fun t ts2 => .ok (.mk 12 ⟨#[]⟩ 0 t [e] [] [] (p : Int)) ts2 else .ok e ts1).andThen fun e ts1 => (needP sRpar ts1).andThen fun _ ts2 => .ok e ts2 := by
  unfold atomP
  rw [if_neg (by simp [seesAtomP, kindH, seesH, seesB]), if_neg (by simp [kindH]), if_neg (by simp [kindH]), if_neg (by simp [kindH]), if_neg (by simp [kindH]), if_pos (show kindH (tkM [40] p :: X) = 7 from rfl)]
  show brackP E T lv (p : Int) X = _
  unfold brackP
  rw [hX.2]
  simp only [Bool.false_eq_true, if_false]
  unfold inBrP
  rw [if_neg hX.1]
  cases E lv X <;> rfl
theorem step0_ok {n lv p q : Nat} {X K : List Tk} {e : Ex} (hn : 1 ≤ n) (hl : lv + 1 < 300) (hX : HeadOk X) (h : expF n (lv + 1) X = .ok e (c0 q ++ K)) (hK : Ends K) : ∃ e', expF (n + 1) lv (o0 p ++ X) = .ok e' K := by
  refine ⟨e, exp_of (by omega) (oper_atom rfl rfl rfl ?_ hK.2) hK.1⟩
  show atomP _ _ _ _ (tkM [40] p :: X) = _
  rw [lpar_atom hX, h]
  simp [Res.andThen, c0, seesH, seesB, needP]
theorem step0_bad {n lv p p' : Nat} {X : List Tk} {c' : Int} (hl : lv < 300) (hX : HeadOk X) (h : expF n (lv + 1) X = .bad c' p') : expF (n + 1) lv (o0 p ++ X) = .bad c' p' := by
  refine exp_bad hl (oper_atom_bad rfl rfl rfl ?_)
  show atomP _ _ _ _ (tkM [40] p :: X) = _
  rw [lpar_atom hX, h]
  rfl
/- functions -/
theorem lam_oper {n lv p : Nat} {E : Nat → List Tk → Res Ex} {X : List Tk} : operF n E lv (o1 p ++ X) = (E lv X).andThen fun e ts3 => .ok (lamsE [⟨1, [120], 0, p⟩] e) ts3 := by
  unfold operF operP
  rw [if_pos (show seesH sLam (o1 p ++ X) = true from rfl)]
  show lamP E lv (p : Int) (tkLo [120] (p + 1) :: tkM [45, 62] (p + 3) :: X) = _
  rw [lamP_eq _ _ _ _ _ rfl]
  unfold lamR needP
  simp [isLowB, seesH, seesB, Res.andThen]
theorem step1_ok {n lv p q : Nat} {X K : List Tk} {e : Ex} (hn : 1 ≤ n) (hl : lv + 1 < 300) (hX : HeadOk X) (h : expF n (lv + 1) X = .ok e (cN q ++ K)) (hK : Ends K) : ∃ e', expF (n + 1) lv (o1 p ++ X) = .ok e' K := by
  refine ⟨lamsE [⟨1, [120], 0, p⟩] e, exp_of (by omega) ?_ hK.1⟩
  rw [lam_oper, h]
  rfl
theorem step1_bad {n lv p p' : Nat} {X : List Tk} {c' : Int} (hl : lv < 300) (hX : HeadOk X) (h : expF n (lv + 1) X = .bad c' p') : expF (n + 1) lv (o1 p ++ X) = .bad c' p' := by
  refine exp_bad hl ?_
  rw [lam_oper, h]
  rfl
/- if -/
theorem cho_oper {n lv p : Nat} {E : Nat → List Tk → Res Ex} {X : List Tk} : operF n E lv (o2 p ++ X) = choP E lv (p : Int) (tkLo [97] (p + 3) :: tkKey [116, 104, 101, 110] (p + 5) :: tkLo [98] (p + 10) :: tkKey [101, 108, 115, 101] (p + 12) :: X) := by
  unfold operF operP
  rw [if_neg (by simp [o2, seesH, seesB]), if_neg (by simp [o2, seesH, seesB]), if_pos (show seesH sIf (o2 p ++ X) = true from rfl)]
  rfl
theorem cho_eq {n lv p : Nat} {X : List Tk} (hl : lv < 300) : choP (expF (n + 1)) lv (p : Int) (tkLo [97] (p + 3) :: tkKey [116, 104, 101, 110] (p + 5) :: tkLo [98] (p + 10) :: tkKey [101, 108, 115, 101] (p + 12) :: X) =
    (expF (n + 1) lv X).andThen fun e ts2 => .ok (exK 9 ⟨#[]⟩ 0 [namedE 3 (tkLo [97] (p + 3)), namedE 3 (tkLo [98] (p + 10)), e] (p : Int)) ts2 := by
  have hc2 : ∀ acc ts, choF (expF (n + 1)) lv (p : Int) 2 acc ts = (needP sThen ts).andThen fun _ ts1 => (expF (n + 1) lv ts1).andThen fun e ts2 => choF (expF (n + 1)) lv (p : Int) 1 (acc ++ [e]) ts2 := fun _ _ => rfl
  have hc1 : ∀ acc ts, choF (expF (n + 1)) lv (p : Int) 1 acc ts = (needP sElse ts).andThen fun _ ts1 => (expF (n + 1) lv ts1).andThen fun e ts2 => choF (expF (n + 1)) lv (p : Int) 0 (acc ++ [e]) ts2 := fun _ _ => rfl
  unfold choP
  rw [exp_low hl ⟨by simp [kindH], by simp [seesAtomP, kindH, seesH, seesB]⟩]
  show choF (expF (n + 1)) lv (p : Int) 2 [namedE 3 (tkLo [97] (p + 3))] (tkKey [116, 104, 101, 110] (p + 5) :: tkLo [98] (p + 10) :: tkKey [101, 108, 115, 101] (p + 12) :: X) = _
  rw [hc2, show needP sThen (tkKey [116, 104, 101, 110] (p + 5) :: tkLo [98] (p + 10) :: tkKey [101, 108, 115, 101] (p + 12) :: X) = .ok () (tkLo [98] (p + 10) :: tkKey [101, 108, 115, 101] (p + 12) :: X) from rfl]
  show (expF (n + 1) lv (tkLo [98] (p + 10) :: tkKey [101, 108, 115, 101] (p + 12) :: X)).andThen _ = _
  rw [exp_low hl ⟨by simp [kindH], by simp [seesAtomP, kindH, seesH, seesB]⟩]
  show choF (expF (n + 1)) lv (p : Int) 1 ([namedE 3 (tkLo [97] (p + 3))] ++ [namedE 3 (tkLo [98] (p + 10))]) (tkKey [101, 108, 115, 101] (p + 12) :: X) = _
  rw [hc1, show needP sElse (tkKey [101, 108, 115, 101] (p + 12) :: X) = .ok () X from rfl]
  rfl
theorem step2_ok {n lv p q : Nat} {X K : List Tk} {e : Ex} (hn : 1 ≤ n) (hl : lv + 1 < 300) (hX : HeadOk X) (h : expF n (lv + 1) X = .ok e (cN q ++ K)) (hK : Ends K) : ∃ e', expF (n + 1) lv (o2 p ++ X) = .ok e' K := by
  obtain ⟨m, rfl⟩ : ∃ m, n = m + 1 := ⟨n - 1, by omega⟩
  refine ⟨exK 9 ⟨#[]⟩ 0 [namedE 3 (tkLo [97] (p + 3)), namedE 3 (tkLo [98] (p + 10)), e] (p : Int), exp_of (by omega) ?_ hK.1⟩
  rw [cho_oper, cho_eq hl, h]
  rfl
theorem step2_bad {n lv p p' : Nat} {X : List Tk} {c' : Int} (hn : 1 ≤ n) (hl : lv + 1 < 300) (h : expF n (lv + 1) X = .bad c' p') : expF (n + 1) lv (o2 p ++ X) = .bad c' p' := by
  obtain ⟨m, rfl⟩ : ∃ m, n = m + 1 := ⟨n - 1, by omega⟩
  refine exp_bad (by omega) ?_
  rw [cho_oper, cho_eq hl, h]
  rfl
theorem step2_last {n p : Nat} {X : List Tk} (hn : 1 ≤ n) : expF (n + 1) 299 (o2 p ++ X) = .bad 111 (p + 3) := by
  obtain ⟨m, rfl⟩ : ∃ m, n = m + 1 := ⟨n - 1, by omega⟩
  refine exp_bad (by omega) ?_
  rw [cho_oper]
  unfold choP
  rw [exp_deep]
  rfl
/- let -/
theorem let_oper {n lv p : Nat} {E : Nat → List Tk → Res Ex} {X : List Tk} : operF n E lv (o3 p ++ X) = letQ E lv (p : Int) 0 (tkLo [121] (p + 4) :: tkM [61] (p + 6) :: X) := by
  unfold operF operP
  rw [if_neg (by simp [o3, seesH, seesB]), if_pos (show seesH sLet (o3 p ++ X) = true from rfl)]
  show letP E lv (p : Int) (tkLo [121] (p + 4) :: tkM [61] (p + 6) :: X) = _
  unfold letP
  rw [if_neg (by simp [seesH, seesB])]
theorem bind_eq {lv p : Nat} {E : Nat → List Tk → Res Ex} {X : List Tk} : bindP E lv (tkLo [121] (p + 4) :: tkM [61] (p + 6) :: X) = (E lv X).andThen fun e ts3 => .ok (.mk (bytesOf (tkLo [121] (p + 4))) e ((p + 4 : Nat) : Int)) ts3 := by
  unfold bindP
  have h1 : nameP (tkLo [121] (p + 4) :: tkM [61] (p + 6) :: X) = .ok (tkLo [121] (p + 4)) (tkM [61] (p + 6) :: X) := rfl
  rw [h1]
  simp only [Res.andThen]
  have h2 : needP sEq (tkM [61] (p + 6) :: X) = .ok () X := rfl
  rw [h2]
theorem step3_ok {n lv p q : Nat} {X K : List Tk} {e : Ex} (hn : 1 ≤ n) (hl : lv + 1 < 300) (hX : HeadOk X) (h : expF n (lv + 1) X = .ok e (c3 q ++ K)) (hK : Ends K) : ∃ e', expF (n + 1) lv (o3 p ++ X) = .ok e' K := by
  obtain ⟨m, rfl⟩ : ∃ m, n = m + 1 := ⟨n - 1, by omega⟩
  have hb : someP sAnd (bindP (expF (m + 1)) (lv + 1)) (tkLo [121] (p + 4) :: tkM [61] (p + 6) :: X) = .ok [.mk (bytesOf (tkLo [121] (p + 4))) e ((p + 4 : Nat) : Int)] (c3 q ++ K) := by
    unfold someP
    rw [bind_eq, h]
    simp only [Res.andThen]
    rw [someF, if_neg (by simp [c3, seesH, seesB])]
  refine ⟨.mk 7 ⟨#[]⟩ 0 tyZ [namedE 3 (tkLo [121] (q + 4))] [] [.mk (bytesOf (tkLo [121] (p + 4))) e ((p + 4 : Nat) : Int)] (p : Int), exp_of (by omega) ?_ hK.1⟩
  rw [let_oper]
  unfold letQ
  rw [hb]
  simp only [Res.andThen]
  have h2 : needP sIn (c3 q ++ K) = .ok () (tkLo [121] (q + 4) :: K) := rfl
  rw [h2]
  simp only [Res.andThen]
  rw [exp_low hl hK]
theorem step3_bad {n lv p p' : Nat} {X : List Tk} {c' : Int} (hl : lv < 300) (hX : HeadOk X) (h : expF n (lv + 1) X = .bad c' p') : expF (n + 1) lv (o3 p ++ X) = .bad c' p' := by
  refine exp_bad hl ?_
  rw [let_oper]
  unfold letQ someP
  rw [bind_eq, h]
  rfl
/- so deep -/
section
variable {o c : Nat → List Tk} {wo wc : Nat}
theorem deep_head (ho : ∀ p X, HeadOk (o p ++ X) ∧ posH (o p ++ X) = p) : ∀ (m p : Nat) (K : Nat → List Tk), HeadOk (deepT o wo c wc m p K) ∧ posH (deepT o wo c wc m p K) = p
  | 0, p, K => ⟨⟨by simp [deepT, kindH], rfl⟩, rfl⟩
  | m + 1, p, K => ho p _
theorem deep_ok (ho : ∀ p X, HeadOk (o p ++ X) ∧ posH (o p ++ X) = p) (hc : ∀ q K, Ends K → Ends (c q ++ K))
    (hs : ∀ n lv p q X K e, 1 ≤ n → lv + 1 < 300 → HeadOk X → expF n (lv + 1) X = .ok e (c q ++ K) → Ends K → ∃ e', expF (n + 1) lv (o p ++ X) = .ok e' K) :
    ∀ (m n lv p : Nat) (K : Nat → List Tk), m + lv < 300 → m + 1 ≤ n → (∀ q, Ends (K q)) → ∃ e q, expF n lv (deepT o wo c wc m p K) = .ok e (K q) := by
  intro m
  induction m with
  | zero =>
    intro n lv p K hl hn hK
    obtain ⟨n, rfl⟩ : ∃ n', n = n' + 1 := ⟨n - 1, by omega⟩
    exact ⟨_, p + 1, exp_low (by omega) (hK _)⟩
  | succ m ih =>
    intro n lv p K hl hn hK
    obtain ⟨n, rfl⟩ : ∃ n', n = n' + 1 := ⟨n - 1, by omega⟩
    obtain ⟨e, q, he⟩ := ih n (lv + 1) (p + wo) (fun q => c q ++ K (q + wc)) (by omega) (by omega) (fun q => hc q _ (hK _))
    obtain ⟨e', he'⟩ := hs n lv p q _ (K (q + wc)) e (by omega) (by omega) (deep_head ho _ _ _).1 he (hK _)
    exact ⟨e', q + wc, he'⟩
theorem deep_bad (ho : ∀ p X, HeadOk (o p ++ X) ∧ posH (o p ++ X) = p)
    (hs : ∀ n lv p p' X c', lv < 300 → HeadOk X → expF n (lv + 1) X = .bad c' p' → expF (n + 1) lv (o p ++ X) = .bad c' p') :
    ∀ (d m n lv p : Nat) (K : Nat → List Tk), d + lv = 300 → d ≤ m → d + 1 ≤ n → expF n lv (deepT o wo c wc m p K) = .bad 111 (p + d * wo) := by
  intro d
  induction d with
  | zero =>
    intro m n lv p K hl hm hn
    obtain ⟨n, rfl⟩ : ∃ n', n = n' + 1 := ⟨n - 1, by omega⟩
    obtain rfl : lv = 300 := by omega
    rw [exp_deep, (deep_head ho _ _ _).2, Nat.zero_mul, Nat.add_zero]
  | succ d ih =>
    intro m n lv p K hl hm hn
    obtain ⟨n, rfl⟩ : ∃ n', n = n' + 1 := ⟨n - 1, by omega⟩
    obtain ⟨m, rfl⟩ : ∃ m', m = m' + 1 := ⟨m - 1, by omega⟩
    rw [deepT]
    refine hs n lv p _ _ _ (by omega) (deep_head ho _ _ _).1 ?_
    rw [ih m n (lv + 1) (p + wo) _ (by omega) (by omega) (by omega), Nat.succ_mul]
    congr 1; omega
theorem deep_bad2 {wo wc : Nat} {c : Nat → List Tk} : ∀ (d m n lv p : Nat) (K : Nat → List Tk), d + lv = 299 → d + 1 ≤ m → d + 2 ≤ n → expF n lv (deepT o2 wo c wc m p K) = .bad 111 (p + d * wo + 3) := by
  intro d
  induction d with
  | zero =>
    intro m n lv p K hl hm hn
    obtain ⟨n, rfl⟩ : ∃ n', n = n' + 1 := ⟨n - 1, by omega⟩
    obtain ⟨m, rfl⟩ : ∃ m', m = m' + 1 := ⟨m - 1, by omega⟩
    obtain rfl : lv = 299 := by omega
    rw [deepT, step2_last (by omega), Nat.zero_mul, Nat.add_zero]
  | succ d ih =>
    intro m n lv p K hl hm hn
    obtain ⟨n, rfl⟩ : ∃ n', n = n' + 1 := ⟨n - 1, by omega⟩
    obtain ⟨m, rfl⟩ : ∃ m', m = m' + 1 := ⟨m - 1, by omega⟩
    rw [deepT]
    refine step2_bad (by omega) (by omega) ?_
    rw [ih m n (lv + 1) (p + wo) _ (by omega) (by omega) (by omega), Nat.succ_mul]
    congr 1; omega
end
theorem ends_end (q : Nat) : Ends (endT q) := ⟨by simp [endT, kindH], by simp [endT, seesAtomP, kindH, seesH, seesB]⟩
theorem whole_ok {l : List UInt8} {ts : List Tk} {e : Ex} {q : Nat} (h : scanL l = (ts, 0, 0)) (he : expF 302 0 ts = .ok e (endT q)) : wholeP (expF 302) l = .ok e (endT q) := by
  unfold wholeP
  rw [h, if_pos rfl]
  simp only [he, Res.andThen, kindP]
  rfl
theorem whole_bad {l : List UInt8} {ts : List Tk} {c : Int} {p : Nat} (h : scanL l = (ts, 0, 0)) (he : expF 302 0 ts = .bad c p) : wholeP (expF 302) l = .bad c p := by
  unfold wholeP
  rw [h, if_pos rfl]
  simp only [he, Res.andThen]
/-- The four sources, by the kind. -/
def stK (k : Nat) : List UInt8 := if k = 0 then st0 else if k = 1 then st1 else if k = 2 then st2 else st3
def suK (k : Nat) : List UInt8 := if k = 0 then su0 else if k = 3 then su3 else []
def srcK (k n : Nat) : List UInt8 := repL (stK k) n ++ [97] ++ repL (suK k) n
def firstK (k : Nat) : Nat := if k = 2 then 299 * 17 + 3 else 300 * (stK k).length
theorem hcN (q : Nat) (r : List UInt8) (l : List Tk) (_ : OkH r) (h : tokS (q + 0) r = (l, 0, 0)) : tokS q ([] ++ r) = (cN q ++ l, 0, 0) := h
theorem src_says (k n : Nat) (hk : k < 4) (hn : n ≤ 600) : (n < 300 → ∃ e q, wholeP (expF 302) (srcK k n) = .ok e (endT q)) ∧ (300 ≤ n → wholeP (expF 302) (srcK k n) = .bad 111 (firstK k)) := by
  have hid : ∀ r : List UInt8, OkH r → OkH ([] ++ r) := fun r h => h
  rcases (show k = 0 ∨ k = 1 ∨ k = 2 ∨ k = 3 by omega) with rfl | rfl | rfl | rfl
  · have hsc := scan_deep st0 su0 o0 c0 1 1 ho0 hc0 (fun r _ => okH_cons (by decide)) (by decide) (by decide) n (by simp; omega)
    have ho : ∀ p X, HeadOk (o0 p ++ X) ∧ posH (o0 p ++ X) = p := fun p X => ⟨⟨by simp [o0, kindH], rfl⟩, rfl⟩
    refine ⟨fun h => ?_, fun h => ?_⟩
    · obtain ⟨e, q, he⟩ := deep_ok (wo := 1) (wc := 1) ho (fun q K _ => ⟨by simp [c0, kindH], by simp [c0, seesAtomP, kindH, seesH, seesB]⟩) (fun n lv p q X K e h1 h2 h3 h4 h5 => step0_ok h1 h2 h3 h4 h5) n 302 0 0 endT (by omega) (by omega) ends_end
      exact ⟨e, q, whole_ok hsc he⟩
    · exact whole_bad hsc (deep_bad (wo := 1) (wc := 1) (c := c0) ho (fun n lv p p' X c' h1 h2 h3 => step0_bad h1 h2 h3) 300 n 302 0 0 endT (by omega) h (by omega))
  · have hsc := scan_deep st1 [] o1 cN 6 0 ho1 hcN hid (by decide) (by simp) n (by simp; omega)
    have ho : ∀ p X, HeadOk (o1 p ++ X) ∧ posH (o1 p ++ X) = p := fun p X => ⟨⟨by simp [o1, kindH], rfl⟩, rfl⟩
    refine ⟨fun h => ?_, fun h => ?_⟩
    · obtain ⟨e, q, he⟩ := deep_ok (c := cN) (wo := 6) (wc := 0) ho (fun q K h => h) (fun n lv p q X K e h1 h2 h3 h4 h5 => step1_ok (q := q) h1 h2 h3 h4 h5) n 302 0 0 endT (by omega) (by omega) ends_end
      exact ⟨e, q, whole_ok hsc he⟩
    · exact whole_bad hsc (deep_bad (wo := 6) (wc := 0) (c := cN) ho (fun n lv p p' X c' h1 h2 h3 => step1_bad h1 h2 h3) 300 n 302 0 0 endT (by omega) h (by omega))
  · have hsc := scan_deep st2 [] o2 cN 17 0 ho2 hcN hid (by decide) (by simp) n (by simp; omega)
    have ho : ∀ p X, HeadOk (o2 p ++ X) ∧ posH (o2 p ++ X) = p := fun p X => ⟨⟨by simp [o2, kindH], rfl⟩, rfl⟩
    refine ⟨fun h => ?_, fun h => ?_⟩
    · obtain ⟨e, q, he⟩ := deep_ok (c := cN) (wo := 17) (wc := 0) ho (fun q K h => h) (fun n lv p q X K e h1 h2 h3 h4 h5 => step2_ok (q := q) h1 h2 h3 h4 h5) n 302 0 0 endT (by omega) (by omega) ends_end
      exact ⟨e, q, whole_ok hsc he⟩
    · have := whole_bad hsc (deep_bad2 (wo := 17) (wc := 0) (c := cN) 299 n 302 0 0 endT (by omega) (by omega) (by omega))
      rw [show firstK 2 = 0 + 299 * 17 + 3 from rfl]; exact this
  · have hsc := scan_deep st3 su3 o3 c3 8 5 ho3 hc3 (fun r _ => okH_cons (by decide)) (by decide) (by decide) n (by simp; omega)
    have ho : ∀ p X, HeadOk (o3 p ++ X) ∧ posH (o3 p ++ X) = p := fun p X => ⟨⟨by simp [o3, kindH], rfl⟩, rfl⟩
    refine ⟨fun h => ?_, fun h => ?_⟩
    · obtain ⟨e, q, he⟩ := deep_ok (wo := 8) (wc := 5) ho (fun q K _ => ⟨by simp [c3, kindH], by simp [c3, seesAtomP, kindH, seesH, seesB]⟩) (fun n lv p q X K e h1 h2 h3 h4 h5 => step3_ok h1 h2 h3 h4 h5) n 302 0 0 endT (by omega) (by omega) ends_end
      exact ⟨e, q, whole_ok hsc he⟩
    · exact whole_bad hsc (deep_bad (wo := 8) (wc := 5) (c := c3) ho (fun n lv p p' X c' h1 h2 h3 => step3_bad h1 h2 h3) 300 n 302 0 0 endT (by omega) h (by omega))

end Go.Proofs.YtiiddmioafhmoaaDoor
