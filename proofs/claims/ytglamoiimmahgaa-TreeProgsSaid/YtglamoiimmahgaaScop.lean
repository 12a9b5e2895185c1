/- Walks: the iterator over an expression's scopes. -/
import Derived.RangeFuncBound
import Derived.RangeFuncCalls
import Derived.Shelf.Abstract
import Derived.OwnWalkIn
import Derived.TacticsInMore
import Derived.LoopNIn
import Derived.LoopIn
import Derived.Deep.DeepCutAuto
import Derived.Deep.CutBlock
import Derived.Test.YtglamoiimmahgaaHeld
import Derived.Test.YtglamoiimmahgaaMass
import Derived.Test.YtglamoiimmahgaaSplit
namespace Go.Proofs.Ytglamoiimmahgaa
open Go.RowKit
set_option linter.unusedVariables false
set_option maxRecDepth 100000
set_option linter.unusedSimpArgs false
attribute [local go_sem] Oper.semAt_some

set_option maxHeartbeats 1600000 in
theorem pscopes_any (w : World) (cs : List Value) :
    Calls Try.prog 60 #[.agg cs.toArray] w fun e w' => e = .returned (.func (.func 70) #[] #[.pointer (some ⟨w.heap.size, 0, none⟩)]) ∧ w.alloc (.cells cs.toArray 29) = w' := by
  have hmf : ∀ (w0 : World) (f : Fn) (a b : Array Value), (Instr.makeFunc f a b).run Try.prog w0 = .ok (.func f a b) w0 := fun _ _ _ _ => rfl
  go_enter Try.func60, Try.ntmps60
  go_wp2_with fail
  go_ret
  exact ⟨rfl, rfl⟩

/-- What a round over scopes is handed. -/
def ScRd (e : Ex) (B : Nat) (Y : Nat → Prop) (k : Nat) (args : Array Value) (W : World) : Prop :=
  ∃ ns es A c A' c' L, e.scL[k]? = some (ns, es) ∧ args = #[.slice A ns.length c, .slice A' es.length c'] ∧ Reads W W.heap.size 1 A ns.length (nmVals ns) ∧ Row W W.heap.size 11 A' es.length L ∧ ExsAt W B es L ∧
    (∀ ad, A = some ad → 0 < ns.length → ¬ Y ad.block) ∧ (∀ ad, A' = some ad → 0 < es.length → ¬ Y ad.block)

theorem wpListIn_append_any {n : Nat} {P : Program} (w : World) {ops : Array Oper} {rest : List Oper} {o : Oper} {a : Act} {Q : Exit → Act → World → Prop} (hgd : o.guard = none) (s x : Operand) (t : TypeId)
    (ho : o.op = .call { callee := .builtin .append, args := #[s, x], argTypes := #[t, t] })
    (base : Nat) (e : TypeId) (i : TypeInfo) (z : Value) (size bytes : Nat) (ht : P.underlying t = some (.slice e)) (hi : P.info? e = some i) (hz : i.zero = some z)
    (hsize : i.size = size) (hby : i.bytes = bytes) (hzs : z.cells.size = size) (hsz : 0 < size)
    (v : Value) (m0 : Nat) (xs : List Value) (hs : a.eval s = v) (hown : w.ownsRow base e size v m0 xs)
    (B : Nat) (A : Option Addr) (m c : Nat) (news : List Value) (hx : a.eval x = .slice A m c) (hr : Reads w B size A m news) (h1 : ∀ u ∈ news, u.oneCell' = true)
    (h63 : m0 + m ≤ maxLen) (hbytes : (m0 + m) * bytes ≤ 140737488355328) (hbase : base ≤ w.heap.size)
    (h : ∀ v' w', w'.ownsRow base e size v' (m0 + m) (xs ++ news) → w.grownBy w' v.ownBlock → (v'.ownBlock = v.ownBlock ∨ v'.ownBlock = some w.heap.size) → wpListIn Fence.wide n P ops Q rest (a.put o.dst v') w') : wpListIn Fence.wide n P ops Q (o :: rest) a w := by
  refine wpListIn_plain hgd fun K hK' => ?_
  obtain ⟨v', w', hrun, h2, h3, h4⟩ := run_append_any (P := P) w base t o.type e i z size bytes ht hi hz hsize hby hzs hsz v m0 xs hown B A m c news hr h1 h63 hbytes hbase
  unfold Oper.wpIn
  refine ⟨fun _ _ => trivial, ?_⟩
  rw [Oper.semAt_plain Fence.wide _ _ (by rw [ho]; intro c hc'; cases hc')]
  simp [execOp, ho, resolve, invoke, builtin, hs, hx, hrun, Result.andThen]
  exact hK' _ _ (h v' w' h2 h3 h4)

theorem own_shape_ex {w : World} {base : Nat} {v : Value} {n : Nat} {xs : List Value} (h : w.ownsRow base 29 11 v n xs) : ∃ (A : Option Addr) (c : Nat), v = .slice A n c ∧ Reads w w.heap.size 11 A n xs := by
  have hr := h.2
  rcases hr with ⟨rfl, h0⟩ | ⟨g, cap, cur, rfl, _⟩
  · subst h0
    have : xs = [] := List.eq_nil_of_length_eq_zero (by have := h.1; simpa using this)
    subst this
    exact ⟨none, 0, rfl, Reads.none_⟩
  · exact ⟨_, cap, rfl, Reads.of_own h⟩
theorem own_ad {w : World} {base size n : Nat} {e : TypeId} {A : Option Addr} {m c : Nat} {xs : List Value} (h : w.ownsRow base e size (.slice A m c) n xs) : ∀ ad, A = some ad → base ≤ ad.block := by
  rintro ad rfl
  rcases h.2 with ⟨h1, _⟩ | ⟨g, cap, cur, h1, hb, _⟩
  · cases h1
  · injection h1 with h1
    injection h1 with h1
    subst h1
    exact hb

theorem scRd_mk {e : Ex} {B kk n m c c' : Nat} {Y : Nat → Prop} {W : World} {ns : List ByteArray} {es : List Ex} {A A' : Option Addr} {L : List (List Value)} (hsc : e.scL[kk]? = some (ns, es)) (hn : ns.length = n) (hm : es.length = m)
    (h1 : Reads W W.heap.size 1 A n (nmVals ns)) (hx : ExsAt W B es L) (h2 : Reads W W.heap.size 11 A' m L.flatten) (ha : ∀ ad, A = some ad → 0 < n → ¬ Y ad.block) (ha' : ∀ ad, A' = some ad → 0 < m → ¬ Y ad.block) :
    ScRd e B Y kk #[.slice A n c, .slice A' m c'] W := by
  subst hn; subst hm
  exact ⟨ns, es, A, c, A', c', L, hsc, rfl, h1, ⟨hx.len, hx.each, h2⟩, hx, ha, ha'⟩
theorem reads_old {w : World} {B size n : Nat} {A : Option Addr} {xs : List Value} {Y : Nat → Prop} (h : Reads w B size A n xs) (hY : ∀ b, Y b → B ≤ b) : ∀ ad, A = some ad → 0 < n → ¬ Y ad.block := by
  intro ad ha hn
  obtain ⟨ad', e, hb, _⟩ := h.2 hn
  rw [ha] at e
  injection e with e
  subst e
  intro hy
  have := hY _ hy
  omega
theorem reads_chg {X : Nat → Prop} {w w' : World} {size n : Nat} {A : Option Addr} {xs : List Value} (h : Reads w w.heap.size size A n xs) (hs : ∀ ad, A = some ad → 0 < n → ¬ X ad.block) (hc : Chg X w w') : Reads w' w'.heap.size size A n xs :=
  ⟨h.1, fun hn => by
    obtain ⟨ad, e, hb, hcell⟩ := h.2 hn
    exact ⟨ad, e, Nat.lt_of_lt_of_le hb hc.size, fun j u hu => (hc.cell (p := ad.add j) (by rw [block_of_add]; exact hb) (by rw [block_of_add]; exact hs ad e hn)).trans (hcell j u hu)⟩⟩
theorem safe_later {X : World → Nat → Prop} {w w' : World} {size n : Nat} {A : Option Addr} {xs : List Value} (h : Reads w w.heap.size size A n xs) (hs : ∀ ad, A = some ad → 0 < n → ¬ X w ad.block) (hc : ChD X w w') : ∀ ad, A = some ad → 0 < n → ¬ X w' ad.block := by
  intro ad ha hn
  obtain ⟨ad', e, hb, _⟩ := h.2 hn
  rw [ha] at e
  injection e with e
  subst e
  exact hc.out hb (hs _ ha hn)
theorem exs_chg {X : Nat → Prop} {w w' : World} {B : Nat} {es : List Ex} {L : List (List Value)} (h : ExsAt w B es L) (hB : B ≤ w.heap.size) (hX : ∀ k, X k → B ≤ k) (hc : Chg X w w') : ExsAt w' B es L := h.later (hc.below hB hX)
/-- A round, as the walk meets it. -/
theorem yld_in {P : Program} {l m : Nat} {f : FuncId} {tmps : Array Value} {assign body : Code} {w : World} {R : Ending → World → Prop} (h : ∀ m, RoundIn Fence.wide m P l f tmps assign body w R) : RoundIn Fence.wide m P l f tmps assign body w R := h m

set_option maxHeartbeats 6400000 in
theorem scopes_iter (e : Ex) (B b : Nat) (W : World) (cs : List Value) (hN : e.mass ≤ 4000000) (hB : B ≤ W.heap.size) (hx : ExAt W B cs e) (hbox : Blk W b 29 cs.toArray) :
    Iter Try.prog 70 #[.pointer (some ⟨b, 0, none⟩)] (fun k => k < B ∨ k = b) e.scL.length (ScRd e B) W := by
  intro l X J hS hX hJ hY h0
  cases hx with
  | @mk k n q nm t T A Aa Ab c ca cb ks als bs L La Lb hk hs hn hq ht hc hm hca hma hcb hmb hb hba hbb hr hks hra hals hrb hbs =>
  cases ht with
  | @mk tk tn tnm tA tc tks tL htk hts htn htc htm htb htr htks =>
  unfold Ex.mass at hN
  obtain ⟨e0, he0⟩ : ∃ e0, Ex.mk k nm n (.mk tk tnm tn tks) ks als bs q = e0 := ⟨_, rfl⟩
  obtain ⟨hd, hhd⟩ : ∃ hd, scHead k nm n ks bs = hd := ⟨_, rfl⟩
  have hsc : e0.scL = hd ++ als.map fun a => (ptNames a.pat, [a.exp]) := by rw [← he0, ← hhd]; rfl
  have hscl : e0.scL.length = hd.length + als.length := by rw [hsc]; simp
  rw [he0] at hY ⊢
  have hml := bds_len_mass bs
  have hmk := exs_len_mass ks
  have hma2 := als_len_mass als
  obtain ⟨tl, htl⟩ : ∃ tl, tks.length = tl := ⟨_, rfl⟩
  obtain ⟨kl, hkl⟩ : ∃ kl, ks.length = kl := ⟨_, rfl⟩
  obtain ⟨al, hal⟩ : ∃ al, als.length = al := ⟨_, rfl⟩
  obtain ⟨bl, hbl⟩ : ∃ bl, bs.length = bl := ⟨_, rfl⟩
  have CS := Lib.hid (psplit_any bs Ab Lb cb B bl W hB hbl (by omega) ⟨hrb, hbs⟩)
  have HK := Lib.hid hkl
  have HA := Lib.hid hal
  have HBL := Lib.hid hbl
  simp only [List.cons_append, List.nil_append] at hbox
  rw [htl, hkl, hal, hbl] at hbox
  rw [hkl] at hr
  have hbN : ∀ i A, J i A → ¬ X A b := fun i A h hb => (hX i A h b hb).2 (.inr rfl)
  have HS := Lib.hid hS
  have hbB : b < W.heap.size := hbox.lt
  have HRK := Lib.hid hr
  have HKE := Lib.hid (show ExsAt W B ks L from ⟨by rw [hr.len, hkl], hr.each, hks⟩)
  have HRA := Lib.hid hra
  have HEA := Lib.hid hals
  have HBD := Lib.hid (BdsAt.mk hrb hbs)
  have HX := Lib.hid hX
  have HJ := Lib.hid hJ
  have HY := Lib.hid hY
  have H0 := Lib.hid h0
  have HBOX := Lib.hid hbox
  have HSC := Lib.hid hsc
  have HHD := Lib.hid hhd
  have HSL := Lib.hid hscl
  clear hr hks hra hals hrb hbs htr htks hb hba hbb htb hX hJ hY h0 hsc hhd he0 hkl hal hbl htl
  rw [hscl]
  have hc9 := hbox.cell 9
  have hc0 := hbox.cell 0
  have hc7 := hbox.cell 7
  have hc1 := hbox.cell 1
  have hc2 := hbox.cell 2
  simp only [List.getElem?_toArray, List.getElem?_cons_succ, List.getElem?_cons_zero] at hc0 hc7 hc1 hc2 hc9
  refine (callsIn_wide (n := 10)).1 (callsIn_of_wp Try.func70 rfl trivial (wpIn_wide.2 ?_) rfl)
  simp only [Try.ntmps70, List.size_toArray, List.length_cons, List.length_nil, Nat.reduceAdd, Nat.reduceSub, Array.replicate_succ, Array.replicate_zero, List.push_toArray, List.append_toArray, List.nil_append, List.cons_append]
  go_upto_block 0 with (go_at_call 71; refine CS.out.mono ?_; rintro e w2 ⟨v1, v2, Lb2, rfl, hown1, hown2, hexs2, hbe2⟩)
  obtain ⟨A1, c1, rfl, hr1⟩ := own_shape hown1
  obtain ⟨A2, c2, rfl, hr2⟩ := own_shape_ex hown2
  rw [HBL.out] at hown1 hown2 hr1 hr2 ⊢
  have hbx2 := HBOX.out.below hbe2 hbB
  have hd0 := hbx2.cell 0
  have hd1 := hbx2.cell 1
  have hd2 := hbx2.cell 2
  have hd7 := hbx2.cell 7
  simp only [List.getElem?_toArray, List.getElem?_cons_succ, List.getElem?_cons_zero] at hd0 hd1 hd2 hd7
  have HO1 := Lib.hid hown1
  have HO2 := Lib.hid hown2
  have HR1 := Lib.hid hr1
  have HR2 := Lib.hid hr2
  have HE2 := Lib.hid hexs2
  have HB2 := Lib.hid hbe2
  have hXW : ∀ i, X W i → i < W.heap.size := fun i hi => (HX.out 0 W H0.out i hi).1
  have hX2 : ∀ i, X w2 i → i < W.heap.size := fun i hi => hXW i (HS.out W w2 (Kep.of_below hbe2 hXW) i hi)
  have HXW := Lib.hid hXW
  have HX2 := Lib.hid hX2
  have HJ2 := Lib.hid (HJ.out 0 W w2 H0.out (Kep.of_below hbe2 hXW))
  have HC2 := Lib.hid (show ChD X W w2 from ChD.own HS.out hXW hbe2)
  have HKE2 := Lib.hid (HKE.out.later (hbe2.mono hB))
  have HRK2 := Lib.hid (HRK.out.later (hbe2.mono hB))
  have hz2 := hbe2.size
  have HN1 := Lib.hid (show (bs.map Bd.name).length = bl by rw [List.length_map]; exact HBL.out)
  have HN2 := Lib.hid (show (bs.map Bd.exp).length = bl by rw [List.length_map]; exact HBL.out)
  have HOA1 := Lib.hid (show ∀ ad, A1 = some ad → 0 < bl → ¬ X w2 ad.block from fun ad e _ h => by have h1 := own_ad hown1 ad e; have h2 := hX2 _ h; omega)
  have HOA2 := Lib.hid (show ∀ ad, A2 = some ad → 0 < bl → ¬ X w2 ad.block from fun ad e _ h => by have h1 := own_ad hown2 ad e; have h2 := hX2 _ h; omega)
  clear hXW hX2 hown1 hown2 hr1 hr2 hexs2 hbe2 hbx2 hc0 hc1 hc2 hc7 hc9
  have HXB := Lib.hid (show ∀ i A, J i A → ∀ k, X A k → B ≤ k from fun i A hj k h => by have := (HX.out i A hj k h).2; omega)
  obtain ⟨i1, hj1, hy0, hy1, hy2⟩ := info_parts ex_info
  have HI := Lib.hid hj1
  have HZ0 := Lib.hid hy0
  have HZ1 := Lib.hid hy1
  have HZ2 := Lib.hid hy2
  have HSL := Lib.hid hscl
  have hab : bl + kl ≤ 4000000 := by have := HBL.out; have := HK.out; omega
  clear hj1 hy0 hy1 hy2 hscl hml hmk hma2
  go_cut [5] (fun v wx => v = .bool true ∧ J hd.length wx ∧ ChD X W wx)
  case first =>
    by_cases h7 : k = 7
    · by_cases h1 : n = 1
      · have d7 : (k == 7) = true := by simpa using h7
        have d1 : (n == 1) = true := by simpa using h1
        have HH := Lib.hid (show hd = [(bs.map Bd.name, bs.map Bd.exp ++ ks)] by rw [← HHD.out]; unfold scHead; rw [if_pos h7, if_pos h1])
        have HLH := Lib.hid (show hd.length = 1 by rw [HH.out]; rfl)
        have HLEN := Lib.hid (show e0.scL.length = 1 + als.length by rw [HSL.out, HLH.out])
        clear h7 h1
        go_upto_region 4 with fail
        refine (wpIn_wide (n := 10)).1 ?_
        gi_wp2_with (gi_at_builtin; refine wpListIn_append_any _ rfl (.tmp 33) (.tmp 35) 25 rfl W.heap.size 29 i1 (.agg #[.int .i64 0, .string ⟨#[]⟩, .int .i64 0, .int .i64 0, .string ⟨#[]⟩, .int .i64 0, .slice none 0 0, .slice none 0 0, .slice none 0 0, .slice none 0 0, .int .i64 0]) 11 168 Try.underlying25 HI.out HZ0.out HZ1.out HZ2.out rfl (by decide) _ bl Lb2.flatten rfl HO2.out B A kl c L.flatten rfl HRK2.out.reads (exs_oneCell HKE2.out) (by unfold maxLen; omega) (by omega) hz2 ?_)
        intro v3 w3 hown3 hg3 _
        obtain ⟨A3, c3, rfl, hr3⟩ := own_shape_ex hown3
        have hb3 : Below W.heap.size w2 w3 := (Below.refl _ _).grown hg3 hz2 (own_base HO2.out)
        have hk3 : Kep (X w2) w2 w3 := Kep.of_below hb3 HX2.out
        have hX3 : ∀ i, X w3 i → X w2 i := HS.out w2 w3 hk3
        have hch : ChD X W w3 := ⟨Chg.of_old (HB2.out.trans hb3), fun i hi h => HC2.out.sub i hi (hX3 i h)⟩
        obtain ⟨fn, tmps, assign, body, hy, hR⟩ := HY.out 0 w3 #[.slice A1 bl c1, .slice A3 (bl + kl) c3] (by rw [HLEN.out]; omega) (HJ.out 0 w2 w3 HJ2.out hk3) hch
          (scRd_mk (ns := bs.map Bd.name) (es := bs.map Bd.exp ++ ks) (L := Lb2 ++ L) (by rw [HSC.out, HH.out]; rfl) HN1.out (by rw [List.length_append, HN2.out, HK.out])
            (Reads.of_own ((HO1.out).kept hg3 (own_ne HO1.out HO2.out (by decide)))) ((HE2.out.later (hb3.mono hB)).app (HKE2.out.later (hb3.mono hB))) (by simpa using hr3) (fun ad e h hx => HOA1.out ad e h (hX3 _ hx)) (fun ad e _ hx => by have h1 := own_ad hown3 ad e; have h2 := HX2.out _ (hX3 _ hx); omega))
        clear hown3 hg3 hr3 hb3 hk3 hX3
        gi_wp2_with ((with_reducible refine (yld_in hR).mono ?_); clear hR hy; rintro e W5 ⟨rfl, hc5, hj5⟩)
        have HF := Lib.hid (show J hd.length W5 ∧ ChD X W W5 from ⟨by rw [HLH.out]; exact hj5, hch.trans hc5⟩)
        clear hj5 hc5 hch
        go_wp2_with fail
        go_meet
        exact ⟨rfl, HF.out.1, HF.out.2⟩
      · have d7 : (k == 7) = true := by simpa using h7
        have d1 : (n == 1) = false := by simpa using h1
        have HH := Lib.hid (show hd = [([], bs.map Bd.exp), (bs.map Bd.name, ks)] by rw [← HHD.out]; unfold scHead; rw [if_pos h7, if_neg h1])
        have HLH := Lib.hid (show hd.length = 2 by rw [HH.out]; rfl)
        have HLEN := Lib.hid (show e0.scL.length = 2 + als.length by rw [HSL.out, HLH.out])
        clear h7 h1
        go_upto_region 6 with fail
        refine (wpIn_wide (n := 10)).1 ?_
        skip
        obtain ⟨fn, tmps, assign, body, hy, hR⟩ := HY.out 0 w2 #[.slice none 0 0, .slice A2 bl c2] (by rw [HLEN.out]; omega) HJ2.out HC2.out (scRd_mk (ns := []) (es := bs.map Bd.exp) (L := Lb2) (by rw [HSC.out, HH.out]; rfl) rfl HN2.out Reads.none_ HE2.out HR2.out (fun ad e h => absurd h (by omega)) HOA2.out)
        gi_wp2_with (first
          | ((with_reducible refine (yld_in hR).mono ?_); clear hR hy; rintro e W4 ⟨rfl, hc4, hj4⟩; have hf7 := (hc4.chg.cell (p := ⟨b, 7, none⟩) (by show b < _; omega) (hbN 0 _ HJ2.out)).trans hd7; obtain ⟨fn, tmps, assign, body, hy, hR⟩ := HY.out 1 W4 #[.slice A1 bl c1, .slice A kl c] (by rw [HLEN.out]; omega) hj4 (HC2.out.trans hc4) (scRd_mk (ns := bs.map Bd.name) (es := ks) (L := L) (by rw [HSC.out, HH.out]; rfl) HN1.out HK.out (reads_chg HR1.out HOA1.out hc4.chg) (exs_chg HKE2.out (Nat.le_trans hB hz2) (HXB.out 0 w2 HJ2.out) hc4.chg) (((HRK2.out.reads.below (hc4.below (Nat.le_trans hB hz2) (HXB.out 0 w2 HJ2.out))).more (Nat.le_trans (Nat.le_trans hB hz2) hc4.size))) (safe_later HR1.out HOA1.out hc4) (reads_old HRK2.out.reads (HXB.out 1 W4 hj4))))
          | ((with_reducible refine (yld_in hR).mono ?_); clear hR hy; rintro e W5 ⟨rfl, hc5, hj5⟩))
        have HF := Lib.hid (show J hd.length W5 ∧ ChD X W W5 from ⟨by rw [HLH.out]; exact hj5, (HC2.out.trans hc4).trans hc5⟩)
        clear hj5 hc5 hc4 hj4 hf7
        go_wp2_with fail
        go_meet
        exact ⟨rfl, HF.out.1, HF.out.2⟩
    · by_cases h6 : k = 6
      · have d7 : (k == 7) = false := by simpa using h7
        have d6 : (k == 6) = true := by simpa using h6
        have HH := Lib.hid (show hd = [([nm], ks), ([], bs.map Bd.exp)] by rw [← HHD.out]; unfold scHead; rw [if_neg h7, if_pos h6])
        have HLH := Lib.hid (show hd.length = 2 by rw [HH.out]; rfl)
        have HLEN := Lib.hid (show e0.scL.length = 2 + als.length by rw [HSL.out, HLH.out])
        clear h7 h6
        go_upto_region 8 with fail
        refine (wpIn_wide (n := 10)).1 ?_
        have hal : Below w2.heap.size w2 (w2.alloc (.cells #[.string nm] 9)) := (Below.refl _ _).alloc (Nat.le_refl _) _
        have hb2w : ∀ i, X w2 i → i < w2.heap.size := fun i hi => Nat.lt_of_lt_of_le (HX2.out i hi) hz2
        have hka : Kep (X w2) w2 (w2.alloc (.cells #[.string nm] 9)) := Kep.of_below hal hb2w
        have hXa : ∀ i, X (w2.alloc (.cells #[.string nm] 9)) i → X w2 i := HS.out _ _ hka
        have hja := HJ.out 0 w2 _ HJ2.out hka
        have hch : ChD X W (w2.alloc (.cells #[.string nm] 9)) := HC2.out.trans (ChD.own HS.out hb2w hal)
        have hd7' := (hal.cell (p := ⟨b, 7, none⟩) (by show b < _; omega)).trans hd7
        have hz3 := hal.size
        obtain ⟨fn, tmps, assign, body, hy, hR⟩ := HY.out 0 (w2.alloc (.cells #[.string nm] 9)) #[.slice (some ⟨w2.heap.size, 0, none⟩) 1 1, .slice A kl c] (by rw [HLEN.out]; omega) hja hch (scRd_mk (ns := [nm]) (es := ks) (L := L) (by rw [HSC.out, HH.out]; rfl) rfl HK.out ⟨rfl, fun _ => ⟨_, rfl, by simp, one_new _ _ _⟩⟩ (HKE2.out.later (hal.mono (Nat.le_trans hB hz2))) ((HRK2.out.reads.below (hal.mono (Nat.le_trans hB hz2))).more (Nat.le_trans (Nat.le_trans hB hz2) hz3)) (fun ad e _ hx => by cases e; have := HX2.out _ (hXa _ hx); simp at this; omega) (reads_old HRK2.out.reads (HXB.out 0 _ hja)))
        gi_wp2_with (first
          | ((with_reducible refine (yld_in hR).mono ?_); clear hR hy; rintro e W4 ⟨rfl, hc4, hj4⟩; have hf7 := (hc4.chg.cell (p := ⟨b, 7, none⟩) (by show b < _; omega) (hbN 0 _ hja)).trans hd7'; obtain ⟨fn, tmps, assign, body, hy, hR⟩ := HY.out 1 W4 #[.slice none 0 0, .slice A2 bl c2] (by rw [HLEN.out]; omega) hj4 (hch.trans hc4) (scRd_mk (ns := []) (es := bs.map Bd.exp) (L := Lb2) (by rw [HSC.out, HH.out]; rfl) rfl HN2.out Reads.none_ (exs_chg (HE2.out.later (hal.mono (Nat.le_trans hB hz2))) (Nat.le_trans (Nat.le_trans hB hz2) hz3) (HXB.out 0 _ hja) hc4.chg) (reads_chg ((HR2.out.below hal).more hz3) (fun ad e h hx => HOA2.out ad e h (hXa _ hx)) hc4.chg) (fun ad e h => absurd h (by omega)) (safe_later ((HR2.out.below hal).more hz3) (fun ad e h hx => HOA2.out ad e h (hXa _ hx)) hc4)))
          | ((with_reducible refine (yld_in hR).mono ?_); clear hR hy; rintro e W5 ⟨rfl, hc5, hj5⟩))
        have HF := Lib.hid (show J hd.length W5 ∧ ChD X W W5 from ⟨by rw [HLH.out]; exact hj5, (hch.trans hc4).trans hc5⟩)
        clear hj5 hc5 hc4 hj4 hf7
        go_wp2_with fail
        go_meet
        exact ⟨rfl, HF.out.1, HF.out.2⟩
      · have d7 : (k == 7) = false := by simpa using h7
        have d6 : (k == 6) = false := by simpa using h6
        have HH := Lib.hid (show hd = [([], ks), ([], bs.map Bd.exp)] by rw [← HHD.out]; unfold scHead; rw [if_neg h7, if_neg h6])
        have HLH := Lib.hid (show hd.length = 2 by rw [HH.out]; rfl)
        have HLEN := Lib.hid (show e0.scL.length = 2 + als.length by rw [HSL.out, HLH.out])
        clear h7 h6
        go_upto_region 2 with fail
        refine (wpIn_wide (n := 10)).1 ?_
        skip
        obtain ⟨fn, tmps, assign, body, hy, hR⟩ := HY.out 0 w2 #[.slice none 0 0, .slice A kl c] (by rw [HLEN.out]; omega) HJ2.out HC2.out (scRd_mk (ns := []) (es := ks) (L := L) (by rw [HSC.out, HH.out]; rfl) rfl HK.out Reads.none_ HKE2.out (HRK2.out.reads.more (Nat.le_trans hB hz2)) (fun ad e h => absurd h (by omega)) (reads_old HRK2.out.reads (HXB.out 0 w2 HJ2.out)))
        gi_wp2_with (first
          | ((with_reducible refine (yld_in hR).mono ?_); clear hR hy; rintro e W4 ⟨rfl, hc4, hj4⟩; have hf7 := (hc4.chg.cell (p := ⟨b, 7, none⟩) (by show b < _; omega) (hbN 0 _ HJ2.out)).trans hd7; obtain ⟨fn, tmps, assign, body, hy, hR⟩ := HY.out 1 W4 #[.slice none 0 0, .slice A2 bl c2] (by rw [HLEN.out]; omega) hj4 (HC2.out.trans hc4) (scRd_mk (ns := []) (es := bs.map Bd.exp) (L := Lb2) (by rw [HSC.out, HH.out]; rfl) rfl HN2.out Reads.none_ (exs_chg HE2.out (Nat.le_trans hB hz2) (HXB.out 0 w2 HJ2.out) hc4.chg) (reads_chg HR2.out HOA2.out hc4.chg) (fun ad e h => absurd h (by omega)) (safe_later HR2.out HOA2.out hc4)))
          | ((with_reducible refine (yld_in hR).mono ?_); clear hR hy; rintro e W5 ⟨rfl, hc5, hj5⟩))
        have HF := Lib.hid (show J hd.length W5 ∧ ChD X W W5 from ⟨by rw [HLH.out]; exact hj5, (HC2.out.trans hc4).trans hc5⟩)
        clear hj5 hc5 hc4 hj4 hf7
        go_wp2_with fail
        go_meet
        exact ⟨rfl, HF.out.1, HF.out.2⟩
  case rest =>
    obtain ⟨rfl, hjw, hcw⟩ := hcut
    have hal9 : al ≤ 4000000 := by have := HA.out; have := als_len_mass als; omega
    have HJW := Lib.hid hjw
    have HCW := Lib.hid hcw
    clear hjw hcw hd0 hd1 hd2 hd7
    go_wp2_with fail
    go_loopw [5, 6] (fun v i wr => v = .bool true ∧ ∃ j : Nat, i = .int .i64 j ∧ j ≤ al ∧ J (hd.length + j) wr ∧ ChD X W wr) (fun _ i _ => al - (intOf i).toNat)
    case atStart => exact ⟨rfl, 0, rfl, Nat.zero_le _, HJW.out, HCW.out⟩
    case round =>
      obtain ⟨rfl, j, rfl, hj, hjr, hcr⟩ := hrel
      have hbr : Blk wr b 29 _ := (hcr.chg.block b hbB (hbN 0 W H0.out)).trans HBOX.out
      have hc8 := hbr.cell 8
      simp only [List.getElem?_toArray, List.getElem?_cons_succ, List.getElem?_cons_zero] at hc8
      have hbl8 := hbr.lt
      have HJR := Lib.hid hjr
      have HCR := Lib.hid hcr
      clear hbr hjr hcr
      by_cases hlt : j < al
      · have hjk : j < als.length := by rw [HA.out]; exact hlt
        have hbelB := HCR.out.below hB (HXB.out 0 W H0.out)
        have hrow := HRA.out.later hbelB
        have hl : j < La.length := by rw [hrow.len]; exact hjk
        have hea := HEA.out j hl hjk
        obtain ⟨g, o, p0, p1, p2, p3, p4, c0, c1, c2, c3, c4, c5, c6, c7, c8, c9, c10, p', e', rfl, hg, hel, hp, he, u0, u1, u2, u3, u4, k0, k1, k2, k3, k4, k5, k6, k7, k8, k9, k10⟩ := al_cells hrow hjk hl (AlAt.later hea hbelB)
        obtain ⟨pk, pn, pq, pnm, pA, pc, pks, rfl, rfl, rfl, rfl, rfl, hpe⟩ := pt_shape hp
        obtain ⟨pl, hpl⟩ : ∃ pl, pks.length = pl := ⟨_, rfl⟩
        rw [hpl] at hp u3
        obtain ⟨xn, xtk, xtn, xq, xnm, xtnm, xtA, xA, xAa, xAb, xtl, xtc, xkl, xc, xal, xca, xbl, xcb, rfl, rfl, rfl, rfl, rfl, rfl, rfl, rfl, rfl, rfl, rfl⟩ := ex_shape he
        generalize e'.kind = ek at *
        have hBr : B ≤ wr.heap.size := Nat.le_trans hB HCR.out.size
        have hpn : p'.nodes ≤ 4000000 := by have h1 := als_mem_mass als als[j] (List.getElem_mem hjk); rw [hel] at h1; simp only [Al.pat] at h1; omega
        have HSC1 := Lib.hid (show e0.scL[hd.length + j]? = some (ptNames p', [e']) by
          rw [HSC.out, List.getElem?_append_right (by omega), Nat.add_sub_cancel_left, List.getElem?_map, List.getElem?_eq_getElem hjk, hel]; rfl)
        have HLT := Lib.hid (show hd.length + j < e0.scL.length by rw [HSL.out]; omega)
        have HLTJ := Lib.hid (show j + 1 ≤ al by omega)
        obtain ⟨nn, hnn⟩ : ∃ nn, ptNames p' = nn := ⟨_, rfl⟩
        have HP := Lib.hid hp
        have HNN := Lib.hid hnn
        have HE := Lib.hid he
        have hXr : ∀ i, X wr i → i < wr.heap.size := fun i hi => (HX.out _ wr HJR.out i hi).1
        have hgX : ¬ X wr g := fun hx => by have := HXB.out _ wr HJR.out g hx; omega
        have hbX : ¬ X wr b := hbN _ wr HJR.out
        have hOWN := Lib.hid (show ∀ B, Below wr.heap.size wr B → ChD X wr B from fun B h => ChD.own HS.out hXr h)
        have hXB6 := HXB.out _ wr HJR.out
        have hSS : ∀ w', ChD X wr w' → (w'.cell? ⟨b, 8, none⟩ = some (.slice (some ⟨g, o, none⟩) al ca) ∧ w'.cell? ⟨g, o + j * 16, none⟩ = some (.int .i64 pk) ∧ w'.cell? ⟨g, o + j * 16 + 1, none⟩ = some (.string pnm) ∧ w'.cell? ⟨g, o + j * 16 + 2, none⟩ = some (.int .i64 pn) ∧ w'.cell? ⟨g, o + j * 16 + 3, none⟩ = some (.slice pA pl pc) ∧ w'.cell? ⟨g, o + j * 16 + 4, none⟩ = some (.int .i64 pq) ∧ w'.cell? ⟨g, o + j * 16 + 5, none⟩ = some (.int .i64 ek) ∧ w'.cell? ⟨g, o + j * 16 + 5 + 1, none⟩ = some (.string xnm) ∧ w'.cell? ⟨g, o + j * 16 + 5 + 2, none⟩ = some (.int .i64 xn) ∧ w'.cell? ⟨g, o + j * 16 + 5 + 3, none⟩ = some (.int .i64 xtk) ∧ w'.cell? ⟨g, o + j * 16 + 5 + 4, none⟩ = some (.string xtnm) ∧ w'.cell? ⟨g, o + j * 16 + 5 + 5, none⟩ = some (.int .i64 xtn) ∧ w'.cell? ⟨g, o + j * 16 + 5 + 6, none⟩ = some (.slice xtA xtl xtc) ∧ w'.cell? ⟨g, o + j * 16 + 5 + 7, none⟩ = some (.slice xA xkl xc) ∧ w'.cell? ⟨g, o + j * 16 + 5 + 8, none⟩ = some (.slice xAa xal xca) ∧ w'.cell? ⟨g, o + j * 16 + 5 + 9, none⟩ = some (.slice xAb xbl xcb) ∧ w'.cell? ⟨g, o + j * 16 + 5 + 10, none⟩ = some (.int .i64 xq)) := fun w' h => ⟨(h.chg.cell (p := ⟨b, 8, none⟩) hbl8 hbX).trans hc8, (h.chg.cell (p := ⟨g, _, none⟩) (by show g < _; omega) hgX).trans u0, (h.chg.cell (p := ⟨g, _, none⟩) (by show g < _; omega) hgX).trans u1, (h.chg.cell (p := ⟨g, _, none⟩) (by show g < _; omega) hgX).trans u2, (h.chg.cell (p := ⟨g, _, none⟩) (by show g < _; omega) hgX).trans u3, (h.chg.cell (p := ⟨g, _, none⟩) (by show g < _; omega) hgX).trans u4, (h.chg.cell (p := ⟨g, _, none⟩) (by show g < _; omega) hgX).trans k0, (h.chg.cell (p := ⟨g, _, none⟩) (by show g < _; omega) hgX).trans k1, (h.chg.cell (p := ⟨g, _, none⟩) (by show g < _; omega) hgX).trans k2, (h.chg.cell (p := ⟨g, _, none⟩) (by show g < _; omega) hgX).trans k3, (h.chg.cell (p := ⟨g, _, none⟩) (by show g < _; omega) hgX).trans k4, (h.chg.cell (p := ⟨g, _, none⟩) (by show g < _; omega) hgX).trans k5, (h.chg.cell (p := ⟨g, _, none⟩) (by show g < _; omega) hgX).trans k6, (h.chg.cell (p := ⟨g, _, none⟩) (by show g < _; omega) hgX).trans k7, (h.chg.cell (p := ⟨g, _, none⟩) (by show g < _; omega) hgX).trans k8, (h.chg.cell (p := ⟨g, _, none⟩) (by show g < _; omega) hgX).trans k9, (h.chg.cell (p := ⟨g, _, none⟩) (by show g < _; omega) hgX).trans k10⟩
        clear hnn hea hel hp he hrow hpl hpe hbelB k0 k1 k2 k3 k4 k5 k6 k7 k8 k9 k10 u0 u1 u2 u3 u4
        go_upto_region 12 with fail
        refine (wpIn_wide (n := 10)).1 ?_
        have hS0 : ChD X wr wr.drew := hOWN.out _ (Below.refl _ _).drew
        refine region_S (by kernel_rfl) (fun w' => ChD X wr w') ?_
        refine anyS_take (i := 0) (v := .func (.yield l) #[] #[]) rfl (by kernel_rfl) (by kernel_rfl) (by kernel_rfl) (fun _ _ _ h => h) (Or.inl ⟨by rfl, fun w' hS' => by have hQ := hSS w' hS'; obtain ⟨hk8, q0, q1, q2, q3, q4, r0, r1, r2, r3, r4, r5, r6, r7, r8, r9, r10⟩ := hQ; go_simp⟩) hS0 ?_
        simp only [Act.put, List.setIfInBounds_toArray, List.set_cons_zero, List.set_cons_succ]
        refine anyS_take (i := 1) (v := .pointer (some ⟨b, 8, none⟩)) rfl (by kernel_rfl) (by kernel_rfl) (by kernel_rfl) (fun _ _ _ h => h) (Or.inl ⟨by rfl, fun w' hS' => by have hQ := hSS w' hS'; obtain ⟨hk8, q0, q1, q2, q3, q4, r0, r1, r2, r3, r4, r5, r6, r7, r8, r9, r10⟩ := hQ; go_simp⟩) hS0 ?_
        simp only [Act.put, List.setIfInBounds_toArray, List.set_cons_zero, List.set_cons_succ]
        refine anyS_take (i := 2) (v := .slice (some ⟨g, o, none⟩) al ca) rfl (by kernel_rfl) (by kernel_rfl) (by kernel_rfl) (fun _ _ _ h => h) (Or.inl ⟨by rfl, fun w' hS' => by have hQ := hSS w' hS'; obtain ⟨hk8, q0, q1, q2, q3, q4, r0, r1, r2, r3, r4, r5, r6, r7, r8, r9, r10⟩ := hQ; go_simp⟩) hS0 ?_
        simp only [Act.put, List.setIfInBounds_toArray, List.set_cons_zero, List.set_cons_succ]
        refine anyS_take (i := 3) (v := .int .i64 j) rfl (by kernel_rfl) (by kernel_rfl) (by kernel_rfl) (fun _ _ _ h => h) (Or.inl ⟨by rfl, fun w' hS' => by have hQ := hSS w' hS'; obtain ⟨hk8, q0, q1, q2, q3, q4, r0, r1, r2, r3, r4, r5, r6, r7, r8, r9, r10⟩ := hQ; go_simp⟩) hS0 ?_
        simp only [Act.put, List.setIfInBounds_toArray, List.set_cons_zero, List.set_cons_succ]
        refine anyS_take (i := 4) (v := .pointer (some ⟨g, o + j * 16, none⟩)) rfl (by kernel_rfl) (by kernel_rfl) (by kernel_rfl) (fun _ _ _ h => h) (Or.inl ⟨by rfl, fun w' hS' => by have hQ := hSS w' hS'; obtain ⟨hk8, q0, q1, q2, q3, q4, r0, r1, r2, r3, r4, r5, r6, r7, r8, r9, r10⟩ := hQ; go_simp⟩) hS0 ?_
        simp only [Act.put, List.setIfInBounds_toArray, List.set_cons_zero, List.set_cons_succ]
        refine anyS_take (i := 5) (v := .pointer (some ⟨g, o + j * 16, none⟩)) rfl (by kernel_rfl) (by kernel_rfl) (by kernel_rfl) (fun _ _ _ h => h) (Or.inl ⟨by rfl, fun w' hS' => by have hQ := hSS w' hS'; obtain ⟨hk8, q0, q1, q2, q3, q4, r0, r1, r2, r3, r4, r5, r6, r7, r8, r9, r10⟩ := hQ; go_simp⟩) hS0 ?_
        simp only [Act.put, List.setIfInBounds_toArray, List.set_cons_zero, List.set_cons_succ]
        refine anyS_take (i := 6) (v := .agg #[.int .i64 pk, .string pnm, .int .i64 pn, .slice pA pl pc, .int .i64 pq]) rfl (by kernel_rfl) (by kernel_rfl) (by kernel_rfl) (fun _ _ _ h => h) (Or.inl ⟨by rfl, fun w' hS' => by have hQ := hSS w' hS'; obtain ⟨hk8, q0, q1, q2, q3, q4, r0, r1, r2, r3, r4, r5, r6, r7, r8, r9, r10⟩ := hQ; go_simp⟩) hS0 ?_
        simp only [Act.put, List.setIfInBounds_toArray, List.set_cons_zero, List.set_cons_succ]
        refine anyS_take (i := 8) (v := .pointer (some ⟨b, 8, none⟩)) rfl (by kernel_rfl) (by kernel_rfl) (by kernel_rfl) (fun _ _ _ h => h) (Or.inl ⟨by rfl, fun w' hS' => by have hQ := hSS w' hS'; obtain ⟨hk8, q0, q1, q2, q3, q4, r0, r1, r2, r3, r4, r5, r6, r7, r8, r9, r10⟩ := hQ; go_simp⟩) hS0 ?_
        simp only [Act.put, List.setIfInBounds_toArray, List.set_cons_zero, List.set_cons_succ]
        refine anyS_take (i := 9) (v := .slice (some ⟨g, o, none⟩) al ca) rfl (by kernel_rfl) (by kernel_rfl) (by kernel_rfl) (fun _ _ _ h => h) (Or.inl ⟨by rfl, fun w' hS' => by have hQ := hSS w' hS'; obtain ⟨hk8, q0, q1, q2, q3, q4, r0, r1, r2, r3, r4, r5, r6, r7, r8, r9, r10⟩ := hQ; go_simp⟩) hS0 ?_
        simp only [Act.put, List.setIfInBounds_toArray, List.set_cons_zero, List.set_cons_succ]
        refine anyS_take (i := 10) (v := .int .i64 j) rfl (by kernel_rfl) (by kernel_rfl) (by kernel_rfl) (fun _ _ _ h => h) (Or.inl ⟨by rfl, fun w' hS' => by have hQ := hSS w' hS'; obtain ⟨hk8, q0, q1, q2, q3, q4, r0, r1, r2, r3, r4, r5, r6, r7, r8, r9, r10⟩ := hQ; go_simp⟩) hS0 ?_
        simp only [Act.put, List.setIfInBounds_toArray, List.set_cons_zero, List.set_cons_succ]
        refine anyS_take (i := 11) (v := .pointer (some ⟨g, o + j * 16, none⟩)) rfl (by kernel_rfl) (by kernel_rfl) (by kernel_rfl) (fun _ _ _ h => h) (Or.inl ⟨by rfl, fun w' hS' => by have hQ := hSS w' hS'; obtain ⟨hk8, q0, q1, q2, q3, q4, r0, r1, r2, r3, r4, r5, r6, r7, r8, r9, r10⟩ := hQ; go_simp⟩) hS0 ?_
        simp only [Act.put, List.setIfInBounds_toArray, List.set_cons_zero, List.set_cons_succ]
        refine anyS_take (i := 12) (v := .pointer (some ⟨g, o + j * 16 + 5, none⟩)) rfl (by kernel_rfl) (by kernel_rfl) (by kernel_rfl) (fun _ _ _ h => h) (Or.inl ⟨by rfl, fun w' hS' => by have hQ := hSS w' hS'; obtain ⟨hk8, q0, q1, q2, q3, q4, r0, r1, r2, r3, r4, r5, r6, r7, r8, r9, r10⟩ := hQ; go_simp⟩) hS0 ?_
        simp only [Act.put, List.setIfInBounds_toArray, List.set_cons_zero, List.set_cons_succ]
        refine anyS_take (i := 13) (v := .agg #[.int .i64 ek, .string xnm, .int .i64 xn, .int .i64 xtk, .string xtnm, .int .i64 xtn, .slice xtA xtl xtc, .slice xA xkl xc, .slice xAa xal xca, .slice xAb xbl xcb, .int .i64 xq]) rfl (by kernel_rfl) (by kernel_rfl) (by kernel_rfl) (fun _ _ _ h => h) (Or.inl ⟨by rfl, fun w' hS' => by have hQ := hSS w' hS'; obtain ⟨hk8, q0, q1, q2, q3, q4, r0, r1, r2, r3, r4, r5, r6, r7, r8, r9, r10⟩ := hQ; go_simp⟩) hS0 ?_
        simp only [Act.put, List.setIfInBounds_toArray, List.set_cons_zero, List.set_cons_succ]
        have CP := Lib.hid (fun (w' : World) (h : ChD X wr w') => pnames_any p' B w' [.int .i64 pk, .string pnm, .int .i64 pn, .slice pA pl pc, .int .i64 pq] hpn (Nat.le_trans hBr h.size) (HP.out.later (h.below hBr hXB6)))
        refine anyS_all (rs := [7, 14]) (by kernel_rfl) (by simp) ?_
        intro i hi
        simp only [List.mem_cons, List.not_mem_nil, or_false] at hi
        rcases hi with rfl | rfl
        · refine anyS_step (i := 7) rfl (by rfl) ?_
          go_simp
          refine (callsIn_wide.2 (CP.out wr.drew hS0)).mono ?_
          rintro e5 w5 ⟨v5, rfl, hown5, hb5⟩
          obtain ⟨A5, c5, rfl, hr5⟩ := own_shape hown5
          rw [HNN.out] at hown5 hr5 ⊢
          have hb5' : Below wr.heap.size wr w5 := (Below.refl _ _).drew.trans hb5
          refine ⟨hOWN.out _ hb5', ?_⟩
          refine anyS_all (rs := [14]) (by kernel_rfl) (by simp) ?_
          intro i hi
          simp only [List.mem_cons, List.not_mem_nil, or_false] at hi
          subst hi
          refine anyS_step (i := 14) rfl (by rfl) ?_
          go_simp
          have hal : Below w5.heap.size w5 (w5.alloc (.cells #[.int .i64 ek, .string xnm, .int .i64 xn, .int .i64 xtk, .string xtnm, .int .i64 xtn, .slice xtA xtl xtc, .slice xA xkl xc, .slice xAa xal xca, .slice xAb xbl xcb, .int .i64 xq] 29)) := (Below.refl _ _).alloc (Nat.le_refl _) _
          have hb6 : Below wr.heap.size wr (w5.alloc (.cells #[.int .i64 ek, .string xnm, .int .i64 xn, .int .i64 xtk, .string xtnm, .int .i64 xtn, .slice xtA xtl xtc, .slice xA xkl xc, .slice xAa xal xca, .slice xAb xbl xcb, .int .i64 xq] 29)) := hb5'.trans (hal.mono hb5'.size)
          refine ⟨hOWN.out _ hb6, ?_⟩
          have hX6 : ∀ i, X (w5.alloc (.cells #[.int .i64 ek, .string xnm, .int .i64 xn, .int .i64 xtk, .string xtnm, .int .i64 xtn, .slice xtA xtl xtc, .slice xA xkl xc, .slice xAa xal xca, .slice xAb xbl xcb, .int .i64 xq] 29)) i → i < wr.heap.size := fun i hi => hXr i (HS.out wr _ (Kep.of_below hb6 hXr) i hi)
          have hrd : ScRd e0 B (X (w5.alloc (.cells #[.int .i64 ek, .string xnm, .int .i64 xn, .int .i64 xtk, .string xtnm, .int .i64 xtn, .slice xtA xtl xtc, .slice xA xkl xc, .slice xAa xal xca, .slice xAb xbl xcb, .int .i64 xq] 29))) (hd.length + j) #[.slice A5 nn.length c5, .slice (some ⟨w5.heap.size, 0, none⟩) 1 1] (w5.alloc (.cells #[.int .i64 ek, .string xnm, .int .i64 xn, .int .i64 xtk, .string xtnm, .int .i64 xtn, .slice xtA xtl xtc, .slice xA xkl xc, .slice xAa xal xca, .slice xAb xbl xcb, .int .i64 xq] 29)) :=
            scRd_mk (ns := nn) (es := [e']) (L := [[.int .i64 ek, .string xnm, .int .i64 xn, .int .i64 xtk, .string xtnm, .int .i64 xtn, .slice xtA xtl xtc, .slice xA xkl xc, .slice xAa xal xca, .slice xAb xbl xcb, .int .i64 xq]]) (by rw [HSC1.out, HNN.out]) rfl rfl ((hr5.below hal).more hal.size) (ExsAt.one (HE.out.later (hb6.mono hBr)))
              ⟨rfl, fun _ => ⟨_, rfl, by simp, by simpa using eleven_new w5 [.int .i64 ek, .string xnm, .int .i64 xn, .int .i64 xtk, .string xtnm, .int .i64 xtn, .slice xtA xtl xtc, .slice xA xkl xc, .slice xAa xal xca, .slice xAb xbl xcb, .int .i64 xq]⟩⟩ (fun ad e _ hx => by have h1 := own_ad hown5 ad e; have h2 := hX6 _ hx; simp at h1; omega) (fun ad e _ hx => by cases e; have h2 := hX6 _ hx; have h3 := hb5'.size; simp at h2; omega)
          clear hown5 hr5 hb5 hb5' hal
          refine anyS_all (rs := [15]) (by kernel_rfl) (by simp) ?_
          intro i hi
          simp only [List.mem_cons, List.not_mem_nil, or_false] at hi
          subst hi
          refine anyS_step (i := 15) rfl (by rfl) ?_
          obtain ⟨fn, tmps, assign, body, hy, hR⟩ := HY.out (hd.length + j) _ #[.slice A5 nn.length c5, .slice (some ⟨w5.heap.size, 0, none⟩) 1 1] HLT.out (HJ.out _ _ _ HJR.out (Kep.of_below hb6 hXr)) (HCR.out.trans (hOWN.out _ hb6)) hrd
          go_simp
          refine (yld_in hR).mono ?_
          rintro e7 W7 ⟨rfl, hc7, hj7⟩
          have HF := Lib.hid (show J (hd.length + (j + 1)) W7 ∧ ChD X W W7 from ⟨hj7, (HCR.out.trans (hOWN.out _ hb6)).trans hc7⟩)
          have hS7 : ChD X wr W7 := (hOWN.out _ hb6).trans hc7
          clear hy hR hj7 hrd
          refine ⟨hS7, ?_⟩
          refine anyS_all (rs := [16]) (by kernel_rfl) (by simp) ?_
          intro i hi
          simp only [List.mem_cons, List.not_mem_nil, or_false] at hi
          subst hi
          refine anyS_step (i := 16) rfl (by rfl) ?_
          go_simp
          refine ⟨by kernel_rfl, ?_⟩
          clear hS7 hc7 hb6 hSS hS0
          go_wp2_with fail
          go_roundw
          case rel => exact ⟨rfl, j + 1, by go_num, HLTJ.out, HF.out.1, HF.out.2⟩
          case measure => have := HLTJ.out; simp [intOf]; omega
        · refine anyS_step (i := 14) rfl (by rfl) ?_
          go_simp
          have hal : Below wr.heap.size wr ((wr.alloc (.cells #[.int .i64 ek, .string xnm, .int .i64 xn, .int .i64 xtk, .string xtnm, .int .i64 xtn, .slice xtA xtl xtc, .slice xA xkl xc, .slice xAa xal xca, .slice xAb xbl xcb, .int .i64 xq] 29)).drew) := ((Below.refl _ _).alloc (Nat.le_refl _) _).drew
          refine ⟨hOWN.out _ hal, ?_⟩
          refine anyS_all (rs := [7]) (by kernel_rfl) (by simp) ?_
          intro i hi
          simp only [List.mem_cons, List.not_mem_nil, or_false] at hi
          subst hi
          refine anyS_step (i := 7) rfl (by rfl) ?_
          go_simp
          refine (callsIn_wide.2 (CP.out _ (hOWN.out _ hal))).mono ?_
          rintro e5 w5 ⟨v5, rfl, hown5, hb5⟩
          obtain ⟨A5, c5, rfl, hr5⟩ := own_shape hown5
          rw [HNN.out] at hown5 hr5 ⊢
          have hb6 : Below wr.heap.size wr w5 := hal.trans (hb5.mono hal.size)
          refine ⟨hOWN.out _ hb6, ?_⟩
          have hX6 : ∀ i, X w5 i → i < wr.heap.size := fun i hi => hXr i (HS.out wr _ (Kep.of_below hb6 hXr) i hi)
          have hrd : ScRd e0 B (X w5) (hd.length + j) #[.slice A5 nn.length c5, .slice (some ⟨wr.heap.size, 0, none⟩) 1 1] w5 :=
            scRd_mk (ns := nn) (es := [e']) (L := [[.int .i64 ek, .string xnm, .int .i64 xn, .int .i64 xtk, .string xtnm, .int .i64 xtn, .slice xtA xtl xtc, .slice xA xkl xc, .slice xAa xal xca, .slice xAb xbl xcb, .int .i64 xq]]) (by rw [HSC1.out, HNN.out]) rfl rfl hr5 (ExsAt.one (HE.out.later (hb6.mono hBr)))
              ⟨rfl, fun _ => ⟨_, rfl, Nat.lt_of_lt_of_le (by simp) hb5.size, fun jj u hu => (hb5.cell (p := (⟨wr.heap.size, 0, none⟩ : Addr).add jj) (by rw [block_of_add]; simp)).trans ((show _ from eleven_new wr [.int .i64 ek, .string xnm, .int .i64 xn, .int .i64 xtk, .string xtnm, .int .i64 xtn, .slice xtA xtl xtc, .slice xA xkl xc, .slice xAa xal xca, .slice xAb xbl xcb, .int .i64 xq] jj u (by simpa using hu)))⟩⟩ (fun ad e _ hx => by have h1 := own_ad hown5 ad e; have h2 := hX6 _ hx; have h3 := hal.size; omega) (fun ad e _ hx => by cases e; have h2 := hX6 _ hx; simp at h2)
          clear hown5 hr5 hb5 hal
          refine anyS_all (rs := [15]) (by kernel_rfl) (by simp) ?_
          intro i hi
          simp only [List.mem_cons, List.not_mem_nil, or_false] at hi
          subst hi
          refine anyS_step (i := 15) rfl (by rfl) ?_
          obtain ⟨fn, tmps, assign, body, hy, hR⟩ := HY.out (hd.length + j) _ #[.slice A5 nn.length c5, .slice (some ⟨wr.heap.size, 0, none⟩) 1 1] HLT.out (HJ.out _ _ _ HJR.out (Kep.of_below hb6 hXr)) (HCR.out.trans (hOWN.out _ hb6)) hrd
          go_simp
          refine (yld_in hR).mono ?_
          rintro e7 W7 ⟨rfl, hc7, hj7⟩
          have HF := Lib.hid (show J (hd.length + (j + 1)) W7 ∧ ChD X W W7 from ⟨hj7, (HCR.out.trans (hOWN.out _ hb6)).trans hc7⟩)
          have hS7 : ChD X wr W7 := (hOWN.out _ hb6).trans hc7
          clear hy hR hj7 hrd
          refine ⟨hS7, ?_⟩
          refine anyS_all (rs := [16]) (by kernel_rfl) (by simp) ?_
          intro i hi
          simp only [List.mem_cons, List.not_mem_nil, or_false] at hi
          subst hi
          refine anyS_step (i := 16) rfl (by rfl) ?_
          go_simp
          refine ⟨by kernel_rfl, ?_⟩
          clear hS7 hc7 hb6 hSS hS0
          go_wp2_with fail
          go_roundw
          case rel => exact ⟨rfl, j + 1, by go_num, HLTJ.out, HF.out.1, HF.out.2⟩
          case measure => have := HLTJ.out; simp [intOf]; omega
      · obtain rfl : j = al := by omega
        have HF := Lib.hid (show (∃ v, Ending.returned (.tuple #[]) = .returned v) ∧ ChD X W wr ∧ J (hd.length + als.length) wr from ⟨⟨_, rfl⟩, HCR.out, by rw [HA.out]; exact HJR.out⟩)
        go_wp2_with fail
        go_end0
        exact HF.out

end Go.Proofs.Ytglamoiimmahgaa
