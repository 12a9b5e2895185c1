/- Walks: a function, read to its end. -/
import Derived.Test.YtiiddmioafhmoaaDoorPlamb
namespace Go.Proofs.YtiiddmioafhmoaaDoor
open Go.RowKit
set_option linter.unusedVariables false
set_option linter.unusedSimpArgs false
set_option maxRecDepth 100000
attribute [local go_sem] Oper.semAt_some

def lamX (R K D : Nat) : Nat → Bool := exX (exX (exX (lowX (R + 1)) K) D) (D + 1)
theorem lamX_no {R K D i : Nat} (h1 : R < i) (h2 : i ≠ K) (h3 : i ≠ D) (h4 : i ≠ D + 1) : lamX R K D i = false := exX_no (exX_no (exX_no (lowX_no (by omega)) h2) h3) h4
theorem lamX_K (R K D : Nat) : lamX R K D K = true := by unfold lamX; simp only [exX_iff]; exact .inl (.inl (.inr trivial))
/-- Rounds that have been made: what lies in the variable's block K is a function of the last k names. -/
def LamJ (ns : List Tk) (x : Ex) (R K : Nat) (w8 : World) (k : Nat) (A : World) : Prop :=
  Chg (· = K) w8 A ∧ ∃ cs : List Value, Blk A K 32 cs.toArray ∧ rEx.M (lamX R K w8.heap.size) A cs (lamsE (ns.drop (ns.length - k)) x)
theorem chg_more {K : Nat} {w A B : World} {l : Nat} (h : Chg (· = K) w A) (hl : w.heap.size ≤ l) (hp : Chg (fun i => i = K ∨ i = l) A B) : Chg (· = K) w B :=
  ((h.mono (Y := fun i => i = K ∨ i = l) fun i _ hi => .inl hi).trans hp).mono fun i h1 hi => hi.elim id fun e => by omega
theorem lam_put {ns : List Tk} {x : Ex} {R K : Nat} {w8 : World} (hK : K < w8.heap.size) (k : Nat) (A : World) (o : Obj) (h : LamJ ns x R K w8 k A) : LamJ ns x R K w8 k (A.putObj (w8.heap.size + 1) o) := by
  obtain ⟨hc, cs, hb, hm⟩ := h
  have hp := putObj_chg A (w8.heap.size + 1) o
  exact ⟨chg_more hc (l := w8.heap.size + 1) (by omega) (hp.mono fun i _ hi => .inr hi), cs, (hp.block K hb.lt (by omega)).trans hb, hm.later (hp.mono fun i _ hi => by subst hi; exact exX_self _ _)⟩
theorem PsAt.keepC {X : Nat → Prop} {W W' : World} {pb lv : Nat} {ts : List Tk} (h : PsAt W pb ts lv) (hc : Chg X W W') (hX : ∀ k, X k → pb < k) : PsAt W' pb ts lv := by
  obtain ⟨A, cap, h1, h2, h3, h4⟩ := h.ex
  have hlt := h1.lt
  exact ⟨A, cap, (hc.block _ hlt (fun hx => by have := hX _ hx; omega)).trans h1, h2, h3, h4.keep fun p hp => hc.cell (by omega) (fun hx => by have := hX _ hx; omega)⟩
theorem lams_step {ns : List Tk} {k : Nat} {t : Tk} {x : Ex} (h : ns.reverse[k]? = some t) : lamsE (ns.drop (ns.length - (k + 1))) x = exK 6 (bytesOf t) 0 [lamsE (ns.drop (ns.length - k)) x] t.pos := by
  obtain ⟨hk, ht⟩ := List.getElem?_eq_some_iff.1 h
  rw [List.length_reverse] at hk
  rw [List.getElem_reverse] at ht
  rw [List.drop_eq_getElem_cons (by omega : ns.length - (k + 1) < ns.length), lamsE, show ns.length - (k + 1) + 1 = ns.length - k by omega]
  rw [show ns[ns.length - (k + 1)] = t by rw [← ht]; congr 1; omega]

set_option maxHeartbeats 12800000 in
theorem lam_ok (E : Nat → List Tk → Res Ex) (HE : LvOk rEx 11 7 E) (q : Nat) (hq : q ≤ 60000) (pb lv : Nat) (t : Tk) (tl : List Tk) (W : World) (h : PsAt W pb (t :: tl) lv) (hf : Fine (t :: tl)) (hlv : lv ≤ 300) (hk : t.kind = 1) (x : Ex) (ts2 : List Tk) (hr : .ok x ts2 = lamR E lv (([⟨t.kind, t.text, t.num, q⟩] : List Tk) ++ tl.takeWhile isLowB) (tl.dropWhile isLowB)) :
    Calls Tryd.prog 29 #[.pointer (some ⟨pb, 0, none⟩), .int .i64 (q : Int)] W (PaPost pb lv 11 rEx (.ok x ts2) W) := by
  obtain ⟨i0, hi, hz0, hz1, hz2⟩ := info_parts tk_info'
  have HI := Lib.hid hi
  have HZ0 := Lib.hid hz0
  have HZ1 := Lib.hid hz1
  have HZ2 := Lib.hid hz2
  clear hi hz0 hz1 hz2
  obtain ⟨W1, hW1⟩ : ∃ W1, W.alloc (.cells #[.int .i64 0, .string ⟨#[]⟩, .int .i64 0, .int .i64 0, .string ⟨#[]⟩, .int .i64 0, .slice none 0 0, .slice none 0 0, .slice none 0 0, .slice none 0 0, .int .i64 0] 32) = W1 := ⟨_, rfl⟩
  have hnew : Below W.heap.size W W1 := by rw [← hW1]; exact (Below.refl _ _).alloc (Nat.le_refl _) _
  have hres : Blk W1 W.heap.size 32 #[.int .i64 0, .string ⟨#[]⟩, .int .i64 0, .int .i64 0, .string ⟨#[]⟩, .int .i64 0, .slice none 0 0, .slice none 0 0, .slice none 0 0, .slice none 0 0, .int .i64 0] := by rw [← hW1]; exact Blk.new _ _ _
  have hs1 := h.later hnew
  have hlt := h.lt
  have hsz : W1.heap.size = W.heap.size + 1 := by rw [← hW1]; simp
  have HW1 := Lib.hid hW1
  have HN := Lib.hid hnew
  have HRS := Lib.hid hres
  have HS1 := Lib.hid hs1
  have HSZ := Lib.hid hsz
  have hp1 : Par pb W1 W1 := Chg.refl _ _
  clear hW1 hnew hres hs1 hsz h
  have hgood := hf.good t (by simp)
  have HG := Lib.hid (show t.text.length ≤ 60000 ∧ t.pos ≤ 60000 from ⟨hgood.1, hgood.2.2⟩)
  have hflen := hf.len
  rw [List.length_cons] at hflen
  have HF1 := Lib.hid (hf.tail_ (by omega : t.kind ≠ 0))
  have HRT := Lib.hid (show restT (t :: tl) = tl by simp [restT, hk])
  have CK := Lib.hid (needKind_yes pb lv t tl 1 W1 HS1.out hk)
  rw [HRT.out] at CK
  have HR := Lib.hid hr
  have HEE := Lib.hid HE
  clear hf hr HE hgood hk HS1
  refine (callsIn_wide (n := 10)).1 (callsIn_of_wp_marks Tryd.func29 rfl trivial (wpIn_wide.2 ?_) rfl)
  simp only [Tryd.ntmps29, List.size_toArray, List.length_cons, List.length_nil, Nat.reduceAdd, Nat.reduceSub, Array.replicate_succ, Array.replicate_zero, List.push_toArray, List.append_toArray, List.nil_append, List.cons_append]
  go_upto_region 1 with fail
  rw [HW1.out]
  go_upto_region 2 with (go_at_call 10; (with_reducible refine CK.out.mono ?_); rintro e w2 ⟨rfl, hp2, hsw2⟩; rw [tk_cells]; dsimp only)
  obtain ⟨w3, hw3⟩ : ∃ w3, w2.alloc (.cells #[.int .i64 t.kind, .string ⟨t.text.toArray⟩, .int .i64 t.num, .int .i64 t.pos] 52) = w3 := ⟨_, rfl⟩
  have hn3 : Below w2.heap.size w2 w3 := by rw [← hw3]; exact below_new' _ _
  have hx3 : Blk w3 w2.heap.size 52 #[.int .i64 t.kind, .string ⟨t.text.toArray⟩, .int .i64 t.num, .int .i64 t.pos] := by rw [← hw3]; exact Blk.new _ _ _
  rw [hw3]
  clear hw3
  obtain ⟨g3, hg3⟩ : ∃ g3, w2.heap.size = g3 := ⟨_, rfl⟩
  have hsz := HSZ.out
  have hzp2 := hp2.size
  have hl2 := hsw2.lt
  have m3 := hx3.cell 3
  simp only [List.getElem?_toArray, List.getElem?_cons_succ, List.getElem?_cons_zero] at m3
  have n3 := hx3.frozen 3
  have hps3 := hsw2.later hn3
  have hpw3 : Par pb W1 w3 := hp2.trans (Par.of_below (pb := pb) hn3)
  rw [hg3] at hx3 m3 n3 hzp2 hl2 ⊢
  clear hsw2 hn3 hp2
  obtain ⟨w4, hw4⟩ : ∃ w4, w3.setCell ⟨g3, 3, none⟩ (.int .i64 q) = w4 := ⟨_, rfl⟩
  have hx4 : Blk w4 g3 52 #[.int .i64 t.kind, .string ⟨t.text.toArray⟩, .int .i64 t.num, .int .i64 q] := by rw [← hw4]; simpa using hx3.set_ 3 (.int .i64 q)
  have hpw4 : Par pb W1 w4 := by rw [← hw4]; exact hpw3.set_ (p := ⟨g3, 3, none⟩) (.inr (by show W1.heap.size ≤ g3; omega)) _
  have hps4 : PsAt w4 pb tl lv := by rw [← hw4]; exact hps3.far_ (by show pb < g3; omega) _
  go_wp2_with fail
  try rw [hw4]
  clear hw4 hx3 m3 n3 hps3 hpw3
  have HOW := Lib.hid (show w4.ownsRow (W.heap.size + 1) 52 4 (.slice (some ⟨g3, 0, none⟩) 1 1) 1 (tksCells [⟨t.kind, t.text, t.num, q⟩]) from own_of_blk (n := 1) (by simpa [tksCells, tkCells] using hx4) (by omega) rfl (by simp [maxLen]))
  have HPW4 := Lib.hid hpw4
  have HPS4 := Lib.hid hps4
  clear hx4 hpw4 hps4
  go_loopw [5] (fun v wr => ∃ (acc ts' : List Tk) (A : Option Addr) (c : Nat), v = .slice A acc.length c ∧ Res.ok x ts2 = lamR E lv (acc ++ ts'.takeWhile isLowB) (ts'.dropWhile isLowB) ∧ wr.ownsRow (W.heap.size + 1) 52 4 v acc.length (tksCells acc) ∧ GoodN acc ∧ 1 ≤ acc.length ∧ acc.length + ts'.length ≤ 60001 ∧ Par pb W1 wr ∧ PsAt wr pb ts' lv ∧ Fine ts') (fun v _ => 60001 - sliceLen v)
  case atStart => exact ⟨[⟨t.kind, t.text, t.num, q⟩], tl, _, 1, rfl, HR.out, HOW.out, fun u hu => by simp only [List.mem_cons, List.not_mem_nil, or_false] at hu; subst hu; exact ⟨HG.out.1, hq⟩, by simp, by simp; omega, HPW4.out, HPS4.out, HF1.out⟩
  case round =>
    obtain ⟨acc, ts', A, c, rfl, hrr, hown, hga, hac, hsum, hpar, hps, hfi⟩ := hrel
    obtain ⟨u, tu, rfl⟩ := hfi.ne
    rw [List.length_cons] at hsum
    have hgu := hfi.good u (by simp)
    have hwz : W1.heap.size ≤ wr.heap.size := hpar.size
    have hltp := hps.lt
    have hsz := HSZ.out
    have HGU := Lib.hid (show u.text.length ≤ 60000 ∧ u.pos ≤ 60000 from ⟨hgu.1, hgu.2.2⟩)
    have HPAR := Lib.hid hpar
    have HPS := Lib.hid hps
    have HFI := Lib.hid hfi
    have HR2 := Lib.hid hrr
    have HOWN := Lib.hid hown
    have HGA := Lib.hid hga
    obtain ⟨n, hn⟩ : ∃ n, acc.length = n := ⟨_, rfl⟩
    have HN2 := Lib.hid hn
    have hown' := hown
    rw [hn] at hown' hac hsum ⊢
    have HO2 := Lib.hid hown'
    clear hrr hpar hps hfi hga hown hown' hn hgu
    have CS := Lib.hid (seesLow_any pb lv u tu wr HPS.out)
    by_cases hu : u.kind = 1
    · have hlow := lowh_yes (tu := tu) hu
      have d1 : (u.kind == 1) = true := by simp [hu]
      have HRU := Lib.hid (show restT (u :: tu) = tu by simp [restT, hu])
      have HFU := Lib.hid (HFI.out.tail_ (by omega : u.kind ≠ 0))
      have CT := Lib.hid (fun W2 (hs : PsAt W2 pb (u :: tu) lv) => take_any pb lv u tu W2 hs)
      rw [d1] at CS
      rw [HRU.out] at CT
      have HR3 := Lib.hid (show Res.ok x ts2 = lamR E lv ((acc ++ [u]) ++ tu.takeWhile isLowB) (tu.dropWhile isLowB) by rw [HR2.out, hlow.1, hlow.2]; simp)
      clear hu hlow d1
      go_wp2_with (first | (go_at_call 46; (with_reducible refine CS.out.mono ?_); rintro e wa ⟨rfl, hba⟩; (have hsa := HPS.out.later hba)) | (go_at_call 18; (with_reducible refine (CT.out _ hsa).mono ?_); rintro e wb ⟨rfl, hpb', hsb⟩; rw [tk_cells]; dsimp only; (have hownb := own_par ((own_par HO2.out (Par.of_below (pb := pb) hba) (by omega))) hpb' (by omega)); (have hzb := hpb'.size); (have hza := hba.size)) | (at_builtin; refine wpList_append_own _ rfl _ _ 43 rfl (W.heap.size + 1) 52 i0 (.agg #[.int .i64 0, .string ⟨#[]⟩, .int .i64 0, .int .i64 0]) 4 40 Tryd.underlying43 HI.out HZ0.out HZ1.out HZ2.out rfl (by decide) _ _ _ rfl (hownb.alloc _) ⟨wb.heap.size, 0, none⟩ 1 1 [.int .i64 u.kind, .string ⟨u.text.toArray⟩, .int .i64 u.num, .int .i64 u.pos] rfl rfl ?c1 ?c2 ?c3 ?c4 ?c5 ?_))
      case c1 => exact new_cells wb [.int .i64 u.kind, .string ⟨u.text.toArray⟩, .int .i64 u.num, .int .i64 u.pos]
      case c2 => intro v hv; simp at hv; rcases hv with rfl | rfl | rfl | rfl <;> rfl
      case c3 => unfold maxLen; omega
      case c4 => omega
      case c5 => simp; omega
      intro v' w5 hown5 hgrow5 _
      obtain ⟨A5, k5, rfl, _, _, _⟩ := own_form hown5
      have HO5 := Lib.hid hown5
      have hbn := below_new' wb (.cells #[.int .i64 u.kind, .string ⟨u.text.toArray⟩, .int .i64 u.num, .int .i64 u.pos] 52)
      have HP5 := Lib.hid (Par.grown (((HPAR.out.trans (Par.of_below hba)).trans hpb').trans (Par.of_below hbn)) hgrow5 (fun k hk => by have := (HO2.out.lt k hk).1; omega))
      have HS5 := Lib.hid ((hsb.later hbn).grown hgrow5 (fun k hk => by have := (HO2.out.lt k hk).1; omega))
      clear hown5 hgrow5 hbn hsb hpb' hownb hba hsa
      go_wp2
      go_roundw
      case rel =>
        have hl : (acc ++ [u]).length = n + 1 := by simp [HN2.out]
        refine ⟨acc ++ [u], tu, A5, k5, by rw [hl], HR3.out, ?_, fun x hx => ?_, by rw [hl]; omega, by rw [hl]; omega, HP5.out, HS5.out, HFU.out⟩
        · have := HO5.out
          rw [hl, ← tks_snoc]; exact this
        · rcases List.mem_append.1 hx with hx | hx
          · exact HGA.out x hx
          · simp only [List.mem_cons, List.not_mem_nil, or_false] at hx; subst hx; exact HGU.out
      case measure => simp [sliceLen]; omega
    · have hlow := lowh_no (tu := tu) hu
      have d1 : (u.kind == 1) = false := by simp [hu]
      rw [d1] at CS
      have HR3 := Lib.hid (show Res.ok x ts2 = lamR E lv acc (u :: tu) by rw [HR2.out, hlow.1, hlow.2]; simp)
      clear hu hlow d1
      cases hb : seesB u sArrow with
      | false => have := HR3.out; simp [lamR, needP, seesH_cons, hb, Res.andThen] at this
      | true =>
        cases hA : E lv tu with
        | out => have := HR3.out; simp [lamR, needP, seesH_cons, hb, hA, Res.andThen] at this
        | bad c1 p1 => have := HR3.out; simp [lamR, needP, seesH_cons, hb, hA, Res.andThen] at this
        | ok y ts3 =>
          have CN := Lib.hid (fun W2 (hs : PsAt W2 pb (u :: tu) lv) => need_yes pb lv u tu sArrow W2 hs hb)
          have HFU := Lib.hid (HFI.out.tail_ (seesB_kind hb))
          obtain ⟨rfl, rfl⟩ : x = lamsE acc y ∧ ts2 = ts3 := by have := HR3.out; simpa [lamR, needP, seesH_cons, hb, hA, Res.andThen] using this
          have CE := Lib.hid (fun W2 (hs : PsAt W2 pb tu lv) => HEE.out pb lv tu W2 hs HFU.out hlv _ hA (by simp))
          clear hb hA
          obtain ⟨A0, k0, e0, hck, hcm, hlies⟩ := own_form HO2.out
          obtain ⟨gA, hgA, hgl, hgu⟩ := hlies (by omega)
          injection e0 with e1 e2 e3
          subst e1; subst hgA; subst e3
          clear e2 hlies
          go_upto_region 7 with (first | (go_at_call 46; (with_reducible refine CS.out.mono ?_); rintro e wa ⟨rfl, hba⟩; (have hsa := HPS.out.later hba)) | (go_at_call 47; (with_reducible refine (CN.out _ hsa).mono ?_); rintro e wn ⟨rfl, hpn, hsn⟩) | (go_at_call 7; (with_reducible refine (CE.out _ hsn).mono ?_); rintro e' w6 ⟨hp6, ⟨cs, hlen, rfl, hty⟩, hsw6, hf6⟩; (obtain ⟨x0, x1, x2, x3, x4, x5, x6, x7, x8, x9, x10, rfl⟩ := eleven_of hlen); (have s0 := store_one' x0 (ex_ones' hty x0 (by simp))); (have s1 := store_one' x1 (ex_ones' hty x1 (by simp))); (have s2 := store_one' x2 (ex_ones' hty x2 (by simp))); (have s3 := store_one' x3 (ex_ones' hty x3 (by simp))); (have s4 := store_one' x4 (ex_ones' hty x4 (by simp))); (have s5 := store_one' x5 (ex_ones' hty x5 (by simp))); (have s6 := store_one' x6 (ex_ones' hty x6 (by simp))); (have s7 := store_one' x7 (ex_ones' hty x7 (by simp))); (have s8 := store_one' x8 (ex_ones' hty x8 (by simp))); (have s9 := store_one' x9 (ex_ones' hty x9 (by simp))); (have s10 := store_one' x10 (ex_ones' hty x10 (by simp)))))
          obtain ⟨w7, hw7⟩ : ∃ w7, w6.alloc (.cells #[x0, x1, x2, x3, x4, x5, x6, x7, x8, x9, x10] 32) = w7 := ⟨_, rfl⟩
          have hn7 : Below w6.heap.size w6 w7 := by rw [← hw7]; exact below_new' _ _
          have hx7 : Blk w7 w6.heap.size 32 #[x0, x1, x2, x3, x4, x5, x6, x7, x8, x9, x10] := by rw [← hw7]; exact Blk.new _ _ _
          have hz7 : w7.heap.size = w6.heap.size + 1 := by rw [← hw7]; simp
          rw [hw7]
          clear hw7
          obtain ⟨K, hK⟩ : ∃ K, w6.heap.size = K := ⟨_, rfl⟩
          have hza := hba.size
          have hzn := hpn.size
          have hz6 := hp6.size
          have hlt6 := hsw6.lt
          have hpw7 : Par pb W1 w7 := HPAR.out.trans ((Par.of_below hba).trans (hpn.trans (hp6.trans (Par.of_below hn7))))
          have hty7 : rEx.M (exX (lowX (W.heap.size + 1)) K) w7 [x0, x1, x2, x3, x4, x5, x6, x7, x8, x9, x10] y := ((hty.wk (B' := W.heap.size + 1) (by omega)).to_exX (by omega)).later (Low.of_below hn7)
          have hps7 := hsw6.later hn7
          have hown7 := own_par HO2.out ((Par.of_below (pb := pb) hba).trans (hpn.trans (hp6.trans (Par.of_below hn7)))) (by omega)
          rw [hK] at hx7 hz7 hz6 hlt6
          clear hty hsw6 hn7 hp6 hpn hba hsa hsn
          go_wp2_with (go_at_call 48; refine (backward_any _ _ _ _).mono ?_; rintro e' w8' ⟨rfl, rfl⟩)
          obtain ⟨w8, hw8⟩ : ∃ w8, w7.alloc (.cells #[.slice (some ⟨gA, 0, none⟩) n c] 43) = w8 := ⟨_, rfl⟩
          have hn8 : Below w7.heap.size w7 w8 := by rw [← hw8]; exact below_new' _ _
          have hx8 : Blk w8 w7.heap.size 43 #[.slice (some ⟨gA, 0, none⟩) n c] := by rw [← hw8]; exact Blk.new _ _ _
          have hz8 : w8.heap.size = K + 2 := by rw [← hw8]; simp; omega
          rw [hw8]
          clear hw8
          rw [hz7] at hx8
          try rw [hz7]
          have hK8 := hx7.below hn8 hx7.lt
          have hty8 : rEx.M (lamX W.heap.size K w8.heap.size) w8 [x0, x1, x2, x3, x4, x5, x6, x7, x8, x9, x10] y := ((hty7.later (Low.of_below hn8)).to_exX (Nat.le_refl _)).to_exX (by omega)
          have hown8 := own_par hown7 (Par.of_below (pb := pb) hn8) (by omega)
          have HPW8 := Lib.hid (hpw7.trans (Par.of_below (pb := pb) hn8))
          have HPS8 := Lib.hid (hps7.later hn8)
          have HOW8 := Lib.hid hown8
          have HX8 := Lib.hid hx8
          have HK8 := Lib.hid hK8
          have HTY8 := Lib.hid hty8
          have hnn := HN2.out
          subst hnn
          clear hpw7 hty7 hps7 hown7 hn8 hx8 hK8 hty8 hown8 hx7
          refine range0 (gf := 64) (lb := #[.pointer (some ⟨K + 1, 0, none⟩)]) (N := acc.length) (Rd := BkRd acc) (Ok := BkOk acc gA 0 c (K + 1)) (LamJ acc y W.heap.size K w8) rfl (enters_of Tryd.func64 (by kernel_rfl) rfl) (back_iter acc gA 0 c (K + 1) (by omega) (by omega)) ?hps ?hOk ?hJ ?h0 ?hround ?hdone
          case hps => rintro k args hk ⟨t', _, rfl⟩; rfl
          case hOk =>
            rintro k A' ⟨hch, _⟩
            refine ⟨(hch.block _ (by omega) (by omega)).trans HX8.out, fun i hi => ?_⟩
            obtain ⟨k0, k1, k2, k3⟩ := row_cells HOW8.out i hi
            have hg8 : gA < w8.heap.size := by omega
            exact ⟨(hch.cell (p := ⟨gA, _, none⟩) hg8 (by show ¬ gA = K; omega)).trans k0, (hch.cell (p := ⟨gA, _, none⟩) hg8 (by show ¬ gA = K; omega)).trans k1, (hch.cell (p := ⟨gA, _, none⟩) hg8 (by show ¬ gA = K; omega)).trans k2, (hch.cell (p := ⟨gA, _, none⟩) hg8 (by show ¬ gA = K; omega)).trans k3⟩
          case hJ => exact fun k A' o h _ => lam_put (by omega) k A' o h
          case h0 =>
            intro W1' hb hs
            refine ⟨Chg.of_old hb, [x0, x1, x2, x3, x4, x5, x6, x7, x8, x9, x10], HK8.out.below hb (by omega), ?_⟩
            rw [Nat.sub_zero, List.drop_length]
            exact HTY8.out.later (Low.of_below hb)
          case hround =>
            rintro k args Wr hkn ⟨hch, cs, hbK, hme⟩ ⟨t', hat, rfl⟩ hlW
            have ht' : t' ∈ acc := List.mem_reverse.1 (List.mem_of_getElem? hat)
            have hgt := HGA.out t' ht'
            have hstep := lams_step (x := y) hat
            obtain ⟨c0, c1, c2, c3, c4, c5, c6, c7, c8, c9, c10, rfl⟩ := eleven_of (ex_len' hme)
            (have z0 := store_one' c0 (ex_ones' hme c0 (by simp)))
            (have z1 := store_one' c1 (ex_ones' hme c1 (by simp)))
            (have z2 := store_one' c2 (ex_ones' hme c2 (by simp)))
            (have z3 := store_one' c3 (ex_ones' hme c3 (by simp)))
            (have z4 := store_one' c4 (ex_ones' hme c4 (by simp)))
            (have z5 := store_one' c5 (ex_ones' hme c5 (by simp)))
            (have z6 := store_one' c6 (ex_ones' hme c6 (by simp)))
            (have z7 := store_one' c7 (ex_ones' hme c7 (by simp)))
            (have z8 := store_one' c8 (ex_ones' hme c8 (by simp)))
            (have z9 := store_one' c9 (ex_ones' hme c9 (by simp)))
            (have z10 := store_one' c10 (ex_ones' hme c10 (by simp)))
            have hzr := hch.size
            have HCH := Lib.hid hch
            have HBK := Lib.hid hbK
            have HME := Lib.hid hme
            have HGT := Lib.hid hgt
            have HST := Lib.hid hstep
            have hmx : Tryd.prog.follows .mixedOrders = true := by kernel_rfl
            clear hch hbK hme hgt hat ht' hstep
            simp only [tk_cells]
            gi_wp2_with fail
            refine ⟨below_new' _ _, ?_⟩
            intro W3 hc3
            have hbn : Blk W3 Wr.heap.size 52 #[.int .i64 t'.kind, .string ⟨t'.text.toArray⟩, .int .i64 t'.num, .int .i64 t'.pos] := (hc3.block _ (by simp) (by omega)).trans (Blk.new _ _ _)
            have hbk : Blk W3 K 32 #[c0, c1, c2, c3, c4, c5, c6, c7, c8, c9, c10] := (hc3.block _ (by have := HBK.out.lt; simp; omega) (by omega)).trans (HBK.out.alloc _)
            have hz3 := hc3.size
            rw [World.size_alloc] at hz3
            have j1 := hbn.cell 1
            have j3 := hbn.cell 3
            have g0 := hbk.cell 0
            have g1 := hbk.cell 1
            have g2 := hbk.cell 2
            have g3 := hbk.cell 3
            have g4 := hbk.cell 4
            have g5 := hbk.cell 5
            have g6 := hbk.cell 6
            have g7 := hbk.cell 7
            have g8 := hbk.cell 8
            have g9 := hbk.cell 9
            have g10 := hbk.cell 10
            simp only [List.getElem?_toArray, List.getElem?_cons_succ, List.getElem?_cons_zero] at g0 g1 g2 g3 g4 g5 g6 g7 g8 g9 g10
            have gf0 := hbk.frozen 0
            have gf1 := hbk.frozen 1
            have gf2 := hbk.frozen 2
            have gf3 := hbk.frozen 3
            have gf4 := hbk.frozen 4
            have gf5 := hbk.frozen 5
            have gf6 := hbk.frozen 6
            have gf7 := hbk.frozen 7
            have gf8 := hbk.frozen 8
            have gf9 := hbk.frozen 9
            have gf10 := hbk.frozen 10
            have hbnA := hbn.alloc (.cells #[c0, c1, c2, c3, c4, c5, c6, c7, c8, c9, c10] 32)
            have hbkA := hbk.alloc (.cells #[c0, c1, c2, c3, c4, c5, c6, c7, c8, c9, c10] 32)
            have ga0 := hbkA.cell 0
            have ga1 := hbkA.cell 1
            have ga2 := hbkA.cell 2
            have ga3 := hbkA.cell 3
            have ga4 := hbkA.cell 4
            have ga5 := hbkA.cell 5
            have ga6 := hbkA.cell 6
            have ga7 := hbkA.cell 7
            have ga8 := hbkA.cell 8
            have ga9 := hbkA.cell 9
            have ga10 := hbkA.cell 10
            simp only [List.getElem?_toArray, List.getElem?_cons_succ, List.getElem?_cons_zero] at ga0 ga1 ga2 ga3 ga4 ga5 ga6 ga7 ga8 ga9 ga10
            have gz0 := hbkA.frozen 0
            have gz1 := hbkA.frozen 1
            have gz2 := hbkA.frozen 2
            have gz3 := hbkA.frozen 3
            have gz4 := hbkA.frozen 4
            have gz5 := hbkA.frozen 5
            have gz6 := hbkA.frozen 6
            have gz7 := hbkA.frozen 7
            have gz8 := hbkA.frozen 8
            have gz9 := hbkA.frozen 9
            have gz10 := hbkA.frozen 10
            have j1a := hbnA.cell 1
            have j3a := hbnA.cell 3
            simp only [List.getElem?_toArray, List.getElem?_cons_succ, List.getElem?_cons_zero] at j1 j3 j1a j3a
            gi_wp2_with fail
            obtain ⟨W4, hW4⟩ : ∃ W4, W3.alloc (.cells #[c0, c1, c2, c3, c4, c5, c6, c7, c8, c9, c10] 32) = W4 := ⟨_, rfl⟩
            have hn4 : Below W3.heap.size W3 W4 := by rw [← hW4]; exact below_new' _ _
            have hbg : Blk W4 W3.heap.size 32 #[c0, c1, c2, c3, c4, c5, c6, c7, c8, c9, c10] := by rw [← hW4]; exact Blk.new _ _ _
            rw [hW4] at hbkA ⊢
            clear hW4
            obtain ⟨w9, hw9⟩ : ∃ w9, (((((((((((W4).setCell ⟨K, 0, none⟩ (.int .i64 6)).setCell ⟨K, 1, none⟩ (.string ⟨t'.text.toArray⟩)).setCell ⟨K, 2, none⟩ (.int .i64 0)).setCell ⟨K, 3, none⟩ (.int .i64 0)).setCell ⟨K, 4, none⟩ (.string ⟨#[]⟩)).setCell ⟨K, 5, none⟩ (.int .i64 0)).setCell ⟨K, 6, none⟩ (.slice none 0 0)).setCell ⟨K, 7, none⟩ (.slice (some ⟨W3.heap.size, 0, none⟩) 1 1)).setCell ⟨K, 8, none⟩ (.slice none 0 0)).setCell ⟨K, 9, none⟩ (.slice none 0 0)).setCell ⟨K, 10, none⟩ ((.int .i64 (t'.pos : Int))) = w9 := ⟨_, rfl⟩
            have hB9 := set11 hbkA (.int .i64 6) (.string ⟨t'.text.toArray⟩) (.int .i64 0) (.int .i64 0) (.string ⟨#[]⟩) (.int .i64 0) (.slice none 0 0) (.slice (some ⟨W3.heap.size, 0, none⟩) 1 1) (.slice none 0 0) (.slice none 0 0) ((.int .i64 (t'.pos : Int)))
            have hL1 : Low (oneX K) W4 _ := Low.set11 (Chg.refl _ _) (.inl (oneX_self K)) (.int .i64 6) (.string ⟨t'.text.toArray⟩) (.int .i64 0) (.int .i64 0) (.string ⟨#[]⟩) (.int .i64 0) (.slice none 0 0) (.slice (some ⟨W3.heap.size, 0, none⟩) 1 1) (.slice none 0 0) (.slice none 0 0) ((.int .i64 (t'.pos : Int)))
            rw [hw9] at hB9 hL1 ⊢
            clear hw9
            have hz4 := hn4.size
            have hKg := hbk.lt
            have hl4 := hbg.lt
            have hchg : Chg (fun i => i = K ∨ i = w8.heap.size + 1) Wr w9 :=
              (((Chg.of_old (X := fun i => i = K ∨ i = w8.heap.size + 1) (below_new' Wr _)).trans (hc3.mono fun i _ hi => .inr (by omega))).trans (Chg.of_old hn4)).trans (hL1.mono fun i _ hi => .inl (by simpa [oneX] using hi))
            have hbg9 : Blk w9 W3.heap.size 32 #[c0, c1, c2, c3, c4, c5, c6, c7, c8, c9, c10] := (hL1.block _ hl4 (by rw [oneX_no (by omega)]; simp)).trans hbg
            have hold := HME.out.later (W' := w9) (hchg.mono fun i _ hi => by
              rcases hi with rfl | rfl
              · exact lamX_K _ _ _
              · exact exX_self _ _)
            have hfin := ExM.kids (k := 6) (nm := ⟨t'.text.toArray⟩) (n := 0) (q := (t'.pos : Int)) (ks := [lamsE (acc.drop (acc.length - k)) y]) (c := 1) (ok_lit _ (by omega) (by omega)) (by simpa [ByteArray.size] using HGT.out.1) (ok_lit _ (by omega) (by omega)) (ok_lit _ (by omega) (by have := HGT.out.2; omega)) (by simp) (by simp [maxLen]) (by simp) (RowM.one (xs := [c0, c1, c2, c3, c4, c5, c6, c7, c8, c9, c10]) (by simpa using hbg9) (lamX_no (by omega) (by omega) (by omega) (by omega)) hold)
            refine ⟨⟨chg_more HCH.out (l := w8.heap.size + 1) (by omega) hchg, _, hB9, by rw [HST.out]; exact hfin⟩, fun i hi => ?_⟩
            exact (hL1.block i (by omega) (by rw [oneX_no (by omega)]; simp)).trans (hn4.block i (by omega))
          case hdone =>
            rintro D wd rfl ⟨hch, cs, hbk, hme⟩ hD
            obtain ⟨c0, c1, c2, c3, c4, c5, c6, c7, c8, c9, c10, rfl⟩ := eleven_of (ex_len' hme)
            (have z0 := store_one' c0 (ex_ones' hme c0 (by simp)))
            (have z1 := store_one' c1 (ex_ones' hme c1 (by simp)))
            (have z2 := store_one' c2 (ex_ones' hme c2 (by simp)))
            (have z3 := store_one' c3 (ex_ones' hme c3 (by simp)))
            (have z4 := store_one' c4 (ex_ones' hme c4 (by simp)))
            (have z5 := store_one' c5 (ex_ones' hme c5 (by simp)))
            (have z6 := store_one' c6 (ex_ones' hme c6 (by simp)))
            (have z7 := store_one' c7 (ex_ones' hme c7 (by simp)))
            (have z8 := store_one' c8 (ex_ones' hme c8 (by simp)))
            (have z9 := store_one' c9 (ex_ones' hme c9 (by simp)))
            (have z10 := store_one' c10 (ex_ones' hme c10 (by simp)))
            rw [Nat.sub_self, List.drop_zero] at hme
            have hzr := hch.size
            rw [hz8] at hD
            have hR8 : Blk w8 W.heap.size 32 #[.int .i64 0, .string ⟨#[]⟩, .int .i64 0, .int .i64 0, .string ⟨#[]⟩, .int .i64 0, .slice none 0 0, .slice none 0 0, .slice none 0 0, .slice none 0 0, .int .i64 0] := (HPW8.out.block _ HRS.out.lt (by omega : ¬ W.heap.size = pb)).trans HRS.out
            have hzw : W1.heap.size ≤ w8.heap.size := HPW8.out.size
            have hBwd : Blk wd W.heap.size 32 #[.int .i64 0, .string ⟨#[]⟩, .int .i64 0, .int .i64 0, .string ⟨#[]⟩, .int .i64 0, .slice none 0 0, .slice none 0 0, .slice none 0 0, .slice none 0 0, .int .i64 0] := (hch.block _ hR8.lt (by omega)).trans hR8
            have r0wd := hBwd.cell 0
            have r1wd := hBwd.cell 1
            have r2wd := hBwd.cell 2
            have r3wd := hBwd.cell 3
            have r4wd := hBwd.cell 4
            have r5wd := hBwd.cell 5
            have r6wd := hBwd.cell 6
            have r7wd := hBwd.cell 7
            have r8wd := hBwd.cell 8
            have r9wd := hBwd.cell 9
            have r10wd := hBwd.cell 10
            simp only [List.getElem?_toArray, List.getElem?_cons_succ, List.getElem?_cons_zero] at r0wd r1wd r2wd r3wd r4wd r5wd r6wd r7wd r8wd r9wd r10wd
            have f0wd := hBwd.frozen 0
            have f1wd := hBwd.frozen 1
            have f2wd := hBwd.frozen 2
            have f3wd := hBwd.frozen 3
            have f4wd := hBwd.frozen 4
            have f5wd := hBwd.frozen 5
            have f6wd := hBwd.frozen 6
            have f7wd := hBwd.frozen 7
            have f8wd := hBwd.frozen 8
            have f9wd := hBwd.frozen 9
            have f10wd := hBwd.frozen 10
            have g0 := hbk.cell 0
            have g1 := hbk.cell 1
            have g2 := hbk.cell 2
            have g3 := hbk.cell 3
            have g4 := hbk.cell 4
            have g5 := hbk.cell 5
            have g6 := hbk.cell 6
            have g7 := hbk.cell 7
            have g8 := hbk.cell 8
            have g9 := hbk.cell 9
            have g10 := hbk.cell 10
            simp only [List.getElem?_toArray, List.getElem?_cons_succ, List.getElem?_cons_zero] at g0 g1 g2 g3 g4 g5 g6 g7 g8 g9 g10
            have gf0 := hbk.frozen 0
            have gf1 := hbk.frozen 1
            have gf2 := hbk.frozen 2
            have gf3 := hbk.frozen 3
            have gf4 := hbk.frozen 4
            have gf5 := hbk.frozen 5
            have gf6 := hbk.frozen 6
            have gf7 := hbk.frozen 7
            have gf8 := hbk.frozen 8
            have gf9 := hbk.frozen 9
            have gf10 := hbk.frozen 10
            clear hbk
            go_wp2_with fail
            obtain ⟨w9, hw9⟩ : ∃ w9, (((((((((((wd).setCell ⟨W.heap.size, 0, none⟩ (c0)).setCell ⟨W.heap.size, 1, none⟩ (c1)).setCell ⟨W.heap.size, 2, none⟩ (c2)).setCell ⟨W.heap.size, 3, none⟩ (c3)).setCell ⟨W.heap.size, 4, none⟩ (c4)).setCell ⟨W.heap.size, 5, none⟩ (c5)).setCell ⟨W.heap.size, 6, none⟩ (c6)).setCell ⟨W.heap.size, 7, none⟩ (c7)).setCell ⟨W.heap.size, 8, none⟩ (c8)).setCell ⟨W.heap.size, 9, none⟩ (c9)).setCell ⟨W.heap.size, 10, none⟩ (c10) = w9 := ⟨_, rfl⟩
            have hB9 := set11 hBwd (c0) (c1) (c2) (c3) (c4) (c5) (c6) (c7) (c8) (c9) (c10)
            have hL1 : Low (oneX W.heap.size) wd _ := Low.set11 (Chg.refl _ _) (.inl (oneX_self _)) (c0) (c1) (c2) (c3) (c4) (c5) (c6) (c7) (c8) (c9) (c10)
            rw [hw9] at hB9 hL1 ⊢
            clear hw9
            have hD9 := (hL1.block (K + 2) (Array.getElem?_eq_some_iff.1 hD).1 (by rw [oneX_no (by omega)]; simp)).trans hD
            have hp := putObj_chg w9 (K + 2) (.deferred none)
            have hB10 : Blk (w9.putObj (K + 2) (.deferred none)) W.heap.size 32 #[c0, c1, c2, c3, c4, c5, c6, c7, c8, c9, c10] := (hp.block _ hB9.lt (by omega)).trans hB9
            obtain ⟨w10, hw10⟩ : ∃ w10, w9.putObj (K + 2) (.deferred none) = w10 := ⟨_, rfl⟩
            have hall : Chg (fun i => i = K ∨ i = W.heap.size ∨ i = K + 2) w8 w10 := by
              rw [← hw10]
              exact ((hch.mono (fun i _ hi => .inl hi)).trans (hL1.mono fun i _ hi => .inr (.inl (by simpa [oneX] using hi)))).trans (hp.mono fun i _ hi => .inr (.inr hi))
            have hlast : Chg (fun i => i = W.heap.size ∨ i = K + 2) wd w10 := by
              rw [← hw10]
              exact (hL1.mono (Y := fun i => i = W.heap.size ∨ i = K + 2) fun i _ hi => .inl (by simpa [oneX] using hi)).trans (hp.mono fun i _ hi => .inr hi)
            have hpar : Par pb W w10 := ((((Par.of_below HN.out).trans HPW8.out).mono (Y := fun i => i = pb ∨ W.heap.size ≤ i) fun i _ hi => .inl hi).trans (hall.mono fun i _ hi => .inr (by omega))).mono fun i h1 hi => by omega
            have hps : PsAt w10 pb ts2 lv := HPS8.out.keepC hall (fun i hi => by omega)
            have hme10 := (hme.later (W' := w10) (hlast.mono fun i _ hi => by
              rcases hi with rfl | rfl
              · exact exX_iff.2 (.inl (exX_iff.2 (.inl (exX_iff.2 (.inl (lowX_self _))))))
              · exact exX_iff.2 (.inl (exX_iff.2 (.inr hz8.symm))))).weaken (Y := lowX W.heap.size) (fun i _ hi => exX_iff.2 (.inl (exX_iff.2 (.inl (exX_iff.2 (.inl (by rw [lowX_iff] at hi ⊢; omega)))))))
            have d0 := hB10
            rw [hw10] at d0
            have e0 := d0.cell 0
            have e1 := d0.cell 1
            have e2 := d0.cell 2
            have e3 := d0.cell 3
            have e4 := d0.cell 4
            have e5 := d0.cell 5
            have e6 := d0.cell 6
            have e7 := d0.cell 7
            have e8 := d0.cell 8
            have e9 := d0.cell 9
            have e10 := d0.cell 10
            simp only [List.getElem?_toArray, List.getElem?_cons_succ, List.getElem?_cons_zero] at e0 e1 e2 e3 e4 e5 e6 e7 e8 e9 e10
            refine marks_any (v := .agg #[c0, c1, c2, c3, c4, c5, c6, c7, c8, c9, c10]) hD9 ?_ ?_
            · rw [hw10]
              simp [results, Tryd.results29, go_sem, e0, e1, e2, e3, e4, e5, e6, e7, e8, e9, e10]
            · rw [hw10]
              exact ⟨hpar, ⟨[c0, c1, c2, c3, c4, c5, c6, c7, c8, c9, c10], rfl, rfl, hme10⟩, hps, hf6⟩

theorem lam_any (E : Nat → List Tk → Res Ex) (HE : LvOk rEx 11 7 E) (q : Nat) (hq : q ≤ 60000) (pb lv : Nat) (ts : List Tk) (W : World) (h : PsAt W pb ts lv) (hf : Fine ts) (hlv : lv ≤ 300) (r : Res Ex) (hr : lamP E lv (q : Int) ts = r) (ho : r ≠ .out) :
    Calls Tryd.prog 29 #[.pointer (some ⟨pb, 0, none⟩), .int .i64 (q : Int)] W (PaPost pb lv 11 rEx r W) := by
  obtain ⟨t, tl, rfl⟩ := hf.ne
  by_cases hk : t.kind = 1
  · rw [lamP_eq E lv q t tl hk] at hr
    cases r with
    | out => exact absurd rfl ho
    | bad c p => exact lam_bad E HE q hq pb lv t tl W h hf hlv hk c p hr.symm
    | ok x ts2 => exact lam_ok E HE q hq pb lv t tl W h hf hlv hk x ts2 hr.symm
  · rw [lamP_no E lv q t tl hk] at hr
    subst hr
    exact lam_nok q pb lv t tl W h hk

end Go.Proofs.YtiiddmioafhmoaaDoor
