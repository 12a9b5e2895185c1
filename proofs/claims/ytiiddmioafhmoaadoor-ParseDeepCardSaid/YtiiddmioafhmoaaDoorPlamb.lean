/- Walks: a function. -/
import Derived.Test.YtiiddmioafhmoaaDoorMgh
import Derived.Test.YtiiddmioafhmoaaDoorBwd
import Derived.Test.YtiiddmioafhmoaaDoorFixd
namespace Go.Proofs.YtiiddmioafhmoaaDoor
open Go.RowKit
set_option linter.unusedVariables false
set_option linter.unusedSimpArgs false
set_option maxRecDepth 100000
attribute [local go_sem] Oper.semAt_some

def lamR (E : Nat → List Tk → Res Ex) (lv : Nat) (ns D : List Tk) : Res Ex := (needP sArrow D).andThen fun _ ts2 => (E lv ts2).andThen fun e ts3 => .ok (lamsE ns e) ts3
theorem lamP_eq (E : Nat → List Tk → Res Ex) (lv q : Nat) (t : Tk) (tl : List Tk) (hk : t.kind = 1) : lamP E lv (q : Int) (t :: tl) = lamR E lv (([⟨t.kind, t.text, t.num, q⟩] : List Tk) ++ tl.takeWhile isLowB) (tl.dropWhile isLowB) := by
  unfold lamP kindP
  simp [kindH_cons, hk, Res.andThen, restT, lamR, headT_cons]
theorem lamP_no (E : Nat → List Tk → Res Ex) (lv : Nat) (q : Int) (t : Tk) (tl : List Tk) (hk : t.kind ≠ 1) : lamP E lv q (t :: tl) = .bad 110 t.pos := by
  unfold lamP kindP
  simp [kindH_cons, hk, Res.andThen, posH_cons]
theorem lowh_yes {u : Tk} {tu : List Tk} (h : u.kind = 1) : (u :: tu).takeWhile isLowB = u :: tu.takeWhile isLowB ∧ (u :: tu).dropWhile isLowB = tu.dropWhile isLowB := by simp [isLowB, h]
theorem lowh_no {u : Tk} {tu : List Tk} (h : u.kind ≠ 1) : (u :: tu).takeWhile isLowB = [] ∧ (u :: tu).dropWhile isLowB = u :: tu := by simp [isLowB, h]
theorem own_of_blk {w : World} {g n size B : Nat} {e : TypeId} {xs : List Value} (hb : Blk w g e xs.toArray) (hB : B ≤ g) (hl : xs.length = n * size) (hn : n ≤ maxLen) : w.ownsRow B e size (.slice (some ⟨g, 0, none⟩) n n) n xs :=
  ⟨hl, .inr ⟨g, n, xs.toArray, rfl, hB, hb, Nat.le_refl _, hn, by simp [hl], by simp [← hl]⟩⟩
theorem tk_info' : (Tryd.prog.info? 52).map (fun i => (i.zero, i.size, i.bytes)) = some (some (.agg #[.int .i64 0, .string ⟨#[]⟩, .int .i64 0, .int .i64 0]), 4, 40) := by kernel_rfl
/-- Names that may be read. -/
def GoodN (l : List Tk) : Prop := ∀ t ∈ l, t.text.length ≤ 60000 ∧ t.pos ≤ 60000
theorem marks_any {P : Program} {fn : Func} {R : Ending → World → Prop} {v : Value} {tmps : Array Value} {D : Nat} {W : World} (hK : W.heap[D]? = some (.deferred (some [])))
    (hv : (results fn tmps).run P (W.putObj D (.deferred none)) = .ok v (W.putObj D (.deferred none))) (h : R (.returned v) (W.putObj D (.deferred none))) :
    bodyPostM Fence.wide 10 P fn R .ret { tmps := tmps, defers := [{ target := .collected D, args := #[] }] } W :=
  ⟨by simp, .inl ⟨D, _, rfl, run_takeDeferred hK, _, hv, h⟩⟩
theorem row_cells {w : World} {B g c : Nat} {l : List Tk} (h : w.ownsRow B 52 4 (.slice (some ⟨g, 0, none⟩) l.length c) l.length (tksCells l)) (i : Nat) (hi : i < l.length) :
    w.cell? ⟨g, 0 + i * 4, none⟩ = some (.int .i64 l[i].kind) ∧ w.cell? ⟨g, 0 + i * 4 + 1, none⟩ = some (.string ⟨l[i].text.toArray⟩) ∧ w.cell? ⟨g, 0 + i * 4 + 2, none⟩ = some (.int .i64 l[i].num) ∧ w.cell? ⟨g, 0 + i * 4 + 3, none⟩ = some (.int .i64 l[i].pos) := by
  obtain ⟨k0, k1, k2, k3⟩ := tks_get l i hi
  have hl := tks_len l
  simp only [Nat.zero_add]
  have hc := h.cellAt
  refine ⟨?_, ?_, ?_, ?_⟩
  · rw [hc (i * 4) (by omega), ← k0]
  · rw [hc (i * 4 + 1) (by omega), ← k1]
  · rw [hc (i * 4 + 2) (by omega), ← k2]
  · rw [hc (i * 4 + 3) (by omega), ← k3]

set_option maxHeartbeats 6400000 in
theorem lam_bad (E : Nat → List Tk → Res Ex) (HE : LvOk rEx 11 7 E) (q : Nat) (hq : q ≤ 60000) (pb lv : Nat) (t : Tk) (tl : List Tk) (W : World) (h : PsAt W pb (t :: tl) lv) (hf : Fine (t :: tl)) (hlv : lv ≤ 300) (hk : t.kind = 1) (c0 : Int) (p0 : Nat) (hr : .bad c0 p0 = lamR E lv (([⟨t.kind, t.text, t.num, q⟩] : List Tk) ++ tl.takeWhile isLowB) (tl.dropWhile isLowB)) :
    Calls Tryd.prog 29 #[.pointer (some ⟨pb, 0, none⟩), .int .i64 (q : Int)] W (PaPost pb lv 11 rEx (.bad c0 p0) W) := by
  obtain ⟨i0, hi, hz0, hz1, hz2⟩ := info_parts tk_info'
  have HI := Lib.hid hi
  have HZ0 := Lib.hid hz0
  have HZ1 := Lib.hid hz1
  have HZ2 := Lib.hid hz2
  clear hi hz0 hz1 hz2
  obtain ⟨W1, hW1⟩ : ∃ W1, W.alloc (.cells #[.int .i64 0, .string ⟨#[]⟩, .int .i64 0, .int .i64 0, .string ⟨#[]⟩, .int .i64 0, .slice none 0 0, .slice none 0 0, .slice none 0 0, .slice none 0 0, .int .i64 0] 32) = W1 := ⟨_, rfl⟩
  have hnew : Below W.heap.size W W1 := by rw [← hW1]; exact (Below.refl _ _).alloc (Nat.le_refl _) _
  have hres : Blk W1 W.heap.size 32 #[.int .i64 0, .string ⟨#[]⟩, .int .i64 0, .int .i64 0, .string ⟨#[]⟩, .int .i64 0, .slice none 0 0, .slice none 0 0, .slice none 0 0, .slice none 0 0, .int .i64 0] := by rw [← hW1]; exact Blk.new _ _ _
  have hs1 := h.later hnew
  have hlt := h.lt
  have hsz : W1.heap.size = W.heap.size + 1 := by rw [← hW1]; simp
  have HW1 := Lib.hid hW1
  have HN := Lib.hid hnew
  have HRS := Lib.hid hres
  have HS1 := Lib.hid hs1
  have HSZ := Lib.hid hsz
  have hp1 : Par pb W1 W1 := Chg.refl _ _
  clear hW1 hnew hres hs1 hsz h
  have hgood := hf.good t (by simp)
  have HG := Lib.hid (show t.text.length ≤ 60000 ∧ t.pos ≤ 60000 from ⟨hgood.1, hgood.2.2⟩)
  have hflen := hf.len
  rw [List.length_cons] at hflen
  have HF1 := Lib.hid (hf.tail_ (by omega : t.kind ≠ 0))
  have HRT := Lib.hid (show restT (t :: tl) = tl by simp [restT, hk])
  have CK := Lib.hid (needKind_yes pb lv t tl 1 W1 HS1.out hk)
  rw [HRT.out] at CK
  have HR := Lib.hid hr
  have HEE := Lib.hid HE
  clear hf hr HE hgood hk HS1
  go_enter Tryd.func29, Tryd.ntmps29
  go_upto_region 1 with fail
  rw [HW1.out]
  go_upto_region 2 with (go_at_call 10; (with_reducible refine CK.out.mono ?_); rintro e w2 ⟨rfl, hp2, hsw2⟩; rw [tk_cells]; dsimp only)
  obtain ⟨w3, hw3⟩ : ∃ w3, w2.alloc (.cells #[.int .i64 t.kind, .string ⟨t.text.toArray⟩, .int .i64 t.num, .int .i64 t.pos] 52) = w3 := ⟨_, rfl⟩
  have hn3 : Below w2.heap.size w2 w3 := by rw [← hw3]; exact below_new' _ _
  have hx3 : Blk w3 w2.heap.size 52 #[.int .i64 t.kind, .string ⟨t.text.toArray⟩, .int .i64 t.num, .int .i64 t.pos] := by rw [← hw3]; exact Blk.new _ _ _
  rw [hw3]
  clear hw3
  obtain ⟨g3, hg3⟩ : ∃ g3, w2.heap.size = g3 := ⟨_, rfl⟩
  have hsz := HSZ.out
  have hzp2 := hp2.size
  have hl2 := hsw2.lt
  have m3 := hx3.cell 3
  simp only [List.getElem?_toArray, List.getElem?_cons_succ, List.getElem?_cons_zero] at m3
  have n3 := hx3.frozen 3
  have hps3 := hsw2.later hn3
  have hpw3 : Par pb W1 w3 := hp2.trans (Par.of_below (pb := pb) hn3)
  rw [hg3] at hx3 m3 n3 hzp2 hl2 ⊢
  clear hsw2 hn3 hp2
  obtain ⟨w4, hw4⟩ : ∃ w4, w3.setCell ⟨g3, 3, none⟩ (.int .i64 q) = w4 := ⟨_, rfl⟩
  have hx4 : Blk w4 g3 52 #[.int .i64 t.kind, .string ⟨t.text.toArray⟩, .int .i64 t.num, .int .i64 q] := by rw [← hw4]; simpa using hx3.set_ 3 (.int .i64 q)
  have hpw4 : Par pb W1 w4 := by rw [← hw4]; exact hpw3.set_ (p := ⟨g3, 3, none⟩) (.inr (by show W1.heap.size ≤ g3; omega)) _
  have hps4 : PsAt w4 pb tl lv := by rw [← hw4]; exact hps3.far_ (by show pb < g3; omega) _
  go_wp2_with fail
  try rw [hw4]
  clear hw4 hx3 m3 n3 hps3 hpw3
  have HOW := Lib.hid (show w4.ownsRow (W.heap.size + 1) 52 4 (.slice (some ⟨g3, 0, none⟩) 1 1) 1 (tksCells [⟨t.kind, t.text, t.num, q⟩]) from own_of_blk (n := 1) (by simpa [tksCells, tkCells] using hx4) (by omega) rfl (by simp [maxLen]))
  have HPW4 := Lib.hid hpw4
  have HPS4 := Lib.hid hps4
  clear hx4 hpw4 hps4
  go_loopw [5] (fun v wr => ∃ (acc ts' : List Tk) (A : Option Addr) (c : Nat), v = .slice A acc.length c ∧ Res.bad c0 p0 = lamR E lv (acc ++ ts'.takeWhile isLowB) (ts'.dropWhile isLowB) ∧ wr.ownsRow (W.heap.size + 1) 52 4 v acc.length (tksCells acc) ∧ GoodN acc ∧ 1 ≤ acc.length ∧ acc.length + ts'.length ≤ 60001 ∧ Par pb W1 wr ∧ PsAt wr pb ts' lv ∧ Fine ts') (fun v _ => 60001 - sliceLen v)
  case atStart => exact ⟨[⟨t.kind, t.text, t.num, q⟩], tl, _, 1, rfl, HR.out, HOW.out, fun u hu => by simp only [List.mem_cons, List.not_mem_nil, or_false] at hu; subst hu; exact ⟨HG.out.1, hq⟩, by simp, by simp; omega, HPW4.out, HPS4.out, HF1.out⟩
  case round =>
    obtain ⟨acc, ts', A, c, rfl, hrr, hown, hga, hac, hsum, hpar, hps, hfi⟩ := hrel
    obtain ⟨u, tu, rfl⟩ := hfi.ne
    rw [List.length_cons] at hsum
    have hgu := hfi.good u (by simp)
    have hwz : W1.heap.size ≤ wr.heap.size := hpar.size
    have hltp := hps.lt
    have hsz := HSZ.out
    have HGU := Lib.hid (show u.text.length ≤ 60000 ∧ u.pos ≤ 60000 from ⟨hgu.1, hgu.2.2⟩)
    have HPAR := Lib.hid hpar
    have HPS := Lib.hid hps
    have HFI := Lib.hid hfi
    have HR2 := Lib.hid hrr
    have HOWN := Lib.hid hown
    have HGA := Lib.hid hga
    obtain ⟨n, hn⟩ : ∃ n, acc.length = n := ⟨_, rfl⟩
    have HN2 := Lib.hid hn
    have hown' := hown
    rw [hn] at hown' hac hsum ⊢
    have HO2 := Lib.hid hown'
    clear hrr hpar hps hfi hga hown hown' hn hgu
    have CS := Lib.hid (seesLow_any pb lv u tu wr HPS.out)
    by_cases hu : u.kind = 1
    · have hlow := lowh_yes (tu := tu) hu
      have d1 : (u.kind == 1) = true := by simp [hu]
      have HRU := Lib.hid (show restT (u :: tu) = tu by simp [restT, hu])
      have HFU := Lib.hid (HFI.out.tail_ (by omega : u.kind ≠ 0))
      have CT := Lib.hid (fun W2 (hs : PsAt W2 pb (u :: tu) lv) => take_any pb lv u tu W2 hs)
      rw [d1] at CS
      rw [HRU.out] at CT
      have HR3 := Lib.hid (show Res.bad c0 p0 = lamR E lv ((acc ++ [u]) ++ tu.takeWhile isLowB) (tu.dropWhile isLowB) by rw [HR2.out, hlow.1, hlow.2]; simp)
      clear hu hlow d1
      go_wp2_with (first | (go_at_call 46; (with_reducible refine CS.out.mono ?_); rintro e wa ⟨rfl, hba⟩; (have hsa := HPS.out.later hba)) | (go_at_call 18; (with_reducible refine (CT.out _ hsa).mono ?_); rintro e wb ⟨rfl, hpb', hsb⟩; rw [tk_cells]; dsimp only; (have hownb := own_par ((own_par HO2.out (Par.of_below (pb := pb) hba) (by omega))) hpb' (by omega)); (have hzb := hpb'.size); (have hza := hba.size)) | (at_builtin; refine wpList_append_own _ rfl _ _ 43 rfl (W.heap.size + 1) 52 i0 (.agg #[.int .i64 0, .string ⟨#[]⟩, .int .i64 0, .int .i64 0]) 4 40 Tryd.underlying43 HI.out HZ0.out HZ1.out HZ2.out rfl (by decide) _ _ _ rfl (hownb.alloc _) ⟨wb.heap.size, 0, none⟩ 1 1 [.int .i64 u.kind, .string ⟨u.text.toArray⟩, .int .i64 u.num, .int .i64 u.pos] rfl rfl ?c1 ?c2 ?c3 ?c4 ?c5 ?_))
      case c1 => exact new_cells wb [.int .i64 u.kind, .string ⟨u.text.toArray⟩, .int .i64 u.num, .int .i64 u.pos]
      case c2 => intro v hv; simp at hv; rcases hv with rfl | rfl | rfl | rfl <;> rfl
      case c3 => unfold maxLen; omega
      case c4 => omega
      case c5 => simp; omega
      intro v' w5 hown5 hgrow5 _
      obtain ⟨A5, k5, rfl, _, _, _⟩ := own_form hown5
      have HO5 := Lib.hid hown5
      have hbn := below_new' wb (.cells #[.int .i64 u.kind, .string ⟨u.text.toArray⟩, .int .i64 u.num, .int .i64 u.pos] 52)
      have HP5 := Lib.hid (Par.grown (((HPAR.out.trans (Par.of_below hba)).trans hpb').trans (Par.of_below hbn)) hgrow5 (fun k hk => by have := (HO2.out.lt k hk).1; omega))
      have HS5 := Lib.hid ((hsb.later hbn).grown hgrow5 (fun k hk => by have := (HO2.out.lt k hk).1; omega))
      clear hown5 hgrow5 hbn hsb hpb' hownb hba hsa
      go_wp2
      go_roundw
      case rel =>
        have hl : (acc ++ [u]).length = n + 1 := by simp [HN2.out]
        refine ⟨acc ++ [u], tu, A5, k5, by rw [hl], HR3.out, ?_, fun x hx => ?_, by rw [hl]; omega, by rw [hl]; omega, HP5.out, HS5.out, HFU.out⟩
        · have := HO5.out
          rw [hl, ← tks_snoc]; exact this
        · rcases List.mem_append.1 hx with hx | hx
          · exact HGA.out x hx
          · simp only [List.mem_cons, List.not_mem_nil, or_false] at hx; subst hx; exact HGU.out
      case measure => simp [sliceLen]; omega
    · have hlow := lowh_no (tu := tu) hu
      have d1 : (u.kind == 1) = false := by simp [hu]
      rw [d1] at CS
      have HR3 := Lib.hid (show Res.bad c0 p0 = lamR E lv acc (u :: tu) by rw [HR2.out, hlow.1, hlow.2]; simp)
      clear hu hlow d1
      cases hb : seesB u sArrow with
      | false =>
        have CN := Lib.hid (fun W2 (hs : PsAt W2 pb (u :: tu) lv) => need_no pb lv u tu sArrow W2 hs hb)
        have he : Res.bad c0 p0 = (.bad 110 u.pos : Res Ex) := by rw [HR3.out]; simp [lamR, needP, seesH_cons, hb, Res.andThen, posH_cons]
        injection he with h1 h2
        subst h1
        subst h2
        go_wp2_with (first | (go_at_call 46; (with_reducible refine CS.out.mono ?_); rintro e wa ⟨rfl, hba⟩; (have hsa := HPS.out.later hba)) | (go_at_call 47; (with_reducible refine (CN.out _ hsa).mono ?_); rintro e wn ⟨rfl, hpn⟩))
        exact ⟨rfl, (Par.of_below HN.out).trans (HPAR.out.trans ((Par.of_below hba).trans hpn)), rfl⟩
      | true =>
        have CN := Lib.hid (fun W2 (hs : PsAt W2 pb (u :: tu) lv) => need_yes pb lv u tu sArrow W2 hs hb)
        have HFU := Lib.hid (HFI.out.tail_ (seesB_kind hb))
        cases hA : E lv tu with
        | out => have := HR3.out; simp [lamR, needP, seesH_cons, hb, hA, Res.andThen] at this
        | ok e ts3 => have := HR3.out; simp [lamR, needP, seesH_cons, hb, hA, Res.andThen] at this
        | bad c1 p1 =>
          have he : Res.bad c0 p0 = (.bad c1 p1 : Res Ex) := by rw [HR3.out]; simp [lamR, needP, seesH_cons, hb, hA, Res.andThen]
          injection he with h1 h2
          subst h1
          subst h2
          have CE := Lib.hid (fun W2 (hs : PsAt W2 pb tu lv) => HEE.out pb lv tu W2 hs HFU.out hlv _ hA (by simp))
          clear hb hA
          go_wp2_with (first | (go_at_call 46; (with_reducible refine CS.out.mono ?_); rintro e wa ⟨rfl, hba⟩; (have hsa := HPS.out.later hba)) | (go_at_call 47; (with_reducible refine (CN.out _ hsa).mono ?_); rintro e wn ⟨rfl, hpn, hsn⟩) | (go_at_call 7; (with_reducible refine (CE.out _ hsn).mono ?_); rintro e w8 ⟨hp8, rfl⟩))
          exact ⟨rfl, (Par.of_below HN.out).trans (HPAR.out.trans ((Par.of_below hba).trans (hpn.trans hp8))), rfl⟩

set_option maxHeartbeats 1600000 in
theorem lam_nok (q : Nat) (pb lv : Nat) (t : Tk) (tl : List Tk) (W : World) (h : PsAt W pb (t :: tl) lv) (hk : t.kind ≠ 1) :
    Calls Tryd.prog 29 #[.pointer (some ⟨pb, 0, none⟩), .int .i64 (q : Int)] W (PaPost pb lv 11 rEx (.bad 110 t.pos) W) := by
  obtain ⟨W1, hW1⟩ : ∃ W1, W.alloc (.cells #[.int .i64 0, .string ⟨#[]⟩, .int .i64 0, .int .i64 0, .string ⟨#[]⟩, .int .i64 0, .slice none 0 0, .slice none 0 0, .slice none 0 0, .slice none 0 0, .int .i64 0] 32) = W1 := ⟨_, rfl⟩
  have hnew : Below W.heap.size W W1 := by rw [← hW1]; exact (Below.refl _ _).alloc (Nat.le_refl _) _
  have hres : Blk W1 W.heap.size 32 #[.int .i64 0, .string ⟨#[]⟩, .int .i64 0, .int .i64 0, .string ⟨#[]⟩, .int .i64 0, .slice none 0 0, .slice none 0 0, .slice none 0 0, .slice none 0 0, .int .i64 0] := by rw [← hW1]; exact Blk.new _ _ _
  have hs1 := h.later hnew
  have hlt := h.lt
  have hsz : W1.heap.size = W.heap.size + 1 := by rw [← hW1]; simp
  have HW1 := Lib.hid hW1
  have HN := Lib.hid hnew
  have HRS := Lib.hid hres
  have HS1 := Lib.hid hs1
  have HSZ := Lib.hid hsz
  have hp1 : Par pb W1 W1 := Chg.refl _ _
  clear hW1 hnew hres hs1 hsz h
  have CK := Lib.hid (needKind_no pb lv t tl 1 W1 HS1.out hk)
  clear hk
  go_enter Tryd.func29, Tryd.ntmps29
  go_upto_region 1 with fail
  rw [HW1.out]
  go_wp2_with (go_at_call 10; (with_reducible refine CK.out.mono ?_); rintro e w2 ⟨rfl, hp2⟩)
  exact ⟨rfl, (Par.of_below HN.out).trans hp2, rfl⟩

end Go.Proofs.YtiiddmioafhmoaaDoor
