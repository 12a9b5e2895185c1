/- Walks: let. -/
import Derived.Test.YtiiddmioafhmoaaDoorPch
namespace Go.Proofs.YtiiddmioafhmoaaDoor
open Go.RowKit
set_option linter.unusedVariables false
set_option linter.unusedSimpArgs false
set_option maxRecDepth 100000

abbrev sRec : ByteArray := ⟨#[114, 101, 99]⟩
abbrev sAnd : ByteArray := ⟨#[97, 110, 100]⟩
abbrev sIn : ByteArray := ⟨#[105, 110]⟩
def letQ (E : Nat → List Tk → Res Ex) (lv : Nat) (q n : Int) (ts : List Tk) : Res Ex :=
  (someP sAnd (bindP E lv) ts).andThen fun bs ts1 => (needP sIn ts1).andThen fun _ ts2 => (E lv ts2).andThen fun e ts3 => .ok (.mk 7 ⟨#[]⟩ n tyZ [e] [] bs q) ts3
def letP (E : Nat → List Tk → Res Ex) (lv : Nat) (q : Int) (ts : List Tk) : Res Ex :=
  if seesH sRec ts then letQ E lv q 1 ts.tail else letQ E lv q 0 ts
set_option maxHeartbeats 6400000 in
theorem let_any (E : Nat → List Tk → Res Ex) (HE : LvOk rEx 11 7 E) (q : Int) (hq : ok64 q) (pb lv : Nat) (ts : List Tk) (W : World) (h : PsAt W pb ts lv) (hf : Fine ts) (hlv : lv ≤ 300) (r : Res Ex) (hr : letP E lv q ts = r) (ho : r ≠ .out) :
    Calls Tryd.prog 30 #[.pointer (some ⟨pb, 0, none⟩), .int .i64 q] W (PaPost pb lv 11 rEx r W) := by
  obtain ⟨t, tl, rfl⟩ := hf.ne
  obtain ⟨W1, hW1⟩ : ∃ W1, W.alloc (.cells #[.int .i64 0, .string ⟨#[]⟩, .int .i64 0, .int .i64 0, .string ⟨#[]⟩, .int .i64 0, .slice none 0 0, .slice none 0 0, .slice none 0 0, .slice none 0 0, .int .i64 0] 32) = W1 := ⟨_, rfl⟩
  have hnew : Below W.heap.size W W1 := by rw [← hW1]; exact (Below.refl _ _).alloc (Nat.le_refl _) _
  have hres : Blk W1 W.heap.size 32 #[.int .i64 0, .string ⟨#[]⟩, .int .i64 0, .int .i64 0, .string ⟨#[]⟩, .int .i64 0, .slice none 0 0, .slice none 0 0, .slice none 0 0, .slice none 0 0, .int .i64 0] := by rw [← hW1]; exact Blk.new _ _ _
  have hs1 := h.later hnew
  have hlt := h.lt
  have hsz : W1.heap.size = W.heap.size + 1 := by rw [← hW1]; simp
  have HW1 := Lib.hid hW1
  have HN := Lib.hid hnew
  have HRS := Lib.hid hres
  have HS1 := Lib.hid hs1
  have HSZ := Lib.hid hsz
  have hp1 : Par pb W1 W1 := Chg.refl _ _
  clear hW1 hnew hres hs1 hsz h
  have HF := Lib.hid hf
  have HO := Lib.hid ho
  have HR := Lib.hid hr
  clear hf hr ho
  have hmf : ∀ w : World, (Instr.makeFunc (.func 50) #[.pointer (some ⟨pb, 0, none⟩)] #[]).run Tryd.prog w = .ok (.func (.func 50) #[.pointer (some ⟨pb, 0, none⟩)] #[]) w := fun _ => rfl
  cases hb : seesB t sRec with
  | true =>
    have C1 := Lib.hid (fun W2 (hs : PsAt W2 pb (t :: tl) lv) => skip_any pb lv t tl sRec W2 hs true hb)
    have HFT := Lib.hid (show Fine tl from HF.out.tail_ (seesB_kind hb))
    have hre : letP E lv q (t :: tl) = letQ E lv q 1 tl := by unfold letP; simp [seesH_cons, hb]
    rw [hre] at HR
    clear hb hre
    cases hA : someP sAnd (bindP E lv) tl with
    | out => exact absurd (by rw [← HR.out]; unfold letQ; rw [hA]; rfl) HO.out
    | bad c p =>
      obtain rfl : r = .bad c p := by rw [← HR.out]; unfold letQ; rw [hA]; rfl
      have C2 := Lib.hid (fun W2 (hs : PsAt W2 pb tl lv) => some_bd lv sAnd (bindP E lv) (bind_ok E HE lv hlv) pb tl W2 hs HFT.out _ hA (by simp))
      go_enter Tryd.func30, Tryd.ntmps30
      go_upto_region 1 with fail
      rw [HW1.out]
      go_upto_region 2 with fail
      obtain ⟨w2, hw2⟩ : ∃ w2, W1.alloc (.cells #[.int .i64 7, .string ⟨#[]⟩, .int .i64 0, .int .i64 0, .string ⟨#[]⟩, .int .i64 0, .slice none 0 0, .slice none 0 0, .slice none 0 0, .slice none 0 0, .int .i64 q] 32) = w2 := ⟨_, rfl⟩
      have hn2 : Below W1.heap.size W1 w2 := by rw [← hw2]; exact below_new' _ _
      have hx2 : Blk w2 (W.heap.size + 1) 32 #[.int .i64 7, .string ⟨#[]⟩, .int .i64 0, .int .i64 0, .string ⟨#[]⟩, .int .i64 0, .slice none 0 0, .slice none 0 0, .slice none 0 0, .slice none 0 0, .int .i64 q] := by rw [← hw2, ← HSZ.out]; exact Blk.new _ _ _
      rw [hw2]
      clear hw2
      have hsw2 := HS1.out.later hn2
      have hsz := HSZ.out
      have hl2 := hsw2.lt
      have hz2 := hn2.size
      have hg2 := hx2.lt
      go_upto_region 3 with (go_at_call 28; (with_reducible refine (C1.out _ hsw2).mono ?_); rintro e w3 ⟨rfl, hp3, hsw3⟩; (have hx3 : Blk w3 (W.heap.size + 1) 32 #[.int .i64 7, .string ⟨#[]⟩, .int .i64 0, .int .i64 0, .string ⟨#[]⟩, .int .i64 0, .slice none 0 0, .slice none 0 0, .slice none 0 0, .slice none 0 0, .int .i64 q] := (hp3.block _ hx2.lt (by omega)).trans hx2); (have hpw3 : Par pb W1 w3 := (Par.of_below hn2).trans hp3); (have m2 := hx3.cell 2); (simp only [List.getElem?_toArray, List.getElem?_cons_succ, List.getElem?_cons_zero] at m2); (have n2 := hx3.frozen 2))
      obtain ⟨w4, hw4⟩ : ∃ w4, w3.setCell ⟨W.heap.size + 1, 2, none⟩ (.int .i64 1) = w4 := ⟨_, rfl⟩
      have hx4 : Blk w4 (W.heap.size + 1) 32 #[.int .i64 7, .string ⟨#[]⟩, .int .i64 1, .int .i64 0, .string ⟨#[]⟩, .int .i64 0, .slice none 0 0, .slice none 0 0, .slice none 0 0, .slice none 0 0, .int .i64 q] := by rw [← hw4]; simpa using hx3.set_ 2 (.int .i64 1)
      have hpw4 : Par pb W1 w4 := by rw [← hw4]; exact hpw3.set_ (p := ⟨W.heap.size + 1, 2, none⟩) (.inr (by show W1.heap.size ≤ W.heap.size + 1; have := HSZ.out; omega)) _
      have hsw4 : PsAt w4 pb tl lv := by rw [← hw4]; exact hsw3.far_ (by show pb < W.heap.size + 1; omega) _
      go_upto_region 4 with fail
      try rw [hw4]
      clear hw4
      have hz4 := hpw4.size
      have hg4 := hx4.lt
      go_wp2_with (go_at_call 49; (with_reducible refine (C2.out _ hsw4).mono ?_); rintro e w5 ⟨hp5, rfl⟩)
      exact ⟨rfl, (Par.of_below HN.out).trans (hpw4.trans hp5), rfl⟩
    | ok bs ts1 =>
      have C2 := Lib.hid (fun W2 (hs : PsAt W2 pb tl lv) => some_bd lv sAnd (bindP E lv) (bind_ok E HE lv hlv) pb tl W2 hs HFT.out _ hA (by simp))
      have hre : r = (needP sIn ts1).andThen fun _ ts2 => (E lv ts2).andThen fun e ts3 => .ok (.mk 7 ⟨#[]⟩ 1 tyZ [e] [] bs q) ts3 := by rw [← HR.out]; unfold letQ; rw [hA]; rfl
      clear hA
      cases hS : seesH sIn ts1 with
      | false =>
        obtain rfl : r = .bad 110 (posH ts1) := by rw [hre]; simp [needP, hS, Res.andThen]
        have C3 := Lib.hid (fun (v : Tk) (tq : List Tk) (hS : seesH sIn (v :: tq) = false) W2 (hs : PsAt W2 pb (v :: tq) lv) => need_no pb lv v tq sIn W2 hs hS)
        clear hre
        go_enter Tryd.func30, Tryd.ntmps30
        go_upto_region 1 with fail
        rw [HW1.out]
        go_upto_region 2 with fail
        obtain ⟨w2, hw2⟩ : ∃ w2, W1.alloc (.cells #[.int .i64 7, .string ⟨#[]⟩, .int .i64 0, .int .i64 0, .string ⟨#[]⟩, .int .i64 0, .slice none 0 0, .slice none 0 0, .slice none 0 0, .slice none 0 0, .int .i64 q] 32) = w2 := ⟨_, rfl⟩
        have hn2 : Below W1.heap.size W1 w2 := by rw [← hw2]; exact below_new' _ _
        have hx2 : Blk w2 (W.heap.size + 1) 32 #[.int .i64 7, .string ⟨#[]⟩, .int .i64 0, .int .i64 0, .string ⟨#[]⟩, .int .i64 0, .slice none 0 0, .slice none 0 0, .slice none 0 0, .slice none 0 0, .int .i64 q] := by rw [← hw2, ← HSZ.out]; exact Blk.new _ _ _
        rw [hw2]
        clear hw2
        have hsw2 := HS1.out.later hn2
        have hsz := HSZ.out
        have hl2 := hsw2.lt
        have hz2 := hn2.size
        have hg2 := hx2.lt
        go_upto_region 3 with (go_at_call 28; (with_reducible refine (C1.out _ hsw2).mono ?_); rintro e w3 ⟨rfl, hp3, hsw3⟩; (have hx3 : Blk w3 (W.heap.size + 1) 32 #[.int .i64 7, .string ⟨#[]⟩, .int .i64 0, .int .i64 0, .string ⟨#[]⟩, .int .i64 0, .slice none 0 0, .slice none 0 0, .slice none 0 0, .slice none 0 0, .int .i64 q] := (hp3.block _ hx2.lt (by omega)).trans hx2); (have hpw3 : Par pb W1 w3 := (Par.of_below hn2).trans hp3); (have m2 := hx3.cell 2); (simp only [List.getElem?_toArray, List.getElem?_cons_succ, List.getElem?_cons_zero] at m2); (have n2 := hx3.frozen 2))
        obtain ⟨w4, hw4⟩ : ∃ w4, w3.setCell ⟨W.heap.size + 1, 2, none⟩ (.int .i64 1) = w4 := ⟨_, rfl⟩
        have hx4 : Blk w4 (W.heap.size + 1) 32 #[.int .i64 7, .string ⟨#[]⟩, .int .i64 1, .int .i64 0, .string ⟨#[]⟩, .int .i64 0, .slice none 0 0, .slice none 0 0, .slice none 0 0, .slice none 0 0, .int .i64 q] := by rw [← hw4]; simpa using hx3.set_ 2 (.int .i64 1)
        have hpw4 : Par pb W1 w4 := by rw [← hw4]; exact hpw3.set_ (p := ⟨W.heap.size + 1, 2, none⟩) (.inr (by show W1.heap.size ≤ W.heap.size + 1; have := HSZ.out; omega)) _
        have hsw4 : PsAt w4 pb tl lv := by rw [← hw4]; exact hsw3.far_ (by show pb < W.heap.size + 1; omega) _
        go_upto_region 4 with fail
        try rw [hw4]
        clear hw4
        have hz4 := hpw4.size
        have hg4 := hx4.lt
        go_upto_region 5 with (go_at_call 49; (with_reducible refine (C2.out _ hsw4).mono ?_); rintro e w5 ⟨hp5, ⟨A5, c5, rfl, e1, e2, e3, hrow5⟩, hsw5, hf5⟩; (have hx5 : Blk w5 (W.heap.size + 1) 32 #[.int .i64 7, .string ⟨#[]⟩, .int .i64 1, .int .i64 0, .string ⟨#[]⟩, .int .i64 0, .slice none 0 0, .slice none 0 0, .slice none 0 0, .slice none 0 0, .int .i64 q] := (hp5.block _ hx4.lt (by omega)).trans hx4); (have j9 := hx5.cell 9); (simp only [List.getElem?_toArray, List.getElem?_cons_succ, List.getElem?_cons_zero] at j9); (have g9 := hx5.frozen 9); (have hpw5 : Par pb W1 w5 := hpw4.trans hp5); (obtain ⟨q6, hq6⟩ : ∃ q6, bs.length = q6 := ⟨_, rfl⟩); rw [hq6])
        obtain ⟨w6, hw6⟩ : ∃ w6, w5.setCell ⟨W.heap.size + 1, 9, none⟩ (.slice A5 q6 c5) = w6 := ⟨_, rfl⟩
        have hx6 : Blk w6 (W.heap.size + 1) 32 #[.int .i64 7, .string ⟨#[]⟩, .int .i64 1, .int .i64 0, .string ⟨#[]⟩, .int .i64 0, .slice none 0 0, .slice none 0 0, .slice none 0 0, .slice A5 q6 c5, .int .i64 q] := by rw [← hw6]; simpa using hx5.set_ 9 (.slice A5 q6 c5)
        have hpw6 : Par pb W1 w6 := by rw [← hw6]; exact hpw5.set_ (p := ⟨W.heap.size + 1, 9, none⟩) (.inr (by show W1.heap.size ≤ W.heap.size + 1; have := HSZ.out; omega)) _
        have hsw6 : PsAt w6 pb ts1 lv := by rw [← hw6]; exact hsw5.far_ (by show pb < W.heap.size + 1; omega) _
        have hL6 : Low (exX (lowX (W.heap.size + 1)) (W.heap.size + 1)) w5 w6 := by rw [← hw6]; exact Low.set_ (p := ⟨W.heap.size + 1, 9, none⟩) (Chg.refl _ _) (.inl (exX_self _ _)) _
        try rw [hw6]
        clear hw6
        obtain ⟨v, tv, rfl⟩ := hf5.ne
        go_wp2_with (go_at_call 47; (with_reducible refine (C3.out _ _ hS _ hsw6).mono ?_); rintro e w7 ⟨rfl, hp7⟩)
        exact ⟨rfl, (Par.of_below HN.out).trans (hpw6.trans hp7), rfl⟩
      | true =>
        have hre2 : r = (E lv ts1.tail).andThen fun e ts3 => .ok (.mk 7 ⟨#[]⟩ 1 tyZ [e] [] bs q) ts3 := by rw [hre]; simp [needP, hS, Res.andThen]
        have C3 := Lib.hid (fun (v : Tk) (tq : List Tk) (hS : seesH sIn (v :: tq) = true) W2 (hs : PsAt W2 pb (v :: tq) lv) => need_yes pb lv v tq sIn W2 hs hS)
        clear hre
        cases hB : E lv ts1.tail with
        | out => exact absurd (by rw [hre2, hB]; rfl) HO.out
        | bad c p =>
          obtain rfl : r = .bad c p := by rw [hre2, hB]; rfl
          have C4 := Lib.hid (fun (hf : Fine ts1.tail) W2 (hs : PsAt W2 pb ts1.tail lv) => HE pb lv ts1.tail W2 hs hf hlv _ hB (by simp))
          clear hre2 hB
          go_enter Tryd.func30, Tryd.ntmps30
          go_upto_region 1 with fail
          rw [HW1.out]
          go_upto_region 2 with fail
          obtain ⟨w2, hw2⟩ : ∃ w2, W1.alloc (.cells #[.int .i64 7, .string ⟨#[]⟩, .int .i64 0, .int .i64 0, .string ⟨#[]⟩, .int .i64 0, .slice none 0 0, .slice none 0 0, .slice none 0 0, .slice none 0 0, .int .i64 q] 32) = w2 := ⟨_, rfl⟩
          have hn2 : Below W1.heap.size W1 w2 := by rw [← hw2]; exact below_new' _ _
          have hx2 : Blk w2 (W.heap.size + 1) 32 #[.int .i64 7, .string ⟨#[]⟩, .int .i64 0, .int .i64 0, .string ⟨#[]⟩, .int .i64 0, .slice none 0 0, .slice none 0 0, .slice none 0 0, .slice none 0 0, .int .i64 q] := by rw [← hw2, ← HSZ.out]; exact Blk.new _ _ _
          rw [hw2]
          clear hw2
          have hsw2 := HS1.out.later hn2
          have hsz := HSZ.out
          have hl2 := hsw2.lt
          have hz2 := hn2.size
          have hg2 := hx2.lt
          go_upto_region 3 with (go_at_call 28; (with_reducible refine (C1.out _ hsw2).mono ?_); rintro e w3 ⟨rfl, hp3, hsw3⟩; (have hx3 : Blk w3 (W.heap.size + 1) 32 #[.int .i64 7, .string ⟨#[]⟩, .int .i64 0, .int .i64 0, .string ⟨#[]⟩, .int .i64 0, .slice none 0 0, .slice none 0 0, .slice none 0 0, .slice none 0 0, .int .i64 q] := (hp3.block _ hx2.lt (by omega)).trans hx2); (have hpw3 : Par pb W1 w3 := (Par.of_below hn2).trans hp3); (have m2 := hx3.cell 2); (simp only [List.getElem?_toArray, List.getElem?_cons_succ, List.getElem?_cons_zero] at m2); (have n2 := hx3.frozen 2))
          obtain ⟨w4, hw4⟩ : ∃ w4, w3.setCell ⟨W.heap.size + 1, 2, none⟩ (.int .i64 1) = w4 := ⟨_, rfl⟩
          have hx4 : Blk w4 (W.heap.size + 1) 32 #[.int .i64 7, .string ⟨#[]⟩, .int .i64 1, .int .i64 0, .string ⟨#[]⟩, .int .i64 0, .slice none 0 0, .slice none 0 0, .slice none 0 0, .slice none 0 0, .int .i64 q] := by rw [← hw4]; simpa using hx3.set_ 2 (.int .i64 1)
          have hpw4 : Par pb W1 w4 := by rw [← hw4]; exact hpw3.set_ (p := ⟨W.heap.size + 1, 2, none⟩) (.inr (by show W1.heap.size ≤ W.heap.size + 1; have := HSZ.out; omega)) _
          have hsw4 : PsAt w4 pb tl lv := by rw [← hw4]; exact hsw3.far_ (by show pb < W.heap.size + 1; omega) _
          go_upto_region 4 with fail
          try rw [hw4]
          clear hw4
          have hz4 := hpw4.size
          have hg4 := hx4.lt
          go_upto_region 5 with (go_at_call 49; (with_reducible refine (C2.out _ hsw4).mono ?_); rintro e w5 ⟨hp5, ⟨A5, c5, rfl, e1, e2, e3, hrow5⟩, hsw5, hf5⟩; (have hx5 : Blk w5 (W.heap.size + 1) 32 #[.int .i64 7, .string ⟨#[]⟩, .int .i64 1, .int .i64 0, .string ⟨#[]⟩, .int .i64 0, .slice none 0 0, .slice none 0 0, .slice none 0 0, .slice none 0 0, .int .i64 q] := (hp5.block _ hx4.lt (by omega)).trans hx4); (have j9 := hx5.cell 9); (simp only [List.getElem?_toArray, List.getElem?_cons_succ, List.getElem?_cons_zero] at j9); (have g9 := hx5.frozen 9); (have hpw5 : Par pb W1 w5 := hpw4.trans hp5); (obtain ⟨q6, hq6⟩ : ∃ q6, bs.length = q6 := ⟨_, rfl⟩); rw [hq6])
          obtain ⟨w6, hw6⟩ : ∃ w6, w5.setCell ⟨W.heap.size + 1, 9, none⟩ (.slice A5 q6 c5) = w6 := ⟨_, rfl⟩
          have hx6 : Blk w6 (W.heap.size + 1) 32 #[.int .i64 7, .string ⟨#[]⟩, .int .i64 1, .int .i64 0, .string ⟨#[]⟩, .int .i64 0, .slice none 0 0, .slice none 0 0, .slice none 0 0, .slice A5 q6 c5, .int .i64 q] := by rw [← hw6]; simpa using hx5.set_ 9 (.slice A5 q6 c5)
          have hpw6 : Par pb W1 w6 := by rw [← hw6]; exact hpw5.set_ (p := ⟨W.heap.size + 1, 9, none⟩) (.inr (by show W1.heap.size ≤ W.heap.size + 1; have := HSZ.out; omega)) _
          have hsw6 : PsAt w6 pb ts1 lv := by rw [← hw6]; exact hsw5.far_ (by show pb < W.heap.size + 1; omega) _
          have hL6 : Low (exX (lowX (W.heap.size + 1)) (W.heap.size + 1)) w5 w6 := by rw [← hw6]; exact Low.set_ (p := ⟨W.heap.size + 1, 9, none⟩) (Chg.refl _ _) (.inl (exX_self _ _)) _
          try rw [hw6]
          clear hw6
          obtain ⟨v, tv, rfl⟩ := hf5.ne
          have C4q := Lib.hid (fun W2 (hs : PsAt W2 pb tv lv) => C4.out (hf5.sees hS) W2 hs)
          go_wp2_with (first | (go_at_call 47; (with_reducible refine (C3.out _ _ hS _ hsw6).mono ?_); rintro e w7 ⟨rfl, hp7, hsw7⟩; (have hsq7 : PsAt w7 pb tv lv := hsw7)) | (go_at_call 7; (with_reducible refine (C4q.out _ hsq7).mono ?_); rintro e w8 ⟨hp8, rfl⟩))
          exact ⟨rfl, (Par.of_below HN.out).trans ((hpw6.trans hp7).trans hp8), rfl⟩
        | ok x ts3 =>
          obtain rfl : r = .ok (.mk 7 ⟨#[]⟩ 1 tyZ [x] [] bs q) ts3 := by rw [hre2, hB]; rfl
          have C4 := Lib.hid (fun (hf : Fine ts1.tail) W2 (hs : PsAt W2 pb ts1.tail lv) => HE pb lv ts1.tail W2 hs hf hlv _ hB (by simp))
          clear hre2 hB
          go_enter Tryd.func30, Tryd.ntmps30
          go_upto_region 1 with fail
          rw [HW1.out]
          go_upto_region 2 with fail
          obtain ⟨w2, hw2⟩ : ∃ w2, W1.alloc (.cells #[.int .i64 7, .string ⟨#[]⟩, .int .i64 0, .int .i64 0, .string ⟨#[]⟩, .int .i64 0, .slice none 0 0, .slice none 0 0, .slice none 0 0, .slice none 0 0, .int .i64 q] 32) = w2 := ⟨_, rfl⟩
          have hn2 : Below W1.heap.size W1 w2 := by rw [← hw2]; exact below_new' _ _
          have hx2 : Blk w2 (W.heap.size + 1) 32 #[.int .i64 7, .string ⟨#[]⟩, .int .i64 0, .int .i64 0, .string ⟨#[]⟩, .int .i64 0, .slice none 0 0, .slice none 0 0, .slice none 0 0, .slice none 0 0, .int .i64 q] := by rw [← hw2, ← HSZ.out]; exact Blk.new _ _ _
          rw [hw2]
          clear hw2
          have hsw2 := HS1.out.later hn2
          have hsz := HSZ.out
          have hl2 := hsw2.lt
          have hz2 := hn2.size
          have hg2 := hx2.lt
          go_upto_region 3 with (go_at_call 28; (with_reducible refine (C1.out _ hsw2).mono ?_); rintro e w3 ⟨rfl, hp3, hsw3⟩; (have hx3 : Blk w3 (W.heap.size + 1) 32 #[.int .i64 7, .string ⟨#[]⟩, .int .i64 0, .int .i64 0, .string ⟨#[]⟩, .int .i64 0, .slice none 0 0, .slice none 0 0, .slice none 0 0, .slice none 0 0, .int .i64 q] := (hp3.block _ hx2.lt (by omega)).trans hx2); (have hpw3 : Par pb W1 w3 := (Par.of_below hn2).trans hp3); (have m2 := hx3.cell 2); (simp only [List.getElem?_toArray, List.getElem?_cons_succ, List.getElem?_cons_zero] at m2); (have n2 := hx3.frozen 2))
          obtain ⟨w4, hw4⟩ : ∃ w4, w3.setCell ⟨W.heap.size + 1, 2, none⟩ (.int .i64 1) = w4 := ⟨_, rfl⟩
          have hx4 : Blk w4 (W.heap.size + 1) 32 #[.int .i64 7, .string ⟨#[]⟩, .int .i64 1, .int .i64 0, .string ⟨#[]⟩, .int .i64 0, .slice none 0 0, .slice none 0 0, .slice none 0 0, .slice none 0 0, .int .i64 q] := by rw [← hw4]; simpa using hx3.set_ 2 (.int .i64 1)
          have hpw4 : Par pb W1 w4 := by rw [← hw4]; exact hpw3.set_ (p := ⟨W.heap.size + 1, 2, none⟩) (.inr (by show W1.heap.size ≤ W.heap.size + 1; have := HSZ.out; omega)) _
          have hsw4 : PsAt w4 pb tl lv := by rw [← hw4]; exact hsw3.far_ (by show pb < W.heap.size + 1; omega) _
          go_upto_region 4 with fail
          try rw [hw4]
          clear hw4
          have hz4 := hpw4.size
          have hg4 := hx4.lt
          go_upto_region 5 with (go_at_call 49; (with_reducible refine (C2.out _ hsw4).mono ?_); rintro e w5 ⟨hp5, ⟨A5, c5, rfl, e1, e2, e3, hrow5⟩, hsw5, hf5⟩; (have hx5 : Blk w5 (W.heap.size + 1) 32 #[.int .i64 7, .string ⟨#[]⟩, .int .i64 1, .int .i64 0, .string ⟨#[]⟩, .int .i64 0, .slice none 0 0, .slice none 0 0, .slice none 0 0, .slice none 0 0, .int .i64 q] := (hp5.block _ hx4.lt (by omega)).trans hx4); (have j9 := hx5.cell 9); (simp only [List.getElem?_toArray, List.getElem?_cons_succ, List.getElem?_cons_zero] at j9); (have g9 := hx5.frozen 9); (have hpw5 : Par pb W1 w5 := hpw4.trans hp5); (obtain ⟨q6, hq6⟩ : ∃ q6, bs.length = q6 := ⟨_, rfl⟩); rw [hq6])
          obtain ⟨w6, hw6⟩ : ∃ w6, w5.setCell ⟨W.heap.size + 1, 9, none⟩ (.slice A5 q6 c5) = w6 := ⟨_, rfl⟩
          have hx6 : Blk w6 (W.heap.size + 1) 32 #[.int .i64 7, .string ⟨#[]⟩, .int .i64 1, .int .i64 0, .string ⟨#[]⟩, .int .i64 0, .slice none 0 0, .slice none 0 0, .slice none 0 0, .slice A5 q6 c5, .int .i64 q] := by rw [← hw6]; simpa using hx5.set_ 9 (.slice A5 q6 c5)
          have hpw6 : Par pb W1 w6 := by rw [← hw6]; exact hpw5.set_ (p := ⟨W.heap.size + 1, 9, none⟩) (.inr (by show W1.heap.size ≤ W.heap.size + 1; have := HSZ.out; omega)) _
          have hsw6 : PsAt w6 pb ts1 lv := by rw [← hw6]; exact hsw5.far_ (by show pb < W.heap.size + 1; omega) _
          have hL6 : Low (exX (lowX (W.heap.size + 1)) (W.heap.size + 1)) w5 w6 := by rw [← hw6]; exact Low.set_ (p := ⟨W.heap.size + 1, 9, none⟩) (Chg.refl _ _) (.inl (exX_self _ _)) _
          try rw [hw6]
          clear hw6
          obtain ⟨v, tv, rfl⟩ := hf5.ne
          have C4q := Lib.hid (fun W2 (hs : PsAt W2 pb tv lv) => C4.out (hf5.sees hS) W2 hs)
          go_upto_region 7 with (first | (go_at_call 47; (with_reducible refine (C3.out _ _ hS _ hsw6).mono ?_); rintro e w7 ⟨rfl, hp7, hsw7⟩; (have hsq7 : PsAt w7 pb tv lv := hsw7)) | (go_at_call 7; (with_reducible refine (C4q.out _ hsq7).mono ?_); rintro e w8 ⟨hp8, ⟨cs, hlen, rfl, hty⟩, hsw8, hf8⟩; (obtain ⟨x0, x1, x2, x3, x4, x5, x6, x7, x8, x9, x10, rfl⟩ := eleven_of hlen); (have s0 := store_one' x0 (ex_ones' hty x0 (by simp))); (have s1 := store_one' x1 (ex_ones' hty x1 (by simp))); (have s2 := store_one' x2 (ex_ones' hty x2 (by simp))); (have s3 := store_one' x3 (ex_ones' hty x3 (by simp))); (have s4 := store_one' x4 (ex_ones' hty x4 (by simp))); (have s5 := store_one' x5 (ex_ones' hty x5 (by simp))); (have s6 := store_one' x6 (ex_ones' hty x6 (by simp))); (have s7 := store_one' x7 (ex_ones' hty x7 (by simp))); (have s8 := store_one' x8 (ex_ones' hty x8 (by simp))); (have s9 := store_one' x9 (ex_ones' hty x9 (by simp))); (have s10 := store_one' x10 (ex_ones' hty x10 (by simp))); (have hx8 : Blk w8 (W.heap.size + 1) 32 #[.int .i64 7, .string ⟨#[]⟩, .int .i64 1, .int .i64 0, .string ⟨#[]⟩, .int .i64 0, .slice none 0 0, .slice none 0 0, .slice none 0 0, .slice A5 q6 c5, .int .i64 q] := ((hp7.trans hp8).block _ hx6.lt (by omega)).trans hx6); (have hx9 := hx8.alloc (.cells #[x0, x1, x2, x3, x4, x5, x6, x7, x8, x9, x10] 32)); (have j7 := hx9.cell 7); (simp only [List.getElem?_toArray, List.getElem?_cons_succ, List.getElem?_cons_zero] at j7); (have g7 := hx9.frozen 7)))
          obtain ⟨w9, hw9⟩ : ∃ w9, w8.alloc (.cells #[x0, x1, x2, x3, x4, x5, x6, x7, x8, x9, x10] 32) = w9 := ⟨_, rfl⟩
          have hn9 : Below w8.heap.size w8 w9 := by rw [← hw9]; exact below_new' _ _
          have hk9 : Blk w9 w8.heap.size 32 #[x0, x1, x2, x3, x4, x5, x6, x7, x8, x9, x10] := by rw [← hw9]; exact Blk.new _ _ _
          rw [hw9] at hx9 j7 g7 ⊢
          obtain ⟨w10, hw10⟩ : ∃ w10, w9.setCell ⟨W.heap.size + 1, 7, none⟩ (.slice (some ⟨w8.heap.size, 0, none⟩) 1 1) = w10 := ⟨_, rfl⟩
          have hx10 : Blk w10 (W.heap.size + 1) 32 #[.int .i64 7, .string ⟨#[]⟩, .int .i64 1, .int .i64 0, .string ⟨#[]⟩, .int .i64 0, .slice none 0 0, .slice (some ⟨w8.heap.size, 0, none⟩) 1 1, .slice none 0 0, .slice A5 q6 c5, .int .i64 q] := by rw [← hw10]; simpa using hx9.set_ 7 (.slice (some ⟨w8.heap.size, 0, none⟩) 1 1)
          have hpw9 : Par pb W1 w9 := (hpw6.trans (hp7.trans hp8)).trans (Par.of_below hn9)
          have hpw10 : Par pb W1 w10 := by rw [← hw10]; exact hpw9.set_ (p := ⟨W.heap.size + 1, 7, none⟩) (.inr (by show W1.heap.size ≤ W.heap.size + 1; have := HSZ.out; omega)) _
          have hsw10 : PsAt w10 pb ts3 lv := by rw [← hw10]; exact (hsw8.later hn9).far_ (by show pb < W.heap.size + 1; omega) _
          have hL10 : Low (exX (lowX (W.heap.size + 1)) (W.heap.size + 1)) w9 w10 := by rw [← hw10]; exact Low.set_ (p := ⟨W.heap.size + 1, 7, none⟩) (Chg.refl _ _) (.inl (exX_self _ _)) _
          have hz8 : W1.heap.size ≤ w8.heap.size := (hpw6.trans (hp7.trans hp8)).size
          have hz7 : w6.heap.size ≤ w7.heap.size := hp7.size
          have hg6 := hx6.lt
          have hg8 := hx8.lt
          have hk10 : Blk w10 w8.heap.size 32 #[x0, x1, x2, x3, x4, x5, x6, x7, x8, x9, x10] := by rw [← hw10]; exact hk9.far (p := ⟨W.heap.size + 1, 7, none⟩) (by show w8.heap.size ≠ W.heap.size + 1; omega) _
          try rw [hw10]
          clear hw10 hw9
          have u0 := hx10.cell 0
          have u1 := hx10.cell 1
          have u2 := hx10.cell 2
          have u3 := hx10.cell 3
          have u4 := hx10.cell 4
          have u5 := hx10.cell 5
          have u6 := hx10.cell 6
          have u7 := hx10.cell 7
          have u8 := hx10.cell 8
          have u9 := hx10.cell 9
          have u10 := hx10.cell 10
          simp only [List.getElem?_toArray, List.getElem?_cons_succ, List.getElem?_cons_zero] at u0 u1 u2 u3 u4 u5 u6 u7 u8 u9 u10
          have hBw10 : Blk w10 W.heap.size 32 #[.int .i64 0, .string ⟨#[]⟩, .int .i64 0, .int .i64 0, .string ⟨#[]⟩, .int .i64 0, .slice none 0 0, .slice none 0 0, .slice none 0 0, .slice none 0 0, .int .i64 0] := (hpw10.block _ HRS.out.lt (by omega : ¬ W.heap.size = pb)).trans HRS.out
          have r0w10 := hBw10.cell 0
          have r1w10 := hBw10.cell 1
          have r2w10 := hBw10.cell 2
          have r3w10 := hBw10.cell 3
          have r4w10 := hBw10.cell 4
          have r5w10 := hBw10.cell 5
          have r6w10 := hBw10.cell 6
          have r7w10 := hBw10.cell 7
          have r8w10 := hBw10.cell 8
          have r9w10 := hBw10.cell 9
          have r10w10 := hBw10.cell 10
          simp only [List.getElem?_toArray, List.getElem?_cons_succ, List.getElem?_cons_zero] at r0w10 r1w10 r2w10 r3w10 r4w10 r5w10 r6w10 r7w10 r8w10 r9w10 r10w10
          have f0w10 := hBw10.frozen 0
          have f1w10 := hBw10.frozen 1
          have f2w10 := hBw10.frozen 2
          have f3w10 := hBw10.frozen 3
          have f4w10 := hBw10.frozen 4
          have f5w10 := hBw10.frozen 5
          have f6w10 := hBw10.frozen 6
          have f7w10 := hBw10.frozen 7
          have f8w10 := hBw10.frozen 8
          have f9w10 := hBw10.frozen 9
          have f10w10 := hBw10.frozen 10
          go_wp2_with fail
          subst hq6
          have hpB : exX (lowX (W.heap.size + 1)) (W.heap.size + 1) pb = true := by rw [exX_iff, lowX_iff]; left; omega
          have hLp : ∀ {a b : World}, Par pb a b → Low (exX (lowX (W.heap.size + 1)) (W.heap.size + 1)) a b := fun h => h.mono fun k _ hk => by subst hk; exact hpB
          have hrow10 : RowM rBd 13 (exX (lowX (W.heap.size + 1)) (W.heap.size + 1)) w10 A5 bs := (((((hrow5.weaken fun k _ hk => by rw [exX_iff, lowX_iff] at hk; rw [lowX_iff]; omega).later hL6).later (hLp (hp7.trans hp8))).later (Low.of_below hn9))).later hL10
          have hx10' : rEx.M (exX (lowX (W.heap.size + 1)) (W.heap.size + 1)) w10 [x0, x1, x2, x3, x4, x5, x6, x7, x8, x9, x10] x := (((hty.weaken fun k _ hk => by rw [exX_iff, lowX_iff] at hk; rw [lowX_iff]; omega).later (Low.of_below hn9))).later hL10
          have hkrow : RowM rEx 11 (exX (lowX (W.heap.size + 1)) (W.heap.size + 1)) w10 (some ⟨w8.heap.size, 0, none⟩) [x] := RowM.one (xs := [x0, x1, x2, x3, x4, x5, x6, x7, x8, x9, x10]) (by simpa using hk10) (exX_no (lowX_no (by omega)) (by omega)) hx10'
          have hfin : rEx.M (lowX (W.heap.size + 1)) w10 [.int .i64 7, .string ⟨#[]⟩, .int .i64 1, .int .i64 0, .string ⟨#[]⟩, .int .i64 0, .slice none 0 0, .slice (some ⟨w8.heap.size, 0, none⟩) 1 1, .slice none 0 0, .slice A5 bs.length c5, .int .i64 q] (.mk 7 ⟨#[]⟩ 1 tyZ [x] [] bs q) := (ExM.mk2_ (T := tyZc) (ks := [x]) (als := []) (bs := bs) (c := 1) (ca := 0) (Aa := none) (ok_lit _ (by omega) (by omega)) (by simp [ByteArray.size]) (ok_lit _ (by omega) (by omega)) hq (TyM.leaf _ _ 0 ⟨#[]⟩ (ok_lit _ (by omega) (by omega)) (by simp [ByteArray.size])) (by simp) (by simp [maxLen]) (by simp) (by simp [maxLen]) e1 e2 (by simp) (by simp) e3 hkrow (RowM.nil_ _ _ _ _) hrow10).of_exX
          obtain ⟨w9, hw9⟩ : ∃ w9, (((((((((((w10).setCell ⟨W.heap.size, 0, none⟩ (.int .i64 7)).setCell ⟨W.heap.size, 1, none⟩ (.string ⟨#[]⟩)).setCell ⟨W.heap.size, 2, none⟩ (.int .i64 1)).setCell ⟨W.heap.size, 3, none⟩ (.int .i64 0)).setCell ⟨W.heap.size, 4, none⟩ (.string ⟨#[]⟩)).setCell ⟨W.heap.size, 5, none⟩ (.int .i64 0)).setCell ⟨W.heap.size, 6, none⟩ (.slice none 0 0)).setCell ⟨W.heap.size, 7, none⟩ (.slice (some ⟨w8.heap.size, 0, none⟩) 1 1)).setCell ⟨W.heap.size, 8, none⟩ (.slice none 0 0)).setCell ⟨W.heap.size, 9, none⟩ (.slice A5 bs.length c5)).setCell ⟨W.heap.size, 10, none⟩ (.int .i64 q) = w9 := ⟨_, rfl⟩
          have hPW := (Par.of_below (pb := pb) HN.out).trans hpw10
          have hB9 := set11 hBw10 (.int .i64 7) (.string ⟨#[]⟩) (.int .i64 1) (.int .i64 0) (.string ⟨#[]⟩) (.int .i64 0) (.slice none 0 0) (.slice (some ⟨w8.heap.size, 0, none⟩) 1 1) (.slice none 0 0) (.slice A5 bs.length c5) (.int .i64 q)
          have hb9 := Par.set11 hPW (Nat.le_refl _) (.int .i64 7) (.string ⟨#[]⟩) (.int .i64 1) (.int .i64 0) (.string ⟨#[]⟩) (.int .i64 0) (.slice none 0 0) (.slice (some ⟨w8.heap.size, 0, none⟩) 1 1) (.slice none 0 0) (.slice A5 bs.length c5) (.int .i64 q)
          have hS9 := PsAt.set11 hsw10 (g := W.heap.size) hlt (.int .i64 7) (.string ⟨#[]⟩) (.int .i64 1) (.int .i64 0) (.string ⟨#[]⟩) (.int .i64 0) (.slice none 0 0) (.slice (some ⟨w8.heap.size, 0, none⟩) 1 1) (.slice none 0 0) (.slice A5 bs.length c5) (.int .i64 q)
          have hL9 : Low (lowX (W.heap.size + 1)) w10 _ := Low.set11 (Chg.refl _ _) (.inl (lowX_self _)) (.int .i64 7) (.string ⟨#[]⟩) (.int .i64 1) (.int .i64 0) (.string ⟨#[]⟩) (.int .i64 0) (.slice none 0 0) (.slice (some ⟨w8.heap.size, 0, none⟩) 1 1) (.slice none 0 0) (.slice A5 bs.length c5) (.int .i64 q)
          rw [hw9] at hB9 hb9 hS9 hL9 ⊢
          have d0 := hB9.cell 0
          have d1 := hB9.cell 1
          have d2 := hB9.cell 2
          have d3 := hB9.cell 3
          have d4 := hB9.cell 4
          have d5 := hB9.cell 5
          have d6 := hB9.cell 6
          have d7 := hB9.cell 7
          have d8 := hB9.cell 8
          have d9 := hB9.cell 9
          have d10 := hB9.cell 10
          simp only [List.getElem?_toArray, List.getElem?_cons_succ, List.getElem?_cons_zero] at d0 d1 d2 d3 d4 d5 d6 d7 d8 d9 d10
          exact bodyPost_ret (v := .agg #[.int .i64 7, .string ⟨#[]⟩, .int .i64 1, .int .i64 0, .string ⟨#[]⟩, .int .i64 0, .slice none 0 0, .slice (some ⟨w8.heap.size, 0, none⟩) 1 1, .slice none 0 0, .slice A5 bs.length c5, .int .i64 q]) (by simp [results, Tryd.results30, go_sem, d0, d1, d2, d3, d4, d5, d6, d7, d8, d9, d10]) rfl ⟨hb9, ⟨[.int .i64 7, .string ⟨#[]⟩, .int .i64 1, .int .i64 0, .string ⟨#[]⟩, .int .i64 0, .slice none 0 0, .slice (some ⟨w8.heap.size, 0, none⟩) 1 1, .slice none 0 0, .slice A5 bs.length c5, .int .i64 q], rfl, rfl, (hfin.later hL9).wk (by omega)⟩, hS9, hf8⟩
  | false =>
    have C1 := Lib.hid (fun W2 (hs : PsAt W2 pb (t :: tl) lv) => skip_any pb lv t tl sRec W2 hs false hb)
    have HFT := Lib.hid (show Fine (t :: tl) from HF.out)
    have hre : letP E lv q (t :: tl) = letQ E lv q 0 (t :: tl) := by unfold letP; simp [seesH_cons, hb]
    rw [hre] at HR
    clear hb hre
    cases hA : someP sAnd (bindP E lv) (t :: tl) with
    | out => exact absurd (by rw [← HR.out]; unfold letQ; rw [hA]; rfl) HO.out
    | bad c p =>
      obtain rfl : r = .bad c p := by rw [← HR.out]; unfold letQ; rw [hA]; rfl
      have C2 := Lib.hid (fun W2 (hs : PsAt W2 pb (t :: tl) lv) => some_bd lv sAnd (bindP E lv) (bind_ok E HE lv hlv) pb (t :: tl) W2 hs HFT.out _ hA (by simp))
      go_enter Tryd.func30, Tryd.ntmps30
      go_upto_region 1 with fail
      rw [HW1.out]
      go_upto_region 2 with fail
      obtain ⟨w2, hw2⟩ : ∃ w2, W1.alloc (.cells #[.int .i64 7, .string ⟨#[]⟩, .int .i64 0, .int .i64 0, .string ⟨#[]⟩, .int .i64 0, .slice none 0 0, .slice none 0 0, .slice none 0 0, .slice none 0 0, .int .i64 q] 32) = w2 := ⟨_, rfl⟩
      have hn2 : Below W1.heap.size W1 w2 := by rw [← hw2]; exact below_new' _ _
      have hx2 : Blk w2 (W.heap.size + 1) 32 #[.int .i64 7, .string ⟨#[]⟩, .int .i64 0, .int .i64 0, .string ⟨#[]⟩, .int .i64 0, .slice none 0 0, .slice none 0 0, .slice none 0 0, .slice none 0 0, .int .i64 q] := by rw [← hw2, ← HSZ.out]; exact Blk.new _ _ _
      rw [hw2]
      clear hw2
      have hsw2 := HS1.out.later hn2
      have hsz := HSZ.out
      have hl2 := hsw2.lt
      have hz2 := hn2.size
      have hg2 := hx2.lt
      go_upto_region 4 with (go_at_call 28; (with_reducible refine (C1.out _ hsw2).mono ?_); rintro e w3 ⟨rfl, hp3, hsw3⟩; (have hx3 : Blk w3 (W.heap.size + 1) 32 #[.int .i64 7, .string ⟨#[]⟩, .int .i64 0, .int .i64 0, .string ⟨#[]⟩, .int .i64 0, .slice none 0 0, .slice none 0 0, .slice none 0 0, .slice none 0 0, .int .i64 q] := (hp3.block _ hx2.lt (by omega)).trans hx2); (have hpw3 : Par pb W1 w3 := (Par.of_below hn2).trans hp3))
      have hx4 := hx3
      have hpw4 := hpw3
      have hsw4 : PsAt w3 pb (t :: tl) lv := hsw3
      have hz4 := hpw4.size
      have hg4 := hx4.lt
      go_wp2_with (go_at_call 49; (with_reducible refine (C2.out _ hsw4).mono ?_); rintro e w5 ⟨hp5, rfl⟩)
      exact ⟨rfl, (Par.of_below HN.out).trans (hpw4.trans hp5), rfl⟩
    | ok bs ts1 =>
      have C2 := Lib.hid (fun W2 (hs : PsAt W2 pb (t :: tl) lv) => some_bd lv sAnd (bindP E lv) (bind_ok E HE lv hlv) pb (t :: tl) W2 hs HFT.out _ hA (by simp))
      have hre : r = (needP sIn ts1).andThen fun _ ts2 => (E lv ts2).andThen fun e ts3 => .ok (.mk 7 ⟨#[]⟩ 0 tyZ [e] [] bs q) ts3 := by rw [← HR.out]; unfold letQ; rw [hA]; rfl
      clear hA
      cases hS : seesH sIn ts1 with
      | false =>
        obtain rfl : r = .bad 110 (posH ts1) := by rw [hre]; simp [needP, hS, Res.andThen]
        have C3 := Lib.hid (fun (v : Tk) (tq : List Tk) (hS : seesH sIn (v :: tq) = false) W2 (hs : PsAt W2 pb (v :: tq) lv) => need_no pb lv v tq sIn W2 hs hS)
        clear hre
        go_enter Tryd.func30, Tryd.ntmps30
        go_upto_region 1 with fail
        rw [HW1.out]
        go_upto_region 2 with fail
        obtain ⟨w2, hw2⟩ : ∃ w2, W1.alloc (.cells #[.int .i64 7, .string ⟨#[]⟩, .int .i64 0, .int .i64 0, .string ⟨#[]⟩, .int .i64 0, .slice none 0 0, .slice none 0 0, .slice none 0 0, .slice none 0 0, .int .i64 q] 32) = w2 := ⟨_, rfl⟩
        have hn2 : Below W1.heap.size W1 w2 := by rw [← hw2]; exact below_new' _ _
        have hx2 : Blk w2 (W.heap.size + 1) 32 #[.int .i64 7, .string ⟨#[]⟩, .int .i64 0, .int .i64 0, .string ⟨#[]⟩, .int .i64 0, .slice none 0 0, .slice none 0 0, .slice none 0 0, .slice none 0 0, .int .i64 q] := by rw [← hw2, ← HSZ.out]; exact Blk.new _ _ _
        rw [hw2]
        clear hw2
        have hsw2 := HS1.out.later hn2
        have hsz := HSZ.out
        have hl2 := hsw2.lt
        have hz2 := hn2.size
        have hg2 := hx2.lt
        go_upto_region 4 with (go_at_call 28; (with_reducible refine (C1.out _ hsw2).mono ?_); rintro e w3 ⟨rfl, hp3, hsw3⟩; (have hx3 : Blk w3 (W.heap.size + 1) 32 #[.int .i64 7, .string ⟨#[]⟩, .int .i64 0, .int .i64 0, .string ⟨#[]⟩, .int .i64 0, .slice none 0 0, .slice none 0 0, .slice none 0 0, .slice none 0 0, .int .i64 q] := (hp3.block _ hx2.lt (by omega)).trans hx2); (have hpw3 : Par pb W1 w3 := (Par.of_below hn2).trans hp3))
        have hx4 := hx3
        have hpw4 := hpw3
        have hsw4 : PsAt w3 pb (t :: tl) lv := hsw3
        have hz4 := hpw4.size
        have hg4 := hx4.lt
        go_upto_region 5 with (go_at_call 49; (with_reducible refine (C2.out _ hsw4).mono ?_); rintro e w5 ⟨hp5, ⟨A5, c5, rfl, e1, e2, e3, hrow5⟩, hsw5, hf5⟩; (have hx5 : Blk w5 (W.heap.size + 1) 32 #[.int .i64 7, .string ⟨#[]⟩, .int .i64 0, .int .i64 0, .string ⟨#[]⟩, .int .i64 0, .slice none 0 0, .slice none 0 0, .slice none 0 0, .slice none 0 0, .int .i64 q] := (hp5.block _ hx4.lt (by omega)).trans hx4); (have j9 := hx5.cell 9); (simp only [List.getElem?_toArray, List.getElem?_cons_succ, List.getElem?_cons_zero] at j9); (have g9 := hx5.frozen 9); (have hpw5 : Par pb W1 w5 := hpw4.trans hp5); (obtain ⟨q6, hq6⟩ : ∃ q6, bs.length = q6 := ⟨_, rfl⟩); rw [hq6])
        obtain ⟨w6, hw6⟩ : ∃ w6, w5.setCell ⟨W.heap.size + 1, 9, none⟩ (.slice A5 q6 c5) = w6 := ⟨_, rfl⟩
        have hx6 : Blk w6 (W.heap.size + 1) 32 #[.int .i64 7, .string ⟨#[]⟩, .int .i64 0, .int .i64 0, .string ⟨#[]⟩, .int .i64 0, .slice none 0 0, .slice none 0 0, .slice none 0 0, .slice A5 q6 c5, .int .i64 q] := by rw [← hw6]; simpa using hx5.set_ 9 (.slice A5 q6 c5)
        have hpw6 : Par pb W1 w6 := by rw [← hw6]; exact hpw5.set_ (p := ⟨W.heap.size + 1, 9, none⟩) (.inr (by show W1.heap.size ≤ W.heap.size + 1; have := HSZ.out; omega)) _
        have hsw6 : PsAt w6 pb ts1 lv := by rw [← hw6]; exact hsw5.far_ (by show pb < W.heap.size + 1; omega) _
        have hL6 : Low (exX (lowX (W.heap.size + 1)) (W.heap.size + 1)) w5 w6 := by rw [← hw6]; exact Low.set_ (p := ⟨W.heap.size + 1, 9, none⟩) (Chg.refl _ _) (.inl (exX_self _ _)) _
        try rw [hw6]
        clear hw6
        obtain ⟨v, tv, rfl⟩ := hf5.ne
        go_wp2_with (go_at_call 47; (with_reducible refine (C3.out _ _ hS _ hsw6).mono ?_); rintro e w7 ⟨rfl, hp7⟩)
        exact ⟨rfl, (Par.of_below HN.out).trans (hpw6.trans hp7), rfl⟩
      | true =>
        have hre2 : r = (E lv ts1.tail).andThen fun e ts3 => .ok (.mk 7 ⟨#[]⟩ 0 tyZ [e] [] bs q) ts3 := by rw [hre]; simp [needP, hS, Res.andThen]
        have C3 := Lib.hid (fun (v : Tk) (tq : List Tk) (hS : seesH sIn (v :: tq) = true) W2 (hs : PsAt W2 pb (v :: tq) lv) => need_yes pb lv v tq sIn W2 hs hS)
        clear hre
        cases hB : E lv ts1.tail with
        | out => exact absurd (by rw [hre2, hB]; rfl) HO.out
        | bad c p =>
          obtain rfl : r = .bad c p := by rw [hre2, hB]; rfl
          have C4 := Lib.hid (fun (hf : Fine ts1.tail) W2 (hs : PsAt W2 pb ts1.tail lv) => HE pb lv ts1.tail W2 hs hf hlv _ hB (by simp))
          clear hre2 hB
          go_enter Tryd.func30, Tryd.ntmps30
          go_upto_region 1 with fail
          rw [HW1.out]
          go_upto_region 2 with fail
          obtain ⟨w2, hw2⟩ : ∃ w2, W1.alloc (.cells #[.int .i64 7, .string ⟨#[]⟩, .int .i64 0, .int .i64 0, .string ⟨#[]⟩, .int .i64 0, .slice none 0 0, .slice none 0 0, .slice none 0 0, .slice none 0 0, .int .i64 q] 32) = w2 := ⟨_, rfl⟩
          have hn2 : Below W1.heap.size W1 w2 := by rw [← hw2]; exact below_new' _ _
          have hx2 : Blk w2 (W.heap.size + 1) 32 #[.int .i64 7, .string ⟨#[]⟩, .int .i64 0, .int .i64 0, .string ⟨#[]⟩, .int .i64 0, .slice none 0 0, .slice none 0 0, .slice none 0 0, .slice none 0 0, .int .i64 q] := by rw [← hw2, ← HSZ.out]; exact Blk.new _ _ _
          rw [hw2]
          clear hw2
          have hsw2 := HS1.out.later hn2
          have hsz := HSZ.out
          have hl2 := hsw2.lt
          have hz2 := hn2.size
          have hg2 := hx2.lt
          go_upto_region 4 with (go_at_call 28; (with_reducible refine (C1.out _ hsw2).mono ?_); rintro e w3 ⟨rfl, hp3, hsw3⟩; (have hx3 : Blk w3 (W.heap.size + 1) 32 #[.int .i64 7, .string ⟨#[]⟩, .int .i64 0, .int .i64 0, .string ⟨#[]⟩, .int .i64 0, .slice none 0 0, .slice none 0 0, .slice none 0 0, .slice none 0 0, .int .i64 q] := (hp3.block _ hx2.lt (by omega)).trans hx2); (have hpw3 : Par pb W1 w3 := (Par.of_below hn2).trans hp3))
          have hx4 := hx3
          have hpw4 := hpw3
          have hsw4 : PsAt w3 pb (t :: tl) lv := hsw3
          have hz4 := hpw4.size
          have hg4 := hx4.lt
          go_upto_region 5 with (go_at_call 49; (with_reducible refine (C2.out _ hsw4).mono ?_); rintro e w5 ⟨hp5, ⟨A5, c5, rfl, e1, e2, e3, hrow5⟩, hsw5, hf5⟩; (have hx5 : Blk w5 (W.heap.size + 1) 32 #[.int .i64 7, .string ⟨#[]⟩, .int .i64 0, .int .i64 0, .string ⟨#[]⟩, .int .i64 0, .slice none 0 0, .slice none 0 0, .slice none 0 0, .slice none 0 0, .int .i64 q] := (hp5.block _ hx4.lt (by omega)).trans hx4); (have j9 := hx5.cell 9); (simp only [List.getElem?_toArray, List.getElem?_cons_succ, List.getElem?_cons_zero] at j9); (have g9 := hx5.frozen 9); (have hpw5 : Par pb W1 w5 := hpw4.trans hp5); (obtain ⟨q6, hq6⟩ : ∃ q6, bs.length = q6 := ⟨_, rfl⟩); rw [hq6])
          obtain ⟨w6, hw6⟩ : ∃ w6, w5.setCell ⟨W.heap.size + 1, 9, none⟩ (.slice A5 q6 c5) = w6 := ⟨_, rfl⟩
          have hx6 : Blk w6 (W.heap.size + 1) 32 #[.int .i64 7, .string ⟨#[]⟩, .int .i64 0, .int .i64 0, .string ⟨#[]⟩, .int .i64 0, .slice none 0 0, .slice none 0 0, .slice none 0 0, .slice A5 q6 c5, .int .i64 q] := by rw [← hw6]; simpa using hx5.set_ 9 (.slice A5 q6 c5)
          have hpw6 : Par pb W1 w6 := by rw [← hw6]; exact hpw5.set_ (p := ⟨W.heap.size + 1, 9, none⟩) (.inr (by show W1.heap.size ≤ W.heap.size + 1; have := HSZ.out; omega)) _
          have hsw6 : PsAt w6 pb ts1 lv := by rw [← hw6]; exact hsw5.far_ (by show pb < W.heap.size + 1; omega) _
          have hL6 : Low (exX (lowX (W.heap.size + 1)) (W.heap.size + 1)) w5 w6 := by rw [← hw6]; exact Low.set_ (p := ⟨W.heap.size + 1, 9, none⟩) (Chg.refl _ _) (.inl (exX_self _ _)) _
          try rw [hw6]
          clear hw6
          obtain ⟨v, tv, rfl⟩ := hf5.ne
          have C4q := Lib.hid (fun W2 (hs : PsAt W2 pb tv lv) => C4.out (hf5.sees hS) W2 hs)
          go_wp2_with (first | (go_at_call 47; (with_reducible refine (C3.out _ _ hS _ hsw6).mono ?_); rintro e w7 ⟨rfl, hp7, hsw7⟩; (have hsq7 : PsAt w7 pb tv lv := hsw7)) | (go_at_call 7; (with_reducible refine (C4q.out _ hsq7).mono ?_); rintro e w8 ⟨hp8, rfl⟩))
          exact ⟨rfl, (Par.of_below HN.out).trans ((hpw6.trans hp7).trans hp8), rfl⟩
        | ok x ts3 =>
          obtain rfl : r = .ok (.mk 7 ⟨#[]⟩ 0 tyZ [x] [] bs q) ts3 := by rw [hre2, hB]; rfl
          have C4 := Lib.hid (fun (hf : Fine ts1.tail) W2 (hs : PsAt W2 pb ts1.tail lv) => HE pb lv ts1.tail W2 hs hf hlv _ hB (by simp))
          clear hre2 hB
          go_enter Tryd.func30, Tryd.ntmps30
          go_upto_region 1 with fail
          rw [HW1.out]
          go_upto_region 2 with fail
          obtain ⟨w2, hw2⟩ : ∃ w2, W1.alloc (.cells #[.int .i64 7, .string ⟨#[]⟩, .int .i64 0, .int .i64 0, .string ⟨#[]⟩, .int .i64 0, .slice none 0 0, .slice none 0 0, .slice none 0 0, .slice none 0 0, .int .i64 q] 32) = w2 := ⟨_, rfl⟩
          have hn2 : Below W1.heap.size W1 w2 := by rw [← hw2]; exact below_new' _ _
          have hx2 : Blk w2 (W.heap.size + 1) 32 #[.int .i64 7, .string ⟨#[]⟩, .int .i64 0, .int .i64 0, .string ⟨#[]⟩, .int .i64 0, .slice none 0 0, .slice none 0 0, .slice none 0 0, .slice none 0 0, .int .i64 q] := by rw [← hw2, ← HSZ.out]; exact Blk.new _ _ _
          rw [hw2]
          clear hw2
          have hsw2 := HS1.out.later hn2
          have hsz := HSZ.out
          have hl2 := hsw2.lt
          have hz2 := hn2.size
          have hg2 := hx2.lt
          go_upto_region 4 with (go_at_call 28; (with_reducible refine (C1.out _ hsw2).mono ?_); rintro e w3 ⟨rfl, hp3, hsw3⟩; (have hx3 : Blk w3 (W.heap.size + 1) 32 #[.int .i64 7, .string ⟨#[]⟩, .int .i64 0, .int .i64 0, .string ⟨#[]⟩, .int .i64 0, .slice none 0 0, .slice none 0 0, .slice none 0 0, .slice none 0 0, .int .i64 q] := (hp3.block _ hx2.lt (by omega)).trans hx2); (have hpw3 : Par pb W1 w3 := (Par.of_below hn2).trans hp3))
          have hx4 := hx3
          have hpw4 := hpw3
          have hsw4 : PsAt w3 pb (t :: tl) lv := hsw3
          have hz4 := hpw4.size
          have hg4 := hx4.lt
          go_upto_region 5 with (go_at_call 49; (with_reducible refine (C2.out _ hsw4).mono ?_); rintro e w5 ⟨hp5, ⟨A5, c5, rfl, e1, e2, e3, hrow5⟩, hsw5, hf5⟩; (have hx5 : Blk w5 (W.heap.size + 1) 32 #[.int .i64 7, .string ⟨#[]⟩, .int .i64 0, .int .i64 0, .string ⟨#[]⟩, .int .i64 0, .slice none 0 0, .slice none 0 0, .slice none 0 0, .slice none 0 0, .int .i64 q] := (hp5.block _ hx4.lt (by omega)).trans hx4); (have j9 := hx5.cell 9); (simp only [List.getElem?_toArray, List.getElem?_cons_succ, List.getElem?_cons_zero] at j9); (have g9 := hx5.frozen 9); (have hpw5 : Par pb W1 w5 := hpw4.trans hp5); (obtain ⟨q6, hq6⟩ : ∃ q6, bs.length = q6 := ⟨_, rfl⟩); rw [hq6])
          obtain ⟨w6, hw6⟩ : ∃ w6, w5.setCell ⟨W.heap.size + 1, 9, none⟩ (.slice A5 q6 c5) = w6 := ⟨_, rfl⟩
          have hx6 : Blk w6 (W.heap.size + 1) 32 #[.int .i64 7, .string ⟨#[]⟩, .int .i64 0, .int .i64 0, .string ⟨#[]⟩, .int .i64 0, .slice none 0 0, .slice none 0 0, .slice none 0 0, .slice A5 q6 c5, .int .i64 q] := by rw [← hw6]; simpa using hx5.set_ 9 (.slice A5 q6 c5)
          have hpw6 : Par pb W1 w6 := by rw [← hw6]; exact hpw5.set_ (p := ⟨W.heap.size + 1, 9, none⟩) (.inr (by show W1.heap.size ≤ W.heap.size + 1; have := HSZ.out; omega)) _
          have hsw6 : PsAt w6 pb ts1 lv := by rw [← hw6]; exact hsw5.far_ (by show pb < W.heap.size + 1; omega) _
          have hL6 : Low (exX (lowX (W.heap.size + 1)) (W.heap.size + 1)) w5 w6 := by rw [← hw6]; exact Low.set_ (p := ⟨W.heap.size + 1, 9, none⟩) (Chg.refl _ _) (.inl (exX_self _ _)) _
          try rw [hw6]
          clear hw6
          obtain ⟨v, tv, rfl⟩ := hf5.ne
          have C4q := Lib.hid (fun W2 (hs : PsAt W2 pb tv lv) => C4.out (hf5.sees hS) W2 hs)
          go_upto_region 7 with (first | (go_at_call 47; (with_reducible refine (C3.out _ _ hS _ hsw6).mono ?_); rintro e w7 ⟨rfl, hp7, hsw7⟩; (have hsq7 : PsAt w7 pb tv lv := hsw7)) | (go_at_call 7; (with_reducible refine (C4q.out _ hsq7).mono ?_); rintro e w8 ⟨hp8, ⟨cs, hlen, rfl, hty⟩, hsw8, hf8⟩; (obtain ⟨x0, x1, x2, x3, x4, x5, x6, x7, x8, x9, x10, rfl⟩ := eleven_of hlen); (have s0 := store_one' x0 (ex_ones' hty x0 (by simp))); (have s1 := store_one' x1 (ex_ones' hty x1 (by simp))); (have s2 := store_one' x2 (ex_ones' hty x2 (by simp))); (have s3 := store_one' x3 (ex_ones' hty x3 (by simp))); (have s4 := store_one' x4 (ex_ones' hty x4 (by simp))); (have s5 := store_one' x5 (ex_ones' hty x5 (by simp))); (have s6 := store_one' x6 (ex_ones' hty x6 (by simp))); (have s7 := store_one' x7 (ex_ones' hty x7 (by simp))); (have s8 := store_one' x8 (ex_ones' hty x8 (by simp))); (have s9 := store_one' x9 (ex_ones' hty x9 (by simp))); (have s10 := store_one' x10 (ex_ones' hty x10 (by simp))); (have hx8 : Blk w8 (W.heap.size + 1) 32 #[.int .i64 7, .string ⟨#[]⟩, .int .i64 0, .int .i64 0, .string ⟨#[]⟩, .int .i64 0, .slice none 0 0, .slice none 0 0, .slice none 0 0, .slice A5 q6 c5, .int .i64 q] := ((hp7.trans hp8).block _ hx6.lt (by omega)).trans hx6); (have hx9 := hx8.alloc (.cells #[x0, x1, x2, x3, x4, x5, x6, x7, x8, x9, x10] 32)); (have j7 := hx9.cell 7); (simp only [List.getElem?_toArray, List.getElem?_cons_succ, List.getElem?_cons_zero] at j7); (have g7 := hx9.frozen 7)))
          obtain ⟨w9, hw9⟩ : ∃ w9, w8.alloc (.cells #[x0, x1, x2, x3, x4, x5, x6, x7, x8, x9, x10] 32) = w9 := ⟨_, rfl⟩
          have hn9 : Below w8.heap.size w8 w9 := by rw [← hw9]; exact below_new' _ _
          have hk9 : Blk w9 w8.heap.size 32 #[x0, x1, x2, x3, x4, x5, x6, x7, x8, x9, x10] := by rw [← hw9]; exact Blk.new _ _ _
          rw [hw9] at hx9 j7 g7 ⊢
          obtain ⟨w10, hw10⟩ : ∃ w10, w9.setCell ⟨W.heap.size + 1, 7, none⟩ (.slice (some ⟨w8.heap.size, 0, none⟩) 1 1) = w10 := ⟨_, rfl⟩
          have hx10 : Blk w10 (W.heap.size + 1) 32 #[.int .i64 7, .string ⟨#[]⟩, .int .i64 0, .int .i64 0, .string ⟨#[]⟩, .int .i64 0, .slice none 0 0, .slice (some ⟨w8.heap.size, 0, none⟩) 1 1, .slice none 0 0, .slice A5 q6 c5, .int .i64 q] := by rw [← hw10]; simpa using hx9.set_ 7 (.slice (some ⟨w8.heap.size, 0, none⟩) 1 1)
          have hpw9 : Par pb W1 w9 := (hpw6.trans (hp7.trans hp8)).trans (Par.of_below hn9)
          have hpw10 : Par pb W1 w10 := by rw [← hw10]; exact hpw9.set_ (p := ⟨W.heap.size + 1, 7, none⟩) (.inr (by show W1.heap.size ≤ W.heap.size + 1; have := HSZ.out; omega)) _
          have hsw10 : PsAt w10 pb ts3 lv := by rw [← hw10]; exact (hsw8.later hn9).far_ (by show pb < W.heap.size + 1; omega) _
          have hL10 : Low (exX (lowX (W.heap.size + 1)) (W.heap.size + 1)) w9 w10 := by rw [← hw10]; exact Low.set_ (p := ⟨W.heap.size + 1, 7, none⟩) (Chg.refl _ _) (.inl (exX_self _ _)) _
          have hz8 : W1.heap.size ≤ w8.heap.size := (hpw6.trans (hp7.trans hp8)).size
          have hz7 : w6.heap.size ≤ w7.heap.size := hp7.size
          have hg6 := hx6.lt
          have hg8 := hx8.lt
          have hk10 : Blk w10 w8.heap.size 32 #[x0, x1, x2, x3, x4, x5, x6, x7, x8, x9, x10] := by rw [← hw10]; exact hk9.far (p := ⟨W.heap.size + 1, 7, none⟩) (by show w8.heap.size ≠ W.heap.size + 1; omega) _
          try rw [hw10]
          clear hw10 hw9
          have u0 := hx10.cell 0
          have u1 := hx10.cell 1
          have u2 := hx10.cell 2
          have u3 := hx10.cell 3
          have u4 := hx10.cell 4
          have u5 := hx10.cell 5
          have u6 := hx10.cell 6
          have u7 := hx10.cell 7
          have u8 := hx10.cell 8
          have u9 := hx10.cell 9
          have u10 := hx10.cell 10
          simp only [List.getElem?_toArray, List.getElem?_cons_succ, List.getElem?_cons_zero] at u0 u1 u2 u3 u4 u5 u6 u7 u8 u9 u10
          have hBw10 : Blk w10 W.heap.size 32 #[.int .i64 0, .string ⟨#[]⟩, .int .i64 0, .int .i64 0, .string ⟨#[]⟩, .int .i64 0, .slice none 0 0, .slice none 0 0, .slice none 0 0, .slice none 0 0, .int .i64 0] := (hpw10.block _ HRS.out.lt (by omega : ¬ W.heap.size = pb)).trans HRS.out
          have r0w10 := hBw10.cell 0
          have r1w10 := hBw10.cell 1
          have r2w10 := hBw10.cell 2
          have r3w10 := hBw10.cell 3
          have r4w10 := hBw10.cell 4
          have r5w10 := hBw10.cell 5
          have r6w10 := hBw10.cell 6
          have r7w10 := hBw10.cell 7
          have r8w10 := hBw10.cell 8
          have r9w10 := hBw10.cell 9
          have r10w10 := hBw10.cell 10
          simp only [List.getElem?_toArray, List.getElem?_cons_succ, List.getElem?_cons_zero] at r0w10 r1w10 r2w10 r3w10 r4w10 r5w10 r6w10 r7w10 r8w10 r9w10 r10w10
          have f0w10 := hBw10.frozen 0
          have f1w10 := hBw10.frozen 1
          have f2w10 := hBw10.frozen 2
          have f3w10 := hBw10.frozen 3
          have f4w10 := hBw10.frozen 4
          have f5w10 := hBw10.frozen 5
          have f6w10 := hBw10.frozen 6
          have f7w10 := hBw10.frozen 7
          have f8w10 := hBw10.frozen 8
          have f9w10 := hBw10.frozen 9
          have f10w10 := hBw10.frozen 10
          go_wp2_with fail
          subst hq6
          have hpB : exX (lowX (W.heap.size + 1)) (W.heap.size + 1) pb = true := by rw [exX_iff, lowX_iff]; left; omega
          have hLp : ∀ {a b : World}, Par pb a b → Low (exX (lowX (W.heap.size + 1)) (W.heap.size + 1)) a b := fun h => h.mono fun k _ hk => by subst hk; exact hpB
          have hrow10 : RowM rBd 13 (exX (lowX (W.heap.size + 1)) (W.heap.size + 1)) w10 A5 bs := (((((hrow5.weaken fun k _ hk => by rw [exX_iff, lowX_iff] at hk; rw [lowX_iff]; omega).later hL6).later (hLp (hp7.trans hp8))).later (Low.of_below hn9))).later hL10
          have hx10' : rEx.M (exX (lowX (W.heap.size + 1)) (W.heap.size + 1)) w10 [x0, x1, x2, x3, x4, x5, x6, x7, x8, x9, x10] x := (((hty.weaken fun k _ hk => by rw [exX_iff, lowX_iff] at hk; rw [lowX_iff]; omega).later (Low.of_below hn9))).later hL10
          have hkrow : RowM rEx 11 (exX (lowX (W.heap.size + 1)) (W.heap.size + 1)) w10 (some ⟨w8.heap.size, 0, none⟩) [x] := RowM.one (xs := [x0, x1, x2, x3, x4, x5, x6, x7, x8, x9, x10]) (by simpa using hk10) (exX_no (lowX_no (by omega)) (by omega)) hx10'
          have hfin : rEx.M (lowX (W.heap.size + 1)) w10 [.int .i64 7, .string ⟨#[]⟩, .int .i64 0, .int .i64 0, .string ⟨#[]⟩, .int .i64 0, .slice none 0 0, .slice (some ⟨w8.heap.size, 0, none⟩) 1 1, .slice none 0 0, .slice A5 bs.length c5, .int .i64 q] (.mk 7 ⟨#[]⟩ 0 tyZ [x] [] bs q) := (ExM.mk2_ (T := tyZc) (ks := [x]) (als := []) (bs := bs) (c := 1) (ca := 0) (Aa := none) (ok_lit _ (by omega) (by omega)) (by simp [ByteArray.size]) (ok_lit _ (by omega) (by omega)) hq (TyM.leaf _ _ 0 ⟨#[]⟩ (ok_lit _ (by omega) (by omega)) (by simp [ByteArray.size])) (by simp) (by simp [maxLen]) (by simp) (by simp [maxLen]) e1 e2 (by simp) (by simp) e3 hkrow (RowM.nil_ _ _ _ _) hrow10).of_exX
          obtain ⟨w9, hw9⟩ : ∃ w9, (((((((((((w10).setCell ⟨W.heap.size, 0, none⟩ (.int .i64 7)).setCell ⟨W.heap.size, 1, none⟩ (.string ⟨#[]⟩)).setCell ⟨W.heap.size, 2, none⟩ (.int .i64 0)).setCell ⟨W.heap.size, 3, none⟩ (.int .i64 0)).setCell ⟨W.heap.size, 4, none⟩ (.string ⟨#[]⟩)).setCell ⟨W.heap.size, 5, none⟩ (.int .i64 0)).setCell ⟨W.heap.size, 6, none⟩ (.slice none 0 0)).setCell ⟨W.heap.size, 7, none⟩ (.slice (some ⟨w8.heap.size, 0, none⟩) 1 1)).setCell ⟨W.heap.size, 8, none⟩ (.slice none 0 0)).setCell ⟨W.heap.size, 9, none⟩ (.slice A5 bs.length c5)).setCell ⟨W.heap.size, 10, none⟩ (.int .i64 q) = w9 := ⟨_, rfl⟩
          have hPW := (Par.of_below (pb := pb) HN.out).trans hpw10
          have hB9 := set11 hBw10 (.int .i64 7) (.string ⟨#[]⟩) (.int .i64 0) (.int .i64 0) (.string ⟨#[]⟩) (.int .i64 0) (.slice none 0 0) (.slice (some ⟨w8.heap.size, 0, none⟩) 1 1) (.slice none 0 0) (.slice A5 bs.length c5) (.int .i64 q)
          have hb9 := Par.set11 hPW (Nat.le_refl _) (.int .i64 7) (.string ⟨#[]⟩) (.int .i64 0) (.int .i64 0) (.string ⟨#[]⟩) (.int .i64 0) (.slice none 0 0) (.slice (some ⟨w8.heap.size, 0, none⟩) 1 1) (.slice none 0 0) (.slice A5 bs.length c5) (.int .i64 q)
          have hS9 := PsAt.set11 hsw10 (g := W.heap.size) hlt (.int .i64 7) (.string ⟨#[]⟩) (.int .i64 0) (.int .i64 0) (.string ⟨#[]⟩) (.int .i64 0) (.slice none 0 0) (.slice (some ⟨w8.heap.size, 0, none⟩) 1 1) (.slice none 0 0) (.slice A5 bs.length c5) (.int .i64 q)
          have hL9 : Low (lowX (W.heap.size + 1)) w10 _ := Low.set11 (Chg.refl _ _) (.inl (lowX_self _)) (.int .i64 7) (.string ⟨#[]⟩) (.int .i64 0) (.int .i64 0) (.string ⟨#[]⟩) (.int .i64 0) (.slice none 0 0) (.slice (some ⟨w8.heap.size, 0, none⟩) 1 1) (.slice none 0 0) (.slice A5 bs.length c5) (.int .i64 q)
          rw [hw9] at hB9 hb9 hS9 hL9 ⊢
          have d0 := hB9.cell 0
          have d1 := hB9.cell 1
          have d2 := hB9.cell 2
          have d3 := hB9.cell 3
          have d4 := hB9.cell 4
          have d5 := hB9.cell 5
          have d6 := hB9.cell 6
          have d7 := hB9.cell 7
          have d8 := hB9.cell 8
          have d9 := hB9.cell 9
          have d10 := hB9.cell 10
          simp only [List.getElem?_toArray, List.getElem?_cons_succ, List.getElem?_cons_zero] at d0 d1 d2 d3 d4 d5 d6 d7 d8 d9 d10
          exact bodyPost_ret (v := .agg #[.int .i64 7, .string ⟨#[]⟩, .int .i64 0, .int .i64 0, .string ⟨#[]⟩, .int .i64 0, .slice none 0 0, .slice (some ⟨w8.heap.size, 0, none⟩) 1 1, .slice none 0 0, .slice A5 bs.length c5, .int .i64 q]) (by simp [results, Tryd.results30, go_sem, d0, d1, d2, d3, d4, d5, d6, d7, d8, d9, d10]) rfl ⟨hb9, ⟨[.int .i64 7, .string ⟨#[]⟩, .int .i64 0, .int .i64 0, .string ⟨#[]⟩, .int .i64 0, .slice none 0 0, .slice (some ⟨w8.heap.size, 0, none⟩) 1 1, .slice none 0 0, .slice A5 bs.length c5, .int .i64 q], rfl, rfl, (hfin.later hL9).wk (by omega)⟩, hS9, hf8⟩

end Go.Proofs.YtiiddmioafhmoaaDoor
