/- Walks: case. -/
import Derived.Test.YtiiddmioafhmoaaDoorPsome
namespace Go.Proofs.YtiiddmioafhmoaaDoor
open Go.RowKit
set_option linter.unusedVariables false
set_option linter.unusedSimpArgs false
set_option maxRecDepth 100000

abbrev sOf : ByteArray := ⟨#[111, 102]⟩
abbrev sEnd : ByteArray := ⟨#[101, 110, 100]⟩
abbrev sBar : ByteArray := ⟨#[124]⟩
def casesP (E : Nat → List Tk → Res Ex) (P : Nat → List Tk → Res Pt) (lv : Nat) (q : Int) (ts : List Tk) : Res Ex :=
  (E lv ts).andThen fun e ts1 => (needP sOf ts1).andThen fun _ ts2 => (someP sBar (altP E P lv) ts2).andThen fun al ts3 => (needP sEnd ts3).andThen fun _ ts4 => .ok (.mk 8 ⟨#[]⟩ 0 tyZ [e] al [] q) ts4
theorem ExM.mk2_ {X : Nat → Bool} {W : World} {k n q : Int} {nm : ByteArray} {t : Ty} {T : List Value} {A Aa Ab : Option Addr} {c ca cb : Nat} {ks : List Ex} {als : List Al} {bs : List Bd} (hk : ok64 k) (hs : nm.size ≤ 60000) (hn : ok64 n) (hq : ok64 q) (ht : rTy.M X W T t)
    (hc : ks.length ≤ c) (hm : c ≤ maxLen) (hca : als.length ≤ ca) (hma : ca ≤ maxLen) (hcb : bs.length ≤ cb) (hmb : cb ≤ maxLen) (hb : ks.length ≤ 60002) (hba : als.length ≤ 60002) (hbb : bs.length ≤ 60002)
    (hr : RowM rEx 11 X W A ks) (hra : RowM rAl 16 X W Aa als) (hrb : RowM rBd 13 X W Ab bs) :
    rEx.M X W ([.int .i64 k, .string nm, .int .i64 n] ++ T ++ [.slice A ks.length c, .slice Aa als.length ca, .slice Ab bs.length cb, .int .i64 q]) (.mk k nm n t ks als bs q) := by
  obtain ⟨L, h1, h2⟩ := hr.ex
  obtain ⟨La, ha1, ha2⟩ := hra.ex
  obtain ⟨Lb, hb1, hb2⟩ := hrb.ex
  exact ExAt.mk hk (by unfold maxLen; omega) hn hq ht hc hm hca hma hcb hmb (by omega) (by omega) (by omega) h1 h2 ha1 ha2 hb1 hb2
theorem PsAt.far_ {w : World} {pb lv : Nat} {ts : List Tk} {p : Addr} (h : PsAt w pb ts lv) (hg : pb < p.block) (u : Value) : PsAt (w.setCell p u) pb ts lv := by
  obtain ⟨A, cap, q1, q2, q3, q4⟩ := h.ex
  exact ⟨A, cap, q1.far (p := p) (by omega) u, q2, q3, q4.keep fun k hk => World.cell?_of_block (w := w) (Below.heap_setCell _ _ _ _ (by show k.block ≠ p.block; omega))⟩

theorem alt_ok (E : Nat → List Tk → Res Ex) (P : Nat → List Tk → Res Pt) (HE : LvOk rEx 11 7 E) (HP : LvOk rPt 5 77 P) (lv : Nat) (hlv : lv ≤ 300) : RdOk rAl 16 68 lv (altP E P lv) := fun pb ts W h hf r hr ho => alt_any E P HE HP pb lv ts W h hf hlv r hr ho
theorem bind_ok (E : Nat → List Tk → Res Ex) (HE : LvOk rEx 11 7 E) (lv : Nat) (hlv : lv ≤ 300) : RdOk rBd 13 50 lv (bindP E lv) := fun pb ts W h hf r hr ho => bind_any E HE pb lv ts W h hf hlv r hr ho
set_option maxHeartbeats 6400000 in
theorem cases_any (E : Nat → List Tk → Res Ex) (P : Nat → List Tk → Res Pt) (HE : LvOk rEx 11 7 E) (HP : LvOk rPt 5 77 P) (q : Int) (hq : ok64 q) (pb lv : Nat) (ts : List Tk) (W : World) (h : PsAt W pb ts lv) (hf : Fine ts) (hlv : lv ≤ 300) (r : Res Ex) (hr : casesP E P lv q ts = r) (ho : r ≠ .out) :
    Calls Tryd.prog 53 #[.pointer (some ⟨pb, 0, none⟩), .int .i64 q] W (PaPost pb lv 11 rEx r W) := by
  obtain ⟨W1, hW1⟩ : ∃ W1, W.alloc (.cells #[.int .i64 0, .string ⟨#[]⟩, .int .i64 0, .int .i64 0, .string ⟨#[]⟩, .int .i64 0, .slice none 0 0, .slice none 0 0, .slice none 0 0, .slice none 0 0, .int .i64 0] 32) = W1 := ⟨_, rfl⟩
  have hnew : Below W.heap.size W W1 := by rw [← hW1]; exact (Below.refl _ _).alloc (Nat.le_refl _) _
  have hres : Blk W1 W.heap.size 32 #[.int .i64 0, .string ⟨#[]⟩, .int .i64 0, .int .i64 0, .string ⟨#[]⟩, .int .i64 0, .slice none 0 0, .slice none 0 0, .slice none 0 0, .slice none 0 0, .int .i64 0] := by rw [← hW1]; exact Blk.new _ _ _
  have hs1 := h.later hnew
  have hlt := h.lt
  have hsz : W1.heap.size = W.heap.size + 1 := by rw [← hW1]; simp
  have HW1 := Lib.hid hW1
  have HN := Lib.hid hnew
  have HRS := Lib.hid hres
  have HS1 := Lib.hid hs1
  have HSZ := Lib.hid hsz
  have hp1 : Par pb W1 W1 := Chg.refl _ _
  clear hW1 hnew hres hs1 hsz h
  have HF := Lib.hid hf
  have HO := Lib.hid ho
  have HR := Lib.hid hr
  clear hf hr ho
  have hmf : ∀ w : World, (Instr.makeFunc (.func 68) #[.pointer (some ⟨pb, 0, none⟩)] #[]).run Tryd.prog w = .ok (.func (.func 68) #[.pointer (some ⟨pb, 0, none⟩)] #[]) w := fun _ => rfl
  cases hA : E lv ts with
  | out => exact absurd (by rw [← HR.out]; unfold casesP; rw [hA]; rfl) HO.out
  | bad c p =>
    obtain rfl : r = .bad c p := by rw [← HR.out]; unfold casesP; rw [hA]; rfl
    have C1 := Lib.hid (HE pb lv ts W1 HS1.out HF.out hlv _ hA (by simp))
    go_enter Tryd.func53, Tryd.ntmps53
    go_upto_region 1 with fail
    rw [HW1.out]
    go_wp2_with (go_at_call 7; (with_reducible refine (C1.out).mono ?_); rintro e w2 ⟨hp2, rfl⟩)
    exact ⟨rfl, (Par.of_below HN.out).trans hp2, rfl⟩
  | ok x ts1 =>
    have C1 := Lib.hid (HE pb lv ts W1 HS1.out HF.out hlv _ hA (by simp))
    have hre : r = (needP sOf ts1).andThen fun _ ts2 => (someP sBar (altP E P lv) ts2).andThen fun al ts3 => (needP sEnd ts3).andThen fun _ ts4 => .ok (.mk 8 ⟨#[]⟩ 0 tyZ [x] al [] q) ts4 := by rw [← HR.out]; unfold casesP; rw [hA]; rfl
    clear hA
    cases hS : seesH sOf ts1 with
    | false =>
      obtain rfl : r = .bad 110 (posH ts1) := by rw [hre]; simp [needP, hS, Res.andThen]
      have C2 := Lib.hid (fun (v : Tk) (tq : List Tk) (hS : seesH sOf (v :: tq) = false) W2 (hs : PsAt W2 pb (v :: tq) lv) => need_no pb lv v tq sOf W2 hs hS)
      clear hre
      go_enter Tryd.func53, Tryd.ntmps53
      go_upto_region 1 with fail
      rw [HW1.out]
      go_upto_region 2 with (go_at_call 7; (with_reducible refine (C1.out).mono ?_); rintro e w2 ⟨hp2, ⟨cs, hlen, rfl, hty⟩, hsw2, hf2⟩; (obtain ⟨x0, x1, x2, x3, x4, x5, x6, x7, x8, x9, x10, rfl⟩ := eleven_of hlen); (have s0 := store_one' x0 (ex_ones' hty x0 (by simp))); (have s1 := store_one' x1 (ex_ones' hty x1 (by simp))); (have s2 := store_one' x2 (ex_ones' hty x2 (by simp))); (have s3 := store_one' x3 (ex_ones' hty x3 (by simp))); (have s4 := store_one' x4 (ex_ones' hty x4 (by simp))); (have s5 := store_one' x5 (ex_ones' hty x5 (by simp))); (have s6 := store_one' x6 (ex_ones' hty x6 (by simp))); (have s7 := store_one' x7 (ex_ones' hty x7 (by simp))); (have s8 := store_one' x8 (ex_ones' hty x8 (by simp))); (have s9 := store_one' x9 (ex_ones' hty x9 (by simp))); (have s10 := store_one' x10 (ex_ones' hty x10 (by simp))); (obtain ⟨v, tq, rfl⟩ := hf2.ne))
      obtain ⟨w3, hw3⟩ : ∃ w3, w2.alloc (.cells #[x0, x1, x2, x3, x4, x5, x6, x7, x8, x9, x10] 32) = w3 := ⟨_, rfl⟩
      have hn3 : Below w2.heap.size w2 w3 := by rw [← hw3]; exact below_new' _ _
      have hk3 : Blk w3 w2.heap.size 32 #[x0, x1, x2, x3, x4, x5, x6, x7, x8, x9, x10] := by rw [← hw3]; exact Blk.new _ _ _
      have hz3 : w3.heap.size = w2.heap.size + 1 := by rw [← hw3]; simp
      rw [hw3]
      obtain ⟨w4, hw4⟩ : ∃ w4, w3.alloc (.cells #[.int .i64 8, .string ⟨#[]⟩, .int .i64 0, .int .i64 0, .string ⟨#[]⟩, .int .i64 0, .slice none 0 0, .slice (some ⟨w2.heap.size, 0, none⟩) 1 1, .slice none 0 0, .slice none 0 0, .int .i64 q] 32) = w4 := ⟨_, rfl⟩
      have hn4 : Below w3.heap.size w3 w4 := by rw [← hw4]; exact below_new' _ _
      have hx4 : Blk w4 (w2.heap.size + 1) 32 #[.int .i64 8, .string ⟨#[]⟩, .int .i64 0, .int .i64 0, .string ⟨#[]⟩, .int .i64 0, .slice none 0 0, .slice (some ⟨w2.heap.size, 0, none⟩) 1 1, .slice none 0 0, .slice none 0 0, .int .i64 q] := by rw [← hw4, ← hz3]; exact Blk.new _ _ _
      rw [hw4]
      clear hw3 hw4
      have hk4 := hk3.below hn4 hk3.lt
      have hpw4 : Par pb W1 w4 := (hp2.trans (Par.of_below hn3)).trans (Par.of_below hn4)
      have hsw4 := (hsw2.later hn3).later hn4
      have hl2 := hsw2.lt
      have hz2 := hp2.size
      have hsz := HSZ.out
      have hty4 : rEx.M (lowX (W.heap.size + 1)) w4 [x0, x1, x2, x3, x4, x5, x6, x7, x8, x9, x10] x := ((hty.wk (B' := W.heap.size + 1) (by omega)).later (Low.of_below hn3)).later (Low.of_below hn4)
      have hz4 : w4.heap.size = w2.heap.size + 1 + 1 ∨ True := .inr trivial
      go_wp2_with (go_at_call 47; (with_reducible refine (C2.out _ _ hS _ hsw4).mono ?_); rintro e w5 ⟨rfl, hp5⟩)
      exact ⟨rfl, (Par.of_below HN.out).trans (hpw4.trans hp5), rfl⟩
    | true =>
      have hre2 : r = (someP sBar (altP E P lv) ts1.tail).andThen fun al ts3 => (needP sEnd ts3).andThen fun _ ts4 => .ok (.mk 8 ⟨#[]⟩ 0 tyZ [x] al [] q) ts4 := by rw [hre]; simp [needP, hS, Res.andThen]
      have C2 := Lib.hid (fun (v : Tk) (tq : List Tk) (hS : seesH sOf (v :: tq) = true) W2 (hs : PsAt W2 pb (v :: tq) lv) => need_yes pb lv v tq sOf W2 hs hS)
      clear hre
      cases hB : someP sBar (altP E P lv) ts1.tail with
      | out => exact absurd (by rw [hre2, hB]; rfl) HO.out
      | bad c p =>
        obtain rfl : r = .bad c p := by rw [hre2, hB]; rfl
        have C3 := Lib.hid (fun (hf : Fine ts1.tail) W2 (hs : PsAt W2 pb ts1.tail lv) => some_al lv sBar (altP E P lv) (alt_ok E P HE HP lv hlv) pb ts1.tail W2 hs hf _ hB (by simp))
        clear hre2 hB
        go_enter Tryd.func53, Tryd.ntmps53
        go_upto_region 1 with fail
        rw [HW1.out]
        go_upto_region 2 with (go_at_call 7; (with_reducible refine (C1.out).mono ?_); rintro e w2 ⟨hp2, ⟨cs, hlen, rfl, hty⟩, hsw2, hf2⟩; (obtain ⟨x0, x1, x2, x3, x4, x5, x6, x7, x8, x9, x10, rfl⟩ := eleven_of hlen); (have s0 := store_one' x0 (ex_ones' hty x0 (by simp))); (have s1 := store_one' x1 (ex_ones' hty x1 (by simp))); (have s2 := store_one' x2 (ex_ones' hty x2 (by simp))); (have s3 := store_one' x3 (ex_ones' hty x3 (by simp))); (have s4 := store_one' x4 (ex_ones' hty x4 (by simp))); (have s5 := store_one' x5 (ex_ones' hty x5 (by simp))); (have s6 := store_one' x6 (ex_ones' hty x6 (by simp))); (have s7 := store_one' x7 (ex_ones' hty x7 (by simp))); (have s8 := store_one' x8 (ex_ones' hty x8 (by simp))); (have s9 := store_one' x9 (ex_ones' hty x9 (by simp))); (have s10 := store_one' x10 (ex_ones' hty x10 (by simp))); (obtain ⟨v, tq, rfl⟩ := hf2.ne))
        obtain ⟨w3, hw3⟩ : ∃ w3, w2.alloc (.cells #[x0, x1, x2, x3, x4, x5, x6, x7, x8, x9, x10] 32) = w3 := ⟨_, rfl⟩
        have hn3 : Below w2.heap.size w2 w3 := by rw [← hw3]; exact below_new' _ _
        have hk3 : Blk w3 w2.heap.size 32 #[x0, x1, x2, x3, x4, x5, x6, x7, x8, x9, x10] := by rw [← hw3]; exact Blk.new _ _ _
        have hz3 : w3.heap.size = w2.heap.size + 1 := by rw [← hw3]; simp
        rw [hw3]
        obtain ⟨w4, hw4⟩ : ∃ w4, w3.alloc (.cells #[.int .i64 8, .string ⟨#[]⟩, .int .i64 0, .int .i64 0, .string ⟨#[]⟩, .int .i64 0, .slice none 0 0, .slice (some ⟨w2.heap.size, 0, none⟩) 1 1, .slice none 0 0, .slice none 0 0, .int .i64 q] 32) = w4 := ⟨_, rfl⟩
        have hn4 : Below w3.heap.size w3 w4 := by rw [← hw4]; exact below_new' _ _
        have hx4 : Blk w4 (w2.heap.size + 1) 32 #[.int .i64 8, .string ⟨#[]⟩, .int .i64 0, .int .i64 0, .string ⟨#[]⟩, .int .i64 0, .slice none 0 0, .slice (some ⟨w2.heap.size, 0, none⟩) 1 1, .slice none 0 0, .slice none 0 0, .int .i64 q] := by rw [← hw4, ← hz3]; exact Blk.new _ _ _
        rw [hw4]
        clear hw3 hw4
        have hk4 := hk3.below hn4 hk3.lt
        have hpw4 : Par pb W1 w4 := (hp2.trans (Par.of_below hn3)).trans (Par.of_below hn4)
        have hsw4 := (hsw2.later hn3).later hn4
        have hl2 := hsw2.lt
        have hz2 := hp2.size
        have hsz := HSZ.out
        have hty4 : rEx.M (lowX (W.heap.size + 1)) w4 [x0, x1, x2, x3, x4, x5, x6, x7, x8, x9, x10] x := ((hty.wk (B' := W.heap.size + 1) (by omega)).later (Low.of_below hn3)).later (Low.of_below hn4)
        have hz4 : w4.heap.size = w2.heap.size + 1 + 1 ∨ True := .inr trivial
        have hfq : Fine tq := hf2.sees hS
        have C3q := Lib.hid (fun W2 (hs : PsAt W2 pb tq lv) => C3.out hfq W2 hs)
        go_wp2_with (first | (go_at_call 47; (with_reducible refine (C2.out _ _ hS _ hsw4).mono ?_); rintro e w5 ⟨rfl, hp5, hsw5⟩; (have hsq5 : PsAt w5 pb tq lv := hsw5)) | (go_at_call 67; (with_reducible refine (C3q.out _ hsq5).mono ?_); rintro e w6 ⟨hp6, rfl⟩))
        exact ⟨rfl, (Par.of_below HN.out).trans ((hpw4.trans hp5).trans hp6), rfl⟩
      | ok l ts3 =>
        have hre3 : r = (needP sEnd ts3).andThen fun _ ts4 => .ok (.mk 8 ⟨#[]⟩ 0 tyZ [x] l [] q) ts4 := by rw [hre2, hB]; rfl
        have C3 := Lib.hid (fun (hf : Fine ts1.tail) W2 (hs : PsAt W2 pb ts1.tail lv) => some_al lv sBar (altP E P lv) (alt_ok E P HE HP lv hlv) pb ts1.tail W2 hs hf _ hB (by simp))
        clear hre2 hB
        cases hT : seesH sEnd ts3 with
        | false =>
          obtain rfl : r = .bad 110 (posH ts3) := by rw [hre3]; simp [needP, hT, Res.andThen]
          have C4 := Lib.hid (fun (v : Tk) (tq : List Tk) (hS : seesH sEnd (v :: tq) = false) W2 (hs : PsAt W2 pb (v :: tq) lv) => need_no pb lv v tq sEnd W2 hs hS)
          clear hre3
          go_enter Tryd.func53, Tryd.ntmps53
          go_upto_region 1 with fail
          rw [HW1.out]
          go_upto_region 2 with (go_at_call 7; (with_reducible refine (C1.out).mono ?_); rintro e w2 ⟨hp2, ⟨cs, hlen, rfl, hty⟩, hsw2, hf2⟩; (obtain ⟨x0, x1, x2, x3, x4, x5, x6, x7, x8, x9, x10, rfl⟩ := eleven_of hlen); (have s0 := store_one' x0 (ex_ones' hty x0 (by simp))); (have s1 := store_one' x1 (ex_ones' hty x1 (by simp))); (have s2 := store_one' x2 (ex_ones' hty x2 (by simp))); (have s3 := store_one' x3 (ex_ones' hty x3 (by simp))); (have s4 := store_one' x4 (ex_ones' hty x4 (by simp))); (have s5 := store_one' x5 (ex_ones' hty x5 (by simp))); (have s6 := store_one' x6 (ex_ones' hty x6 (by simp))); (have s7 := store_one' x7 (ex_ones' hty x7 (by simp))); (have s8 := store_one' x8 (ex_ones' hty x8 (by simp))); (have s9 := store_one' x9 (ex_ones' hty x9 (by simp))); (have s10 := store_one' x10 (ex_ones' hty x10 (by simp))); (obtain ⟨v, tq, rfl⟩ := hf2.ne))
          obtain ⟨w3, hw3⟩ : ∃ w3, w2.alloc (.cells #[x0, x1, x2, x3, x4, x5, x6, x7, x8, x9, x10] 32) = w3 := ⟨_, rfl⟩
          have hn3 : Below w2.heap.size w2 w3 := by rw [← hw3]; exact below_new' _ _
          have hk3 : Blk w3 w2.heap.size 32 #[x0, x1, x2, x3, x4, x5, x6, x7, x8, x9, x10] := by rw [← hw3]; exact Blk.new _ _ _
          have hz3 : w3.heap.size = w2.heap.size + 1 := by rw [← hw3]; simp
          rw [hw3]
          obtain ⟨w4, hw4⟩ : ∃ w4, w3.alloc (.cells #[.int .i64 8, .string ⟨#[]⟩, .int .i64 0, .int .i64 0, .string ⟨#[]⟩, .int .i64 0, .slice none 0 0, .slice (some ⟨w2.heap.size, 0, none⟩) 1 1, .slice none 0 0, .slice none 0 0, .int .i64 q] 32) = w4 := ⟨_, rfl⟩
          have hn4 : Below w3.heap.size w3 w4 := by rw [← hw4]; exact below_new' _ _
          have hx4 : Blk w4 (w2.heap.size + 1) 32 #[.int .i64 8, .string ⟨#[]⟩, .int .i64 0, .int .i64 0, .string ⟨#[]⟩, .int .i64 0, .slice none 0 0, .slice (some ⟨w2.heap.size, 0, none⟩) 1 1, .slice none 0 0, .slice none 0 0, .int .i64 q] := by rw [← hw4, ← hz3]; exact Blk.new _ _ _
          rw [hw4]
          clear hw3 hw4
          have hk4 := hk3.below hn4 hk3.lt
          have hpw4 : Par pb W1 w4 := (hp2.trans (Par.of_below hn3)).trans (Par.of_below hn4)
          have hsw4 := (hsw2.later hn3).later hn4
          have hl2 := hsw2.lt
          have hz2 := hp2.size
          have hsz := HSZ.out
          have hty4 : rEx.M (lowX (W.heap.size + 1)) w4 [x0, x1, x2, x3, x4, x5, x6, x7, x8, x9, x10] x := ((hty.wk (B' := W.heap.size + 1) (by omega)).later (Low.of_below hn3)).later (Low.of_below hn4)
          have hz4 : w4.heap.size = w2.heap.size + 1 + 1 ∨ True := .inr trivial
          have hfq : Fine tq := hf2.sees hS
          have C3q := Lib.hid (fun W2 (hs : PsAt W2 pb tq lv) => C3.out hfq W2 hs)
          go_upto_region 4 with (first | (go_at_call 47; (with_reducible refine (C2.out _ _ hS _ hsw4).mono ?_); rintro e w5 ⟨rfl, hp5, hsw5⟩; (have hsq5 : PsAt w5 pb tq lv := hsw5)) | (go_at_call 67; (with_reducible refine (C3q.out _ hsq5).mono ?_); rintro e w6 ⟨hp6, ⟨A6, c6, rfl, e1, e2, e3, hrow6⟩, hsw6, hf6⟩; (have hx6 : Blk w6 (w2.heap.size + 1) 32 #[.int .i64 8, .string ⟨#[]⟩, .int .i64 0, .int .i64 0, .string ⟨#[]⟩, .int .i64 0, .slice none 0 0, .slice (some ⟨w2.heap.size, 0, none⟩) 1 1, .slice none 0 0, .slice none 0 0, .int .i64 q] := ((hp5.trans hp6).block _ hx4.lt (by omega)).trans hx4); (have j8 := hx6.cell 8); (simp only [List.getElem?_toArray, List.getElem?_cons_succ, List.getElem?_cons_zero] at j8); (have g8 := hx6.frozen 8); (have hpw6 : Par pb W1 w6 := (hpw4.trans hp5).trans hp6); (obtain ⟨q6, hq6⟩ : ∃ q6, l.length = q6 := ⟨_, rfl⟩); rw [hq6]))
          obtain ⟨w7, hw7⟩ : ∃ w7, w6.setCell ⟨w2.heap.size + 1, 8, none⟩ (.slice A6 q6 c6) = w7 := ⟨_, rfl⟩
          have hx7 : Blk w7 (w2.heap.size + 1) 32 #[.int .i64 8, .string ⟨#[]⟩, .int .i64 0, .int .i64 0, .string ⟨#[]⟩, .int .i64 0, .slice none 0 0, .slice (some ⟨w2.heap.size, 0, none⟩) 1 1, .slice A6 q6 c6, .slice none 0 0, .int .i64 q] := by rw [← hw7]; simpa using hx6.set_ 8 (.slice A6 q6 c6)
          have hs67 : Par pb W1 w7 := by rw [← hw7]; exact hpw6.set_ (p := ⟨w2.heap.size + 1, 8, none⟩) (.inr (by show W1.heap.size ≤ w2.heap.size + 1; omega)) _
          have hsw7 : PsAt w7 pb ts3 lv := by rw [← hw7]; exact hsw6.far_ (by show pb < w2.heap.size + 1; omega) _
          have hL7 : Low (exX (lowX (W.heap.size + 1)) (w2.heap.size + 1)) w6 w7 := by rw [← hw7]; exact Low.set_ (p := ⟨w2.heap.size + 1, 8, none⟩) (Chg.refl _ _) (.inl (exX_self _ _)) _
          have hz6 := hpw6.size
          have hlx := hx6.lt
          rw [hw7]
          obtain ⟨v3, tq3, rfl⟩ := hf6.ne
          go_wp2_with (go_at_call 47; (with_reducible refine (C4.out _ _ hT _ hsw7).mono ?_); rintro e w8 ⟨rfl, hp8⟩)
          exact ⟨rfl, (Par.of_below HN.out).trans (hs67.trans hp8), rfl⟩
        | true =>
          obtain rfl : r = .ok (.mk 8 ⟨#[]⟩ 0 tyZ [x] l [] q) ts3.tail := by rw [hre3]; simp [needP, hT, Res.andThen]
          have C4 := Lib.hid (fun (v : Tk) (tq : List Tk) (hS : seesH sEnd (v :: tq) = true) W2 (hs : PsAt W2 pb (v :: tq) lv) => need_yes pb lv v tq sEnd W2 hs hS)
          clear hre3
          go_enter Tryd.func53, Tryd.ntmps53
          go_upto_region 1 with fail
          rw [HW1.out]
          go_upto_region 2 with (go_at_call 7; (with_reducible refine (C1.out).mono ?_); rintro e w2 ⟨hp2, ⟨cs, hlen, rfl, hty⟩, hsw2, hf2⟩; (obtain ⟨x0, x1, x2, x3, x4, x5, x6, x7, x8, x9, x10, rfl⟩ := eleven_of hlen); (have s0 := store_one' x0 (ex_ones' hty x0 (by simp))); (have s1 := store_one' x1 (ex_ones' hty x1 (by simp))); (have s2 := store_one' x2 (ex_ones' hty x2 (by simp))); (have s3 := store_one' x3 (ex_ones' hty x3 (by simp))); (have s4 := store_one' x4 (ex_ones' hty x4 (by simp))); (have s5 := store_one' x5 (ex_ones' hty x5 (by simp))); (have s6 := store_one' x6 (ex_ones' hty x6 (by simp))); (have s7 := store_one' x7 (ex_ones' hty x7 (by simp))); (have s8 := store_one' x8 (ex_ones' hty x8 (by simp))); (have s9 := store_one' x9 (ex_ones' hty x9 (by simp))); (have s10 := store_one' x10 (ex_ones' hty x10 (by simp))); (obtain ⟨v, tq, rfl⟩ := hf2.ne))
          obtain ⟨w3, hw3⟩ : ∃ w3, w2.alloc (.cells #[x0, x1, x2, x3, x4, x5, x6, x7, x8, x9, x10] 32) = w3 := ⟨_, rfl⟩
          have hn3 : Below w2.heap.size w2 w3 := by rw [← hw3]; exact below_new' _ _
          have hk3 : Blk w3 w2.heap.size 32 #[x0, x1, x2, x3, x4, x5, x6, x7, x8, x9, x10] := by rw [← hw3]; exact Blk.new _ _ _
          have hz3 : w3.heap.size = w2.heap.size + 1 := by rw [← hw3]; simp
          rw [hw3]
          obtain ⟨w4, hw4⟩ : ∃ w4, w3.alloc (.cells #[.int .i64 8, .string ⟨#[]⟩, .int .i64 0, .int .i64 0, .string ⟨#[]⟩, .int .i64 0, .slice none 0 0, .slice (some ⟨w2.heap.size, 0, none⟩) 1 1, .slice none 0 0, .slice none 0 0, .int .i64 q] 32) = w4 := ⟨_, rfl⟩
          have hn4 : Below w3.heap.size w3 w4 := by rw [← hw4]; exact below_new' _ _
          have hx4 : Blk w4 (w2.heap.size + 1) 32 #[.int .i64 8, .string ⟨#[]⟩, .int .i64 0, .int .i64 0, .string ⟨#[]⟩, .int .i64 0, .slice none 0 0, .slice (some ⟨w2.heap.size, 0, none⟩) 1 1, .slice none 0 0, .slice none 0 0, .int .i64 q] := by rw [← hw4, ← hz3]; exact Blk.new _ _ _
          rw [hw4]
          clear hw3 hw4
          have hk4 := hk3.below hn4 hk3.lt
          have hpw4 : Par pb W1 w4 := (hp2.trans (Par.of_below hn3)).trans (Par.of_below hn4)
          have hsw4 := (hsw2.later hn3).later hn4
          have hl2 := hsw2.lt
          have hz2 := hp2.size
          have hsz := HSZ.out
          have hty4 : rEx.M (lowX (W.heap.size + 1)) w4 [x0, x1, x2, x3, x4, x5, x6, x7, x8, x9, x10] x := ((hty.wk (B' := W.heap.size + 1) (by omega)).later (Low.of_below hn3)).later (Low.of_below hn4)
          have hz4 : w4.heap.size = w2.heap.size + 1 + 1 ∨ True := .inr trivial
          have hfq : Fine tq := hf2.sees hS
          have C3q := Lib.hid (fun W2 (hs : PsAt W2 pb tq lv) => C3.out hfq W2 hs)
          go_upto_region 4 with (first | (go_at_call 47; (with_reducible refine (C2.out _ _ hS _ hsw4).mono ?_); rintro e w5 ⟨rfl, hp5, hsw5⟩; (have hsq5 : PsAt w5 pb tq lv := hsw5)) | (go_at_call 67; (with_reducible refine (C3q.out _ hsq5).mono ?_); rintro e w6 ⟨hp6, ⟨A6, c6, rfl, e1, e2, e3, hrow6⟩, hsw6, hf6⟩; (have hx6 : Blk w6 (w2.heap.size + 1) 32 #[.int .i64 8, .string ⟨#[]⟩, .int .i64 0, .int .i64 0, .string ⟨#[]⟩, .int .i64 0, .slice none 0 0, .slice (some ⟨w2.heap.size, 0, none⟩) 1 1, .slice none 0 0, .slice none 0 0, .int .i64 q] := ((hp5.trans hp6).block _ hx4.lt (by omega)).trans hx4); (have j8 := hx6.cell 8); (simp only [List.getElem?_toArray, List.getElem?_cons_succ, List.getElem?_cons_zero] at j8); (have g8 := hx6.frozen 8); (have hpw6 : Par pb W1 w6 := (hpw4.trans hp5).trans hp6); (obtain ⟨q6, hq6⟩ : ∃ q6, l.length = q6 := ⟨_, rfl⟩); rw [hq6]))
          obtain ⟨w7, hw7⟩ : ∃ w7, w6.setCell ⟨w2.heap.size + 1, 8, none⟩ (.slice A6 q6 c6) = w7 := ⟨_, rfl⟩
          have hx7 : Blk w7 (w2.heap.size + 1) 32 #[.int .i64 8, .string ⟨#[]⟩, .int .i64 0, .int .i64 0, .string ⟨#[]⟩, .int .i64 0, .slice none 0 0, .slice (some ⟨w2.heap.size, 0, none⟩) 1 1, .slice A6 q6 c6, .slice none 0 0, .int .i64 q] := by rw [← hw7]; simpa using hx6.set_ 8 (.slice A6 q6 c6)
          have hs67 : Par pb W1 w7 := by rw [← hw7]; exact hpw6.set_ (p := ⟨w2.heap.size + 1, 8, none⟩) (.inr (by show W1.heap.size ≤ w2.heap.size + 1; omega)) _
          have hsw7 : PsAt w7 pb ts3 lv := by rw [← hw7]; exact hsw6.far_ (by show pb < w2.heap.size + 1; omega) _
          have hL7 : Low (exX (lowX (W.heap.size + 1)) (w2.heap.size + 1)) w6 w7 := by rw [← hw7]; exact Low.set_ (p := ⟨w2.heap.size + 1, 8, none⟩) (Chg.refl _ _) (.inl (exX_self _ _)) _
          have hz6 := hpw6.size
          have hlx := hx6.lt
          rw [hw7]
          obtain ⟨v3, tq3, rfl⟩ := hf6.ne
          go_wp2_with (go_at_call 47; (with_reducible refine (C4.out _ _ hT _ hsw7).mono ?_); rintro e w8 ⟨rfl, hp8, hsw8⟩; (have hx8 : Blk w8 (w2.heap.size + 1) 32 #[.int .i64 8, .string ⟨#[]⟩, .int .i64 0, .int .i64 0, .string ⟨#[]⟩, .int .i64 0, .slice none 0 0, .slice (some ⟨w2.heap.size, 0, none⟩) 1 1, .slice A6 q6 c6, .slice none 0 0, .int .i64 q] := (hp8.block _ hx7.lt (by omega)).trans hx7); (have u0 := hx8.cell 0); (have u1 := hx8.cell 1); (have u2 := hx8.cell 2); (have u3 := hx8.cell 3); (have u4 := hx8.cell 4); (have u5 := hx8.cell 5); (have u6 := hx8.cell 6); (have u7 := hx8.cell 7); (have u8 := hx8.cell 8); (have u9 := hx8.cell 9); (have u10 := hx8.cell 10); (simp only [List.getElem?_toArray, List.getElem?_cons_succ, List.getElem?_cons_zero] at u0 u1 u2 u3 u4 u5 u6 u7 u8 u9 u10); (have hpw8 : Par pb W1 w8 := hs67.trans hp8); (have hBw8 : Blk w8 W.heap.size 32 #[.int .i64 0, .string ⟨#[]⟩, .int .i64 0, .int .i64 0, .string ⟨#[]⟩, .int .i64 0, .slice none 0 0, .slice none 0 0, .slice none 0 0, .slice none 0 0, .int .i64 0] := (hpw8.block _ HRS.out.lt (by omega : ¬ W.heap.size = pb)).trans HRS.out); (have r0w8 := hBw8.cell 0); (have r1w8 := hBw8.cell 1); (have r2w8 := hBw8.cell 2); (have r3w8 := hBw8.cell 3); (have r4w8 := hBw8.cell 4); (have r5w8 := hBw8.cell 5); (have r6w8 := hBw8.cell 6); (have r7w8 := hBw8.cell 7); (have r8w8 := hBw8.cell 8); (have r9w8 := hBw8.cell 9); (have r10w8 := hBw8.cell 10); (simp only [List.getElem?_toArray, List.getElem?_cons_succ, List.getElem?_cons_zero] at r0w8 r1w8 r2w8 r3w8 r4w8 r5w8 r6w8 r7w8 r8w8 r9w8 r10w8); (have f0w8 := hBw8.frozen 0); (have f1w8 := hBw8.frozen 1); (have f2w8 := hBw8.frozen 2); (have f3w8 := hBw8.frozen 3); (have f4w8 := hBw8.frozen 4); (have f5w8 := hBw8.frozen 5); (have f6w8 := hBw8.frozen 6); (have f7w8 := hBw8.frozen 7); (have f8w8 := hBw8.frozen 8); (have f9w8 := hBw8.frozen 9); (have f10w8 := hBw8.frozen 10))
          subst hq6
          have hz45 : w4.heap.size ≤ w5.heap.size := hp5.size
          have hgw : w2.heap.size + 1 < w4.heap.size := hx4.lt
          have hXX : ∀ k, exX (lowX (W.heap.size + 1)) (w2.heap.size + 1) k = true → k < w5.heap.size := fun k hk => by rw [exX_iff, lowX_iff] at hk; omega
          have hpB : exX (lowX (W.heap.size + 1)) (w2.heap.size + 1) pb = true := by rw [exX_iff, lowX_iff]; left; omega
          have hLp : ∀ {a b : World}, Par pb a b → Low (exX (lowX (W.heap.size + 1)) (w2.heap.size + 1)) a b := fun h => h.mono fun k _ hk => by subst hk; exact hpB
          have hrow8 : RowM rAl 16 (exX (lowX (W.heap.size + 1)) (w2.heap.size + 1)) w8 A6 l := ((hrow6.weaken fun k _ hk => by rw [lowX_iff]; exact hXX k hk).later hL7).later (hLp hp8)
          have hx3' : rEx.M (exX (lowX (W.heap.size + 1)) (w2.heap.size + 1)) w8 [x0, x1, x2, x3, x4, x5, x6, x7, x8, x9, x10] x := ((((((hty.wk (B' := W.heap.size + 1) (by omega)).to_exX (g := w2.heap.size + 1) (by omega)).later (Low.of_below hn3)).later (Low.of_below hn4)).later (hLp (hp5.trans hp6))).later hL7).later (hLp hp8)
          have hk8 : Blk w8 w2.heap.size 32 #[x0, x1, x2, x3, x4, x5, x6, x7, x8, x9, x10] := by
            have hk6 : Blk w6 w2.heap.size 32 #[x0, x1, x2, x3, x4, x5, x6, x7, x8, x9, x10] := ((hp5.trans hp6).block _ hk4.lt (by omega)).trans hk4
            have hk7 : Blk w7 w2.heap.size 32 #[x0, x1, x2, x3, x4, x5, x6, x7, x8, x9, x10] := by rw [← hw7]; exact hk6.far (p := ⟨w2.heap.size + 1, 8, none⟩) (by show w2.heap.size ≠ w2.heap.size + 1; omega) _
            exact (hp8.block _ hk7.lt (by omega)).trans hk7
          have hkrow : RowM rEx 11 (exX (lowX (W.heap.size + 1)) (w2.heap.size + 1)) w8 (some ⟨w2.heap.size, 0, none⟩) [x] := RowM.one (xs := [x0, x1, x2, x3, x4, x5, x6, x7, x8, x9, x10]) (by simpa using hk8) (exX_no (lowX_no (by omega)) (by omega)) hx3'
          have hfin : rEx.M (lowX (W.heap.size + 1)) w8 [.int .i64 8, .string ⟨#[]⟩, .int .i64 0, .int .i64 0, .string ⟨#[]⟩, .int .i64 0, .slice none 0 0, .slice (some ⟨w2.heap.size, 0, none⟩) 1 1, .slice A6 l.length c6, .slice none 0 0, .int .i64 q] (.mk 8 ⟨#[]⟩ 0 tyZ [x] l [] q) := (ExM.mk2_ (T := tyZc) (ks := [x]) (als := l) (bs := []) (c := 1) (cb := 0) (Ab := none) (ok_lit _ (by omega) (by omega)) (by simp [ByteArray.size]) (ok_lit _ (by omega) (by omega)) hq (TyM.leaf _ _ 0 ⟨#[]⟩ (ok_lit _ (by omega) (by omega)) (by simp [ByteArray.size])) (by simp) (by simp [maxLen]) e1 e2 (by simp) (by simp [maxLen]) (by simp) e3 (by simp) hkrow hrow8 (RowM.nil_ _ _ _ _)).of_exX
          obtain ⟨w9, hw9⟩ : ∃ w9, (((((((((((w8).setCell ⟨W.heap.size, 0, none⟩ (.int .i64 8)).setCell ⟨W.heap.size, 1, none⟩ (.string ⟨#[]⟩)).setCell ⟨W.heap.size, 2, none⟩ (.int .i64 0)).setCell ⟨W.heap.size, 3, none⟩ (.int .i64 0)).setCell ⟨W.heap.size, 4, none⟩ (.string ⟨#[]⟩)).setCell ⟨W.heap.size, 5, none⟩ (.int .i64 0)).setCell ⟨W.heap.size, 6, none⟩ (.slice none 0 0)).setCell ⟨W.heap.size, 7, none⟩ (.slice (some ⟨w2.heap.size, 0, none⟩) 1 1)).setCell ⟨W.heap.size, 8, none⟩ (.slice A6 l.length c6)).setCell ⟨W.heap.size, 9, none⟩ (.slice none 0 0)).setCell ⟨W.heap.size, 10, none⟩ (.int .i64 q) = w9 := ⟨_, rfl⟩
          have hPW := (Par.of_below (pb := pb) HN.out).trans hpw8
          have hB9 := set11 hBw8 (.int .i64 8) (.string ⟨#[]⟩) (.int .i64 0) (.int .i64 0) (.string ⟨#[]⟩) (.int .i64 0) (.slice none 0 0) (.slice (some ⟨w2.heap.size, 0, none⟩) 1 1) (.slice A6 l.length c6) (.slice none 0 0) (.int .i64 q)
          have hb9 := Par.set11 hPW (Nat.le_refl _) (.int .i64 8) (.string ⟨#[]⟩) (.int .i64 0) (.int .i64 0) (.string ⟨#[]⟩) (.int .i64 0) (.slice none 0 0) (.slice (some ⟨w2.heap.size, 0, none⟩) 1 1) (.slice A6 l.length c6) (.slice none 0 0) (.int .i64 q)
          have hS9 := PsAt.set11 hsw8 (g := W.heap.size) hlt (.int .i64 8) (.string ⟨#[]⟩) (.int .i64 0) (.int .i64 0) (.string ⟨#[]⟩) (.int .i64 0) (.slice none 0 0) (.slice (some ⟨w2.heap.size, 0, none⟩) 1 1) (.slice A6 l.length c6) (.slice none 0 0) (.int .i64 q)
          have hL9 : Low (lowX (W.heap.size + 1)) w8 _ := Low.set11 (Chg.refl _ _) (.inl (lowX_self _)) (.int .i64 8) (.string ⟨#[]⟩) (.int .i64 0) (.int .i64 0) (.string ⟨#[]⟩) (.int .i64 0) (.slice none 0 0) (.slice (some ⟨w2.heap.size, 0, none⟩) 1 1) (.slice A6 l.length c6) (.slice none 0 0) (.int .i64 q)
          rw [hw9] at hB9 hb9 hS9 hL9 ⊢
          have d0 := hB9.cell 0
          have d1 := hB9.cell 1
          have d2 := hB9.cell 2
          have d3 := hB9.cell 3
          have d4 := hB9.cell 4
          have d5 := hB9.cell 5
          have d6 := hB9.cell 6
          have d7 := hB9.cell 7
          have d8 := hB9.cell 8
          have d9 := hB9.cell 9
          have d10 := hB9.cell 10
          simp only [List.getElem?_toArray, List.getElem?_cons_succ, List.getElem?_cons_zero] at d0 d1 d2 d3 d4 d5 d6 d7 d8 d9 d10
          exact bodyPost_ret (v := .agg #[.int .i64 8, .string ⟨#[]⟩, .int .i64 0, .int .i64 0, .string ⟨#[]⟩, .int .i64 0, .slice none 0 0, .slice (some ⟨w2.heap.size, 0, none⟩) 1 1, .slice A6 l.length c6, .slice none 0 0, .int .i64 q]) (by simp [results, Tryd.results53, go_sem, d0, d1, d2, d3, d4, d5, d6, d7, d8, d9, d10]) rfl ⟨hb9, ⟨[.int .i64 8, .string ⟨#[]⟩, .int .i64 0, .int .i64 0, .string ⟨#[]⟩, .int .i64 0, .slice none 0 0, .slice (some ⟨w2.heap.size, 0, none⟩) 1 1, .slice A6 l.length c6, .slice none 0 0, .int .i64 q], rfl, rfl, (hfin.later hL9).wk (by omega)⟩, hS9, (hf6.sees hT)⟩

end Go.Proofs.YtiiddmioafhmoaaDoor
