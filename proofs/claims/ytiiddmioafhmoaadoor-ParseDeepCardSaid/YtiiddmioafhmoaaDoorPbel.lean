/- Walks: one level below. -/
import Derived.Test.YtiiddmioafhmoaaDoorPtz
namespace Go.Proofs.YtiiddmioafhmoaaDoor
open Go.RowKit
set_option linter.unusedVariables false
set_option linter.unusedSimpArgs false
set_option maxRecDepth 100000

/-- What is asked of a function that reads a thing at a level. -/
def LvOk {α : Type} (R : Rd α) (n f : Nat) (g : Nat → List Tk → Res α) : Prop := ∀ (pb lv : Nat) (ts : List Tk) (W : World), PsAt W pb ts lv → Fine ts → lv ≤ 300 → ∀ r, g lv ts = r → r ≠ .out →
  Calls Tryd.prog f #[.pointer (some ⟨pb, 0, none⟩)] W (PaPost pb lv n R r W)
theorem PsAt.level {W : World} {pb lv : Nat} {ts : List Tk} (h : PsAt W pb ts lv) (l : Nat) : PsAt (W.setCell ⟨pb, 1, none⟩ (.int .i64 l)) pb ts l := by
  obtain ⟨A, cap, h1, h2, h3, h4⟩ := h.ex
  refine ⟨A, cap, by simpa using h1.set_ 1 (.int .i64 l), h2, h3, h4.keep fun p hp => World.cell?_of_block (w := W) (Below.heap_setCell W _ _ _ (by show p.block ≠ pb; omega))⟩

set_option maxHeartbeats 3200000 in
theorem below_ty (g : Nat → List Tk → Res Ty) (HG : LvOk rTy 4 81 g) (pb lv : Nat) (ts : List Tk) (W : World) (h : PsAt W pb ts lv) (hf : Fine ts) (hlv : lv ≤ 300) (r : Res Ty) (hr : belowP lv g ts = r) (ho : r ≠ .out) :
    Calls Tryd.prog 80 #[.pointer (some ⟨pb, 0, none⟩), .func (.func 81) #[.pointer (some ⟨pb, 0, none⟩)] #[]] W (PaPost pb lv 4 rTy r W) := by
  obtain ⟨t, tl, rfl⟩ := hf.ne
  obtain ⟨W1, hW1⟩ : ∃ W1, W.alloc (.cells #[.int .i64 0, .string ⟨#[]⟩, .int .i64 0, .slice none 0 0] 27) = W1 := ⟨_, rfl⟩
  have hnew : Below W.heap.size W W1 := by rw [← hW1]; exact (Below.refl _ _).alloc (Nat.le_refl _) _
  have hres : Blk W1 W.heap.size 27 #[.int .i64 0, .string ⟨#[]⟩, .int .i64 0, .slice none 0 0] := by rw [← hW1]; exact Blk.new _ _ _
  have hs1 := h.later hnew
  have hlt := h.lt
  have hsz : W1.heap.size = W.heap.size + 1 := by rw [← hW1]; simp
  have HW1 := Lib.hid hW1
  have HN := Lib.hid hnew
  have HRS := Lib.hid hres
  have HS1 := Lib.hid hs1
  have HSZ := Lib.hid hsz
  have hp1 : Par pb W1 W1 := Chg.refl _ _
  clear hW1 hnew hres hs1 hsz h
  have HF := Lib.hid hf
  obtain ⟨A, cap, q1, q2, q3, q4⟩ := HS1.out.ex
  have p1 := q1.cell 1
  simp only [List.getElem?_toArray, List.getElem?_cons_succ, List.getElem?_cons_zero] at p1
  have fp := q1.frozen 1
  clear q1 q2 q3 q4
  unfold belowP at hr
  by_cases hl : lv = 300
  · subst hl
    obtain rfl : r = .bad 111 t.pos := by rw [← hr]; simp [posH_cons]
    have C2 := Lib.hid (wrong_any pb 300 t tl 111 W1 HS1.out)
    clear hr ho hf
    have p1' : W1.cell? ⟨pb, 1, none⟩ = some (.int .i64 300) := p1
    clear p1
    go_enter Tryd.func80, Tryd.ntmps80
    go_upto_region 1 with fail
    rw [HW1.out]
    go_wp2_with (go_at_call 17; (with_reducible refine C2.out.mono ?_); rintro e w3 ⟨rfl, hb3⟩)
    exact ⟨rfl, (Par.of_below HN.out).trans (Par.of_below hb3), rfl⟩
  · have d0 : ((lv : Int) == 300) = false := by simp; omega
    rw [if_neg hl] at hr
    obtain ⟨w2, hw2⟩ : ∃ w2, W1.setCell ⟨pb, 1, none⟩ (.int .i64 ((lv : Int) + 1)) = w2 := ⟨_, rfl⟩
    have hs2 : PsAt w2 pb (t :: tl) (lv + 1) := by rw [← hw2]; have := HS1.out.level (lv + 1); simpa using this
    have hp2 : Par pb W1 w2 := by rw [← hw2]; exact Par.set_ (pb := pb) (p := ⟨pb, 1, none⟩) (Chg.refl _ _) (.inl rfl) _
    have C2 := Lib.hid (HG pb (lv + 1) (t :: tl) w2 hs2 HF.out (by omega) r hr ho)
    have HW2 := Lib.hid hw2
    have HL := Lib.hid hl
    clear hw2 hr hl
    cases r with
    | out => exact absurd rfl ho
    | bad c p =>
      clear ho hf
      go_enter Tryd.func80, Tryd.ntmps80
      go_upto_region 1 with fail
      rw [HW1.out]
      go_upto_region 4 with fail
      rw [HW2.out]
      go_wp2_with (go_at_call 81; (with_reducible refine C2.out.mono ?_); rintro e w3 ⟨hp3, rfl⟩)
      exact ⟨rfl, (Par.of_below HN.out).trans (hp2.trans hp3), rfl⟩
    | ok x ts2 =>
      clear ho hf
      go_enter Tryd.func80, Tryd.ntmps80
      go_upto_region 1 with fail
      rw [HW1.out]
      go_upto_region 4 with fail
      rw [HW2.out]
      go_upto_region 5 with (go_at_call 81; (with_reducible refine C2.out.mono ?_); rintro e w3 ⟨hp3, ⟨cs, hlen, rfl, hty⟩, hs3, hf3⟩; (obtain ⟨x0, x1, x2, x3, rfl⟩ := four_of hlen); (have s0 := store_one' x0 (ty_ones' hty x0 (by simp))); (have s1 := store_one' x1 (ty_ones' hty x1 (by simp))); (have s2 := store_one' x2 (ty_ones' hty x2 (by simp))); (have s3 := store_one' x3 (ty_ones' hty x3 (by simp))))
      obtain ⟨w4, hw4⟩ : ∃ w4, w3.alloc (.cells #[x0, x1, x2, x3] 27) = w4 := ⟨_, rfl⟩
      have hb4 : Below w3.heap.size w3 w4 := by rw [← hw4]; exact below_new' _ _
      have hx4 : Blk w4 w3.heap.size 27 #[x0, x1, x2, x3] := by rw [← hw4]; exact Blk.new _ _ _
      rw [hw4]
      have hs4 := hs3.later hb4
      obtain ⟨A4, cap4, q1, q2, q3, q4⟩ := hs4.ex
      have p1 := q1.cell 1
      simp only [List.getElem?_toArray, List.getElem?_cons_succ, List.getElem?_cons_zero] at p1
      rw [show ((lv + 1 : Nat) : Int) = (lv : Int) + 1 by omega] at p1
      have fp := q1.frozen 1
      obtain ⟨w5, hw5⟩ : ∃ w5, w4.setCell ⟨pb, 1, none⟩ (.int .i64 (lv : Int)) = w5 := ⟨_, rfl⟩
      have hs5 : PsAt w5 pb ts2 lv := by rw [← hw5]; exact hs4.level lv
      have hp5 : Par pb w4 w5 := by rw [← hw5]; exact Par.set_ (pb := pb) (p := ⟨pb, 1, none⟩) (Chg.refl _ _) (.inl rfl) _
      have hsz := HSZ.out
      have hz2 := hp2.size
      have hz3 := hp3.size
      have HW5 := Lib.hid hw5
      have hl300 := HL.out
      have hw1 : IntKind.i64.wrap ((lv : Int) + 1 - 1) = (lv : Int) := by rw [IntWalk.i64_in _ (by omega)]; omega
      clear hw4 hw5 q1 q2 q3 q4
      go_upto_region 6 with fail
      first | rw [HW5.out] | (rw [show (lv : Int) + 1 - 1 = lv by omega, HW5.out])
      clear hw1
      have hx5 : Blk w5 w3.heap.size 27 #[x0, x1, x2, x3] := (hp5.block _ hx4.lt (by have := hs3.lt; omega)).trans hx4
      have y0 := hx5.cell 0
      have y1 := hx5.cell 1
      have y2 := hx5.cell 2
      have y3 := hx5.cell 3
      simp only [List.getElem?_toArray, List.getElem?_cons_succ, List.getElem?_cons_zero] at y0 y1 y2 y3
      have hpw5 : Par pb W1 w5 := ((hp2.trans hp3).trans (Par.of_below hb4)).trans hp5
      have hBw5 : Blk w5 W.heap.size 27 #[.int .i64 0, .string ⟨#[]⟩, .int .i64 0, .slice none 0 0] := (hpw5.block _ HRS.out.lt (by omega : ¬ W.heap.size = pb)).trans HRS.out
      have r0 := hBw5.cell 0
      have r1 := hBw5.cell 1
      have r2 := hBw5.cell 2
      have r3 := hBw5.cell 3
      simp only [List.getElem?_toArray, List.getElem?_cons_succ, List.getElem?_cons_zero] at r0 r1 r2 r3
      have f0 := hBw5.frozen 0
      have f1 := hBw5.frozen 1
      have f2 := hBw5.frozen 2
      have f3 := hBw5.frozen 3
      go_wp2_with fail
      obtain ⟨w9, hw9⟩ : ∃ w9, ((((w5).setCell ⟨W.heap.size, 0, none⟩ (x0)).setCell ⟨W.heap.size, 1, none⟩ (x1)).setCell ⟨W.heap.size, 2, none⟩ (x2)).setCell ⟨W.heap.size, 3, none⟩ (x3) = w9 := ⟨_, rfl⟩
      have hPW := (Par.of_below (pb := pb) HN.out).trans hpw5
      have hB9 := four_set' hBw5 x0 x1 x2 x3
      have hb9 := Par.four hPW (Nat.le_refl _) x0 x1 x2 x3
      have hS9 := PsAt.four hs5 (g := W.heap.size) hlt x0 x1 x2 x3
      have hL9 : Low (lowX (W.heap.size + 1)) w5 _ := Low.four (Chg.refl _ _) (.inl (lowX_self _)) x0 x1 x2 x3
      rw [hw9] at hB9 hb9 hS9 hL9 ⊢
      have d0 := hB9.cell 0
      have d1 := hB9.cell 1
      have d2 := hB9.cell 2
      have d3 := hB9.cell 3
      simp only [List.getElem?_toArray, List.getElem?_cons_succ, List.getElem?_cons_zero] at d0 d1 d2 d3
      have hty5 := (((hty.wk (B' := W.heap.size + 1) (by omega)).later (Low.of_below hb4)).later (Low.of_par hp5 (by omega))).later hL9
      exact bodyPost_ret (v := .agg #[x0, x1, x2, x3]) (by simp [results, Tryd.results80, go_sem, d0, d1, d2, d3]) rfl ⟨hb9, ⟨[x0, x1, x2, x3], rfl, rfl, hty5.wk (by omega)⟩, hS9, hf3⟩

set_option maxHeartbeats 3200000 in
theorem enter_ty (g : Nat → List Tk → Res Ty) (HG : LvOk rTy 4 81 g) : LvOk rTy 4 76 (fun lv ts => belowP lv g ts) := by
  intro pb lv ts W h hf hlv r hr ho
  have hmf : ∀ w : World, (Instr.makeFunc (.func 81) #[.pointer (some ⟨pb, 0, none⟩)] #[]).run Tryd.prog w = .ok (.func (.func 81) #[.pointer (some ⟨pb, 0, none⟩)] #[]) w := fun _ => rfl
  obtain ⟨W1, hW1⟩ : ∃ W1, W.alloc (.cells #[.int .i64 0, .string ⟨#[]⟩, .int .i64 0, .slice none 0 0] 27) = W1 := ⟨_, rfl⟩
  have hnew : Below W.heap.size W W1 := by rw [← hW1]; exact (Below.refl _ _).alloc (Nat.le_refl _) _
  have hres : Blk W1 W.heap.size 27 #[.int .i64 0, .string ⟨#[]⟩, .int .i64 0, .slice none 0 0] := by rw [← hW1]; exact Blk.new _ _ _
  have hs1 := h.later hnew
  have hlt := h.lt
  have hsz : W1.heap.size = W.heap.size + 1 := by rw [← hW1]; simp
  have HW1 := Lib.hid hW1
  have HN := Lib.hid hnew
  have HRS := Lib.hid hres
  have HS1 := Lib.hid hs1
  have HSZ := Lib.hid hsz
  have hp1 : Par pb W1 W1 := Chg.refl _ _
  clear hW1 hnew hres hs1 hsz h
  have C := Lib.hid (below_ty g HG pb lv ts W1 HS1.out hf hlv r hr ho)
  cases r with
  | out => exact absurd rfl ho
  | bad c p =>
    clear hr ho hf
    go_enter Tryd.func76, Tryd.ntmps76
    go_upto_region 1 with fail
    rw [HW1.out]
    go_wp2_with (go_at_call 80; (with_reducible refine C.out.mono ?_); rintro e w3 ⟨hp3, rfl⟩)
    exact ⟨rfl, (Par.of_below HN.out).trans hp3, rfl⟩
  | ok x ts2 =>
    clear hr ho hf
    go_enter Tryd.func76, Tryd.ntmps76
    go_upto_region 1 with fail
    rw [HW1.out]
    go_wp2_with (go_at_call 80; (with_reducible refine C.out.mono ?_); rintro e w3 ⟨hp3, ⟨cs, hlen, rfl, hty⟩, hs3, hf3⟩; (obtain ⟨x0, x1, x2, x3, rfl⟩ := four_of hlen); (have s0 := store_one' x0 (ty_ones' hty x0 (by simp))); (have s1 := store_one' x1 (ty_ones' hty x1 (by simp))); (have s2 := store_one' x2 (ty_ones' hty x2 (by simp))); (have s3 := store_one' x3 (ty_ones' hty x3 (by simp))); (have hBw3 : Blk w3 W.heap.size 27 #[.int .i64 0, .string ⟨#[]⟩, .int .i64 0, .slice none 0 0] := (hp3.block _ HRS.out.lt (by omega : ¬ W.heap.size = pb)).trans HRS.out); (have r0 := hBw3.cell 0); (have r1 := hBw3.cell 1); (have r2 := hBw3.cell 2); (have r3 := hBw3.cell 3); (simp only [List.getElem?_toArray, List.getElem?_cons_succ, List.getElem?_cons_zero] at r0 r1 r2 r3); (have f0 := hBw3.frozen 0); (have f1 := hBw3.frozen 1); (have f2 := hBw3.frozen 2); (have f3 := hBw3.frozen 3))
    obtain ⟨w9, hw9⟩ : ∃ w9, ((((w3).setCell ⟨W.heap.size, 0, none⟩ (x0)).setCell ⟨W.heap.size, 1, none⟩ (x1)).setCell ⟨W.heap.size, 2, none⟩ (x2)).setCell ⟨W.heap.size, 3, none⟩ (x3) = w9 := ⟨_, rfl⟩
    have hsz := HSZ.out
    have hPW := (Par.of_below (pb := pb) HN.out).trans hp3
    have hB9 := four_set' hBw3 x0 x1 x2 x3
    have hb9 := Par.four hPW (Nat.le_refl _) x0 x1 x2 x3
    have hS9 := PsAt.four hs3 (g := W.heap.size) hlt x0 x1 x2 x3
    have hL9 : Low (lowX (W.heap.size + 1)) w3 _ := Low.four (Chg.refl _ _) (.inl (lowX_self _)) x0 x1 x2 x3
    rw [hw9] at hB9 hb9 hS9 hL9 ⊢
    have d0 := hB9.cell 0
    have d1 := hB9.cell 1
    have d2 := hB9.cell 2
    have d3 := hB9.cell 3
    simp only [List.getElem?_toArray, List.getElem?_cons_succ, List.getElem?_cons_zero] at d0 d1 d2 d3
    have hty5 := (hty.wk (B' := W.heap.size + 1) (by omega)).later hL9
    exact bodyPost_ret (v := .agg #[x0, x1, x2, x3]) (by simp [results, Tryd.results76, go_sem, d0, d1, d2, d3]) rfl ⟨hb9, ⟨[x0, x1, x2, x3], rfl, rfl, hty5.wk (by omega)⟩, hS9, hf3⟩

/-- The parser's types are the grammar's. -/
theorem typ_all (n : Nat) : TyOk 76 (typF n) := by
  induction n with
  | zero => intro pb lv ts W h hf hlv r hr ho; exact absurd hr.symm ho
  | succ n ih => exact enter_ty (funcP (typF n)) (fun pb lv ts W h hf hlv r hr ho => func_any (typF n) ih pb lv ts W h hf hlv r hr ho)

end Go.Proofs.YtiiddmioafhmoaaDoor
