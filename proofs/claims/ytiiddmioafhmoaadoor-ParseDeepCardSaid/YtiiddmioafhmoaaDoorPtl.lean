/- Walks: a parser's tokens: what is seen, skipped, needed. -/
import Derived.Test.YtiiddmioafhmoaaDoorPtk
namespace Go.Proofs.YtiiddmioafhmoaaDoor
open Go.RowKit
set_option linter.unusedVariables false
set_option linter.unusedSimpArgs false
set_option maxRecDepth 100000

theorem tx_eq (tx : List UInt8) (s : ByteArray) : (ByteArray.toList ⟨tx.toArray⟩ == s.toList) = (tx == s.data.toList) := by
  rw [ByteArray.toList_eq, ByteArray.toList_eq]

set_option maxHeartbeats 1600000 in
theorem sees_any (pb lv : Nat) (t : Tk) (ts : List Tk) (s : ByteArray) (W : World) (h : PsAt W pb (t :: ts) lv) (b : Bool) (hb : seesB t s = b) :
    Calls Tryd.prog 45 #[.pointer (some ⟨pb, 0, none⟩), .string s] W fun e W' => e = .returned (.bool b) ∧ Below W.heap.size W W' := by
  have C := Lib.hid (ahead_any pb lv t ts W h)
  obtain ⟨kd, tx, nm, po⟩ := t
  unfold seesB at hb
  dsimp only at hb
  have HB := Lib.hid hb
  clear hb h
  have HQ := Lib.hid (show ∀ x : Bool, (x && (tx == s.data.toList)) = (x && (tx == s.toList)) by intro x; rw [ByteArray.toList_eq])
  by_cases h6 : kd = 6
  · subst h6
    have HE := Lib.hid (show (tx == s.toList) = b by rw [← HB.out, HQ.out]; rfl)
    go_enter Tryd.func45, Tryd.ntmps45
    go_wp2_with (go_at_call 16; (with_reducible refine C.out.mono ?_); rintro e w2 ⟨rfl, hb2⟩; rw [tk_cells]; dsimp only)
    go_ret
    exact ⟨ret_bool HE.out, hb2.trans ((below_new' _ _).mono hb2.size)⟩
  · have d6 : (kd == 6) = false := by simpa using h6
    by_cases h7 : kd = 7
    · subst h7
      have HE := Lib.hid (show (tx == s.toList) = b by rw [← HB.out, HQ.out]; rfl)
      go_enter Tryd.func45, Tryd.ntmps45
      go_wp2_with (go_at_call 16; (with_reducible refine C.out.mono ?_); rintro e w2 ⟨rfl, hb2⟩; rw [tk_cells]; dsimp only)
      go_ret
      exact ⟨ret_bool HE.out, hb2.trans ((below_new' _ _).mono hb2.size)⟩
    · have d7 : (kd == 7) = false := by simpa using h7
      have HE := Lib.hid (show b = false by rw [← HB.out, d6, d7]; rfl)
      go_enter Tryd.func45, Tryd.ntmps45
      go_wp2_with (go_at_call 16; (with_reducible refine C.out.mono ?_); rintro e w2 ⟨rfl, hb2⟩; rw [tk_cells]; dsimp only)
      go_ret
      exact ⟨ret_bool HE.out.symm, hb2.trans ((below_new' _ _).mono hb2.size)⟩

theorem seesB_kind {t : Tk} {s : ByteArray} (h : seesB t s = true) : t.kind ≠ 0 := by
  unfold seesB at h
  simp only [Bool.and_eq_true, Bool.or_eq_true, beq_iff_eq] at h
  omega
theorem restT_sees {t : Tk} {ts : List Tk} {s : ByteArray} (h : seesB t s = true) : restT (t :: ts) = ts := by simp [restT, seesB_kind h]

set_option maxHeartbeats 1600000 in
theorem skip_any (pb lv : Nat) (t : Tk) (ts : List Tk) (s : ByteArray) (W : World) (h : PsAt W pb (t :: ts) lv) (b : Bool) (hb : seesB t s = b) :
    Calls Tryd.prog 28 #[.pointer (some ⟨pb, 0, none⟩), .string s] W fun e W' => e = .returned (.bool b) ∧ Par pb W W' ∧ PsAt W' pb (if b then ts else t :: ts) lv := by
  have C := Lib.hid (sees_any pb lv t ts s W h b hb)
  have D := Lib.hid (fun W' (hb : Below W.heap.size W W') => take_any pb lv t ts W' (h.later hb))
  have HP := Lib.hid h
  have HB := Lib.hid hb
  clear h hb
  cases b with
  | true =>
    have HR := Lib.hid (restT_sees (ts := ts) HB.out)
    go_enter Tryd.func28, Tryd.ntmps28
    go_wp2_with (first | (go_at_call 45; (with_reducible refine C.out.mono ?_); rintro e w2 ⟨rfl, hb2⟩) | (go_at_call 18; (with_reducible refine (D.out _ hb2).mono ?_); rintro e w3 ⟨rfl, hp3, hs3⟩))
    go_ret
    exact ⟨rfl, (Par.of_below hb2).trans hp3, by rw [HR.out] at hs3; exact hs3⟩
  | false =>
    go_enter Tryd.func28, Tryd.ntmps28
    go_wp2_with (go_at_call 45; (with_reducible refine C.out.mono ?_); rintro e w2 ⟨rfl, hb2⟩)
    go_ret
    exact ⟨rfl, Par.of_below hb2, HP.out.later hb2⟩

theorem field_tk0 (w : World) (a b c d : Value) : (Instr.field 52 (.agg #[a, b, c, d]) 0).run Tryd.prog w = .ok a w := rfl
theorem field_tk1 (w : World) (a b c d : Value) : (Instr.field 52 (.agg #[a, b, c, d]) 1).run Tryd.prog w = .ok b w := rfl
theorem field_tk3 (w : World) (a b c d : Value) : (Instr.field 52 (.agg #[a, b, c, d]) 3).run Tryd.prog w = .ok d w := rfl

set_option maxHeartbeats 1600000 in
theorem wrong_any (pb lv : Nat) (t : Tk) (ts : List Tk) (c : Int) (W : World) (h : PsAt W pb (t :: ts) lv) :
    Calls Tryd.prog 17 #[.pointer (some ⟨pb, 0, none⟩), .int .i64 c] W fun e W' => e = .returned (.agg #[.int .i64 c, .int .i64 t.pos]) ∧ Below W.heap.size W W' := by
  have hlt := h.lt
  obtain ⟨W1, hW1⟩ : ∃ W1, W.alloc (.cells #[.int .i64 0, .int .i64 0] 35) = W1 := ⟨_, rfl⟩
  have hnew : Below W.heap.size W W1 := by rw [← hW1]; exact (Below.refl _ _).alloc (Nat.le_refl _) _
  have hres : Blk W1 W.heap.size 35 #[.int .i64 0, .int .i64 0] := by rw [← hW1]; exact Blk.new _ _ _
  have C := Lib.hid (ahead_any pb lv t ts W1 (h.later hnew))
  have HW1 := Lib.hid hW1
  have HN := Lib.hid hnew
  have HRS := Lib.hid hres
  clear h hW1 hnew hres
  have hf3 := field_tk3
  go_enter Tryd.func17, Tryd.ntmps17
  go_upto_region 1 with fail
  rw [HW1.out]
  go_wp2_with (go_at_call 16; (with_reducible refine C.out.mono ?_); rintro e w2 ⟨rfl, hb2⟩; rw [tk_cells]; (have hB2 := HRS.out.below hb2 HRS.out.lt); (have r0 := hB2.cell 0); (have r1 := hB2.cell 1); (simp only [List.getElem?_toArray, List.getElem?_cons_succ, List.getElem?_cons_zero] at r0 r1); (have f0 := hB2.frozen 0); (have f1 := hB2.frozen 1))
  obtain ⟨w5, hw5⟩ : ∃ w5, (w2.setCell ⟨W.heap.size, 0, none⟩ (.int .i64 c)).setCell ⟨W.heap.size, 1, none⟩ (.int .i64 t.pos) = w5 := ⟨_, rfl⟩
  have hB5 := (hB2.set_ 0 (.int .i64 c)).set_ 1 (.int .i64 t.pos)
  have hb5 : Below W.heap.size W _ := ((HN.out.trans (hb2.mono HN.out.size)).setCell (p := ⟨W.heap.size, 0, none⟩) (Nat.le_refl _) (.int .i64 c)).setCell (p := ⟨W.heap.size, 1, none⟩) (Nat.le_refl _) (.int .i64 t.pos)
  rw [hw5] at hB5 hb5 ⊢
  have d0 := hB5.cell 0
  have d1 := hB5.cell 1
  simp at d0 d1
  exact bodyPost_ret (v := .agg #[.int .i64 c, .int .i64 t.pos]) (by simp [results, Tryd.results17, go_sem, d0, d1]) rfl ⟨rfl, hb5⟩

/-- A panic with a diagnosis. -/
abbrev diagE (c : Int) (p : Nat) : Ending := .panicked [{ v := .iface 35 (.agg #[.int .i64 c, .int .i64 p]), recovered := false }]

set_option maxHeartbeats 1600000 in
theorem need_yes (pb lv : Nat) (t : Tk) (ts : List Tk) (s : ByteArray) (W : World) (h : PsAt W pb (t :: ts) lv) (hb : seesB t s = true) :
    Calls Tryd.prog 47 #[.pointer (some ⟨pb, 0, none⟩), .string s] W fun e W' => e = .returned (.tuple #[]) ∧ Par pb W W' ∧ PsAt W' pb ts lv := by
  have C := Lib.hid (skip_any pb lv t ts s W h true hb)
  clear h hb
  go_enter Tryd.func47, Tryd.ntmps47
  go_wp2_with (go_at_call 28; (with_reducible refine C.out.mono ?_); rintro e w2 ⟨rfl, hp2, hs2⟩)
  exact bodyPost_end (results_none rfl _ _ _) rfl ⟨rfl, hp2, hs2⟩
set_option maxHeartbeats 1600000 in
theorem need_no (pb lv : Nat) (t : Tk) (ts : List Tk) (s : ByteArray) (W : World) (h : PsAt W pb (t :: ts) lv) (hb : seesB t s = false) :
    Calls Tryd.prog 47 #[.pointer (some ⟨pb, 0, none⟩), .string s] W fun e W' => e = diagE 110 t.pos ∧ Par pb W W' := by
  have C := Lib.hid (skip_any pb lv t ts s W h false hb)
  have D := Lib.hid (fun W (h : PsAt W pb (t :: ts) lv) => wrong_any pb lv t ts 110 W h)
  clear h hb
  go_enter Tryd.func47, Tryd.ntmps47
  go_wp2_with (first | (go_at_call 28; (with_reducible refine C.out.mono ?_); rintro e w2 ⟨rfl, hp2, hs2⟩) | (go_at_call 17; (with_reducible refine (D.out _ hs2).mono ?_); rintro e w3 ⟨rfl, hb3⟩))
  exact ⟨rfl, rfl, hp2.trans (Par.of_below hb3)⟩

set_option maxHeartbeats 1600000 in
theorem needKind_yes (pb lv : Nat) (t : Tk) (ts : List Tk) (k : Int) (W : World) (h : PsAt W pb (t :: ts) lv) (hk : t.kind = k) :
    Calls Tryd.prog 10 #[.pointer (some ⟨pb, 0, none⟩), .int .i64 k] W fun e W' => e = .returned (tkV t) ∧ Par pb W W' ∧ PsAt W' pb (restT (t :: ts)) lv := by
  have hlt := h.lt
  obtain ⟨W1, hW1⟩ : ∃ W1, W.alloc (.cells #[.int .i64 0, .string ⟨#[]⟩, .int .i64 0, .int .i64 0] 52) = W1 := ⟨_, rfl⟩
  have hnew : Below W.heap.size W W1 := by rw [← hW1]; exact (Below.refl _ _).alloc (Nat.le_refl _) _
  have hres : Blk W1 W.heap.size 52 #[.int .i64 0, .string ⟨#[]⟩, .int .i64 0, .int .i64 0] := by rw [← hW1]; exact Blk.new _ _ _
  have C := Lib.hid (ahead_any pb lv t ts W1 (h.later hnew))
  have D := Lib.hid (fun W2 (hb : Below W1.heap.size W1 W2) => take_any pb lv t ts W2 ((h.later hnew).later hb))
  have HW1 := Lib.hid hW1
  have HN := Lib.hid hnew
  have HRS := Lib.hid hres
  have hne : W.heap.size ≠ pb := by omega
  clear h hW1 hnew hres
  obtain ⟨kd, tx, nm, po⟩ := t
  dsimp only at hk
  subst hk
  have hf0 := field_tk0
  go_enter Tryd.func10, Tryd.ntmps10
  go_upto_region 1 with fail
  rw [HW1.out]
  go_wp2_with (first | (go_at_call 16; (with_reducible refine C.out.mono ?_); rintro e w2 ⟨rfl, hb2⟩; rw [tk_cells]; dsimp only) | (go_at_call 18; (with_reducible refine (D.out _ hb2).mono ?_); rintro e w3 ⟨rfl, hp3, hs3⟩; rw [tk_cells]; dsimp only; (have hB2 := HRS.out.below hb2 HRS.out.lt); (have hB3 : Blk w3 W.heap.size 52 #[.int .i64 0, .string ⟨#[]⟩, .int .i64 0, .int .i64 0] := (hp3.block _ hB2.lt hne).trans hB2); (have r0 := hB3.cell 0); (have r1 := hB3.cell 1); (have r2 := hB3.cell 2); (have r3 := hB3.cell 3); (simp only [List.getElem?_toArray, List.getElem?_cons_succ, List.getElem?_cons_zero] at r0 r1 r2 r3); (have f0 := hB3.frozen 0); (have f1 := hB3.frozen 1); (have f2 := hB3.frozen 2); (have f3 := hB3.frozen 3)))
  obtain ⟨w5, hw5⟩ : ∃ w5, (((w3.setCell ⟨W.heap.size, 0, none⟩ (.int .i64 kd)).setCell ⟨W.heap.size, 1, none⟩ (.string ⟨tx.toArray⟩)).setCell ⟨W.heap.size, 2, none⟩ (.int .i64 nm)).setCell ⟨W.heap.size, 3, none⟩ (.int .i64 po) = w5 := ⟨_, rfl⟩
  have hP3 : Par pb W w3 := ((Par.of_below HN.out).trans (Par.of_below hb2)).trans hp3
  have hB5 := four_set' hB3 (.int .i64 kd) (.string ⟨tx.toArray⟩) (.int .i64 nm) (.int .i64 po)
  have hb5 := Par.four hP3 (Nat.le_refl _) (.int .i64 kd) (.string ⟨tx.toArray⟩) (.int .i64 nm) (.int .i64 po)
  have hS5 := hs3.four (g := W.heap.size) hlt (.int .i64 kd) (.string ⟨tx.toArray⟩) (.int .i64 nm) (.int .i64 po)
  rw [hw5] at hB5 hb5 hS5 ⊢
  have d0 := hB5.cell 0
  have d1 := hB5.cell 1
  have d2 := hB5.cell 2
  have d3 := hB5.cell 3
  simp only [List.getElem?_toArray, List.getElem?_cons_succ, List.getElem?_cons_zero] at d0 d1 d2 d3
  exact bodyPost_ret (v := tkV ⟨kd, tx, nm, po⟩) (by simp [results, Tryd.results10, go_sem, tkV, d0, d1, d2, d3]) rfl ⟨rfl, hb5, hS5⟩
set_option maxHeartbeats 1600000 in
theorem needKind_no (pb lv : Nat) (t : Tk) (ts : List Tk) (k : Int) (W : World) (h : PsAt W pb (t :: ts) lv) (hk : t.kind ≠ k) :
    Calls Tryd.prog 10 #[.pointer (some ⟨pb, 0, none⟩), .int .i64 k] W fun e W' => e = diagE 110 t.pos ∧ Par pb W W' := by
  have hlt := h.lt
  have hnew := below_new' W (.cells #[.int .i64 0, .string ⟨#[]⟩, .int .i64 0, .int .i64 0] 52)
  have C := Lib.hid (ahead_any pb lv t ts _ (h.later hnew))
  have D := Lib.hid (fun W2 (hb : Below _ (W.alloc (.cells #[.int .i64 0, .string ⟨#[]⟩, .int .i64 0, .int .i64 0] 52)) W2) => wrong_any pb lv t ts 110 W2 ((h.later hnew).later hb))
  have HN := Lib.hid hnew
  clear h hnew
  obtain ⟨kd, tx, nm, po⟩ := t
  have d0 : (kd != k) = true := by simpa using hk
  have hf0 := field_tk0
  go_enter Tryd.func10, Tryd.ntmps10
  go_wp2_with (first | (go_at_call 16; (with_reducible refine C.out.mono ?_); rintro e w2 ⟨rfl, hb2⟩; rw [tk_cells]; dsimp only) | (go_at_call 17; (with_reducible refine (D.out _ hb2).mono ?_); rintro e w3 ⟨rfl, hb3⟩))
  exact ⟨rfl, rfl, ((Par.of_below HN.out).trans (Par.of_below hb2)).trans (Par.of_below hb3)⟩

end Go.Proofs.YtiiddmioafhmoaaDoor
