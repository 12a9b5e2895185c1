/- Walks: a source that consists of one expression. -/
import Derived.Defers
import Derived.Recover
import Derived.Test.YtiiddmioafhmoaaDoorPopd
import Derived.Test.YtiiddmioafhmoaaDoorTkf
import Derived.Test.YtiiddmioafhmoaaDoorLexi
namespace Go.Proofs.YtiiddmioafhmoaaDoor
open Go.RowKit
set_option linter.unusedVariables false
set_option linter.unusedSimpArgs false
set_option maxRecDepth 100000

/-- A source that consists of one thing. -/
def wholeP {α : Type} (rd : Nat → List Tk → Res α) (l : List UInt8) : Res α :=
  if (scanL l).2.1 = 0 then (rd 0 (scanL l).1).andThen fun a ts1 => (kindP 0 ts1).andThen fun _ ts2 => .ok a ts2 else .bad (scanL l).2.1 (scanL l).2.2

/-- What whole answers. -/
def WhPost (r : Res Ex) (W : World) (e : Ending) (W' : World) : Prop :=
  Below W.heap.size W W' ∧ match r with
  | .ok x _ => ∃ cs : List Value, cs.length = 11 ∧ e = .returned (.tuple #[.agg cs.toArray, .agg #[.int .i64 0, .int .i64 0]]) ∧ rEx.M (lowX W.heap.size) W' cs x
  | .bad c p => e = .returned (.tuple #[.agg #[.int .i64 0, .string ⟨#[]⟩, .int .i64 0, .int .i64 0, .string ⟨#[]⟩, .int .i64 0, .slice none 0 0, .slice none 0 0, .slice none 0 0, .slice none 0 0, .int .i64 0], .agg #[.int .i64 c, .int .i64 p]])
  | .out => True
theorem scan_zero (l : List UInt8) (h : (scanL l).2.1 = 0) : (scanL l).2 = (0, 0) := by
  unfold scanL at h ⊢
  split at h
  · simp at h
  · rename_i hl
    rw [if_neg hl]
    cases hb : badL l with
    | some i => rw [hb] at h; simp at h
    | none => rw [hb] at h; simp only at h ⊢; exact (toks_zero _ _ _).1 h
theorem leaves_ret {P : Program} {fn : Func} {R : Ending → World → Prop} {v : Value} {tmps : Array Value} {w : World} (hv : (results fn tmps).run P w = .ok v w) (h : R (.returned v) w) : Leaves P fn tmps R [] .returning w := ⟨v, hv, h⟩
theorem scan_psat {w3 : World} {A : Option Addr} {ts : List Tk} {n cap S : Nat} (hn : ts.length = n) (hf : Fine ts) (hrow : TkRow w3 w3.heap.size A ts) (h1 : n ≤ cap) (h2 : cap ≤ maxLen) (hb : Blk w3 S 35 #[.int .i64 0, .int .i64 0]) :
    PsAt (((w3.setCell ⟨S, 0, none⟩ (.int .i64 0)).setCell ⟨S, 1, none⟩ (.int .i64 0)).alloc (.cells #[.slice A n cap, .int .i64 0] 50)) w3.heap.size ts 0 := by
  subst hn
  obtain ⟨t, tl, rfl⟩ := hf.ne
  obtain ⟨g, o, rfl, hg, hc⟩ := hrow (by simp)
  have hne : g ≠ S := by
    rintro rfl
    have h3 := (hc 0 (by simp)).2.1
    rw [hb.cell] at h3
    match o, h3 with
    | 0, h3 => simp at h3
    | o + 1, h3 => simp at h3
  refine ⟨⟨some ⟨g, o, none⟩, cap, ?_, h1, h2, ?_⟩⟩
  · have := Blk.new ((w3.setCell ⟨S, 0, none⟩ (.int .i64 0)).setCell ⟨S, 1, none⟩ (.int .i64 0)) 50 #[.slice (some ⟨g, o, none⟩) (t :: tl).length cap, .int .i64 0]
    simpa [World.setCell] using this
  · refine fun hl => ⟨g, o, rfl, hg, fun i hi => ?_⟩
    have hk : ∀ q u, w3.cell? ⟨g, q, none⟩ = some u → (((w3.setCell ⟨S, 0, none⟩ (.int .i64 0)).setCell ⟨S, 1, none⟩ (.int .i64 0)).alloc (.cells #[.slice (some ⟨g, o, none⟩) (t :: tl).length cap, .int .i64 0] 50)).cell? ⟨g, q, none⟩ = some u := by
      intro q u h
      rw [← h]
      apply World.cell?_of_block
      refine (Below.heap_alloc _ _ g (by simpa [World.setCell] using hg)).trans ((Below.heap_setCell _ _ _ g ?_).trans (Below.heap_setCell _ _ _ g ?_))
      · show g ≠ S; exact hne
      · show g ≠ S; exact hne
    obtain ⟨k0, k1, k2, k3⟩ := hc i hi
    exact ⟨hk _ _ k0, hk _ _ k1, hk _ _ k2, hk _ _ k3⟩
set_option maxHeartbeats 3200000 in
theorem catch_diag (b : Nat) (c x y : Int) (p : Nat) (w : World) (hb : Blk w b 35 #[.int .i64 x, .int .i64 y]) :
    CallsD Tryd.prog 9 #[.pointer (some ⟨b, 0, none⟩)] (.panicking [{ v := .iface 35 (.agg #[.int .i64 c, .int .i64 p]), recovered := false }]) w fun e u' w' =>
      e = .returned (.tuple #[]) ∧ u' = .panicking [{ v := .iface 35 (.agg #[.int .i64 c, .int .i64 p]), recovered := true }] ∧ w' = ((w.alloc (.cells #[.int .i64 c, .int .i64 p] 35)).setCell ⟨b, 0, none⟩ (.int .i64 c)).setCell ⟨b, 1, none⟩ (.int .i64 p) := by
  have hb2 := hb.alloc (.cells #[.int .i64 c, .int .i64 p] 35)
  have d0 := hb2.cell 0
  have d1 := hb2.cell 1
  simp only [List.getElem?_toArray, List.getElem?_cons_succ, List.getElem?_cons_zero] at d0 d1
  have f0 := hb2.frozen 0
  have f1 := hb2.frozen 1
  have hne : w.heap.size ≠ b := by have := hb.lt; omega
  have hta : ∀ (u v : Value) (w0 : World), (Instr.typeAssert (Value.iface 35 (.agg #[u, v])) 20 35 true).run Tryd.prog w0 = .ok (.tuple #[.agg #[u, v], .bool true]) w0 := fun _ _ _ => rfl
  refine callsD_of_wpS Tryd.func9 rfl fun c₀ cs hu => ?_
  apply wpS_seq
  apply wpS_region
  simp [wpOpsS, go_sem, recoverD, hu, Tryd.ntmps9, Exit.thenS]
  refine wpS_of_wp ?_
  simp only [Array.replicate_succ, Array.replicate_zero, List.push_toArray, List.append_toArray, List.nil_append, List.cons_append, List.setIfInBounds_toArray, List.set_cons_zero, List.set_cons_succ]
  go_wp2_with fail
  simp [bodyPostS, results, Tryd.results9]
set_option maxHeartbeats 3200000 in
theorem catch_idle (b : Nat) (w : World) :
    CallsD Tryd.prog 9 #[.pointer (some ⟨b, 0, none⟩)] .returning w fun e u' w' => e = .returned (.tuple #[]) ∧ u' = .returning ∧ w' = w := by
  refine callsD_of_wpS Tryd.func9 rfl fun c₀ cs hu => ?_
  apply wpS_seq
  apply wpS_region
  simp [wpOpsS, go_sem, recoverD, hu, Tryd.ntmps9, Exit.thenS]
  refine wpS_of_wp ?_
  simp only [Array.replicate_succ, Array.replicate_zero, List.push_toArray, List.append_toArray, List.nil_append, List.cons_append, List.setIfInBounds_toArray, List.set_cons_zero, List.set_cons_succ]
  go_wp2_with fail
  cases c₀
  simp_all [bodyPostS, results, Tryd.results9]
set_option maxHeartbeats 6400000 in
theorem whole_ex (s : ByteArray) (W : World) (hm : s.size ≤ maxLen) (r : Res Ex) (hr : wholeP (expF 302) s.data.toList = r) (ho : r ≠ .out) :
    Calls Tryd.prog 6 #[.string s, .func (.func 7) #[] #[]] W (WhPost r W) := by
  have hmf : ∀ (fn : Fn) (first cap : Array Value) (w : World), (Instr.makeFunc fn first cap).run Tryd.prog w = .ok (.func fn first cap) w := fun _ _ _ _ => rfl
  obtain ⟨X, hX⟩ : ∃ X, scanL s.data.toList = X := ⟨_, rfl⟩
  obtain ⟨W2, hW2⟩ : ∃ W2, (W.alloc (.cells #[.int .i64 0, .string ⟨#[]⟩, .int .i64 0, .int .i64 0, .string ⟨#[]⟩, .int .i64 0, .slice none 0 0, .slice none 0 0, .slice none 0 0, .slice none 0 0, .int .i64 0] 32)).alloc (.cells #[.int .i64 0, .int .i64 0] 35) = W2 := ⟨_, rfl⟩
  have hn2 : Below W.heap.size W W2 := by rw [← hW2]; exact ((Below.refl _ _).alloc (Nat.le_refl _) _).alloc (by simp) _
  have hz2 : W2.heap.size = W.heap.size + 2 := by rw [← hW2]; simp
  have hrb : Blk W2 W.heap.size 32 #[.int .i64 0, .string ⟨#[]⟩, .int .i64 0, .int .i64 0, .string ⟨#[]⟩, .int .i64 0, .slice none 0 0, .slice none 0 0, .slice none 0 0, .slice none 0 0, .int .i64 0] := by rw [← hW2]; exact (Blk.new _ _ _).alloc _
  have hsb : Blk W2 (W.heap.size + 1) 35 #[.int .i64 0, .int .i64 0] := by
    rw [← hW2]
    have := Blk.new (W.alloc (.cells #[.int .i64 0, .string ⟨#[]⟩, .int .i64 0, .int .i64 0, .string ⟨#[]⟩, .int .i64 0, .slice none 0 0, .slice none 0 0, .slice none 0 0, .slice none 0 0, .int .i64 0] 32)) 35 #[.int .i64 0, .int .i64 0]
    simpa using this
  have CS := Lib.hid (scan_any s W2 hm)
  rw [hX] at CS
  have hf := scan_fine s.data.toList
  have hzz := scan_zero s.data.toList
  unfold wholeP at hr
  rw [hX] at hr hf hzz
  have HW2 := Lib.hid hW2
  have HN2 := Lib.hid hn2
  have HZ2 := Lib.hid hz2
  have HRB := Lib.hid hrb
  have HSB := Lib.hid hsb
  clear hW2 hn2 hz2 hrb hsb hX
  by_cases h0 : X.2.1 = 0
  · obtain ⟨ts, y⟩ := X
    have hy : y = (0, 0) := hzz h0
    subst hy
    rw [if_pos rfl] at hr
    have HF := Lib.hid (hf rfl)
    have HR := Lib.hid hr
    have HO := Lib.hid ho
    obtain ⟨n, hn⟩ : ∃ n, ts.length = n := ⟨_, rfl⟩
    have HNN := Lib.hid hn
    unfold ScanSays at CS
    dsimp only at CS
    rw [hn] at CS
    clear hf hzz h0 hr ho hn
    have HPS := Lib.hid (show ∀ (w3 : World) (A : Option Addr) (cap : Nat), TkRow w3 w3.heap.size A ts → n ≤ cap → cap ≤ maxLen → Blk w3 (W.heap.size + 1) 35 #[.int .i64 0, .int .i64 0] → PsAt (((w3.setCell ⟨W.heap.size + 1, 0, none⟩ (.int .i64 0)).setCell ⟨W.heap.size + 1, 1, none⟩ (.int .i64 0)).alloc (.cells #[.slice A n cap, .int .i64 0] 50)) w3.heap.size ts 0 from
      fun w3 A cap hrow h1 h2 hb => scan_psat HNN.out HF.out hrow h1 h2 hb)
    cases hE : expF 302 0 ts with
    | out => exact absurd (by rw [← HR.out]; simp only [hE, Res.andThen]) HO.out
    | bad c p =>
      obtain rfl : r = .bad c p := by rw [← HR.out]; simp only [hE, Res.andThen]
      have CE := Lib.hid (fun (pb : Nat) (w5 : World) (hs : PsAt w5 pb ts 0) => exp_all 302 pb 0 ts w5 hs HF.out (by omega) _ hE (by simp))
      clear hE
      go_enter_defers Tryd.func6, Tryd.ntmps6
      go_upto_region 1 with fail
      rw [HW2.out]
      go_upto_region 6 with (go_at_call 8; (with_reducible refine CS.out.mono ?_); rintro e w3 ⟨⟨A, cap, rfl, hrow, hc3, hm3⟩, hb3⟩; dsimp only; (have hR3 := HRB.out.below hb3 HRB.out.lt); (have hS3 := HSB.out.below hb3 HSB.out.lt); (have r0 := hR3.cell 0); (have r1 := hR3.cell 1); (have r2 := hR3.cell 2); (have r3 := hR3.cell 3); (have r4 := hR3.cell 4); (have r5 := hR3.cell 5); (have r6 := hR3.cell 6); (have r7 := hR3.cell 7); (have r8 := hR3.cell 8); (have r9 := hR3.cell 9); (have r10 := hR3.cell 10); (have q0 := hS3.cell 0); (have q1 := hS3.cell 1); (simp only [List.getElem?_toArray, List.getElem?_cons_succ, List.getElem?_cons_zero] at r0 r1 r2 r3 r4 r5 r6 r7 r8 r9 r10 q0 q1); (have rf0 := hR3.frozen 0); (have rf1 := hR3.frozen 1); (have rf2 := hR3.frozen 2); (have rf3 := hR3.frozen 3); (have rf4 := hR3.frozen 4); (have rf5 := hR3.frozen 5); (have rf6 := hR3.frozen 6); (have rf7 := hR3.frozen 7); (have rf8 := hR3.frozen 8); (have rf9 := hR3.frozen 9); (have rf10 := hR3.frozen 10); (have qf0 := hS3.frozen 0); (have qf1 := hS3.frozen 1))
      have hpz : W2.heap.size ≤ w3.heap.size := hb3.size
      have hz2 := HZ2.out
      have hP5 := HPS.out w3 A cap hrow hc3 hm3 hS3
      obtain ⟨pb, hpb⟩ : ∃ pb, w3.heap.size = pb := ⟨_, rfl⟩
      have hSx := (two_set hS3 (.int .i64 0) (.int .i64 0)).alloc (.cells #[.slice A n cap, .int .i64 0] 50)
      have hRx := ((hR3.far (p := ⟨W.heap.size + 1, 0, none⟩) (by show W.heap.size ≠ W.heap.size + 1; omega) (.int .i64 0)).far (p := ⟨W.heap.size + 1, 1, none⟩) (by show W.heap.size ≠ W.heap.size + 1; omega) (.int .i64 0)).alloc (.cells #[.slice A n cap, .int .i64 0] 50)
      have hbx : Below W.heap.size W (((w3.setCell ⟨W.heap.size + 1, 0, none⟩ (.int .i64 0)).setCell ⟨W.heap.size + 1, 1, none⟩ (.int .i64 0)).alloc (.cells #[.slice A n cap, .int .i64 0] 50)) := (((HN2.out.trans (hb3.mono (by omega))).setCell (p := ⟨W.heap.size + 1, 0, none⟩) (by show W.heap.size ≤ W.heap.size + 1; omega) _).setCell (p := ⟨W.heap.size + 1, 1, none⟩) (by show W.heap.size ≤ W.heap.size + 1; omega) _).alloc (by simp [World.setCell]; omega) _
      obtain ⟨w5, hw5⟩ : ∃ w5, ((w3.setCell ⟨W.heap.size + 1, 0, none⟩ (.int .i64 0)).setCell ⟨W.heap.size + 1, 1, none⟩ (.int .i64 0)).alloc (.cells #[.slice A n cap, .int .i64 0] 50) = w5 := ⟨_, rfl⟩
      rw [hw5, hpb] at hP5
      rw [hw5] at hSx hRx hbx
      have hS5 := hSx
      have hR5 := hRx
      have hb5 := hbx
      rw [hpb] at hpz
      try rw [hw5]
      try rw [hpb]
      clear hw5 hSx hRx hbx r0 r1 r2 r3 r4 r5 r6 r7 r8 r9 r10 q0 q1 rf0 rf1 rf2 rf3 rf4 rf5 rf6 rf7 rf8 rf9 rf10 qf0 qf1
      go_wp2_with (go_at_call 7; (with_reducible refine (CE.out _ _ hP5).mono ?_); rintro e w6 ⟨hp6, rfl⟩)
      have hS6 : Blk w6 (W.heap.size + 1) 35 #[.int .i64 0, .int .i64 0] := (hp6.block _ hS5.lt (by omega)).trans hS5
      have hR6 : Blk w6 W.heap.size 32 #[.int .i64 0, .string ⟨#[]⟩, .int .i64 0, .int .i64 0, .string ⟨#[]⟩, .int .i64 0, .slice none 0 0, .slice none 0 0, .slice none 0 0, .slice none 0 0, .int .i64 0] := (hp6.block _ hR5.lt (by omega)).trans hR5
      have hb6 : Below W.heap.size W w6 := hb5.trans (hp6.below (n := W.heap.size) hb5.size (fun k hk => by omega))
      refine leaves_cons (f := 9) (args := #[.pointer (some ⟨W.heap.size + 1, 0, none⟩)]) (by simp) (by simp [go_sem]) ?_
      refine (catch_diag (W.heap.size + 1) c 0 0 p _ hS6).mono ?_
      rintro e u' w'' ⟨rfl, rfl, rfl⟩
      have hS9 := two_set (hS6.alloc (.cells #[.int .i64 c, .int .i64 p] 35)) (.int .i64 c) (.int .i64 p)
      have hR9 := ((hR6.alloc (.cells #[.int .i64 c, .int .i64 p] 35)).far (p := ⟨W.heap.size + 1, 0, none⟩) (by show W.heap.size ≠ W.heap.size + 1; omega) (.int .i64 c)).far (p := ⟨W.heap.size + 1, 1, none⟩) (by show W.heap.size ≠ W.heap.size + 1; omega) (.int .i64 p)
      have hb9 : Below W.heap.size W _ := ((hb6.alloc hb6.size (.cells #[.int .i64 c, .int .i64 p] 35)).setCell (p := ⟨W.heap.size + 1, 0, none⟩) (by show W.heap.size ≤ W.heap.size + 1; omega) (.int .i64 c)).setCell (p := ⟨W.heap.size + 1, 1, none⟩) (by show W.heap.size ≤ W.heap.size + 1; omega) (.int .i64 p)
      revert hS9 hR9 hb9
      generalize (((_ : World).alloc (.cells #[.int .i64 c, .int .i64 p] 35)).setCell ⟨W.heap.size + 1, 0, none⟩ (.int .i64 c)).setCell ⟨W.heap.size + 1, 1, none⟩ (.int .i64 p) = w9
      intro hS9 hR9 hb9
      have e0 := hR9.cell 0
      have e1 := hR9.cell 1
      have e2 := hR9.cell 2
      have e3 := hR9.cell 3
      have e4 := hR9.cell 4
      have e5 := hR9.cell 5
      have e6 := hR9.cell 6
      have e7 := hR9.cell 7
      have e8 := hR9.cell 8
      have e9 := hR9.cell 9
      have e10 := hR9.cell 10
      have g0 := hS9.cell 0
      have g1 := hS9.cell 1
      simp only [List.getElem?_toArray, List.getElem?_cons_succ, List.getElem?_cons_zero] at e0 e1 e2 e3 e4 e5 e6 e7 e8 e9 e10 g0 g1
      exact leaves_ret (v := .tuple #[.agg #[.int .i64 0, .string ⟨#[]⟩, .int .i64 0, .int .i64 0, .string ⟨#[]⟩, .int .i64 0, .slice none 0 0, .slice none 0 0, .slice none 0 0, .slice none 0 0, .int .i64 0], .agg #[.int .i64 c, .int .i64 p]]) (by simp [results, Tryd.results6, go_sem, e0, e1, e2, e3, e4, e5, e6, e7, e8, e9, e10, g0, g1]) ⟨hb9, rfl⟩
    | ok x ts1 =>
      have CE := Lib.hid (fun (pb : Nat) (w5 : World) (hs : PsAt w5 pb ts 0) => exp_all 302 pb 0 ts w5 hs HF.out (by omega) _ hE (by simp))
      have HE2 := Lib.hid hE
      clear hE
      by_cases hk : kindH ts1 = 0
      · obtain rfl : r = .ok x (restT ts1) := by rw [← HR.out]; simp only [HE2.out, Res.andThen, kindP, hk, if_true]
        go_enter_defers Tryd.func6, Tryd.ntmps6
        go_upto_region 1 with fail
        rw [HW2.out]
        go_upto_region 6 with (go_at_call 8; (with_reducible refine CS.out.mono ?_); rintro e w3 ⟨⟨A, cap, rfl, hrow, hc3, hm3⟩, hb3⟩; dsimp only; (have hR3 := HRB.out.below hb3 HRB.out.lt); (have hS3 := HSB.out.below hb3 HSB.out.lt); (have r0 := hR3.cell 0); (have r1 := hR3.cell 1); (have r2 := hR3.cell 2); (have r3 := hR3.cell 3); (have r4 := hR3.cell 4); (have r5 := hR3.cell 5); (have r6 := hR3.cell 6); (have r7 := hR3.cell 7); (have r8 := hR3.cell 8); (have r9 := hR3.cell 9); (have r10 := hR3.cell 10); (have q0 := hS3.cell 0); (have q1 := hS3.cell 1); (simp only [List.getElem?_toArray, List.getElem?_cons_succ, List.getElem?_cons_zero] at r0 r1 r2 r3 r4 r5 r6 r7 r8 r9 r10 q0 q1); (have rf0 := hR3.frozen 0); (have rf1 := hR3.frozen 1); (have rf2 := hR3.frozen 2); (have rf3 := hR3.frozen 3); (have rf4 := hR3.frozen 4); (have rf5 := hR3.frozen 5); (have rf6 := hR3.frozen 6); (have rf7 := hR3.frozen 7); (have rf8 := hR3.frozen 8); (have rf9 := hR3.frozen 9); (have rf10 := hR3.frozen 10); (have qf0 := hS3.frozen 0); (have qf1 := hS3.frozen 1))
        have hpz : W2.heap.size ≤ w3.heap.size := hb3.size
        have hz2 := HZ2.out
        have hP5 := HPS.out w3 A cap hrow hc3 hm3 hS3
        obtain ⟨pb, hpb⟩ : ∃ pb, w3.heap.size = pb := ⟨_, rfl⟩
        have hSx := (two_set hS3 (.int .i64 0) (.int .i64 0)).alloc (.cells #[.slice A n cap, .int .i64 0] 50)
        have hRx := ((hR3.far (p := ⟨W.heap.size + 1, 0, none⟩) (by show W.heap.size ≠ W.heap.size + 1; omega) (.int .i64 0)).far (p := ⟨W.heap.size + 1, 1, none⟩) (by show W.heap.size ≠ W.heap.size + 1; omega) (.int .i64 0)).alloc (.cells #[.slice A n cap, .int .i64 0] 50)
        have hbx : Below W.heap.size W (((w3.setCell ⟨W.heap.size + 1, 0, none⟩ (.int .i64 0)).setCell ⟨W.heap.size + 1, 1, none⟩ (.int .i64 0)).alloc (.cells #[.slice A n cap, .int .i64 0] 50)) := (((HN2.out.trans (hb3.mono (by omega))).setCell (p := ⟨W.heap.size + 1, 0, none⟩) (by show W.heap.size ≤ W.heap.size + 1; omega) _).setCell (p := ⟨W.heap.size + 1, 1, none⟩) (by show W.heap.size ≤ W.heap.size + 1; omega) _).alloc (by simp [World.setCell]; omega) _
        obtain ⟨w5, hw5⟩ : ∃ w5, ((w3.setCell ⟨W.heap.size + 1, 0, none⟩ (.int .i64 0)).setCell ⟨W.heap.size + 1, 1, none⟩ (.int .i64 0)).alloc (.cells #[.slice A n cap, .int .i64 0] 50) = w5 := ⟨_, rfl⟩
        rw [hw5, hpb] at hP5
        rw [hw5] at hSx hRx hbx
        have hS5 := hSx
        have hR5 := hRx
        have hb5 := hbx
        rw [hpb] at hpz
        try rw [hw5]
        try rw [hpb]
        clear hw5 hSx hRx hbx r0 r1 r2 r3 r4 r5 r6 r7 r8 r9 r10 q0 q1 rf0 rf1 rf2 rf3 rf4 rf5 rf6 rf7 rf8 rf9 rf10 qf0 qf1
        go_upto_region 7 with (go_at_call 7; (with_reducible refine (CE.out _ _ hP5).mono ?_); rintro e w6 ⟨hp6, ⟨cs, hlen, rfl, hty⟩, hsw6, hf6⟩; (obtain ⟨x0, x1, x2, x3, x4, x5, x6, x7, x8, x9, x10, rfl⟩ := eleven_of hlen); (have s0 := store_one' x0 (ex_ones' hty x0 (by simp))); (have s1 := store_one' x1 (ex_ones' hty x1 (by simp))); (have s2 := store_one' x2 (ex_ones' hty x2 (by simp))); (have s3 := store_one' x3 (ex_ones' hty x3 (by simp))); (have s4 := store_one' x4 (ex_ones' hty x4 (by simp))); (have s5 := store_one' x5 (ex_ones' hty x5 (by simp))); (have s6 := store_one' x6 (ex_ones' hty x6 (by simp))); (have s7 := store_one' x7 (ex_ones' hty x7 (by simp))); (have s8 := store_one' x8 (ex_ones' hty x8 (by simp))); (have s9 := store_one' x9 (ex_ones' hty x9 (by simp))); (have s10 := store_one' x10 (ex_ones' hty x10 (by simp))))
        obtain ⟨w7, hw7⟩ : ∃ w7, w6.alloc (.cells #[x0, x1, x2, x3, x4, x5, x6, x7, x8, x9, x10] 32) = w7 := ⟨_, rfl⟩
        have hn7 : Below w6.heap.size w6 w7 := by rw [← hw7]; exact below_new' _ _
        have hx7 : Blk w7 w6.heap.size 32 #[x0, x1, x2, x3, x4, x5, x6, x7, x8, x9, x10] := by rw [← hw7]; exact Blk.new _ _ _
        rw [hw7]
        clear hw7
        have hz56 := hp6.size
        have hg5 := hP5.lt
        have hS6 : Blk w6 (W.heap.size + 1) 35 #[.int .i64 0, .int .i64 0] := (hp6.block _ hS5.lt (by omega)).trans hS5
        have hR6 : Blk w6 W.heap.size 32 #[.int .i64 0, .string ⟨#[]⟩, .int .i64 0, .int .i64 0, .string ⟨#[]⟩, .int .i64 0, .slice none 0 0, .slice none 0 0, .slice none 0 0, .slice none 0 0, .int .i64 0] := (hp6.block _ hR5.lt (by omega)).trans hR5
        have hS7 := hS6.below hn7 hS6.lt
        have hR7 := hR6.below hn7 hR6.lt
        have hb7 : Below W.heap.size W w7 := (hb5.trans (hp6.below (n := W.heap.size) hb5.size (fun k hk => by omega))).trans (hn7.mono (by have := hb5.size; omega))
        have hsw7 := hsw6.later hn7
        obtain ⟨v, tv, rfl⟩ := hf6.ne
        have CK := Lib.hid (needKind_yes _ 0 v tv 0 w7 hsw7 hk)
        go_upto_region 8 with (go_at_call 10; (with_reducible refine CK.out.mono ?_); rintro e w8 ⟨rfl, hp8, hsw8⟩; rw [tk_cells]; (have hx8 : Blk w8 w6.heap.size 32 #[x0, x1, x2, x3, x4, x5, x6, x7, x8, x9, x10] := (hp8.block _ hx7.lt (by omega)).trans hx7); (have hS8 : Blk w8 (W.heap.size + 1) 35 #[.int .i64 0, .int .i64 0] := (hp8.block _ hS7.lt (by omega)).trans hS7); (have hR8 : Blk w8 W.heap.size 32 #[.int .i64 0, .string ⟨#[]⟩, .int .i64 0, .int .i64 0, .string ⟨#[]⟩, .int .i64 0, .slice none 0 0, .slice none 0 0, .slice none 0 0, .slice none 0 0, .int .i64 0] := (hp8.block _ hR7.lt (by omega)).trans hR7); (have a0 := hx8.cell 0); (have a1 := hx8.cell 1); (have a2 := hx8.cell 2); (have a3 := hx8.cell 3); (have a4 := hx8.cell 4); (have a5 := hx8.cell 5); (have a6 := hx8.cell 6); (have a7 := hx8.cell 7); (have a8 := hx8.cell 8); (have a9 := hx8.cell 9); (have a10 := hx8.cell 10); (have b0 := hR8.cell 0); (have b1 := hR8.cell 1); (have b2 := hR8.cell 2); (have b3 := hR8.cell 3); (have b4 := hR8.cell 4); (have b5 := hR8.cell 5); (have b6 := hR8.cell 6); (have b7 := hR8.cell 7); (have b8 := hR8.cell 8); (have b9 := hR8.cell 9); (have b10 := hR8.cell 10); (have d0 := hS8.cell 0); (have d1 := hS8.cell 1); (simp only [List.getElem?_toArray, List.getElem?_cons_succ, List.getElem?_cons_zero] at a0 b0 a1 b1 a2 b2 a3 b3 a4 b4 a5 b5 a6 b6 a7 b7 a8 b8 a9 b9 a10 b10 d0 d1); (have bf0 := hR8.frozen 0); (have bf1 := hR8.frozen 1); (have bf2 := hR8.frozen 2); (have bf3 := hR8.frozen 3); (have bf4 := hR8.frozen 4); (have bf5 := hR8.frozen 5); (have bf6 := hR8.frozen 6); (have bf7 := hR8.frozen 7); (have bf8 := hR8.frozen 8); (have bf9 := hR8.frozen 9); (have bf10 := hR8.frozen 10); (have df0 := hS8.frozen 0); (have df1 := hS8.frozen 1))
        go_wp2_with fail
        obtain ⟨w5', hw5⟩ : ∃ w5', (((((((((((w8).setCell ⟨W.heap.size, 0, none⟩ (x0)).setCell ⟨W.heap.size, 1, none⟩ (x1)).setCell ⟨W.heap.size, 2, none⟩ (x2)).setCell ⟨W.heap.size, 3, none⟩ (x3)).setCell ⟨W.heap.size, 4, none⟩ (x4)).setCell ⟨W.heap.size, 5, none⟩ (x5)).setCell ⟨W.heap.size, 6, none⟩ (x6)).setCell ⟨W.heap.size, 7, none⟩ (x7)).setCell ⟨W.heap.size, 8, none⟩ (x8)).setCell ⟨W.heap.size, 9, none⟩ (x9)).setCell ⟨W.heap.size, 10, none⟩ (x10) = w5' := ⟨_, rfl⟩
        have hb8 : Below W.heap.size W w8 := hb7.trans (hp8.below (n := W.heap.size) hb7.size (fun k hk => by omega))
        have hR5' := set11 hR8 x0 x1 x2 x3 x4 x5 x6 x7 x8 x9 x10
        have hL5 : Low (oneX W.heap.size) w8 _ := Low.set11 (Chg.refl _ _) (.inl (oneX_self _)) x0 x1 x2 x3 x4 x5 x6 x7 x8 x9 x10
        have hb5' := Below.set11 hb8 (Nat.le_refl _) x0 x1 x2 x3 x4 x5 x6 x7 x8 x9 x10
        rw [hw5] at hR5' hL5 hb5' ⊢
        clear hw5
        have hS5' : Blk w5' (W.heap.size + 1) 35 #[.int .i64 0, .int .i64 0] := (hL5.block _ hS8.lt (by rw [oneX_no (by omega)]; simp)).trans hS8
        have hS9 := two_set hS5' (.int .i64 0) (.int .i64 0)
        have hR9 := (hR5'.far (p := ⟨W.heap.size + 1, 0, none⟩) (by show W.heap.size ≠ W.heap.size + 1; omega) (.int .i64 0)).far (p := ⟨W.heap.size + 1, 1, none⟩) (by show W.heap.size ≠ W.heap.size + 1; omega) (.int .i64 0)
        have hb9 : Below W.heap.size W _ := (hb5'.setCell (p := ⟨W.heap.size + 1, 0, none⟩) (by show W.heap.size ≤ W.heap.size + 1; omega) (.int .i64 0)).setCell (p := ⟨W.heap.size + 1, 1, none⟩) (by show W.heap.size ≤ W.heap.size + 1; omega) (.int .i64 0)
        have hL9 : Low (lowX w5.heap.size) w5' _ := Low.set_ (p := ⟨W.heap.size + 1, 1, none⟩) (Low.set_ (p := ⟨W.heap.size + 1, 0, none⟩) (X := lowX w5.heap.size) (Chg.refl _ w5') (.inl (lowX_iff.2 hS5.lt)) (.int .i64 0)) (.inl (lowX_iff.2 hS5.lt)) (.int .i64 0)
        revert hS9 hR9 hb9 hL9
        generalize (w5'.setCell ⟨W.heap.size + 1, 0, none⟩ (.int .i64 0)).setCell ⟨W.heap.size + 1, 1, none⟩ (.int .i64 0) = w9
        intro hS9 hR9 hb9 hL9
        have e0 := hR9.cell 0
        have e1 := hR9.cell 1
        have e2 := hR9.cell 2
        have e3 := hR9.cell 3
        have e4 := hR9.cell 4
        have e5 := hR9.cell 5
        have e6 := hR9.cell 6
        have e7 := hR9.cell 7
        have e8 := hR9.cell 8
        have e9 := hR9.cell 9
        have e10 := hR9.cell 10
        have g0 := hS9.cell 0
        have g1 := hS9.cell 1
        simp only [List.getElem?_toArray, List.getElem?_cons_succ, List.getElem?_cons_zero] at e0 e1 e2 e3 e4 e5 e6 e7 e8 e9 e10 g0 g1
        have hty9 := ((((hty.later (Low.of_below hn7)).later (Low.of_par hp8 hg5)).later (hL5.mono fun k _ hk => by
          have : k = W.heap.size := by simpa [oneX] using hk
          subst this; exact lowX_iff.2 hR5.lt)).later hL9).wk (B' := W.heap.size) hb5.size
        refine leaves_cons (f := 9) (args := #[.pointer (some ⟨W.heap.size + 1, 0, none⟩)]) (by simp) (by simp [go_sem]) ?_
        refine (catch_idle (W.heap.size + 1) _).mono ?_
        rintro e u' w'' ⟨rfl, rfl, rfl⟩
        exact leaves_ret (v := .tuple #[.agg #[x0, x1, x2, x3, x4, x5, x6, x7, x8, x9, x10], .agg #[.int .i64 0, .int .i64 0]]) (by simp [results, Tryd.results6, go_sem, e0, e1, e2, e3, e4, e5, e6, e7, e8, e9, e10, g0, g1]) ⟨hb9, [x0, x1, x2, x3, x4, x5, x6, x7, x8, x9, x10], rfl, rfl, hty9⟩
      · obtain rfl : r = .bad 110 (posH ts1) := by rw [← HR.out]; simp only [HE2.out, Res.andThen, kindP, hk, if_false]
        go_enter_defers Tryd.func6, Tryd.ntmps6
        go_upto_region 1 with fail
        rw [HW2.out]
        go_upto_region 6 with (go_at_call 8; (with_reducible refine CS.out.mono ?_); rintro e w3 ⟨⟨A, cap, rfl, hrow, hc3, hm3⟩, hb3⟩; dsimp only; (have hR3 := HRB.out.below hb3 HRB.out.lt); (have hS3 := HSB.out.below hb3 HSB.out.lt); (have r0 := hR3.cell 0); (have r1 := hR3.cell 1); (have r2 := hR3.cell 2); (have r3 := hR3.cell 3); (have r4 := hR3.cell 4); (have r5 := hR3.cell 5); (have r6 := hR3.cell 6); (have r7 := hR3.cell 7); (have r8 := hR3.cell 8); (have r9 := hR3.cell 9); (have r10 := hR3.cell 10); (have q0 := hS3.cell 0); (have q1 := hS3.cell 1); (simp only [List.getElem?_toArray, List.getElem?_cons_succ, List.getElem?_cons_zero] at r0 r1 r2 r3 r4 r5 r6 r7 r8 r9 r10 q0 q1); (have rf0 := hR3.frozen 0); (have rf1 := hR3.frozen 1); (have rf2 := hR3.frozen 2); (have rf3 := hR3.frozen 3); (have rf4 := hR3.frozen 4); (have rf5 := hR3.frozen 5); (have rf6 := hR3.frozen 6); (have rf7 := hR3.frozen 7); (have rf8 := hR3.frozen 8); (have rf9 := hR3.frozen 9); (have rf10 := hR3.frozen 10); (have qf0 := hS3.frozen 0); (have qf1 := hS3.frozen 1))
        have hpz : W2.heap.size ≤ w3.heap.size := hb3.size
        have hz2 := HZ2.out
        have hP5 := HPS.out w3 A cap hrow hc3 hm3 hS3
        obtain ⟨pb, hpb⟩ : ∃ pb, w3.heap.size = pb := ⟨_, rfl⟩
        have hSx := (two_set hS3 (.int .i64 0) (.int .i64 0)).alloc (.cells #[.slice A n cap, .int .i64 0] 50)
        have hRx := ((hR3.far (p := ⟨W.heap.size + 1, 0, none⟩) (by show W.heap.size ≠ W.heap.size + 1; omega) (.int .i64 0)).far (p := ⟨W.heap.size + 1, 1, none⟩) (by show W.heap.size ≠ W.heap.size + 1; omega) (.int .i64 0)).alloc (.cells #[.slice A n cap, .int .i64 0] 50)
        have hbx : Below W.heap.size W (((w3.setCell ⟨W.heap.size + 1, 0, none⟩ (.int .i64 0)).setCell ⟨W.heap.size + 1, 1, none⟩ (.int .i64 0)).alloc (.cells #[.slice A n cap, .int .i64 0] 50)) := (((HN2.out.trans (hb3.mono (by omega))).setCell (p := ⟨W.heap.size + 1, 0, none⟩) (by show W.heap.size ≤ W.heap.size + 1; omega) _).setCell (p := ⟨W.heap.size + 1, 1, none⟩) (by show W.heap.size ≤ W.heap.size + 1; omega) _).alloc (by simp [World.setCell]; omega) _
        obtain ⟨w5, hw5⟩ : ∃ w5, ((w3.setCell ⟨W.heap.size + 1, 0, none⟩ (.int .i64 0)).setCell ⟨W.heap.size + 1, 1, none⟩ (.int .i64 0)).alloc (.cells #[.slice A n cap, .int .i64 0] 50) = w5 := ⟨_, rfl⟩
        rw [hw5, hpb] at hP5
        rw [hw5] at hSx hRx hbx
        have hS5 := hSx
        have hR5 := hRx
        have hb5 := hbx
        rw [hpb] at hpz
        try rw [hw5]
        try rw [hpb]
        clear hw5 hSx hRx hbx r0 r1 r2 r3 r4 r5 r6 r7 r8 r9 r10 q0 q1 rf0 rf1 rf2 rf3 rf4 rf5 rf6 rf7 rf8 rf9 rf10 qf0 qf1
        go_upto_region 7 with (go_at_call 7; (with_reducible refine (CE.out _ _ hP5).mono ?_); rintro e w6 ⟨hp6, ⟨cs, hlen, rfl, hty⟩, hsw6, hf6⟩; (obtain ⟨x0, x1, x2, x3, x4, x5, x6, x7, x8, x9, x10, rfl⟩ := eleven_of hlen); (have s0 := store_one' x0 (ex_ones' hty x0 (by simp))); (have s1 := store_one' x1 (ex_ones' hty x1 (by simp))); (have s2 := store_one' x2 (ex_ones' hty x2 (by simp))); (have s3 := store_one' x3 (ex_ones' hty x3 (by simp))); (have s4 := store_one' x4 (ex_ones' hty x4 (by simp))); (have s5 := store_one' x5 (ex_ones' hty x5 (by simp))); (have s6 := store_one' x6 (ex_ones' hty x6 (by simp))); (have s7 := store_one' x7 (ex_ones' hty x7 (by simp))); (have s8 := store_one' x8 (ex_ones' hty x8 (by simp))); (have s9 := store_one' x9 (ex_ones' hty x9 (by simp))); (have s10 := store_one' x10 (ex_ones' hty x10 (by simp))))
        obtain ⟨w7, hw7⟩ : ∃ w7, w6.alloc (.cells #[x0, x1, x2, x3, x4, x5, x6, x7, x8, x9, x10] 32) = w7 := ⟨_, rfl⟩
        have hn7 : Below w6.heap.size w6 w7 := by rw [← hw7]; exact below_new' _ _
        have hx7 : Blk w7 w6.heap.size 32 #[x0, x1, x2, x3, x4, x5, x6, x7, x8, x9, x10] := by rw [← hw7]; exact Blk.new _ _ _
        rw [hw7]
        clear hw7
        have hz56 := hp6.size
        have hg5 := hP5.lt
        have hS6 : Blk w6 (W.heap.size + 1) 35 #[.int .i64 0, .int .i64 0] := (hp6.block _ hS5.lt (by omega)).trans hS5
        have hR6 : Blk w6 W.heap.size 32 #[.int .i64 0, .string ⟨#[]⟩, .int .i64 0, .int .i64 0, .string ⟨#[]⟩, .int .i64 0, .slice none 0 0, .slice none 0 0, .slice none 0 0, .slice none 0 0, .int .i64 0] := (hp6.block _ hR5.lt (by omega)).trans hR5
        have hS7 := hS6.below hn7 hS6.lt
        have hR7 := hR6.below hn7 hR6.lt
        have hb7 : Below W.heap.size W w7 := (hb5.trans (hp6.below (n := W.heap.size) hb5.size (fun k hk => by omega))).trans (hn7.mono (by have := hb5.size; omega))
        have hsw7 := hsw6.later hn7
        obtain ⟨v, tv, rfl⟩ := hf6.ne
        have CK := Lib.hid (needKind_no _ 0 v tv 0 w7 hsw7 hk)
        go_wp2_with (go_at_call 10; (with_reducible refine CK.out.mono ?_); rintro e w8 ⟨rfl, hp8⟩)
        have hS8 : Blk w8 (W.heap.size + 1) 35 #[.int .i64 0, .int .i64 0] := (hp8.block _ hS7.lt (by omega)).trans hS7
        have hR8 : Blk w8 W.heap.size 32 #[.int .i64 0, .string ⟨#[]⟩, .int .i64 0, .int .i64 0, .string ⟨#[]⟩, .int .i64 0, .slice none 0 0, .slice none 0 0, .slice none 0 0, .slice none 0 0, .int .i64 0] := (hp8.block _ hR7.lt (by omega)).trans hR7
        have hb8 : Below W.heap.size W w8 := hb7.trans (hp8.below (n := W.heap.size) hb7.size (fun k hk => by omega))
        refine leaves_cons (f := 9) (args := #[.pointer (some ⟨W.heap.size + 1, 0, none⟩)]) (by simp) (by simp [go_sem]) ?_
        refine (catch_diag (W.heap.size + 1) 110 0 0 v.pos _ hS8).mono ?_
        rintro e u' w'' ⟨rfl, rfl, rfl⟩
        have hS9 := two_set (hS8.alloc (.cells #[.int .i64 110, .int .i64 v.pos] 35)) (.int .i64 110) (.int .i64 v.pos)
        have hR9 := ((hR8.alloc (.cells #[.int .i64 110, .int .i64 v.pos] 35)).far (p := ⟨W.heap.size + 1, 0, none⟩) (by show W.heap.size ≠ W.heap.size + 1; omega) (.int .i64 110)).far (p := ⟨W.heap.size + 1, 1, none⟩) (by show W.heap.size ≠ W.heap.size + 1; omega) (.int .i64 v.pos)
        have hb9 : Below W.heap.size W _ := ((hb8.alloc hb8.size (.cells #[.int .i64 110, .int .i64 v.pos] 35)).setCell (p := ⟨W.heap.size + 1, 0, none⟩) (by show W.heap.size ≤ W.heap.size + 1; omega) (.int .i64 110)).setCell (p := ⟨W.heap.size + 1, 1, none⟩) (by show W.heap.size ≤ W.heap.size + 1; omega) (.int .i64 v.pos)
        revert hS9 hR9 hb9
        generalize (((_ : World).alloc (.cells #[.int .i64 110, .int .i64 v.pos] 35)).setCell ⟨W.heap.size + 1, 0, none⟩ (.int .i64 110)).setCell ⟨W.heap.size + 1, 1, none⟩ (.int .i64 v.pos) = w9
        intro hS9 hR9 hb9
        have e0 := hR9.cell 0
        have e1 := hR9.cell 1
        have e2 := hR9.cell 2
        have e3 := hR9.cell 3
        have e4 := hR9.cell 4
        have e5 := hR9.cell 5
        have e6 := hR9.cell 6
        have e7 := hR9.cell 7
        have e8 := hR9.cell 8
        have e9 := hR9.cell 9
        have e10 := hR9.cell 10
        have g0 := hS9.cell 0
        have g1 := hS9.cell 1
        simp only [List.getElem?_toArray, List.getElem?_cons_succ, List.getElem?_cons_zero] at e0 e1 e2 e3 e4 e5 e6 e7 e8 e9 e10 g0 g1
        exact leaves_ret (v := .tuple #[.agg #[.int .i64 0, .string ⟨#[]⟩, .int .i64 0, .int .i64 0, .string ⟨#[]⟩, .int .i64 0, .slice none 0 0, .slice none 0 0, .slice none 0 0, .slice none 0 0, .int .i64 0], .agg #[.int .i64 110, .int .i64 v.pos]]) (by simp [results, Tryd.results6, go_sem, e0, e1, e2, e3, e4, e5, e6, e7, e8, e9, e10, g0, g1]) ⟨hb9, rfl⟩
  · have d0 : (X.2.1 == 0) = false := by simpa using h0
    obtain rfl : r = .bad X.2.1 X.2.2 := by rw [← hr, if_neg h0]
    obtain ⟨c, hc⟩ : ∃ c, X.2.1 = c := ⟨_, rfl⟩
    obtain ⟨p, hp⟩ : ∃ p, X.2.2 = p := ⟨_, rfl⟩
    obtain ⟨n, hn⟩ : ∃ n, X.1.length = n := ⟨_, rfl⟩
    unfold ScanSays at CS
    rw [hc, hp, hn] at CS
    rw [hc] at d0
    rw [hc, hp]
    clear hr hf hzz h0 ho hc hp hn
    go_enter_defers Tryd.func6, Tryd.ntmps6
    go_upto_region 1 with fail
    rw [HW2.out]
    go_wp2_with (go_at_call 8; (with_reducible refine CS.out.mono ?_); rintro e w3 ⟨⟨A, cap, rfl, hrow, hc3, hm3⟩, hb3⟩; dsimp only; (have hR3 := HRB.out.below hb3 HRB.out.lt); (have hS3 := HSB.out.below hb3 HSB.out.lt); (have r0 := hR3.cell 0); (have r1 := hR3.cell 1); (have r2 := hR3.cell 2); (have r3 := hR3.cell 3); (have r4 := hR3.cell 4); (have r5 := hR3.cell 5); (have r6 := hR3.cell 6); (have r7 := hR3.cell 7); (have r8 := hR3.cell 8); (have r9 := hR3.cell 9); (have r10 := hR3.cell 10); (have q0 := hS3.cell 0); (have q1 := hS3.cell 1); (simp only [List.getElem?_toArray, List.getElem?_cons_succ, List.getElem?_cons_zero] at r0 r1 r2 r3 r4 r5 r6 r7 r8 r9 r10 q0 q1); (have rf0 := hR3.frozen 0); (have rf1 := hR3.frozen 1); (have rf2 := hR3.frozen 2); (have rf3 := hR3.frozen 3); (have rf4 := hR3.frozen 4); (have rf5 := hR3.frozen 5); (have rf6 := hR3.frozen 6); (have rf7 := hR3.frozen 7); (have rf8 := hR3.frozen 8); (have rf9 := hR3.frozen 9); (have rf10 := hR3.frozen 10); (have qf0 := hS3.frozen 0); (have qf1 := hS3.frozen 1))
    obtain ⟨w4, hw4⟩ : ∃ w4, (w3.setCell ⟨W.heap.size + 1, 0, none⟩ (.int .i64 c)).setCell ⟨W.heap.size + 1, 1, none⟩ (.int .i64 p) = w4 := ⟨_, rfl⟩
    have hS4 := two_set hS3 (.int .i64 c) (.int .i64 p)
    have hR4 := (hR3.far (p := ⟨W.heap.size + 1, 0, none⟩) (by show W.heap.size ≠ W.heap.size + 1; omega) (.int .i64 c)).far (p := ⟨W.heap.size + 1, 1, none⟩) (by show W.heap.size ≠ W.heap.size + 1; omega) (.int .i64 p)
    have hb4 : Below W.heap.size W w4 := by rw [← hw4]; exact (((HN2.out.trans (hb3.mono (by have := HZ2.out; omega)))).setCell (p := ⟨W.heap.size + 1, 0, none⟩) (by show W.heap.size ≤ W.heap.size + 1; omega) _).setCell (p := ⟨W.heap.size + 1, 1, none⟩) (by show W.heap.size ≤ W.heap.size + 1; omega) _
    rw [hw4] at hS4 hR4
    try rw [hw4]
    clear hw4
    have u0 := hR4.cell 0
    have u1 := hR4.cell 1
    have u2 := hR4.cell 2
    have u3 := hR4.cell 3
    have u4 := hR4.cell 4
    have u5 := hR4.cell 5
    have u6 := hR4.cell 6
    have u7 := hR4.cell 7
    have u8 := hR4.cell 8
    have u9 := hR4.cell 9
    have u10 := hR4.cell 10
    have v0 := hS4.cell 0
    have v1 := hS4.cell 1
    simp only [List.getElem?_toArray, List.getElem?_cons_succ, List.getElem?_cons_zero] at u0 u1 u2 u3 u4 u5 u6 u7 u8 u9 u10 v0 v1
    have uf0 := hR4.frozen 0
    have uf1 := hR4.frozen 1
    have uf2 := hR4.frozen 2
    have uf3 := hR4.frozen 3
    have uf4 := hR4.frozen 4
    have uf5 := hR4.frozen 5
    have uf6 := hR4.frozen 6
    have uf7 := hR4.frozen 7
    have uf8 := hR4.frozen 8
    have uf9 := hR4.frozen 9
    have uf10 := hR4.frozen 10
    have vf0 := hS4.frozen 0
    have vf1 := hS4.frozen 1
    go_region_with fail
    all_goals
      go_wp2_with fail
      obtain ⟨w5, hw5⟩ : ∃ w5, (((((((((((w4).setCell ⟨W.heap.size, 0, none⟩ (.int .i64 0)).setCell ⟨W.heap.size, 1, none⟩ (.string ⟨#[]⟩)).setCell ⟨W.heap.size, 2, none⟩ (.int .i64 0)).setCell ⟨W.heap.size, 3, none⟩ (.int .i64 0)).setCell ⟨W.heap.size, 4, none⟩ (.string ⟨#[]⟩)).setCell ⟨W.heap.size, 5, none⟩ (.int .i64 0)).setCell ⟨W.heap.size, 6, none⟩ (.slice none 0 0)).setCell ⟨W.heap.size, 7, none⟩ (.slice none 0 0)).setCell ⟨W.heap.size, 8, none⟩ (.slice none 0 0)).setCell ⟨W.heap.size, 9, none⟩ (.slice none 0 0)).setCell ⟨W.heap.size, 10, none⟩ (.int .i64 0) = w5 := ⟨_, rfl⟩
      have hR5 := set11 hR4 (.int .i64 0) (.string ⟨#[]⟩) (.int .i64 0) (.int .i64 0) (.string ⟨#[]⟩) (.int .i64 0) (.slice none 0 0) (.slice none 0 0) (.slice none 0 0) (.slice none 0 0) (.int .i64 0)
      have hL5 : Low (oneX W.heap.size) w4 _ := Low.set11 (Chg.refl _ _) (.inl (oneX_self _)) (.int .i64 0) (.string ⟨#[]⟩) (.int .i64 0) (.int .i64 0) (.string ⟨#[]⟩) (.int .i64 0) (.slice none 0 0) (.slice none 0 0) (.slice none 0 0) (.slice none 0 0) (.int .i64 0)
      have hb5 := Below.set11 hb4 (Nat.le_refl _) (.int .i64 0) (.string ⟨#[]⟩) (.int .i64 0) (.int .i64 0) (.string ⟨#[]⟩) (.int .i64 0) (.slice none 0 0) (.slice none 0 0) (.slice none 0 0) (.slice none 0 0) (.int .i64 0)
      rw [hw5] at hR5 hL5 hb5 ⊢
      clear hw5
      have hS5 : Blk w5 (W.heap.size + 1) 35 #[.int .i64 c, .int .i64 p] := (hL5.block _ hS4.lt (by rw [oneX_no (by omega)]; simp)).trans hS4
      have hS9 := two_set hS5 (.int .i64 c) (.int .i64 p)
      have hR9 := (hR5.far (p := ⟨W.heap.size + 1, 0, none⟩) (by show W.heap.size ≠ W.heap.size + 1; omega) (.int .i64 c)).far (p := ⟨W.heap.size + 1, 1, none⟩) (by show W.heap.size ≠ W.heap.size + 1; omega) (.int .i64 p)
      have hb9 : Below W.heap.size W _ := (hb5.setCell (p := ⟨W.heap.size + 1, 0, none⟩) (by show W.heap.size ≤ W.heap.size + 1; omega) (.int .i64 c)).setCell (p := ⟨W.heap.size + 1, 1, none⟩) (by show W.heap.size ≤ W.heap.size + 1; omega) (.int .i64 p)
      revert hS9 hR9 hb9
      generalize (w5.setCell ⟨W.heap.size + 1, 0, none⟩ (.int .i64 c)).setCell ⟨W.heap.size + 1, 1, none⟩ (.int .i64 p) = w9
      intro hS9 hR9 hb9
      have e0 := hR9.cell 0
      have e1 := hR9.cell 1
      have e2 := hR9.cell 2
      have e3 := hR9.cell 3
      have e4 := hR9.cell 4
      have e5 := hR9.cell 5
      have e6 := hR9.cell 6
      have e7 := hR9.cell 7
      have e8 := hR9.cell 8
      have e9 := hR9.cell 9
      have e10 := hR9.cell 10
      have g0 := hS9.cell 0
      have g1 := hS9.cell 1
      simp only [List.getElem?_toArray, List.getElem?_cons_succ, List.getElem?_cons_zero] at e0 e1 e2 e3 e4 e5 e6 e7 e8 e9 e10 g0 g1
      exact leaves_ret (v := .tuple #[.agg #[.int .i64 0, .string ⟨#[]⟩, .int .i64 0, .int .i64 0, .string ⟨#[]⟩, .int .i64 0, .slice none 0 0, .slice none 0 0, .slice none 0 0, .slice none 0 0, .int .i64 0], .agg #[.int .i64 c, .int .i64 p]]) (by simp [results, Tryd.results6, go_sem, e0, e1, e2, e3, e4, e5, e6, e7, e8, e9, e10, g0, g1]) ⟨hb9.drew, rfl⟩

set_option maxHeartbeats 6400000 in
/-- parse.Exp: an expression out of a source. -/
theorem exp_src (s : ByteArray) (W : World) (hm : s.size ≤ maxLen) (r : Res Ex) (hr : wholeP (expF 302) s.data.toList = r) (ho : r ≠ .out) :
    Calls Tryd.prog 5 #[.string s] W (WhPost r W) := by
  obtain ⟨W2, hW2⟩ : ∃ W2, (W.alloc (.cells #[.int .i64 0, .string ⟨#[]⟩, .int .i64 0, .int .i64 0, .string ⟨#[]⟩, .int .i64 0, .slice none 0 0, .slice none 0 0, .slice none 0 0, .slice none 0 0, .int .i64 0] 32)).alloc (.cells #[.int .i64 0, .int .i64 0] 35) = W2 := ⟨_, rfl⟩
  have hn2 : Below W.heap.size W W2 := by rw [← hW2]; exact ((Below.refl _ _).alloc (Nat.le_refl _) _).alloc (by simp) _
  have hz2 : W2.heap.size = W.heap.size + 2 := by rw [← hW2]; simp
  have hrb : Blk W2 W.heap.size 32 #[.int .i64 0, .string ⟨#[]⟩, .int .i64 0, .int .i64 0, .string ⟨#[]⟩, .int .i64 0, .slice none 0 0, .slice none 0 0, .slice none 0 0, .slice none 0 0, .int .i64 0] := by rw [← hW2]; exact (Blk.new _ _ _).alloc _
  have hsb : Blk W2 (W.heap.size + 1) 35 #[.int .i64 0, .int .i64 0] := by
    rw [← hW2]
    have := Blk.new (W.alloc (.cells #[.int .i64 0, .string ⟨#[]⟩, .int .i64 0, .int .i64 0, .string ⟨#[]⟩, .int .i64 0, .slice none 0 0, .slice none 0 0, .slice none 0 0, .slice none 0 0, .int .i64 0] 32)) 35 #[.int .i64 0, .int .i64 0]
    simpa using this
  have CW := Lib.hid (whole_ex s W2 hm r hr ho)
  have HW2 := Lib.hid hW2
  have HN2 := Lib.hid hn2
  have HZ2 := Lib.hid hz2
  have HRB := Lib.hid hrb
  have HSB := Lib.hid hsb
  clear hW2 hn2 hz2 hrb hsb hr
  cases r with
  | out => exact absurd rfl ho
  | bad c p =>
    go_enter Tryd.func5, Tryd.ntmps5
    go_upto_region 1 with fail
    rw [HW2.out]
    go_wp2_with (go_at_call 6; (with_reducible refine CW.out.mono ?_); rintro e w3 ⟨hb3, rfl⟩; (have hR3 := HRB.out.below hb3 HRB.out.lt); (have hS3 := HSB.out.below hb3 HSB.out.lt); (have r0 := hR3.cell 0); (have r1 := hR3.cell 1); (have r2 := hR3.cell 2); (have r3 := hR3.cell 3); (have r4 := hR3.cell 4); (have r5 := hR3.cell 5); (have r6 := hR3.cell 6); (have r7 := hR3.cell 7); (have r8 := hR3.cell 8); (have r9 := hR3.cell 9); (have r10 := hR3.cell 10); (have q0 := hS3.cell 0); (have q1 := hS3.cell 1); (simp only [List.getElem?_toArray, List.getElem?_cons_succ, List.getElem?_cons_zero] at r0 r1 r2 r3 r4 r5 r6 r7 r8 r9 r10 q0 q1); (have rf0 := hR3.frozen 0); (have rf1 := hR3.frozen 1); (have rf2 := hR3.frozen 2); (have rf3 := hR3.frozen 3); (have rf4 := hR3.frozen 4); (have rf5 := hR3.frozen 5); (have rf6 := hR3.frozen 6); (have rf7 := hR3.frozen 7); (have rf8 := hR3.frozen 8); (have rf9 := hR3.frozen 9); (have rf10 := hR3.frozen 10); (have qf0 := hS3.frozen 0); (have qf1 := hS3.frozen 1))
    have hb0 : Below W.heap.size W w3 := HN2.out.trans (hb3.mono (by have := HZ2.out; omega))
    obtain ⟨w5, hw5⟩ : ∃ w5, (((((((((((w3).setCell ⟨W.heap.size, 0, none⟩ (.int .i64 0)).setCell ⟨W.heap.size, 1, none⟩ (.string ⟨#[]⟩)).setCell ⟨W.heap.size, 2, none⟩ (.int .i64 0)).setCell ⟨W.heap.size, 3, none⟩ (.int .i64 0)).setCell ⟨W.heap.size, 4, none⟩ (.string ⟨#[]⟩)).setCell ⟨W.heap.size, 5, none⟩ (.int .i64 0)).setCell ⟨W.heap.size, 6, none⟩ (.slice none 0 0)).setCell ⟨W.heap.size, 7, none⟩ (.slice none 0 0)).setCell ⟨W.heap.size, 8, none⟩ (.slice none 0 0)).setCell ⟨W.heap.size, 9, none⟩ (.slice none 0 0)).setCell ⟨W.heap.size, 10, none⟩ (.int .i64 0) = w5 := ⟨_, rfl⟩
    have hR5 := set11 hR3 (.int .i64 0) (.string ⟨#[]⟩) (.int .i64 0) (.int .i64 0) (.string ⟨#[]⟩) (.int .i64 0) (.slice none 0 0) (.slice none 0 0) (.slice none 0 0) (.slice none 0 0) (.int .i64 0)
    have hL5 : Low (oneX W.heap.size) w3 _ := Low.set11 (Chg.refl _ _) (.inl (oneX_self _)) (.int .i64 0) (.string ⟨#[]⟩) (.int .i64 0) (.int .i64 0) (.string ⟨#[]⟩) (.int .i64 0) (.slice none 0 0) (.slice none 0 0) (.slice none 0 0) (.slice none 0 0) (.int .i64 0)
    have hb5 := Below.set11 hb0 (Nat.le_refl _) (.int .i64 0) (.string ⟨#[]⟩) (.int .i64 0) (.int .i64 0) (.string ⟨#[]⟩) (.int .i64 0) (.slice none 0 0) (.slice none 0 0) (.slice none 0 0) (.slice none 0 0) (.int .i64 0)
    rw [hw5] at hR5 hL5 hb5 ⊢
    clear hw5
    have hS5 : Blk w5 (W.heap.size + 1) 35 #[.int .i64 0, .int .i64 0] := (hL5.block _ hS3.lt (by rw [oneX_no (by omega)]; simp)).trans hS3
    have hS9 := two_set hS5 (.int .i64 c) (.int .i64 p)
    have hR9 := (hR5.far (p := ⟨W.heap.size + 1, 0, none⟩) (by show W.heap.size ≠ W.heap.size + 1; omega) (.int .i64 c)).far (p := ⟨W.heap.size + 1, 1, none⟩) (by show W.heap.size ≠ W.heap.size + 1; omega) (.int .i64 p)
    have hb9 : Below W.heap.size W _ := (hb5.setCell (p := ⟨W.heap.size + 1, 0, none⟩) (by show W.heap.size ≤ W.heap.size + 1; omega) (.int .i64 c)).setCell (p := ⟨W.heap.size + 1, 1, none⟩) (by show W.heap.size ≤ W.heap.size + 1; omega) (.int .i64 p)
    revert hS9 hR9 hb9
    generalize (w5.setCell ⟨W.heap.size + 1, 0, none⟩ (.int .i64 c)).setCell ⟨W.heap.size + 1, 1, none⟩ (.int .i64 p) = w9
    intro hS9 hR9 hb9
    have e0 := hR9.cell 0
    have e1 := hR9.cell 1
    have e2 := hR9.cell 2
    have e3 := hR9.cell 3
    have e4 := hR9.cell 4
    have e5 := hR9.cell 5
    have e6 := hR9.cell 6
    have e7 := hR9.cell 7
    have e8 := hR9.cell 8
    have e9 := hR9.cell 9
    have e10 := hR9.cell 10
    have g0 := hS9.cell 0
    have g1 := hS9.cell 1
    simp only [List.getElem?_toArray, List.getElem?_cons_succ, List.getElem?_cons_zero] at e0 e1 e2 e3 e4 e5 e6 e7 e8 e9 e10 g0 g1
    exact bodyPost_ret (v := .tuple #[.agg #[.int .i64 0, .string ⟨#[]⟩, .int .i64 0, .int .i64 0, .string ⟨#[]⟩, .int .i64 0, .slice none 0 0, .slice none 0 0, .slice none 0 0, .slice none 0 0, .int .i64 0], .agg #[.int .i64 c, .int .i64 p]]) (by simp [results, Tryd.results5, go_sem, e0, e1, e2, e3, e4, e5, e6, e7, e8, e9, e10, g0, g1]) rfl ⟨hb9, rfl⟩
  | ok x ts =>
    go_enter Tryd.func5, Tryd.ntmps5
    go_upto_region 1 with fail
    rw [HW2.out]
    go_wp2_with (go_at_call 6; (with_reducible refine CW.out.mono ?_); rintro e w3 ⟨hb3, cs, hlen, rfl, hty⟩; (obtain ⟨x0, x1, x2, x3, x4, x5, x6, x7, x8, x9, x10, rfl⟩ := eleven_of hlen); (have s0 := store_one' x0 (ex_ones' hty x0 (by simp))); (have s1 := store_one' x1 (ex_ones' hty x1 (by simp))); (have s2 := store_one' x2 (ex_ones' hty x2 (by simp))); (have s3 := store_one' x3 (ex_ones' hty x3 (by simp))); (have s4 := store_one' x4 (ex_ones' hty x4 (by simp))); (have s5 := store_one' x5 (ex_ones' hty x5 (by simp))); (have s6 := store_one' x6 (ex_ones' hty x6 (by simp))); (have s7 := store_one' x7 (ex_ones' hty x7 (by simp))); (have s8 := store_one' x8 (ex_ones' hty x8 (by simp))); (have s9 := store_one' x9 (ex_ones' hty x9 (by simp))); (have s10 := store_one' x10 (ex_ones' hty x10 (by simp))); (have hR3 := HRB.out.below hb3 HRB.out.lt); (have hS3 := HSB.out.below hb3 HSB.out.lt); (have r0 := hR3.cell 0); (have r1 := hR3.cell 1); (have r2 := hR3.cell 2); (have r3 := hR3.cell 3); (have r4 := hR3.cell 4); (have r5 := hR3.cell 5); (have r6 := hR3.cell 6); (have r7 := hR3.cell 7); (have r8 := hR3.cell 8); (have r9 := hR3.cell 9); (have r10 := hR3.cell 10); (have q0 := hS3.cell 0); (have q1 := hS3.cell 1); (simp only [List.getElem?_toArray, List.getElem?_cons_succ, List.getElem?_cons_zero] at r0 r1 r2 r3 r4 r5 r6 r7 r8 r9 r10 q0 q1); (have rf0 := hR3.frozen 0); (have rf1 := hR3.frozen 1); (have rf2 := hR3.frozen 2); (have rf3 := hR3.frozen 3); (have rf4 := hR3.frozen 4); (have rf5 := hR3.frozen 5); (have rf6 := hR3.frozen 6); (have rf7 := hR3.frozen 7); (have rf8 := hR3.frozen 8); (have rf9 := hR3.frozen 9); (have rf10 := hR3.frozen 10); (have qf0 := hS3.frozen 0); (have qf1 := hS3.frozen 1))
    have hb0 : Below W.heap.size W w3 := HN2.out.trans (hb3.mono (by have := HZ2.out; omega))
    obtain ⟨w5, hw5⟩ : ∃ w5, (((((((((((w3).setCell ⟨W.heap.size, 0, none⟩ (x0)).setCell ⟨W.heap.size, 1, none⟩ (x1)).setCell ⟨W.heap.size, 2, none⟩ (x2)).setCell ⟨W.heap.size, 3, none⟩ (x3)).setCell ⟨W.heap.size, 4, none⟩ (x4)).setCell ⟨W.heap.size, 5, none⟩ (x5)).setCell ⟨W.heap.size, 6, none⟩ (x6)).setCell ⟨W.heap.size, 7, none⟩ (x7)).setCell ⟨W.heap.size, 8, none⟩ (x8)).setCell ⟨W.heap.size, 9, none⟩ (x9)).setCell ⟨W.heap.size, 10, none⟩ (x10) = w5 := ⟨_, rfl⟩
    have hR5 := set11 hR3 x0 x1 x2 x3 x4 x5 x6 x7 x8 x9 x10
    have hL5 : Low (oneX W.heap.size) w3 _ := Low.set11 (Chg.refl _ _) (.inl (oneX_self _)) x0 x1 x2 x3 x4 x5 x6 x7 x8 x9 x10
    have hb5 := Below.set11 hb0 (Nat.le_refl _) x0 x1 x2 x3 x4 x5 x6 x7 x8 x9 x10
    rw [hw5] at hR5 hL5 hb5 ⊢
    clear hw5
    have hS5 : Blk w5 (W.heap.size + 1) 35 #[.int .i64 0, .int .i64 0] := (hL5.block _ hS3.lt (by rw [oneX_no (by omega)]; simp)).trans hS3
    have hS9 := two_set hS5 (.int .i64 0) (.int .i64 0)
    have hR9 := (hR5.far (p := ⟨W.heap.size + 1, 0, none⟩) (by show W.heap.size ≠ W.heap.size + 1; omega) (.int .i64 0)).far (p := ⟨W.heap.size + 1, 1, none⟩) (by show W.heap.size ≠ W.heap.size + 1; omega) (.int .i64 0)
    have hb9 : Below W.heap.size W _ := (hb5.setCell (p := ⟨W.heap.size + 1, 0, none⟩) (by show W.heap.size ≤ W.heap.size + 1; omega) (.int .i64 0)).setCell (p := ⟨W.heap.size + 1, 1, none⟩) (by show W.heap.size ≤ W.heap.size + 1; omega) (.int .i64 0)
    have hL9 : Low (lowX W2.heap.size) w5 _ := Low.set_ (p := ⟨W.heap.size + 1, 1, none⟩) (Low.set_ (p := ⟨W.heap.size + 1, 0, none⟩) (X := lowX W2.heap.size) (Chg.refl _ w5) (.inl (lowX_iff.2 (by have := HZ2.out; show W.heap.size + 1 < _; omega))) (.int .i64 0)) (.inl (lowX_iff.2 (by have := HZ2.out; show W.heap.size + 1 < _; omega))) (.int .i64 0)
    revert hS9 hR9 hb9 hL9
    generalize (w5.setCell ⟨W.heap.size + 1, 0, none⟩ (.int .i64 0)).setCell ⟨W.heap.size + 1, 1, none⟩ (.int .i64 0) = w9
    intro hS9 hR9 hb9 hL9
    have e0 := hR9.cell 0
    have e1 := hR9.cell 1
    have e2 := hR9.cell 2
    have e3 := hR9.cell 3
    have e4 := hR9.cell 4
    have e5 := hR9.cell 5
    have e6 := hR9.cell 6
    have e7 := hR9.cell 7
    have e8 := hR9.cell 8
    have e9 := hR9.cell 9
    have e10 := hR9.cell 10
    have g0 := hS9.cell 0
    have g1 := hS9.cell 1
    simp only [List.getElem?_toArray, List.getElem?_cons_succ, List.getElem?_cons_zero] at e0 e1 e2 e3 e4 e5 e6 e7 e8 e9 e10 g0 g1
    have hty9 := ((hty.later (hL5.mono fun k _ hk => by
      have : k = W.heap.size := by simpa [oneX] using hk
      subst this; exact lowX_iff.2 (by have := HZ2.out; omega))).later hL9).wk (B' := W.heap.size) (by have := HZ2.out; omega)
    exact bodyPost_ret (v := .tuple #[.agg #[x0, x1, x2, x3, x4, x5, x6, x7, x8, x9, x10], .agg #[.int .i64 0, .int .i64 0]]) (by simp [results, Tryd.results5, go_sem, e0, e1, e2, e3, e4, e5, e6, e7, e8, e9, e10, g0, g1]) rfl ⟨hb9, [x0, x1, x2, x3, x4, x5, x6, x7, x8, x9, x10], rfl, rfl, hty9⟩

end Go.Proofs.YtiiddmioafhmoaaDoor
