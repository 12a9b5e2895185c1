/- Walks: slices.Clone on types; Con, Fun; the document's Fun and kids. -/
import Derived.Test.YtgmcjnhaedfinaaQmap
import Derived.Deep.RegionHeld3
import Derived.Deep.DeepCutAuto
import Derived.Deep.CutBlock
import Derived.Deep.CutRange
namespace Go.Proofs.Ytgmcjnhaedfinaa
open Go.RowKit
set_option linter.unusedVariables false
set_option linter.unusedSimpArgs false
set_option maxRecDepth 100000

theorem own_empty (w : World) (e : TypeId) (size : Nat) : (w.alloc (.cells #[] e)).ownsRow w.heap.size e size (.slice (some ⟨w.heap.size, 0, none⟩) 0 0) 0 [] :=
  ⟨by simp, .inr ⟨w.heap.size, 0, #[], rfl, Nat.le_refl _, Blk.new w e #[], Nat.le_refl _, by simp [maxLen], by simp, by simp⟩⟩
set_option maxHeartbeats 1600000 in
theorem clone_any (ks : List Ty) (A : Option Addr) (L : List (List Value)) (c n B : Nat) (w : World) (hB : B ≤ w.heap.size) (hn : ks.length = n) (hn9 : n ≤ 4000000) (ha : TysAt w B A ks L) :
    Calls Try.prog 42 #[.slice A n c] w fun e w' => ∃ v, e = .returned v ∧ w'.ownsRow w.heap.size 24 4 v n L.flatten ∧ Below w.heap.size w w' := by
  obtain ⟨i0, hi, hz0, hz1, hz2⟩ := info_parts ty_info
  have HI := Lib.hid hi
  have HZ0 := Lib.hid hz0
  have HZ1 := Lib.hid hz1
  have HZ2 := Lib.hid hz2
  have HN := Lib.hid hn
  have HA := Lib.hid ha
  clear ha hi hz0 hz1 hz2 hn
  cases A with
  | none =>
    obtain rfl : n = 0 := by
      rcases Nat.eq_zero_or_pos n with h | h
      · exact h
      · obtain ⟨ad, e, _⟩ := HA.out.row.reads.2 (by rw [HN.out]; exact h); cases e
    have hL : L = [] := List.eq_nil_of_length_eq_zero (by rw [HA.out.row.len, HN.out])
    subst hL
    have he : ∀ w : World, (binOp .eql 22 (.slice none 0 c) (.slice none 0 0)).run Try.prog w = .ok (.bool true) w := fun _ => rfl
    go_enter Try.func42, Try.ntmps42
    go_wp2_with fail
    go_ret
    exact ⟨_, rfl, World.ownsRow_nil _ _ _ _, Below.refl _ _⟩
  | some ad =>
    have he : ∀ w : World, (binOp .eql 22 (.slice (some ad) n c) (.slice none 0 0)).run Try.prog w = .ok (.bool false) w := fun _ => rfl
    go_enter Try.func42, Try.ntmps42
    go_wp2_with (at_builtin; refine wpList_append_any _ rfl (.tmp 5) (.tmp 6) 22 rfl w.heap.size 24 i0 (.agg #[.int .i64 0, .string ⟨#[]⟩, .int .i64 0, .slice none 0 0]) 4 56 Try.underlying22 HI.out HZ0.out HZ1.out HZ2.out rfl (by decide) _ 0 [] rfl (own_empty w _ _) B (some ad) n c L.flatten rfl ?_ (ts_ones (w := w) (B := B) ⟨HA.out.row.len, HA.out.row.each, HA.out.each⟩) (by unfold maxLen; omega) (by omega) (by simp) ?_)
    · have := HA.out.row.reads
      rw [HN.out] at this
      exact this.alloc hB _
    intro v' w2 hown hg _
    have HO := Lib.hid hown
    have HB := Lib.hid (((Below.refl w.heap.size w).alloc (Nat.le_refl _) _).grown hg (by simp) (fun k hk => by simp [Value.ownBlock] at hk; omega))
    clear hown hg
    go_wp2_with fail
    go_ret
    exact ⟨_, rfl, by simpa using HO.out, HB.out⟩

theorem alloc_size (w : World) (o : Obj) : (w.alloc o).heap.size = w.heap.size + 1 := by simp
/-- Four cells stored. -/
abbrev put4 (W : World) (g : Nat) (y0 y1 y2 y3 : Value) : World := (((W.setCell ⟨g, 0, none⟩ y0).setCell ⟨g, 1, none⟩ y1).setCell ⟨g, 2, none⟩ y2).setCell ⟨g, 3, none⟩ y3
theorem Blk.put4_ {W : World} {g : Nat} {T : TypeId} {a b c d : Value} (h : Blk W g T #[a, b, c, d]) (y0 y1 y2 y3 : Value) : Blk (put4 W g y0 y1 y2 y3) g T #[y0, y1, y2, y3] := by
  simpa using (((h.set_ 0 y0).set_ 1 y1).set_ 2 y2).set_ 3 y3
theorem Blk.put4_far {W : World} {g k : Nat} {T : TypeId} {cs : Array Value} (h : Blk W k T cs) (hk : k ≠ g) (y0 y1 y2 y3 : Value) : Blk (put4 W g y0 y1 y2 y3) k T cs := (((h.far (p := ⟨g, 0, none⟩) hk y0).far (p := ⟨g, 1, none⟩) hk y1).far (p := ⟨g, 2, none⟩) hk y2).far (p := ⟨g, 3, none⟩) hk y3
theorem heap_put4 (W : World) (g k : Nat) (hk : k ≠ g) (y0 y1 y2 y3 : Value) : (put4 W g y0 y1 y2 y3).heap[k]? = W.heap[k]? := by
  rw [Below.heap_setCell _ _ _ _ (by exact hk), Below.heap_setCell _ _ _ _ (by exact hk), Below.heap_setCell _ _ _ _ (by exact hk), Below.heap_setCell _ _ _ _ (by exact hk)]
theorem put4_size (W : World) (g : Nat) (y0 y1 y2 y3 : Value) : (put4 W g y0 y1 y2 y3).heap.size = W.heap.size := by simp [World.setCell]
theorem below_put4 {B g : Nat} {a W : World} (h : Below B a W) (hg : B ≤ g) (y0 y1 y2 y3 : Value) : Below B a (put4 W g y0 y1 y2 y3) :=
  ⟨h.os, h.tape, h.output, by rw [put4_size]; exact h.size, fun k hk => (heap_put4 W g k (by omega) y0 y1 y2 y3).trans (h.block k hk)⟩
theorem chg_put4 {X : Nat → Prop} {g : Nat} {a W : World} (h : Chg X a W) (hg : X g ∨ a.heap.size ≤ g) (y0 y1 y2 y3 : Value) : Chg X a (put4 W g y0 y1 y2 y3) :=
  ⟨h.os, h.tape, h.output, by rw [put4_size]; exact h.size, fun k hk hx => (heap_put4 W g k (by
    rintro rfl
    rcases hg with h1 | h1
    · exact hx h1
    · omega) y0 y1 y2 y3).trans (h.block k hk hx)⟩
theorem TyX.put4_ {X : Nat → Bool} {W : World} {g : Nat} {cs : List Value} {t : Ty} (h : TyX X W cs t) (hg : X g = true) (y0 y1 y2 y3 : Value) : TyX X (put4 W g y0 y1 y2 y3) cs t := h.later (chg_put4 (Chg.refl _ _) (.inl hg) y0 y1 y2 y3)
/-- A type handed back out of a cell. -/
theorem res_cell4 {fn : Func} {c : Tmp} {tmps : Array Value} {w : World} {g : Nat} {T : TypeId} {cs : Array Value} (hr : fn.results = #[.cell c 24]) (ht : tmps.getD c undef = .pointer (some ⟨g, 0, none⟩)) (hB : Blk w g T cs) (h4 : cs.size = 4) :
    (results fn tmps).run Try.prog w = .ok (.agg cs) w := by
  obtain ⟨l⟩ := cs
  obtain ⟨a, b, c', d, rfl⟩ := four_of (show l.length = 4 from h4)
  have d0 := hB.cell 0
  have d1 := hB.cell 1
  have d2 := hB.cell 2
  have d3 := hB.cell 3
  simp only [List.getElem?_toArray, List.getElem?_cons_succ, List.getElem?_cons_zero] at d0 d1 d2 d3
  have ht' : tmps[c]?.getD undef = .pointer (some ⟨g, 0, none⟩) := by rw [← ht]; simp
  simp [results, hr, ht', go_sem, d0, d1, d2, d3]
theorem mid_more {B H H' k : Nat} (hH : H ≤ H') (h : mid B H k = true) : mid B H' k = true := by rw [mid_iff] at h ⊢; omega
theorem row_weaken {X Y : Nat → Bool} {W : World} {A : Option Addr} {n : Nat} {L : List (List Value)} (h : Row (mask X W) W.heap.size 4 A n L) (hY : ∀ k, Y k = true → X k = true) : Row (mask Y W) W.heap.size 4 A n L :=
  h.imp fun p u hb hc => by
    cases hX : X p.block with
    | true => exact (mask_none hX hc).elim
    | false =>
      rw [mask_cell hX] at hc
      rw [mask_cell (by cases hy : Y p.block with
        | true => rw [hY _ hy] at hX; cases hX
        | false => rfl)]; exact hc
/-- An own row of old types reads beside what lies between. -/
theorem own_mid {w : World} {base B H : Nat} {v : Value} {l : List Ty} {L : List (List Value)} (h : w.ownsRow base 24 4 v l.length L.flatten) (hx : TsAt w B l L) (hB : B ≤ w.heap.size) (hb : H ≤ base) :
    ∃ A c, v = .slice A l.length c ∧ l.length ≤ c ∧ c ≤ maxLen ∧ Row (mask (mid B H) w) w.heap.size 4 A l.length L ∧ ∀ i (h1 : i < L.length) (h2 : i < l.length), TyX (mid B H) w L[i] l[i] := by
  have hel : ∀ i (h1 : i < L.length) (h2 : i < l.length), TyX (mid B H) w L[i] l[i] := fun i h1 h2 => TyX.of_old (hx.ty i h1 h2) hB fun k hk => (mid_iff.1 hk).1
  rcases h.2 with ⟨rfl, h0⟩ | ⟨g, cap, cur, hv, hg, hh, hn, hm, hr⟩
  · have : l = [] := List.eq_nil_of_length_eq_zero h0
    subst this
    obtain rfl : L = [] := List.eq_nil_of_length_eq_zero (by simpa using hx.len)
    exact ⟨none, 0, rfl, by simp, by simp [maxLen], ⟨rfl, fun x h => by simp at h, Reads.none_⟩, fun i h => by simp at h⟩
  · refine ⟨some ⟨g, 0, none⟩, cap, hv, hn, hm, ⟨hx.len, hx.each, ?_⟩, hel⟩
    subst hv
    have hr := Reads.of_own h
    refine ⟨hr.1, fun hn0 => ?_⟩
    obtain ⟨ad, e1, hb', hc⟩ := hr.2 hn0
    refine ⟨ad, e1, hb', fun j u hu => ?_⟩
    have e2 : ad = ⟨g, 0, none⟩ := by injection e1 with e1; exact e1.symm
    subst e2
    rw [mask_cell]
    · exact hc j u hu
    · rw [block_of_add]
      cases hx : mid B H g with
      | false => rfl
      | true => have := mid_iff.1 hx; omega
/-- What a function that makes a type answers. -/
def TyPost (B : Nat) (t : Ty) (w : World) (e : Ending) (w' : World) : Prop := ∃ cs : List Value, e = .returned (.agg cs.toArray) ∧ TyX (mid B w.heap.size) w' cs t ∧ Below w.heap.size w w'
abbrev zTy : Array Value := #[.int .i64 0, .string ⟨#[]⟩, .int .i64 0, .slice none 0 0]
theorem store_one' (c : Value) (h : c.oneCell' = true) : ∀ (w : World) (a : Addr) (m : Mode), (store a c m).run Try.prog w = stored Try.prog w a c m := fun w a m => run_store Try.prog w a c m h


theorem ok_lit (n : Int) (h : -9223372036854775808 ≤ n) (h2 : n ≤ 9223372036854775807) : ok64 n := by
  unfold ok64; simp [Lit.wf, IntKind.min, IntKind.max, IntKind.signed, IntKind.bits]; omega
/-- What a function that makes a type answers, read beside what the caller says. -/
def TyPostX (X : Nat → Bool) (t : Ty) (w : World) (e : Ending) (w' : World) : Prop := ∃ cs : List Value, e = .returned (.agg cs.toArray) ∧ TyX X w' cs t ∧ Below w.heap.size w w'
theorem ty_end9 {fn : Func} {q : Tmp} {tmps : Array Value} {X : Nat → Bool} {w w9 : World} {R : Nat} {x0 x1 x2 x3 : Value} {t : Ty} (hr : fn.results = #[.cell q 24]) (ht : tmps.getD q undef = .pointer (some ⟨R, 0, none⟩)) (hR : Blk w9 R 24 #[x0, x1, x2, x3])
    (hb : Below w.heap.size w w9) (hty : TyX X w9 [x0, x1, x2, x3] t) : bodyPost Try.prog fn (TyPostX X t w) .ret { tmps := tmps, defers := [] } w9 :=
  bodyPost_ret (res_cell4 hr ht hR rfl) rfl ⟨[x0, x1, x2, x3], rfl, hty, hb⟩
theorem ty_endX {fn : Func} {q : Tmp} {tmps : Array Value} {X : Nat → Bool} {w w2 : World} {R : Nat} {a b c d x0 x1 x2 x3 : Value} {t : Ty} (hr : fn.results = #[.cell q 24]) (ht : tmps.getD q undef = .pointer (some ⟨R, 0, none⟩)) (hR : Blk w2 R 24 #[a, b, c, d])
    (hRm : w.heap.size ≤ R) (hb : Below w.heap.size w w2) (hty : TyX X (put4 w2 R x0 x1 x2 x3) [x0, x1, x2, x3] t) : bodyPost Try.prog fn (TyPostX X t w) .ret { tmps := tmps, defers := [] } (put4 w2 R x0 x1 x2 x3) :=
  bodyPost_ret (res_cell4 hr ht (hR.put4_ x0 x1 x2 x3) rfl) rfl ⟨[x0, x1, x2, x3], rfl, hty, below_put4 hb hRm _ _ _ _⟩
theorem ty_end {fn : Func} {q : Tmp} {tmps : Array Value} {w w2 : World} {B R H2 : Nat} {a b c d x0 x1 x2 x3 : Value} {t : Ty} (hr : fn.results = #[.cell q 24]) (ht : tmps.getD q undef = .pointer (some ⟨R, 0, none⟩)) (hR : Blk w2 R 24 #[a, b, c, d])
    (hRm : w.heap.size ≤ R) (hB : B ≤ w.heap.size) (hH : R < H2) (hb : Below w.heap.size w w2) (hty : TyX (mid B H2) w2 [x0, x1, x2, x3] t) : bodyPost Try.prog fn (TyPost B t w) .ret { tmps := tmps, defers := [] } (put4 w2 R x0 x1 x2 x3) :=
  ty_endX hr ht hR hRm hb ((hty.put4_ (mid_iff.2 ⟨by omega, hH⟩) _ _ _ _).weaken fun k _ hk => mid_more (by omega) hk)

set_option maxHeartbeats 1600000 in
theorem con_any (nm : ByteArray) (hs : nm.size ≤ maxLen) (ks : List Ty) (A : Option Addr) (L : List (List Value)) (c n B : Nat) (w : World) (hB : B ≤ w.heap.size) (hn : ks.length = n) (hn9 : n ≤ 4000000) (hr : Row w w.heap.size 4 A ks.length L) (ht : TsAt w B ks L) :
    Calls Try.prog 24 #[.string nm, .slice A n c] w (TyPost B (.mk 3 nm 0 ks) w) := by
  obtain ⟨W1, hW1⟩ : ∃ W1, w.alloc (.cells zTy 24) = W1 := ⟨_, rfl⟩
  have hnew : Below w.heap.size w W1 := by rw [← hW1]; exact (Below.refl _ _).alloc (Nat.le_refl _) _
  have hres : Blk W1 w.heap.size 24 zTy := by rw [← hW1]; exact Blk.new _ _ _
  have hsz : W1.heap.size = w.heap.size + 1 := by rw [← hW1]; simp
  have C := Lib.hid (clone_any ks A L c n w.heap.size W1 (by omega) hn hn9 ⟨hr.keep fun p hp => hnew.cell (by omega), fun i h1 h2 => ((ht.ty i h1 h2).more hB).later hnew⟩)
  have HT := Lib.hid ht
  have HW1 := Lib.hid hW1
  have HN := Lib.hid hnew
  have HRS := Lib.hid hres
  have HSZ := Lib.hid hsz
  have HL := Lib.hid hn
  have HBB := Lib.hid hB
  clear hW1 hnew hres hsz hr ht hn
  go_enter Try.func24, Try.ntmps24
  go_upto_region 1 with fail
  unfold zTy at HW1
  rw [HW1.out]
  go_wp2_with (go_at_call 42; (with_reducible refine C.out.mono ?_); rintro e w2 ⟨v, rfl, hown, hb2⟩; (have hR := HRS.out.below hb2 (by have := HSZ.out; omega)); (have r0 := hR.cell 0); (have f0 := hR.frozen 0); (have r1 := hR.cell 1); (have f1 := hR.frozen 1); (have r2 := hR.cell 2); (have f2 := hR.frozen 2); (have r3 := hR.cell 3); (have f3 := hR.frozen 3); (simp only [zTy, List.getElem?_toArray, List.getElem?_cons_succ, List.getElem?_cons_zero] at r0 r1 r2 r3); (obtain ⟨A2, c2, rfl, hcc, hcm, hrow, hel⟩ := own_mid (l := ks) (H := w.heap.size + 1) (by rw [HL.out]; exact hown) (HT.out.later ((HN.out.mono HBB.out).trans (hb2.mono (by have := HSZ.out; have := HBB.out; omega)))) (by have := hb2.size; have := HSZ.out; have := HBB.out; omega) (by have := HSZ.out; omega)))
  exact ty_end (H2 := w.heap.size + 1) rfl rfl hR (Nat.le_refl _) HBB.out (by omega) (HN.out.trans (hb2.mono (by have := HSZ.out; omega))) (TyX.mk_ (ok_lit _ (by omega) (by omega)) hs (ok_lit _ (by omega) (by omega)) hcc hcm (by rw [HL.out]; exact hn9) hrow hel)

abbrev sArrow : ByteArray := ⟨#[45, 62]⟩
theorem ty_cells {w : World} {B : Nat} {cs : List Value} {t : Ty} (h : TyAt w B cs t) : ∃ k nm n A c ks, t = .mk k nm n ks ∧ cs = [.int .i64 k, .string nm, .int .i64 n, .slice A ks.length c] := by
  cases h; exact ⟨_, _, _, _, _, _, rfl, rfl⟩
theorem row_two (w : World) (cs ds : List Value) (hc : cs.length = 4) (hd : ds.length = 4) (T : TypeId) : Row (w.alloc (.cells (cs ++ ds).toArray T)) (w.heap.size + 1) 4 (some ⟨w.heap.size, 0, none⟩) 2 [cs, ds] := by
  refine ⟨rfl, fun l hl => by simp at hl; rcases hl with rfl | rfl <;> assumption, ⟨by simp [hc, hd], fun _ => ⟨_, rfl, by simp, fun j u hu => ?_⟩⟩⟩
  exact new_cells w (cs ++ ds) j u (by simpa using hu)
set_option maxHeartbeats 1600000 in
theorem fun_any (t u : Ty) (cs ds : List Value) (B : Nat) (w : World) (hB : B ≤ w.heap.size) (ht : TyAt w B cs t) (hu : TyAt w B ds u) :
    Calls Try.prog 22 #[.agg cs.toArray, .agg ds.toArray] w (TyPost B (.mk 3 sArrow 0 [t, u]) w) := by
  have h4 := ht.four
  have h4' := hu.four
  have o1 := ty_ones ht
  have o2 := ty_ones hu
  obtain ⟨a0, a1, a2, a3, rfl⟩ := four_of h4
  obtain ⟨b0, b1, b2, b3, rfl⟩ := four_of h4'
  have s0 := store_one' a0 (o1 a0 (by simp)); have s1 := store_one' a1 (o1 a1 (by simp)); have s2 := store_one' a2 (o1 a2 (by simp)); have s3 := store_one' a3 (o1 a3 (by simp))
  have s4 := store_one' b0 (o2 b0 (by simp)); have s5 := store_one' b1 (o2 b1 (by simp)); have s6 := store_one' b2 (o2 b2 (by simp)); have s7 := store_one' b3 (o2 b3 (by simp))
  obtain ⟨W1, hW1⟩ : ∃ W1, ((w.alloc (.cells #[a0, a1, a2, a3] 24)).alloc (.cells #[b0, b1, b2, b3] 24)).alloc (.cells zTy 24) = W1 := ⟨_, rfl⟩
  have hnew : Below w.heap.size w W1 := by rw [← hW1]; exact (((Below.refl _ _).alloc (Nat.le_refl _) _).alloc (by simp) _).alloc (by simp; omega) _
  have hres : Blk W1 (w.heap.size + 1 + 1) 24 zTy := by rw [← hW1]; have := Blk.new ((w.alloc (.cells #[a0, a1, a2, a3] 24)).alloc (.cells #[b0, b1, b2, b3] 24)) 24 zTy; simpa using this
  have hx0 : Blk W1 w.heap.size 24 #[a0, a1, a2, a3] := by rw [← hW1]; exact ((Blk.new _ _ _).alloc _).alloc _
  have hx1 : Blk W1 (w.heap.size + 1) 24 #[b0, b1, b2, b3] := by rw [← hW1]; have := (Blk.new (w.alloc (.cells #[a0, a1, a2, a3] 24)) 24 #[b0, b1, b2, b3]).alloc (.cells zTy 24); simpa using this
  have hsz : W1.heap.size = w.heap.size + 3 := by rw [← hW1]; simp
  have hb2 := (Below.refl W1.heap.size W1).alloc (Nat.le_refl _) (.cells #[a0, a1, a2, a3, b0, b1, b2, b3] 24)
  have C := Lib.hid (con_any sArrow (by simp [maxLen, ByteArray.size]) [t, u] (some ⟨W1.heap.size, 0, none⟩) [[a0, a1, a2, a3], [b0, b1, b2, b3]] 2 2 B (W1.alloc (.cells #[a0, a1, a2, a3, b0, b1, b2, b3] 24)) (by simp; omega) rfl (by omega)
    (by have := row_two W1 [a0, a1, a2, a3] [b0, b1, b2, b3] rfl rfl 24; simpa using this)
    ((TsAt.one (ht.later ((hnew.mono hB).trans (hb2.mono (by omega))))).app (TsAt.one (hu.later ((hnew.mono hB).trans (hb2.mono (by omega)))))))
  have r0 := hx0.cell 0; have r1 := hx0.cell 1; have r2 := hx0.cell 2; have r3 := hx0.cell 3
  have q0 := hx1.cell 0; have q1 := hx1.cell 1; have q2 := hx1.cell 2; have q3 := hx1.cell 3
  simp only [zTy, List.getElem?_toArray, List.getElem?_cons_succ, List.getElem?_cons_zero] at r0 r1 r2 r3 q0 q1 q2 q3
  have HW1 := Lib.hid hW1
  have HN := Lib.hid (hnew.trans (hb2.mono (by omega)))
  have HRS := Lib.hid (hres.alloc (.cells #[a0, a1, a2, a3, b0, b1, b2, b3] 24))
  have HSZ := Lib.hid hsz
  have HBB := Lib.hid hB
  clear hW1 hnew hres hsz ht hu hx0 hx1 hb2 o1 o2 h4 h4'
  go_enter Try.func22, Try.ntmps22
  go_upto_region 1 with fail
  unfold zTy at HW1
  rw [HW1.out]
  go_wp2_with (go_at_call 24; (with_reducible refine C.out.mono ?_); rintro e w2 ⟨xs, rfl, hty, hb2⟩; (have hz3 := HSZ.out); (have hR := HRS.out.below hb2 (by simp; omega)); (have r0 := hR.cell 0); (have f0 := hR.frozen 0); (have r1 := hR.cell 1); (have f1 := hR.frozen 1); (have r2 := hR.cell 2); (have f2 := hR.frozen 2); (have r3 := hR.cell 3); (have f3 := hR.frozen 3); (simp only [zTy, List.getElem?_toArray, List.getElem?_cons_succ, List.getElem?_cons_zero] at r0 r1 r2 r3); (have oo := ty_ones hty); (obtain ⟨x0, x1, x2, x3, rfl⟩ := four_of (TyAt.four hty)); (have s0 := store_one' x0 (oo x0 (by simp))); (have s1 := store_one' x1 (oo x1 (by simp))); (have s2 := store_one' x2 (oo x2 (by simp))); (have s3 := store_one' x3 (oo x3 (by simp))))
  exact ty_end (H2 := w.heap.size + 3) rfl rfl hR (by omega) HBB.out (by omega) (HN.out.trans (hb2.mono (by simp; omega))) (hty.weaken fun k _ hk => mid_more (by simp; omega) hk)

set_option maxHeartbeats 1600000 in
theorem rfun_any (t u : Ty) (cs ds : List Value) (B : Nat) (w : World) (hB : B ≤ w.heap.size) (ht : TyAt w B cs t) (hu : TyAt w B ds u) :
    Calls Try.prog 23 #[.agg cs.toArray, .agg ds.toArray] w (TyPost B (.mk 3 sArrow 0 [t, u]) w) := by
  have h4 := ht.four
  have h4' := hu.four
  have o1 := ty_ones ht
  have o2 := ty_ones hu
  obtain ⟨a0, a1, a2, a3, rfl⟩ := four_of h4
  obtain ⟨b0, b1, b2, b3, rfl⟩ := four_of h4'
  have s0 := store_one' a0 (o1 a0 (by simp)); have s1 := store_one' a1 (o1 a1 (by simp)); have s2 := store_one' a2 (o1 a2 (by simp)); have s3 := store_one' a3 (o1 a3 (by simp))
  have s4 := store_one' b0 (o2 b0 (by simp)); have s5 := store_one' b1 (o2 b1 (by simp)); have s6 := store_one' b2 (o2 b2 (by simp)); have s7 := store_one' b3 (o2 b3 (by simp))
  obtain ⟨W1, hW1⟩ : ∃ W1, ((w.alloc (.cells #[a0, a1, a2, a3] 24)).alloc (.cells #[b0, b1, b2, b3] 24)).alloc (.cells zTy 24) = W1 := ⟨_, rfl⟩
  have hnew : Below w.heap.size w W1 := by rw [← hW1]; exact (((Below.refl _ _).alloc (Nat.le_refl _) _).alloc (by simp) _).alloc (by simp; omega) _
  have hres : Blk W1 (w.heap.size + 1 + 1) 24 zTy := by rw [← hW1]; have := Blk.new ((w.alloc (.cells #[a0, a1, a2, a3] 24)).alloc (.cells #[b0, b1, b2, b3] 24)) 24 zTy; simpa using this
  have hx0 : Blk W1 w.heap.size 24 #[a0, a1, a2, a3] := by rw [← hW1]; exact ((Blk.new _ _ _).alloc _).alloc _
  have hx1 : Blk W1 (w.heap.size + 1) 24 #[b0, b1, b2, b3] := by rw [← hW1]; have := (Blk.new (w.alloc (.cells #[a0, a1, a2, a3] 24)) 24 #[b0, b1, b2, b3]).alloc (.cells zTy 24); simpa using this
  have hsz : W1.heap.size = w.heap.size + 3 := by rw [← hW1]; simp
  have hb2 := (Below.refl W1.heap.size W1).alloc (Nat.le_refl _) (.cells #[a0, a1, a2, a3, b0, b1, b2, b3] 24)
  have r0 := hx0.cell 0; have r1 := hx0.cell 1; have r2 := hx0.cell 2; have r3 := hx0.cell 3
  have q0 := hx1.cell 0; have q1 := hx1.cell 1; have q2 := hx1.cell 2; have q3 := hx1.cell 3
  have y0 := hres.cell 0; have y1 := hres.cell 1; have y2 := hres.cell 2; have y3 := hres.cell 3
  have f0 := hres.frozen 0; have f1 := hres.frozen 1; have f2 := hres.frozen 2; have f3 := hres.frozen 3
  simp only [zTy, List.getElem?_toArray, List.getElem?_cons_succ, List.getElem?_cons_zero] at r0 r1 r2 r3 q0 q1 q2 q3 y0 y1 y2 y3
  have HW1 := Lib.hid hW1
  have HN := Lib.hid (hnew.trans (hb2.mono (by omega)))
  have HRS := Lib.hid (hres.alloc (.cells #[a0, a1, a2, a3, b0, b1, b2, b3] 24))
  have HSZ := Lib.hid hsz
  have HBB := Lib.hid hB
  have HR1 := Lib.hid hres
  have HN1 := Lib.hid hnew
  have hbp : Below w.heap.size w ((put4 W1 (w.heap.size + 1 + 1) (.int .i64 3) (.string sArrow) (.int .i64 0) (.slice (some ⟨W1.heap.size, 0, none⟩) 2 2)).alloc (.cells #[a0, a1, a2, a3, b0, b1, b2, b3] 24)) := (below_put4 hnew (show w.heap.size ≤ w.heap.size + 1 + 1 by omega) _ _ _ _).alloc (by rw [put4_size]; omega) _
  have hzp : (put4 W1 (w.heap.size + 1 + 1) (.int .i64 3) (.string sArrow) (.int .i64 0) (.slice (some ⟨W1.heap.size, 0, none⟩) 2 2)).heap.size = W1.heap.size := put4_size _ _ _ _ _ _
  have HTY := Lib.hid (show TyX (mid B w.heap.size) ((put4 W1 (w.heap.size + 1 + 1) (.int .i64 3) (.string sArrow) (.int .i64 0) (.slice (some ⟨W1.heap.size, 0, none⟩) 2 2)).alloc (.cells #[a0, a1, a2, a3, b0, b1, b2, b3] 24)) [.int .i64 3, .string sArrow, .int .i64 0, .slice (some ⟨W1.heap.size, 0, none⟩) 2 2] (.mk 3 sArrow 0 [t, u]) from
    TyX.mk_ (ks := [t, u]) (L := [[a0, a1, a2, a3], [b0, b1, b2, b3]]) (ok_lit _ (by omega) (by omega)) (by simp [maxLen, ByteArray.size]) (ok_lit _ (by omega) (by omega)) (by simp) (by simp [maxLen]) (by simp)
      (by
        have hr := row_two (put4 W1 (w.heap.size + 1 + 1) (.int .i64 3) (.string sArrow) (.int .i64 0) (.slice (some ⟨W1.heap.size, 0, none⟩) 2 2)) [a0, a1, a2, a3] [b0, b1, b2, b3] rfl rfl 24
        rw [hzp] at hr
        refine ⟨hr.len, hr.each, hr.reads.1, fun hn => ?_⟩
        obtain ⟨ad, e, hb, hc⟩ := hr.reads.2 hn
        refine ⟨ad, e, by rw [alloc_size, hzp]; exact hb, fun j v hv => ?_⟩
        have e2 : ad = ⟨W1.heap.size, 0, none⟩ := by injection e with e; exact e.symm
        subst e2
        rw [mask_cell]
        · exact hc j v hv
        · rw [block_of_add]
          cases hx : mid B w.heap.size W1.heap.size with
          | false => rfl
          | true => have := mid_iff.1 hx; omega)
      (fun i h1 h2 => by
        match i, h1, h2 with
        | 0, _, _ => exact TyX.of_old (ht.later (hbp.mono hB)) (by have := hbp.size; omega) fun k hk => (mid_iff.1 hk).1
        | 1, _, _ => exact TyX.of_old (hu.later (hbp.mono hB)) (by have := hbp.size; omega) fun k hk => (mid_iff.1 hk).1))
  clear hW1 hnew hres hsz ht hu hx0 hx1 hb2 hbp hzp o1 o2 h4 h4'
  go_enter Try.func23, Try.ntmps23
  go_upto_region 1 with fail
  unfold zTy at HW1
  rw [HW1.out]
  have hz3 := HSZ.out
  go_wp2_with fail
  have hB9 := (HR1.out.put4_ (.int .i64 3) (.string sArrow) (.int .i64 0) (.slice (some ⟨w.heap.size + 3, 0, none⟩) 2 2)).alloc (.cells #[a0, a1, a2, a3, b0, b1, b2, b3] 24)
  have hb9 := (below_put4 HN1.out (show w.heap.size ≤ w.heap.size + 1 + 1 by omega) (.int .i64 3) (.string sArrow) (.int .i64 0) (.slice (some ⟨w.heap.size + 3, 0, none⟩) 2 2)).alloc (by rw [put4_size]; omega) (.cells #[a0, a1, a2, a3, b0, b1, b2, b3] 24)
  have ht9 := HTY.out
  rw [hz3] at ht9
  exact ty_end9 rfl rfl hB9 hb9 ht9

set_option maxHeartbeats 1600000 in
/-- A type of other kids. -/
theorem kids_any (k n : Int) (nm : ByteArray) (ks0 ks : List Ty) (cs : List Value) (A : Option Addr) (c B H : Nat) (L : List (List Value)) (w : World) (hx : TyAt w B cs (.mk k nm n ks0)) (hH : H ≤ w.heap.size) (hc : ks.length ≤ c) (hm : c ≤ maxLen) (hks : ks.length ≤ 4000000)
    (hrow : Row (mask (mid B H) w) w.heap.size 4 A ks.length L) (hel : ∀ i (h1 : i < L.length) (h2 : i < ks.length), TyX (mid B H) w L[i] ks[i]) :
    Calls Try.prog 46 #[.agg cs.toArray, .slice A ks.length c] w (TyPostX (mid B H) (.mk k nm n ks) w) := by
  cases hx with
  | @mk _ _ _ A0 c0 _ L0 hk hs hn hc0 hm0 hb0 hr0 hks0 =>
  have HTY := Lib.hid (show TyX (mid B H) w [.int .i64 k, .string nm, .int .i64 n, .slice A ks.length c] (.mk k nm n ks) from TyX.mk_ hk hs hn hc hm hks hrow hel)
  obtain ⟨W1, hW1⟩ : ∃ W1, (w.alloc (.cells #[.int .i64 k, .string nm, .int .i64 n, .slice A0 ks0.length c0] 24)).alloc (.cells zTy 24) = W1 := ⟨_, rfl⟩
  have hnew : Below w.heap.size w W1 := by rw [← hW1]; exact ((Below.refl _ _).alloc (Nat.le_refl _) _).alloc (by simp) _
  have hres : Blk W1 (w.heap.size + 1) 24 zTy := by rw [← hW1]; have := Blk.new (w.alloc (.cells #[.int .i64 k, .string nm, .int .i64 n, .slice A0 ks0.length c0] 24)) 24 zTy; simpa using this
  have hx0 : Blk W1 w.heap.size 24 #[.int .i64 k, .string nm, .int .i64 n, .slice A0 ks0.length c0] := by rw [← hW1]; exact (Blk.new _ _ _).alloc _
  have r0 := hx0.cell 0; have r1 := hx0.cell 1; have r2 := hx0.cell 2; have r3 := hx0.cell 3
  have y0 := hres.cell 0; have y1 := hres.cell 1; have y2 := hres.cell 2; have y3 := hres.cell 3
  have f0 := hres.frozen 0; have f1 := hres.frozen 1; have f2 := hres.frozen 2; have f3 := hres.frozen 3
  simp only [zTy, List.getElem?_toArray, List.getElem?_cons_succ, List.getElem?_cons_zero] at r0 r1 r2 r3 y0 y1 y2 y3
  have HW1 := Lib.hid hW1
  have HN := Lib.hid hnew
  have HRS := Lib.hid hres
  clear hW1 hnew hres hx0 hrow hel hr0 hks0
  go_enter Try.func46, Try.ntmps46
  go_upto_region 1 with fail
  unfold zTy at HW1
  rw [HW1.out]
  go_wp2_with fail
  exact ty_endX rfl rfl HRS.out (by omega) HN.out (HTY.out.below (below_put4 HN.out (by omega) _ _ _ _))

end Go.Proofs.Ytgmcjnhaedfinaa
