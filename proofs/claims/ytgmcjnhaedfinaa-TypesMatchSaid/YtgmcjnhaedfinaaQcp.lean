/- Walks: Vars, Metas. -/
import Derived.Test.YtgmcjnhaedfinaaQco
import Derived.Test.YtgmcjnhaedfinaaQci
namespace Go.Proofs.Ytgmcjnhaedfinaa
open Go.RowKit Go.Maps
set_option linter.unusedVariables false
set_option linter.unusedSimpArgs false
set_option maxRecDepth 100000

theorem at_next {w : World} {k : Nat} {x : Obj} (o : Obj) (h : w.heap[k]? = some x) : (w.alloc o).heap[k]? = some x :=
  (Below.heap_alloc w o k (by
    rcases Nat.lt_or_ge k w.heap.size with hlt | hge
    · exact hlt
    · rw [Array.getElem?_eq_none hge] at h; cases h)).trans h
theorem seven (w : World) (o0 o1 o2 o3 o4 o5 o6 : Obj) : ∀ W : World, W = ((((((w.alloc o0).alloc o1).alloc o2).alloc o3).alloc o4).alloc o5).alloc o6 →
    W.heap[w.heap.size]? = some o0 ∧ W.heap[w.heap.size + 1]? = some o1 ∧ W.heap[w.heap.size + 2]? = some o2 ∧ W.heap[w.heap.size + 3]? = some o3 ∧ W.heap[w.heap.size + 4]? = some o4 ∧ W.heap[w.heap.size + 5]? = some o5 ∧ W.heap[w.heap.size + 6]? = some o6 ∧ W.heap.size = w.heap.size + 7 ∧ Below w.heap.size w W := by
  rintro W rfl
  have n0 := heap_alloc_new w o0
  have n1 := heap_alloc_new (w.alloc o0) o1
  have n2 := heap_alloc_new ((w.alloc o0).alloc o1) o2
  have n3 := heap_alloc_new (((w.alloc o0).alloc o1).alloc o2) o3
  have n4 := heap_alloc_new ((((w.alloc o0).alloc o1).alloc o2).alloc o3) o4
  have n5 := heap_alloc_new (((((w.alloc o0).alloc o1).alloc o2).alloc o3).alloc o4) o5
  have n6 := heap_alloc_new ((((((w.alloc o0).alloc o1).alloc o2).alloc o3).alloc o4).alloc o5) o6
  simp only [alloc_size, Nat.add_assoc, Nat.reduceAdd] at n1 n2 n3 n4 n5 n6
  refine ⟨at_next _ (at_next _ (at_next _ (at_next _ (at_next _ (at_next _ n0))))), at_next _ (at_next _ (at_next _ (at_next _ (at_next _ n1)))), at_next _ (at_next _ (at_next _ (at_next _ n2))), at_next _ (at_next _ (at_next _ n3)), at_next _ (at_next _ n4), at_next _ n5, n6, by simp only [alloc_size], ?_⟩
  exact (((((((Below.refl _ _).alloc (Nat.le_refl _) _).alloc (by rw [alloc_size]; omega) _).alloc (by simp only [alloc_size]; omega) _).alloc (by simp only [alloc_size]; omega) _).alloc (by simp only [alloc_size]; omega) _).alloc (by simp only [alloc_size]; omega) _).alloc (by simp only [alloc_size]; omega) _
set_option maxHeartbeats 3200000 in
theorem collS_any (t : Ty) (ht9 : t.nodes ≤ 4000000) (B : Nat) (w : World) (cs : List Value) (hB : B ≤ w.heap.size) (hx : TyAt w B cs t) :
    Calls Try.prog 36 #[.agg cs.toArray, .int .i64 1, .func (.func 37) #[] #[]] w (NmPost (varsT t) w) := by
  have hmf : ∀ (fn : Fn) (first cap : Array Value) (w : World), (Instr.makeFunc fn first cap).run Try.prog w = .ok (.func fn first cap) w := fun _ _ _ _ => rfl
  have hmm := @run_makeMap Try.prog
  have h4 := hx.four
  have oo := ty_ones hx
  obtain ⟨a0, a1, a2, a3, rfl⟩ := four_of h4
  have sa0 := store_one' a0 (oo a0 (by simp))
  have sa1 := store_one' a1 (oo a1 (by simp))
  have sa2 := store_one' a2 (oo a2 (by simp))
  have sa3 := store_one' a3 (oo a3 (by simp))
  obtain ⟨b, hb⟩ : ∃ b, w.heap.size = b := ⟨_, rfl⟩
  have HX := Lib.hid hx
  clear oo h4 hx
  have sf := store_one' (.func (.func 56) #[] #[.pointer (some ⟨b + 1, 0, none⟩), .pointer (some ⟨b + 2, 0, none⟩), .pointer (some ⟨b + 5, 0, none⟩), .pointer (some ⟨b + 3, 0, none⟩), .pointer (some ⟨b + 6, 0, none⟩)]) rfl
  go_enter Try.func36, Try.ntmps36
  go_upto_region 4 with fail
  generalize hW7 : World.alloc _ _ = W7
  simp only [Nat.add_assoc, Nat.reduceAdd] at hW7 ⊢
  have h7 := seven _ _ _ _ _ _ _ _ _ hW7.symm
  rw [hb] at h7
  obtain ⟨p0, p1, p2, p3, p4, p5, p6, hz, hbe⟩ := h7
  have q0 : Blk W7 b 24 #[a0, a1, a2, a3] := p0
  have q6 : Blk W7 (b + 6) 80 #[.nilFunc] := p6
  have hm : MapV W7 9 (b + 4) 0 (seenS []) := by
    have h1 := MapV.made ((((w.alloc (.cells #[a0, a1, a2, a3] 24)).alloc (.cells #[.int .i64 1] 3)).alloc (.cells #[.func (.func 37) #[] #[]] 59)).alloc (.cells #[.slice none 0 0] 34)) 9
    have e : (((((w.alloc (.cells #[a0, a1, a2, a3] 24)).alloc (.cells #[.int .i64 1] 3)).alloc (.cells #[.func (.func 37) #[] #[]] 59)).alloc (.cells #[.slice none 0 0] 34))).heap.size = b + 4 := by simp [hb]
    rw [e] at h1
    have e2 : seenS [] = fun _ => none := by funext s; cases s <;> first | rfl | simp [seenS, hasS]
    rw [e2]
    refine h1.blk (p4.trans ?_)
    rw [← e]
    exact (heap_alloc_new _ _).symm
  have hst : CStS b (W7.setCell ⟨b + 6, 0, none⟩ (.func (.func 56) #[] #[.pointer (some ⟨b + 1, 0, none⟩), .pointer (some ⟨b + 2, 0, none⟩), .pointer (some ⟨b + 5, 0, none⟩), .pointer (some ⟨b + 3, 0, none⟩), .pointer (some ⟨b + 6, 0, none⟩)])) [] :=
    ⟨Blk.far (p := ⟨b + 6, 0, none⟩) (show Blk W7 (b + 1) 3 #[.int .i64 1] from p1) (by show b + 1 ≠ b + 6; omega) _, Blk.far (p := ⟨b + 6, 0, none⟩) (show Blk W7 (b + 2) 59 #[.func (.func 37) #[] #[]] from p2) (by show b + 2 ≠ b + 6; omega) _,
      ⟨.slice none 0 0, Blk.far (p := ⟨b + 6, 0, none⟩) (show Blk W7 (b + 3) 34 #[.slice none 0 0] from p3) (by show b + 3 ≠ b + 6; omega) _, World.ownsRow_nil _ _ _ _⟩,
      hm.blk (Below.heap_setCell _ _ _ _ (by show b + 4 ≠ b + 6; omega)), Blk.far (p := ⟨b + 6, 0, none⟩) (show Blk W7 (b + 5) 79 #[.map (some (b + 4))] from p5) (by show b + 5 ≠ b + 6; omega) _, by simpa using q6.set_ 0 _⟩
  have hbe2 := below_set (hb ▸ hbe : Below b w W7) (p := ⟨b + 6, 0, none⟩) (by show b ≤ b + 6; omega) (.func (.func 56) #[] #[.pointer (some ⟨b + 1, 0, none⟩), .pointer (some ⟨b + 2, 0, none⟩), .pointer (some ⟨b + 5, 0, none⟩), .pointer (some ⟨b + 3, 0, none⟩), .pointer (some ⟨b + 6, 0, none⟩)])
  have C := Lib.hid (visS_any b B (by omega) t.nodes t (Nat.le_refl _) ht9 [] _ _ (by simp; omega) (HX.out.later (hbe2.mono (by omega))) hst)
  have HBE := Lib.hid hbe2
  have qB := q0.far (p := ⟨b + 6, 0, none⟩) (by show b ≠ b + 6; omega) (.func (.func 56) #[] #[.pointer (some ⟨b + 1, 0, none⟩), .pointer (some ⟨b + 2, 0, none⟩), .pointer (some ⟨b + 5, 0, none⟩), .pointer (some ⟨b + 3, 0, none⟩), .pointer (some ⟨b + 6, 0, none⟩)])
  have y6 := q6.cell 0
  have f6 := q6.frozen 0
  have v6 := hst.vis.cell 0
  simp only [List.getElem?_toArray, List.getElem?_cons_succ, List.getElem?_cons_zero] at y6 v6
  have x0 := q0.cell 0
  have x1 := q0.cell 1
  have x2 := q0.cell 2
  have x3 := q0.cell 3
  simp only [zTy, List.getElem?_toArray, List.getElem?_cons_succ, List.getElem?_cons_zero] at x0 x1 x2 x3
  have z0 := qB.cell 0
  have z1 := qB.cell 1
  have z2 := qB.cell 2
  have z3 := qB.cell 3
  simp only [zTy, List.getElem?_toArray, List.getElem?_cons_succ, List.getElem?_cons_zero] at z0 z1 z2 z3
  clear p0 p1 p2 p3 p4 p5 p6 hW7 q0 q6 hm hst hbe hbe2 qB
  go_wp2_with (go_at_call 56; (with_reducible refine C.out.mono ?_); rintro e w3 ⟨rfl, hst3, hb3⟩; (obtain ⟨v, hq, hown⟩ := hst3.keys); (have u3 := hq.cell 0); (simp only [List.getElem?_toArray, List.getElem?_cons_succ, List.getElem?_cons_zero] at u3))
  go_ret
  exact ⟨_, rfl, own_less hown (by omega), by rw [hb]; exact HBE.out.trans hb3⟩
theorem pvars_any (t : Ty) (ht9 : t.nodes ≤ 4000000) (B : Nat) (w : World) (cs : List Value) (hB : B ≤ w.heap.size) (hx : TyAt w B cs t) :
    Calls Try.prog 15 #[.agg cs.toArray] w (NmPost (varsT t) w) := by
  have h4 := hx.four
  have oo := ty_ones hx
  obtain ⟨a0, a1, a2, a3, rfl⟩ := four_of h4
  have sa0 := store_one' a0 (oo a0 (by simp))
  have sa1 := store_one' a1 (oo a1 (by simp))
  have sa2 := store_one' a2 (oo a2 (by simp))
  have sa3 := store_one' a3 (oo a3 (by simp))
  have hmf : ∀ (fn : Fn) (first cap : Array Value) (w : World), (Instr.makeFunc fn first cap).run Try.prog w = .ok (.func fn first cap) w := fun _ _ _ _ => rfl
  have hg := (Below.refl w.heap.size w).alloc (Nat.le_refl _) (.cells #[a0, a1, a2, a3] 24)
  have C := Lib.hid (collS_any t ht9 B _ _ (Nat.le_trans hB hg.size) (hx.later (hg.mono hB)))
  have HG := Lib.hid hg
  clear oo h4 hx hg
  go_enter Try.func15, Try.ntmps15
  go_wp2_with (go_at_call 36; (with_reducible refine C.out.mono ?_); rintro e w3 ⟨v, rfl, hown, hb3⟩)
  go_ret
  exact ⟨_, rfl, own_less hown (by simp), HG.out.trans (hb3.mono (by simp))⟩
set_option maxHeartbeats 3200000 in
theorem collI_any (t : Ty) (ht9 : t.nodes ≤ 4000000) (B : Nat) (w : World) (cs : List Value) (hB : B ≤ w.heap.size) (hx : TyAt w B cs t) :
    Calls Try.prog 39 #[.agg cs.toArray, .int .i64 2, .func (.func 40) #[] #[]] w (InPost (metasT t) w) := by
  have hmf : ∀ (fn : Fn) (first cap : Array Value) (w : World), (Instr.makeFunc fn first cap).run Try.prog w = .ok (.func fn first cap) w := fun _ _ _ _ => rfl
  have hmm := @run_makeMap Try.prog
  have h4 := hx.four
  have oo := ty_ones hx
  obtain ⟨a0, a1, a2, a3, rfl⟩ := four_of h4
  have sa0 := store_one' a0 (oo a0 (by simp))
  have sa1 := store_one' a1 (oo a1 (by simp))
  have sa2 := store_one' a2 (oo a2 (by simp))
  have sa3 := store_one' a3 (oo a3 (by simp))
  obtain ⟨b, hb⟩ : ∃ b, w.heap.size = b := ⟨_, rfl⟩
  have HX := Lib.hid hx
  clear oo h4 hx
  have sf := store_one' (.func (.func 57) #[] #[.pointer (some ⟨b + 1, 0, none⟩), .pointer (some ⟨b + 2, 0, none⟩), .pointer (some ⟨b + 5, 0, none⟩), .pointer (some ⟨b + 3, 0, none⟩), .pointer (some ⟨b + 6, 0, none⟩)]) rfl
  go_enter Try.func39, Try.ntmps39
  go_upto_region 4 with fail
  generalize hW7 : World.alloc _ _ = W7
  simp only [Nat.add_assoc, Nat.reduceAdd] at hW7 ⊢
  have h7 := seven _ _ _ _ _ _ _ _ _ hW7.symm
  rw [hb] at h7
  obtain ⟨p0, p1, p2, p3, p4, p5, p6, hz, hbe⟩ := h7
  have q0 : Blk W7 b 24 #[a0, a1, a2, a3] := p0
  have q6 : Blk W7 (b + 6) 80 #[.nilFunc] := p6
  have hm : MapV W7 3 (b + 4) 0 (seenI []) := by
    have h1 := MapV.made ((((w.alloc (.cells #[a0, a1, a2, a3] 24)).alloc (.cells #[.int .i64 2] 3)).alloc (.cells #[.func (.func 40) #[] #[]] 39)).alloc (.cells #[.slice none 0 0] 37)) 3
    have e : (((((w.alloc (.cells #[a0, a1, a2, a3] 24)).alloc (.cells #[.int .i64 2] 3)).alloc (.cells #[.func (.func 40) #[] #[]] 39)).alloc (.cells #[.slice none 0 0] 37))).heap.size = b + 4 := by simp [hb]
    rw [e] at h1
    have e2 : seenI [] = fun _ => none := by funext s; cases s <;> first | rfl | simp [seenI, hasI]
    rw [e2]
    refine h1.blk (p4.trans ?_)
    rw [← e]
    exact (heap_alloc_new _ _).symm
  have hst : CStI b (W7.setCell ⟨b + 6, 0, none⟩ (.func (.func 57) #[] #[.pointer (some ⟨b + 1, 0, none⟩), .pointer (some ⟨b + 2, 0, none⟩), .pointer (some ⟨b + 5, 0, none⟩), .pointer (some ⟨b + 3, 0, none⟩), .pointer (some ⟨b + 6, 0, none⟩)])) [] :=
    ⟨Blk.far (p := ⟨b + 6, 0, none⟩) (show Blk W7 (b + 1) 3 #[.int .i64 2] from p1) (by show b + 1 ≠ b + 6; omega) _, Blk.far (p := ⟨b + 6, 0, none⟩) (show Blk W7 (b + 2) 39 #[.func (.func 40) #[] #[]] from p2) (by show b + 2 ≠ b + 6; omega) _,
      ⟨.slice none 0 0, Blk.far (p := ⟨b + 6, 0, none⟩) (show Blk W7 (b + 3) 37 #[.slice none 0 0] from p3) (by show b + 3 ≠ b + 6; omega) _, World.ownsRow_nil _ _ _ _⟩,
      hm.blk (Below.heap_setCell _ _ _ _ (by show b + 4 ≠ b + 6; omega)), Blk.far (p := ⟨b + 6, 0, none⟩) (show Blk W7 (b + 5) 83 #[.map (some (b + 4))] from p5) (by show b + 5 ≠ b + 6; omega) _, by simpa using q6.set_ 0 _⟩
  have hbe2 := below_set (hb ▸ hbe : Below b w W7) (p := ⟨b + 6, 0, none⟩) (by show b ≤ b + 6; omega) (.func (.func 57) #[] #[.pointer (some ⟨b + 1, 0, none⟩), .pointer (some ⟨b + 2, 0, none⟩), .pointer (some ⟨b + 5, 0, none⟩), .pointer (some ⟨b + 3, 0, none⟩), .pointer (some ⟨b + 6, 0, none⟩)])
  have C := Lib.hid (visI_any b B (by omega) t.nodes t (Nat.le_refl _) ht9 [] _ _ (by simp; omega) (HX.out.later (hbe2.mono (by omega))) hst)
  have HBE := Lib.hid hbe2
  have qB := q0.far (p := ⟨b + 6, 0, none⟩) (by show b ≠ b + 6; omega) (.func (.func 57) #[] #[.pointer (some ⟨b + 1, 0, none⟩), .pointer (some ⟨b + 2, 0, none⟩), .pointer (some ⟨b + 5, 0, none⟩), .pointer (some ⟨b + 3, 0, none⟩), .pointer (some ⟨b + 6, 0, none⟩)])
  have y6 := q6.cell 0
  have f6 := q6.frozen 0
  have v6 := hst.vis.cell 0
  simp only [List.getElem?_toArray, List.getElem?_cons_succ, List.getElem?_cons_zero] at y6 v6
  have x0 := q0.cell 0
  have x1 := q0.cell 1
  have x2 := q0.cell 2
  have x3 := q0.cell 3
  simp only [zTy, List.getElem?_toArray, List.getElem?_cons_succ, List.getElem?_cons_zero] at x0 x1 x2 x3
  have z0 := qB.cell 0
  have z1 := qB.cell 1
  have z2 := qB.cell 2
  have z3 := qB.cell 3
  simp only [zTy, List.getElem?_toArray, List.getElem?_cons_succ, List.getElem?_cons_zero] at z0 z1 z2 z3
  clear p0 p1 p2 p3 p4 p5 p6 hW7 q0 q6 hm hst hbe hbe2 qB
  go_wp2_with (go_at_call 57; (with_reducible refine C.out.mono ?_); rintro e w3 ⟨rfl, hst3, hb3⟩; (obtain ⟨v, hq, hown⟩ := hst3.keys); (have u3 := hq.cell 0); (simp only [List.getElem?_toArray, List.getElem?_cons_succ, List.getElem?_cons_zero] at u3))
  go_ret
  exact ⟨_, rfl, own_less hown (by omega), by rw [hb]; exact HBE.out.trans hb3⟩
theorem pmetas_any (t : Ty) (ht9 : t.nodes ≤ 4000000) (B : Nat) (w : World) (cs : List Value) (hB : B ≤ w.heap.size) (hx : TyAt w B cs t) :
    Calls Try.prog 18 #[.agg cs.toArray] w (InPost (metasT t) w) := by
  have h4 := hx.four
  have oo := ty_ones hx
  obtain ⟨a0, a1, a2, a3, rfl⟩ := four_of h4
  have sa0 := store_one' a0 (oo a0 (by simp))
  have sa1 := store_one' a1 (oo a1 (by simp))
  have sa2 := store_one' a2 (oo a2 (by simp))
  have sa3 := store_one' a3 (oo a3 (by simp))
  have hmf : ∀ (fn : Fn) (first cap : Array Value) (w : World), (Instr.makeFunc fn first cap).run Try.prog w = .ok (.func fn first cap) w := fun _ _ _ _ => rfl
  have hg := (Below.refl w.heap.size w).alloc (Nat.le_refl _) (.cells #[a0, a1, a2, a3] 24)
  have C := Lib.hid (collI_any t ht9 B _ _ (Nat.le_trans hB hg.size) (hx.later (hg.mono hB)))
  have HG := Lib.hid hg
  clear oo h4 hx hg
  go_enter Try.func18, Try.ntmps18
  go_wp2_with (go_at_call 39; (with_reducible refine C.out.mono ?_); rintro e w3 ⟨v, rfl, hown, hb3⟩)
  go_ret
  exact ⟨_, rfl, own_less hown (by simp), HG.out.trans (hb3.mono (by simp))⟩

end Go.Proofs.Ytgmcjnhaedfinaa
