/- Walks: the iterator over the names that occur free. -/
import Derived.Test.YtglamoiimmahgaaVis
namespace Go.Proofs.Ytglamoiimmahgaa
open Go.RowKit Go.Shelf
set_option linter.unusedVariables false
set_option linter.unusedSimpArgs false
set_option maxRecDepth 100000

set_option maxHeartbeats 1600000 in
theorem poccs_any (w : World) (cs : List Value) :
    Calls Try.prog 53 #[.agg cs.toArray] w fun e w' => e = .returned (.func (.func 68) #[] #[.pointer (some ⟨w.heap.size, 0, none⟩)]) ∧ w.alloc (.cells cs.toArray 29) = w' := by
  have hmf : ∀ (w0 : World) (f : Fn) (a b : Array Value), (Instr.makeFunc f a b).run Try.prog w0 = .ok (.func f a b) w0 := fun _ _ _ _ => rfl
  go_enter Try.func53, Try.ntmps53
  go_wp2_with fail
  go_ret
  exact ⟨rfl, rfl⟩

set_option maxHeartbeats 6400000 in
theorem occ_iter (e : Ex) (B b : Nat) (W : World) (cs : List Value) (hN : e.mass ≤ 4000000) (hB : B ≤ W.heap.size) (hx : ExAt W B cs e) (hbox : Blk W b 29 cs.toArray) :
    Iter Try.prog 68 #[.pointer (some ⟨b, 0, none⟩)] (fun k => k < B ∨ k = b) (e.occ []).length (fun _ => OcRd (e.occ [])) W := by
  intro l X J hS hX hJ hY h0
  obtain ⟨c0, c1, c2, c3, c4, c5, c6, c7, c8, c9, c10, rfl⟩ := eleven_of hx.eleven
  obtain ⟨xn, xtk, xtn, xq, xnm, xtnm, xtA, xA, xAa, xAb, xtl, xtc, xkl, xc, xal, xca, xbl, xcb, rfl, rfl, rfl, rfl, rfl, rfl, rfl, rfl, rfl, rfl, rfl⟩ := ex_shape hx
  generalize hek : e.kind = ek at *
  have hbB : b < W.heap.size := hbox.lt
  have hXW : ∀ i, X W i → i < W.heap.size := fun i hi => (hX 0 W h0 i hi).1
  obtain ⟨W2, hW2⟩ : ∃ W2, (((W.alloc (.cells #[.func (.yield l) #[] #[]] 111)).alloc (.map #[] 0)).alloc (.cells #[.map (some (W.heap.size + 1))] 112)).alloc (.cells #[.func (.func 69) #[] #[.pointer (some ⟨W.heap.size + 1 + 1, 0, none⟩), .pointer (some ⟨W.heap.size, 0, none⟩), .pointer (some ⟨W.heap.size + 1 + 1 + 1, 0, none⟩)]] 33) = W2 := ⟨_, rfl⟩
  have hb2 : Below W.heap.size W W2 := by rw [← hW2]; exact ((((Below.refl _ _).alloc (Nat.le_refl _) _).alloc (by simp) _).alloc (by simp; omega) _).alloc (by simp; omega) _
  have hz2 : W2.heap.size = W.heap.size + 4 := by rw [← hW2]; simp
  have hst : VSt W2 l (W.heap.size + 1 + 1) W.heap.size (W.heap.size + 1 + 1 + 1) (W.heap.size + 1) := by
    rw [← hW2]
    refine ⟨?_, ?_, ?_⟩
    · have := (Blk.new ((W.alloc (.cells #[.func (.yield l) #[] #[]] 111)).alloc (.map #[] 0)) 112 #[.map (some (W.heap.size + 1))]).alloc (.cells #[.func (.func 69) #[] #[.pointer (some ⟨W.heap.size + 1 + 1, 0, none⟩), .pointer (some ⟨W.heap.size, 0, none⟩), .pointer (some ⟨W.heap.size + 1 + 1 + 1, 0, none⟩)]] 33)
      simpa using this
    · exact (((Blk.new W 111 #[.func (.yield l) #[] #[]]).alloc _).alloc _).alloc _
    · have := Blk.new (((W.alloc (.cells #[.func (.yield l) #[] #[]] 111)).alloc (.map #[] 0)).alloc (.cells #[.map (some (W.heap.size + 1))] 112)) 33 #[.func (.func 69) #[] #[.pointer (some ⟨W.heap.size + 1 + 1, 0, none⟩), .pointer (some ⟨W.heap.size, 0, none⟩), .pointer (some ⟨W.heap.size + 1 + 1 + 1, 0, none⟩)]]
      simpa using this
  have hmap : MapC W2 (W.heap.size + 1) 0 (cntF []) := by
    have h := MapC.made (W.alloc (.cells #[.func (.yield l) #[] #[]] 111))
    simp only [World.size_alloc] at h
    rw [← hW2]
    refine h.blk ?_
    rw [Below.heap_alloc _ _ _ (by simp), Below.heap_alloc _ _ _ (by simp)]
  have hk2 : Kep (X W) W W2 := Kep.of_below hb2 hXW
  have hX2 : ∀ i, X W2 i → i < W.heap.size := fun i hi => hXW i (hS W W2 hk2 i hi)
  have hc2 : ChD X W W2 := ChD.own hS hXW hb2
  have hbx := hbox.below hb2 hbB
  have C := Lib.hid (pvisit_any l X J W (e.occ []) B (W.heap.size + 1 + 1) W.heap.size (W.heap.size + 1 + 1 + 1) (W.heap.size + 1) hS (fun i A h b hb => ⟨(hX i A h b hb).1, by have := (hX i A h b hb).2; omega⟩) hJ
    ⟨by omega, by omega, by omega, by omega, by omega, by omega, by omega⟩ hB hY e.mass e (Nat.le_refl _) [] 0 0 W2 [.int .i64 ek, .string xnm, .int .i64 xn, .int .i64 xtk, .string xtnm, .int .i64 xtn, .slice xtA xtl xtc, .slice xA xkl xc, .slice xAa xal xca, .slice xAb xbl xcb, .int .i64 xq] (by simp; omega) hN (by omega) (Nat.le_trans hB hb2.size) (hx.later (hb2.mono hB)) hst hmap (hJ 0 W W2 h0 hk2) hc2 (fun j x h => by simpa using h)
    ⟨fun h => by have := hX2 _ h; omega, fun h => by have := hX2 _ h; omega, fun h => by have := hX2 _ h; omega, fun h => by have := hX2 _ h; omega⟩)
  have HW := Lib.hid hW2
  have HC2 := Lib.hid hc2
  have HZ := Lib.hid hz2
  have g0 := hbx.cell 0
  have g1 := hbx.cell 1
  have g2 := hbx.cell 2
  have g3 := hbx.cell 3
  have g4 := hbx.cell 4
  have g5 := hbx.cell 5
  have g6 := hbx.cell 6
  have g7 := hbx.cell 7
  have g8 := hbx.cell 8
  have g9 := hbx.cell 9
  have g10 := hbx.cell 10
  simp only [List.getElem?_toArray, List.getElem?_cons_succ, List.getElem?_cons_zero] at g0 g1 g2 g3 g4 g5 g6 g7 g8 g9 g10
  rw [← HW.out] at g0 g1 g2 g3 g4 g5 g6 g7 g8 g9 g10
  have hmm := @run_makeMap Try.prog
  have hmf : ∀ (w0 : World) (f : Fn) (a b : Array Value), (Instr.makeFunc f a b).run Try.prog w0 = .ok (.func f a b) w0 := fun _ _ _ _ => rfl
  have HS := Lib.hid hS
  clear hW2 hb2 hz2 hst hmap hk2 hc2 hbx hX hJ hY h0 hS hX2 hXW hx hbox
  simp only [List.append_toArray, List.cons_append, List.nil_append]
  go_enter Try.func68, Try.ntmps68
  go_wp2_with fail
  rw [HW.out]
  refine C.out.mono ?_
  rintro e5 w5 ⟨rfl, hj5, _, hc5, _⟩
  have HF := Lib.hid (show (∃ v, Ending.returned (.tuple #[]) = .returned v) ∧ ChD X W w5 ∧ J (e.occ []).length w5 from
    ⟨⟨_, rfl⟩, ⟨⟨hc5.chg.os.trans HC2.out.chg.os, hc5.chg.tape.trans HC2.out.chg.tape, hc5.chg.output.trans HC2.out.chg.output, Nat.le_trans HC2.out.size hc5.size, fun i hi hx =>
      (hc5.chg.block i (Nat.lt_of_lt_of_le hi HC2.out.size) (fun h => h.elim (fun h => hx (HC2.out.sub i hi h)) (fun h => by omega))).trans (HC2.out.chg.block i hi hx)⟩,
      fun i hi h => (hc5.sub i (Nat.lt_of_lt_of_le hi HC2.out.size) (.inl h)).elim (HC2.out.sub i hi) (fun h => by omega)⟩, by simpa using hj5⟩)
  clear hj5 hc5
  go_wp2_with fail
  go_end0
  exact HF.out

end Go.Proofs.Ytglamoiimmahgaa
