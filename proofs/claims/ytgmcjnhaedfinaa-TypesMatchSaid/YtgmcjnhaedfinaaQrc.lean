/- Walks: replace, whole. -/
import Derived.Test.YtgmcjnhaedfinaaQra
import Derived.Test.YtgmcjnhaedfinaaQrb
namespace Go.Proofs.Ytgmcjnhaedfinaa
open Go.RowKit Go.Maps
set_option linter.unusedVariables false
set_option linter.unusedSimpArgs false
set_option maxRecDepth 100000

set_option maxHeartbeats 3200000 in
theorem replp_any (f : Ty → Option Ty) (B mb : Nat) (w : World) (hB : B ≤ w.heap.size)
    (HO : ∀ (t : Ty) (cs : List Value) (W : World), Below w.heap.size w W → TyAt W B cs t → Calls Try.prog 45 #[.agg cs.toArray, .pointer (some ⟨mb, 0, none⟩)] W (OthPost B (f t) W))
    (t : Ty) (ht : t.nodes ≤ 4000000) (cs : List Value) (hx : TyAt w B cs t) :
    Calls Try.prog 44 #[.agg cs.toArray, .func (.func 45) #[] #[.pointer (some ⟨mb, 0, none⟩)]] w (TyPost B (t.repl f) w) := by
  have hmf : ∀ (fn : Fn) (first cap : Array Value) (w : World), (Instr.makeFunc fn first cap).run Try.prog w = .ok (.func fn first cap) w := fun _ _ _ _ => rfl
  have h4 := hx.four
  have oo := ty_ones hx
  obtain ⟨a0, a1, a2, a3, rfl⟩ := four_of h4
  have sa0 := store_one' a0 (oo a0 (by simp))
  have sa1 := store_one' a1 (oo a1 (by simp))
  have sa2 := store_one' a2 (oo a2 (by simp))
  have sa3 := store_one' a3 (oo a3 (by simp))
  obtain ⟨b, hb⟩ : ∃ b, w.heap.size = b := ⟨_, rfl⟩
  obtain ⟨fv, hfv⟩ : ∃ fv, (Value.func (.func 59) #[] #[.pointer (some ⟨b + 1, 0, none⟩), .pointer (some ⟨b + 3, 0, none⟩)]) = fv := ⟨_, rfl⟩
  have sf := store_one' (Value.func (.func 59) #[] #[.pointer (some ⟨b + 1, 0, none⟩), .pointer (some ⟨b + 3, 0, none⟩)]) rfl
  obtain ⟨W4, hW4⟩ : ∃ W4, (((w.alloc (.cells #[a0, a1, a2, a3] 24)).alloc (.cells #[.func (.func 45) #[] #[.pointer (some ⟨mb, 0, none⟩)]] 70)).alloc (.cells zTy 24)).alloc (.cells #[.nilFunc] 32) = W4 := ⟨_, rfl⟩
  have hsz : W4.heap.size = b + 4 := by rw [← hW4, ← hb]; simp only [alloc_size]
  have hg : Below b w W4 := by rw [← hW4, ← hb]; exact ((((Below.refl _ _).alloc (Nat.le_refl _) _).alloc (by rw [alloc_size]; omega) _).alloc (by simp only [alloc_size]; omega) _).alloc (by simp only [alloc_size]; omega) _
  have n0 : Blk W4 b 24 #[a0, a1, a2, a3] := by rw [← hW4, ← hb]; exact (((Blk.new _ _ _).alloc _).alloc _).alloc _
  have n1 : Blk W4 (b + 1) 70 #[.func (.func 45) #[] #[.pointer (some ⟨mb, 0, none⟩)]] := by
    have := ((Blk.new (w.alloc (.cells #[a0, a1, a2, a3] 24)) 70 #[.func (.func 45) #[] #[.pointer (some ⟨mb, 0, none⟩)]]).alloc (.cells zTy 24)).alloc (.cells #[.nilFunc] 32)
    rw [alloc_size, hb, hW4] at this; exact this
  have n2 : Blk W4 (b + 2) 24 zTy := by
    have := (Blk.new ((w.alloc (.cells #[a0, a1, a2, a3] 24)).alloc (.cells #[.func (.func 45) #[] #[.pointer (some ⟨mb, 0, none⟩)]] 70)) 24 zTy).alloc (.cells #[.nilFunc] 32)
    rw [alloc_size, alloc_size, hb, hW4] at this; exact this
  have n3 : Blk W4 (b + 3) 32 #[.nilFunc] := by
    have := Blk.new (((w.alloc (.cells #[a0, a1, a2, a3] 24)).alloc (.cells #[.func (.func 45) #[] #[.pointer (some ⟨mb, 0, none⟩)]] 70)).alloc (.cells zTy 24)) 32 #[.nilFunc]
    rw [alloc_size, alloc_size, alloc_size, hb, hW4] at this; exact this
  have hg5 := below_set hg (p := ⟨b + 3, 0, none⟩) (by show b ≤ b + 3; omega) (Value.func (.func 59) #[] #[.pointer (some ⟨b + 1, 0, none⟩), .pointer (some ⟨b + 3, 0, none⟩)])
  have hz5 : (W4.setCell ⟨b + 3, 0, none⟩ (Value.func (.func 59) #[] #[.pointer (some ⟨b + 1, 0, none⟩), .pointer (some ⟨b + 3, 0, none⟩)])).heap.size = b + 4 := by simp [World.setCell, hsz]
  have m3 : Blk (W4.setCell ⟨b + 3, 0, none⟩ (Value.func (.func 59) #[] #[.pointer (some ⟨b + 1, 0, none⟩), .pointer (some ⟨b + 3, 0, none⟩)])) (b + 3) 32 #[Value.func (.func 59) #[] #[.pointer (some ⟨b + 1, 0, none⟩), .pointer (some ⟨b + 3, 0, none⟩)]] := by simpa using n3.set_ 0 _
  have C := Lib.hid (repp_any f B (b + 1) (b + 3) mb _ (by rw [hz5]; omega) (n1.far (p := ⟨b + 3, 0, none⟩) (by show b + 1 ≠ b + 3; omega) _) m3 (fun t cs W hW hty => HO t cs W (by rw [hb]; exact hg5.trans (hW.mono (by rw [hz5]; omega))) hty) t.nodes t (Nat.le_refl _) ht _ [a0, a1, a2, a3] (Below.refl _ _) (hx.later (hg5.mono (by omega))))
  have HG5 := Lib.hid hg5
  have HRS := Lib.hid (n2.far (p := ⟨b + 3, 0, none⟩) (by show b + 2 ≠ b + 3; omega) (Value.func (.func 59) #[] #[.pointer (some ⟨b + 1, 0, none⟩), .pointer (some ⟨b + 3, 0, none⟩)]))
  have hx5 := n0.far (p := ⟨b + 3, 0, none⟩) (by show b ≠ b + 3; omega) (Value.func (.func 59) #[] #[.pointer (some ⟨b + 1, 0, none⟩), .pointer (some ⟨b + 3, 0, none⟩)])
  have x0 := n0.cell 0
  have x1 := n0.cell 1
  have x2 := n0.cell 2
  have x3 := n0.cell 3
  simp only [zTy, List.getElem?_toArray, List.getElem?_cons_succ, List.getElem?_cons_zero] at x0 x1 x2 x3
  have z0 := hx5.cell 0
  have z1 := hx5.cell 1
  have z2 := hx5.cell 2
  have z3 := hx5.cell 3
  simp only [zTy, List.getElem?_toArray, List.getElem?_cons_succ, List.getElem?_cons_zero] at z0 z1 z2 z3
  have y3 := n3.cell 0
  have f3 := n3.frozen 0
  have v3 := m3.cell 0
  simp only [List.getElem?_toArray, List.getElem?_cons_succ, List.getElem?_cons_zero] at y3 v3
  have HW4 := Lib.hid hW4
  have HZ5 := Lib.hid hz5
  clear oo h4 hx hW4 hg n0 n1 n2 n3 hg5 m3 hx5 HO hfv hsz hz5
  go_enter Try.func44, Try.ntmps44
  go_upto_region 2 with fail
  try simp only [Nat.add_assoc, Nat.reduceAdd]
  unfold zTy at HW4
  rw [HW4.out]
  go_wp2_with (go_at_call 59; (with_reducible refine C.out.mono ?_); rintro e w5 ⟨xs, rfl, hty, hb5⟩; (have hR := HRS.out.below hb5 HRS.out.lt); (have r0 := hR.cell 0); (have r1 := hR.cell 1); (have r2 := hR.cell 2); (have r3 := hR.cell 3); (simp only [zTy, List.getElem?_toArray, List.getElem?_cons_succ, List.getElem?_cons_zero] at r0 r1 r2 r3); (have fr0 := hR.frozen 0); (have fr1 := hR.frozen 1); (have fr2 := hR.frozen 2); (have fr3 := hR.frozen 3); (have oo := ty_ones hty); (obtain ⟨m0, m1, m2, m3, rfl⟩ := four_of (TyAt.four hty)); (have sm0 := store_one' m0 (oo m0 (by simp))); (have sm1 := store_one' m1 (oo m1 (by simp))); (have sm2 := store_one' m2 (oo m2 (by simp))); (have sm3 := store_one' m3 (oo m3 (by simp))))
  have hz5 := HZ5.out
  exact ty_end (H2 := b + 4) rfl rfl hR (by omega) (by omega) (by omega) (by rw [hb]; exact HG5.out.trans (hb5.mono (by rw [hz5]; omega))) (hty.weaken fun k _ hk => by rw [hz5]; exact hk)
set_option maxHeartbeats 3200000 in
theorem repla_any (f : Ty → Option Ty) (B mb : Nat) (w : World) (hB : B ≤ w.heap.size)
    (HO : ∀ (t : Ty) (cs : List Value) (W : World), Below w.heap.size w W → TyAt W B cs t → Calls Try.prog 48 #[.agg cs.toArray, .pointer (some ⟨mb, 0, none⟩)] W (OthPost B (f t) W))
    (t : Ty) (ht : t.nodes ≤ 4000000) (cs : List Value) (hx : TyAt w B cs t) :
    Calls Try.prog 44 #[.agg cs.toArray, .func (.func 48) #[] #[.pointer (some ⟨mb, 0, none⟩)]] w (TyPost B (t.repl f) w) := by
  have hmf : ∀ (fn : Fn) (first cap : Array Value) (w : World), (Instr.makeFunc fn first cap).run Try.prog w = .ok (.func fn first cap) w := fun _ _ _ _ => rfl
  have h4 := hx.four
  have oo := ty_ones hx
  obtain ⟨a0, a1, a2, a3, rfl⟩ := four_of h4
  have sa0 := store_one' a0 (oo a0 (by simp))
  have sa1 := store_one' a1 (oo a1 (by simp))
  have sa2 := store_one' a2 (oo a2 (by simp))
  have sa3 := store_one' a3 (oo a3 (by simp))
  obtain ⟨b, hb⟩ : ∃ b, w.heap.size = b := ⟨_, rfl⟩
  obtain ⟨fv, hfv⟩ : ∃ fv, (Value.func (.func 59) #[] #[.pointer (some ⟨b + 1, 0, none⟩), .pointer (some ⟨b + 3, 0, none⟩)]) = fv := ⟨_, rfl⟩
  have sf := store_one' (Value.func (.func 59) #[] #[.pointer (some ⟨b + 1, 0, none⟩), .pointer (some ⟨b + 3, 0, none⟩)]) rfl
  obtain ⟨W4, hW4⟩ : ∃ W4, (((w.alloc (.cells #[a0, a1, a2, a3] 24)).alloc (.cells #[.func (.func 48) #[] #[.pointer (some ⟨mb, 0, none⟩)]] 70)).alloc (.cells zTy 24)).alloc (.cells #[.nilFunc] 32) = W4 := ⟨_, rfl⟩
  have hsz : W4.heap.size = b + 4 := by rw [← hW4, ← hb]; simp only [alloc_size]
  have hg : Below b w W4 := by rw [← hW4, ← hb]; exact ((((Below.refl _ _).alloc (Nat.le_refl _) _).alloc (by rw [alloc_size]; omega) _).alloc (by simp only [alloc_size]; omega) _).alloc (by simp only [alloc_size]; omega) _
  have n0 : Blk W4 b 24 #[a0, a1, a2, a3] := by rw [← hW4, ← hb]; exact (((Blk.new _ _ _).alloc _).alloc _).alloc _
  have n1 : Blk W4 (b + 1) 70 #[.func (.func 48) #[] #[.pointer (some ⟨mb, 0, none⟩)]] := by
    have := ((Blk.new (w.alloc (.cells #[a0, a1, a2, a3] 24)) 70 #[.func (.func 48) #[] #[.pointer (some ⟨mb, 0, none⟩)]]).alloc (.cells zTy 24)).alloc (.cells #[.nilFunc] 32)
    rw [alloc_size, hb, hW4] at this; exact this
  have n2 : Blk W4 (b + 2) 24 zTy := by
    have := (Blk.new ((w.alloc (.cells #[a0, a1, a2, a3] 24)).alloc (.cells #[.func (.func 48) #[] #[.pointer (some ⟨mb, 0, none⟩)]] 70)) 24 zTy).alloc (.cells #[.nilFunc] 32)
    rw [alloc_size, alloc_size, hb, hW4] at this; exact this
  have n3 : Blk W4 (b + 3) 32 #[.nilFunc] := by
    have := Blk.new (((w.alloc (.cells #[a0, a1, a2, a3] 24)).alloc (.cells #[.func (.func 48) #[] #[.pointer (some ⟨mb, 0, none⟩)]] 70)).alloc (.cells zTy 24)) 32 #[.nilFunc]
    rw [alloc_size, alloc_size, alloc_size, hb, hW4] at this; exact this
  have hg5 := below_set hg (p := ⟨b + 3, 0, none⟩) (by show b ≤ b + 3; omega) (Value.func (.func 59) #[] #[.pointer (some ⟨b + 1, 0, none⟩), .pointer (some ⟨b + 3, 0, none⟩)])
  have hz5 : (W4.setCell ⟨b + 3, 0, none⟩ (Value.func (.func 59) #[] #[.pointer (some ⟨b + 1, 0, none⟩), .pointer (some ⟨b + 3, 0, none⟩)])).heap.size = b + 4 := by simp [World.setCell, hsz]
  have m3 : Blk (W4.setCell ⟨b + 3, 0, none⟩ (Value.func (.func 59) #[] #[.pointer (some ⟨b + 1, 0, none⟩), .pointer (some ⟨b + 3, 0, none⟩)])) (b + 3) 32 #[Value.func (.func 59) #[] #[.pointer (some ⟨b + 1, 0, none⟩), .pointer (some ⟨b + 3, 0, none⟩)]] := by simpa using n3.set_ 0 _
  have C := Lib.hid (repa_any f B (b + 1) (b + 3) mb _ (by rw [hz5]; omega) (n1.far (p := ⟨b + 3, 0, none⟩) (by show b + 1 ≠ b + 3; omega) _) m3 (fun t cs W hW hty => HO t cs W (by rw [hb]; exact hg5.trans (hW.mono (by rw [hz5]; omega))) hty) t.nodes t (Nat.le_refl _) ht _ [a0, a1, a2, a3] (Below.refl _ _) (hx.later (hg5.mono (by omega))))
  have HG5 := Lib.hid hg5
  have HRS := Lib.hid (n2.far (p := ⟨b + 3, 0, none⟩) (by show b + 2 ≠ b + 3; omega) (Value.func (.func 59) #[] #[.pointer (some ⟨b + 1, 0, none⟩), .pointer (some ⟨b + 3, 0, none⟩)]))
  have hx5 := n0.far (p := ⟨b + 3, 0, none⟩) (by show b ≠ b + 3; omega) (Value.func (.func 59) #[] #[.pointer (some ⟨b + 1, 0, none⟩), .pointer (some ⟨b + 3, 0, none⟩)])
  have x0 := n0.cell 0
  have x1 := n0.cell 1
  have x2 := n0.cell 2
  have x3 := n0.cell 3
  simp only [zTy, List.getElem?_toArray, List.getElem?_cons_succ, List.getElem?_cons_zero] at x0 x1 x2 x3
  have z0 := hx5.cell 0
  have z1 := hx5.cell 1
  have z2 := hx5.cell 2
  have z3 := hx5.cell 3
  simp only [zTy, List.getElem?_toArray, List.getElem?_cons_succ, List.getElem?_cons_zero] at z0 z1 z2 z3
  have y3 := n3.cell 0
  have f3 := n3.frozen 0
  have v3 := m3.cell 0
  simp only [List.getElem?_toArray, List.getElem?_cons_succ, List.getElem?_cons_zero] at y3 v3
  have HW4 := Lib.hid hW4
  have HZ5 := Lib.hid hz5
  clear oo h4 hx hW4 hg n0 n1 n2 n3 hg5 m3 hx5 HO hfv hsz hz5
  go_enter Try.func44, Try.ntmps44
  go_upto_region 2 with fail
  try simp only [Nat.add_assoc, Nat.reduceAdd]
  unfold zTy at HW4
  rw [HW4.out]
  go_wp2_with (go_at_call 59; (with_reducible refine C.out.mono ?_); rintro e w5 ⟨xs, rfl, hty, hb5⟩; (have hR := HRS.out.below hb5 HRS.out.lt); (have r0 := hR.cell 0); (have r1 := hR.cell 1); (have r2 := hR.cell 2); (have r3 := hR.cell 3); (simp only [zTy, List.getElem?_toArray, List.getElem?_cons_succ, List.getElem?_cons_zero] at r0 r1 r2 r3); (have fr0 := hR.frozen 0); (have fr1 := hR.frozen 1); (have fr2 := hR.frozen 2); (have fr3 := hR.frozen 3); (have oo := ty_ones hty); (obtain ⟨m0, m1, m2, m3, rfl⟩ := four_of (TyAt.four hty)); (have sm0 := store_one' m0 (oo m0 (by simp))); (have sm1 := store_one' m1 (oo m1 (by simp))); (have sm2 := store_one' m2 (oo m2 (by simp))); (have sm3 := store_one' m3 (oo m3 (by simp))))
  have hz5 := HZ5.out
  exact ty_end (H2 := b + 4) rfl rfl hR (by omega) (by omega) (by omega) (by rw [hb]; exact HG5.out.trans (hb5.mono (by rw [hz5]; omega))) (hty.weaken fun k _ hk => by rw [hz5]; exact hk)

end Go.Proofs.Ytgmcjnhaedfinaa
