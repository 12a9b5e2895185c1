/- A law of our own for 'for .. := range f { .. }' where no round leaves the loop: what a round may change is a set of blocks; what it is handed may lie in memory. -/
import Derived.RangeFuncNested
import Derived.RangeFuncLeaves
import Derived.RangeFuncRecord
import Derived.Test.YtgmcjnhaedfinaaTrees
namespace Go.Proofs.Ytgmcjnhaedfinaa
open Go.RowKit
set_option linter.unusedVariables false

/-- Whatever lay outside X lies as it lay. -/
structure Chg (X : Nat → Prop) (W W' : World) : Prop where
  os : W'.os = W.os
  tape : W'.tape = W.tape
  output : W'.output = W.output
  size : W.heap.size ≤ W'.heap.size
  block : ∀ k, k < W.heap.size → ¬ X k → W'.heap[k]? = W.heap[k]?
/-- What lay in X lies as it lay. -/
structure Kep (X : Nat → Prop) (W W' : World) : Prop where
  os : W'.os = W.os
  tape : W'.tape = W.tape
  output : W'.output = W.output
  size : W.heap.size ≤ W'.heap.size
  block : ∀ k, X k → W'.heap[k]? = W.heap[k]?

section
variable {X Y : Nat → Prop} {A B C : World}
theorem Chg.refl (X : Nat → Prop) (W : World) : Chg X W W := ⟨rfl, rfl, rfl, Nat.le_refl _, fun _ _ _ => rfl⟩
theorem Chg.trans (h : Chg X A B) (k : Chg X B C) : Chg X A C :=
  ⟨k.os.trans h.os, k.tape.trans h.tape, k.output.trans h.output, Nat.le_trans h.size k.size, fun i hi hx => (k.block i (Nat.lt_of_lt_of_le hi h.size) hx).trans (h.block i hi hx)⟩
theorem Chg.mono (h : Chg X A B) (hxy : ∀ k, k < A.heap.size → X k → Y k) : Chg Y A B := ⟨h.os, h.tape, h.output, h.size, fun k hk hy => h.block k hk fun hx => hy (hxy k hk hx)⟩
theorem Chg.of_below {n : Nat} (h : Below n A B) (hX : ∀ k, k < A.heap.size → n ≤ k → X k) : Chg X A B := ⟨h.os, h.tape, h.output, h.size, fun k hk hx => h.block k (by
  rcases Nat.lt_or_ge k n with h1 | h1
  · exact h1
  · exact absurd (hX k hk h1) hx)⟩
theorem Chg.of_old (h : Below A.heap.size A B) : Chg X A B := Chg.of_below h fun k h1 h2 => by omega
theorem Chg.below {n : Nat} (h : Chg X A B) (hn : n ≤ A.heap.size) (hX : ∀ k, X k → n ≤ k) : Below n A B :=
  ⟨h.os, h.tape, h.output, h.size, fun k hk => h.block k (by omega) fun hx => by have := hX k hx; omega⟩
theorem Chg.cell (h : Chg X A B) {p : Addr} (hp : p.block < A.heap.size) (hx : ¬ X p.block) : B.cell? p = A.cell? p := World.cell?_of_block (w := A) (h.block _ hp hx)
theorem Chg.frozen (h : Chg X A B) {p : Addr} (hp : p.block < A.heap.size) (hx : ¬ X p.block) : B.frozen? p = A.frozen? p := World.frozen?_of_block (w := A) (h.block _ hp hx)
theorem Kep.refl (X : Nat → Prop) (W : World) : Kep X W W := ⟨rfl, rfl, rfl, Nat.le_refl _, fun _ _ => rfl⟩
theorem Kep.trans (h : Kep X A B) (k : Kep X B C) : Kep X A C :=
  ⟨k.os.trans h.os, k.tape.trans h.tape, k.output.trans h.output, Nat.le_trans h.size k.size, fun i hi => (k.block i hi).trans (h.block i hi)⟩
theorem Kep.mono (h : Kep X A B) (hxy : ∀ k, Y k → X k) : Kep Y A B := ⟨h.os, h.tape, h.output, h.size, fun k hk => h.block k (hxy k hk)⟩
theorem Kep.of_below {n : Nat} (h : Below n A B) (hX : ∀ k, X k → k < n) : Kep X A B := ⟨h.os, h.tape, h.output, h.size, fun k hk => h.block k (hX k hk)⟩
theorem Kep.of_chg (h : Chg Y A B) (hX : ∀ k, X k → k < A.heap.size ∧ ¬ Y k) : Kep X A B := ⟨h.os, h.tape, h.output, h.size, fun k hk => h.block k (hX k hk).1 (hX k hk).2⟩
theorem Kep.cell (h : Kep X A B) {p : Addr} (hx : X p.block) : B.cell? p = A.cell? p := World.cell?_of_block (w := A) (h.block _ hx)
theorem Kep.frozen (h : Kep X A B) {p : Addr} (hx : X p.block) : B.frozen? p = A.frozen? p := World.frozen?_of_block (w := A) (h.block _ hx)
end

/-- A call of yield goes through a round, from however deep. -/
def Yld (P : Program) (l : Nat) (args : Array Value) (W : World) (R : Ending → World → Prop) : Prop :=
  ∃ fn tmps assign body, (Instr.yield l args).run P W = .ok (.round l fn tmps assign body) W ∧ ∀ m, RoundIn Fence.wide m P l fn tmps assign body W R
theorem room_wide_any (k : Nat) : Fence.wide.room k := fun d h => by cases h
theorem round_any {m m' : Nat} {P : Program} {l : Nat} {f : FuncId} {tmps : Array Value} {assign body : Code} {w : World} {R : Ending → World → Prop}
    (h : RoundIn Fence.wide m P l f tmps assign body w R) : RoundIn Fence.wide m' P l f tmps assign body w R := ⟨h.1, fun c cs _ => h.2 c cs (room_wide_any _)⟩
theorem round_in {m : Nat} {P : Program} {l l' : Nat} {f : FuncId} {tmps : Array Value} {assign body : Code} {w : World} {R : Ending → World → Prop}
    (h : RoundIn Fence.wide m P l f tmps assign body w R) : RoundIn (Fence.wide.inRound l') m P l f tmps assign body w R := h
theorem call_in {m : Nat} {P : Program} {l : Nat} {f : FuncId} {args : Array Value} {w : World} {R : Ending → World → Prop} (h : Calls P f args w R) : CallsIn (Fence.wide.inRound l) m P f args w R :=
  (callsIn_wide (n := m)).2 h

/-- A set of blocks that the world tells: what keeps it adds nothing to it. -/
def Stab (X : World → Nat → Prop) : Prop := ∀ A B, Kep (X A) A B → ∀ b, X B b → X A b
/-- Of what lay, only what the set told at the start may have turned; and no block that lay has come to the set. -/
structure ChD (X : World → Nat → Prop) (A B : World) : Prop where
  chg : Chg (X A) A B
  sub : ∀ k, k < A.heap.size → X B k → X A k
section
variable {X Y : World → Nat → Prop} {A B C : World}
theorem ChD.refl (X : World → Nat → Prop) (W : World) : ChD X W W := ⟨Chg.refl _ _, fun _ _ h => h⟩
theorem ChD.size (h : ChD X A B) : A.heap.size ≤ B.heap.size := h.chg.size
theorem ChD.trans (h : ChD X A B) (k : ChD X B C) : ChD X A C :=
  ⟨⟨k.chg.os.trans h.chg.os, k.chg.tape.trans h.chg.tape, k.chg.output.trans h.chg.output, Nat.le_trans h.size k.size, fun i hi hx =>
    (k.chg.block i (Nat.lt_of_lt_of_le hi h.size) (fun hb => hx (h.sub i hi hb))).trans (h.chg.block i hi hx)⟩,
   fun i hi hc => h.sub i hi (k.sub i (Nat.lt_of_lt_of_le hi h.size) hc)⟩
theorem ChD.own (hS : Stab X) (hb : ∀ b, X A b → b < A.heap.size) (h : Below A.heap.size A B) : ChD X A B :=
  ⟨Chg.of_old h, fun k _ hk => hS A B (Kep.of_below h hb) k hk⟩
/-- A step on blocks that the set does not hold. -/
theorem ChD.apart {Z : Nat → Prop} (hS : Stab X) (hb : ∀ b, X A b → b < A.heap.size ∧ ¬ Z b) (h : Chg Z A B) : Kep (X A) A B ∧ ∀ b, X B b → X A b :=
  have hk : Kep (X A) A B := Kep.of_chg h hb
  ⟨hk, hS A B hk⟩
theorem ChD.below {n : Nat} (h : ChD X A B) (hn : n ≤ A.heap.size) (hX : ∀ b, X A b → n ≤ b) : Below n A B := h.chg.below hn hX
/-- What does not lie in the set, when it lay, still does not. -/
theorem ChD.out (h : ChD X A B) {k : Nat} (hk : k < A.heap.size) (hx : ¬ X A k) : ¬ X B k := fun hb => hx (h.sub k hk hb)
end

/-- What an iterator owes: N rounds, in order; each round may change what the set X holds, and the iterator changes nothing that lay but by its rounds. -/
def Iter (P : Program) (g : Nat) (lb : Array Value) (K : Nat → Prop) (N : Nat) (Rd : (Nat → Prop) → Nat → Array Value → World → Prop) (W : World) : Prop :=
  ∀ (l : Nat) (X : World → Nat → Prop) (J : Nat → World → Prop), Stab X → (∀ k A, J k A → ∀ b, X A b → b < A.heap.size ∧ ¬ K b) → (∀ k A B, J k A → Kep (X A) A B → J k B) →
    (∀ k W1 args, k < N → J k W1 → ChD X W W1 → Rd (X W1) k args W1 → Yld P l args W1 fun e W' => e = .returned (.bool true) ∧ ChD X W1 W' ∧ J (k + 1) W') →
    J 0 W → Calls P g (#[.func (.yield l) #[] #[]] ++ lb) W fun e W' => (∃ v, e = .returned v) ∧ ChD X W W' ∧ J N W'

/-- How a round's body ends. -/
def RndPost (X : World → Nat → Prop) (J : Nat → World → Prop) (k : Nat) (W : World) : Exit → Act → World → Prop
  | .normal, _, W' => ChD X W W' ∧ J k W'
  | _, _, _ => False

theorem putObj_chg (W : World) (l : Nat) (o : Obj) : Chg (· = l) W (W.putObj l o) :=
  ⟨rfl, rfl, rfl, by simp, fun k _ hk => World.putObj_heap_other hk⟩
theorem putObj_kep (W : World) (l : Nat) (o : Obj) {X : Nat → Prop} (hX : ¬ X l) : Kep X W (W.putObj l o) :=
  ⟨rfl, rfl, rfl, by simp, fun k hk => World.putObj_heap_other (by rintro rfl; exact hX hk)⟩

/-- What a round's body is told. -/
structure RndIn (X : World → Nat → Prop) (J : Nat → World → Prop) (k l : Nat) (w W W1 W2 : World) : Prop where
  turn : Chg (· = l) W1 W2
  inv : J k W2
  sub : ∀ b, X W2 b → X W b
  all : ChD (fun A b => X A b ∨ b = l) w W2

theorem range_mine {P : Program} {g : Operand} {ps : Array Tmp} {assign body : Code} {Q : Exit → Act → World → Prop} {a : Act} {w : World} {gf : Nat} {lb : Array Value}
    {K : Nat → Prop} {N : Nat} {Rd : (Nat → Prop) → Nat → Array Value → World → Prop} (X : World → Nat → Prop) (J : Nat → World → Prop)
    (hg : a.eval g = .func (.func gf) #[] lb) (eg : ∀ args w, (callFunc gf args).run P w = .ok (.enter gf args) w)
    (hit : ∀ W, Below w.heap.size w W → W.heap.size = w.heap.size + 2 → Iter P gf lb K N Rd W) (hS : Stab X) (hX : ∀ k A, J k A → ∀ b, X A b → b < A.heap.size ∧ ¬ K b) (hK : ∀ k, K k → k < w.heap.size)
    (hps : ∀ Y k args W, k < N → Rd Y k args W → args.size = ps.size) (hJ : ∀ k A B, J k A → Kep (X A) A B → J k B) (h0 : J 0 w)
    (hround : ∀ l k args W, l = w.heap.size + 1 → l < W.heap.size → k < N → J k W → ¬ X W l → ChD (fun A b => X A b ∨ b = l) w W → Rd (fun b => X W b ∨ b = l) k args W →
      assign.wpIn (Fence.wide.inRound l) 9 P (Exit.then (fun a₁ W1 => Below W.heap.size W W1 ∧ ∀ W2, RndIn X J k l w W W1 W2 →
          body.wpIn (Fence.wide.inRound l) 9 P (RndPost X J (k + 1) W2) a₁ W2) (fun _ _ _ => False))
        { tmps := (ps.zip args).foldl (fun t (p, v) => t.setIfInBounds p v) a.tmps, defers := [] } W)
    (hdone : ∀ D W, w.heap.size ≤ D → J N W → ChD X w W → ¬ X W D → W.heap[D]? = some (.deferred (some [])) → Q .normal { a with defers := { target := .collected D, args := #[] } :: a.defers } W) :
    (Code.rangeFunc g ps assign body).wp P Q a w := by
  refine (wpIn_wide (n := 10)).1 (wpIn_rangeFunc ?_)
  intro fn _
  obtain ⟨rec, hrec⟩ : ∃ rec : LoopState → Option Code → Loop, rec = fun st pe => { state := st, pending := pe, fn, tmps := a.tmps, params := ps, assign, body, defers := w.heap.size } := ⟨_, rfl⟩
  obtain ⟨W1, hW1⟩ : ∃ W1, (w.alloc (.deferred (some []))).alloc (.loop (rec .ready none)) = W1 := ⟨_, rfl⟩
  have hL1 : W1.heap[w.heap.size + 1]? = some (.loop (rec .ready none)) := by
    rw [← hW1]; have := World.alloc_heap_new (w.alloc (.deferred (some []))) (.loop (rec .ready none)); rwa [World.size_alloc] at this
  have hK1 : W1.heap[w.heap.size]? = some (.deferred (some [])) := by
    rw [← hW1]; exact (Below.heap_alloc _ _ _ (by simp)).trans (World.alloc_heap_new w _)
  have hb1 : Below w.heap.size w W1 := by
    rw [← hW1]; exact ((Below.refl _ w).alloc (Nat.le_refl _) _).alloc (by simp) _
  have hs1 : W1.heap.size = w.heap.size + 2 := by rw [← hW1]; simp
  obtain ⟨l, hl⟩ : ∃ l, l = w.heap.size + 1 := ⟨_, rfl⟩
  refine ⟨w.heap.size + 1, [{ target := .collected w.heap.size, args := #[] }], W1, { target := .fn (.func gf) lb, args := #[.func (.yield (w.heap.size + 1)) #[] #[]] }, W1, gf,
    #[.func (.yield (w.heap.size + 1)) #[] #[]] ++ lb, W1, ?_, ?_, ?_, ?_, fun _ => by omega, ?_⟩
  · rw [← hW1, hrec]; exact run_enterLoop_outer _ _ _ _ _
  · simp only [resolve, hg]
    simp [go_sem]
  · intro f' hf'; trivial
  · simp [invoke, go_sem, eg]
  · rw [← hl]
    rw [← hl] at hL1
    have hXw : ∀ b, X w b → b < w.heap.size := fun b hb => (hX 0 w h0 b hb).1
    have hk1 : Kep (X w) w W1 := Kep.of_below hb1 hXw
    have hX1 : ∀ b, X W1 b → X w b := hS w W1 hk1
    have hc1 : ChD (fun A b => X A b ∨ b = l) w W1 := ⟨Chg.of_old hb1, fun k hk h => h.elim (fun h => .inl (hX1 k h)) .inr⟩
    have hS1 : Stab (fun A b => X A b ∨ b = l) := fun A B hk b hb => hb.elim (fun h => .inl (hS A B (hk.mono fun _ => .inl) b h)) .inr
    refine callsIn_wide.2 ((hit W1 hb1 hs1 l (fun A b => X A b ∨ b = l) (fun k W => J k W ∧ ¬ X W l ∧ ¬ X W w.heap.size ∧ W.heap[l]? = some (.loop (rec .ready none))) hS1
      (fun k A h b hb => ?_) (fun k A B h hk => ⟨hJ k A B h.1 (hk.mono fun _ => .inl), fun hx => h.2.1 (hS A B (hk.mono fun _ => .inl) l hx), fun hx => h.2.2.1 (hS A B (hk.mono fun _ => .inl) _ hx), (hk.block l (.inr rfl)).trans h.2.2.2⟩) ?_
      ⟨hJ 0 _ _ h0 hk1, fun hx => by have := hXw _ (hX1 _ hx); omega, fun hx => by have := hXw _ (hX1 _ hx); omega, hL1⟩).mono ?_)
    · rcases hb with hb | rfl
      · exact hX k A h.1 b hb
      · exact ⟨(Array.getElem?_eq_some_iff.1 h.2.2.2).1, fun h' => by have := hK _ h'; omega⟩
    · rintro k W args hk ⟨hj, hnl, hnD, hl2⟩ hc hrd
      have hlt : l < W.heap.size := (Array.getElem?_eq_some_iff.1 hl2).1
      have hcw := hc1.trans hc
      have hy := run_yield (P := P) (args := args) hl2 (by rw [hrec]; exact hps _ k args W hk hrd)
      rw [hrec] at hy
      refine ⟨fn, _, assign, body, hy, fun m => round_any (m := 9) (roundIn_of_wpIn trivial (wpIn_mono (hround l k args W hl hlt hk hj hnl hcw hrd) ?_))⟩
      rintro e a1 Wa hp
      cases e with
      | normal =>
        obtain ⟨hbel, hbody⟩ := hp
        have hla : Wa.heap[l]? = some (.loop (rec .ready none)) := (hbel.block l hlt).trans hl2
        have hlta : l < Wa.heap.size := (Array.getElem?_eq_some_iff.1 hla).1
        refine ⟨_, run_beginRound hla (by rw [hrec]), ?_⟩
        have hXW : ∀ b, X W b → b < W.heap.size := fun b hb => (hX k W hj b hb).1
        have hka : Kep (X W) W Wa := Kep.of_below hbel hXW
        have hXa : ∀ b, X Wa b → X W b := hS W Wa hka
        have hja : J k Wa := hJ k W Wa hj hka
        have hp2 := putObj_chg Wa l (.loop { rec .ready none with state := .busy })
        have hkb : Kep (X Wa) Wa (Wa.putObj l (.loop { rec .ready none with state := .busy })) := putObj_kep _ _ _ (fun h => hnl (hXa l h))
        have hXb : ∀ b, X (Wa.putObj l (.loop { rec .ready none with state := .busy })) b → X W b := fun b hb => hXa b (hS _ _ hkb b hb)
        have hl3 : (Wa.putObj l (.loop { rec .ready none with state := .busy })).heap[l]? = some (.loop { rec .ready none with state := .busy }) := World.putObj_heap_same hlta
        have hcb : ChD (fun A b => X A b ∨ b = l) W (Wa.putObj l (.loop { rec .ready none with state := .busy })) :=
          ⟨(Chg.of_old hbel).trans (hp2.mono fun _ _ => .inr), fun i hi h => h.elim (fun h => .inl (hXb i h)) .inr⟩
        refine wpIn_mono (hbody _ ⟨hp2, hJ k Wa _ hja hkb, hXb, hcw.trans hcb⟩) ?_
        rintro e a3 W3 hq
        cases e with
        | normal =>
          obtain ⟨hc3, hj3⟩ := hq
          have hnl3 : ¬ X W3 l := fun h => hnl (hXb l (hc3.sub l (by simpa using hlta) h))
          have hnD3 : ¬ X W3 w.heap.size := fun h => hnD (hXb _ (hc3.sub _ (by simp; omega) h))
          have hl4 := (hc3.chg.block l (by simpa using hlta) (fun h => hnl (hXb l h))).trans hl3
          have hr := run_endRound (P := P) none hl4
          have hlt4 : l < W3.heap.size := (Array.getElem?_eq_some_iff.1 hl4).1
          have hkc : ∀ o, Kep (X W3) W3 (W3.putObj l o) := fun o => putObj_kep _ _ _ hnl3
          refine ⟨_, _, hr, rfl, ?_, hJ _ _ _ hj3 (hkc _), fun h => hnl3 (hS _ _ (hkc _) l h), fun h => hnD3 (hS _ _ (hkc _) _ h), ?_⟩
          · refine hcb.trans ⟨?_, fun i hi h => ?_⟩
            · exact (hc3.chg.mono fun _ _ => .inl).trans ((putObj_chg _ _ _).mono fun _ _ => .inr)
            · exact h.elim (fun h => .inl (hc3.sub i hi (hS _ _ (hkc _) i h))) .inr
          · rw [World.putObj_heap_same hlt4, hrec]
            rfl
        | ret => exact hq.elim
        | exit id => exact hq.elim
        | goto t => exact hq.elim
        | panic ch => exact hq.elim
        | outgrown => exact hq.elim
      | ret => exact hp.elim
      | exit id => exact hp.elim
      | goto t => exact hp.elim
      | panic ch => exact hp.elim
      | outgrown => exact hp.elim
    · rintro e W2 ⟨⟨v, rfl⟩, hc, hj, hnl, hnD, hl2⟩
      have hD : W2.heap[w.heap.size]? = some (.deferred (some [])) := (hc.chg.block _ (by omega) (by
        rintro (h | h)
        · have := hXw _ (hX1 _ h); omega
        · omega)).trans hK1
      have hend := run_endLoop (P := P) hl2 (by rw [hrec]; simp)
      have hpend : (rec .ready none).pending = none := by rw [hrec]
      rw [hpend] at hend
      refine ⟨none, _, hend, ?_⟩
      have hkc : ∀ o, Kep (X W2) W2 (W2.putObj l o) := fun o => putObj_kep _ _ _ hnl
      refine hdone _ _ (Nat.le_refl _) (hJ _ _ _ hj (hkc _)) ?_ (fun h => hnD (hS _ _ (hkc _) _ h)) ((World.putObj_heap_other (by omega)).trans hD)
      have hcw := hc1.trans hc
      refine ⟨⟨hcw.chg.os, hcw.chg.tape, hcw.chg.output, by have := hcw.size; simp; omega, fun k hk hx => ?_⟩, fun k hk h => ?_⟩
      · rw [World.putObj_heap_other (by omega)]
        refine hcw.chg.block k hk ?_
        rintro (h | h)
        · exact hx h
        · omega
      · exact (hcw.sub k hk (.inl (hS _ _ (hkc _) k h))).elim id (fun h => by omega)

end Go.Proofs.Ytgmcjnhaedfinaa
