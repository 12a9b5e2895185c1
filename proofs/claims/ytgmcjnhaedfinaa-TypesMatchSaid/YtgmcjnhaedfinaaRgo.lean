/- A law of our own for 'for .. := range f { .. }' over an iterator that changes nothing itself, where no round leaves the loop. -/
import Derived.Test.YtgmcjnhaedfinaaRng
namespace Go.Proofs.Ytgmcjnhaedfinaa
open Go.RowKit
set_option linter.unusedVariables false

/-- What an iterator owes that changes nothing itself: N rounds, in order, wherever what it reads lies. -/
def Iter0 (P : Program) (g : Nat) (lb : Array Value) (N : Nat) (Rd : Nat → Array Value → Prop) (Ok : World → Prop) : Prop :=
  ∀ (l : Nat) (J : Nat → World → Prop) (W : World), (∀ k A, J k A → Ok A) →
    (∀ k W1 args, k < N → J k W1 → Rd k args → Yld P l args W1 fun e W' => e = .returned (.bool true) ∧ J (k + 1) W') →
    J 0 W → Calls P g (#[.func (.yield l) #[] #[]] ++ lb) W fun e W' => (∃ v, e = .returned v) ∧ J N W'

/-- How a round's body ends: what the law holds is as it was. -/
def Rnd0 (J : Nat → World → Prop) (k l D : Nat) (W : World) : Exit → Act → World → Prop
  | .normal, _, W' => J k W' ∧ ∀ i, i = l ∨ i = D → W'.heap[i]? = W.heap[i]?
  | _, _, _ => False

theorem range0 {P : Program} {g : Operand} {ps : Array Tmp} {assign body : Code} {Q : Exit → Act → World → Prop} {a : Act} {w : World} {gf : Nat} {lb : Array Value}
    {N : Nat} {Rd : Nat → Array Value → Prop} {Ok : World → Prop} (J : Nat → World → Prop)
    (hg : a.eval g = .func (.func gf) #[] lb) (eg : ∀ args w, (callFunc gf args).run P w = .ok (.enter gf args) w)
    (hit : Iter0 P gf lb N Rd Ok) (hps : ∀ k args, k < N → Rd k args → args.size = ps.size) (hOk : ∀ k A, J k A → Ok A)
    (hJ : ∀ k A o, J k A → w.heap.size + 1 < A.heap.size → J k (A.putObj (w.heap.size + 1) o))
    (h0 : ∀ W1, Below w.heap.size w W1 → W1.heap.size = w.heap.size + 2 → J 0 W1)
    (hround : ∀ k args W, k < N → J k W → Rd k args → w.heap.size + 1 < W.heap.size →
      assign.wpIn (Fence.wide.inRound (w.heap.size + 1)) 9 P (Exit.then (fun a₁ W1 => Below W.heap.size W W1 ∧ ∀ W2, Chg (· = w.heap.size + 1) W1 W2 →
          body.wpIn (Fence.wide.inRound (w.heap.size + 1)) 9 P (Rnd0 J (k + 1) (w.heap.size + 1) w.heap.size W2) a₁ W2) (fun _ _ _ => False))
        { tmps := (ps.zip args).foldl (fun t (p, v) => t.setIfInBounds p v) a.tmps, defers := [] } W)
    (hdone : ∀ D W, D = w.heap.size → J N W → W.heap[D]? = some (.deferred (some [])) → Q .normal { a with defers := { target := .collected D, args := #[] } :: a.defers } W) :
    (Code.rangeFunc g ps assign body).wp P Q a w := by
  refine (wpIn_wide (n := 10)).1 (wpIn_rangeFunc ?_)
  intro fn _
  obtain ⟨rec, hrec⟩ : ∃ rec : LoopState → Option Code → Loop, rec = fun st pe => { state := st, pending := pe, fn, tmps := a.tmps, params := ps, assign, body, defers := w.heap.size } := ⟨_, rfl⟩
  obtain ⟨W1, hW1⟩ : ∃ W1, (w.alloc (.deferred (some []))).alloc (.loop (rec .ready none)) = W1 := ⟨_, rfl⟩
  have hL1 : W1.heap[w.heap.size + 1]? = some (.loop (rec .ready none)) := by
    rw [← hW1]; have := World.alloc_heap_new (w.alloc (.deferred (some []))) (.loop (rec .ready none)); rwa [World.size_alloc] at this
  have hK1 : W1.heap[w.heap.size]? = some (.deferred (some [])) := by
    rw [← hW1]; exact (Below.heap_alloc _ _ _ (by simp)).trans (World.alloc_heap_new w _)
  have hb1 : Below w.heap.size w W1 := by
    rw [← hW1]; exact ((Below.refl _ w).alloc (Nat.le_refl _) _).alloc (by simp) _
  have hs1 : W1.heap.size = w.heap.size + 2 := by rw [← hW1]; simp
  obtain ⟨l, hl⟩ : ∃ l, l = w.heap.size + 1 := ⟨_, rfl⟩
  refine ⟨w.heap.size + 1, [{ target := .collected w.heap.size, args := #[] }], W1, { target := .fn (.func gf) lb, args := #[.func (.yield (w.heap.size + 1)) #[] #[]] }, W1, gf,
    #[.func (.yield (w.heap.size + 1)) #[] #[]] ++ lb, W1, ?_, ?_, ?_, ?_, fun _ => by omega, ?_⟩
  · rw [← hW1, hrec]; exact run_enterLoop_outer _ _ _ _ _
  · simp only [resolve, hg]
    simp [go_sem]
  · intro f' hf'; trivial
  · simp [invoke, go_sem, eg]
  · rw [← hl] at hround hJ
    rw [← hl]
    rw [← hl] at hL1
    refine callsIn_wide.2 ((hit l (fun k W => J k W ∧ W.heap[w.heap.size]? = some (.deferred (some [])) ∧ W.heap[l]? = some (.loop (rec .ready none))) W1 (fun k A h => hOk k A h.1) ?_ ⟨h0 W1 hb1 hs1, hK1, hL1⟩).mono ?_)
    · rintro k W args hk ⟨hj, hD, hl2⟩ hrd
      have hlt : l < W.heap.size := (Array.getElem?_eq_some_iff.1 hl2).1
      have hDt : w.heap.size < W.heap.size := by omega
      have hy := run_yield (P := P) (args := args) hl2 (by rw [hrec]; exact hps k args hk hrd)
      rw [hrec] at hy
      refine ⟨fn, _, assign, body, hy, fun m => round_any (m := 9) (roundIn_of_wpIn trivial (wpIn_mono (hround k args W hk hj hrd hlt) ?_))⟩
      rintro e a1 Wa hp
      cases e with
      | normal =>
        obtain ⟨hbel, hbody⟩ := hp
        have hla : Wa.heap[l]? = some (.loop (rec .ready none)) := (hbel.block l hlt).trans hl2
        have hlta : l < Wa.heap.size := (Array.getElem?_eq_some_iff.1 hla).1
        refine ⟨_, run_beginRound hla (by rw [hrec]), ?_⟩
        have hl3 : (Wa.putObj l (.loop { rec .ready none with state := .busy })).heap[l]? = some (.loop { rec .ready none with state := .busy }) := World.putObj_heap_same hlta
        have hD3 : (Wa.putObj l (.loop { rec .ready none with state := .busy })).heap[w.heap.size]? = some (.deferred (some [])) := (World.putObj_heap_other (by omega)).trans ((hbel.block _ hDt).trans hD)
        refine wpIn_mono (hbody _ (putObj_chg Wa l _)) ?_
        rintro e a3 W3 hq
        cases e with
        | normal =>
          obtain ⟨hj3, hkeep⟩ := hq
          have hl4 := (hkeep l (.inl rfl)).trans hl3
          have hD4 := (hkeep _ (.inr rfl)).trans hD3
          have hr := run_endRound (P := P) none hl4
          have hlt4 : l < W3.heap.size := (Array.getElem?_eq_some_iff.1 hl4).1
          refine ⟨_, _, hr, rfl, hJ _ _ _ hj3 hlt4, (World.putObj_heap_other (by omega)).trans hD4, ?_⟩
          rw [World.putObj_heap_same hlt4, hrec]
          rfl
        | ret => exact hq.elim
        | exit id => exact hq.elim
        | goto t => exact hq.elim
        | panic ch => exact hq.elim
        | outgrown => exact hq.elim
      | ret => exact hp.elim
      | exit id => exact hp.elim
      | goto t => exact hp.elim
      | panic ch => exact hp.elim
      | outgrown => exact hp.elim
    · rintro e W2 ⟨⟨v, rfl⟩, hj, hD, hl2⟩
      have hend := run_endLoop (P := P) hl2 (by rw [hrec]; simp)
      have hpend : (rec .ready none).pending = none := by rw [hrec]
      rw [hpend] at hend
      refine ⟨none, _, hend, ?_⟩
      exact hdone _ _ rfl (hJ _ _ _ hj (Array.getElem?_eq_some_iff.1 hl2).1) ((World.putObj_heap_other (by omega)).trans hD)

end Go.Proofs.Ytgmcjnhaedfinaa
