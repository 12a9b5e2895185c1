/- Walks: the program's names of a pattern. -/
import Derived.Test.YtglamoiimmahgaaPnames
import Derived.Test.YtglamoiimmahgaaPartw
namespace Go.Proofs.Ytglamoiimmahgaa
open Go.RowKit
set_option linter.unusedVariables false
set_option maxRecDepth 100000

/-- A new row of names. -/
def NmOwn (l : List ByteArray) (w : World) (e : Ending) (w' : World) : Prop := ∃ v, e = .returned v ∧ w'.ownsRow w.heap.size 9 1 v l.length (nmVals l) ∧ Below w.heap.size w w'

set_option maxHeartbeats 3200000 in
theorem pnames_any (p : Pt) (B : Nat) (w : World) (cs : List Value) (hN : p.nodes ≤ 4000000) (hB : B ≤ w.heap.size) (hx : PtAt w B cs p) :
    Calls Try.prog 24 #[.agg cs.toArray] w (NmOwn (ptNames p) w) := by
  obtain ⟨c0, c1, c2, c3, c4, rfl⟩ := five_of hx.five
  obtain ⟨k2, n2, q2, nm2, A2, c2, ks2, rfl, rfl, rfl, rfl, rfl, rfl⟩ := pt_shape hx
  obtain ⟨l2, hl2⟩ : ∃ l2, ks2.length = l2 := ⟨_, rfl⟩
  rw [hl2] at hx ⊢
  obtain ⟨W3, hW3⟩ : ∃ W3, ((w.alloc (.cells #[.int .i64 k2, .string nm2, .int .i64 n2, .slice A2 l2 c2, .int .i64 q2] 39)).alloc (.cells #[.slice none 0 0] 50)).alloc (.cells #[.func (.func 52) #[] #[.pointer (some ⟨w.heap.size + 1, 0, none⟩), .pointer (some ⟨w.heap.size + 1 + 1, 0, none⟩)]] 86) = W3 := ⟨_, rfl⟩
  have hbel : Below w.heap.size w W3 := by rw [← hW3]; exact (((Below.refl _ _).alloc (Nat.le_refl _) _).alloc (by simp) _).alloc (by simp; omega) _
  have hz3 : W3.heap.size = w.heap.size + 3 := by rw [← hW3]; simp
  have hst : NmSt W3 (w.heap.size + 1) (w.heap.size + 1 + 1) (w.heap.size + 3) [] := by
    refine ⟨?_, .slice none 0 0, ?_, World.ownsRow_nil _ _ _ _⟩
    · rw [← hW3]
      have := Blk.new ((w.alloc (.cells #[.int .i64 k2, .string nm2, .int .i64 n2, .slice A2 l2 c2, .int .i64 q2] 39)).alloc (.cells #[.slice none 0 0] 50)) 86 #[.func (.func 52) #[] #[.pointer (some ⟨w.heap.size + 1, 0, none⟩), .pointer (some ⟨w.heap.size + 1 + 1, 0, none⟩)]]
      simpa using this
    · rw [← hW3]
      have := (Blk.new (w.alloc (.cells #[.int .i64 k2, .string nm2, .int .i64 n2, .slice A2 l2 c2, .int .i64 q2] 39)) 50 #[.slice none 0 0]).alloc (.cells #[.func (.func 52) #[] #[.pointer (some ⟨w.heap.size + 1, 0, none⟩), .pointer (some ⟨w.heap.size + 1 + 1, 0, none⟩)]] 86)
      simpa using this
  have C := Lib.hid (pvis_any _ (.mk k2 nm2 n2 ks2 q2) (Nat.le_refl _) [] B (w.heap.size + 1) (w.heap.size + 1 + 1) (w.heap.size + 3) W3 [.int .i64 k2, .string nm2, .int .i64 n2, .slice A2 l2 c2, .int .i64 q2] (by simpa using hN) (by omega) (by omega) (by omega) (by omega) (by omega) (hx.later (hbel.mono hB)) hst)
  have HW := Lib.hid hW3
  have HB := Lib.hid hbel
  have HZ := Lib.hid hz3
  obtain ⟨res, hres⟩ : ∃ res, ptNames (.mk k2 nm2 n2 ks2 q2) = res := ⟨_, rfl⟩
  rw [hres] at C ⊢
  have hmf : ∀ (w0 : World) (f : Fn) (a b : Array Value), (Instr.makeFunc f a b).run Try.prog w0 = .ok (.func f a b) w0 := fun _ _ _ _ => rfl
  clear hx hl2 hst hbel hW3 hz3 hres hN
  go_enter Try.func24, Try.ntmps24
  go_wp2_with fail
  rw [HW.out]
  refine C.out.mono ?_
  rintro e w2 ⟨⟨v, rfl⟩, ⟨_, v2, hb2, hown2⟩, hsep⟩
  obtain ⟨A3, c3, rfl, _⟩ := own_shape hown2
  have hcell := hb2.cell 0
  simp only [List.getElem?_toArray, List.getElem?_cons_zero] at hcell
  have HF := Lib.hid (show NmOwn res w (.returned (.slice A3 res.length c3)) w2 from
    ⟨_, rfl, ownsRow_base (by simpa using hown2) (by omega), HB.out.trans ((hsep.below (by have := HZ.out; omega)).mono (by omega))⟩)
  clear hown2 hsep hb2
  go_wp2_with fail
  go_ret
  exact HF.out

end Go.Proofs.Ytglamoiimmahgaa
