/- Memory: a map whose elements are any values, read as a function on keys. -/
import Derived.Test.YtgmcjnhaedfinaaQmk
import Derived.Maps.OwnSet
import Derived.Maps.Views
namespace Go.Proofs.Ytgmcjnhaedfinaa
open Go.RowKit Go.Maps
set_option linter.unusedVariables false
set_option linter.unusedSimpArgs false
set_option maxRecDepth 100000

def tokR (v : Value) : Option (DataW Value × List MemPlace) := some (.held v, [])
/-- Block mb is a map, at most n entries, that has f. -/
def MapV (W : World) (kt : TypeId) (mb n : Nat) (f : Lit → Option Value) : Prop :=
  ∃ D : DataW Value, W.ownsMap Try.prog kt tokR mb n D ∧ IsMap D ∧ ∀ s, has D s = (f s).isSome ∧ ∀ z, D.atKey s (.held z) = .held ((f s).getD z)
section
variable {W W' : World} {kt : TypeId} {mb n : Nat} {f : Lit → Option Value}
theorem MapV.blk (h : MapV W kt mb n f) (hb : W'.heap[mb]? = W.heap[mb]?) : MapV W' kt mb n f := by
  obtain ⟨D, ⟨es, clock, h1, h2⟩, h3⟩ := h
  exact ⟨D, ⟨es, clock, hb.trans h1, h2⟩, h3⟩
theorem MapV.lt (h : MapV W kt mb n f) : mb < W.heap.size := by
  obtain ⟨D, h1, _⟩ := h
  exact h1.lt
theorem MapV.below (h : MapV W kt mb n f) (hb : Below W.heap.size W W') : MapV W' kt mb n f := h.blk (hb.block mb h.lt)
theorem MapV.mono {n' : Nat} (h : MapV W kt mb n f) (hn : n ≤ n') : MapV W kt mb n' f := by
  obtain ⟨D, h1, h2⟩ := h
  exact ⟨D, h1.mono hn, h2⟩
theorem MapV.made (w : World) (kt : TypeId) : MapV (w.alloc (.map #[] 0)) kt w.heap.size 0 (fun _ => none) :=
  ⟨.map [], World.ownsMap_made _ _ _ _, ⟨[], rfl⟩, fun s => ⟨rfl, fun z => rfl⟩⟩
theorem MapV.look (h : MapV W kt mb n f) {t e : TypeId} (K : Keyed Try.prog kt) (ht : Try.prog.underlying t = some (.map kt e)) {z : Value} (hz : (zeroValue e).run Try.prog W = .ok z W) {key : Value} {kl : Lit} (hkey : keyOf Try.prog kt key = some kl) :
    (Instr.lookup t (.map (some mb)) key true).run Try.prog W = .ok (.tuple #[(f kl).getD z, .bool (f kl).isSome]) W := by
  obtain ⟨D, h1, _, h3⟩ := h
  obtain ⟨v, ps, hrun, hv⟩ := h1.look_ok K ht hz (zd := .held z) (zp := []) rfl hkey
  rw [(h3 kl).2 z] at hv
  rw [hrun, (h3 kl).1]
  unfold tokR at hv
  injection hv with hv
  injection hv with hv _
  injection hv with hv
  rw [hv]
theorem MapV.get (h : MapV W kt mb n f) {t e : TypeId} (K : Keyed Try.prog kt) (ht : Try.prog.underlying t = some (.map kt e)) {z : Value} (hz : (zeroValue e).run Try.prog W = .ok z W) {key : Value} {kl : Lit} (hkey : keyOf Try.prog kt key = some kl) :
    (Instr.lookup t (.map (some mb)) key false).run Try.prog W = .ok ((f kl).getD z) W := by
  obtain ⟨D, h1, _, h3⟩ := h
  obtain ⟨v, ps, hrun, hv⟩ := h1.lookup K ht hz (zd := .held z) (zp := []) rfl hkey
  rw [(h3 kl).2 z] at hv
  rw [hrun]
  unfold tokR at hv
  injection hv with hv
  injection hv with hv _
  injection hv with hv
  rw [hv]
/-- One entry written. -/
def updV (f : Lit → Option Value) (k : Lit) (v : Value) : Lit → Option Value := fun s => if s.sameKey k = true then some v else f s
theorem MapV.put (h : MapV W kt mb n f) (hn : n < maxLen) {t e : TypeId} (K : Keyed Try.prog kt) (ht : Try.prog.underlying t = some (.map kt e)) {key val : Value} {kl : Lit} (hkey : keyOf Try.prog kt key = some kl) (hk : WideAt.IsKeyLit kl) :
    ∃ w', (Instr.mapUpdate t (.map (some mb)) key val).run Try.prog W = .ok () w' ∧ MapV w' kt mb (n + 1) (updV f kl val) ∧ W.grownBy w' (some mb) := by
  obtain ⟨D, h1, h2, h3⟩ := h
  obtain ⟨w', hrun, ho, hg⟩ := h1.update K ht hn (val := val) (d := .held val) (ps := []) hkey rfl
  refine ⟨w', hrun, ⟨_, ho, ?_, fun s => ?_⟩, hg⟩
  · obtain ⟨es, rfl⟩ := h2
    exact ⟨_, rfl⟩
  · unfold updV
    have hself : kl.sameKey kl = true := by cases kl <;> simp_all [Lit.sameKey, WideAt.IsKeyLit]
    by_cases hs : s = kl
    · subst hs
      rw [if_pos hself]
      exact ⟨has_put_same h2 hk _, fun z => atKey_put_same h2 hk _ _⟩
    · rw [if_neg (by rw [sameKey_ne hs]; simp)]
      exact ⟨by rw [has_put_other hs]; exact (h3 s).1, fun z => by rw [atKey_put_other hs]; exact (h3 s).2 z⟩
theorem wpList_mapPut {ops : Array Oper} {rest : List Oper} {o : Oper} {a : Act} {Q : Exit → Act → World → Prop} (hg : o.guard = none) (m x v : Operand) (t : TypeId) (hop : o.op = Op.mapUpdate t m x v)
    (h : MapV W kt mb n f) (hn : n < maxLen) {e : TypeId} (K : Keyed Try.prog kt) (ht : Try.prog.underlying t = some (.map kt e)) (hm : a.eval m = .map (some mb)) (key val : Value) (kl : Lit) (hx : a.eval x = key) (hv : a.eval v = val) (hkey : keyOf Try.prog kt key = some kl) (hk : WideAt.IsKeyLit kl)
    (hK : ∀ w', MapV w' kt mb (n + 1) (updV f kl val) → W.grownBy w' (some mb) → wpList Try.prog ops Q rest (a.put o.dst undef) w') : wpList Try.prog ops Q (o :: rest) a W := by
  refine wpList_plain hg fun K' hK' => ?_
  obtain ⟨w', hrun, r1, r2⟩ := h.put hn K ht (val := val) hkey hk
  unfold Oper.wp
  simp [execOp, hop, hm, hx, hv, hrun, Result.andThen]
  exact hK' _ _ (hK w' r1 r2)
end
theorem key_str {s : ByteArray} (hs : s.size ≤ maxLen) : keyOf Try.prog 9 (.string s) = some (.string s.data.toList) := Go.WideMaps.keyOf_string_mk Try.underlying9 hs
theorem key_int {n : Int} (hn : ok64 n) : keyOf Try.prog 3 (.int .i64 n) = some (.int .i64 n) := Go.Maps.keyOf_int_mk Try.underlying3 hn
theorem keyed_str : Keyed Try.prog 9 := string_keyed Try.underlying9
theorem keyed_int : Keyed Try.prog 3 := int_keyed Try.underlying3
theorem lit_str (s : List UInt8) : WideAt.IsKeyLit (.string s) := by simp [WideAt.IsKeyLit]
theorem lit_int (n : Int) : WideAt.IsKeyLit (.int .i64 n) := by simp [WideAt.IsKeyLit]

end Go.Proofs.Ytgmcjnhaedfinaa
