/- Walks: operators applied: their names; a clash. -/
import Derived.Test.YtiiddmioafhmoaaDoorPlam
namespace Go.Proofs.YtiiddmioafhmoaaDoor
open Go.RowKit
set_option linter.unusedVariables false
set_option linter.unusedSimpArgs false
set_option maxRecDepth 100000

theorem str_info' : (Tryd.prog.info? 9).map (fun i => (i.zero, i.size, i.bytes)) = some (some (.string ⟨#[]⟩), 1, 16) := by kernel_rfl
/-- What applied answers. -/
def AppPost (X : Nat → Bool) (r : Res Ex) (W : World) (e : Ending) (W' : World) : Prop :=
  Below W.heap.size W W' ∧ match r with
  | .ok t _ => ∃ cs : List Value, cs.length = 11 ∧ e = .returned (.agg cs.toArray) ∧ rEx.M X W' cs t
  | .bad c p => e = diagE c p
  | .out => True
theorem lvs_lvT (ops : List Tk) : lvs (ops.map bytesOf) = lvT ops := by
  funext k
  unfold lvs lvT
  rw [List.getD_eq_getElem?_getD, List.getElem?_map]
  cases ops[k]? with
  | none => rfl
  | some t => simp [bytesOf]
theorem take_snoc {α : Type} {l : List α} {k : Nat} (h : k < l.length) : l.take (k + 1) = l.take k ++ [l[k]] := by rw [List.take_succ_eq_append_getElem h]
theorem tk_at {w : World} {B : Nat} {A : Option Addr} {l : List Tk} (h : TkRow w B A l) {k : Nat} (hk : k < l.length) : ∃ g o t, A = some ⟨g, o, none⟩ ∧ g < B ∧ l[k]? = some t ∧ w.cell? ⟨g, o + k * 4, none⟩ = some (.int .i64 t.kind) ∧ w.cell? ⟨g, o + k * 4 + 1, none⟩ = some (.string ⟨t.text.toArray⟩) ∧ w.cell? ⟨g, o + k * 4 + 2, none⟩ = some (.int .i64 t.num) ∧ w.cell? ⟨g, o + k * 4 + 3, none⟩ = some (.int .i64 t.pos) := by
  obtain ⟨g, o, e, hb, hc⟩ := h (by omega)
  exact ⟨g, o, l[k], e, hb, List.getElem?_eq_getElem hk, hc k hk⟩
/-- The names of the first operators. -/
def nmV (l : List Tk) (k : Nat) : List Value := strVals ((l.take k).map bytesOf)
theorem map_take_snoc {l : List Tk} {k : Nat} {t : Tk} (h : l[k]? = some t) : nmV l k ++ [.string ⟨t.text.toArray⟩] = nmV l (k + 1) := by
  unfold nmV
  obtain ⟨hk, ht⟩ := List.getElem?_eq_some_iff.1 h
  rw [take_snoc hk, ht]
  simp [strVals, bytesOf]

set_option maxHeartbeats 6400000 in
theorem app_bad (xs : List Ex) (ops ts : List Tk) (Ax At : Option Addr) (cx ct : Nat) (X : Nat → Bool) (W : World) (hX : OldX X W.heap.size) (hx : RowM rEx 11 X W Ax xs) (ht : TkRow W W.heap.size At ops) (hgo : GoodN ops) (hlen : xs.length = ops.length + 1) (h60 : ops.length ≤ 60010) (kc : Nat) (hck : clashK (lvT ops) ops.length = some kc) :
    Calls Tryd.prog 20 #[.slice Ax xs.length cx, .slice At ops.length ct] W (AppPost X (.bad 112 (posK ops kc)) W) := by
  have HCK := Lib.hid hck
  clear hck
  obtain ⟨i1, hi, hz0, hz1, hz2⟩ := info_parts str_info'
  have HI := Lib.hid hi
  have HZ0 := Lib.hid hz0
  have HZ1 := Lib.hid hz1
  have HZ2 := Lib.hid hz2
  clear hi hz0 hz1 hz2
  obtain ⟨W1, hW1⟩ : ∃ W1, W.alloc (.cells #[.int .i64 0, .string ⟨#[]⟩, .int .i64 0, .int .i64 0, .string ⟨#[]⟩, .int .i64 0, .slice none 0 0, .slice none 0 0, .slice none 0 0, .slice none 0 0, .int .i64 0] 32) = W1 := ⟨_, rfl⟩
  have hnew : Below W.heap.size W W1 := by rw [← hW1]; exact (Below.refl _ _).alloc (Nat.le_refl _) _
  have hres : Blk W1 W.heap.size 32 #[.int .i64 0, .string ⟨#[]⟩, .int .i64 0, .int .i64 0, .string ⟨#[]⟩, .int .i64 0, .slice none 0 0, .slice none 0 0, .slice none 0 0, .slice none 0 0, .int .i64 0] := by rw [← hW1]; exact Blk.new _ _ _
  have hsz : W1.heap.size = W.heap.size + 1 := by rw [← hW1]; simp
  have HW1 := Lib.hid hW1
  have HN := Lib.hid hnew
  have HRS := Lib.hid hres
  have HSZ := Lib.hid hsz
  have HX := Lib.hid hx
  have HT := Lib.hid ht
  have HGO := Lib.hid hgo
  obtain ⟨n, hn⟩ : ∃ n, ops.length = n := ⟨_, rfl⟩
  obtain ⟨m, hm⟩ : ∃ m, xs.length = m := ⟨_, rfl⟩
  rw [hn] at hlen h60 ⊢
  rw [hm] at hlen ⊢
  have HNN := Lib.hid hn
  have HMM := Lib.hid hm
  have HLEN := Lib.hid hlen
  clear hW1 hnew hres hx ht hgo hn hm hlen
  have CX := Lib.hid (show ∀ (A : Option Addr) (c : Nat) (wr : World), Below W1.heap.size W1 wr → ∀ (w6 : World) (e : Ending), OrdSays (lvT ops) n wr e w6 → ∃ t gt ot, At = some ⟨gt, ot, none⟩ ∧ gt < W.heap.size ∧ ops[kc]? = some t ∧ w6.cell? ⟨gt, ot + kc * 4 + 3, none⟩ = some (.int .i64 t.pos) ∧ e = .returned (.tuple #[.slice none 0 0, .int .i64 kc, .int .i64 112]) ∧ Below wr.heap.size wr w6 by
    intro A c wr hbw w6 e hsay
    have hck := HCK.out
    rw [HNN.out] at hck
    rcases hsay with ⟨hno, _⟩ | ⟨k1, hk1, hc1, hn1, rfl, hb6⟩
    · rw [clash_none hno] at hck; cases hck
    · rw [clash_some hk1 hc1 hn1] at hck
      injection hck with hck
      subst hck
      obtain ⟨gt, ot, t, e1, hgt, htk, m0, m1, m2, m3⟩ := tk_at HT.out (by rw [HNN.out]; exact hk1)
      have hsz := HSZ.out
      have hwz := hbw.size
      exact ⟨t, gt, ot, e1, hgt, htk, (hb6.cell (p := ⟨gt, ot + k1 * 4 + 3, none⟩) (by show gt < _; omega)).trans ((hbw.cell (p := ⟨gt, ot + k1 * 4 + 3, none⟩) (by show gt < _; omega)).trans ((HN.out.cell (p := ⟨gt, ot + k1 * 4 + 3, none⟩) hgt).trans m3)), rfl, hb6⟩)
  have hkc : kc < n := by
    have := HCK.out
    rw [HNN.out] at this
    exact List.mem_range.1 (List.mem_of_find?_eq_some this)
  go_enter Tryd.func20, Tryd.ntmps20
  go_upto_region 1 with fail
  rw [HW1.out]
  go_wp2_with fail
  go_loopw [5, 18] (fun v i wr => ∃ (k c : Nat) (A : Option Addr), i = .int .i64 k ∧ k ≤ n ∧ v = .slice A k c ∧ wr.ownsRow (W.heap.size + 1) 9 1 v k (nmV ops k) ∧ Below W1.heap.size W1 wr) (fun _ i _ => n - (intOf i).toNat)
  case atStart => exact ⟨0, 0, none, rfl, Nat.zero_le _, rfl, World.ownsRow_nil _ _ _ _, Below.refl _ _⟩
  case round =>
    obtain ⟨k, c, A, rfl, hk, rfl, hown, hbw⟩ := hrel
    have hwz : W1.heap.size ≤ wr.heap.size := hbw.size
    have hsz := HSZ.out
    have HOWN := Lib.hid hown
    have HBW := Lib.hid hbw
    clear hown hbw
    by_cases hlt : k < n
    · obtain ⟨gt, ot, t, rfl, hgt, htk, m0, m1, m2, m3⟩ := tk_at HT.out (by rw [HNN.out]; exact hlt)
      have hcell : ∀ q u, W.cell? ⟨gt, q, none⟩ = some u → wr.cell? ⟨gt, q, none⟩ = some u := fun q u h => (HBW.out.cell (p := ⟨gt, q, none⟩) (by show gt < _; omega)).trans ((HN.out.cell (p := ⟨gt, q, none⟩) hgt).trans h)
      have k0 := hcell _ _ m0
      have k1 := hcell _ _ m1
      have k2 := hcell _ _ m2
      have k3 := hcell _ _ m3
      have HTK := Lib.hid htk
      clear m0 m1 m2 m3 hcell htk
      go_wp2_with (at_builtin; refine wpList_append_own _ rfl _ _ 23 rfl (W.heap.size + 1) 9 i1 (.string ⟨#[]⟩) 1 16 Tryd.underlying23 HI.out HZ0.out HZ1.out HZ2.out rfl (by decide) _ k _ rfl ((HOWN.out.alloc _).alloc _) ⟨wr.heap.size + 1, 0, none⟩ 1 1 [.string ⟨t.text.toArray⟩] rfl rfl ?c1 ?c2 ?c3 ?c4 ?c5 ?_)
      case c1 => have := new_cells (t := 9) (wr.alloc (.cells #[.int .i64 t.kind, .string ⟨t.text.toArray⟩, .int .i64 t.num, .int .i64 t.pos] 52)) [.string ⟨t.text.toArray⟩]; simpa using this
      case c2 => intro v hv; simp at hv; subst hv; rfl
      case c3 => unfold maxLen; omega
      case c4 => omega
      case c5 => simp; omega
      intro v' w5 hown5 hgrow5 _
      obtain ⟨A5, k5, rfl, _, _, _⟩ := own_form hown5
      rw [map_take_snoc HTK.out] at hown5
      have HO5 := Lib.hid hown5
      have HB5 := Lib.hid (((HBW.out.alloc hwz _).alloc (by simp; omega) _).grown hgrow5 (by simp; omega) (fun k hk => by have := (HOWN.out.lt k hk).1; omega))
      clear hown5 hgrow5
      go_wp2
      go_roundw
      case rel => exact ⟨k + 1, k5, A5, by go_num, by omega, rfl, HO5.out, HB5.out⟩
      case measure => simp [intOf]; omega
    · obtain rfl : k = n := by omega
      have hta : ops.take k = ops := by rw [← HNN.out]; exact List.take_length
      have hown := HOWN.out
      unfold nmV at hown
      rw [hta] at hown
      have CO := Lib.hid (order_any (ops.map bytesOf) A k c wr (by omega) (Reads.of_own hown))
      rw [lvs_lvT] at CO
      clear hown hta
      go_wp2_with (go_at_call 35; (with_reducible refine CO.out.mono ?_); rintro e w6 hsay; (obtain ⟨t, gt, ot, rfl, hgt, htk, k3, rfl, hb6⟩ := CX.out A c wr HBW.out w6 e hsay))
      exact ⟨rfl, (HN.out.trans (HBW.out.mono (by omega))).trans (hb6.mono (by omega)), by rw [show posK ops kc = t.pos by unfold posK; rw [htk]]⟩

end Go.Proofs.YtiiddmioafhmoaaDoor
