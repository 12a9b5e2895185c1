/- Walks: the program's names of a pattern (a closure that calls itself). -/
import Derived.Test.YtglamoiimmahgaaNames
import Derived.OneCell
import Derived.Laws.EntriesVeiled
import Derived.WideLaws
namespace Go.Proofs.Ytglamoiimmahgaa
open Go.RowKit
set_option linter.unusedVariables false
set_option maxRecDepth 100000

/-- A block of names, or a variable of such. -/
def StrBlk (W : World) (k : Nat) : Prop := ∃ cs fz, W.heap[k]? = some (.cells cs 9 fz) ∨ W.heap[k]? = some (.cells cs 50 fz)
/-- Of what lay, only blocks of names from n on may have turned. -/
structure Sep (n : Nat) (A B : World) : Prop where
  os : B.os = A.os
  tape : B.tape = A.tape
  output : B.output = A.output
  size : A.heap.size ≤ B.heap.size
  block : ∀ k, k < A.heap.size → (k < n ∨ ¬ StrBlk A k) → B.heap[k]? = A.heap[k]?
theorem Sep.refl (n : Nat) (A : World) : Sep n A A := ⟨rfl, rfl, rfl, Nat.le_refl _, fun _ _ _ => rfl⟩
theorem strBlk_same {A B : World} {k : Nat} (h : B.heap[k]? = A.heap[k]?) (hn : ¬ StrBlk A k) : ¬ StrBlk B k := by
  rintro ⟨cs, fz, hc⟩
  rw [h] at hc
  exact hn ⟨cs, fz, hc⟩
theorem Sep.trans {n : Nat} {A B C : World} (h : Sep n A B) (k : Sep n B C) : Sep n A C :=
  ⟨k.os.trans h.os, k.tape.trans h.tape, k.output.trans h.output, Nat.le_trans h.size k.size, fun i hi hx => by
    have e := h.block i hi hx
    exact (k.block i (Nat.lt_of_lt_of_le hi h.size) (hx.imp id (strBlk_same e))).trans e⟩
theorem Sep.of_old {n : Nat} {A B : World} (h : Below A.heap.size A B) : Sep n A B := ⟨h.os, h.tape, h.output, h.size, fun k hk _ => h.block k hk⟩
theorem Sep.below {n : Nat} {A B : World} (h : Sep n A B) (hn : n ≤ A.heap.size) : Below n A B := ⟨h.os, h.tape, h.output, h.size, fun k hk => h.block k (by omega) (.inl hk)⟩
theorem Sep.blk {n g : Nat} {A B : World} {t : TypeId} {cs : Array Value} (h : Sep n A B) (hb : Blk A g t cs) (ht : t ≠ 9 ∧ t ≠ 50) : Blk B g t cs := by
  refine (h.block g hb.lt (.inr ?_)).trans hb
  rintro ⟨cs', fz, hc⟩
  unfold Blk at hb
  rw [hb] at hc
  rcases hc with hc | hc
  · injection hc with hc; injection hc with _ hc; exact ht.1 hc
  · injection hc with hc; injection hc with _ hc; exact ht.2 hc
theorem Sep.grown {n : Nat} {A B C : World} {v : Value} {m base : Nat} {xs : List Value} (h : Sep n A B) (hn : n ≤ base) (hown : B.ownsRow base 9 1 v m xs) (hg : B.grownBy C v.ownBlock) : Sep n A C := by
  refine h.trans ⟨hg.os, hg.tape, hg.output, hg.size, fun k hk hx => hg.block k hk ?_⟩
  intro e
  rcases hx with hx | hx
  · have := own_base hown k e.symm
    have h2 := hown.2
    rcases h2 with ⟨rfl, _⟩ | ⟨g, cap, cur, rfl, hb, hh, _⟩
    · simp [Value.ownBlock] at e
    · simp [Value.ownBlock] at e
      subst e
      exact absurd hx (by omega)
  · apply hx
    rcases hown.2 with ⟨rfl, _⟩ | ⟨g, cap, cur, rfl, hb, hh, _⟩
    · simp [Value.ownBlock] at e
    · simp [Value.ownBlock] at e
      subst e
      exact ⟨_, _, .inl hh⟩

theorem Sep.store {n nb' : Nat} {A B : World} {cs : Array Value} (h : Sep n A B) (hb : Blk B nb' 50 cs) (hn : n ≤ nb') (u : Value) : Sep n A (B.setCell ⟨nb', 0, none⟩ u) := by
  refine h.trans ⟨rfl, rfl, rfl, by simp [World.setCell], fun k hk hx => Below.heap_setCell _ _ _ _ ?_⟩
  intro e
  have e' : k = nb' := e
  subst e'
  rcases hx with hx | hx
  · exact absurd hx (by omega)
  · exact hx ⟨_, _, .inr hb⟩

theorem ptsNodes_take_at : ∀ (l : List Pt) (j : Nat) (h : j < l.length), ptsNodes (l.take j) + l[j].nodes ≤ ptsNodes l
  | a :: l, 0, h => by simp [ptsNodes]
  | a :: l, j + 1, h => by
    have := ptsNodes_take_at l j (by simpa using h)
    simp only [List.take_succ_cons, ptsNodes, List.getElem_cons_succ]; omega

theorem pt_shape {w : World} {B : Nat} {c0 c1 c2 c3 c4 : Value} {p : Pt} (h : PtAt w B [c0, c1, c2, c3, c4] p) :
    ∃ (k n q : Int) (nm : ByteArray) (A : Option Addr) (c : Nat) (ks : List Pt), c0 = .int .i64 k ∧ c1 = .string nm ∧ c2 = .int .i64 n ∧ c3 = .slice A ks.length c ∧ c4 = .int .i64 q ∧ p = .mk k nm n ks q := by
  cases h with
  | mk => exact ⟨_, _, _, _, _, _, _, rfl, rfl, rfl, rfl, rfl, rfl⟩

/-- The variable that gathers the names, and the closure's own variable. -/
structure NmSt (W : World) (nb vb base : Nat) (l : List ByteArray) : Prop where
  fn : Blk W vb 86 #[.func (.func 52) #[] #[.pointer (some ⟨nb, 0, none⟩), .pointer (some ⟨vb, 0, none⟩)]]
  row : ∃ v, Blk W nb 50 #[v] ∧ W.ownsRow base 9 1 v l.length (nmVals l)
theorem NmSt.old {W W' : World} {nb vb base : Nat} {l : List ByteArray} (h : NmSt W nb vb base l) (hb : Below W.heap.size W W') : NmSt W' nb vb base l :=
  ⟨h.fn.below hb h.fn.lt, by obtain ⟨v, h1, h2⟩ := h.row; exact ⟨v, h1.below hb h1.lt, own_later h2 hb⟩⟩

/-- What the closure answers. -/
def VisSays (nb vb base n : Nat) (l : List ByteArray) (W : World) (e : Ending) (W' : World) : Prop := (∃ v, e = .returned v) ∧ NmSt W' nb vb base l ∧ Sep n W W'

set_option maxHeartbeats 3200000 in
theorem pvis_any (N : Nat) : ∀ (p : Pt), p.nodes ≤ N → ∀ (l : List ByteArray) (B nb vb base : Nat) (w : World) (cs : List Value), l.length + p.nodes ≤ 4000000 → B ≤ nb → B ≤ base → nb ≤ base → B ≤ w.heap.size → base ≤ w.heap.size → PtAt w B cs p → NmSt w nb vb base l →
    Calls Try.prog 52 #[.agg cs.toArray, .pointer (some ⟨nb, 0, none⟩), .pointer (some ⟨vb, 0, none⟩)] w (VisSays nb vb base nb (l ++ ptNames p) w) := by
  induction N with
  | zero => intro p h; cases p; unfold Pt.nodes at h; omega
  | succ N ih =>
    intro p hN lst B nb vb base w cs hL9 hBn hBb hnb hB hbw hx hst
    cases hx with
    | @mk k n q nm A c ks L hk hs hn hc hm hq hbt hr hks =>
    unfold Pt.nodes at hN hL9
    obtain ⟨l, hl⟩ : ∃ l, ks.length = l := ⟨_, rfl⟩
    have hl9 : l ≤ 4000000 := by
      have : ∀ z : List Pt, z.length ≤ ptsNodes z := by
        intro z; induction z with
        | nil => exact Nat.le_refl _
        | cons a z ihz => cases a; simp only [List.length_cons, ptsNodes, Pt.nodes]; omega
      have := this ks; omega
    have hnames : ptNames (.mk k nm n ks q) = (if k = 2 then [nm] else []) ++ ptsNames ks := rfl
    rw [hnames, hl]
    have hb0 := Blk.new w 39 #[.int .i64 k, .string nm, .int .i64 n, .slice A l c, .int .i64 q]
    obtain ⟨W1, hW1⟩ : ∃ W1, w.alloc (.cells #[.int .i64 k, .string nm, .int .i64 n, .slice A l c, .int .i64 q] 39) = W1 := ⟨_, rfl⟩
    have hbW : Below w.heap.size w W1 := by rw [← hW1]; exact (Below.refl _ _).alloc (Nat.le_refl _) _
    have hzW : W1.heap.size = w.heap.size + 1 := by rw [← hW1]; simp
    rw [hW1] at hb0
    obtain ⟨i0, hi, hz0, hz1, hz2⟩ := info_parts str_info
    have HI := Lib.hid hi
    have HZ0 := Lib.hid hz0
    have HZ1 := Lib.hid hz1
    have HZ2 := Lib.hid hz2
    have HW := Lib.hid hW1
    have HBW := Lib.hid hbW
    have HZ := Lib.hid hzW
    have HBX := Lib.hid hb0
    have HA := Lib.hid ((PtsAt.mk hr hks).later (hbW.mono hB))
    have HL := Lib.hid hl
    have HND := Lib.hid (show ptsNodes ks ≤ N by omega)
    have HIH := Lib.hid (fun (t : Pt) (ht : t ∈ ks) => ih t (by have := pts_mem ks t ht; omega))
    have HST := Lib.hid (hst.old hbW)
    have HL9 := Lib.hid hL9
    clear hr hks ih hc hm hN hbt hW1 hbW hzW hb0 hl hi hz0 hz1 hz2 hnames hst hL9
    obtain ⟨pre, hpre⟩ : ∃ pre, (if k = 2 then [nm] else []) = pre := ⟨_, rfl⟩
    have hpl : pre.length ≤ 1 := by rw [← hpre]; by_cases h2 : k = 2 <;> simp [h2]
    rw [hpre]
    have hcell := HST.out.fn.cell 0
    by_cases h2 : k = 2
    · have d2 : (k == 2) = true := by simpa using h2
      have HP := Lib.hid (show pre = [nm] by rw [← hpre, if_pos h2])
      obtain ⟨v0, hnb0, hown0⟩ := HST.out.row
      have HOW := Lib.hid hown0
      have HNB := Lib.hid hnb0
      have hcn := hnb0.cell 0
      simp only [List.getElem?_toArray, List.getElem?_cons_zero] at hcn hcell
      rw [← HW.out] at hcn hcell
      clear h2 hpre hown0 hnb0
      go_enter Try.func52, Try.ntmps52
      go_wp2_with (at_builtin; refine wpList_append_own _ rfl (.tmp 9) (.tmp 12) 50 rfl base 9 i0 (.string ⟨#[]⟩) 1 16 Try.underlying50 HI.out HZ0.out HZ1.out HZ2.out rfl (by decide) v0 lst.length (nmVals lst) rfl (by rw [HW.out]; exact HOW.out.alloc _) ⟨w.heap.size + 1, 0, none⟩ 1 1 [.string nm] rfl rfl (by rw [HW.out, ← HZ.out]; exact one_new _ _ _) (one_is rfl) (by have := HL9.out; unfold maxLen; omega) (by have := HL9.out; omega) (by simp; omega) ?_)
      intro v1 w1 hown1 hgrow1 _
      rw [HW.out] at hgrow1
      obtain ⟨A1, c1, rfl, _⟩ := own_shape hown1
      have HN1 := Lib.hid (show ∀ u, Blk w1 nb 50 #[u] → True from fun _ _ => trivial)
      have hnb1 := (HNB.out.alloc (.cells #[.string nm] 9)).grown hgrow1 (by
        intro e
        exact own_blk_ne (HOW.out.alloc (.cells #[.string nm] 9)) (HNB.out.alloc (.cells #[.string nm] 9)) (by decide) e.symm)
      have hcn1 := hnb1.cell 0
      have hfn1 := hnb1.frozen 0
      have hfb1 := ((HST.out.fn.alloc (.cells #[.string nm] 9)).grown hgrow1 (by
        intro e
        exact own_blk_ne (HOW.out.alloc (.cells #[.string nm] 9)) (HST.out.fn.alloc (.cells #[.string nm] 9)) (by decide) e.symm))
      simp only [List.getElem?_toArray, List.getElem?_cons_zero] at hcn1
      have HO := Lib.hid (show NmSt (w1.setCell ⟨nb, 0, none⟩ (.slice A1 (lst.length + 1) c1)) nb vb base (lst ++ pre) from
        ⟨hfb1.far (p := ⟨nb, 0, none⟩) (fun e => Blk.ne_ hfb1 hnb1 (by decide) e) _, _, by simpa using hnb1.set_ 0 (.slice A1 (lst.length + 1) c1), by
          rw [HP.out]
          refine ownsRow_setCell_other (by simpa using hown1) ?_ _
          exact own_blk_ne hown1 hnb1 (by decide)⟩)
      have HG := Lib.hid (show Sep nb W1 (w1.setCell ⟨nb, 0, none⟩ (.slice A1 (lst.length + 1) c1)) from
        (((Sep.of_old ((Below.refl W1.heap.size W1).alloc (Nat.le_refl _) (.cells #[.string nm] 9))).grown hnb (HOW.out.alloc _) hgrow1).store hnb1 (Nat.le_refl _) _))
      have hcb := ((HBX.out.alloc (.cells #[.string nm] 9)).grown hgrow1 (by
        intro e
        exact own_blk_ne (HOW.out.alloc (.cells #[.string nm] 9)) (HBX.out.alloc (.cells #[.string nm] 9)) (by decide) e.symm)).cell 3
      simp only [List.getElem?_toArray, List.getElem?_cons_succ, List.getElem?_cons_zero] at hcb
      clear hown1 hgrow1 hnb1 hfb1 HN1
      go_wp2_with fail

      go_loopw [17] (fun i wr => ∃ j : Nat, i = .int .i64 j ∧ j ≤ l ∧ NmSt wr nb vb base (lst ++ (pre ++ ptsNames (ks.take j))) ∧ Sep nb W1 wr) (fun i _ => l - (intOf i).toNat)
      case atStart => exact ⟨0, rfl, Nat.zero_le _, by simpa [ptsNames] using HO.out, HG.out⟩
      case round =>
        obtain ⟨j, rfl, hj, hns, hsep⟩ := hrel
        have hzr := hsep.size
        have HNS := Lib.hid hns
        have HSP := Lib.hid hsep
        have HZR := Lib.hid hzr
        clear hns hsep hzr
        by_cases hlt : j < l
        · have hkx : j < ks.length := by rw [HL.out]; exact hlt
          have hb1 : Below nb W1 wr := HSP.out.below (by have := HZ.out; omega)
          obtain ⟨g, o, a0, a1, a2, a3, a4, rfl, hba, ca0, ca1, ca2, ca3, ca4, hta⟩ := (HA.out.later (hb1.mono hBn)).at_ hkx
          obtain ⟨k2, n2, q2, nm2, A2, c2, ks2, rfl, rfl, rfl, rfl, rfl, hks2⟩ := pt_shape hta
          obtain ⟨l2, hl2⟩ : ∃ l2, ks2.length = l2 := ⟨_, rfl⟩
          rw [hl2] at hta ca3
          clear hks2 hl2
          have hal : Below wr.heap.size wr (wr.alloc (.cells #[.int .i64 k2, .string nm2, .int .i64 n2, .slice A2 l2 c2, .int .i64 q2] 39)) := (Below.refl _ _).alloc (Nat.le_refl _) _
          have hzb : B ≤ wr.heap.size := by have := HZR.out; have := HZ.out; omega
          have C := HIH.out ks[j] (List.getElem_mem hkx) (lst ++ (pre ++ ptsNames (ks.take j))) B nb vb base (wr.alloc (.cells #[.int .i64 k2, .string nm2, .int .i64 n2, .slice A2 l2 c2, .int .i64 q2] 39)) [.int .i64 k2, .string nm2, .int .i64 n2, .slice A2 l2 c2, .int .i64 q2] (by
            have h1 := ptsNames_le (ks.take j)
            have h2 : ptsNodes (ks.take j) + ks[j].nodes ≤ ptsNodes ks := ptsNodes_take_at ks j hkx
            have h3 := HL9.out
            simp only [List.length_append]; omega) hBn hBb hnb (Nat.le_trans hzb hal.size) (by have := HZR.out; have := HZ.out; have := hal.size; omega) (hta.later (hal.mono hzb)) (HNS.out.old hal)
          have HST2 := Lib.hid (show lst ++ (pre ++ ptsNames (ks.take (j + 1))) = lst ++ (pre ++ ptsNames (ks.take j)) ++ ptNames ks[j] by rw [List.take_succ_eq_append_getElem hkx, ptsNames_app]; simp only [ptsNames, List.append_nil, List.append_assoc])
          have HC := Lib.hid C
          have HAL := Lib.hid hal
          have hvb := (HNS.out.old hal).fn.cell 0
          simp only [List.getElem?_toArray, List.getElem?_cons_zero] at hvb
          clear hta C hal hb1
          go_wp2_with fail
          refine HC.out.mono ?_
          rintro e w2 ⟨⟨v, rfl⟩, hns2, hsp2⟩
          have HN2 := Lib.hid (show NmSt w2 nb vb base (lst ++ (pre ++ ptsNames (ks.take (j + 1)))) by rw [HST2.out]; exact hns2)
          have HS2 := Lib.hid ((HSP.out.trans (Sep.of_old HAL.out)).trans hsp2)
          clear hns2 hsp2
          go_wp2_with fail
          go_roundw
          case rel => exact ⟨j + 1, by go_num, by omega, HN2.out, HS2.out⟩
          case measure => simp [intOf]; omega
        · have HE := Lib.hid (show VisSays nb vb base nb (lst ++ (pre ++ ptsNames ks)) w (.returned (.tuple #[])) wr from ⟨⟨_, rfl⟩, by have := HNS.out; rw [List.take_of_length_le (by rw [HL.out]; omega)] at this; exact this, (Sep.of_old HBW.out).trans HSP.out⟩)
          go_wp2_with fail
          go_end0
          exact HE.out
    · have d2 : (k == 2) = false := by simpa using h2
      have HP := Lib.hid (show pre = [] by rw [← hpre, if_neg h2])
      have HO := Lib.hid (show NmSt W1 nb vb base (lst ++ pre) by rw [HP.out, List.append_nil]; exact HST.out)
      have HG := Lib.hid (Sep.refl nb W1)
      clear h2 hpre
      go_enter Try.func52, Try.ntmps52
      go_wp2_with fail
      rw [HW.out]

      go_loopw [17] (fun i wr => ∃ j : Nat, i = .int .i64 j ∧ j ≤ l ∧ NmSt wr nb vb base (lst ++ (pre ++ ptsNames (ks.take j))) ∧ Sep nb W1 wr) (fun i _ => l - (intOf i).toNat)
      case atStart => exact ⟨0, rfl, Nat.zero_le _, by simpa [ptsNames] using HO.out, HG.out⟩
      case round =>
        obtain ⟨j, rfl, hj, hns, hsep⟩ := hrel
        have hzr := hsep.size
        have HNS := Lib.hid hns
        have HSP := Lib.hid hsep
        have HZR := Lib.hid hzr
        clear hns hsep hzr
        by_cases hlt : j < l
        · have hkx : j < ks.length := by rw [HL.out]; exact hlt
          have hb1 : Below nb W1 wr := HSP.out.below (by have := HZ.out; omega)
          obtain ⟨g, o, a0, a1, a2, a3, a4, rfl, hba, ca0, ca1, ca2, ca3, ca4, hta⟩ := (HA.out.later (hb1.mono hBn)).at_ hkx
          obtain ⟨k2, n2, q2, nm2, A2, c2, ks2, rfl, rfl, rfl, rfl, rfl, hks2⟩ := pt_shape hta
          obtain ⟨l2, hl2⟩ : ∃ l2, ks2.length = l2 := ⟨_, rfl⟩
          rw [hl2] at hta ca3
          clear hks2 hl2
          have hal : Below wr.heap.size wr (wr.alloc (.cells #[.int .i64 k2, .string nm2, .int .i64 n2, .slice A2 l2 c2, .int .i64 q2] 39)) := (Below.refl _ _).alloc (Nat.le_refl _) _
          have hzb : B ≤ wr.heap.size := by have := HZR.out; have := HZ.out; omega
          have C := HIH.out ks[j] (List.getElem_mem hkx) (lst ++ (pre ++ ptsNames (ks.take j))) B nb vb base (wr.alloc (.cells #[.int .i64 k2, .string nm2, .int .i64 n2, .slice A2 l2 c2, .int .i64 q2] 39)) [.int .i64 k2, .string nm2, .int .i64 n2, .slice A2 l2 c2, .int .i64 q2] (by
            have h1 := ptsNames_le (ks.take j)
            have h2 : ptsNodes (ks.take j) + ks[j].nodes ≤ ptsNodes ks := ptsNodes_take_at ks j hkx
            have h3 := HL9.out
            simp only [List.length_append]; omega) hBn hBb hnb (Nat.le_trans hzb hal.size) (by have := HZR.out; have := HZ.out; have := hal.size; omega) (hta.later (hal.mono hzb)) (HNS.out.old hal)
          have HST2 := Lib.hid (show lst ++ (pre ++ ptsNames (ks.take (j + 1))) = lst ++ (pre ++ ptsNames (ks.take j)) ++ ptNames ks[j] by rw [List.take_succ_eq_append_getElem hkx, ptsNames_app]; simp only [ptsNames, List.append_nil, List.append_assoc])
          have HC := Lib.hid C
          have HAL := Lib.hid hal
          have hvb := (HNS.out.old hal).fn.cell 0
          simp only [List.getElem?_toArray, List.getElem?_cons_zero] at hvb
          clear hta C hal hb1
          go_wp2_with fail
          refine HC.out.mono ?_
          rintro e w2 ⟨⟨v, rfl⟩, hns2, hsp2⟩
          have HN2 := Lib.hid (show NmSt w2 nb vb base (lst ++ (pre ++ ptsNames (ks.take (j + 1)))) by rw [HST2.out]; exact hns2)
          have HS2 := Lib.hid ((HSP.out.trans (Sep.of_old HAL.out)).trans hsp2)
          clear hns2 hsp2
          go_wp2_with fail
          go_roundw
          case rel => exact ⟨j + 1, by go_num, by omega, HN2.out, HS2.out⟩
          case measure => simp [intOf]; omega
        · have HE := Lib.hid (show VisSays nb vb base nb (lst ++ (pre ++ ptsNames ks)) w (.returned (.tuple #[])) wr from ⟨⟨_, rfl⟩, by have := HNS.out; rw [List.take_of_length_le (by rw [HL.out]; omega)] at this; exact this, (Sep.of_old HBW.out).trans HSP.out⟩)
          go_wp2_with fail
          go_end0
          exact HE.out

end Go.Proofs.Ytglamoiimmahgaa
