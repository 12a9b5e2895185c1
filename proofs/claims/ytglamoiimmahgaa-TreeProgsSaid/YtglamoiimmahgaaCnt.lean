/- Walks: how many parts an expression has, up to a bound; small expressions. -/
import Derived.Test.YtglamoiimmahgaaTrees
import Derived.Deep.RegionHeld3
import Derived.Deep.DeepCutAuto
import Derived.Deep.CutBlock
import Derived.IntWalk
namespace Go.Proofs.Ytglamoiimmahgaa
open Go.RowKit
set_option linter.unusedVariables false

theorem exs_take (l : List Ex) (i : Nat) (h : i < l.length) : exsNodes (l.take (i + 1)) = exsNodes (l.take i) + l[i].nodes := by
  induction l generalizing i with
  | nil => simp at h
  | cons a l ih =>
    cases i with
    | zero => simp [exsNodes]
    | succ i =>
      have := ih i (by simpa using h)
      simp only [List.take_succ_cons, exsNodes, List.getElem_cons_succ, this]; omega
theorem als_take (l : List Al) (i : Nat) (h : i < l.length) : alsNodes (l.take (i + 1)) = alsNodes (l.take i) + l[i].nodes := by
  induction l generalizing i with
  | nil => simp at h
  | cons a l ih =>
    cases i with
    | zero => simp [alsNodes]
    | succ i =>
      have := ih i (by simpa using h)
      simp only [List.take_succ_cons, alsNodes, List.getElem_cons_succ, this]; omega
theorem bds_take (l : List Bd) (i : Nat) (h : i < l.length) : bdsNodes (l.take (i + 1)) = bdsNodes (l.take i) + l[i].nodes := by
  induction l generalizing i with
  | nil => simp at h
  | cons a l ih =>
    cases i with
    | zero => simp [bdsNodes]
    | succ i =>
      have := ih i (by simpa using h)
      simp only [List.take_succ_cons, bdsNodes, List.getElem_cons_succ, this]; omega
theorem exs_mem : ∀ (l : List Ex) (i : Nat) (h : i < l.length), l[i].nodes ≤ exsNodes l
  | [], i, h => by simp at h
  | a :: l, 0, h => by simp [exsNodes]
  | a :: l, i + 1, h => by
    have := exs_mem l i (by simpa using h)
    simp only [exsNodes, List.getElem_cons_succ]; omega
theorem als_mem : ∀ (l : List Al) (i : Nat) (h : i < l.length), l[i].nodes ≤ alsNodes l
  | [], i, h => by simp at h
  | a :: l, 0, h => by simp [alsNodes]
  | a :: l, i + 1, h => by
    have := als_mem l i (by simpa using h)
    simp only [alsNodes, List.getElem_cons_succ]; omega
theorem bds_mem : ∀ (l : List Bd) (i : Nat) (h : i < l.length), l[i].nodes ≤ bdsNodes l
  | [], i, h => by simp at h
  | a :: l, 0, h => by simp [bdsNodes]
  | a :: l, i + 1, h => by
    have := bds_mem l i (by simpa using h)
    simp only [bdsNodes, List.getElem_cons_succ]; omega

/-- What Count answers: not more than the bound's worth; below the bound it has counted every node. -/
def CountSays (m : Int) (nodes : Nat) (w : World) (e : Ending) (w' : World) : Prop := ∃ r : Int, e = .returned (.int .i64 r) ∧ 1 ≤ r ∧ r ≤ 8796093022208 * m ∧ (r < m → (nodes : Int) ≤ r) ∧ Below w.heap.size w w'
/-- The state of a loop: the number so far. -/
def CntRel (m : Int) (base : Nat) (n : Int) : Prop := 1 ≤ n ∧ n ≤ 8796093022208 * m ∧ (n < m → (base : Int) ≤ n)

theorem cnt_start {m : Int} {tl : Nat} (hm : 1 ≤ m) (ht : tl ≤ 2600000000000) : CntRel m 1 (1 + (tl : Int)) := ⟨by omega, by omega, fun _ => by omega⟩
theorem cnt_step {m n r : Int} {base nodes : Nat} {d : Int} (h : CntRel m base n) (hn : n < m) (hd1 : 0 ≤ d) (hd2 : d ≤ 2600000000009) (h1 : 1 ≤ r) (h2 : r ≤ 8796093022208 * (m - n)) (h3 : r < m - n → (nodes : Int) ≤ r) (b' : Nat) (hb : (b' : Int) ≤ base + nodes + d) : CntRel m b' (n + (r + d)) := by
  obtain ⟨k1, k2, k3⟩ := h
  refine ⟨by omega, by omega, fun h => ?_⟩
  have := k3 hn
  have := h3 (by omega)
  omega
theorem cnt_full {m n : Int} {base base' : Nat} (h : CntRel m base n) (hb : m ≤ n ∨ base' = base) : CntRel m base' n := by
  obtain ⟨k1, k2, k3⟩ := h
  rcases hb with h | rfl
  · exact ⟨k1, k2, fun h' => by omega⟩
  · exact ⟨k1, k2, k3⟩
theorem Row.later {w w' : World} {B size n : Nat} {A : Option Addr} {L : List (List Value)} (h : Row w B size A n L) (hb : Below B w w') : Row w' B size A n L := h.keep fun _ hp => hb.cell hp
/-- A child's eleven cells. -/
theorem ex_cells {w : World} {B n : Nat} {A : Option Addr} {L : List (List Value)} (h : Row w B 11 A n L) {i : Nat} (hi : i < n) :
    ∃ g o c0 c1 c2 c3 c4 c5 c6 c7 c8 c9 c10, A = some ⟨g, o, none⟩ ∧ g < B ∧ (∃ hl : i < L.length, L[i] = [c0, c1, c2, c3, c4, c5, c6, c7, c8, c9, c10]) ∧ w.cell? ⟨g, o + i * 11, none⟩ = some c0 ∧ w.cell? ⟨g, o + i * 11 + 1, none⟩ = some c1 ∧ w.cell? ⟨g, o + i * 11 + 2, none⟩ = some c2 ∧ w.cell? ⟨g, o + i * 11 + 3, none⟩ = some c3 ∧ w.cell? ⟨g, o + i * 11 + 4, none⟩ = some c4 ∧ w.cell? ⟨g, o + i * 11 + 5, none⟩ = some c5 ∧
      w.cell? ⟨g, o + i * 11 + 6, none⟩ = some c6 ∧ w.cell? ⟨g, o + i * 11 + 7, none⟩ = some c7 ∧ w.cell? ⟨g, o + i * 11 + 8, none⟩ = some c8 ∧ w.cell? ⟨g, o + i * 11 + 9, none⟩ = some c9 ∧ w.cell? ⟨g, o + i * 11 + 10, none⟩ = some c10 := by
  obtain ⟨g, o, e, hb, hl, h4, hc⟩ := h.cells (by omega) hi
  obtain ⟨c0, c1, c2, c3, c4, c5, c6, c7, c8, c9, c10, e4⟩ := eleven_of h4
  rw [e4] at hc
  exact ⟨g, o, c0, c1, c2, c3, c4, c5, c6, c7, c8, c9, c10, e, hb, ⟨hl, e4⟩, hc 0 c0 rfl, hc 1 c1 rfl, hc 2 c2 rfl, hc 3 c3 rfl, hc 4 c4 rfl, hc 5 c5 rfl, hc 6 c6 rfl, hc 7 c7 rfl, hc 8 c8 rfl, hc 9 c9 rfl, hc 10 c10 rfl⟩

theorem ExAt.eleven {w : World} {B : Nat} {cs : List Value} {e : Ex} (h : ExAt w B cs e) : cs.length = 11 := by
  cases h with
  | mk _ _ _ _ ht => cases ht; rfl
theorem PtAt.five {w : World} {B : Nat} {cs : List Value} {p : Pt} (h : PtAt w B cs p) : cs.length = 5 := by
  cases h; rfl
/-- A bind's expression. -/
theorem bd_cells {w : World} {B n : Nat} {A : Option Addr} {L : List (List Value)} {b : Bd} (h : Row w B 13 A n L) {i : Nat} (hi : i < n) (hl : i < L.length) (hb : BdAt w B L[i] b) :
    ∃ g o c0 c1 c2 c3 c4 c5 c6 c7 c8 c9 c10 nm e q, A = some ⟨g, o, none⟩ ∧ g < B ∧ b = .mk nm e q ∧ nm.size ≤ maxLen ∧ w.cell? ⟨g, o + i * 13, none⟩ = some (.string nm) ∧ w.cell? ⟨g, o + i * 13 + 12, none⟩ = some (.int .i64 q) ∧ ExAt w B [c0, c1, c2, c3, c4, c5, c6, c7, c8, c9, c10] e ∧ w.cell? ⟨g, o + i * 13 + 1, none⟩ = some c0 ∧ w.cell? ⟨g, o + i * 13 + 1 + 1, none⟩ = some c1 ∧ w.cell? ⟨g, o + i * 13 + 1 + 2, none⟩ = some c2 ∧ w.cell? ⟨g, o + i * 13 + 1 + 3, none⟩ = some c3 ∧ w.cell? ⟨g, o + i * 13 + 1 + 4, none⟩ = some c4 ∧ w.cell? ⟨g, o + i * 13 + 1 + 5, none⟩ = some c5 ∧ w.cell? ⟨g, o + i * 13 + 1 + 6, none⟩ = some c6 ∧ w.cell? ⟨g, o + i * 13 + 1 + 7, none⟩ = some c7 ∧ w.cell? ⟨g, o + i * 13 + 1 + 8, none⟩ = some c8 ∧ w.cell? ⟨g, o + i * 13 + 1 + 9, none⟩ = some c9 ∧ w.cell? ⟨g, o + i * 13 + 1 + 10, none⟩ = some c10 := by
  obtain ⟨g, o, ea, hg, hl', _, hc⟩ := h.cells (by omega) hi
  generalize hLi : L[i] = l at hb hc
  cases hb with
  | @mk nm e q E hs he hq =>
    obtain ⟨c0, c1, c2, c3, c4, c5, c6, c7, c8, c9, c10, rfl⟩ := eleven_of he.eleven
    refine ⟨g, o, c0, c1, c2, c3, c4, c5, c6, c7, c8, c9, c10, nm, e, q, ea, hg, rfl, hs, hc 0 _ rfl, hc 12 _ rfl, he, hc 1 _ rfl, hc 2 _ rfl, hc 3 _ rfl, hc 4 _ rfl, hc 5 _ rfl, hc 6 _ rfl, hc 7 _ rfl, hc 8 _ rfl, hc 9 _ rfl, hc 10 _ rfl, hc 11 _ rfl⟩
/-- An alternative's pattern and expression. -/
theorem al_cells {w : World} {B n : Nat} {A : Option Addr} {L : List (List Value)} {b : Al} (h : Row w B 16 A n L) {i : Nat} (hi : i < n) (hl : i < L.length) (hb : AlAt w B L[i] b) :
    ∃ g o p0 p1 p2 p3 p4 c0 c1 c2 c3 c4 c5 c6 c7 c8 c9 c10 p e, A = some ⟨g, o, none⟩ ∧ g < B ∧ b = .mk p e ∧ PtAt w B [p0, p1, p2, p3, p4] p ∧ ExAt w B [c0, c1, c2, c3, c4, c5, c6, c7, c8, c9, c10] e ∧ w.cell? ⟨g, o + i * 16, none⟩ = some p0 ∧ w.cell? ⟨g, o + i * 16 + 1, none⟩ = some p1 ∧ w.cell? ⟨g, o + i * 16 + 2, none⟩ = some p2 ∧ w.cell? ⟨g, o + i * 16 + 3, none⟩ = some p3 ∧ w.cell? ⟨g, o + i * 16 + 4, none⟩ = some p4 ∧ w.cell? ⟨g, o + i * 16 + 5, none⟩ = some c0 ∧ w.cell? ⟨g, o + i * 16 + 5 + 1, none⟩ = some c1 ∧ w.cell? ⟨g, o + i * 16 + 5 + 2, none⟩ = some c2 ∧ w.cell? ⟨g, o + i * 16 + 5 + 3, none⟩ = some c3 ∧ w.cell? ⟨g, o + i * 16 + 5 + 4, none⟩ = some c4 ∧ w.cell? ⟨g, o + i * 16 + 5 + 5, none⟩ = some c5 ∧ w.cell? ⟨g, o + i * 16 + 5 + 6, none⟩ = some c6 ∧ w.cell? ⟨g, o + i * 16 + 5 + 7, none⟩ = some c7 ∧ w.cell? ⟨g, o + i * 16 + 5 + 8, none⟩ = some c8 ∧ w.cell? ⟨g, o + i * 16 + 5 + 9, none⟩ = some c9 ∧ w.cell? ⟨g, o + i * 16 + 5 + 10, none⟩ = some c10 := by
  obtain ⟨g, o, ea, hg, hl', _, hc⟩ := h.cells (by omega) hi
  generalize hLi : L[i] = l at hb hc
  cases hb with
  | @mk p e P E hp he =>
    obtain ⟨c0, c1, c2, c3, c4, c5, c6, c7, c8, c9, c10, rfl⟩ := eleven_of he.eleven
    obtain ⟨p0, p1, p2, p3, p4, rfl⟩ := five_of hp.five
    refine ⟨g, o, p0, p1, p2, p3, p4, c0, c1, c2, c3, c4, c5, c6, c7, c8, c9, c10, p, e, ea, hg, rfl, hp, he, hc 0 _ rfl, hc 1 _ rfl, hc 2 _ rfl, hc 3 _ rfl, hc 4 _ rfl, hc 5 _ rfl, hc 6 _ rfl, hc 7 _ rfl, hc 8 _ rfl, hc 9 _ rfl, hc 10 _ rfl, hc 11 _ rfl, hc 12 _ rfl, hc 13 _ rfl, hc 14 _ rfl, hc 15 _ rfl⟩
theorem cell_kept {wr w2 : World} {b o : Nat} {v : Value} (h : Below wr.heap.size wr w2) (hb : b < wr.heap.size) (hc : wr.cell? ⟨b, o, none⟩ = some v) : w2.cell? ⟨b, o, none⟩ = some v := (h.cell (p := ⟨b, o, none⟩) hb).trans hc
theorem bd_nodes (nm : ByteArray) (e : Ex) (q : Int) : (Bd.mk nm e q).nodes = 1 + e.nodes := rfl
theorem al_nodes (p : Pt) (e : Ex) : (Al.mk p e).nodes = 1 + e.nodes := rfl

theorem elem_cells {w : World} {B size n : Nat} {A : Option Addr} {L : List (List Value)} (h : Row w B size A n L) (hs : 0 < size) {i : Nat} (hi : i < n) :
    ∃ g o, A = some ⟨g, o, none⟩ ∧ g < B ∧ ∃ hl : i < L.length, L[i].length = size ∧ ∀ j u, L[i][j]? = some u → w.cell? ⟨g, o + i * size + j, none⟩ = some u := h.cells hs hi

set_option maxRecDepth 100000 in
set_option maxHeartbeats 6400000 in
theorem count_any (N : Nat) : ∀ (e : Ex), e.nodes ≤ N → ∀ (m : Int) (B : Nat) (w : World) (cs : List Value), 1 ≤ m → m ≤ 1000000 → B ≤ w.heap.size → ExAt w B cs e →
    Calls Try.prog 31 #[.agg cs.toArray, .int .i64 m] w (CountSays m e.nodes w) := by
  induction N with
  | zero => intro e h; cases e; unfold Ex.nodes at h; omega
  | succ N ih =>
    intro e hN m B w cs hm1 hm2 hB hx
    cases hx with
    | @mk k n q nm t T A Aa Ab c ca cb ks als bs L La Lb hk hs hn hq ht hc hm hca hma hcb hmb hb hba hbb hr hks hra hals hrb hbs =>
    cases ht with
    | @mk tk tn tnm tA tc tks tL htk hts htn htc htm htb htr htks =>
    have hnodes : (Ex.mk k nm n (.mk tk tnm tn tks) ks als bs q).nodes = 1 + exsNodes ks + alsNodes als + bdsNodes bs := rfl
    rw [hnodes] at hN ⊢
    have HIH := Lib.hid ih
    obtain ⟨tl, htl⟩ : ∃ tl, tks.length = tl := ⟨_, rfl⟩
    obtain ⟨kl, hkl⟩ : ∃ kl, ks.length = kl := ⟨_, rfl⟩
    obtain ⟨al, hal⟩ : ∃ al, als.length = al := ⟨_, rfl⟩
    obtain ⟨bl, hbl⟩ : ∃ bl, bs.length = bl := ⟨_, rfl⟩
    have htl2 : tl ≤ 2600000000000 := by rw [htl] at htb; omega
    have hkl2 : kl ≤ 2600000000000 := by rw [hkl] at hb; omega
    have hal2 : al ≤ 2600000000000 := by rw [hal] at hba; omega
    have hbl2 : bl ≤ 2600000000000 := by rw [hbl] at hbb; omega
    have HK := Lib.hid hkl
    have HA := Lib.hid hal
    have HBL := Lib.hid hbl
    have HNN := Lib.hid hN
    simp only [List.cons_append, List.nil_append]
    rw [htl, hkl, hal, hbl]
    obtain ⟨W1, hW1⟩ : ∃ W1, w.alloc (.cells #[.int .i64 k, .string nm, .int .i64 n, .int .i64 tk, .string tnm, .int .i64 tn, .slice tA tl tc, .slice A kl c, .slice Aa al ca, .slice Ab bl cb, .int .i64 q] 29) = W1 := ⟨_, rfl⟩
    have hbox : Blk W1 w.heap.size 29 #[.int .i64 k, .string nm, .int .i64 n, .int .i64 tk, .string tnm, .int .i64 tn, .slice tA tl tc, .slice A kl c, .slice Aa al ca, .slice Ab bl cb, .int .i64 q] := by rw [← hW1]; exact Blk.new w _ _
    have hbW : Below w.heap.size w W1 := by rw [← hW1]; exact (Below.refl _ _).alloc (Nat.le_refl _) _
    have hzW : W1.heap.size = w.heap.size + 1 := by rw [← hW1]; simp
    have HW1 := Lib.hid hW1
    have HBOX := Lib.hid hbox
    have HBW := Lib.hid hbW
    have HZW := Lib.hid hzW
    have HRK := Lib.hid hr
    have HEK := Lib.hid hks
    have HRA := Lib.hid hra
    have HEA := Lib.hid hals
    have HRB := Lib.hid hrb
    have HEB := Lib.hid hbs
    clear ih hnodes hN htl hkl hal hbl hW1 hbox hbW hzW hr hks hra hals hrb hbs htr htks hb hba hbb htb
    go_enter Try.func31, Try.ntmps31
    go_upto_block 0 with fail
    rw [HW1.out]
    have HC1 := Lib.hid (show CntRel m (1 + exsNodes (ks.take 0)) (1 + (tl : Int)) by rw [List.take_zero]; exact cnt_start hm1 (by omega))
    have HBE1 := Lib.hid (Below.refl W1.heap.size W1)
    go_cut [5] (fun v wx => ∃ x : Int, v = .int .i64 x ∧ CntRel m (1 + exsNodes ks) x ∧ Below W1.heap.size W1 wx)
    case first =>
      go_wp2_with fail
      go_loopw [5, 6] (fun v i wr => ∃ (j : Nat) (x : Int), i = .int .i64 j ∧ v = .int .i64 x ∧ j ≤ kl ∧ CntRel m (1 + exsNodes (ks.take j)) x ∧ Below W1.heap.size W1 wr) (fun _ i _ => kl - (intOf i).toNat)
      case atStart => exact ⟨0, _, rfl, rfl, Nat.zero_le _, HC1.out, HBE1.out⟩
      case round =>
        obtain ⟨j, x, rfl, rfl, hj, hcr, hbe⟩ := hrel
        have hx1 := hcr.1
        have hx2 : x ≤ 8796093022208000000 := by have := hcr.2.1; omega
        have HC := Lib.hid hcr
        have HBE := Lib.hid hbe
        have hcf := (HBE.out.cell (p := ⟨w.heap.size, 7, none⟩) (by have := HZW.out; show w.heap.size < _; omega)).trans (HBOX.out.cell 7)
        simp only [List.getElem?_toArray, List.getElem?_cons_succ, List.getElem?_cons_zero] at hcf
        clear hcr hbe
        rcases show (j < kl ∧ x < m) ∨ (j < kl ∧ m ≤ x) ∨ j = kl by omega with ⟨hlt, hxm⟩ | ⟨hlt, hxm⟩ | hje
        · skip
          have hbW := (HBW.out.mono hB).trans (HBE.out.mono (by have := HZW.out; omega))
          obtain ⟨g, o, c0, c1, c2, c3, c4, c5, c6, c7, c8, c9, c10, rfl, hg, ⟨hl, hL⟩, k0, k1, k2, k3, k4, k5, k6, k7, k8, k9, k10⟩ := ex_cells (HRK.out.later hbW) (show j < ks.length by rw [HK.out]; exact hlt)
          have hjk : j < ks.length := by rw [HK.out]; exact hlt
          have he := (HEK.out j hl hjk).later hbW
          rw [hL] at he
          have hz1 := HBE.out.size
          have C := HIH.out ks[j] (by have := exs_mem ks j hjk; have := HNN.out; omega) (m - x) B wr [c0, c1, c2, c3, c4, c5, c6, c7, c8, c9, c10] (by omega) (by omega) (by have := HZW.out; omega) he
          have HCC := Lib.hid C
          clear hbW hL he C
          go_wp2_with fail
          refine HCC.out.mono ?_
          rintro e w2 ⟨r, rfl, hr1, hr2, hr3, hb2⟩
          have hr2' : r ≤ 8796093022208000000 := by omega
          have HS := Lib.hid (cnt_step (d := 0) HC.out hxm (by omega) (by omega) hr1 hr2 hr3 (1 + exsNodes (ks.take (j + 1))) (by rw [exs_take ks j hjk]; omega))
          have HB2 := Lib.hid (HBE.out.trans (hb2.mono hz1))
          clear hr2 hr3 hb2
          go_wp2_with fail
          go_roundw
          case rel => exact ⟨j + 1, x + r, by go_num, rfl, by omega, by simpa using HS.out, HB2.out⟩
          case measure => simp [intOf]; omega
        · have HCN := Lib.hid (cnt_full (base' := 1 + exsNodes ks) HC.out (.inl hxm))
          go_wp2_with fail
          go_meet
          exact ⟨x, rfl, HCN.out, HBE.out⟩
        · subst hje
          have HCN := Lib.hid (cnt_full (base' := 1 + exsNodes ks) HC.out (.inr (by rw [← HK.out, List.take_length])))
          go_wp2_with fail
          go_meet
          exact ⟨x, rfl, HCN.out, HBE.out⟩
    case rest =>
      obtain ⟨x, rfl, hcn, hbe⟩ := hcut
      have hx1 := hcn.1
      have hx2 : x ≤ 8796093022208000000 := by have := hcn.2.1; omega
      have HCN := Lib.hid hcn
      have HBE := Lib.hid hbe
      clear hcn hbe
      have HC2 := Lib.hid (show CntRel m (1 + exsNodes ks + bdsNodes (bs.take 0)) x by rw [List.take_zero]; exact HCN.out)
      have HBE2 := Lib.hid HBE.out
      clear HBE HCN
      go_upto_block 2 with fail
      go_cut [5] (fun v wx => ∃ x : Int, v = .int .i64 x ∧ CntRel m (1 + exsNodes ks + bdsNodes bs) x ∧ Below W1.heap.size W1 wx)
      case first =>
        go_wp2_with fail
        go_loopw [5, 7] (fun v i wr => ∃ (j : Nat) (x : Int), i = .int .i64 j ∧ v = .int .i64 x ∧ j ≤ bl ∧ CntRel m (1 + exsNodes ks + bdsNodes (bs.take j)) x ∧ Below W1.heap.size W1 wr) (fun _ i _ => bl - (intOf i).toNat)
        case atStart => exact ⟨0, _, rfl, rfl, Nat.zero_le _, HC2.out, HBE2.out⟩
        case round =>
          obtain ⟨j, x, rfl, rfl, hj, hcr, hbe⟩ := hrel
          have hx1 := hcr.1
          have hx2 : x ≤ 8796093022208000000 := by have := hcr.2.1; omega
          have HC := Lib.hid hcr
          have HBE := Lib.hid hbe
          have hcf := (HBE.out.cell (p := ⟨w.heap.size, 9, none⟩) (by have := HZW.out; show w.heap.size < _; omega)).trans (HBOX.out.cell 9)
          simp only [List.getElem?_toArray, List.getElem?_cons_succ, List.getElem?_cons_zero] at hcf
          clear hcr hbe
          rcases show (j < bl ∧ x < m) ∨ (j < bl ∧ m ≤ x) ∨ j = bl by omega with ⟨hlt, hxm⟩ | ⟨hlt, hxm⟩ | hje
          · skip
            have hbW := (HBW.out.mono hB).trans (HBE.out.mono (by have := HZW.out; omega))
            have hjk : j < bs.length := by rw [HBL.out]; exact hlt
            have hrow := HRB.out.later hbW
            have hl : j < Lb.length := by rw [hrow.len]; exact hjk
            have heb := HEB.out j hl hjk
            obtain ⟨g, o, c0, c1, c2, c3, c4, c5, c6, c7, c8, c9, c10, nm', e', q', rfl, hg, hbe', _, _, _, he, k0, k1, k2, k3, k4, k5, k6, k7, k8, k9, k10⟩ := bd_cells hrow hjk hl (BdAt.later heb hbW)
            have hz1 := HBE.out.size
            have hnd : bs[j].nodes = 1 + e'.nodes := by rw [hbe']; rfl
            have C := HIH.out e' (by have := bds_mem bs j hjk; have := HNN.out; omega) (m - x) B wr [c0, c1, c2, c3, c4, c5, c6, c7, c8, c9, c10] (by omega) (by omega) (by have := HZW.out; omega) he
            have HCC := Lib.hid C
            have HND := Lib.hid hnd
            clear hbW hrow heb hbe' he C hnd
            go_wp2_with fail
            refine HCC.out.mono ?_
            rintro e w2 ⟨r, rfl, hr1, hr2, hr3, hb2⟩
            have hr2' : r ≤ 8796093022208000000 := by omega
            have HS := Lib.hid (cnt_step (d := 1) HC.out hxm (by omega) (by omega) hr1 hr2 hr3 (1 + exsNodes ks + bdsNodes (bs.take (j + 1))) (by rw [bds_take bs j hjk, HND.out]; omega))
            have HB2 := Lib.hid (HBE.out.trans (hb2.mono hz1))
            clear hr2 hr3 hb2
            go_wp2_with fail
            go_roundw
            case rel => exact ⟨j + 1, x + (1 + r), by go_num, rfl, by omega, by rw [Int.add_comm 1 r]; exact HS.out, HB2.out⟩
            case measure => simp [intOf]; omega
          · have HCN := Lib.hid (cnt_full (base' := 1 + exsNodes ks + bdsNodes bs) HC.out (.inl hxm))
            go_wp2_with fail
            go_meet
            exact ⟨x, rfl, HCN.out, HBE.out⟩
          · subst hje
            have HCN := Lib.hid (cnt_full (base' := 1 + exsNodes ks + bdsNodes bs) HC.out (.inr (by rw [← HBL.out, List.take_length])))
            go_wp2_with fail
            go_meet
            exact ⟨x, rfl, HCN.out, HBE.out⟩
      case rest =>
        obtain ⟨x, rfl, hcn, hbe⟩ := hcut
        have hx1 := hcn.1
        have hx2 : x ≤ 8796093022208000000 := by have := hcn.2.1; omega
        have HCN := Lib.hid hcn
        have HBE := Lib.hid hbe
        clear hcn hbe
        have HC3 := Lib.hid (show CntRel m (1 + exsNodes ks + bdsNodes bs + alsNodes (als.take 0)) x by rw [List.take_zero]; exact HCN.out)
        have HBE3 := Lib.hid HBE.out
        clear HBE HCN
        go_upto_block 4 with fail
        go_cut [5] (fun v wx => ∃ x : Int, v = .int .i64 x ∧ CntRel m (1 + exsNodes ks + alsNodes als + bdsNodes bs) x ∧ Below W1.heap.size W1 wx)
        case first =>
          go_wp2_with fail
          go_loopw [5, 8] (fun v i wr => ∃ (j : Nat) (x : Int), i = .int .i64 j ∧ v = .int .i64 x ∧ j ≤ al ∧ CntRel m (1 + exsNodes ks + bdsNodes bs + alsNodes (als.take j)) x ∧ Below W1.heap.size W1 wr) (fun _ i _ => al - (intOf i).toNat)
          case atStart => exact ⟨0, _, rfl, rfl, Nat.zero_le _, HC3.out, HBE3.out⟩
          case round =>
            obtain ⟨j, x, rfl, rfl, hj, hcr, hbe⟩ := hrel
            have hx1 := hcr.1
            have hx2 : x ≤ 8796093022208000000 := by have := hcr.2.1; omega
            have HC := Lib.hid hcr
            have HBE := Lib.hid hbe
            have hcf := (HBE.out.cell (p := ⟨w.heap.size, 8, none⟩) (by have := HZW.out; show w.heap.size < _; omega)).trans (HBOX.out.cell 8)
            simp only [List.getElem?_toArray, List.getElem?_cons_succ, List.getElem?_cons_zero] at hcf
            clear hcr hbe
            rcases show (j < al ∧ x < m) ∨ (j < al ∧ m ≤ x) ∨ j = al by omega with ⟨hlt, hxm⟩ | ⟨hlt, hxm⟩ | hje
            · skip
              have hbW := (HBW.out.mono hB).trans (HBE.out.mono (by have := HZW.out; omega))
              have hjk : j < als.length := by rw [HA.out]; exact hlt
              have hrow := HRA.out.later hbW
              have hl : j < La.length := by rw [hrow.len]; exact hjk
              have hea := HEA.out j hl hjk
              obtain ⟨g, o, p0, p1, p2, p3, p4, c0, c1, c2, c3, c4, c5, c6, c7, c8, c9, c10, p', e', rfl, hg, hal', hp, he, u0, u1, u2, u3, u4, k0, k1, k2, k3, k4, k5, k6, k7, k8, k9, k10⟩ := al_cells hrow hjk hl (AlAt.later hea hbW)
              have hz1 := HBE.out.size
              have hnd : als[j].nodes = 1 + e'.nodes := by rw [hal']; rfl
              have C := HIH.out e' (by have := als_mem als j hjk; have := HNN.out; omega) (m - x) B wr [c0, c1, c2, c3, c4, c5, c6, c7, c8, c9, c10] (by omega) (by omega) (by have := HZW.out; omega) he
              cases hp with
              | @mk pk pn pq pnm pA pc pks pL _ _ _ _ _ _ hpb _ _ =>
              have hpl : pks.length ≤ 2600000000000 := by omega
              obtain ⟨pl, hpl'⟩ : ∃ pl, pks.length = pl := ⟨_, rfl⟩
              rw [hpl'] at u3 hpl
              have HCC := Lib.hid C
              have HND := Lib.hid hnd
              have HEE := Lib.hid he
              clear hbW hrow hea hal' he C hnd hpb hpl'
              have hgl : g < wr.heap.size := by have := HZW.out; omega
              have hhl : w.heap.size < wr.heap.size := by have := HZW.out; omega
              have HC3 := Lib.hid (fun W (hb : Below wr.heap.size wr W) => show Calls Try.prog 31 #[.agg #[c0, c1, c2, c3, c4, c5, c6, c7, c8, c9, c10], .int .i64 (m - x)] W (fun e w2 => ∃ r : Int, e = .returned (.int .i64 r) ∧ 1 ≤ r ∧ r ≤ 8796093022208000000 ∧ Hid (r ≤ 8796093022208 * (m - x) ∧ (r < m - x → (e'.nodes : Int) ≤ r)) ∧ Below wr.heap.size wr w2) from (HIH.out e' (by have := als_mem als j hjk; have := HNN.out; have := HND.out; omega) (m - x) B W [c0, c1, c2, c3, c4, c5, c6, c7, c8, c9, c10] (by omega) (by omega) (by have := HZW.out; have := hb.size; omega) (HEE.out.later (hb.mono (by have := HZW.out; omega)))).mono fun e w2 h => by
                obtain ⟨r, h1, h2, h3, h4, h5⟩ := h
                exact ⟨r, h1, h2, by omega, Lib.hid ⟨h3, h4⟩, hb.trans (h5.mono hb.size)⟩)
              go_wp2_with fail
              have hw1 : IntKind.i64.wrap (m - x) = m - x := IntWalk.i64_in _ (by omega)
              have hB0 : Below wr.heap.size wr wr.drew := (Below.refl _ _).drew
              go_region_held3 (fun w' => w'.cell? ⟨w.heap.size, 8, none⟩ = some (.slice (some ⟨g, o, none⟩) al ca) ∧ w'.cell? ⟨g, o + j * 16 + 3, none⟩ = some (.slice pA pl pc) ∧ w'.cell? ⟨g, o + j * 16 + 5, none⟩ = some c0 ∧ w'.cell? ⟨g, o + j * 16 + 5 + 1, none⟩ = some c1 ∧ w'.cell? ⟨g, o + j * 16 + 5 + 2, none⟩ = some c2 ∧ w'.cell? ⟨g, o + j * 16 + 5 + 3, none⟩ = some c3 ∧ w'.cell? ⟨g, o + j * 16 + 5 + 4, none⟩ = some c4 ∧ w'.cell? ⟨g, o + j * 16 + 5 + 5, none⟩ = some c5 ∧ w'.cell? ⟨g, o + j * 16 + 5 + 6, none⟩ = some c6 ∧ w'.cell? ⟨g, o + j * 16 + 5 + 7, none⟩ = some c7 ∧ w'.cell? ⟨g, o + j * 16 + 5 + 8, none⟩ = some c8 ∧ w'.cell? ⟨g, o + j * 16 + 5 + 9, none⟩ = some c9 ∧ w'.cell? ⟨g, o + j * 16 + 5 + 10, none⟩ = some c10 ∧ Below wr.heap.size wr w')
                (((try dsimp only); (repeat' apply And.intro) <;> (first | assumption | exact cell_kept (by assumption) hgl (by assumption) | exact cell_kept (by assumption) hhl (by assumption))))
                (first | (go_at_call 31; (with_reducible refine (HC3.out _ (by assumption)).mono ?_); rintro e w2 ⟨r, rfl, hr1, hr2, hr3, hb2⟩))
              have HB2 := Lib.hid (HBE.out.trans (hb2.mono hz1))
              have HS := Lib.hid (cnt_step (d := 1 + (pl : Int)) HC.out hxm (by omega) (by omega) hr1 hr3.out.1 hr3.out.2 (1 + exsNodes ks + bdsNodes bs + alsNodes (als.take (j + 1))) (by rw [als_take als j hjk, HND.out]; omega))
              have HE := Lib.hid (show IntKind.i64.wrap (x + IntKind.i64.wrap (IntKind.i64.wrap (1 + r) + ↑pl)) = x + (r + (1 + (pl : Int))) by rw [IntWalk.i64_in (1 + r) (by omega), IntWalk.i64_in (1 + r + ↑pl) (by omega), IntWalk.i64_in _ (by omega)]; omega)
              clear hw1 hB0 hb2
              go_wp2_with fail
              go_roundw
              case rel => exact ⟨j + 1, _, by go_num, rfl, by omega, by rw [HE.out]; exact HS.out, HB2.out⟩
              case measure => simp [intOf]; omega
            · have HCN := Lib.hid (cnt_full (base' := 1 + exsNodes ks + alsNodes als + bdsNodes bs) HC.out (.inl hxm))
              go_wp2_with fail
              go_meet
              exact ⟨x, rfl, HCN.out, HBE.out⟩
            · subst hje
              have HCN := Lib.hid (cnt_full (base' := 1 + exsNodes ks + alsNodes als + bdsNodes bs) HC.out (.inr (by rw [← HA.out, List.take_length]; omega)))
              go_wp2_with fail
              go_meet
              exact ⟨x, rfl, HCN.out, HBE.out⟩
        case rest =>
          obtain ⟨x, rfl, hcn, hbe⟩ := hcut
          have hx1 := hcn.1
          have hx2 : x ≤ 8796093022208000000 := by have := hcn.2.1; omega
          have HCN := Lib.hid hcn
          have HBE := Lib.hid hbe
          clear hcn hbe
          go_wp2_with fail
          go_ret
          exact ⟨_, rfl, HCN.out.1, HCN.out.2.1, fun h => HCN.out.2.2 h, HBW.out.trans (HBE.out.mono (by have := HZW.out; omega))⟩

end Go.Proofs.Ytglamoiimmahgaa
