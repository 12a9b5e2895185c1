/- Walks: the program's split of binds into names and expressions. -/
import Derived.Test.YtglamoiimmahgaaPnam
import Derived.Test.YtglamoiimmahgaaValue
namespace Go.Proofs.Ytglamoiimmahgaa
open Go.RowKit
set_option linter.unusedVariables false
set_option maxRecDepth 100000

/-- What split answers: a new row of names, a new row of expressions. -/
def SplitSays (B : Nat) (bs : List Bd) (w : World) (e : Ending) (w' : World) : Prop :=
  ∃ v1 v2 L, e = .returned (.tuple #[v1, v2]) ∧ w'.ownsRow w.heap.size 9 1 v1 bs.length (nmVals (bs.map Bd.name)) ∧ w'.ownsRow w.heap.size 29 11 v2 bs.length L.flatten ∧ ExsAt w' B (bs.map Bd.exp) L ∧ Below w.heap.size w w'
theorem own_ne {w : World} {b1 b2 : Nat} {e1 e2 : TypeId} {s1 s2 n1 n2 : Nat} {v1 v2 : Value} {x1 x2 : List Value} (h1 : w.ownsRow b1 e1 s1 v1 n1 x1) (h2 : w.ownsRow b2 e2 s2 v2 n2 x2) (hne : e1 ≠ e2) : v1.ownBlock = none ∨ v1.ownBlock ≠ v2.ownBlock := by
  rcases h1.2 with ⟨rfl, _⟩ | ⟨g, cap, cur, rfl, hb, hh, _⟩
  · exact .inl (by simp [Value.ownBlock])
  · right
    rcases h2.2 with ⟨rfl, _⟩ | ⟨g', cap', cur', rfl, hb', hh', _⟩
    · simp [Value.ownBlock]
    · intro he
      have : g = g' := by simpa [Value.ownBlock] using he
      subst this
      rw [hh] at hh'
      injection hh' with hh'
      injection hh' with _ ht
      exact hne ht

set_option maxHeartbeats 6400000 in
theorem psplit_any (bs : List Bd) (A : Option Addr) (L : List (List Value)) (c B n : Nat) (w : World) (hB : B ≤ w.heap.size) (hn : bs.length = n) (hn9 : n ≤ 4000000) (ha : BdsAt w B A bs L) :
    Calls Try.prog 71 #[.slice A n c] w (SplitSays B bs w) := by
  obtain ⟨i0, hi, hz0, hz1, hz2⟩ := info_parts str_info
  obtain ⟨i1, hj, hy0, hy1, hy2⟩ := info_parts ex_info
  have HI := Lib.hid hi
  have HZ0 := Lib.hid hz0
  have HZ1 := Lib.hid hz1
  have HZ2 := Lib.hid hz2
  have HJ := Lib.hid hj
  have HY0 := Lib.hid hy0
  have HY1 := Lib.hid hy1
  have HY2 := Lib.hid hy2
  have HN := Lib.hid hn
  have HA := Lib.hid ha
  clear ha hi hz0 hz1 hz2 hn hj hy0 hy1 hy2
  go_enter Try.func71, Try.ntmps71
  go_wp2_with fail
  go_loopw [4, 5, 10] (fun v x i wr => ∃ (k : Nat) (Lr : List (List Value)), i = .int .i64 k ∧ k ≤ n ∧ wr.ownsRow w.heap.size 9 1 v k (nmVals ((bs.take k).map Bd.name)) ∧ wr.ownsRow w.heap.size 29 11 x k Lr.flatten ∧ ExsAt wr B ((bs.take k).map Bd.exp) Lr ∧ Below w.heap.size w wr) (fun _ _ i _ => n - (intOf i).toNat)
  case atStart => exact ⟨0, [], rfl, Nat.zero_le _, World.ownsRow_nil _ _ _ _, World.ownsRow_nil _ _ _ _, ExsAt.nil_ _ _, Below.refl _ _⟩
  case round =>
    obtain ⟨k, Lr, rfl, hk, hown, hown2, hex, hbe⟩ := hrel
    have hzr := hbe.size
    have HOW := Lib.hid hown
    have HOX := Lib.hid hown2
    have HEX := Lib.hid hex
    have HBE := Lib.hid hbe
    clear hown hown2 hex hbe
    by_cases hlt : k < n
    · have hkx : k < bs.length := by rw [HN.out]; exact hlt
      have hX := HA.out.later (HBE.out.mono hB)
      have hlx : k < L.length := by rw [hX.row.len]; exact hkx
      obtain ⟨g, o, c0, c1, c2, c3, c4, c5, c6, c7, c8, c9, c10, nm, e, q, rfl, hg, hb, _, u0, u12, he, k0, k1, k2, k3, k4, k5, k6, k7, k8, k9, k10⟩ := bd_cells hX.row hkx hlx (hX.each k hlx hkx)
      obtain ⟨xn, tk, tn, xq, xnm, tnm, tA, A4, Aa, Ab, tl, tc, kl, cc, al, ca, bl, cb, rfl, rfl, rfl, rfl, rfl, rfl, rfl, rfl, rfl, rfl, rfl⟩ := ex_shape he
      generalize e.kind = ek at *
      have HST := Lib.hid (show (bs.take (k + 1)).map Bd.name = (bs.take k).map Bd.name ++ [nm] by rw [List.take_succ_eq_append_getElem hkx, List.map_append, hb]; rfl)
      have HSX := Lib.hid (show (bs.take (k + 1)).map Bd.exp = (bs.take k).map Bd.exp ++ [e] by rw [List.take_succ_eq_append_getElem hkx, List.map_append, hb]; rfl)
      have HE := Lib.hid he
      clear hX hb he
      obtain ⟨W2, hW2⟩ : ∃ W2, wr.alloc (.cells #[.string nm, .int .i64 ek, .string xnm, .int .i64 xn, .int .i64 tk, .string tnm, .int .i64 tn, .slice tA tl tc, .slice A4 kl cc, .slice Aa al ca, .slice Ab bl cb, .int .i64 xq, .int .i64 q] 54) = W2 := ⟨_, rfl⟩
      have hbox := Blk.new wr 54 #[.string nm, .int .i64 ek, .string xnm, .int .i64 xn, .int .i64 tk, .string tnm, .int .i64 tn, .slice tA tl tc, .slice A4 kl cc, .slice Aa al ca, .slice Ab bl cb, .int .i64 xq, .int .i64 q]
      rw [hW2] at hbox
      have hbW : Below wr.heap.size wr W2 := by rw [← hW2]; exact (Below.refl _ _).alloc (Nat.le_refl _) _
      have hzW : W2.heap.size = wr.heap.size + 1 := by rw [← hW2]; simp
      have HW := Lib.hid hW2
      have HBX := Lib.hid hbox
      have HBW := Lib.hid hbW
      have HZW := Lib.hid hzW
      clear hW2 hbox hbW hzW
      go_wp2_with (at_builtin; refine wpList_append_own _ rfl (.tmp 14) (.tmp 17) 50 rfl w.heap.size 9 i0 (.string ⟨#[]⟩) 1 16 Try.underlying50 HI.out HZ0.out HZ1.out HZ2.out rfl (by decide) u4 k (nmVals ((bs.take k).map Bd.name)) rfl ((own_later HOW.out (by rw [HW.out]; exact HBW.out)).alloc _) ⟨wr.heap.size + 1, 0, none⟩ 1 1 [.string nm] rfl rfl (by rw [HW.out, ← HZW.out]; exact one_new _ _ _) (one_is rfl) (by unfold maxLen; omega) (by omega) (by simp; omega) ?_)
      intro v' w2 hown' hgrow _
      rw [HW.out] at hgrow
      have hbx2 := (HBX.out.alloc (.cells #[.string nm] 9)).grown hgrow (by
        intro e
        exact own_blk_ne ((own_later HOW.out HBW.out).alloc (.cells #[.string nm] 9)) (HBX.out.alloc (.cells #[.string nm] 9)) (by decide) e.symm)
      have hbel2 : Below w.heap.size w w2 := ((HBE.out.trans (HBW.out.mono hzr)).alloc (by have := HZW.out; omega) _).grown hgrow (by have := HZW.out; simp; omega) (own_base HOW.out)
      have HOX2 := Lib.hid (((own_later HOX.out HBW.out).alloc (.cells #[.string nm] 9)).kept hgrow (own_ne HOX.out HOW.out (by decide)))
      have HX2 := Lib.hid (show ExsAt w2 B ((bs.take k).map Bd.exp) Lr from HEX.out.later (((((Below.refl w.heap.size wr).trans (HBW.out.mono hzr)).alloc (by have := HZW.out; omega) _).grown hgrow (by have := HZW.out; simp; omega) (own_base HOW.out)).mono hB))
      have HE2 := Lib.hid (HE.out.later (((((Below.refl w.heap.size wr).trans (HBW.out.mono hzr)).alloc (by have := HZW.out; omega) _).grown hgrow (by have := HZW.out; simp; omega) (own_base HOW.out)).mono hB))
      have HB2 := Lib.hid hbel2
      have HOW2 := Lib.hid (show w2.ownsRow w.heap.size 9 1 v' (k + 1) (nmVals ((bs.take (k + 1)).map Bd.name)) by rw [HST.out]; simpa using hown')
      have hz2 : wr.heap.size + 1 ≤ w2.heap.size := hbx2.lt
      have hzw2 := hbel2.size
      have hd1 := hbx2.cell 1
      have hd2 := hbx2.cell 2
      have hd3 := hbx2.cell 3
      have hd4 := hbx2.cell 4
      have hd5 := hbx2.cell 5
      have hd6 := hbx2.cell 6
      have hd7 := hbx2.cell 7
      have hd8 := hbx2.cell 8
      have hd9 := hbx2.cell 9
      have hd10 := hbx2.cell 10
      have hd11 := hbx2.cell 11
      simp only [List.getElem?_toArray, List.getElem?_cons_succ, List.getElem?_cons_zero] at hd1 hd2 hd3 hd4 hd5 hd6 hd7 hd8 hd9 hd10 hd11
      clear hown' hgrow hbx2 hbel2 k0 k1 k2 k3 k4 k5 k6 k7 k8 k9 k10 u0 u12
      go_wp2_with (at_builtin; refine wpList_append_own _ rfl (.tmp 19) (.tmp 22) 25 rfl w.heap.size 29 i1 (.agg #[.int .i64 0, .string ⟨#[]⟩, .int .i64 0, .int .i64 0, .string ⟨#[]⟩, .int .i64 0, .slice none 0 0, .slice none 0 0, .slice none 0 0, .slice none 0 0, .int .i64 0]) 11 168 Try.underlying25 HJ.out HY0.out HY1.out HY2.out rfl (by decide) u5 k Lr.flatten rfl (HOX2.out.alloc _) ⟨w2.heap.size, 0, none⟩ 1 1 [.int .i64 ek, .string xnm, .int .i64 xn, .int .i64 tk, .string tnm, .int .i64 tn, .slice tA tl tc, .slice A4 kl cc, .slice Aa al ca, .slice Ab bl cb, .int .i64 xq] rfl rfl (eleven_new _ _) (ex_oneCell HE.out) (by unfold maxLen; omega) (by omega) (by simp; omega) ?_)
      intro v3 w3 hown3 hgrow3 _
      have hb3 : Below w.heap.size w2 w3 := ((Below.refl _ _).alloc hzw2 _).grown hgrow3 (by simp; omega) (own_base HOX2.out)
      have HG := Lib.hid (show w3.ownsRow w.heap.size 9 1 v' (k + 1) (nmVals ((bs.take (k + 1)).map Bd.name)) from (HOW2.out.alloc _).kept hgrow3 (own_ne HOW2.out HOX2.out (by decide)))
      have HH := Lib.hid (show w3.ownsRow w.heap.size 29 11 v3 (k + 1) (Lr ++ [([.int .i64 ek, .string xnm, .int .i64 xn, .int .i64 tk, .string tnm, .int .i64 tn, .slice tA tl tc, .slice A4 kl cc, .slice Aa al ca, .slice Ab bl cb, .int .i64 xq] : List Value)]).flatten by simpa using hown3)
      have HK := Lib.hid (show ExsAt w3 B ((bs.take (k + 1)).map Bd.exp) (Lr ++ [[.int .i64 ek, .string xnm, .int .i64 xn, .int .i64 tk, .string tnm, .int .i64 tn, .slice tA tl tc, .slice A4 kl cc, .slice Aa al ca, .slice Ab bl cb, .int .i64 xq]]) by
        rw [HSX.out]; exact (HX2.out.later (hb3.mono hB)).app (ExsAt.one (HE2.out.later (hb3.mono hB))))
      have HB3 := Lib.hid (HB2.out.trans hb3)
      clear hown3 hgrow3 hb3
      go_wp2_with fail
      go_roundw
      case rel => exact ⟨k + 1, _, by go_num, by omega, HG.out, HH.out, HK.out, HB3.out⟩
      case measure => simp [intOf]; omega
    · have hkn : k = n := by omega
      subst hkn
      have HF := Lib.hid (show SplitSays B bs w (.returned (.tuple #[_, _])) wr from ⟨_, _, Lr, rfl, by have := HOW.out; rw [List.take_of_length_le (by rw [HN.out]; omega)] at this; rw [HN.out]; exact this, by rw [HN.out]; exact HOX.out, by have := HEX.out; rw [List.take_of_length_le (by rw [HN.out]; omega)] at this; exact this, HBE.out⟩)
      go_wp2_with fail
      go_ret2
      exact HF.out

end Go.Proofs.Ytglamoiimmahgaa
