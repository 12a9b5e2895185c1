/-
  The law 'FixBack' of the document's layer returns true for every input, and leaves what it was given as it was. No condition.
-/
import Derived.Test.YtcfehoollfgmhaaRows
import Derived.WalkKit
import Derived.ProofKit
import Derived.OpenShut
import Derived.ShutString
import Derived.ChangeOld
import Derived.Below
import Derived.Carry
import Derived.Lib.SmallJoins
import Derived.SliceStrings
import Derived.Test.YtcfehoollfgmhaaFixg
namespace Go.Proofs.Ytcfehoollfgmhaa.fixBack
open Go.Proofs.Ytcfehoollfgmhaa
open Go.ChangeShapes Go.WideShapes Go.ChangeAt Go.RowKit Go.Joins
open Go.ChangeMaps (open_string shut_string)
set_option linter.unusedVariables false

theorem own : ownKnob Try.prog.godebug = none := by kernel_rfl
theorem laidOut : laidOutB Try.prog = true := by kernel_rfl

set_option maxRecDepth 100000 in
set_option maxHeartbeats 12800000 in
theorem walk (a0 : Option Addr) (n0 c0 : Nat) (z0 : List ByteArray) (w : World) (w0 : IsStrs w a0 n0 c0 z0) :
    Calls Try.prog 5 #[.slice a0 n0 c0] w fun e w' => e = .returned (.bool true) ∧ Below w.heap.size w w' := by
  obtain ⟨hlen, hnc, hcm, hrd, _⟩ := w0
  have hcm2 := hcm
  unfold maxLen at hcm2
  obtain ⟨f, hf⟩ : ∃ f, lvs z0 = f := ⟨_, rfl⟩
  by_cases hbig : 100 < n0
  · have d0 : decide ((100 : Int) < (n0 : Int)) = true := by simp; omega
    clear hlen hf
    go_enter Try.func5, Try.ntmps5
    go_wp2_with (go_at_call 6; refine (awake04_any _).mono ?_; rintro e w2 ⟨rfl, hg⟩)
    go_ret
    exact ⟨rfl, hg⟩
  · have d0 : decide ((100 : Int) < (n0 : Int)) = false := by simp; omega
    have hnm : n0 ≤ 8796093022208 := by omega
    rcases clash_or f n0 with ⟨k, hk, h1, h2⟩ | hn
    · have C1 := Lib.hid (fun W (hb : Below w.heap.size w W) => order_clash z0 a0 n0 c0 k W hnm ((hrd.below hb).more hb.size) hk (by rw [hf]; exact h1) (by rw [hf]; exact h2))
      clear hlen hf h1 h2
      go_enter Try.func5, Try.ntmps5
      go_wp2_with (first | (go_at_call 6; refine (awake04_any _).mono ?_; rintro e w2 ⟨rfl, hg⟩) | (go_at_call 12; (with_reducible refine (C1.out _ hg).mono ?_); rintro e w3 ⟨rfl, hb3⟩; have hg3 := hg.trans (hb3.mono hg.size)))
      go_ret
      exact ⟨rfl, hg3⟩
    · have C1 := Lib.hid (fun W (hb : Below w.heap.size w W) => order_noc z0 a0 n0 c0 W hnm ((hrd.below hb).more hb.size) (by rw [hf]; exact hn))
      obtain ⟨tpF, lsF, hsteps, hend⟩ := steps_all hn
      rw [hf] at C1
      obtain ⟨lst, hl⟩ : ∃ lst, ordL f 0 n0 = lst := ⟨_, rfl⟩
      rw [hl] at C1 hsteps
      have hll : lst.length = n0 := by rw [← hl]; exact ord_len f n0 0 n0 (by omega)
      have HST := Lib.hid hsteps
      have HEND := Lib.hid hend
      have HLL := Lib.hid hll
      have HLV := Lib.hid hf
      obtain ⟨i0, hi, hz0, hz1, hz2⟩ := info_parts int_info
      have hmk : ∀ W, _ := fun W => run_make_rowN (P := Try.prog) 29 3 i0 (.int .i64 0) Try.underlying29 hi hz0 .i64 .i64 (n0 + 1) (n0 + 1) (Nat.le_refl _) (by rw [hz2]; omega) (by omega) W
      rw [hz1, show ((n0 + 1 : Nat) : Int) = (n0 : Int) + 1 by omega, Nat.mul_one, show (Value.int IntKind.i64 0).cells = #[.int .i64 0] from rfl] at hmk
      clear hlen hf hl hn hsteps hend hll hi hz0 hz1 hz2
      go_enter Try.func5, Try.ntmps5
      go_wp2_with (first | (go_at_call 6; refine (awake04_any _).mono ?_; rintro e w2 ⟨rfl, hg⟩) | (go_at_call 12; (with_reducible refine (C1.out _ hg).mono ?_); rintro e w3 ⟨rfl, ⟨hr3, hs3⟩, hb3⟩; have hg3 := hg.trans (hb3.mono hg.size)))
      have HR3 := Lib.hid hr3
      have HG3 := Lib.hid hg3
      have HT0 := Lib.hid (two_made (w := w3) (n := n0))
      have hg32 := hg3.size
      clear hr3 hg hb3 hg3 hmk
      go_loopw [46] (fun i wr => ∃ k : Nat, i = .int .i64 k ∧ k ≤ n0 + 1 ∧ Two wr w3.heap.size (w3.heap.size + 1) n0 (inT k) (inL k) ∧ Below w3.heap.size w3 wr) (fun i _ => n0 + 1 - (intOf i).toNat)
      case atStart => exact ⟨0, rfl, by omega, HT0.out.congr (fun k _ => by unfold inT; rw [if_neg (by omega)]) (fun k _ => by unfold inL; rw [if_neg (by omega)]), ((Below.refl _ _).alloc (Nat.le_refl _) _).alloc (by simp) _⟩
      case round =>
        obtain ⟨k, rfl, hk, htwo, hbw⟩ := hrel
        have HT := Lib.hid htwo
        have HB := Lib.hid hbw
        clear htwo hbw
        by_cases hlt : k < n0 + 1
        · have hc1 := HT.out.top (show k ≤ n0 by omega)
          have hf1 := HT.out.1.frozen k
          have hc2 := (HT.out.setTop k (-1)).last (show k ≤ n0 by omega)
          have hf2 := (HT.out.setTop k (-1)).2.1.frozen k
          have hc3 := HT.out.last (show k ≤ n0 by omega)
          have hf3 := HT.out.2.1.frozen k
          go_wp2_with fail
          go_roundw
          case rel => exact ⟨k + 1, by go_num, by omega, by rw [← inT_step, ← inL_step]; exact (HT.out.setTop k (-1)).setLast k k, (HB.out.setCell (p := ⟨w3.heap.size, k, none⟩) (Nat.le_refl _) _).setCell (p := ⟨w3.heap.size + 1, k, none⟩) (Nat.le_succ _) _⟩
          case measure => simp [intOf]; omega
        · have HT2 := Lib.hid (HT.out.congr (tp' := fun _ => -1) (ls' := fun x => (x : Int)) (fun x _ => by unfold inT; rw [if_pos (by omega)]) (fun x _ => by unfold inL; rw [if_pos (by omega)]))
          clear HT HT0
          go_wp2_with fail
          go_loopw [59] (fun v W => ∃ (j : Nat) (tp ls : Nat → Int), v = .int .i64 j ∧ j ≤ n0 ∧ Steps f n0 tp ls (lst.drop j) tpF lsF ∧ Two W w3.heap.size (w3.heap.size + 1) n0 tp ls ∧ Below w3.heap.size w3 W) (fun v _ => n0 - (intOf v).toNat)
          case atStart => exact ⟨0, _, _, rfl, Nat.zero_le _, HST.out, HT2.out, HB.out⟩
          case round =>
            obtain ⟨j, tp, ls, rfl, hj, hst, htwo, hbw⟩ := hrel
            clear HB HT2
            have HS := Lib.hid hst
            have HT := Lib.hid htwo
            have HB := Lib.hid hbw
            clear hst htwo hbw
            by_cases hjl : j < n0
            · obtain ⟨hbl3, hcl0⟩ := ints_head HR3.out hjl
              obtain ⟨i, a, en, hij, ⟨hin, hai, q1, q2, q3, q4, q5, hen1, hen2⟩, hst2⟩ := steps_at (show j < lst.length by have := HLL.out; omega) HS.out
              rw [hij] at hcl0
              have hcl := (HB.out.cell (p := ⟨w2.heap.size, j, none⟩) hbl3).trans hcl0
              have HS2 := Lib.hid hst2
              have hLa := HT.out.last (show a ≤ n0 by omega)
              have HQ2 := Lib.hid q2
              rw [q2] at hLa
              have hLb := HT.out.last (show i + 1 ≤ n0 by omega)
              rw [q5] at hLb
              have Q2 := Lib.hid q1
              have Q3 := Lib.hid q3
              have Q4 := Lib.hid q4
              clear hcl0 hij hst2 q1 q2 q3 q4 q5
              rcases Nat.eq_or_lt_of_le hai with h | h
              · obtain rfl : i = a := h.symm
                clear h
                go_wp2_with fail
                go_loop [11] (fun v => v = .int .i64 i) (fun _ => 0)
                case atStart => rfl
                case round =>
                  obtain rfl := hrel
                  go_wp2_with fail
                  rcases Q3.out with h1 | ⟨r1, hr1, hne1, h1, hp1⟩
                  · rcases Q4.out with h2 | ⟨r2, hr2, h2, hp2⟩
                    · have hTa := HT.out.top (show i ≤ n0 by omega)
                      rw [h1] at hTa
                      have hTb := HT.out.top (show i + 1 ≤ n0 by omega)
                      rw [h2] at hTb
                      clear h1 h2
                      go_quiet (fail)
                      have hF1 := HT.out.1.frozen i
                      have hF2 := HT.out.2.1.frozen i
                      have hL3 := (HT.out.setTop i (i : Int)).last (show i ≤ n0 by omega)
                      rw [HQ2.out] at hL3
                      have hF3 := (HT.out.setTop i (i : Int)).2.1.frozen i
                      have HT3 := Lib.hid ((HT.out.setTop i (i : Int)).setLast i (en : Int))
                      have HB3 := Lib.hid ((HB.out.setCell (p := ⟨w3.heap.size, i, none⟩) (Nat.le_refl _) (.int .i64 (i : Int))).setCell (p := ⟨w3.heap.size + 1, i, none⟩) (Nat.le_succ _) (.int .i64 (en : Int)))
                      go_wp2_with fail
                      go_loopw [14] (fun v W => ∃ k : Nat, v = .int .i64 k ∧ i + 1 ≤ k ∧ k ≤ en + 1 ∧ Two W w3.heap.size (w3.heap.size + 1) n0 (upd tp i i) (fillTo ls i en k) ∧ Below w3.heap.size w3 W) (fun v _ => en + 1 - (intOf v).toNat)
                      case atStart => exact ⟨i + 1, by go_num, Nat.le_refl _, by omega, by rw [← fillTo_start]; exact HT3.out.drewN _, below_drewN HB3.out _⟩
                      case round =>
                        obtain ⟨k, rfl, hk1, hk2, htwo, hbw⟩ := hrel
                        have HT4 := Lib.hid htwo
                        have HB4 := Lib.hid hbw
                        clear htwo hbw hTa hTb hcl hLa hLb hF1 hF2 hL3 hF3
                        by_cases hke : k < en + 1
                        · have hL4 := HT4.out.last (show k ≤ n0 by omega)
                          have hF4 := HT4.out.2.1.frozen k
                          have HT5 := HT4.out.setLast k (i : Int)
                          rw [fillTo_step ls i en k (by omega)] at HT5
                          have HT6 := Lib.hid HT5
                          clear HT5
                          go_wp2_with fail
                          go_roundw
                          case rel => exact ⟨k + 1, by go_num, by omega, by omega, HT6.out, HB4.out.setCell (p := ⟨w3.heap.size + 1, k, none⟩) (Nat.le_succ _) _⟩
                          case measure => simp [intOf]; omega
                        · obtain rfl : k = en + 1 := by omega
                          have HT7 := HT4.out
                          rw [fillTo_end] at HT7
                          have HT8 := Lib.hid HT7
                          clear HT7
                          go_wp2_with fail
                          go_roundw
                          case rel => exact ⟨j + 1, upd tp i i, fill ls i en, by go_num, by omega, HS2.out, HT8.out, HB4.out⟩
                          case measure => simp [intOf]; omega
                    · have hTa := HT.out.top (show i ≤ n0 by omega)
                      rw [h1] at hTa
                      have hTb := HT.out.top (show i + 1 ≤ n0 by omega)
                      rw [h2] at hTb
                      obtain ⟨ad, si, rfl, hbi, hci, HLi⟩ := str_at hrd hin
                      rw [HLV.out] at HLi
                      have hci' := ((HG3.out.trans (HB.out.mono HG3.out.size)).cell hbi).trans hci
                      obtain ⟨ad2, s2, ea2, hb2, hc2, HL2⟩ := str_at hrd hr2
                      injection ea2 with ea2
                      subst ea2
                      rw [HLV.out] at HL2
                      have hc2' := ((HG3.out.trans (HB.out.mono HG3.out.size)).cell hb2).trans hc2
                      have NB2 := Lib.hid (fun W => needs_any si s2 true W (f i) (f r2) HLi HL2 false (Lib.hid ((stays_iff _ _).2 hp2)))
                      clear h1 h2 hp2 hbi hci hb2 hc2
                      go_quiet ((first | (go_at_call 10; with_reducible exact quiet_left (NB2.out _))))
                      have hF1 := HT.out.1.frozen i
                      have hF2 := HT.out.2.1.frozen i
                      have hL3 := (HT.out.setTop i (i : Int)).last (show i ≤ n0 by omega)
                      rw [HQ2.out] at hL3
                      have hF3 := (HT.out.setTop i (i : Int)).2.1.frozen i
                      have HT3 := Lib.hid ((HT.out.setTop i (i : Int)).setLast i (en : Int))
                      have HB3 := Lib.hid ((HB.out.setCell (p := ⟨w3.heap.size, i, none⟩) (Nat.le_refl _) (.int .i64 (i : Int))).setCell (p := ⟨w3.heap.size + 1, i, none⟩) (Nat.le_succ _) (.int .i64 (en : Int)))
                      go_wp2_with fail
                      go_loopw [14] (fun v W => ∃ k : Nat, v = .int .i64 k ∧ i + 1 ≤ k ∧ k ≤ en + 1 ∧ Two W w3.heap.size (w3.heap.size + 1) n0 (upd tp i i) (fillTo ls i en k) ∧ Below w3.heap.size w3 W) (fun v _ => en + 1 - (intOf v).toNat)
                      case atStart => exact ⟨i + 1, by go_num, Nat.le_refl _, by omega, by rw [← fillTo_start]; exact HT3.out.drewN _, below_drewN HB3.out _⟩
                      case round =>
                        obtain ⟨k, rfl, hk1, hk2, htwo, hbw⟩ := hrel
                        have HT4 := Lib.hid htwo
                        have HB4 := Lib.hid hbw
                        clear htwo hbw hTa hTb hcl hLa hLb hF1 hF2 hL3 hF3
                        by_cases hke : k < en + 1
                        · have hL4 := HT4.out.last (show k ≤ n0 by omega)
                          have hF4 := HT4.out.2.1.frozen k
                          have HT5 := HT4.out.setLast k (i : Int)
                          rw [fillTo_step ls i en k (by omega)] at HT5
                          have HT6 := Lib.hid HT5
                          clear HT5
                          go_wp2_with fail
                          go_roundw
                          case rel => exact ⟨k + 1, by go_num, by omega, by omega, HT6.out, HB4.out.setCell (p := ⟨w3.heap.size + 1, k, none⟩) (Nat.le_succ _) _⟩
                          case measure => simp [intOf]; omega
                        · obtain rfl : k = en + 1 := by omega
                          have HT7 := HT4.out
                          rw [fillTo_end] at HT7
                          have HT8 := Lib.hid HT7
                          clear HT7
                          go_wp2_with fail
                          go_roundw
                          case rel => exact ⟨j + 1, upd tp i i, fill ls i en, by go_num, by omega, HS2.out, HT8.out, HB4.out⟩
                          case measure => simp [intOf]; omega
                  · rcases Q4.out with h2 | ⟨r2, hr2, h2, hp2⟩
                    · have hTa := HT.out.top (show i ≤ n0 by omega)
                      rw [h1] at hTa
                      have hTb := HT.out.top (show i + 1 ≤ n0 by omega)
                      rw [h2] at hTb
                      obtain ⟨ad, si, rfl, hbi, hci, HLi⟩ := str_at hrd hin
                      rw [HLV.out] at HLi
                      have hci' := ((HG3.out.trans (HB.out.mono HG3.out.size)).cell hbi).trans hci
                      obtain ⟨ad1, s1, ea1, hb1, hc1, HL1⟩ := str_at hrd hr1
                      injection ea1 with ea1
                      subst ea1
                      rw [HLV.out] at HL1
                      have hc1' := ((HG3.out.trans (HB.out.mono HG3.out.size)).cell hb1).trans hc1
                      have NB1 := Lib.hid (fun W => needs_any si s1 false W (f i) (f r1) HLi HL1 false (Lib.hid ((pops_iff _ _).2 hp1)))
                      have e1 : ((r1 : Int) == (i : Int)) = false := by simp; omega
                      clear h1 h2 hp1 hne1 hbi hci hb1 hc1
                      go_quiet ((first | (go_at_call 10; with_reducible exact quiet_left (NB1.out _))))
                      have hF1 := HT.out.1.frozen i
                      have hF2 := HT.out.2.1.frozen i
                      have hL3 := (HT.out.setTop i (i : Int)).last (show i ≤ n0 by omega)
                      rw [HQ2.out] at hL3
                      have hF3 := (HT.out.setTop i (i : Int)).2.1.frozen i
                      have HT3 := Lib.hid ((HT.out.setTop i (i : Int)).setLast i (en : Int))
                      have HB3 := Lib.hid ((HB.out.setCell (p := ⟨w3.heap.size, i, none⟩) (Nat.le_refl _) (.int .i64 (i : Int))).setCell (p := ⟨w3.heap.size + 1, i, none⟩) (Nat.le_succ _) (.int .i64 (en : Int)))
                      go_wp2_with fail
                      go_loopw [14] (fun v W => ∃ k : Nat, v = .int .i64 k ∧ i + 1 ≤ k ∧ k ≤ en + 1 ∧ Two W w3.heap.size (w3.heap.size + 1) n0 (upd tp i i) (fillTo ls i en k) ∧ Below w3.heap.size w3 W) (fun v _ => en + 1 - (intOf v).toNat)
                      case atStart => exact ⟨i + 1, by go_num, Nat.le_refl _, by omega, by rw [← fillTo_start]; exact HT3.out.drewN _, below_drewN HB3.out _⟩
                      case round =>
                        obtain ⟨k, rfl, hk1, hk2, htwo, hbw⟩ := hrel
                        have HT4 := Lib.hid htwo
                        have HB4 := Lib.hid hbw
                        clear htwo hbw hTa hTb hcl hLa hLb hF1 hF2 hL3 hF3
                        by_cases hke : k < en + 1
                        · have hL4 := HT4.out.last (show k ≤ n0 by omega)
                          have hF4 := HT4.out.2.1.frozen k
                          have HT5 := HT4.out.setLast k (i : Int)
                          rw [fillTo_step ls i en k (by omega)] at HT5
                          have HT6 := Lib.hid HT5
                          clear HT5
                          go_wp2_with fail
                          go_roundw
                          case rel => exact ⟨k + 1, by go_num, by omega, by omega, HT6.out, HB4.out.setCell (p := ⟨w3.heap.size + 1, k, none⟩) (Nat.le_succ _) _⟩
                          case measure => simp [intOf]; omega
                        · obtain rfl : k = en + 1 := by omega
                          have HT7 := HT4.out
                          rw [fillTo_end] at HT7
                          have HT8 := Lib.hid HT7
                          clear HT7
                          go_wp2_with fail
                          go_roundw
                          case rel => exact ⟨j + 1, upd tp i i, fill ls i en, by go_num, by omega, HS2.out, HT8.out, HB4.out⟩
                          case measure => simp [intOf]; omega
                    · have hTa := HT.out.top (show i ≤ n0 by omega)
                      rw [h1] at hTa
                      have hTb := HT.out.top (show i + 1 ≤ n0 by omega)
                      rw [h2] at hTb
                      obtain ⟨ad, si, rfl, hbi, hci, HLi⟩ := str_at hrd hin
                      rw [HLV.out] at HLi
                      have hci' := ((HG3.out.trans (HB.out.mono HG3.out.size)).cell hbi).trans hci
                      obtain ⟨ad1, s1, ea1, hb1, hc1, HL1⟩ := str_at hrd hr1
                      injection ea1 with ea1
                      subst ea1
                      rw [HLV.out] at HL1
                      have hc1' := ((HG3.out.trans (HB.out.mono HG3.out.size)).cell hb1).trans hc1
                      have NB1 := Lib.hid (fun W => needs_any si s1 false W (f i) (f r1) HLi HL1 false (Lib.hid ((pops_iff _ _).2 hp1)))
                      obtain ⟨ad2, s2, ea2, hb2, hc2, HL2⟩ := str_at hrd hr2
                      injection ea2 with ea2
                      subst ea2
                      rw [HLV.out] at HL2
                      have hc2' := ((HG3.out.trans (HB.out.mono HG3.out.size)).cell hb2).trans hc2
                      have NB2 := Lib.hid (fun W => needs_any si s2 true W (f i) (f r2) HLi HL2 false (Lib.hid ((stays_iff _ _).2 hp2)))
                      have e1 : ((r1 : Int) == (i : Int)) = false := by simp; omega
                      clear h1 h2 hp1 hne1 hp2 hbi hci hb1 hc1 hb2 hc2
                      go_quiet ((first | (go_at_call 10; with_reducible exact quiet_left (NB1.out _)) | (go_at_call 10; with_reducible exact quiet_left (NB2.out _))))
                      have hF1 := HT.out.1.frozen i
                      have hF2 := HT.out.2.1.frozen i
                      have hL3 := (HT.out.setTop i (i : Int)).last (show i ≤ n0 by omega)
                      rw [HQ2.out] at hL3
                      have hF3 := (HT.out.setTop i (i : Int)).2.1.frozen i
                      have HT3 := Lib.hid ((HT.out.setTop i (i : Int)).setLast i (en : Int))
                      have HB3 := Lib.hid ((HB.out.setCell (p := ⟨w3.heap.size, i, none⟩) (Nat.le_refl _) (.int .i64 (i : Int))).setCell (p := ⟨w3.heap.size + 1, i, none⟩) (Nat.le_succ _) (.int .i64 (en : Int)))
                      go_wp2_with fail
                      go_loopw [14] (fun v W => ∃ k : Nat, v = .int .i64 k ∧ i + 1 ≤ k ∧ k ≤ en + 1 ∧ Two W w3.heap.size (w3.heap.size + 1) n0 (upd tp i i) (fillTo ls i en k) ∧ Below w3.heap.size w3 W) (fun v _ => en + 1 - (intOf v).toNat)
                      case atStart => exact ⟨i + 1, by go_num, Nat.le_refl _, by omega, by rw [← fillTo_start]; exact HT3.out.drewN _, below_drewN HB3.out _⟩
                      case round =>
                        obtain ⟨k, rfl, hk1, hk2, htwo, hbw⟩ := hrel
                        have HT4 := Lib.hid htwo
                        have HB4 := Lib.hid hbw
                        clear htwo hbw hTa hTb hcl hLa hLb hF1 hF2 hL3 hF3
                        by_cases hke : k < en + 1
                        · have hL4 := HT4.out.last (show k ≤ n0 by omega)
                          have hF4 := HT4.out.2.1.frozen k
                          have HT5 := HT4.out.setLast k (i : Int)
                          rw [fillTo_step ls i en k (by omega)] at HT5
                          have HT6 := Lib.hid HT5
                          clear HT5
                          go_wp2_with fail
                          go_roundw
                          case rel => exact ⟨k + 1, by go_num, by omega, by omega, HT6.out, HB4.out.setCell (p := ⟨w3.heap.size + 1, k, none⟩) (Nat.le_succ _) _⟩
                          case measure => simp [intOf]; omega
                        · obtain rfl : k = en + 1 := by omega
                          have HT7 := HT4.out
                          rw [fillTo_end] at HT7
                          have HT8 := Lib.hid HT7
                          clear HT7
                          go_wp2_with fail
                          go_roundw
                          case rel => exact ⟨j + 1, upd tp i i, fill ls i en, by go_num, by omega, HS2.out, HT8.out, HB4.out⟩
                          case measure => simp [intOf]; omega
              · have hLi := HT.out.last (show i ≤ n0 by omega)
                rw [Q2.out h] at hLi
                go_wp2_with fail
                go_loop [11] (fun v => ∃ x : Nat, v = .int .i64 x ∧ (x = i ∨ x = a)) (fun v => (intOf v).toNat)
                case atStart => exact ⟨i, rfl, .inl rfl⟩
                case round =>
                  obtain ⟨x, rfl, hx⟩ := hrel
                  rcases hx with rfl | rfl
                  · go_wp2_with fail
                    go_round
                    case rel => exact ⟨a, rfl, .inr rfl⟩
                    case measure => simp [intOf]; omega
                  · go_wp2_with fail
                    rcases Q3.out with h1 | ⟨r1, hr1, hne1, h1, hp1⟩
                    · rcases Q4.out with h2 | ⟨r2, hr2, h2, hp2⟩
                      · have hTa := HT.out.top (show x ≤ n0 by omega)
                        rw [h1] at hTa
                        have hTb := HT.out.top (show i + 1 ≤ n0 by omega)
                        rw [h2] at hTb
                        clear h1 h2
                        go_quiet (fail)
                        have hF1 := HT.out.1.frozen x
                        have hF2 := HT.out.2.1.frozen x
                        have hL3 := (HT.out.setTop x (i : Int)).last (show x ≤ n0 by omega)
                        rw [HQ2.out] at hL3
                        have hF3 := (HT.out.setTop x (i : Int)).2.1.frozen x
                        have HT3 := Lib.hid ((HT.out.setTop x (i : Int)).setLast x (en : Int))
                        have HB3 := Lib.hid ((HB.out.setCell (p := ⟨w3.heap.size, x, none⟩) (Nat.le_refl _) (.int .i64 (i : Int))).setCell (p := ⟨w3.heap.size + 1, x, none⟩) (Nat.le_succ _) (.int .i64 (en : Int)))
                        go_wp2_with fail
                        go_loopw [14] (fun v W => ∃ k : Nat, v = .int .i64 k ∧ x + 1 ≤ k ∧ k ≤ en + 1 ∧ Two W w3.heap.size (w3.heap.size + 1) n0 (upd tp x i) (fillTo ls x en k) ∧ Below w3.heap.size w3 W) (fun v _ => en + 1 - (intOf v).toNat)
                        case atStart => exact ⟨x + 1, by go_num, Nat.le_refl _, by omega, by rw [← fillTo_start]; exact HT3.out.drewN _, below_drewN HB3.out _⟩
                        case round =>
                          obtain ⟨k, rfl, hk1, hk2, htwo, hbw⟩ := hrel
                          have HT4 := Lib.hid htwo
                          have HB4 := Lib.hid hbw
                          clear htwo hbw hTa hTb hcl hLa hLb hF1 hF2 hL3 hF3
                          by_cases hke : k < en + 1
                          · have hL4 := HT4.out.last (show k ≤ n0 by omega)
                            have hF4 := HT4.out.2.1.frozen k
                            have HT5 := HT4.out.setLast k (x : Int)
                            rw [fillTo_step ls x en k (by omega)] at HT5
                            have HT6 := Lib.hid HT5
                            clear HT5
                            go_wp2_with fail
                            go_roundw
                            case rel => exact ⟨k + 1, by go_num, by omega, by omega, HT6.out, HB4.out.setCell (p := ⟨w3.heap.size + 1, k, none⟩) (Nat.le_succ _) _⟩
                            case measure => simp [intOf]; omega
                          · obtain rfl : k = en + 1 := by omega
                            have HT7 := HT4.out
                            rw [fillTo_end] at HT7
                            have HT8 := Lib.hid HT7
                            clear HT7
                            go_wp2_with fail
                            go_roundw
                            case rel => exact ⟨j + 1, upd tp x i, fill ls x en, by go_num, by omega, HS2.out, HT8.out, HB4.out⟩
                            case measure => simp [intOf]; omega
                      · have hTa := HT.out.top (show x ≤ n0 by omega)
                        rw [h1] at hTa
                        have hTb := HT.out.top (show i + 1 ≤ n0 by omega)
                        rw [h2] at hTb
                        obtain ⟨ad, si, rfl, hbi, hci, HLi⟩ := str_at hrd hin
                        rw [HLV.out] at HLi
                        have hci' := ((HG3.out.trans (HB.out.mono HG3.out.size)).cell hbi).trans hci
                        obtain ⟨ad2, s2, ea2, hb2, hc2, HL2⟩ := str_at hrd hr2
                        injection ea2 with ea2
                        subst ea2
                        rw [HLV.out] at HL2
                        have hc2' := ((HG3.out.trans (HB.out.mono HG3.out.size)).cell hb2).trans hc2
                        have NB2 := Lib.hid (fun W => needs_any si s2 true W (f i) (f r2) HLi HL2 false (Lib.hid ((stays_iff _ _).2 hp2)))
                        clear h1 h2 hp2 hbi hci hb2 hc2
                        go_quiet ((first | (go_at_call 10; with_reducible exact quiet_left (NB2.out _))))
                        have hF1 := HT.out.1.frozen x
                        have hF2 := HT.out.2.1.frozen x
                        have hL3 := (HT.out.setTop x (i : Int)).last (show x ≤ n0 by omega)
                        rw [HQ2.out] at hL3
                        have hF3 := (HT.out.setTop x (i : Int)).2.1.frozen x
                        have HT3 := Lib.hid ((HT.out.setTop x (i : Int)).setLast x (en : Int))
                        have HB3 := Lib.hid ((HB.out.setCell (p := ⟨w3.heap.size, x, none⟩) (Nat.le_refl _) (.int .i64 (i : Int))).setCell (p := ⟨w3.heap.size + 1, x, none⟩) (Nat.le_succ _) (.int .i64 (en : Int)))
                        go_wp2_with fail
                        go_loopw [14] (fun v W => ∃ k : Nat, v = .int .i64 k ∧ x + 1 ≤ k ∧ k ≤ en + 1 ∧ Two W w3.heap.size (w3.heap.size + 1) n0 (upd tp x i) (fillTo ls x en k) ∧ Below w3.heap.size w3 W) (fun v _ => en + 1 - (intOf v).toNat)
                        case atStart => exact ⟨x + 1, by go_num, Nat.le_refl _, by omega, by rw [← fillTo_start]; exact HT3.out.drewN _, below_drewN HB3.out _⟩
                        case round =>
                          obtain ⟨k, rfl, hk1, hk2, htwo, hbw⟩ := hrel
                          have HT4 := Lib.hid htwo
                          have HB4 := Lib.hid hbw
                          clear htwo hbw hTa hTb hcl hLa hLb hF1 hF2 hL3 hF3
                          by_cases hke : k < en + 1
                          · have hL4 := HT4.out.last (show k ≤ n0 by omega)
                            have hF4 := HT4.out.2.1.frozen k
                            have HT5 := HT4.out.setLast k (x : Int)
                            rw [fillTo_step ls x en k (by omega)] at HT5
                            have HT6 := Lib.hid HT5
                            clear HT5
                            go_wp2_with fail
                            go_roundw
                            case rel => exact ⟨k + 1, by go_num, by omega, by omega, HT6.out, HB4.out.setCell (p := ⟨w3.heap.size + 1, k, none⟩) (Nat.le_succ _) _⟩
                            case measure => simp [intOf]; omega
                          · obtain rfl : k = en + 1 := by omega
                            have HT7 := HT4.out
                            rw [fillTo_end] at HT7
                            have HT8 := Lib.hid HT7
                            clear HT7
                            go_wp2_with fail
                            go_roundw
                            case rel => exact ⟨j + 1, upd tp x i, fill ls x en, by go_num, by omega, HS2.out, HT8.out, HB4.out⟩
                            case measure => simp [intOf]; omega
                    · rcases Q4.out with h2 | ⟨r2, hr2, h2, hp2⟩
                      · have hTa := HT.out.top (show x ≤ n0 by omega)
                        rw [h1] at hTa
                        have hTb := HT.out.top (show i + 1 ≤ n0 by omega)
                        rw [h2] at hTb
                        obtain ⟨ad, si, rfl, hbi, hci, HLi⟩ := str_at hrd hin
                        rw [HLV.out] at HLi
                        have hci' := ((HG3.out.trans (HB.out.mono HG3.out.size)).cell hbi).trans hci
                        obtain ⟨ad1, s1, ea1, hb1, hc1, HL1⟩ := str_at hrd hr1
                        injection ea1 with ea1
                        subst ea1
                        rw [HLV.out] at HL1
                        have hc1' := ((HG3.out.trans (HB.out.mono HG3.out.size)).cell hb1).trans hc1
                        have NB1 := Lib.hid (fun W => needs_any si s1 false W (f i) (f r1) HLi HL1 false (Lib.hid ((pops_iff _ _).2 hp1)))
                        have e1 : ((r1 : Int) == (i : Int)) = false := by simp; omega
                        clear h1 h2 hp1 hne1 hbi hci hb1 hc1
                        go_quiet ((first | (go_at_call 10; with_reducible exact quiet_left (NB1.out _))))
                        have hF1 := HT.out.1.frozen x
                        have hF2 := HT.out.2.1.frozen x
                        have hL3 := (HT.out.setTop x (i : Int)).last (show x ≤ n0 by omega)
                        rw [HQ2.out] at hL3
                        have hF3 := (HT.out.setTop x (i : Int)).2.1.frozen x
                        have HT3 := Lib.hid ((HT.out.setTop x (i : Int)).setLast x (en : Int))
                        have HB3 := Lib.hid ((HB.out.setCell (p := ⟨w3.heap.size, x, none⟩) (Nat.le_refl _) (.int .i64 (i : Int))).setCell (p := ⟨w3.heap.size + 1, x, none⟩) (Nat.le_succ _) (.int .i64 (en : Int)))
                        go_wp2_with fail
                        go_loopw [14] (fun v W => ∃ k : Nat, v = .int .i64 k ∧ x + 1 ≤ k ∧ k ≤ en + 1 ∧ Two W w3.heap.size (w3.heap.size + 1) n0 (upd tp x i) (fillTo ls x en k) ∧ Below w3.heap.size w3 W) (fun v _ => en + 1 - (intOf v).toNat)
                        case atStart => exact ⟨x + 1, by go_num, Nat.le_refl _, by omega, by rw [← fillTo_start]; exact HT3.out.drewN _, below_drewN HB3.out _⟩
                        case round =>
                          obtain ⟨k, rfl, hk1, hk2, htwo, hbw⟩ := hrel
                          have HT4 := Lib.hid htwo
                          have HB4 := Lib.hid hbw
                          clear htwo hbw hTa hTb hcl hLa hLb hF1 hF2 hL3 hF3
                          by_cases hke : k < en + 1
                          · have hL4 := HT4.out.last (show k ≤ n0 by omega)
                            have hF4 := HT4.out.2.1.frozen k
                            have HT5 := HT4.out.setLast k (x : Int)
                            rw [fillTo_step ls x en k (by omega)] at HT5
                            have HT6 := Lib.hid HT5
                            clear HT5
                            go_wp2_with fail
                            go_roundw
                            case rel => exact ⟨k + 1, by go_num, by omega, by omega, HT6.out, HB4.out.setCell (p := ⟨w3.heap.size + 1, k, none⟩) (Nat.le_succ _) _⟩
                            case measure => simp [intOf]; omega
                          · obtain rfl : k = en + 1 := by omega
                            have HT7 := HT4.out
                            rw [fillTo_end] at HT7
                            have HT8 := Lib.hid HT7
                            clear HT7
                            go_wp2_with fail
                            go_roundw
                            case rel => exact ⟨j + 1, upd tp x i, fill ls x en, by go_num, by omega, HS2.out, HT8.out, HB4.out⟩
                            case measure => simp [intOf]; omega
                      · have hTa := HT.out.top (show x ≤ n0 by omega)
                        rw [h1] at hTa
                        have hTb := HT.out.top (show i + 1 ≤ n0 by omega)
                        rw [h2] at hTb
                        obtain ⟨ad, si, rfl, hbi, hci, HLi⟩ := str_at hrd hin
                        rw [HLV.out] at HLi
                        have hci' := ((HG3.out.trans (HB.out.mono HG3.out.size)).cell hbi).trans hci
                        obtain ⟨ad1, s1, ea1, hb1, hc1, HL1⟩ := str_at hrd hr1
                        injection ea1 with ea1
                        subst ea1
                        rw [HLV.out] at HL1
                        have hc1' := ((HG3.out.trans (HB.out.mono HG3.out.size)).cell hb1).trans hc1
                        have NB1 := Lib.hid (fun W => needs_any si s1 false W (f i) (f r1) HLi HL1 false (Lib.hid ((pops_iff _ _).2 hp1)))
                        obtain ⟨ad2, s2, ea2, hb2, hc2, HL2⟩ := str_at hrd hr2
                        injection ea2 with ea2
                        subst ea2
                        rw [HLV.out] at HL2
                        have hc2' := ((HG3.out.trans (HB.out.mono HG3.out.size)).cell hb2).trans hc2
                        have NB2 := Lib.hid (fun W => needs_any si s2 true W (f i) (f r2) HLi HL2 false (Lib.hid ((stays_iff _ _).2 hp2)))
                        have e1 : ((r1 : Int) == (i : Int)) = false := by simp; omega
                        clear h1 h2 hp1 hne1 hp2 hbi hci hb1 hc1 hb2 hc2
                        go_quiet ((first | (go_at_call 10; with_reducible exact quiet_left (NB1.out _)) | (go_at_call 10; with_reducible exact quiet_left (NB2.out _))))
                        have hF1 := HT.out.1.frozen x
                        have hF2 := HT.out.2.1.frozen x
                        have hL3 := (HT.out.setTop x (i : Int)).last (show x ≤ n0 by omega)
                        rw [HQ2.out] at hL3
                        have hF3 := (HT.out.setTop x (i : Int)).2.1.frozen x
                        have HT3 := Lib.hid ((HT.out.setTop x (i : Int)).setLast x (en : Int))
                        have HB3 := Lib.hid ((HB.out.setCell (p := ⟨w3.heap.size, x, none⟩) (Nat.le_refl _) (.int .i64 (i : Int))).setCell (p := ⟨w3.heap.size + 1, x, none⟩) (Nat.le_succ _) (.int .i64 (en : Int)))
                        go_wp2_with fail
                        go_loopw [14] (fun v W => ∃ k : Nat, v = .int .i64 k ∧ x + 1 ≤ k ∧ k ≤ en + 1 ∧ Two W w3.heap.size (w3.heap.size + 1) n0 (upd tp x i) (fillTo ls x en k) ∧ Below w3.heap.size w3 W) (fun v _ => en + 1 - (intOf v).toNat)
                        case atStart => exact ⟨x + 1, by go_num, Nat.le_refl _, by omega, by rw [← fillTo_start]; exact HT3.out.drewN _, below_drewN HB3.out _⟩
                        case round =>
                          obtain ⟨k, rfl, hk1, hk2, htwo, hbw⟩ := hrel
                          have HT4 := Lib.hid htwo
                          have HB4 := Lib.hid hbw
                          clear htwo hbw hTa hTb hcl hLa hLb hF1 hF2 hL3 hF3
                          by_cases hke : k < en + 1
                          · have hL4 := HT4.out.last (show k ≤ n0 by omega)
                            have hF4 := HT4.out.2.1.frozen k
                            have HT5 := HT4.out.setLast k (x : Int)
                            rw [fillTo_step ls x en k (by omega)] at HT5
                            have HT6 := Lib.hid HT5
                            clear HT5
                            go_wp2_with fail
                            go_roundw
                            case rel => exact ⟨k + 1, by go_num, by omega, by omega, HT6.out, HB4.out.setCell (p := ⟨w3.heap.size + 1, k, none⟩) (Nat.le_succ _) _⟩
                            case measure => simp [intOf]; omega
                          · obtain rfl : k = en + 1 := by omega
                            have HT7 := HT4.out
                            rw [fillTo_end] at HT7
                            have HT8 := Lib.hid HT7
                            clear HT7
                            go_wp2_with fail
                            go_roundw
                            case rel => exact ⟨j + 1, upd tp x i, fill ls x en, by go_num, by omega, HS2.out, HT8.out, HB4.out⟩
                            case measure => simp [intOf]; omega
            · have hls := steps_done (show lst.length ≤ j by have := HLL.out; omega) HS.out
              subst hls
              have h00 := HT.out.last (Nat.zero_le n0)
              rw [HEND.out] at h00
              by_cases hz : n0 = 0
              · have hd : ((n0 : Int) == 0) = true := by simp; omega
                have HZ := Lib.hid hz
                clear hz
                go_wp2_with fail
                go_ret
                exact ⟨rfl, HG3.out.trans (HB.out.mono HG3.out.size)⟩
              · have hd : ((n0 : Int) == 0) = false := by simp; omega
                have HZ := Lib.hid hz
                clear hz
                go_wp2_with fail
                go_ret
                exact ⟨rfl, HG3.out.trans (HB.out.mono HG3.out.size)⟩

set_option maxRecDepth 100000 in
theorem lifted (os : Os) (started : os.Started) (H : Type) (enc : TypeId × Value → H) :
    ReturnsInHanded {} Try.checked os 5 .any (Rows.fixBackSpec.pre6 enc Try.prog Try.f5 Rows.fixBackRow.domain false) (Rows.fixBackSpec.post enc Try.prog Try.f5 false true false false) := by
  refine returnsInHanded_of_change (C := Try.checked) own started (by kernel_rfl) Try.func5
    (ChangeSpec.witness6 (enc := enc) (C := Try.checked) false ⟨#[], #[.slice none 0 0], []⟩ 8 (by kernel_rfl) (by kernel_rfl) (by kernel_rfl) (by kernel_rfl)) ?_
  intro W base args ds gs before hval0 hW hcnd _
  have hval : ∀ (j : Nat) t v, Try.f5.params[j]? = some t → args[j]? = some v → Value.okWide Try.prog W .any base t v := hval0
  have hW' := hW
  obtain ⟨p, q, hA0, hV, rfl, hfz, hnd⟩ := hW
  have hA : DataW.TrodAll enc Try.prog W 0 (fun _ => true) true Try.f5.params.toList args.toList ds p := hA0
  rw [Try.params5] at hA hval
  obtain ⟨v0, vs0, d0, ds0, p0, q0, hargs, rfl, rfl, h0, r0⟩ := trodAll_cons hA
  obtain ⟨rfl, rfl, rfl⟩ := trodAll_nil r0
  obtain rfl : args = #[v0] := by cases args; simp_all
  obtain ⟨rfl, rfl⟩ := trodVars_none hV
  have k0 := h0
  have lt0 : ∀ x ∈ p0, x.block < W.heap.size := by obtain ⟨m, hm⟩ := k0; exact DataW.trod_lt m _ _ _ hm
  obtain ⟨a0, n0, c0, rfl⟩ := okWide_slice Try.underlying28 (hval 0 28 v0 rfl rfl)
  obtain ⟨z0, w0⟩ : ∃ zs, IsStrs W a0 n0 c0 zs := by
    obtain ⟨fuel, hf⟩ := h0
    rcases open_strings Try.underlying28 Try.underlying9 (by kernel_rfl) hf with ⟨hcs, _⟩ | ⟨x, l, c, ss, hcs, _, hl, hm, hz, _, hcell, hws⟩
    · simp [Value.cells] at hcs
      obtain ⟨rfl, rfl, rfl⟩ := hcs
      exact ⟨[], IsStrs.none_ W⟩
    · simp [Value.cells] at hcs
      obtain ⟨rfl, rfl, rfl⟩ := hcs
      exact ⟨ss.take _, IsStrs.some_ hl hm (by rw [hz]; split <;> omega) hcell hws⟩
  clear hA0 hval0
  refine (walk a0 n0 c0 z0 W w0).mono fun e W' ⟨he, bel⟩ => ?_
  subst he
  exact ⟨_, rfl, _, _, _, [], _, [], hW', trodAll_mk1 (shut_bool Try.underlying4 _), (trodAll_cons_mk (Below.trod laidOut (by kernel_rfl) (of_decide_eq_true (by kernel_rfl)) k0 bel lt0) trodAll_mk0), rfl, bel.frame _, fun h => by cases h⟩

theorem over : Rows.fixBackRow.holds Try.pinned (OpenSpec.ofChange Rows.fixBackSpec) :=
  OpenClaim.holds_of_wide 5 Try.f5 rfl rfl rfl rfl rfl rfl rfl ⟨rfl, rfl, rfl, rfl, rfl⟩ rfl rfl rfl rfl rfl (by kernel_rfl) Try.func5 (by kernel_rfl)
    (of_decide_eq_true (by kernel_rfl)) (by unfold Func.isWrapper; first | (rw [if_pos (by decide +kernel)]; kernel_rfl) | (rw [if_neg (by decide +kernel)]; exact ⟨rfl, rfl⟩))
    (fun os started H enc _ => lifted os started H enc)

/-- The statement. -/
theorem proved : Rows.FixBackSaid := over
#print axioms proved
end Go.Proofs.Ytcfehoollfgmhaa.fixBack
