/-
  The law 'LexBehind' of the document's layer returns true for every input, and leaves what it was given as it was. No condition.
-/
import Derived.Test.YtlojlgchiemkjaaDoorRows
import Derived.WalkKit
import Derived.ProofKit
import Derived.OpenShut
import Derived.ShutString
import Derived.ChangeOld
import Derived.Below
import Derived.Carry
import Derived.Lib.SmallJoins
import Derived.Test.YtlojlgchiemkjaaDoorCards
import Derived.Test.YtlojlgchiemkjaaDoorTie
import Derived.LaidMore
import Derived.Lay
import Derived.SevenTiedAt
import Derived.Stop.Joined
import Derived.Test.YtlojlgchiemkjaaDoorAwake03
import Derived.Test.YtlojlgchiemkjaaDoorBehind03
namespace Go.Proofs.YtlojlgchiemkjaaDoor.lexBehind
open Go.Proofs.YtlojlgchiemkjaaDoor
open Go.ChangeShapes Go.WideShapes Go.ChangeAt Go.RowKit Go.Joins
open Go.ChangeMaps (open_string shut_string)
set_option linter.unusedVariables false

theorem own : ownKnob Tryd.prog.godebug = none := by kernel_rfl
theorem laidOut : laidOutB Tryd.prog = true := by kernel_rfl

set_option maxHeartbeats 3200000 in
theorem walk (a0 : ByteArray) (a1 : ByteArray) (w : World) (w0 : a0.size ≤ maxLen) (w1 : a1.size ≤ maxLen) :
    Calls Tryd.prog 4 #[.string a0, .string a1] w fun e w' => e = .returned (.bool true) ∧ Below w.heap.size w w' := by
  by_cases hb1 : 2000 < a0.size
  · have d0 : decide ((2000 : Int) < (a0.size : Int)) = true := by simp; omega
    go_enter Tryd.func4, Tryd.ntmps4
    go_wp2_with (go_at_call 5; refine (awake03_any _).mono ?_; rintro e w2 ⟨rfl, hg⟩)
    go_ret
    exact ⟨rfl, hg⟩
  have d0 : decide ((2000 : Int) < (a0.size : Int)) = false := by simp; omega
  by_cases hb2 : 2000 < a1.size
  · have d1 : decide ((2000 : Int) < (a1.size : Int)) = true := by simp; omega
    go_enter Tryd.func4, Tryd.ntmps4
    go_wp2_with (go_at_call 5; refine (awake03_any _).mono ?_; rintro e w2 ⟨rfl, hg⟩)
    go_ret
    exact ⟨rfl, hg⟩
  have d1 : decide ((2000 : Int) < (a1.size : Int)) = false := by simp; omega
  have hcl : (a0 ++ ⟨#[10]⟩ ++ a1).size ≤ maxLen := by rw [ByteArray.size_append, ByteArray.size_append]; unfold maxLen; show a0.size + 1 + a1.size ≤ _; omega
  obtain ⟨la, lb, lz, dc, ec, fc, dp, ep, fp, hx, hy, hz, hla, hlb, hlz, hdp, hep, hpa, hpb, hcase⟩ := behind_sum a0 a1 (by omega) (by omega)
  obtain ⟨na, hna⟩ : ∃ na, la.length = na := ⟨_, rfl⟩
  obtain ⟨nb, hnb⟩ : ∃ nb, lb.length = nb := ⟨_, rfl⟩
  obtain ⟨nz, hnz⟩ : ∃ nz, lz.length = nz := ⟨_, rfl⟩
  have S1 := Lib.hid (fun w => scan_as a0 w w0 la dc dp na hx hna)
  have S2 := Lib.hid (fun w => scan_as a1 w w1 lb ec ep nb hy hnb)
  have S3 := Lib.hid (fun w => scan_as (a0 ++ ⟨#[10]⟩ ++ a1) w hcl lz fc fp nz hz hnz)
  clear hx hy hz
  have s0 : a0.size ≤ 2000 := by omega
  have s1 : a1.size ≤ 2000 := by omega
  rcases hcase with ⟨hdc, hf, hp⟩ | ⟨hdc, hec, hf, hp⟩ | ⟨hdc, hec, hd0, hf, hp⟩ | ⟨hd0, hec, he0, hf, hp⟩ | ⟨hd0, he0, hf0, m, hm1, hm2, hm3, hm4, hm5⟩
  · obtain rfl : dc = fc := hf.symm
    obtain rfl : dp = fp := hp.symm
    have t1 : (dc == 100) = true := by rw [hdc]; rfl
    clear hdc
    clear hna hnb hnz hpa hpb
    go_enter Tryd.func4, Tryd.ntmps4
    go_wp2_with (first | (go_at_call 5; refine (awake03_any _).mono ?_; rintro e w2 ⟨rfl, hg⟩) | (go_at_call 16; (with_reducible refine (S1.out _).mono ?_); rintro e w3 ⟨⟨Aa, ca, rfl, ra, hca1, hca2⟩, hb3⟩) | (go_at_call 16; (with_reducible refine (S2.out _).mono ?_); rintro e w4 ⟨⟨Ab, cb, rfl, rb, hcb1, hcb2⟩, hb4⟩; have B4 := (Blk.new w3 27 #[.int .i64 dc, .int .i64 dp]).below hb4 (by simp); have h34 : Below w3.heap.size w3 w4 := ((Below.refl _ _).alloc (Nat.le_refl _) _).trans (hb4.mono (by simp)); have z34 := B4.lt) | (go_at_call 16; (with_reducible refine (S3.out _).mono ?_); rintro e w5 ⟨⟨Az, cz, rfl, rz, hcz1, hcz2⟩, hb5⟩; have h45 : Below w4.heap.size w4 w5 := ((Below.refl _ _).alloc (Nat.le_refl _) _).trans (hb5.mono (by simp)); have B5 := B4.below h45 z34; have C5 := (Blk.new w4 27 #[.int .i64 ec, .int .i64 ep]).below hb5 (by simp); have z35 := B5.lt; have z45 := C5.lt; have x0 : w5.cell? ⟨w3.heap.size, 0, none⟩ = some (.int .i64 dc) := B5.cell 0; have x1 : w5.cell? ⟨w3.heap.size, 1, none⟩ = some (.int .i64 dp) := B5.cell 1; have y0 : w5.cell? ⟨w4.heap.size, 0, none⟩ = some (.int .i64 ec) := C5.cell 0; have y1 : w5.cell? ⟨w4.heap.size, 1, none⟩ = some (.int .i64 ep) := C5.cell 1; have ra5 := (ra.below h34).below (h45.mono (Nat.le_of_lt z34)); have rb5 := rb.below h45; have g5 := (hg.trans (hb3.mono hg.size)).trans ((h34.mono (hg.trans (hb3.mono hg.size)).size).trans (h45.mono ((hg.trans (hb3.mono hg.size)).trans (h34.mono (hg.trans (hb3.mono hg.size)).size)).size))))
    go_ret
    exact ⟨rfl, g5.alloc g5.size _⟩
  · obtain rfl : ec = fc := hf.symm
    have t1 : (dc == 100) = false := by simpa using hdc
    have t2 : (ec == 100) = true := by rw [hec]; rfl
    have t3 : ((fp : Int) == (ep : Int) + (a0.size : Int) + 1) = true := by rw [hp]; simp; omega
    clear hdc hec hp
    clear hna hnb hnz hpa hpb
    go_enter Tryd.func4, Tryd.ntmps4
    go_wp2_with (first | (go_at_call 5; refine (awake03_any _).mono ?_; rintro e w2 ⟨rfl, hg⟩) | (go_at_call 16; (with_reducible refine (S1.out _).mono ?_); rintro e w3 ⟨⟨Aa, ca, rfl, ra, hca1, hca2⟩, hb3⟩) | (go_at_call 16; (with_reducible refine (S2.out _).mono ?_); rintro e w4 ⟨⟨Ab, cb, rfl, rb, hcb1, hcb2⟩, hb4⟩; have B4 := (Blk.new w3 27 #[.int .i64 dc, .int .i64 dp]).below hb4 (by simp); have h34 : Below w3.heap.size w3 w4 := ((Below.refl _ _).alloc (Nat.le_refl _) _).trans (hb4.mono (by simp)); have z34 := B4.lt) | (go_at_call 16; (with_reducible refine (S3.out _).mono ?_); rintro e w5 ⟨⟨Az, cz, rfl, rz, hcz1, hcz2⟩, hb5⟩; have h45 : Below w4.heap.size w4 w5 := ((Below.refl _ _).alloc (Nat.le_refl _) _).trans (hb5.mono (by simp)); have B5 := B4.below h45 z34; have C5 := (Blk.new w4 27 #[.int .i64 ec, .int .i64 ep]).below hb5 (by simp); have z35 := B5.lt; have z45 := C5.lt; have x0 : w5.cell? ⟨w3.heap.size, 0, none⟩ = some (.int .i64 dc) := B5.cell 0; have x1 : w5.cell? ⟨w3.heap.size, 1, none⟩ = some (.int .i64 dp) := B5.cell 1; have y0 : w5.cell? ⟨w4.heap.size, 0, none⟩ = some (.int .i64 ec) := C5.cell 0; have y1 : w5.cell? ⟨w4.heap.size, 1, none⟩ = some (.int .i64 ep) := C5.cell 1; have ra5 := (ra.below h34).below (h45.mono (Nat.le_of_lt z34)); have rb5 := rb.below h45; have g5 := (hg.trans (hb3.mono hg.size)).trans ((h34.mono (hg.trans (hb3.mono hg.size)).size).trans (h45.mono ((hg.trans (hb3.mono hg.size)).trans (h34.mono (hg.trans (hb3.mono hg.size)).size)).size))))
    go_ret
    exact ⟨rfl, g5.alloc g5.size _⟩
  · obtain rfl : dc = fc := hf.symm
    obtain rfl : dp = fp := hp.symm
    have t1 : (dc == 100) = false := by simpa using hdc
    have t2 : (ec == 100) = false := by simpa using hec
    have t3 : (dc != 0) = true := by simpa using hd0
    clear hdc hec hd0
    clear hna hnb hnz hpa hpb
    go_enter Tryd.func4, Tryd.ntmps4
    go_wp2_with (first | (go_at_call 5; refine (awake03_any _).mono ?_; rintro e w2 ⟨rfl, hg⟩) | (go_at_call 16; (with_reducible refine (S1.out _).mono ?_); rintro e w3 ⟨⟨Aa, ca, rfl, ra, hca1, hca2⟩, hb3⟩) | (go_at_call 16; (with_reducible refine (S2.out _).mono ?_); rintro e w4 ⟨⟨Ab, cb, rfl, rb, hcb1, hcb2⟩, hb4⟩; have B4 := (Blk.new w3 27 #[.int .i64 dc, .int .i64 dp]).below hb4 (by simp); have h34 : Below w3.heap.size w3 w4 := ((Below.refl _ _).alloc (Nat.le_refl _) _).trans (hb4.mono (by simp)); have z34 := B4.lt) | (go_at_call 16; (with_reducible refine (S3.out _).mono ?_); rintro e w5 ⟨⟨Az, cz, rfl, rz, hcz1, hcz2⟩, hb5⟩; have h45 : Below w4.heap.size w4 w5 := ((Below.refl _ _).alloc (Nat.le_refl _) _).trans (hb5.mono (by simp)); have B5 := B4.below h45 z34; have C5 := (Blk.new w4 27 #[.int .i64 ec, .int .i64 ep]).below hb5 (by simp); have z35 := B5.lt; have z45 := C5.lt; have x0 : w5.cell? ⟨w3.heap.size, 0, none⟩ = some (.int .i64 dc) := B5.cell 0; have x1 : w5.cell? ⟨w3.heap.size, 1, none⟩ = some (.int .i64 dp) := B5.cell 1; have y0 : w5.cell? ⟨w4.heap.size, 0, none⟩ = some (.int .i64 ec) := C5.cell 0; have y1 : w5.cell? ⟨w4.heap.size, 1, none⟩ = some (.int .i64 ep) := C5.cell 1; have ra5 := (ra.below h34).below (h45.mono (Nat.le_of_lt z34)); have rb5 := rb.below h45; have g5 := (hg.trans (hb3.mono hg.size)).trans ((h34.mono (hg.trans (hb3.mono hg.size)).size).trans (h45.mono ((hg.trans (hb3.mono hg.size)).trans (h34.mono (hg.trans (hb3.mono hg.size)).size)).size))))
    go_ret
    exact ⟨rfl, g5.alloc g5.size _⟩
  · obtain rfl : ec = fc := hf.symm
    have t1 : (dc == 100) = false := by rw [hd0]; rfl
    have t2 : (ec == 100) = false := by simpa using hec
    have t3 : (dc != 0) = false := by rw [hd0]; rfl
    have t4 : (ec != 0) = true := by simpa using he0
    have t5 : ((fp : Int) == (ep : Int) + (a0.size : Int) + 1) = true := by rw [hp]; simp; omega
    clear hd0 hec he0 hp
    clear hna hnb hnz hpa hpb
    go_enter Tryd.func4, Tryd.ntmps4
    go_wp2_with (first | (go_at_call 5; refine (awake03_any _).mono ?_; rintro e w2 ⟨rfl, hg⟩) | (go_at_call 16; (with_reducible refine (S1.out _).mono ?_); rintro e w3 ⟨⟨Aa, ca, rfl, ra, hca1, hca2⟩, hb3⟩) | (go_at_call 16; (with_reducible refine (S2.out _).mono ?_); rintro e w4 ⟨⟨Ab, cb, rfl, rb, hcb1, hcb2⟩, hb4⟩; have B4 := (Blk.new w3 27 #[.int .i64 dc, .int .i64 dp]).below hb4 (by simp); have h34 : Below w3.heap.size w3 w4 := ((Below.refl _ _).alloc (Nat.le_refl _) _).trans (hb4.mono (by simp)); have z34 := B4.lt) | (go_at_call 16; (with_reducible refine (S3.out _).mono ?_); rintro e w5 ⟨⟨Az, cz, rfl, rz, hcz1, hcz2⟩, hb5⟩; have h45 : Below w4.heap.size w4 w5 := ((Below.refl _ _).alloc (Nat.le_refl _) _).trans (hb5.mono (by simp)); have B5 := B4.below h45 z34; have C5 := (Blk.new w4 27 #[.int .i64 ec, .int .i64 ep]).below hb5 (by simp); have z35 := B5.lt; have z45 := C5.lt; have x0 : w5.cell? ⟨w3.heap.size, 0, none⟩ = some (.int .i64 dc) := B5.cell 0; have x1 : w5.cell? ⟨w3.heap.size, 1, none⟩ = some (.int .i64 dp) := B5.cell 1; have y0 : w5.cell? ⟨w4.heap.size, 0, none⟩ = some (.int .i64 ec) := C5.cell 0; have y1 : w5.cell? ⟨w4.heap.size, 1, none⟩ = some (.int .i64 ep) := C5.cell 1; have ra5 := (ra.below h34).below (h45.mono (Nat.le_of_lt z34)); have rb5 := rb.below h45; have g5 := (hg.trans (hb3.mono hg.size)).trans ((h34.mono (hg.trans (hb3.mono hg.size)).size).trans (h45.mono ((hg.trans (hb3.mono hg.size)).trans (h34.mono (hg.trans (hb3.mono hg.size)).size)).size))))
    go_ret
    exact ⟨rfl, g5.alloc g5.size _⟩
  · have t1 : (dc == 100) = false := by rw [hd0]; rfl
    have t2 : (ec == 100) = false := by rw [he0]; rfl
    have t3 : (dc != 0) = false := by rw [hd0]; rfl
    have t4 : (ec != 0) = false := by rw [he0]; rfl
    have t5 : (fc == 0) = true := by rw [hf0]; rfl
    obtain rfl : na = m + 1 := by omega
    obtain rfl : nz = m + nb := by omega
    clear hd0 he0 hf0 hm3
    have HM1 := Lib.hid hm1
    have HM4 := Lib.hid hm4
    have HM5 := Lib.hid hm5
    have HNB := Lib.hid hnb
    have HNZ := Lib.hid hnz
    have hnb0 : 0 < nb := by omega
    have bm : m ≤ 5000 := by omega
    have bnb : nb ≤ 5000 := by omega
    have HPA := Lib.hid hpa
    have HPB := Lib.hid hpb
    clear hna hm1 hm2 hm4 hm5 hnb hnz hpa hpb
    go_enter Tryd.func4, Tryd.ntmps4
    go_wp2_with (first | (go_at_call 5; refine (awake03_any _).mono ?_; rintro e w2 ⟨rfl, hg⟩) | (go_at_call 16; (with_reducible refine (S1.out _).mono ?_); rintro e w3 ⟨⟨Aa, ca, rfl, ra, hca1, hca2⟩, hb3⟩) | (go_at_call 16; (with_reducible refine (S2.out _).mono ?_); rintro e w4 ⟨⟨Ab, cb, rfl, rb, hcb1, hcb2⟩, hb4⟩; have B4 := (Blk.new w3 27 #[.int .i64 dc, .int .i64 dp]).below hb4 (by simp); have h34 : Below w3.heap.size w3 w4 := ((Below.refl _ _).alloc (Nat.le_refl _) _).trans (hb4.mono (by simp)); have z34 := B4.lt) | (go_at_call 16; (with_reducible refine (S3.out _).mono ?_); rintro e w5 ⟨⟨Az, cz, rfl, rz, hcz1, hcz2⟩, hb5⟩; have h45 : Below w4.heap.size w4 w5 := ((Below.refl _ _).alloc (Nat.le_refl _) _).trans (hb5.mono (by simp)); have B5 := B4.below h45 z34; have C5 := (Blk.new w4 27 #[.int .i64 ec, .int .i64 ep]).below hb5 (by simp); have z35 := B5.lt; have z45 := C5.lt; have x0 : w5.cell? ⟨w3.heap.size, 0, none⟩ = some (.int .i64 dc) := B5.cell 0; have x1 : w5.cell? ⟨w3.heap.size, 1, none⟩ = some (.int .i64 dp) := B5.cell 1; have y0 : w5.cell? ⟨w4.heap.size, 0, none⟩ = some (.int .i64 ec) := C5.cell 0; have y1 : w5.cell? ⟨w4.heap.size, 1, none⟩ = some (.int .i64 ep) := C5.cell 1; have ra5 := (ra.below h34).below (h45.mono (Nat.le_of_lt z34)); have rb5 := rb.below h45; have g5 := (hg.trans (hb3.mono hg.size)).trans ((h34.mono (hg.trans (hb3.mono hg.size)).size).trans (h45.mono ((hg.trans (hb3.mono hg.size)).trans (h34.mono (hg.trans (hb3.mono hg.size)).size)).size))))
    have rz6 : TkRow (w5.alloc (.cells #[.int .i64 fc, .int .i64 fp] 27)) w5.heap.size Az lz := rz.keep fun p hp => World.cell?_alloc_lt w5 _ p hp
    have ra6 : TkRow (w5.alloc (.cells #[.int .i64 fc, .int .i64 fp] 27)) w3.heap.size Aa la := ra5.keep fun p hp => World.cell?_alloc_lt w5 _ p (by omega)
    have rb6 : TkRow (w5.alloc (.cells #[.int .i64 fc, .int .i64 fp] 27)) w4.heap.size Ab lb := rb5.keep fun p hp => World.cell?_alloc_lt w5 _ p (by omega)
    obtain ⟨gz, oz, rfl, _, _⟩ := rz (by rw [HNZ.out]; omega)
    have hmz : m ≤ cz := by omega
    have hma : m ≤ ca := by omega
    have hmn : m ≤ m + nb := by omega
    have hnc : ¬ cz = m := by omega
    have rt := rz6.take_ m
    have rd := rz6.drop_ m cz (by rw [HNZ.out]; exact hcz1)
    rw [HM4.out] at rt
    rw [HM5.out, if_neg hnc, show (some (⟨gz, oz, none⟩ : Addr)).map (·.add (m * 4)) = some ⟨gz, oz + m * 4, none⟩ from row_add gz oz (m * 4)] at rd
    have hat : (la.take m).length = m := by rw [List.length_take, HM1.out]; omega
    have hml : (moveT (a0.size + 1) lb).length = nb := by rw [move_len, HNB.out]
    have Q1 := Lib.hid (fun q : Nat => same3_yes (la.take m) (la.take m) (some ⟨gz, oz, none⟩) Aa m cz ca _ _ _ (by omega) hat hat (rt.drewN q) ((ra6.take_ m).drewN q) (one_refl _))
    have Q2 := Lib.hid (fun q : Nat => same3_yes (moveT (a0.size + 1) lb) lb (some ⟨gz, oz + m * 4, none⟩) Ab nb (cz - m) cb _ _ _ (by omega) hml HNB.out (rd.drewN q) (rb6.drewN q) (one_move _ _))
    have Q3 := Lib.hid (fun q : Nat => at3_yes (la.take m) la (some ⟨gz, oz, none⟩) Aa m (m + 1) cz ca 0 _ _ _ (by omega) (by omega) hat HM1.out (rt.drewN q) (ra6.drewN q) (at_take _ _) HPA.out)
    have Q4 := Lib.hid (fun q : Nat => at3_yes (moveT (a0.size + 1) lb) lb (some ⟨gz, oz + m * 4, none⟩) Ab nb nb (cz - m) cb (a0.size + 1) _ _ _ (by omega) (by omega) hml HNB.out (rd.drewN q) (rb6.drewN q) (at_move _ _) HPB.out)
    rw [show ((a0.size + 1 : Nat) : Int) = (a0.size : Int) + 1 by omega] at Q4
    rw [show ((0 : Nat) : Int) = 0 from rfl] at Q3
    have u1 : IntKind.i64.wrap ((m : Int) + (nb : Int)) = (m : Int) + (nb : Int) := IntWalk.i64_in _ (by omega)
    have u2 : IntKind.i64.wrap ((a0.size : Int) + 1) = (a0.size : Int) + 1 := IntWalk.i64_in _ (by omega)
    have g6 := g5.alloc g5.size (.cells #[.int .i64 fc, .int .i64 fp] 27)
    clear rz6 ra6 rb6 rt rd hat hml
    go_quiet ((first | (go_at_call 17; with_reducible exact Calls.quiet_of (Q1.out _)) | (go_at_call 17; with_reducible exact Calls.quiet_of (Q2.out _)) | (go_at_call 18; with_reducible exact Calls.quiet_of (Q3.out _)) | (go_at_call 18; with_reducible exact Calls.quiet_of (Q4.out _))))
    go_wp2
    go_ret
    exact ⟨rfl, below_drewN g6 _⟩

set_option maxRecDepth 100000 in
theorem lifted (os : Os) (started : os.Started) (H : Type) (enc : TypeId × Value → H) :
    ReturnsInHanded {} Tryd.checked os 4 .any (fun w args => (Rows.lexBehindSpec.pre enc Tryd.prog Tryd.f4 Rows.lexBehindRow.domain false w args ∧ laidMetH Tryd.prog Rows.lexBehindRow.laid w) ∧ sizedMet enc Tryd.prog Tryd.f4 (OpenSpec.ofChange Rows.lexBehindSpec) false w args) (Rows.lexBehindSpec.post enc Tryd.prog Tryd.f4 false true false false) := by
  refine returnsInHanded_of_change_and (C := Tryd.checked) (X := fun w _ => laidMetH Tryd.prog Rows.lexBehindRow.laid w) (fun _ _ _ hh h => h.of_heap hh) own started (by kernel_rfl) Tryd.func4
    (ChangeSpec.witness_shaped (enc := enc) (C := Tryd.checked) (os := os) (X := fun w _ => laidMetH Tryd.prog Rows.lexBehindRow.laid w) false (World.laidAll Tryd.prog os Rows.lexBehindRow.laid) #[.string ByteArray.empty, .string ByteArray.empty] 8 (World.laidAll_os _ _ _)
      (World.shaped_of_ZipB (by kernel_rfl) (by kernel_rfl)) (by kernel_rfl) (by kernel_rfl) (by kernel_rfl)
      (by rw [MakeChecks.laidMetH_plain _ _ _ (by kernel_rfl)]; exact laidMet_laidAll _ (by kernel_rfl) (by kernel_rfl))) ?_
  intro W base args ds gs before hval0 hW hcnd _ hL _
  have hval : ∀ (j : Nat) t v, Tryd.f4.params[j]? = some t → args[j]? = some v → Value.okWide Tryd.prog W .any base t v := hval0
  have hW' := hW
  obtain ⟨p, q, hA0, hV, rfl, hfz, hnd⟩ := hW
  have hA : DataW.TrodAll enc Tryd.prog W 0 (fun _ => true) true Tryd.f4.params.toList args.toList ds p := hA0
  rw [Tryd.params4] at hA hval
  obtain ⟨v0, vs0, d0, ds0, p0, q0, hargs, rfl, rfl, h0, r0⟩ := trodAll_cons hA
  obtain ⟨v1, vs1, d1, ds1, p1, q1, rfl, rfl, rfl, h1, r1⟩ := trodAll_cons r0
  obtain ⟨rfl, rfl, rfl⟩ := trodAll_nil r1
  obtain rfl : args = #[v0, v1] := by cases args; simp_all
  obtain ⟨rfl, rfl⟩ := trodVars_none hV
  have k0 := h0
  have lt0 : ∀ x ∈ p0, x.block < W.heap.size := by obtain ⟨m, hm⟩ := k0; exact DataW.trod_lt m _ _ _ hm
  obtain ⟨a0, rfl, rfl, rfl, w0⟩ := open_string Tryd.underlying9 (hval 0 9 v0 rfl rfl) h0
  have k1 := h1
  have lt1 : ∀ x ∈ p1, x.block < W.heap.size := by obtain ⟨m, hm⟩ := k1; exact DataW.trod_lt m _ _ _ hm
  obtain ⟨a1, rfl, rfl, rfl, w1⟩ := open_string Tryd.underlying9 (hval 1 9 v1 rfl rfl) h1
  clear hA0 hval0
  refine (walk a0 a1 W w0 w1).mono fun e W' ⟨he, bel⟩ => ?_
  subst he
  exact ⟨_, rfl, _, _, _, [], _, [], hW', trodAll_mk1 (shut_bool Tryd.underlying4 _), (trodAll_cons_mk (Below.trod laidOut (by kernel_rfl) (of_decide_eq_true (by kernel_rfl)) k0 bel lt0) (trodAll_cons_mk (Below.trod laidOut (by kernel_rfl) (of_decide_eq_true (by kernel_rfl)) k1 bel lt1) trodAll_mk0)), rfl, bel.frame _, fun h => by cases h⟩

theorem over : Rows.lexBehindRow.holds Tryd.pinned (OpenSpec.ofChange Rows.lexBehindSpec) :=
  OpenClaim.holds_of_wide 4 Tryd.f4 rfl rfl rfl rfl rfl rfl rfl ⟨rfl, rfl, rfl, rfl, rfl⟩ rfl rfl rfl rfl rfl (by kernel_rfl) Tryd.func4 (by kernel_rfl)
    (of_decide_eq_true (by kernel_rfl)) (by unfold Func.isWrapper; first | (rw [if_pos (by decide +kernel)]; kernel_rfl) | (rw [if_neg (by decide +kernel)]; exact ⟨rfl, rfl⟩))
    (fun os started H enc _ => lifted os started H enc)

theorem plain (f : FuncId) (fn : Func) (hf : Tryd.pinned.checked.prog.funcNamed "cognate/cognatelaw03.LexBehind" = some f) (hfn : Tryd.pinned.checked.prog.funcs[f]? = some fn) :
    false = Tryd.pinned.checked.prog.looks [] ∧ ∀ (j : Nat) t, fn.params[j]? = some t → Tryd.pinned.checked.prog.wantsStandIn t = false := by
  obtain rfl : f = 4 := Option.some.inj ((show Tryd.prog.funcNamed "cognate/cognatelaw03.LexBehind" = some 4 by kernel_rfl).symm.trans hf) |>.symm
  obtain rfl : fn = Tryd.f4 := (Option.some.inj (Tryd.func4.symm.trans hfn)).symm
  refine ⟨by kernel_rfl, fun j t ht => ?_⟩
  rw [Tryd.params4] at ht
  have hm : t ∈ [9] := by have := Array.mem_of_getElem? ht; simpa using this
  have hall : ([9].all fun u => !Tryd.prog.wantsStandIn u) = true := by kernel_rfl
  exact (show Tryd.prog.wantsStandIn t = false by simpa using List.all_eq_true.1 hall t hm)

/-- The statement: the card. -/
theorem proved : Rows.LexBehindCardSaid :=
  Claim7.holds_tied_plain_at .later [] _ _ _ _ over (fun _ h => by cases h) (by kernel_rfl) (fun _ h => by cases h) lexBehind_row_tie rfl ⟨rfl, rfl⟩ (by kernel_rfl) rfl plain (by kernel_rfl)
#print axioms proved
end Go.Proofs.YtlojlgchiemkjaaDoor.lexBehind
