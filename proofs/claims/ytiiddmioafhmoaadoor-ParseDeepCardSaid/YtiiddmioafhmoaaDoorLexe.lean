/- Walks: a number, a string's text. -/
import Derived.Test.YtiiddmioafhmoaaDoorLexd
namespace Go.Proofs.YtiiddmioafhmoaaDoor
open Go.RowKit
set_option linter.unusedVariables false

theorem take_span (p : UInt8 → Bool) (r : List UInt8) : r.take (spanL p r) = r.takeWhile p := by
  induction r with
  | nil => rfl
  | cons c r ih =>
    cases h : p c
    · rw [span_cons_f p c r h]; simp [h]
    · rw [span_cons_t p c r h]; simp [h, ih]
theorem numberL_of {r ds t : List UInt8} {b : Nat} {pn pe : Int} (h1 : r.takeWhile digitS.contains = ds) (h2 : shownL ds = t) (h3 : parse t = (pn, pe)) (h4 : spanL digitS.contains r = b) :
    numberL r = if pe = 0 then ⟨0, 3, t, pn, b⟩ else .bad 102 := by
  unfold numberL; rw [h1, h2, h3, h4]

theorem data_mk (l : List UInt8) : (⟨l.toArray⟩ : ByteArray).data.toList = l := by simp
theorem size_mk (l : List UInt8) : (⟨l.toArray⟩ : ByteArray).size = l.length := by simp [ByteArray.size]

set_option maxHeartbeats 800000 in
theorem number_any (s : ByteArray) (a : Nat) (w : World) (hs : s.size ≤ 60000) (ha : a ≤ s.size) :
    Calls Tryd.prog 25 #[.string s, .int .i64 a] w fun e w' => Says (numberL (s.data.toList.drop a)) a e ∧ Below w.heap.size w w' := by
  have hm : s.size ≤ maxLen := by unfold maxLen; omega
  have hmf : ∀ (fn : Fn) (first cap : Array Value) (w : World), (Instr.makeFunc fn first cap).run Tryd.prog w = .ok (.func fn first cap) w := fun _ _ _ _ => rfl
  obtain ⟨b, hb⟩ : ∃ b, a + spanL digitS.contains (s.data.toList.drop a) = b := ⟨_, rfl⟩
  have hbs : b ≤ s.size := by rw [← hb]; exact span_room _ _ _ ha
  have hab : a ≤ b := by omega
  have C1 := Lib.hid (fun w => endof_has ⟨digitS.toArray⟩ s a w hm ha b (Lib.hid hb))
  have hds : (s.data.toList.drop a).takeWhile digitS.contains = (s.extract a b).data.toList := by
    rw [ba_list s a b, data_mk, ← take_span, show b - a = spanL digitS.contains (s.data.toList.drop a) by omega]
  obtain ⟨D, hD⟩ : ∃ D : List UInt8, Lib.trimLeftB (s.extract a b).data.toList 48 = D := ⟨_, rfl⟩
  have hDl : D.length ≤ s.size := by
    have h1 : D.length ≤ (s.extract a b).data.toList.length := by rw [← hD]; exact (List.dropWhile_sublist _).length_le
    rw [data_len, ByteArray.size_extract] at h1; omega
  have C2 := Lib.hid (fun w => Tryd.strings_TrimLeft_one (s.extract a b) 48 (by decide) w)
  rw [hD] at C2
  have hsp : spanL digitS.contains (s.data.toList.drop a) = b - a := by omega
  by_cases h0 : D = []
  · subst h0
    have hsh : shownL (s.extract a b).data.toList = [48] := by unfold shownL; unfold Lib.trimLeftB at hD; rw [if_pos hD]
    have hp : parse [48] = (0, 0) := by decide
    have HN := Lib.hid (numberL_of hds hsh hp hsp)
    have C3 := Lib.hid (fun w => parse_any ⟨#[48]⟩ w (by decide))
    rw [show (⟨#[48]⟩ : ByteArray).data.toList = [48] from rfl, hp] at C3
    clear hds hD hsp hsh hp hb
    go_enter Tryd.func25, Tryd.ntmps25
    go_wp2_with (first | (go_at_call 22; (with_reducible refine (C1.out _).mono ?_); rintro e w' ⟨rfl, rfl⟩) | (go_at_call 39; (with_reducible refine (C2.out _).mono ?_); rintro e w' ⟨rfl, rfl⟩) | (go_at_call 40; (with_reducible refine (C3.out _).mono ?_); rintro e w' ⟨rfl, rfl⟩))
    refine bodyPost_ret (v := .tuple #[.agg #[.int .i64 3, .string ⟨#[48]⟩, .int .i64 0, .int .i64 a], .int .i64 b, .int .i64 0]) (by simp [results, Tryd.results25, go_sem]) rfl ⟨?_, (Below.refl _ _).alloc (Nat.le_refl _) _⟩
    rw [HN.out]
    exact says_ok a rfl (by omega)
  · have hsh : shownL (s.extract a b).data.toList = D := by unfold shownL; unfold Lib.trimLeftB at hD; rw [hD, if_neg h0]
    obtain ⟨pn, pe, hp⟩ : ∃ pn pe, parse D = (pn, pe) := ⟨_, _, rfl⟩
    have HN := Lib.hid (numberL_of hds hsh hp hsp)
    have C3 := Lib.hid (fun w => parse_any ⟨D.toArray⟩ w (by rw [size_mk]; unfold maxLen; omega))
    rw [data_mk, hp] at C3
    have e1 : ¬ (⟨D.toArray⟩ : ByteArray).toList = [] := by rw [ByteArray.toList_eq, data_mk]; exact h0
    have e2 : (⟨D.toArray⟩ : ByteArray).toList.isEmpty = false := by rw [List.isEmpty_eq_false_iff]; exact e1
    clear hds hD hsp hsh hp hb h0
    obtain ⟨DB, hDB⟩ : ∃ DB : ByteArray, (⟨D.toArray⟩ : ByteArray) = DB := ⟨_, rfl⟩
    rw [hDB] at C2 C3 e1 e2
    have HDB := Lib.hid hDB
    clear hDB
    by_cases hpe : pe = 0
    · subst hpe
      go_enter Tryd.func25, Tryd.ntmps25
      go_wp2_with (first | (go_at_call 22; (with_reducible refine (C1.out _).mono ?_); rintro e w' ⟨rfl, rfl⟩) | (go_at_call 39; (with_reducible refine (C2.out _).mono ?_); rintro e w' ⟨rfl, rfl⟩) | (go_at_call 40; (with_reducible refine (C3.out _).mono ?_); rintro e w' ⟨rfl, rfl⟩))
      refine bodyPost_ret (v := .tuple #[.agg #[.int .i64 3, .string DB, .int .i64 pn, .int .i64 a], .int .i64 b, .int .i64 0]) (by simp [results, Tryd.results25, go_sem]) rfl ⟨?_, (Below.refl _ _).alloc (Nat.le_refl _) _⟩
      rw [HN.out, ← HDB.out]
      exact says_ok a rfl (by omega)
    · have hq : (pe != 0) = true := by simpa using hpe
      go_enter Tryd.func25, Tryd.ntmps25
      go_wp2_with (first | (go_at_call 22; (with_reducible refine (C1.out _).mono ?_); rintro e w' ⟨rfl, rfl⟩) | (go_at_call 39; (with_reducible refine (C2.out _).mono ?_); rintro e w' ⟨rfl, rfl⟩) | (go_at_call 40; (with_reducible refine (C3.out _).mono ?_); rintro e w' ⟨rfl, rfl⟩))
      refine bodyPost_ret (v := .tuple #[.agg #[.int .i64 0, .string ⟨#[]⟩, .int .i64 0, .int .i64 0], .int .i64 0, .int .i64 102]) (by simp [results, Tryd.results25, go_sem]) rfl ⟨?_, (Below.refl _ _).alloc (Nat.le_refl _) _⟩
      rw [HN.out, if_neg hpe]
      exact says_bad a rfl (by decide)

def stringP : Option (List UInt8 × Nat) → Piece
  | none => .bad 103
  | some x => ⟨0, 4, x.1, 0, x.2 + 1⟩
theorem four_set {w : World} {g : Nat} {t : TypeId} {x0 x1 x2 x3 : Value} (h : Blk w g t #[x0, x1, x2, x3]) (y0 y1 y2 y3 : Value) :
    Blk ((((w.setCell ⟨g, 0, none⟩ y0).setCell ⟨g, 1, none⟩ y1).setCell ⟨g, 2, none⟩ y2).setCell ⟨g, 3, none⟩ y3) g t #[y0, y1, y2, y3] := by
  have := (((h.set_ 0 y0).set_ 1 y1).set_ 2 y2).set_ 3 y3
  simpa using this
theorem four_below {w w' : World} {g : Nat} (h : Below g w w') (y0 y1 y2 y3 : Value) :
    Below g w ((((w'.setCell ⟨g, 0, none⟩ y0).setCell ⟨g, 1, none⟩ y1).setCell ⟨g, 2, none⟩ y2).setCell ⟨g, 3, none⟩ y3) :=
  (((h.setCell (p := ⟨g, 0, none⟩) (Nat.le_refl _) y0).setCell (p := ⟨g, 1, none⟩) (Nat.le_refl _) y1).setCell (p := ⟨g, 2, none⟩) (Nat.le_refl _) y2).setCell (p := ⟨g, 3, none⟩) (Nat.le_refl _) y3
theorem u8_is (a b : UInt8) : ((a.toNat : Int) == (b.toNat : Int)) = (a == b) := by
  rw [Bool.eq_iff_iff]; simp [← UInt8.toNat_inj]; omega
theorem below_blk {B : Nat} {w w' : World} (h : Below B w w') (g : Nat) (t : TypeId) (cs : Array Value) (hg : g < B) (hb : Blk w g t cs) : Blk w' g t cs := hb.below h hg

set_option maxHeartbeats 1600000 in
theorem text_any (s : ByteArray) (a : Nat) (w : World) (hs : s.size ≤ 60000) (ha : a < s.size) :
    Calls Tryd.prog 26 #[.string s, .int .i64 a] w fun e w' => Says (stringL (s.data.toList.drop (a + 1))) a e ∧ Below w.heap.size w w' := by
  have hm : s.size ≤ maxLen := by unfold maxLen; omega
  obtain ⟨T, hT⟩ : ∃ T, textL (s.data.toList.drop (a + 1)) = T := ⟨_, rfl⟩
  have HS : Hid (stringL (s.data.toList.drop (a + 1)) = stringP T) := Lib.hid (by rw [← hT]; rfl)
  have H0 := Lib.hid (show Sofar s (a + 1) (a + 1) [] T by rw [← hT]; exact sofar_start s (a + 1))
  clear hT
  go_enter Tryd.func26, Tryd.ntmps26
  go_wp2
  obtain ⟨w1, hw1⟩ : ∃ w1, (w.alloc (.cells #[.int .i64 0, .string ⟨#[]⟩, .int .i64 0, .int .i64 0] 52)) = w1 := ⟨_, rfl⟩
  rw [hw1]
  have hblk : Blk w1 w.heap.size 52 #[.int .i64 0, .string ⟨#[]⟩, .int .i64 0, .int .i64 0] := by rw [← hw1]; exact Blk.new _ _ _
  have hsz : w1.heap.size = w.heap.size + 1 := by rw [← hw1]; simp
  have hb1 : Below w.heap.size w w1 := by rw [← hw1]; exact (Below.refl _ _).alloc (Nat.le_refl _) _
  have HB0 := Lib.hid (Lib.fresh_isBuilder 83 5 w1)
  have HW1 := Lib.hid hw1
  have HSZ := Lib.hid hsz
  rw [← hsz]
  clear hw1 hsz
  go_loopw [8] (fun i wr => ∃ (k : Nat) (acc : List UInt8), i = .int .i64 k ∧ a + 1 ≤ k ∧ k ≤ s.size ∧ acc.length ≤ k ∧ Sofar s (a + 1) k acc T ∧ Lib.IsBuilder 83 5 w1.heap.size w1.heap.size (Lib.byteCells acc) wr ∧ Below w1.heap.size w1 wr) (fun i _ => s.size - (intOf i).toNat)
  case atStart => exact ⟨a + 1, [], by go_num, by omega, by omega, by simp, H0.out, HB0.out, (Below.refl _ _).alloc (Nat.le_refl _) _⟩
  case round =>
    obtain ⟨k, acc, rfl, hak, hk, hacc, hsf, hbu, hbw⟩ := hrel
    have hz1 : w.heap.size < w1.heap.size := by rw [HSZ.out]; omega
    have hBr := hblk.below hbw hz1
    have hbz := hbw.size
    have c0 : wr.cell? ⟨w.heap.size, 0, none⟩ = some (.int .i64 0) := hBr.cell 0
    have c1 : wr.cell? ⟨w.heap.size, 1, none⟩ = some (.string ⟨#[]⟩) := hBr.cell 1
    have c2 : wr.cell? ⟨w.heap.size, 2, none⟩ = some (.int .i64 0) := hBr.cell 2
    have c3 : wr.cell? ⟨w.heap.size, 3, none⟩ = some (.int .i64 0) := hBr.cell 3
    have f0 : wr.frozen? ⟨w.heap.size, 0, none⟩ = false := hBr.frozen 0
    have f1 : wr.frozen? ⟨w.heap.size, 1, none⟩ = false := hBr.frozen 1
    have f2 : wr.frozen? ⟨w.heap.size, 2, none⟩ = false := hBr.frozen 2
    have f3 : wr.frozen? ⟨w.heap.size, 3, none⟩ = false := hBr.frozen 3
    have HSF := Lib.hid hsf
    clear hsf
    by_cases hlt : k < s.size
    · by_cases hq : s[k] = 34
      · have HT := Lib.hid (sofar_quote HSF.out (text_quote s k hlt hq))
        have t1 : ((s[k].toNat : Int) != 10) = true := by rw [hq]; rfl
        have t2 : ((s[k].toNat : Int) == 34) = true := by rw [hq]; rfl
        have C1 := Lib.hid (Tryd.Builder_String_any w1.heap.size w1.heap.size acc wr hbu hbz)
        clear hq
        go_wp2_with (go_at_call 41; (with_reducible refine C1.out.mono ?_); rintro e w2 ⟨rfl, hb2⟩; have hB2 := hBr.below hb2 hz1; have c0 : w2.cell? ⟨w.heap.size, 0, none⟩ = some (.int .i64 0) := hB2.cell 0; have c1 : w2.cell? ⟨w.heap.size, 1, none⟩ = some (.string ⟨#[]⟩) := hB2.cell 1; have c2 : w2.cell? ⟨w.heap.size, 2, none⟩ = some (.int .i64 0) := hB2.cell 2; have c3 : w2.cell? ⟨w.heap.size, 3, none⟩ = some (.int .i64 0) := hB2.cell 3; have f0 : w2.frozen? ⟨w.heap.size, 0, none⟩ = false := hB2.frozen 0; have f1 : w2.frozen? ⟨w.heap.size, 1, none⟩ = false := hB2.frozen 1; have f2 : w2.frozen? ⟨w.heap.size, 2, none⟩ = false := hB2.frozen 2; have f3 : w2.frozen? ⟨w.heap.size, 3, none⟩ = false := hB2.frozen 3)
        have HB3 := four_set hB2 (.int .i64 4) (.string ⟨acc.toArray⟩) (.int .i64 0) (.int .i64 a)
        have hb3 : Below w.heap.size w _ := four_below ((hb1.trans (hbw.mono (by omega))).trans (hb2.mono (by omega))) (.int .i64 4) (.string ⟨acc.toArray⟩) (.int .i64 0) (.int .i64 a)
        revert HB3 hb3
        generalize ((((w2.setCell ⟨w.heap.size, 0, none⟩ (.int .i64 4)).setCell ⟨w.heap.size, 1, none⟩ (.string ⟨acc.toArray⟩)).setCell ⟨w.heap.size, 2, none⟩ (.int .i64 0)).setCell ⟨w.heap.size, 3, none⟩ (.int .i64 a)) = w3
        intro HB3 hb3
        have d0 : w3.cell? ⟨w.heap.size, 0, none⟩ = some (.int .i64 4) := HB3.cell 0
        have d1 : w3.cell? ⟨w.heap.size, 1, none⟩ = some (.string ⟨acc.toArray⟩) := HB3.cell 1
        have d2 : w3.cell? ⟨w.heap.size, 2, none⟩ = some (.int .i64 0) := HB3.cell 2
        have d3 : w3.cell? ⟨w.heap.size, 3, none⟩ = some (.int .i64 a) := HB3.cell 3
        refine bodyPost_ret (v := .tuple #[.agg #[.int .i64 4, .string ⟨acc.toArray⟩, .int .i64 0, .int .i64 a], .int .i64 (k + 1), .int .i64 0]) (by simp [results, Tryd.results26, go_sem, d0, d1, d2, d3]) rfl ⟨?_, hb3⟩
        rw [HS.out, HT.out]
        exact says_ok (g := k + 1) a rfl (by simp; omega)
      · by_cases hl : s[k] = 10
        · have HT := Lib.hid (sofar_none HSF.out (text_line s k hlt hl))
          have t1 : ((s[k].toNat : Int) != 10) = false := by rw [hl]; rfl
          clear hq hl
          go_wp2
          have HB3 := four_set hBr (.int .i64 0) (.string ⟨#[]⟩) (.int .i64 0) (.int .i64 0)
          have hb3 : Below w.heap.size w _ := four_below (hb1.trans (hbw.mono (by omega))) (.int .i64 0) (.string ⟨#[]⟩) (.int .i64 0) (.int .i64 0)
          revert HB3 hb3
          generalize ((((wr.setCell ⟨w.heap.size, 0, none⟩ (.int .i64 0)).setCell ⟨w.heap.size, 1, none⟩ (.string ⟨#[]⟩)).setCell ⟨w.heap.size, 2, none⟩ (.int .i64 0)).setCell ⟨w.heap.size, 3, none⟩ (.int .i64 0)) = w3
          intro HB3 hb3
          have d0 : w3.cell? ⟨w.heap.size, 0, none⟩ = some (.int .i64 0) := HB3.cell 0
          have d1 : w3.cell? ⟨w.heap.size, 1, none⟩ = some (.string ⟨#[]⟩) := HB3.cell 1
          have d2 : w3.cell? ⟨w.heap.size, 2, none⟩ = some (.int .i64 0) := HB3.cell 2
          have d3 : w3.cell? ⟨w.heap.size, 3, none⟩ = some (.int .i64 0) := HB3.cell 3
          refine bodyPost_ret (v := .tuple #[.agg #[.int .i64 0, .string ⟨#[]⟩, .int .i64 0, .int .i64 0], .int .i64 0, .int .i64 103]) (by simp [results, Tryd.results26, go_sem, d0, d1, d2, d3]) rfl ⟨?_, hb3⟩
          rw [HS.out, HT.out]
          exact says_bad a rfl (by decide)
        · have t1 : ((s[k].toNat : Int) != 10) = true := by rw [show (10 : Int) = (((10 : UInt8).toNat : Nat) : Int) from rfl, u8_eq]; simpa using hl
          have t2 : ((s[k].toNat : Int) == 34) = false := by rw [show (34 : Int) = (((34 : UInt8).toNat : Nat) : Int) from rfl, u8_is]; simpa using hq
          by_cases he : s[k] = 92
          · have t3 : ((s[k].toNat : Int) == 92) = true := by rw [he]; rfl
            have ek : ((k + 1 : Nat) : Int) = (k : Int) + 1 := by omega
            by_cases hke : k + 1 = s.size
            · have HT := Lib.hid (sofar_none HSF.out (text_esc_end s k hlt he hke))
              have C1 := Lib.hid (fun w => decoded_end s (k + 1) w hm hke)
              rw [ek] at C1
              clear hq hl he hke ek
              go_wp2_with (go_at_call 42; (with_reducible refine (C1.out _).mono ?_); rintro e w' ⟨rfl, rfl⟩)
              have HB3 := four_set hBr (.int .i64 0) (.string ⟨#[]⟩) (.int .i64 0) (.int .i64 0)
              have hb3 : Below w.heap.size w _ := four_below (hb1.trans (hbw.mono (by omega))) (.int .i64 0) (.string ⟨#[]⟩) (.int .i64 0) (.int .i64 0)
              revert HB3 hb3
              generalize ((((wr.setCell ⟨w.heap.size, 0, none⟩ (.int .i64 0)).setCell ⟨w.heap.size, 1, none⟩ (.string ⟨#[]⟩)).setCell ⟨w.heap.size, 2, none⟩ (.int .i64 0)).setCell ⟨w.heap.size, 3, none⟩ (.int .i64 0)) = w3
              intro HB3 hb3
              have d0 : w3.cell? ⟨w.heap.size, 0, none⟩ = some (.int .i64 0) := HB3.cell 0
              have d1 : w3.cell? ⟨w.heap.size, 1, none⟩ = some (.string ⟨#[]⟩) := HB3.cell 1
              have d2 : w3.cell? ⟨w.heap.size, 2, none⟩ = some (.int .i64 0) := HB3.cell 2
              have d3 : w3.cell? ⟨w.heap.size, 3, none⟩ = some (.int .i64 0) := HB3.cell 3
              refine bodyPost_ret (v := .tuple #[.agg #[.int .i64 0, .string ⟨#[]⟩, .int .i64 0, .int .i64 0], .int .i64 0, .int .i64 103]) (by simp [results, Tryd.results26, go_sem, d0, d1, d2, d3]) rfl ⟨?_, hb3⟩
              rw [HS.out, HT.out]
              exact says_bad a rfl (by decide)
            · have hk1 : k + 1 < s.size := by omega
              cases hd : decodedL s[k + 1] with
              | none =>
                have HT := Lib.hid (sofar_none HSF.out (text_esc_bad s k hk1 he hd))
                have C1 := Lib.hid (fun w => decoded_none s (k + 1) w hm hk1 hd)
                rw [ek] at C1
                clear hq hl he hke ek hd
                go_wp2_with (go_at_call 42; (with_reducible refine (C1.out _).mono ?_); rintro e w' ⟨rfl, rfl⟩)
                have HB3 := four_set hBr (.int .i64 0) (.string ⟨#[]⟩) (.int .i64 0) (.int .i64 0)
                have hb3 : Below w.heap.size w _ := four_below (hb1.trans (hbw.mono (by omega))) (.int .i64 0) (.string ⟨#[]⟩) (.int .i64 0) (.int .i64 0)
                revert HB3 hb3
                generalize ((((wr.setCell ⟨w.heap.size, 0, none⟩ (.int .i64 0)).setCell ⟨w.heap.size, 1, none⟩ (.string ⟨#[]⟩)).setCell ⟨w.heap.size, 2, none⟩ (.int .i64 0)).setCell ⟨w.heap.size, 3, none⟩ (.int .i64 0)) = w3
                intro HB3 hb3
                have d0 : w3.cell? ⟨w.heap.size, 0, none⟩ = some (.int .i64 0) := HB3.cell 0
                have d1 : w3.cell? ⟨w.heap.size, 1, none⟩ = some (.string ⟨#[]⟩) := HB3.cell 1
                have d2 : w3.cell? ⟨w.heap.size, 2, none⟩ = some (.int .i64 0) := HB3.cell 2
                have d3 : w3.cell? ⟨w.heap.size, 3, none⟩ = some (.int .i64 0) := HB3.cell 3
                refine bodyPost_ret (v := .tuple #[.agg #[.int .i64 0, .string ⟨#[]⟩, .int .i64 0, .int .i64 0], .int .i64 0, .int .i64 103]) (by simp [results, Tryd.results26, go_sem, d0, d1, d2, d3]) rfl ⟨?_, hb3⟩
                rw [HS.out, HT.out]
                exact says_bad a rfl (by decide)
              | some b =>
                have HT := Lib.hid (sofar_step HSF.out hak b 2 (text_esc s k hk1 b he hd))
                have C1 := Lib.hid (fun w => decoded_some s (k + 1) b w hm hk1 hd)
                have C2 := Lib.hid (writebyte_any w1.heap.size w1.heap.size (Lib.byteCells acc) b.toNat wr hbu (by rw [Lib.byteCells_length]; omega) hbz)
                rw [bytecells_snoc] at C2
                rw [ek] at C1
                have hlen : (acc ++ [b]).length ≤ k + 2 := by simp; omega
                have HL := Lib.hid hlen
                clear hq hl he hke ek hd hlen
                go_wp2_with (first | (go_at_call 42; (with_reducible refine (C1.out _).mono ?_); rintro e w' ⟨rfl, rfl⟩) | (go_at_call 43; (with_reducible refine C2.out.mono ?_); rintro e w3 ⟨rfl, hbu3, hbw3⟩))
                go_roundw
                case rel => exact ⟨k + 2, acc ++ [b], by go_num, by omega, by omega, HL.out, HT.out, Or.inr hbu3, hbw.trans hbw3⟩
                case measure => simp [intOf]; omega
          · have t3 : ((s[k].toNat : Int) == 92) = false := by rw [show (92 : Int) = (((92 : UInt8).toNat : Nat) : Int) from rfl, u8_is]; simpa using he
            have HT := Lib.hid (sofar_step HSF.out hak s[k] 1 (text_byte s k hlt hq hl he))
            have C2 := Lib.hid (writebyte_any w1.heap.size w1.heap.size (Lib.byteCells acc) s[k].toNat wr hbu (by rw [Lib.byteCells_length]; omega) hbz)
            rw [bytecells_snoc] at C2
            have hlen : (acc ++ [s[k]]).length ≤ k + 1 := by simp; omega
            have HL := Lib.hid hlen
            clear hq hl he hlen
            go_wp2_with (go_at_call 43; (with_reducible refine C2.out.mono ?_); rintro e w3 ⟨rfl, hbu3, hbw3⟩)
            go_roundw
            case rel => exact ⟨k + 1, acc ++ [s[k]], by go_num, by omega, by omega, HL.out, HT.out, Or.inr hbu3, hbw.trans hbw3⟩
            case measure => simp [intOf]; omega
    · have HT := Lib.hid (sofar_none HSF.out (text_end s k hlt))
      go_wp2
      have HB3 := four_set hBr (.int .i64 0) (.string ⟨#[]⟩) (.int .i64 0) (.int .i64 0)
      have hb3 : Below w.heap.size w _ := four_below (hb1.trans (hbw.mono (by omega))) (.int .i64 0) (.string ⟨#[]⟩) (.int .i64 0) (.int .i64 0)
      revert HB3 hb3
      generalize ((((wr.setCell ⟨w.heap.size, 0, none⟩ (.int .i64 0)).setCell ⟨w.heap.size, 1, none⟩ (.string ⟨#[]⟩)).setCell ⟨w.heap.size, 2, none⟩ (.int .i64 0)).setCell ⟨w.heap.size, 3, none⟩ (.int .i64 0)) = w3
      intro HB3 hb3
      have d0 : w3.cell? ⟨w.heap.size, 0, none⟩ = some (.int .i64 0) := HB3.cell 0
      have d1 : w3.cell? ⟨w.heap.size, 1, none⟩ = some (.string ⟨#[]⟩) := HB3.cell 1
      have d2 : w3.cell? ⟨w.heap.size, 2, none⟩ = some (.int .i64 0) := HB3.cell 2
      have d3 : w3.cell? ⟨w.heap.size, 3, none⟩ = some (.int .i64 0) := HB3.cell 3
      refine bodyPost_ret (v := .tuple #[.agg #[.int .i64 0, .string ⟨#[]⟩, .int .i64 0, .int .i64 0], .int .i64 0, .int .i64 103]) (by simp [results, Tryd.results26, go_sem, d0, d1, d2, d3]) rfl ⟨?_, hb3⟩
      rw [HS.out, HT.out]
      exact says_bad a rfl (by decide)

end Go.Proofs.YtiiddmioafhmoaaDoor
