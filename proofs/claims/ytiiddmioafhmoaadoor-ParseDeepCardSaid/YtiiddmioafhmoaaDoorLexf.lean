/- Walks: the token at a position. -/
import Derived.Test.YtiiddmioafhmoaaDoorLexe
namespace Go.Proofs.YtiiddmioafhmoaaDoor
open Go.RowKit
set_option linter.unusedVariables false

theorem says_form (P : Piece) (a : Nat) : ∃ (kd : Int) (tx : ByteArray) (nm ap g cd : Int), ∀ e, Says P a e ↔ e = .returned (.tuple #[.agg #[.int .i64 kd, .string tx, .int .i64 nm, .int .i64 ap], .int .i64 g, .int .i64 cd]) := by
  by_cases h : P.code = 0
  · exact ⟨_, _, _, _, _, _, fun e => by unfold Says; rw [if_pos h]⟩
  · exact ⟨_, _, _, _, _, _, fun e => by unfold Says; rw [if_neg h]⟩
theorem calls_form {F : FuncId} {args : Array Value} {P : Piece} {a : Nat} (h : ∀ w, Calls Tryd.prog F args w fun e w' => Says P a e ∧ Below w.heap.size w w') {kd : Int} {tx : ByteArray} {nm ap g cd : Int} (hf : ∀ e, Says P a e ↔ e = .returned (.tuple #[.agg #[.int .i64 kd, .string tx, .int .i64 nm, .int .i64 ap], .int .i64 g, .int .i64 cd])) (w : World) :
    Calls Tryd.prog F args w fun e w' => e = .returned (.tuple #[.agg #[.int .i64 kd, .string tx, .int .i64 nm, .int .i64 ap], .int .i64 g, .int .i64 cd]) ∧ Below w.heap.size w w' :=
  (h w).mono fun _ _ ⟨he, hb⟩ => ⟨(hf _).1 he, hb⟩

theorem piece_digit (c : UInt8) (r : List UInt8) (h : digitS.contains c = true) : pieceL (c :: r) = numberL (c :: r) := by show pieceC c r = _; unfold pieceC; rw [if_pos h]
theorem piece_text (c : UInt8) (r : List UInt8) (h : digitS.contains c = false) (h2 : c = 34) : pieceL (c :: r) = stringL r := by show pieceC c r = _; unfold pieceC; rw [if_neg (by rw [h]; decide), if_pos h2]
theorem piece_name (c : UInt8) (r : List UInt8) (h : digitS.contains c = false) (h2 : c ≠ 34) (h3 : nameS.contains c = true) : pieceL (c :: r) = wordL (c :: r) (spanL inNameS.contains (c :: r)) := by show pieceC c r = _; unfold pieceC; rw [if_neg (by rw [h]; decide), if_neg h2, if_pos h3]
theorem piece_op (c : UInt8) (r : List UInt8) (h : digitS.contains c = false) (h2 : c ≠ 34) (h3 : nameS.contains c = false) (h4 : opS.contains c = true) : pieceL (c :: r) = wordL (c :: r) (spanL opS.contains (c :: r)) := by show pieceC c r = _; unfold pieceC; rw [if_neg (by rw [h]; decide), if_neg h2, if_neg (by rw [h3]; decide), if_pos h4]
theorem piece_single (c : UInt8) (r : List UInt8) (h : digitS.contains c = false) (h2 : c ≠ 34) (h3 : nameS.contains c = false) (h4 : opS.contains c = false) (h5 : singleS.contains c = true) : pieceL (c :: r) = wordL (c :: r) 1 := by show pieceC c r = _; unfold pieceC; rw [if_neg (by rw [h]; decide), if_neg h2, if_neg (by rw [h3]; decide), if_neg (by rw [h4]; decide), if_pos h5]
theorem piece_byte (c : UInt8) (r : List UInt8) (h : digitS.contains c = false) (h2 : c ≠ 34) (h3 : nameS.contains c = false) (h4 : opS.contains c = false) (h5 : singleS.contains c = false) : pieceL (c :: r) = .bad 101 := by show pieceC c r = _; unfold pieceC; rw [if_neg (by rw [h]; decide), if_neg h2, if_neg (by rw [h3]; decide), if_neg (by rw [h4]; decide), if_neg (by rw [h5]; decide)]

set_option maxHeartbeats 3200000 in
theorem token_any (s : ByteArray) (a : Nat) (w : World) (hs : s.size ≤ 60000) (ha : a < s.size) :
    Calls Tryd.prog 15 #[.string s, .int .i64 a] w fun e w' => Says (pieceL (s.data.toList.drop a)) a e ∧ Below w.heap.size w w' := by
  have hm : s.size ≤ maxLen := by unfold maxLen; omega
  have hmf : ∀ (fn : Fn) (first cap : Array Value) (w : World), (Instr.makeFunc fn first cap).run Tryd.prog w = .ok (.func fn first cap) w := fun _ _ _ _ => rfl
  have ed := drop_at s a ha
  have D1 := Lib.hid (fun (u : Bool) (hu : digitS.contains s[a] = u) (w : World) => has_as ⟨digitS.toArray⟩ s[a] u hu w)
  have D2 := Lib.hid (fun (u : Bool) (hu : nameS.contains s[a] = u) (w : World) => has_as ⟨nameS.toArray⟩ s[a] u hu w)
  have D3 := Lib.hid (fun (u : Bool) (hu : opS.contains s[a] = u) (w : World) => has_as ⟨opS.toArray⟩ s[a] u hu w)
  have D4 := Lib.hid (fun (u : Bool) (hu : singleS.contains s[a] = u) (w : World) => has_as ⟨singleS.toArray⟩ s[a] u hu w)
  cases hu1 : digitS.contains s[a]
  · have E1 := Lib.hid (D1.out false hu1)
    by_cases hq : s[a] = 34
    · have t2 : ((s[a].toNat : Int) == 34) = true := by rw [hq]; rfl
      have HP : Hid (pieceL (s.data.toList.drop a) = stringL (s.data.toList.drop (a + 1))) := Lib.hid (by rw [ed, piece_text _ _ hu1 hq])
      obtain ⟨kd, tx, nm, ap, g, cd, hf⟩ := says_form (stringL (s.data.toList.drop (a + 1))) a
      have CF := Lib.hid (calls_form (fun w => text_any s a w hs ha) hf)
      have HF := Lib.hid hf
      clear hf ed hu1 hq D1 D2 D3 D4
      go_enter Tryd.func15, Tryd.ntmps15
      go_wp2_with (first | (go_at_call 23; (with_reducible refine (E1.out _).mono ?_); rintro e w' ⟨rfl, rfl⟩) | (go_at_call 26; (with_reducible refine (CF.out _).mono ?_); rintro e w2 ⟨rfl, hb2⟩; have hB2 := (Blk.new w 52 #[.int .i64 0, .string ⟨#[]⟩, .int .i64 0, .int .i64 0]).below hb2 (by simp); have c0 : w2.cell? ⟨w.heap.size, 0, none⟩ = some (.int .i64 0) := hB2.cell 0; have c1 : w2.cell? ⟨w.heap.size, 1, none⟩ = some (.string ⟨#[]⟩) := hB2.cell 1; have c2 : w2.cell? ⟨w.heap.size, 2, none⟩ = some (.int .i64 0) := hB2.cell 2; have c3 : w2.cell? ⟨w.heap.size, 3, none⟩ = some (.int .i64 0) := hB2.cell 3; have f0 : w2.frozen? ⟨w.heap.size, 0, none⟩ = false := hB2.frozen 0; have f1 : w2.frozen? ⟨w.heap.size, 1, none⟩ = false := hB2.frozen 1; have f2 : w2.frozen? ⟨w.heap.size, 2, none⟩ = false := hB2.frozen 2; have f3 : w2.frozen? ⟨w.heap.size, 3, none⟩ = false := hB2.frozen 3))
      have HB3 := four_set hB2 (.int .i64 kd) (.string tx) (.int .i64 nm) (.int .i64 ap)
      have hb3 : Below w.heap.size w _ := four_below (((Below.refl _ _).alloc (Nat.le_refl _) _).trans (hb2.mono (by simp))) (.int .i64 kd) (.string tx) (.int .i64 nm) (.int .i64 ap)
      revert HB3 hb3
      generalize ((((w2.setCell ⟨w.heap.size, 0, none⟩ (.int .i64 kd)).setCell ⟨w.heap.size, 1, none⟩ (.string tx)).setCell ⟨w.heap.size, 2, none⟩ (.int .i64 nm)).setCell ⟨w.heap.size, 3, none⟩ (.int .i64 ap)) = w3
      intro HB3 hb3
      have d0 : w3.cell? ⟨w.heap.size, 0, none⟩ = some (.int .i64 kd) := HB3.cell 0
      have d1 : w3.cell? ⟨w.heap.size, 1, none⟩ = some (.string tx) := HB3.cell 1
      have d2 : w3.cell? ⟨w.heap.size, 2, none⟩ = some (.int .i64 nm) := HB3.cell 2
      have d3 : w3.cell? ⟨w.heap.size, 3, none⟩ = some (.int .i64 ap) := HB3.cell 3
      refine bodyPost_ret (v := .tuple #[.agg #[.int .i64 kd, .string tx, .int .i64 nm, .int .i64 ap], .int .i64 g, .int .i64 cd]) (by simp [results, Tryd.results15, go_sem, d0, d1, d2, d3]) rfl ⟨?_, hb3⟩
      rw [HP.out]
      exact (HF.out _).2 rfl
    · have t2 : ((s[a].toNat : Int) == 34) = false := by rw [show (34 : Int) = (((34 : UInt8).toNat : Nat) : Int) from rfl, u8_is]; simpa using hq
      cases hu2 : nameS.contains s[a]
      · have E2 := Lib.hid (D2.out false hu2)
        cases hu3 : opS.contains s[a]
        · have E3 := Lib.hid (D3.out false hu3)
          cases hu4 : singleS.contains s[a]
          · have E4 := Lib.hid (D4.out false hu4)
            have HP : Hid (pieceL (s.data.toList.drop a) = .bad 101) := Lib.hid (by rw [ed, piece_byte _ _ hu1 hq hu2 hu3 hu4])
            clear ed hu1 hq hu2 hu3 hu4 D1 D2 D3 D4
            go_enter Tryd.func15, Tryd.ntmps15
            go_wp2_with (first | (go_at_call 23; (with_reducible refine (E1.out _).mono ?_); rintro e w' ⟨rfl, rfl⟩) | (go_at_call 23; (with_reducible refine (E2.out _).mono ?_); rintro e w' ⟨rfl, rfl⟩) | (go_at_call 23; (with_reducible refine (E3.out _).mono ?_); rintro e w' ⟨rfl, rfl⟩) | (go_at_call 23; (with_reducible refine (E4.out _).mono ?_); rintro e w' ⟨rfl, rfl⟩))
            refine bodyPost_ret (v := .tuple #[.agg #[.int .i64 0, .string ⟨#[]⟩, .int .i64 0, .int .i64 0], .int .i64 0, .int .i64 101]) (by simp [results, Tryd.results15, go_sem]) rfl ⟨?_, (Below.refl _ _).alloc (Nat.le_refl _) _⟩
            rw [HP.out]
            exact says_bad a rfl (by decide)
          · have E4 := Lib.hid (D4.out true hu4)
            have HP : Hid (pieceL (s.data.toList.drop a) = wordL (s.data.toList.drop a) (a + 1 - a)) := Lib.hid (by rw [show a + 1 - a = 1 by omega]; rw [ed, piece_single _ _ hu1 hq hu2 hu3 hu4])
            have ek : ((a + 1 : Nat) : Int) = (a : Int) + 1 := by omega
            obtain ⟨kd, tx, nm, ap, g, cd, hf⟩ := says_form (wordL (s.data.toList.drop a) (a + 1 - a)) a
            have CF := Lib.hid (calls_form (fun w => word_any s a (a + 1) w hs (by omega) (by omega)) hf)
            rw [ek] at CF
            have HF := Lib.hid hf
            clear hf ed hu1 hq hu2 hu3 hu4 ek D1 D2 D3 D4
            go_enter Tryd.func15, Tryd.ntmps15
            go_wp2_with (first | (go_at_call 23; (with_reducible refine (E1.out _).mono ?_); rintro e w' ⟨rfl, rfl⟩) | (go_at_call 23; (with_reducible refine (E2.out _).mono ?_); rintro e w' ⟨rfl, rfl⟩) | (go_at_call 23; (with_reducible refine (E3.out _).mono ?_); rintro e w' ⟨rfl, rfl⟩) | (go_at_call 23; (with_reducible refine (E4.out _).mono ?_); rintro e w' ⟨rfl, rfl⟩) | (go_at_call 27; (with_reducible refine (CF.out _).mono ?_); rintro e w2 ⟨rfl, hb2⟩; have hB2 := (Blk.new w 52 #[.int .i64 0, .string ⟨#[]⟩, .int .i64 0, .int .i64 0]).below hb2 (by simp); have c0 : w2.cell? ⟨w.heap.size, 0, none⟩ = some (.int .i64 0) := hB2.cell 0; have c1 : w2.cell? ⟨w.heap.size, 1, none⟩ = some (.string ⟨#[]⟩) := hB2.cell 1; have c2 : w2.cell? ⟨w.heap.size, 2, none⟩ = some (.int .i64 0) := hB2.cell 2; have c3 : w2.cell? ⟨w.heap.size, 3, none⟩ = some (.int .i64 0) := hB2.cell 3; have f0 : w2.frozen? ⟨w.heap.size, 0, none⟩ = false := hB2.frozen 0; have f1 : w2.frozen? ⟨w.heap.size, 1, none⟩ = false := hB2.frozen 1; have f2 : w2.frozen? ⟨w.heap.size, 2, none⟩ = false := hB2.frozen 2; have f3 : w2.frozen? ⟨w.heap.size, 3, none⟩ = false := hB2.frozen 3))
            have HB3 := four_set hB2 (.int .i64 kd) (.string tx) (.int .i64 nm) (.int .i64 ap)
            have hb3 : Below w.heap.size w _ := four_below (((Below.refl _ _).alloc (Nat.le_refl _) _).trans (hb2.mono (by simp))) (.int .i64 kd) (.string tx) (.int .i64 nm) (.int .i64 ap)
            revert HB3 hb3
            generalize ((((w2.setCell ⟨w.heap.size, 0, none⟩ (.int .i64 kd)).setCell ⟨w.heap.size, 1, none⟩ (.string tx)).setCell ⟨w.heap.size, 2, none⟩ (.int .i64 nm)).setCell ⟨w.heap.size, 3, none⟩ (.int .i64 ap)) = w3
            intro HB3 hb3
            have d0 : w3.cell? ⟨w.heap.size, 0, none⟩ = some (.int .i64 kd) := HB3.cell 0
            have d1 : w3.cell? ⟨w.heap.size, 1, none⟩ = some (.string tx) := HB3.cell 1
            have d2 : w3.cell? ⟨w.heap.size, 2, none⟩ = some (.int .i64 nm) := HB3.cell 2
            have d3 : w3.cell? ⟨w.heap.size, 3, none⟩ = some (.int .i64 ap) := HB3.cell 3
            refine bodyPost_ret (v := .tuple #[.agg #[.int .i64 kd, .string tx, .int .i64 nm, .int .i64 ap], .int .i64 g, .int .i64 cd]) (by simp [results, Tryd.results15, go_sem, d0, d1, d2, d3]) rfl ⟨?_, hb3⟩
            rw [HP.out]
            exact (HF.out _).2 rfl
        · have E3 := Lib.hid (D3.out true hu3)
          obtain ⟨b, hb⟩ : ∃ b, a + spanL opS.contains (s.data.toList.drop a) = b := ⟨_, rfl⟩
          have hbs : b ≤ s.size := by rw [← hb]; exact span_room _ _ _ (by omega)
          have hab : a ≤ b := by omega
          have C1 := Lib.hid (fun w => endof_has ⟨opS.toArray⟩ s a w hm (by omega) b (Lib.hid hb))
          have HP : Hid (pieceL (s.data.toList.drop a) = wordL (s.data.toList.drop a) (b - a)) := Lib.hid (by rw [show b - a = spanL opS.contains (s.data.toList.drop a) by omega]; rw [ed, piece_op _ _ hu1 hq hu2 hu3])
          obtain ⟨kd, tx, nm, ap, g, cd, hf⟩ := says_form (wordL (s.data.toList.drop a) (b - a)) a
          have CF := Lib.hid (calls_form (fun w => word_any s a b w hs hab hbs) hf)
          have HF := Lib.hid hf
          clear hf ed hu1 hq hu2 hu3 hb D1 D2 D3 D4
          go_enter Tryd.func15, Tryd.ntmps15
          go_wp2_with (first | (go_at_call 23; (with_reducible refine (E1.out _).mono ?_); rintro e w' ⟨rfl, rfl⟩) | (go_at_call 23; (with_reducible refine (E2.out _).mono ?_); rintro e w' ⟨rfl, rfl⟩) | (go_at_call 23; (with_reducible refine (E3.out _).mono ?_); rintro e w' ⟨rfl, rfl⟩) | (go_at_call 22; (with_reducible refine (C1.out _).mono ?_); rintro e w' ⟨rfl, rfl⟩) | (go_at_call 27; (with_reducible refine (CF.out _).mono ?_); rintro e w2 ⟨rfl, hb2⟩; have hB2 := (Blk.new w 52 #[.int .i64 0, .string ⟨#[]⟩, .int .i64 0, .int .i64 0]).below hb2 (by simp); have c0 : w2.cell? ⟨w.heap.size, 0, none⟩ = some (.int .i64 0) := hB2.cell 0; have c1 : w2.cell? ⟨w.heap.size, 1, none⟩ = some (.string ⟨#[]⟩) := hB2.cell 1; have c2 : w2.cell? ⟨w.heap.size, 2, none⟩ = some (.int .i64 0) := hB2.cell 2; have c3 : w2.cell? ⟨w.heap.size, 3, none⟩ = some (.int .i64 0) := hB2.cell 3; have f0 : w2.frozen? ⟨w.heap.size, 0, none⟩ = false := hB2.frozen 0; have f1 : w2.frozen? ⟨w.heap.size, 1, none⟩ = false := hB2.frozen 1; have f2 : w2.frozen? ⟨w.heap.size, 2, none⟩ = false := hB2.frozen 2; have f3 : w2.frozen? ⟨w.heap.size, 3, none⟩ = false := hB2.frozen 3))
          have HB3 := four_set hB2 (.int .i64 kd) (.string tx) (.int .i64 nm) (.int .i64 ap)
          have hb3 : Below w.heap.size w _ := four_below (((Below.refl _ _).alloc (Nat.le_refl _) _).trans (hb2.mono (by simp))) (.int .i64 kd) (.string tx) (.int .i64 nm) (.int .i64 ap)
          revert HB3 hb3
          generalize ((((w2.setCell ⟨w.heap.size, 0, none⟩ (.int .i64 kd)).setCell ⟨w.heap.size, 1, none⟩ (.string tx)).setCell ⟨w.heap.size, 2, none⟩ (.int .i64 nm)).setCell ⟨w.heap.size, 3, none⟩ (.int .i64 ap)) = w3
          intro HB3 hb3
          have d0 : w3.cell? ⟨w.heap.size, 0, none⟩ = some (.int .i64 kd) := HB3.cell 0
          have d1 : w3.cell? ⟨w.heap.size, 1, none⟩ = some (.string tx) := HB3.cell 1
          have d2 : w3.cell? ⟨w.heap.size, 2, none⟩ = some (.int .i64 nm) := HB3.cell 2
          have d3 : w3.cell? ⟨w.heap.size, 3, none⟩ = some (.int .i64 ap) := HB3.cell 3
          refine bodyPost_ret (v := .tuple #[.agg #[.int .i64 kd, .string tx, .int .i64 nm, .int .i64 ap], .int .i64 g, .int .i64 cd]) (by simp [results, Tryd.results15, go_sem, d0, d1, d2, d3]) rfl ⟨?_, hb3⟩
          rw [HP.out]
          exact (HF.out _).2 rfl
      · have E2 := Lib.hid (D2.out true hu2)
        obtain ⟨b, hb⟩ : ∃ b, a + spanL inNameS.contains (s.data.toList.drop a) = b := ⟨_, rfl⟩
        have hbs : b ≤ s.size := by rw [← hb]; exact span_room _ _ _ (by omega)
        have hab : a ≤ b := by omega
        have C1 := Lib.hid (fun w => endof_has ⟨inNameS.toArray⟩ s a w hm (by omega) b (Lib.hid hb))
        have HP : Hid (pieceL (s.data.toList.drop a) = wordL (s.data.toList.drop a) (b - a)) := Lib.hid (by rw [show b - a = spanL inNameS.contains (s.data.toList.drop a) by omega]; rw [ed, piece_name _ _ hu1 hq hu2])
        obtain ⟨kd, tx, nm, ap, g, cd, hf⟩ := says_form (wordL (s.data.toList.drop a) (b - a)) a
        have CF := Lib.hid (calls_form (fun w => word_any s a b w hs hab hbs) hf)
        have HF := Lib.hid hf
        clear hf ed hu1 hq hu2 hb D1 D2 D3 D4
        go_enter Tryd.func15, Tryd.ntmps15
        go_wp2_with (first | (go_at_call 23; (with_reducible refine (E1.out _).mono ?_); rintro e w' ⟨rfl, rfl⟩) | (go_at_call 23; (with_reducible refine (E2.out _).mono ?_); rintro e w' ⟨rfl, rfl⟩) | (go_at_call 22; (with_reducible refine (C1.out _).mono ?_); rintro e w' ⟨rfl, rfl⟩) | (go_at_call 27; (with_reducible refine (CF.out _).mono ?_); rintro e w2 ⟨rfl, hb2⟩; have hB2 := (Blk.new w 52 #[.int .i64 0, .string ⟨#[]⟩, .int .i64 0, .int .i64 0]).below hb2 (by simp); have c0 : w2.cell? ⟨w.heap.size, 0, none⟩ = some (.int .i64 0) := hB2.cell 0; have c1 : w2.cell? ⟨w.heap.size, 1, none⟩ = some (.string ⟨#[]⟩) := hB2.cell 1; have c2 : w2.cell? ⟨w.heap.size, 2, none⟩ = some (.int .i64 0) := hB2.cell 2; have c3 : w2.cell? ⟨w.heap.size, 3, none⟩ = some (.int .i64 0) := hB2.cell 3; have f0 : w2.frozen? ⟨w.heap.size, 0, none⟩ = false := hB2.frozen 0; have f1 : w2.frozen? ⟨w.heap.size, 1, none⟩ = false := hB2.frozen 1; have f2 : w2.frozen? ⟨w.heap.size, 2, none⟩ = false := hB2.frozen 2; have f3 : w2.frozen? ⟨w.heap.size, 3, none⟩ = false := hB2.frozen 3))
        have HB3 := four_set hB2 (.int .i64 kd) (.string tx) (.int .i64 nm) (.int .i64 ap)
        have hb3 : Below w.heap.size w _ := four_below (((Below.refl _ _).alloc (Nat.le_refl _) _).trans (hb2.mono (by simp))) (.int .i64 kd) (.string tx) (.int .i64 nm) (.int .i64 ap)
        revert HB3 hb3
        generalize ((((w2.setCell ⟨w.heap.size, 0, none⟩ (.int .i64 kd)).setCell ⟨w.heap.size, 1, none⟩ (.string tx)).setCell ⟨w.heap.size, 2, none⟩ (.int .i64 nm)).setCell ⟨w.heap.size, 3, none⟩ (.int .i64 ap)) = w3
        intro HB3 hb3
        have d0 : w3.cell? ⟨w.heap.size, 0, none⟩ = some (.int .i64 kd) := HB3.cell 0
        have d1 : w3.cell? ⟨w.heap.size, 1, none⟩ = some (.string tx) := HB3.cell 1
        have d2 : w3.cell? ⟨w.heap.size, 2, none⟩ = some (.int .i64 nm) := HB3.cell 2
        have d3 : w3.cell? ⟨w.heap.size, 3, none⟩ = some (.int .i64 ap) := HB3.cell 3
        refine bodyPost_ret (v := .tuple #[.agg #[.int .i64 kd, .string tx, .int .i64 nm, .int .i64 ap], .int .i64 g, .int .i64 cd]) (by simp [results, Tryd.results15, go_sem, d0, d1, d2, d3]) rfl ⟨?_, hb3⟩
        rw [HP.out]
        exact (HF.out _).2 rfl
  · have E1 := Lib.hid (D1.out true hu1)
    have HP : Hid (pieceL (s.data.toList.drop a) = numberL (s.data.toList.drop a)) := Lib.hid (by rw [ed, piece_digit _ _ hu1])
    obtain ⟨kd, tx, nm, ap, g, cd, hf⟩ := says_form (numberL (s.data.toList.drop a)) a
    have CF := Lib.hid (calls_form (fun w => number_any s a w hs (by omega)) hf)
    have HF := Lib.hid hf
    clear hf ed hu1 D1 D2 D3 D4
    go_enter Tryd.func15, Tryd.ntmps15
    go_wp2_with (first | (go_at_call 23; (with_reducible refine (E1.out _).mono ?_); rintro e w' ⟨rfl, rfl⟩) | (go_at_call 25; (with_reducible refine (CF.out _).mono ?_); rintro e w2 ⟨rfl, hb2⟩; have hB2 := (Blk.new w 52 #[.int .i64 0, .string ⟨#[]⟩, .int .i64 0, .int .i64 0]).below hb2 (by simp); have c0 : w2.cell? ⟨w.heap.size, 0, none⟩ = some (.int .i64 0) := hB2.cell 0; have c1 : w2.cell? ⟨w.heap.size, 1, none⟩ = some (.string ⟨#[]⟩) := hB2.cell 1; have c2 : w2.cell? ⟨w.heap.size, 2, none⟩ = some (.int .i64 0) := hB2.cell 2; have c3 : w2.cell? ⟨w.heap.size, 3, none⟩ = some (.int .i64 0) := hB2.cell 3; have f0 : w2.frozen? ⟨w.heap.size, 0, none⟩ = false := hB2.frozen 0; have f1 : w2.frozen? ⟨w.heap.size, 1, none⟩ = false := hB2.frozen 1; have f2 : w2.frozen? ⟨w.heap.size, 2, none⟩ = false := hB2.frozen 2; have f3 : w2.frozen? ⟨w.heap.size, 3, none⟩ = false := hB2.frozen 3))
    have HB3 := four_set hB2 (.int .i64 kd) (.string tx) (.int .i64 nm) (.int .i64 ap)
    have hb3 : Below w.heap.size w _ := four_below (((Below.refl _ _).alloc (Nat.le_refl _) _).trans (hb2.mono (by simp))) (.int .i64 kd) (.string tx) (.int .i64 nm) (.int .i64 ap)
    revert HB3 hb3
    generalize ((((w2.setCell ⟨w.heap.size, 0, none⟩ (.int .i64 kd)).setCell ⟨w.heap.size, 1, none⟩ (.string tx)).setCell ⟨w.heap.size, 2, none⟩ (.int .i64 nm)).setCell ⟨w.heap.size, 3, none⟩ (.int .i64 ap)) = w3
    intro HB3 hb3
    have d0 : w3.cell? ⟨w.heap.size, 0, none⟩ = some (.int .i64 kd) := HB3.cell 0
    have d1 : w3.cell? ⟨w.heap.size, 1, none⟩ = some (.string tx) := HB3.cell 1
    have d2 : w3.cell? ⟨w.heap.size, 2, none⟩ = some (.int .i64 nm) := HB3.cell 2
    have d3 : w3.cell? ⟨w.heap.size, 3, none⟩ = some (.int .i64 ap) := HB3.cell 3
    refine bodyPost_ret (v := .tuple #[.agg #[.int .i64 kd, .string tx, .int .i64 nm, .int .i64 ap], .int .i64 g, .int .i64 cd]) (by simp [results, Tryd.results15, go_sem, d0, d1, d2, d3]) rfl ⟨?_, hb3⟩
    rw [HP.out]
    exact (HF.out _).2 rfl

end Go.Proofs.YtiiddmioafhmoaaDoor
