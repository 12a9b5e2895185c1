/- Walks: a source's tokens. -/
import Derived.Test.YtiiddmioafhmoaaDoorMge
namespace Go.Proofs.YtiiddmioafhmoaaDoor
open Go.RowKit
set_option linter.unusedVariables false

theorem tk_info : (Tryd.prog.info? 52).map (fun i => (i.zero, i.size, i.bytes)) = some (some (.agg #[.int .i64 0, .string ⟨#[]⟩, .int .i64 0, .int .i64 0]), 4, 40) := by kernel_rfl

theorem two_set {w : World} {g : Nat} {t : TypeId} {x0 x1 : Value} (h : Blk w g t #[x0, x1]) (y0 y1 : Value) :
    Blk ((w.setCell ⟨g, 0, none⟩ y0).setCell ⟨g, 1, none⟩ y1) g t #[y0, y1] := by
  have := (h.set_ 0 y0).set_ 1 y1
  simpa using this
theorem two_below {w w' : World} {g : Nat} (h : Below g w w') (y0 y1 : Value) :
    Below g w ((w'.setCell ⟨g, 0, none⟩ y0).setCell ⟨g, 1, none⟩ y1) :=
  (h.setCell (p := ⟨g, 0, none⟩) (Nat.le_refl _) y0).setCell (p := ⟨g, 1, none⟩) (Nat.le_refl _) y1

/-- What Scan answers. -/
def ScanSays (X : List Tk × Int × Nat) (B : Nat) (e : Ending) (w' : World) : Prop :=
  ∃ (A : Option Addr) (c : Nat), e = .returned (.tuple #[.slice A X.1.length c, .agg #[.int .i64 X.2.1, .int .i64 X.2.2]]) ∧ TkRow w' w'.heap.size A X.1 ∧ X.1.length ≤ c ∧ c ≤ maxLen

theorem own_below {w w' : World} {base size n : Nat} {e : TypeId} {v : Value} {xs : List Value} (h : w.ownsRow base e size v n xs) (hb : Below w.heap.size w w') : w'.ownsRow base e size v n xs := by
  refine ⟨h.1, ?_⟩
  rcases h.2 with h0 | ⟨g, cap, cur, hv, hg, hh, hr⟩
  · exact Or.inl h0
  · refine Or.inr ⟨g, cap, cur, hv, hg, ?_, hr⟩
    rw [hb.block g ?_]; exact hh
    rcases Nat.lt_or_ge g w.heap.size with hlt | hge
    · exact hlt
    · rw [Array.getElem?_eq_none hge] at hh; cases hh
theorem skip0 (s : ByteArray) (w : World) (hs : s.size ≤ maxLen) (G : Nat) (hG : skipL false s.data.toList = G) :
    Calls Tryd.prog 14 #[.string s, .int .i64 0] w fun e w' => e = .returned (.int .i64 G) ∧ w = w' :=
  lskip_any s 0 w hs (Nat.zero_le _) G (Lib.hid (by rw [List.drop_zero, Nat.zero_add]; exact hG))
theorem scan_nil (X : List Tk × Int × Nat) (x y : Int) (B : Nat) (w' : World) (h : X.1 = []) (h1 : X.2.1 = x) (h2 : ((X.2.2 : Nat) : Int) = y) : ScanSays X B (.returned (.tuple #[.slice none 0 0, .agg #[.int .i64 x, .int .i64 y]])) w' := by
  refine ⟨none, 0, ?_, ?_, ?_, Nat.zero_le _⟩
  · rw [h, h1, h2]; rfl
  · rw [h]; exact TkRow.nil_ _ _ _
  · rw [h]; exact Nat.le_refl _

theorem drop_cons_ex (s : ByteArray) (k : Nat) (h : k < s.size) : ∃ c r, s.data.toList.drop k = c :: r ∧ r.length + 1 = s.size - k := by
  refine ⟨s[k], s.data.toList.drop (k + 1), drop_at s k h, ?_⟩
  rw [List.length_drop, data_len]; omega
theorem piece_width' (s : ByteArray) (k : Nat) (h : k < s.size) {kd nm : Int} {tx : List UInt8} {wd : Nat} (hp : pieceL (s.data.toList.drop k) = ⟨0, kd, tx, nm, wd⟩) : 1 ≤ wd ∧ k + wd ≤ s.size := by
  obtain ⟨c, r, e, hl⟩ := drop_cons_ex s k h
  rw [e] at hp
  have := piece_width c r (by rw [hp])
  rw [hp] at this
  simp only at this
  omega
theorem joined_step' (s : ByteArray) (k : Nat) (h : k < s.size) {kd nm : Int} {tx : List UInt8} {wd f g q : Nat} {acc : List Tk} {X : List Tk × Int × Nat} (hp : pieceL (s.data.toList.drop k) = ⟨0, kd, tx, nm, wd⟩) (hg : k + wd = g) (hq : g + skipL false (s.data.toList.drop g) = q) (hj : Joined acc (toksF (f + 1) k (s.data.toList.drop k)) X) :
    Joined (acc ++ [⟨kd, tx, nm, k⟩]) (toksF f q (s.data.toList.drop q)) X := by
  obtain ⟨c, r, e, hl⟩ := drop_cons_ex s k h
  have e2 : ∀ m, (c :: r).drop m = s.data.toList.drop (k + m) := fun m => by rw [← e, List.drop_drop]
  rw [e] at hp hj
  have := joined_step hj (by rw [hp])
  rw [hp] at this
  simp only [e2, ← Nat.add_assoc, hg, hq] at this
  exact this
theorem joined_bad' (s : ByteArray) (k : Nat) (h : k < s.size) {f : Nat} {acc : List Tk} {X : List Tk × Int × Nat} {P : Piece} (hp : pieceL (s.data.toList.drop k) = P) (hc : P.code ≠ 0) (hj : Joined acc (toksF (f + 1) k (s.data.toList.drop k)) X) : X = ([], P.code, k) := by
  obtain ⟨c, r, e, hl⟩ := drop_cons_ex s k h
  rw [e] at hp hj
  have := joined_bad hj (by rw [hp]; exact hc)
  rw [hp] at this; exact this
theorem joined_end' (s : ByteArray) (k : Nat) (h : ¬ k < s.size) {f : Nat} {acc : List Tk} {X : List Tk × Int × Nat} (hj : Joined acc (toksF (f + 1) k (s.data.toList.drop k)) X) : X = (acc ++ [⟨0, [], 0, k⟩], 0, 0) := by
  rw [List.drop_eq_nil_of_le (by rw [data_len]; omega)] at hj
  exact joined_end hj
theorem tk_reads {w : World} {b : Nat} {kd nm : Int} {tx : ByteArray} {k : Int} (hb : w.heap[b]? = some (.cells #[.int .i64 kd, .string tx, .int .i64 nm, .int .i64 k] 52 (0, 0))) : ∀ j u, ([.int .i64 kd, .string tx, .int .i64 nm, .int .i64 k] : List Value)[j]? = some u → w.cell? ((⟨b, 0, none⟩ : Addr).add j) = some u := by
  intro j u hu
  have hadd : (⟨b, 0, none⟩ : Addr).add j = ⟨b, j, none⟩ := by
    unfold Addr.add
    by_cases hj : j = 0
    · subst hj; rfl
    · simp [hj]
  rw [hadd, cell_of_row w b j _ _ _ hb]
  simpa using hu

theorem own_set2 {w : World} {base g size n : Nat} {e : TypeId} {v : Value} {xs : List Value} (h : w.ownsRow base e size v n xs) (hg : g < base) (x y : Value) : ((w.setCell ⟨g, 0, none⟩ x).setCell ⟨g, 1, none⟩ y).ownsRow base e size v n xs :=
  ownsRow_setCell_below (ownsRow_setCell_below h (a := ⟨g, 0, none⟩) hg x) (a := ⟨g, 1, none⟩) hg y
theorem scan_own {acc : List Tk} {k : Nat} {B base : Nat} {w : World} {A : Option Addr} {c : Nat} (n : Nat) (hn : (acc ++ [(⟨0, [], 0, k⟩ : Tk)]).length = n + 1) (h : w.ownsRow base 52 4 (.slice A (n + 1) c) (n + 1) (tksCells acc ++ [.int .i64 0, .string ⟨#[]⟩, .int .i64 0, .int .i64 k])) :
    ScanSays (acc ++ [⟨0, [], 0, k⟩], 0, 0) B (.returned (.tuple #[.slice A (n + 1) c, .agg #[.int .i64 0, .int .i64 0]])) w := by
  have e : tksCells acc ++ [.int .i64 0, .string ⟨#[]⟩, .int .i64 0, .int .i64 k] = tksCells (acc ++ [⟨0, [], 0, k⟩]) := by rw [← tks_snoc]; rfl
  rw [e] at h
  refine ⟨A, c, ?_, ?_, ?_⟩
  · simp only [hn]; rfl
  · rcases h.2 with ⟨_, h0⟩ | ⟨g, cap, cur, hv, _⟩
    · omega
    · injection hv with h1 h2 h3
      subst h1
      exact TkRow.of_reads (n := n + 1) (Reads.of_own h) hn.symm
  · simp only [hn]
    rcases h.2 with ⟨_, h0⟩ | ⟨g, cap, cur, hv, _, _, hc, hm, _⟩
    · omega
    · injection hv with h1 h2 h3; subst h3; exact ⟨hc, hm⟩

set_option maxHeartbeats 3200000 in
theorem scan_any (s : ByteArray) (w : World) (hm : s.size ≤ maxLen) :
    Calls Tryd.prog 8 #[.string s] w fun e w' => ScanSays (scanL s.data.toList) w.heap.size e w' ∧ Below w.heap.size w w' := by
  have hm2 := hm
  unfold maxLen at hm2
  by_cases hbig : 60000 < s.size
  · have HX := Lib.hid (show scanL s.data.toList = ([], 3, 0) by unfold scanL; rw [if_pos (by rw [data_len]; exact hbig)])
    have d0 : decide ((60000 : Int) < (s.size : Int)) = true := by simp; omega
    go_enter Tryd.func8, Tryd.ntmps8
    go_wp2
    refine bodyPost_ret (v := .tuple #[.slice none 0 0, .agg #[.int .i64 3, .int .i64 0]]) (by simp [results, Tryd.results8, go_sem]) rfl ⟨?_, (Below.refl _ _).alloc (Nat.le_refl _) _⟩
    rw [HX.out]; exact scan_nil _ _ _ _ _ rfl rfl rfl
  · have hs : s.size ≤ 60000 := by omega
    have d0 : decide ((60000 : Int) < (s.size : Int)) = false := by simp; omega
    obtain ⟨r, hr⟩ : ∃ r, badL s.data.toList = r := ⟨_, rfl⟩
    have C1 := Lib.hid (fun w => invalid_any s w hm r (Lib.hid hr))
    cases r with
    | some i =>
      have HX := Lib.hid (show scanL s.data.toList = ([], 100, i) by unfold scanL; rw [if_neg (by rw [data_len]; omega), hr])
      clear hr
      go_enter Tryd.func8, Tryd.ntmps8
      go_wp2_with (first | (go_at_call 13; (with_reducible refine (C1.out _).mono ?_); rintro e w2 ⟨he, hb2⟩; unfold SaysAt at he; subst he; have hB2 := (Blk.new w 35 #[.int .i64 0, .int .i64 0]).below hb2 (by simp); have c0 : w2.cell? ⟨w.heap.size, 0, none⟩ = some (.int .i64 0) := hB2.cell 0; have c1 : w2.cell? ⟨w.heap.size, 1, none⟩ = some (.int .i64 0) := hB2.cell 1; have f0 : w2.frozen? ⟨w.heap.size, 0, none⟩ = false := hB2.frozen 0; have f1 : w2.frozen? ⟨w.heap.size, 1, none⟩ = false := hB2.frozen 1))
      have HB3 := two_set hB2 (.int .i64 100) (.int .i64 i)
      have hb3 : Below w.heap.size w _ := two_below (((Below.refl _ _).alloc (Nat.le_refl _) _).trans (hb2.mono (by simp))) (.int .i64 100) (.int .i64 i)
      revert HB3 hb3
      generalize ((w2.setCell ⟨w.heap.size, 0, none⟩ (.int .i64 100)).setCell ⟨w.heap.size, 1, none⟩ (.int .i64 i)) = w3
      intro HB3 hb3
      have d0 : w3.cell? ⟨w.heap.size, 0, none⟩ = some (.int .i64 100) := HB3.cell 0
      have d1 : w3.cell? ⟨w.heap.size, 1, none⟩ = some (.int .i64 i) := HB3.cell 1
      refine bodyPost_ret (v := .tuple #[.slice none 0 0, .agg #[.int .i64 100, .int .i64 i]]) (by simp [results, Tryd.results8, go_sem, d0, d1]) rfl ⟨?_, hb3⟩
      rw [HX.out]; exact scan_nil _ _ _ _ _ rfl rfl rfl
    | none =>
      obtain ⟨k0, hk0⟩ : ∃ k0, skipL false s.data.toList = k0 := ⟨_, rfl⟩
      obtain ⟨X, hX⟩ : ∃ X, scanL s.data.toList = X := ⟨_, rfl⟩
      have HJ := Lib.hid (show Joined [] (toksF (s.size + 1) k0 (s.data.toList.drop k0)) X by
        have : X = toksF (s.size + 1) k0 (s.data.toList.drop k0) := by rw [← hX]; unfold scanL; rw [if_neg (by rw [data_len]; omega), hr, hk0]; rfl
        rw [this]; exact joined_start _ _ _)
      have C2 := Lib.hid (fun w => skip0 s w hm k0 hk0)
      have hk0s : k0 ≤ s.size := by rw [← hk0]; exact skip_le _ _
      have HX := Lib.hid hX
      clear hr hk0 hX
      go_enter Tryd.func8, Tryd.ntmps8
      go_wp2_with (first | (go_at_call 13; (with_reducible refine (C1.out _).mono ?_); rintro e w2 ⟨he, hb2⟩; unfold SaysAt at he; subst he; have hB2 := (Blk.new w 35 #[.int .i64 0, .int .i64 0]).below hb2 (by simp)) | (go_at_call 14; (with_reducible refine (C2.out _).mono ?_); rintro e w' ⟨rfl, rfl⟩))
      have hb0 : Below w.heap.size w w2 := ((Below.refl _ _).alloc (Nat.le_refl _) _).trans (hb2.mono (by simp))
      have hz2 : w.heap.size < w2.heap.size := hB2.lt
      clear hb2
      obtain ⟨i0, hi, hz0, hz1, hzb⟩ := info_parts tk_info
      go_loopw [6, 7] (fun v i wr => ∃ (k f : Nat) (acc : List Tk), i = .int .i64 k ∧ k ≤ s.size ∧ s.size < k + f ∧ acc.length ≤ k ∧ wr.ownsRow w2.heap.size 52 4 v acc.length (tksCells acc) ∧ Below w2.heap.size w2 wr ∧ Joined acc (toksF f k (s.data.toList.drop k)) X) (fun _ i _ => s.size - (intOf i).toNat)
      case atStart => exact ⟨k0, s.size + 1, [], rfl, hk0s, by omega, by simp, World.ownsRow_nil _ _ _ _, Below.refl _ _, HJ.out⟩
      case round =>
        obtain ⟨k, f, acc, rfl, hk, hf, hacc, hown, hbw, hj⟩ := hrel
        have hbz := hbw.size
        have HJ2 := Lib.hid hj
        have HB2r := Lib.hid (hB2.below hbw hz2)
        have HBL := Lib.hid (hb0.trans (hbw.mono (Nat.le_of_lt hz2)))
        have HBW := Lib.hid hbw
        clear hj hbw
        obtain ⟨f, rfl⟩ : ∃ f', f = f' + 1 := ⟨f - 1, by omega⟩
        by_cases hlt : k < s.size
        · obtain ⟨P, hp⟩ : ∃ P, pieceL (s.data.toList.drop k) = P := ⟨_, rfl⟩
          have T := fun w => token_any s k w hs hlt
          rw [hp] at T
          by_cases hc : P.code = 0
          · obtain ⟨cd, kd, tx, nm, wd⟩ := P
            simp only at hc
            subst hc
            obtain ⟨g, hg⟩ : ∃ g, k + wd = g := ⟨_, rfl⟩
            obtain ⟨q, hq⟩ : ∃ q, g + skipL false (s.data.toList.drop g) = q := ⟨_, rfl⟩
            have hw := piece_width' s k hlt hp
            have hgs : g ≤ s.size := by omega
            have hqs : q ≤ s.size := by
              have := skip_le (s.data.toList.drop g) false
              rw [List.length_drop, data_len] at this; omega
            have hgq : g ≤ q := by omega
            have hkg : k < g := by omega
            have C3 := Lib.hid (ok_of T rfl g hg)
            have C4 := Lib.hid (fun w => lskip_any s g w hm hgs q (Lib.hid hq))
            have HN := Lib.hid (joined_step' s k hlt hp hg hq HJ2.out)
            clear T hp hg hq hw
            have hz3 : ∀ w3, Below wr.heap.size wr w3 → w2.heap.size ≤ w3.heap.size := fun w3 h => Nat.le_trans hbz h.size
            go_wp2_with (first | (go_at_call 15; (with_reducible refine (C3.out _).mono ?_); rintro e w3 ⟨rfl, hb3⟩; have hown3 := own_below hown hb3; have hbz3 := hz3 w3 hb3; clear hz3) | (at_builtin; refine wpList_append_own _ rfl _ _ 43 rfl w2.heap.size 52 i0 (.agg #[.int .i64 0, .string ⟨#[]⟩, .int .i64 0, .int .i64 0]) 4 40 Tryd.underlying43 hi hz0 hz1 hzb rfl (by decide) _ _ _ rfl ((hown3.alloc _).alloc _) ⟨w3.heap.size + 1, 0, none⟩ 1 1 [.int .i64 kd, .string ⟨tx.toArray⟩, .int .i64 nm, .int .i64 k] rfl rfl ?c1 ?c2 ?c3 ?c4 ?c5 ?_))
            case c1 => exact tk_reads (by have := heap_alloc_new (w3.alloc (.cells #[.int .i64 kd, .string ⟨tx.toArray⟩, .int .i64 nm, .int .i64 k] 52)) (.cells #[.int .i64 kd, .string ⟨tx.toArray⟩, .int .i64 nm, .int .i64 k] 52); simpa using this)
            case c2 => intro u hu; simp at hu; rcases hu with rfl | rfl | rfl | rfl <;> rfl
            case c3 => unfold maxLen; omega
            case c4 => omega
            case c5 => simp; omega
            intro v' w4 hown' hgrow _
            have HO := Lib.hid hown'
            have HW4 : Hid (Below w2.heap.size w2 w4) := Lib.hid ((((HBW.out.trans (hb3.mono hbz)).alloc hbz3 _).alloc (by simp; omega) _).grown hgrow (by simp; omega) (fun m hm => (hown.lt m hm).1))
            clear hown' hgrow hb3 hown3 hown
            go_wp2_with (go_at_call 14; (with_reducible refine (C4.out _).mono ?_); rintro e w' ⟨rfl, rfl⟩)
            go_roundw
            case rel =>
              refine ⟨q, f, acc ++ [⟨kd, tx, nm, k⟩], rfl, hqs, by omega, by simp; omega, ?_, HW4.out, HN.out⟩
              have := HO.out
              rw [show acc.length + 1 = (acc ++ [(⟨kd, tx, nm, k⟩ : Tk)]).length by simp] at this
              rw [← tks_snoc]; exact this
            case measure => simp [intOf]; omega
          · have hx : (P.code != 0) = true := by simpa using hc
            obtain ⟨cd, hcd⟩ : ∃ cd, P.code = cd := ⟨_, rfl⟩
            have HXX := Lib.hid (joined_bad' s k hlt hp hc HJ2.out)
            rw [hcd] at hx
            have C3 := Lib.hid (bad_of T hc cd hcd)
            clear T hp hc
            rw [hcd] at HXX
            clear hcd
            go_wp2_with (first | (go_at_call 15; (with_reducible refine (C3.out _).mono ?_); rintro e w3 ⟨rfl, hb3⟩; have hB3 := HB2r.out.below hb3 (by omega); have hlt3 := hB3.lt; have c0 : w3.cell? ⟨w.heap.size, 0, none⟩ = some (.int .i64 0) := hB3.cell 0; have c1 : w3.cell? ⟨w.heap.size, 1, none⟩ = some (.int .i64 0) := hB3.cell 1; have f0 : w3.frozen? ⟨w.heap.size, 0, none⟩ = false := hB3.frozen 0; have f1 : w3.frozen? ⟨w.heap.size, 1, none⟩ = false := hB3.frozen 1))
            have HB5 := (two_set hB3 (.int .i64 cd) (.int .i64 k)).alloc (.cells #[.int .i64 0, .string ⟨#[]⟩, .int .i64 0, .int .i64 0] 52)
            have hb5 : Below w.heap.size w _ := (two_below (HBL.out.trans (hb3.mono (by omega))) (.int .i64 cd) (.int .i64 k)).alloc (by simp; omega) (.cells #[.int .i64 0, .string ⟨#[]⟩, .int .i64 0, .int .i64 0] 52)
            revert HB5 hb5
            generalize (((w3.setCell ⟨w.heap.size, 0, none⟩ (.int .i64 cd)).setCell ⟨w.heap.size, 1, none⟩ (.int .i64 k)).alloc (.cells #[.int .i64 0, .string ⟨#[]⟩, .int .i64 0, .int .i64 0] 52)) = w5
            intro HB5 hb5
            have d0 : w5.cell? ⟨w.heap.size, 0, none⟩ = some (.int .i64 cd) := HB5.cell 0
            have d1 : w5.cell? ⟨w.heap.size, 1, none⟩ = some (.int .i64 k) := HB5.cell 1
            refine bodyPost_ret (v := .tuple #[.slice none 0 0, .agg #[.int .i64 cd, .int .i64 k]]) (by simp [results, Tryd.results8, go_sem, d0, d1]) rfl ⟨?_, hb5⟩
            rw [HX.out, HXX.out]; exact scan_nil _ _ _ _ _ rfl rfl rfl
        · have HXX := Lib.hid (joined_end' s k hlt HJ2.out)
          go_wp2_with (at_builtin; refine wpList_append_own _ rfl _ _ 43 rfl w2.heap.size 52 i0 (.agg #[.int .i64 0, .string ⟨#[]⟩, .int .i64 0, .int .i64 0]) 4 40 Tryd.underlying43 hi hz0 hz1 hzb rfl (by decide) _ _ _ rfl (hown.alloc _) ⟨wr.heap.size, 0, none⟩ 1 1 [.int .i64 0, .string ⟨#[]⟩, .int .i64 0, .int .i64 k] rfl rfl ?e1 ?e2 ?e3 ?e4 ?e5 ?_)
          case e1 => exact tk_reads (heap_alloc_new wr _)
          case e2 => intro u hu; simp at hu; rcases hu with rfl | rfl | rfl | rfl <;> rfl
          case e3 => unfold maxLen; omega
          case e4 => omega
          case e5 => simp; omega
          intro v' w4 hown' hgrow _
          have hB4 : Blk w4 w.heap.size 35 #[.int .i64 0, .int .i64 0] := (HB2r.out.alloc _).grown hgrow (own_blk_ne hown HB2r.out (by decide)).symm
          have hbw4 : Below w.heap.size w w4 := ((HBL.out.alloc (by omega) _).grown hgrow (by simp; omega) (fun m hm => by have := (hown.lt m hm).1; omega))
          have c0 : w4.cell? ⟨w.heap.size, 0, none⟩ = some (.int .i64 0) := hB4.cell 0
          have c1 : w4.cell? ⟨w.heap.size, 1, none⟩ = some (.int .i64 0) := hB4.cell 1
          have f0 : w4.frozen? ⟨w.heap.size, 0, none⟩ = false := hB4.frozen 0
          have f1 : w4.frozen? ⟨w.heap.size, 1, none⟩ = false := hB4.frozen 1
          obtain ⟨A, c, rfl⟩ : ∃ A c, v' = .slice A (acc.length + 1) c := by
            rcases hown'.2 with ⟨_, h0⟩ | ⟨g, cap, cur, hv, _⟩
            · omega
            · exact ⟨_, _, hv⟩
          have HO := Lib.hid hown'
          have hz4 : w.heap.size < w4.heap.size := hB4.lt
          clear hown' hgrow hown
          go_wp2
          have HB5 := two_set hB4 (.int .i64 0) (.int .i64 0)
          have hb5 : Below w.heap.size w _ := two_below hbw4 (.int .i64 0) (.int .i64 0)
          have HO5 := own_set2 HO.out (g := w.heap.size) (by omega) (.int .i64 0) (.int .i64 0)
          revert HB5 hb5 HO5
          generalize ((w4.setCell ⟨w.heap.size, 0, none⟩ (.int .i64 0)).setCell ⟨w.heap.size, 1, none⟩ (.int .i64 0)) = w5
          intro HB5 hb5 HO5
          have d0 : w5.cell? ⟨w.heap.size, 0, none⟩ = some (.int .i64 0) := HB5.cell 0
          have d1 : w5.cell? ⟨w.heap.size, 1, none⟩ = some (.int .i64 0) := HB5.cell 1
          refine bodyPost_ret (v := .tuple #[.slice A (acc.length + 1) c, .agg #[.int .i64 0, .int .i64 0]]) (by simp [results, Tryd.results8, go_sem, d0, d1]) rfl ⟨?_, hb5⟩
          rw [HX.out, HXX.out]
          refine scan_own acc.length ?_ HO5
          simp

end Go.Proofs.YtiiddmioafhmoaaDoor
