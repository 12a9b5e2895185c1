/- Walks: the order in which operators are applied. -/
import Derived.Test.YtiiddmioafhmoaaDoorFixb
namespace Go.Proofs.YtiiddmioafhmoaaDoor
open Go.RowKit
set_option linter.unusedVariables false

/-- The levels of a list of operators. -/
def lvs (ss : List ByteArray) (k : Nat) : Nat := lvL (ss.getD k ByteArray.empty).data.toList
abbrev strVals (ss : List ByteArray) : List Value := ss.map Value.string
abbrev intVals (l : List Nat) : List Value := l.map fun (x : Nat) => Value.int .i64 (x : Int)
theorem str_at {w : World} {B n : Nat} {A : Option Addr} {ss : List ByteArray} (h : Reads w B 1 A n (strVals ss)) {k : Nat} (hk : k < n) :
    ∃ ad s, A = some ad ∧ (ad.add k).block < B ∧ w.cell? (ad.add k) = some (.string s) ∧ Hid (lvL s.data.toList = lvs ss k) := by
  obtain ⟨ad, u, e, hb, hu, hc⟩ := h.at_ hk
  have hl : k < ss.length := by have := h.1; simp at this; omega
  refine ⟨ad, ss[k], e, by rw [block_of_add]; exact hb, ?_, ?_⟩
  · rw [hc, ← hu]; simp [hl]
  · show lvL _ = lvs ss k
    unfold lvs
    rw [List.getD_eq_getElem?_getD, List.getElem?_eq_getElem hl]; rfl
/-- What the walk is told of a slice of strings that came in. -/
def IsStrs (w : World) (a : Option Addr) (n c : Nat) (ss : List ByteArray) : Prop :=
  ss.length = n ∧ n ≤ c ∧ c ≤ maxLen ∧ Reads w w.heap.size 1 a n (strVals ss) ∧ ∀ s ∈ ss, s.size ≤ maxLen
theorem IsStrs.none_ (w : World) : IsStrs w none 0 0 [] := ⟨rfl, Nat.le_refl _, Nat.zero_le _, Reads.none_, fun s h => by simp at h⟩
theorem IsStrs.some_ {w : World} {x : Addr} {l c : Nat} {ss : List ByteArray} (hl : l ≤ c) (hm : c ≤ maxLen) (hz : l ≤ ss.length) (hc : ∀ i, i < ss.length → w.cell? (x.add i) = some (.string (ss.getD i ByteArray.empty))) (hs : ∀ s ∈ ss, s.size ≤ maxLen) :
    IsStrs w (some x) l c (ss.take l) := by
  have hlen : (ss.take l).length = l := List.length_take_of_le hz
  refine ⟨hlen, hl, hm, ⟨by simp [hz], fun hn => ⟨x, rfl, ?_, fun j u hu => ?_⟩⟩, fun s h => hs s (List.mem_of_mem_take h)⟩
  · have := World.block_lt_of_cell? w _ (hc 0 (by omega))
    rwa [block_of_add] at this
  · have hj : j < l := by
      have := (List.getElem?_eq_some_iff.1 hu).1
      simp at this
      omega
    rw [hc j (by omega), ← hu]
    simp [hj, show j < ss.length by omega]
theorem own_form {w : World} {base : Nat} {e : TypeId} {size : Nat} {v : Value} {n : Nat} {xs : List Value} (h : w.ownsRow base e size v n xs) : ∃ (A : Option Addr) (c : Nat), v = .slice A n c ∧ n ≤ c ∧ c ≤ maxLen ∧ (0 < n → ∃ g, A = some ⟨g, 0, none⟩ ∧ base ≤ g ∧ g < w.heap.size) := by
  rcases h.2 with ⟨rfl, h0⟩ | ⟨g, cap, cur, rfl, hb, hh, hc, hm, _⟩
  · subst h0; exact ⟨none, 0, rfl, by omega, Nat.zero_le _, fun h => by omega⟩
  · exact ⟨_, cap, rfl, hc, hm, fun _ => ⟨g, rfl, hb, (Array.getElem?_eq_some_iff.1 hh).1⟩⟩
theorem int_info : (Tryd.prog.info? 3).map (fun i => (i.zero, i.size, i.bytes)) = some (some (.int .i64 0), 1, 8) := by kernel_rfl

/-- What Order answers. -/
def OrdSays (f : Nat → Nat) (n : Nat) (w : World) (e : Ending) (w' : World) : Prop :=
  (NoC f n ∧ e = .returned (.tuple #[.slice (some ⟨w.heap.size, 0, none⟩) n n, .int .i64 0, .int .i64 0]) ∧ w'.ownsRow w.heap.size 3 1 (.slice (some ⟨w.heap.size, 0, none⟩) n n) n (intVals (ordL f 0 n)) ∧ Below w.heap.size w w') ∨
  (∃ k, k < n ∧ ClashAt f k ∧ NoC f k ∧ e = .returned (.tuple #[.slice none 0 0, .int .i64 k, .int .i64 112]) ∧ Below w.heap.size w w')

/-- The state of the two loops: what is applied, what waits. -/
def OrdRel (f : Nat → Nat) (n k : Nat) (w wr : World) (o st : List Nat) (v5 v6 : Value) : Prop :=
  v5 = .slice (some ⟨w.heap.size, 0, none⟩) o.length n ∧ wr.ownsRow w.heap.size 3 1 v5 o.length (intVals o) ∧ wr.ownsRow (w.heap.size + 1) 3 1 v6 st.length (intVals st.reverse) ∧
  Below w.heap.size w wr ∧ w.heap.size < wr.heap.size ∧ o.length + st.length = k ∧ k ≤ n ∧ o = gaps f st k ∧ Inv f st k ∧ NoC f k

theorem grown_alloc {a b : World} {o : Obj} {row : Option Nat} (h : (a.alloc o).grownBy b row) : a.grownBy b row :=
  ⟨h.os, h.tape, h.output, Nat.le_trans (by simp) h.size, fun i hi hne => (h.block i (by simp; omega) hne).trans (Below.heap_alloc a o i hi)⟩
theorem rel_start {f : Nat → Nat} {n : Nat} {w w1 : World} (h1 : w1.ownsRow w.heap.size 3 1 (.slice (some ⟨w.heap.size, 0, none⟩) 0 n) 0 []) (h2 : w.grownBy w1 none) :
    OrdRel f n 0 w w1 [] [] (.slice (some ⟨w.heap.size, 0, none⟩) 0 n) (.slice none 0 0) := by
  refine ⟨rfl, h1, World.ownsRow_nil _ _ _ _, (Below.refl _ _).grown h2 (Nat.le_refl _) (fun k hk => by cases hk), (h1.lt _ rfl).2, rfl, Nat.zero_le _, ?_, trivial, noc_zero f⟩
  show [] = ordL f 0 0
  rw [ord_nil f (Nat.le_refl 0)]
theorem rel_pop {f : Nat → Nat} {n k s g c L : Nat} {w wr w2 : World} {o st : List Nat} {v5 : Value} {ob : Obj} (hL : L = st.length) (h : OrdRel f n k w wr o (s :: st) v5 (.slice (some ⟨g, 0, none⟩) (L + 1) c))
    (h1 : w2.ownsRow w.heap.size 3 1 (.slice (some ⟨w.heap.size, 0, none⟩) (o.length + 1) n) (o.length + 1) (intVals o ++ [.int .i64 (s : Int)])) (h2 : (wr.alloc ob).grownBy w2 (some w.heap.size)) :
    OrdRel f n k w w2 (o ++ [s]) st (.slice (some ⟨w.heap.size, 0, none⟩) (o.length + 1) n) (.slice (some ⟨g, 0, none⟩) L c) := by
  subst hL
  obtain ⟨e5, h5, h6, hb, hz, hl, hk, ho, hi, hn⟩ := h
  have hg := grown_alloc h2
  have e1 : (o ++ [s]).length = o.length + 1 := by simp
  have hlt := h6.lt g rfl
  refine ⟨by rw [e1], ?_, ?_, hb.grown hg (by omega) (fun k hk => by cases hk; exact Nat.le_refl _), Nat.lt_of_lt_of_le hz hg.size, ?_, hk, ?_, inv_pop hi, hn⟩
  · rw [e1]; simpa using h1
  · have h7 := h6.kept hg (.inr (by intro e; have : g = w.heap.size := Option.some.inj e; omega))
    refine ownsRow_pop (last := [.int .i64 (s : Int)]) (by simp) ?_
    have e2 : intVals (s :: st).reverse = intVals st.reverse ++ [.int .i64 (s : Int)] := by simp
    rw [e2] at h7
    exact h7
  · rw [e1]; simp at hl; omega
  · rw [gap_pop hi, ← ho]
theorem rel_push {f : Nat → Nat} {n k m : Nat} {w wr w2 : World} {o st : List Nat} {v5 v6 v6' : Value} {ob : Obj} (h : OrdRel f n k w wr o st v5 v6) (hkn : k < n) (hm : m = st.length)
    (h1 : w2.ownsRow (w.heap.size + 1) 3 1 v6' (m + 1) (intVals st.reverse ++ [.int .i64 (k : Int)])) (h2 : (wr.alloc ob).grownBy w2 v6.ownBlock)
    (hp : Inv f (k :: st) (k + 1) ∧ gaps f (k :: st) (k + 1) = gaps f st k ∧ ¬ ClashAt f k) :
    OrdRel f n (k + 1) w w2 o (k :: st) v5 v6' := by
  subst hm
  obtain ⟨e5, h5, h6, hb, hz, hl, hk, ho, hi, hn⟩ := h
  have hg := grown_alloc h2
  have hrow : ∀ g, v6.ownBlock = some g → w.heap.size + 1 ≤ g := fun g hg => (h6.lt g hg).1
  refine ⟨e5, ?_, ?_, hb.grown hg (by omega) (fun k hk => by have := hrow k hk; omega), Nat.lt_of_lt_of_le hz hg.size, by simp; omega, by omega, ?_, hp.1, noc_succ hn hp.2.2⟩
  · refine h5.kept hg (.inr ?_)
    rw [e5]
    intro e
    have := hrow w.heap.size e.symm
    omega
  · have e2 : intVals (k :: st).reverse = intVals st.reverse ++ [.int .i64 (k : Int)] := by simp
    rw [e2]; exact h1
  · rw [hp.2.1]; exact ho
def sliceLen : Value → Nat
  | .slice _ n _ => n
  | _ => 0
theorem OrdRel.head {f : Nat → Nat} {n k : Nat} {w wr : World} {o st : List Nat} {v5 v6 : Value} (h : OrdRel f n k w wr o st v5 v6) :
    v5 = .slice (some ⟨w.heap.size, 0, none⟩) o.length n ∧ ∃ (A : Option Addr) (c : Nat), v6 = .slice A st.length c ∧ st.length ≤ c ∧ c ≤ maxLen := by
  obtain ⟨A, c, e, h1, h2, _⟩ := own_form h.2.2.1
  exact ⟨h.1, A, c, e, h1, h2⟩
theorem OrdRel.top {f : Nat → Nat} {n k s : Nat} {w wr : World} {o st : List Nat} {v5 v6 : Value} (h : OrdRel f n k w wr o (s :: st) v5 v6) :
    ∃ (g c : Nat), v6 = .slice (some ⟨g, 0, none⟩) (st.length + 1) c ∧ st.length + 1 ≤ c ∧ c ≤ maxLen ∧ wr.cell? ⟨g, st.length, none⟩ = some (.int .i64 (s : Int)) ∧ s < k ∧ o.length + 1 ≤ n := by
  obtain ⟨A, c, e, h1, h2, h3⟩ := own_form h.2.2.1
  obtain ⟨g, rfl, _⟩ := h3 (by simp)
  subst e
  obtain ⟨e5, h5, h6, hb, hz, hl, hk, ho, hi, hn⟩ := h
  refine ⟨g, c, rfl, h1, h2, ?_, hi.1, by simp at hl; omega⟩
  have := h6.cellAt st.length (by simp)
  rw [this]
  simp

theorem own6 {f : Nat → Nat} {n k L s : Nat} {w wr : World} {o st : List Nat} {v5 v6 : Value} (h : OrdRel f n k w wr o (s :: st) v5 v6) (hL : L = st.length) : wr.ownsRow (w.heap.size + 1) 3 1 v6 (L + 1) (intVals (s :: st).reverse) := by
  subst hL; exact h.2.2.1
theorem rel_end {f : Nat → Nat} {n : Nat} {w wr : World} {o : List Nat} {v5 v6 : Value} (h : OrdRel f n n w wr o [] v5 v6) :
    OrdSays f n w (.returned (.tuple #[.slice (some ⟨w.heap.size, 0, none⟩) o.length n, .int .i64 0, .int .i64 0])) wr := by
  obtain ⟨e5, h5, h6, hb, hz, hl, hk, ho, hi, hn⟩ := h
  have e : o.length = n := by simpa using hl
  subst e5
  rw [e] at h5 ⊢
  have ho2 : o = ordL f 0 n := ho
  rw [ho2] at h5
  exact .inl ⟨hn, rfl, h5, hb⟩

set_option maxHeartbeats 6400000 in
theorem order_any (ss : List ByteArray) (A : Option Addr) (n c : Nat) (w : World) (hnm : n ≤ 8796093022208) (hrd : Reads w w.heap.size 1 A n (strVals ss)) :
    Calls Tryd.prog 35 #[.slice A n c] w (OrdSays (lvs ss) n w) := by
  obtain ⟨f, hf⟩ : ∃ f, lvs ss = f := ⟨_, rfl⟩
  obtain ⟨i0, hi, hz0, hz1, hz2⟩ := info_parts int_info
  have HF := Lib.hid hf
  rw [hf]
  clear hf
  have hb2 : i0.bytes * n ≤ 281474976710656 := by rw [hz2]; omega
  have hmx : n ≤ maxLen := by unfold maxLen; omega
  have HI := Lib.hid hi
  have HZ0 := Lib.hid hz0
  have HZ1 := Lib.hid hz1
  have HZ2 := Lib.hid hz2
  clear hi hz0 hz1 hz2
  go_enter Tryd.func35, Tryd.ntmps35
  go_wp2_with (refine wpList_make_own _ rfl _ _ _ rfl w.heap.size 3 i0 (.int .i64 0) 1 Tryd.underlying72 HI.out HZ0.out HZ1.out .i64 .i64 _ n rfl rfl rfl hb2 hmx (Nat.le_refl _) ?_)
  intro w1 hown1 hgrow1
  have HR0 := Lib.hid (rel_start (f := f) hown1 hgrow1)
  clear hown1 hgrow1 hb2
  go_wp2
  go_loopw [5, 6, 15] (fun v5 v6 i wr => ∃ (k : Nat) (o st : List Nat), i = .int .i64 k ∧ OrdRel f n k w wr o st v5 v6 ∧ lo st = k) (fun _ _ i _ => n - (intOf i).toNat)
  case atStart => exact ⟨0, [], [], rfl, HR0.out, rfl⟩
  case round =>
    obtain ⟨k, o, st, rfl, hrel, hlo⟩ := hrel
    obtain ⟨rfl, A6, c6, rfl, hc6, hm6⟩ := hrel.head
    have hkn := hrel.2.2.2.2.2.2.1
    have HR := Lib.hid hrel
    have HO := Lib.hid (over_start (f := f) hlo)
    clear hrel hlo HR0
    by_cases hlt : k < n
    · obtain ⟨ad, sk, rfl, hbl, hck, HLK⟩ := str_at hrd hlt
      rw [HF.out] at HLK
      have hck2 := (HR.out.2.2.2.1.cell hbl).trans hck
      go_wp2
      go_step3
      go_wp2
      go_step3
      go_wp2
      go_loopw [5, 6] (fun v5 v6 wr => ∃ (o st : List Nat), OrdRel f n k w wr o st v5 v6 ∧ Over f st k) (fun _ v6 _ => sliceLen v6)
      case atStart => exact ⟨o, st, HR.out, HO.out⟩
      case round =>
        obtain ⟨o, st, hrel, hov⟩ := hrel
        obtain ⟨rfl, A6, c6, rfl, hc6, hm6⟩ := hrel.head
        have HR := Lib.hid hrel
        have HO := Lib.hid hov
        clear hrel hov
        have hwz : w.heap.size < wr.heap.size := HR.out.2.2.2.2.1
        cases st with
        | nil =>
          go_wp2_with (at_builtin; refine wpList_append_own _ rfl (.tmp 55) (.tmp 57) 72 rfl (w.heap.size + 1) 3 i0 (.int .i64 0) 1 8 Tryd.underlying72 HI.out HZ0.out HZ1.out HZ2.out rfl (by decide) _ _ _ rfl (HR.out.2.2.1.alloc _) ⟨wr.heap.size, 0, none⟩ 1 1 [.int .i64 k] rfl rfl (one_new _ _ _) (one_is rfl) (by unfold maxLen; simp) (by simp) (by simp; omega) ?_)
          intro v' w2 hown' hgrow _
          have R := Lib.hid (rel_push HR.out hlt rfl hown' hgrow (push_nil HO.out))
          clear hown' hgrow
          go_wp2
          rw [Exit.noGoto_normal]
          go_wp2
          go_roundw
          case rel => exact ⟨k + 1, o, [k], by go_num, R.out, rfl⟩
          case measure => simp [intOf]; omega
        | cons s st =>
          obtain ⟨g, c6, e6, hc6, hm6, hcs, hsk, hon⟩ := HR.out.top
          have hr2 := HR.out
          rw [e6] at hr2
          obtain ⟨L, hL⟩ : ∃ L, L = st.length := ⟨_, rfl⟩
          rw [← hL] at e6 hc6 hcs hr2
          rw [e6]
          have HR2 := Lib.hid hr2
          have hLb : L + 1 ≤ k := by have := HR.out.2.2.2.2.2.1; simp at this; omega
          have HL := Lib.hid hL
          clear e6 hL hr2
          have hsn : s < n := by omega
          obtain ⟨ad2, ts, ead, hbl2, hct, HLS⟩ := str_at hrd hsn
          injection ead with ead
          subst ead
          rw [HF.out] at HLS
          have hct2 := (HR.out.2.2.2.1.cell hbl2).trans hct
          by_cases hpp : Pops (f s) (f k)
          · have C1 := Lib.hid (fun w => needs_any sk ts false w (f k) (f s) HLK HLS false (Lib.hid ((pops_iff _ _).2 hpp)))
            have HO2 := Lib.hid (over_pop HR.out.2.2.2.2.2.2.2.2.1 HO.out hpp)
            have hown5 := HR.out.2.1
            have HOW := Lib.hid hown5
            clear hpp hown5
            go_wp2_with (first | (go_at_call 54; (with_reducible refine (C1.out _).mono ?_); rintro e w' ⟨rfl, rfl⟩) | (at_builtin; refine wpList_append_fits _ rfl (.tmp 38) (.tmp 40) 72 rfl w.heap.size 3 i0 1 Tryd.underlying72 HI.out HZ1.out w.heap.size o.length n (intVals o) rfl (HOW.out.alloc _) ⟨wr.heap.size, 0, none⟩ 1 1 [.int .i64 s] rfl rfl (one_new _ _ _) (one_is rfl) hon ?_))
            intro w2 hown2 hgrow2
            have R := Lib.hid (rel_pop HL.out HR2.out hown2 hgrow2)
            clear hown2 hgrow2
            go_wp2
            go_roundw
            case rel => exact ⟨o ++ [s], st, R.out, HO2.out⟩
            case measure => simp [sliceLen]
          · have C1 := Lib.hid (fun w => needs_any sk ts false w (f k) (f s) HLK HLS true (Lib.hid (by have := mt (pops_iff _ _).1 hpp; simpa using this)))
            by_cases hst : Stays (f s) (f k)
            · have C2 := Lib.hid (fun w => needs_any ts sk true w (f s) (f k) HLS HLK false (Lib.hid ((stays_iff _ _).2 hst)))
              have HP := Lib.hid (push_cons HR.out.2.2.2.2.2.2.2.2.1 HO.out hst)
              have HO6 := Lib.hid (own6 HR2.out HL.out)
              clear hpp hst
              go_wp2_with (first | (go_at_call 54; (with_reducible refine (C1.out _).mono ?_); rintro e w' ⟨rfl, rfl⟩) | (go_at_call 54; (with_reducible refine (C2.out _).mono ?_); rintro e w' ⟨rfl, rfl⟩) | (at_builtin; refine wpList_append_own _ rfl (.tmp 55) (.tmp 57) 72 rfl (w.heap.size + 1) 3 i0 (.int .i64 0) 1 8 Tryd.underlying72 HI.out HZ0.out HZ1.out HZ2.out rfl (by decide) _ (L + 1) _ rfl (HO6.out.alloc _) ⟨wr.heap.size, 0, none⟩ 1 1 [.int .i64 k] rfl rfl (one_new _ _ _) (one_is rfl) (by unfold maxLen; omega) (by omega) (by simp; omega) ?_))
              intro v' w2 hown' hgrow _
              have R := Lib.hid (rel_push (m := L + 1) HR2.out hlt (by rw [HL.out]; rfl) (by simpa using hown') hgrow HP.out)
              clear hown' hgrow
              go_wp2
              rw [Exit.noGoto_normal]
              go_wp2
              go_roundw
              case rel => exact ⟨k + 1, o, k :: s :: st, by go_num, R.out, rfl⟩
              case measure => simp [intOf]; omega
            · have C2 := Lib.hid (fun w => needs_any ts sk true w (f s) (f k) HLS HLK true (Lib.hid (by have := mt (stays_iff _ _).1 hst; simpa using this)))
              have HX := Lib.hid (clash_here HR.out.2.2.2.2.2.2.2.2.1 HO.out hpp hst)
              have HN := Lib.hid HR.out.2.2.2.2.2.2.2.2.2
              clear hpp hst
              go_wp2_with (first | (go_at_call 54; (with_reducible refine (C1.out _).mono ?_); rintro e w' ⟨rfl, rfl⟩) | (go_at_call 54; (with_reducible refine (C2.out _).mono ?_); rintro e w' ⟨rfl, rfl⟩))
              rw [Exit.noGoto_ret]
              go_wp2
              go_ret3
              exact .inr ⟨k, hlt, HX.out, HN.out, rfl, HR.out.2.2.2.1⟩
    · obtain rfl : k = n := by omega
      go_wp2
      go_loopw [5, 6] (fun v5 v6 wr => ∃ (o st : List Nat), OrdRel f k k w wr o st v5 v6) (fun _ v6 _ => sliceLen v6)
      case atStart => exact ⟨o, st, HR.out⟩
      case round =>
        obtain ⟨o, st, hrel⟩ := hrel
        obtain ⟨rfl, A6, c6, rfl, hc6, hm6⟩ := hrel.head
        have HR := Lib.hid hrel
        clear hrel
        have hwz : w.heap.size < wr.heap.size := HR.out.2.2.2.2.1
        cases st with
        | nil =>
          have HE := Lib.hid (rel_end HR.out)
          go_wp2
          go_ret3
          exact HE.out
        | cons s st =>
          obtain ⟨g, c6, e6, hc6, hm6, hcs, hsk, hon⟩ := HR.out.top
          have hr2 := HR.out
          rw [e6] at hr2
          obtain ⟨L, hL⟩ : ∃ L, L = st.length := ⟨_, rfl⟩
          rw [← hL] at e6 hc6 hcs hr2
          rw [e6]
          have HR2 := Lib.hid hr2
          have hLb : L + 1 ≤ k := by have := HR.out.2.2.2.2.2.1; simp at this; omega
          have HL := Lib.hid hL
          clear e6 hL hr2
          have HOW := Lib.hid HR.out.2.1
          go_wp2_with (at_builtin; refine wpList_append_fits _ rfl (.tmp 63) (.tmp 70) 72 rfl w.heap.size 3 i0 1 Tryd.underlying72 HI.out HZ1.out w.heap.size o.length k (intVals o) rfl (HOW.out.alloc _) ⟨wr.heap.size, 0, none⟩ 1 1 [.int .i64 s] rfl rfl (one_new _ _ _) (one_is rfl) hon ?_)
          intro w2 hown2 hgrow2
          have R := Lib.hid (rel_pop HL.out HR2.out hown2 hgrow2)
          clear hown2 hgrow2
          go_wp2
          go_roundw
          case rel => exact ⟨o ++ [s], st, R.out⟩
          case measure => simp [sliceLen]

end Go.Proofs.YtiiddmioafhmoaaDoor
