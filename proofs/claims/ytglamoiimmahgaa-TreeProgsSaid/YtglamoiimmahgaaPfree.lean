/- Walks: the program's free names: each once, in order. -/
import Derived.Maps.OwnSet
import Derived.Test.YtglamoiimmahgaaPocc
namespace Go.Proofs.Ytglamoiimmahgaa
open Go.RowKit Go.Shelf Go.Maps
set_option linter.unusedVariables false
set_option linter.unusedSimpArgs false
set_option maxRecDepth 100000
attribute [local go_sem] Oper.semAt_some

/-- Block mb is the set of the names of l. -/
def SeenIs (W : World) (mb n : Nat) (l : List ByteArray) : Prop :=
  ∃ D : DataW Unit, W.ownsMap Try.prog 9 unitElem mb n D ∧ IsMap D ∧ ∀ s : ByteArray, has D (.string s.data.toList) = hasS l s
theorem SeenIs.blk {W W' : World} {mb n : Nat} {l : List ByteArray} (h : SeenIs W mb n l) (hb : W'.heap[mb]? = W.heap[mb]?) : SeenIs W' mb n l := by
  obtain ⟨D, ⟨es, clock, h1, h2⟩, h3⟩ := h
  exact ⟨D, ⟨es, clock, hb.trans h1, h2⟩, h3⟩
theorem SeenIs.lt {W : World} {mb n : Nat} {l : List ByteArray} (h : SeenIs W mb n l) : mb < W.heap.size := by
  obtain ⟨D, h1, _⟩ := h
  exact h1.lt
theorem SeenIs.mono {W : World} {mb n n' : Nat} {l : List ByteArray} (h : SeenIs W mb n l) (hn : n ≤ n') : SeenIs W mb n' l := by
  obtain ⟨D, h1, h2⟩ := h
  exact ⟨D, h1.mono hn, h2⟩
theorem SeenIs.made (w : World) : SeenIs (w.alloc (.map #[] 0)) w.heap.size 0 [] := ⟨.map [], World.ownsMap_made _ _ _ _, ⟨[], rfl⟩, fun s => by simp [has, hasS]⟩
theorem SeenIs.put {W' : World} {mb n : Nat} {D : DataW Unit} {l : List ByteArray} (s : ByteArray) (hD : IsMap D) (hf : ∀ s : ByteArray, has D (.string s.data.toList) = hasS l s)
    (h1 : W'.ownsMap Try.prog 9 unitElem mb (n + 1) (D.put (.string s.data.toList) (.agg []))) : SeenIs W' mb (n + 1) (l ++ [s]) := by
  refine ⟨_, h1, ?_, fun x => ?_⟩
  · obtain ⟨es, rfl⟩ := hD
    exact ⟨_, rfl⟩
  · rw [hasS_app]
    by_cases h : x.data.toList = s.data.toList
    · rw [h, has_put_same hD (by simp [WideAt.IsKeyLit])]
      have : hasS [s] x = true := by simp [hasS, nmEq, h]
      rw [this, Bool.or_true]
    · rw [has_put_other (by simpa using h), hf]
      have : hasS [s] x = false := by unfold hasS; rw [List.any_cons, List.any_nil, Bool.or_false]; unfold nmEq; rw [Bool.eq_false_iff]; exact fun e => h (by rw [beq_iff_eq] at e; exact e.symm)
      rw [this, Bool.or_false]
theorem dd_take {all : List ByteArray} {k : Nat} {x : ByteArray} (h : all[k]? = some x) : ddS (all.take (k + 1)) = (if hasS (all.take k) x then ddS (all.take k) else ddS (all.take k) ++ [x]) := by
  obtain ⟨hk, rfl⟩ := List.getElem?_eq_some_iff.1 h
  unfold ddS
  rw [join_take hk, hasS_join]
  simp [hasS]
theorem has_take_eq {all : List ByteArray} {k : Nat} {x s : ByteArray} (h : all[k]? = some x) : hasS (all.take (k + 1)) s = (hasS (all.take k) s || nmEq x s) := by
  obtain ⟨hk, rfl⟩ := List.getElem?_eq_some_iff.1 h
  rw [List.take_succ_eq_append_getElem hk, hasS_app]
  simp [hasS]
theorem SeenIs.same {W : World} {mb n : Nat} {l l' : List ByteArray} (h : SeenIs W mb n l) (he : ∀ s, hasS l s = hasS l' s) : SeenIs W mb n l' := by
  obtain ⟨D, h1, h2, h3⟩ := h
  exact ⟨D, h1, h2, fun s => (h3 s).trans (he s)⟩
theorem occ_lenN (N : Nat) : ∀ e : Ex, e.nodes ≤ N → ∀ bl, (e.occ bl).length ≤ e.mass := by
  induction N with
  | zero => intro e h; cases e; unfold Ex.nodes at h; omega
  | succ N ih =>
    have h1 : ∀ l : List Ex, exsNodes l ≤ N → ∀ bl, (exsOcc l bl).length ≤ exsMass l := by
      intro l; induction l with
      | nil => intro _ _; exact Nat.le_refl _
      | cons a l ihl => intro hl bl; unfold exsNodes at hl; have := ih a (by omega) bl; have := ihl (by omega) bl; simp only [exsOcc, exsMass, List.length_append]; omega
    have h2 : ∀ l : List Bd, bdsNodes l ≤ N → ∀ bl, (bdsOcc l bl).length ≤ bdsMass l := by
      intro l; induction l with
      | nil => intro _ _; exact Nat.le_refl _
      | cons a l ihl => intro hl bl; cases a with
        | mk nm e q => unfold bdsNodes Bd.nodes at hl; have := ih e (by omega) bl; have := ihl (by omega) bl; simp only [bdsOcc, Bd.occ, bdsMass, Bd.mass, List.length_append]; omega
    have h3 : ∀ l : List Al, alsNodes l ≤ N → ∀ bl, (alsOcc l bl).length ≤ alsMass l := by
      intro l; induction l with
      | nil => intro _ _; exact Nat.le_refl _
      | cons a l ihl => intro hl bl; cases a with
        | mk p e => unfold alsNodes Al.nodes at hl; have := ih e (by omega) (bl ++ ptNames p); have := ihl (by omega) bl; simp only [alsOcc, Al.occ, alsMass, Al.mass, List.length_append]; omega
    intro e h bl
    cases e with
    | mk k nm n t ks als bs q =>
      unfold Ex.nodes at h
      have k1 := h1 ks (by omega); have k2 := h2 bs (by omega); have k3 := h3 als (by omega)
      unfold Ex.occ Ex.mass
      have a0 : ∀ c : Bool, ((if k = 3 ∧ c = false then [nm] else [])).length ≤ 1 := by intro c; split <;> simp
      have a1 := a0 (hasS bl nm)
      have b1 := k1 (bl ++ bdsNames bs); have b2 := k2 (bl ++ bdsNames bs); have b3 := k1 bl; have b4 := k2 bl; have b5 := k1 (bl ++ [nm]); have b6 := k3 bl
      by_cases h7 : k = 7
      · by_cases h1 : n = 1
        · simp only [h7, h1, if_true, List.length_append] at *; omega
        · simp only [h7, h1, if_true, if_false, List.length_append] at *; omega
      · by_cases h6 : k = 6
        · simp only [h7, h6, if_true, if_false, List.length_append] at *; simp at *; omega
        · simp only [h7, h6, if_false, List.length_append] at *; omega
theorem occ_len (e : Ex) (bl : List ByteArray) : (e.occ bl).length ≤ e.mass := occ_lenN _ e (Nat.le_refl _) bl
theorem dd_len (l : List ByteArray) : (ddS l).length ≤ l.length := by have := join_len l []; unfold ddS; simpa using this

/-- The blocks that the gathering of names turns: the variable, the set, the row that the variable holds. -/
def FrX (s : Nat) (W : World) (b : Nat) : Prop := b = s + 1 ∨ b = s + 2 ∨ ∃ v, W.heap[s + 1]? = some (.cells #[v] 50 (0, 0)) ∧ v.ownBlock = some b
theorem frX_stab (s : Nat) : Stab (FrX s) := by
  rintro A B hk b (hb | hb | ⟨v, hv, hb⟩)
  · exact .inl hb
  · exact .inr (.inl hb)
  · exact .inr (.inr ⟨v, by rw [← hk.block (s + 1) (.inl rfl)]; exact hv, hb⟩)
/-- What has been gathered. -/
def FrJ (s : Nat) (all : List ByteArray) (k : Nat) (W : World) : Prop :=
  ∃ v, Blk W (s + 1) 50 #[v] ∧ W.ownsRow (s + 5) 9 1 v (ddS (all.take k)).length (nmVals (ddS (all.take k))) ∧ SeenIs W (s + 2) k (all.take k)
theorem frX_own {s : Nat} {W : World} {v : Value} {g : Nat} (h : Blk W (s + 1) 50 #[v]) (hg : FrX s W g) : g = s + 1 ∨ g = s + 2 ∨ v.ownBlock = some g := by
  rcases hg with hg | hg | ⟨v', hv, hb⟩
  · exact .inl hg
  · exact .inr (.inl hg)
  · unfold Blk at h
    rw [h] at hv
    injection hv with hv
    injection hv with hv
    have : v' = v := by simpa using hv.symm
    exact .inr (.inr (this ▸ hb))
theorem frJ_kep {s : Nat} {all : List ByteArray} {k : Nat} {A B : World} (h : FrJ s all k A) (hk : Kep (FrX s A) A B) : FrJ s all k B := by
  obtain ⟨v, h1, h2, h3⟩ := h
  refine ⟨v, (hk.block _ (.inl rfl)).trans h1, ⟨h2.1, ?_⟩, h3.blk (hk.block _ (.inr (.inl rfl)))⟩
  rcases h2.2 with h0 | ⟨g, cap, cur, hv, hg, hh, hr⟩
  · exact .inl h0
  · exact .inr ⟨g, cap, cur, hv, hg, (hk.block g (.inr (.inr ⟨v, h1, by rw [hv]; rfl⟩))).trans hh, hr⟩
theorem frJ_lt {s : Nat} {all : List ByteArray} {k : Nat} {A : World} (h : FrJ s all k A) : ∀ b, FrX s A b → b < A.heap.size ∧ (b = s + 1 ∨ b = s + 2 ∨ s + 5 ≤ b) := by
  intro b hb
  obtain ⟨v, h1, h2, h3⟩ := h
  rcases frX_own h1 hb with rfl | rfl | hb
  · exact ⟨h1.lt, .inl rfl⟩
  · exact ⟨h3.lt, .inr (.inl rfl)⟩
  · exact ⟨(h2.lt b hb).2, .inr (.inr (h2.lt b hb).1)⟩
theorem zero_unit (W : World) : (zeroValue 91).run Try.prog W = .ok (.agg #[]) W := Try.zeroValue91 W

set_option maxHeartbeats 6400000 in
theorem pfree_any (e : Ex) (B : Nat) (w : World) (cs : List Value) (hN : e.mass ≤ 4000000) (hB : B ≤ w.heap.size) (hx : ExAt w B cs e) :
    Calls Try.prog 26 #[.agg cs.toArray] w (NmOwn (ddS (e.occ [])) w) := by
  obtain ⟨c0, c1, c2, c3, c4, c5, c6, c7, c8, c9, c10, rfl⟩ := eleven_of hx.eleven
  obtain ⟨xn, xtk, xtn, xq, xnm, xtnm, xtA, xA, xAa, xAb, xtl, xtc, xkl, xc, xal, xca, xbl, xcb, rfl, rfl, rfl, rfl, rfl, rfl, rfl, rfl, rfl, rfl, rfl⟩ := ex_shape hx
  generalize hek : e.kind = ek at *
  obtain ⟨all, hall⟩ : ∃ all, e.occ [] = all := ⟨_, rfl⟩
  have hlen : all.length ≤ 4000000 := by rw [← hall]; exact Nat.le_trans (occ_len e []) hN
  obtain ⟨W2, hW2⟩ : ∃ W2, ((((w.alloc (.cells #[.int .i64 ek, .string xnm, .int .i64 xn, .int .i64 xtk, .string xtnm, .int .i64 xtn, .slice xtA xtl xtc, .slice xA xkl xc, .slice xAa xal xca, .slice xAb xbl xcb, .int .i64 xq] 29)).alloc (.cells #[.slice none 0 0] 50)).alloc (.map #[] 0)).alloc (.cells #[.map (some (w.heap.size + 1 + 1))] 87)).alloc (.cells #[.int .i64 ek, .string xnm, .int .i64 xn, .int .i64 xtk, .string xtnm, .int .i64 xtn, .slice xtA xtl xtc, .slice xA xkl xc, .slice xAa xal xca, .slice xAb xbl xcb, .int .i64 xq] 29) = W2 := ⟨_, rfl⟩
  have hb2 : Below w.heap.size w W2 := by rw [← hW2]; exact (((((Below.refl _ _).alloc (Nat.le_refl _) _).alloc (by simp) _).alloc (by simp; omega) _).alloc (by simp; omega) _).alloc (by simp; omega) _
  have hz2 : W2.heap.size = w.heap.size + 5 := by rw [← hW2]; simp
  have hnb : Blk W2 (w.heap.size + 1) 50 #[.slice none 0 0] := by
    rw [← hW2]
    have := (((Blk.new (w.alloc (.cells #[.int .i64 ek, .string xnm, .int .i64 xn, .int .i64 xtk, .string xtnm, .int .i64 xtn, .slice xtA xtl xtc, .slice xA xkl xc, .slice xAa xal xca, .slice xAb xbl xcb, .int .i64 xq] 29)) 50 #[.slice none 0 0]).alloc (.map #[] 0)).alloc (.cells #[.map (some (w.heap.size + 1 + 1))] 87)).alloc (.cells #[.int .i64 ek, .string xnm, .int .i64 xn, .int .i64 xtk, .string xtnm, .int .i64 xtn, .slice xtA xtl xtc, .slice xA xkl xc, .slice xAa xal xca, .slice xAb xbl xcb, .int .i64 xq] 29)
    simpa using this
  have hsb : Blk W2 (w.heap.size + 3) 87 #[.map (some (w.heap.size + 1 + 1))] := by
    rw [← hW2]
    have := (Blk.new (((w.alloc (.cells #[.int .i64 ek, .string xnm, .int .i64 xn, .int .i64 xtk, .string xtnm, .int .i64 xtn, .slice xtA xtl xtc, .slice xA xkl xc, .slice xAa xal xca, .slice xAb xbl xcb, .int .i64 xq] 29)).alloc (.cells #[.slice none 0 0] 50)).alloc (.map #[] 0)) 87 #[.map (some (w.heap.size + 1 + 1))]).alloc (.cells #[.int .i64 ek, .string xnm, .int .i64 xn, .int .i64 xtk, .string xtnm, .int .i64 xtn, .slice xtA xtl xtc, .slice xA xkl xc, .slice xAa xal xca, .slice xAb xbl xcb, .int .i64 xq] 29)
    simpa using this
  have heb : Blk W2 (w.heap.size + 4) 29 #[.int .i64 ek, .string xnm, .int .i64 xn, .int .i64 xtk, .string xtnm, .int .i64 xtn, .slice xtA xtl xtc, .slice xA xkl xc, .slice xAa xal xca, .slice xAb xbl xcb, .int .i64 xq] := by
    rw [← hW2]
    have := Blk.new ((((w.alloc (.cells #[.int .i64 ek, .string xnm, .int .i64 xn, .int .i64 xtk, .string xtnm, .int .i64 xtn, .slice xtA xtl xtc, .slice xA xkl xc, .slice xAa xal xca, .slice xAb xbl xcb, .int .i64 xq] 29)).alloc (.cells #[.slice none 0 0] 50)).alloc (.map #[] 0)).alloc (.cells #[.map (some (w.heap.size + 1 + 1))] 87)) 29 #[.int .i64 ek, .string xnm, .int .i64 xn, .int .i64 xtk, .string xtnm, .int .i64 xtn, .slice xtA xtl xtc, .slice xA xkl xc, .slice xAa xal xca, .slice xAb xbl xcb, .int .i64 xq]
    simpa using this
  have hmap : SeenIs W2 (w.heap.size + 2) 0 [] := by
    have h := SeenIs.made ((w.alloc (.cells #[.int .i64 ek, .string xnm, .int .i64 xn, .int .i64 xtk, .string xtnm, .int .i64 xtn, .slice xtA xtl xtc, .slice xA xkl xc, .slice xAa xal xca, .slice xAb xbl xcb, .int .i64 xq] 29)).alloc (.cells #[.slice none 0 0] 50))
    simp only [World.size_alloc] at h
    rw [← hW2]
    refine h.blk ?_
    rw [Below.heap_alloc _ _ _ (by simp), Below.heap_alloc _ _ _ (by simp)]
  have HW := Lib.hid hW2
  have HB2 := Lib.hid hb2
  have HZ := Lib.hid hz2
  have HSB := Lib.hid hsb
  have HEB := Lib.hid heb
  have HJ0 := Lib.hid (show FrJ w.heap.size all 0 W2 from ⟨_, hnb, by simpa [ddS, joinS] using World.ownsRow_nil _ _ _ _, by simpa using hmap⟩)
  have HE := Lib.hid (hx.later (hb2.mono hB))
  have HALL := Lib.hid hall
  have hmm := @run_makeMap Try.prog
  obtain ⟨i0, hi, hy0, hy1, hy2⟩ := info_parts str_info
  have HI := Lib.hid hi
  have HY0 := Lib.hid hy0
  have HY1 := Lib.hid hy1
  have HY2 := Lib.hid hy2
  rw [hall]
  clear hW2 hb2 hz2 hsb heb hnb hmap hx hek hall hi hy0 hy1 hy2
  refine (callsIn_wide (n := 10)).1 (callsIn_of_wp_marks Try.func26 rfl trivial (wpIn_wide.2 ?_) rfl)
  simp only [Try.ntmps26, List.size_toArray, List.length_cons, List.length_nil, Nat.reduceAdd, Nat.reduceSub, Array.replicate_succ, Array.replicate_zero, List.push_toArray, List.append_toArray, List.nil_append, List.cons_append]
  go_wp2_with (go_at_call 53; refine (poccs_any _ [.int .i64 ek, .string xnm, .int .i64 xn, .int .i64 xtk, .string xtnm, .int .i64 xtn, .slice xtA xtl xtc, .slice xA xkl xc, .slice xAa xal xca, .slice xAb xbl xcb, .int .i64 xq]).mono ?_; rintro e2 w2 ⟨rfl, rfl⟩)
  rw [HW.out]
  refine range_mine (gf := 68) (lb := #[.pointer (some ⟨w.heap.size + 1 + 1 + 1 + 1, 0, none⟩)]) (K := fun k => k < B ∨ k = w.heap.size + 4) (N := all.length) (Rd := fun _ => OcRd all) (FrX w.heap.size) (FrJ w.heap.size all) rfl
    (enters_of Try.func68 (by kernel_rfl) rfl) ?hit (frX_stab _) ?hX ?hK ?hps ?hJ ?h0 ?round ?done
  case hit =>
    intro W' hb hs
    have h := occ_iter e B (w.heap.size + 4) W' _ hN (Nat.le_trans hB (Nat.le_trans HB2.out.size hb.size)) (HE.out.later (hb.mono (Nat.le_trans hB HB2.out.size))) (HEB.out.below hb (by have := HZ.out; omega))
    rw [HALL.out] at h
    exact h
  case hX => exact fun k A h b hb => ⟨(frJ_lt h b hb).1, by have := (frJ_lt h b hb).2; omega⟩
  case hK => exact fun k hk => by have := HZ.out; omega
  case hps => rintro Y k args W' hk ⟨s, _, rfl, _⟩; rfl
  case hJ => exact fun k A B h hk => frJ_kep h hk
  case h0 => exact HJ0.out
  case round =>
    rintro l' k args W' hl hlW hk hj hnl hch ⟨x, hxk, rfl, hxs⟩
    have HXK := Lib.hid hxk
    have HL := Lib.hid hl
    have hwW := hch.size
    have hk9 : k < 4000000 := by omega
    clear hxk hl hj hch hnl
    gi_wp2_with fail
    refine ⟨Below.refl _ _, ?_⟩
    intro W3 hin
    obtain ⟨hc3, hj3, hX3, hcw⟩ := hin
    have hz3 := hcw.size
    have hsb3 : Blk W3 (w.heap.size + 3) 87 #[.map (some (w.heap.size + 1 + 1))] := (hcw.chg.block _ (by have := HZ.out; omega) (by
      have h1 := HZ.out
      have h2 := HL.out
      rintro (h | h)
      · have := (frJ_lt HJ0.out _ h).2; omega
      · omega)).trans HSB.out
    have HX3 := Lib.hid (show ∀ b, FrX w.heap.size W3 b → b < W3.heap.size from fun b hb => (frJ_lt hj3 b hb).1)
    have HJ3 := Lib.hid hj3
    obtain ⟨v, hnb, hown, D, hown2, hD, hDf⟩ := hj3
    obtain ⟨ln, hln⟩ : ∃ ln, (ddS (all.take k)).length = ln := ⟨_, rfl⟩
    have hln9 : ln ≤ 4000000 := by rw [← hln]; have h1 := dd_len (all.take k); simp at h1; omega
    rw [hln] at hown
    have hsc := hsb3.cell 0
    have hnc := hnb.cell 0
    have hnf := hnb.frozen 0
    simp only [List.getElem?_toArray, List.getElem?_cons_zero] at hsc hnc
    have hkey := Go.WideMaps.keyOf_string_mk (P := Try.prog) Try.underlying9 hxs
    have HLN := Lib.hid hln
    have HNB := Lib.hid hnb
    have HOWN := Lib.hid hown
    have HD := Lib.hid (And.intro hD hDf)
    have HSB3 := Lib.hid hsb3
    have HMB := Lib.hid hown2
    have hhas := hDf x
    have hszN := hnb.lt
    have hszM := hown2.lt
    clear hc3 hX3 hcw hln hnb hown hD hDf hsb3
    cases hh : hasS (all.take k) x with
    | true =>
      rw [hh] at hhas
      have HF := Lib.hid (show ∀ w', Below W3.heap.size W3 w' → ChD (FrX w.heap.size) W3 w' ∧ FrJ w.heap.size all (k + 1) w' from fun w' hb => by
        have hkp : Kep (FrX w.heap.size W3) W3 w' := Kep.of_below hb HX3.out
        refine ⟨ChD.own (frX_stab _) HX3.out hb, ?_⟩
        obtain ⟨v', h1, h2, h3⟩ := frJ_kep HJ3.out hkp
        refine ⟨v', h1, by rw [dd_take HXK.out, if_pos hh]; exact h2, (h3.mono (Nat.le_succ _)).same fun s => ?_⟩
        rw [has_take_eq HXK.out]
        cases hn : nmEq x s with
        | false => rw [Bool.or_false]
        | true => rw [← hasS_congr hn, hh]; rfl)
      clear hh
      gi_wp2_with (gi_at_lookup; refine wpListIn_lookup_own_unit _ rfl _ _ 87 rfl 9 91 (string_keyed Try.underlying9) Try.underlying87 (zero_unit _) (w.heap.size + 1 + 1) k D rfl HMB.out _ (.string x.data.toList) rfl hkey ?_; rw [hhas])
      exact HF.out _ ((Below.refl _ _).alloc (Nat.le_refl _) _)
    | false =>
      rw [hh] at hhas
      have hal : Below W3.heap.size W3 (W3.alloc (.cells #[] 91)) := (Below.refl _ _).alloc (Nat.le_refl _) _
      have hsc4 := (HSB3.out.below hal HSB3.out.lt).cell 0
      have hnb4 := HNB.out.below hal HNB.out.lt
      have hrow4 := own_later HOWN.out hal
      have hmb4 := HMB.out.alloc (.cells #[] 91)
      simp only [List.getElem?_toArray, List.getElem?_cons_zero] at hsc4
      have HAL := Lib.hid hal
      have HNB4 := Lib.hid hnb4
      have HROW4 := Lib.hid hrow4
      have HMB4 := Lib.hid hmb4
      have HHH := Lib.hid hh
      clear hal hnb4 hrow4 hmb4 hh
      gi_wp2_with (first
        | (gi_at_lookup; refine wpListIn_lookup_own_unit _ rfl _ _ 87 rfl 9 91 (string_keyed Try.underlying9) Try.underlying87 (zero_unit _) (w.heap.size + 1 + 1) k D rfl HMB.out _ (.string x.data.toList) rfl hkey ?_; rw [hhas])
        | (gi_at_mapUpdate; refine wpListIn_mapUpdate_own _ rfl _ _ _ 87 rfl 9 91 (string_keyed Try.underlying9) Try.underlying87 unitElem (w.heap.size + 1 + 1) k D rfl HMB4.out (by unfold maxLen; omega) _ (.agg #[]) (.string x.data.toList) rfl rfl hkey (.agg []) [] unitElem_mk ?_; intro w5 hown5 hgrow5
           have hnb5 := HNB4.out.grown hgrow5 (fun e => by injection e with e; omega)
           have hnc5 := hnb5.cell 0
           have hnf5 := hnb5.frozen 0
           have hrow5 := HROW4.out.kept hgrow5 (by
             rcases h0 : v.ownBlock with _ | g
             · exact .inl rfl
             · exact .inr (fun e => by injection e with e; have := own_base HROW4.out g h0; omega))
           have hz5 := hgrow5.size
           simp only [World.size_alloc] at hz5
           simp only [List.getElem?_toArray, List.getElem?_cons_zero] at hnc5
           have HNB5 := Lib.hid hnb5
           have HROW5 := Lib.hid hrow5
           have HOWN5 := Lib.hid hown5
           have HG5 := Lib.hid hgrow5
           clear hnb5 hrow5 hown5 hgrow5)
        | (gi_at_builtin; refine wpListIn_append_own_at _ rfl (.tmp 23) (.tmp 25) 50 rfl (w.heap.size + 5) 9 i0 (.string ⟨#[]⟩) 1 16 Try.underlying50 HI.out HY0.out HY1.out HY2.out rfl (by decide) v ln (nmVals (ddS (all.take k))) rfl (HROW5.out.alloc _) ⟨w5.heap.size, 0, none⟩ 1 1 [.string x] rfl rfl (one_new _ _ _) (one_is rfl) (by unfold maxLen; omega) (by omega) (by have := HZ.out; simp; omega) ?_; intro v6 w6 hown6 hgrow6 _ hat6
           obtain ⟨A6, c6, rfl, _⟩ := own_shape hown6
           have hnb6 := (HNB5.out.alloc (.cells #[.string x] 9)).grown hgrow6 (fun e => own_blk_ne (HROW5.out.alloc (.cells #[.string x] 9)) (HNB5.out.alloc (.cells #[.string x] 9)) (by decide) e.symm)
           have hnc6 := hnb6.cell 0
           have hnf6 := hnb6.frozen 0
           simp only [List.getElem?_toArray, List.getElem?_cons_zero] at hnc6
           have HNB6 := Lib.hid hnb6
           have HOWN6 := Lib.hid hown6
           have HG6 := Lib.hid hgrow6
           have HAT6 := Lib.hid hat6
           clear hnb6 hown6 hgrow6 hat6))
      have hz0 := HZ.out
      have hbN := (HNB6.out.set_ 0 (.slice A6 (ln + 1) c6))
      simp only [List.setIfInBounds_toArray, List.set_cons_zero] at hbN
      have hown := HOWN6.out
      have hobl : ∀ g, v.ownBlock = some g → w.heap.size + 5 ≤ g := fun g h => own_base HROW4.out g h
      refine (show ChD (FrX w.heap.size) W3 _ ∧ FrJ w.heap.size all (k + 1) _ from ⟨⟨⟨HG6.out.os.trans HG5.out.os, HG6.out.tape.trans HG5.out.tape, HG6.out.output.trans HG5.out.output, ?_, fun b hb hx => ?_⟩, fun b hb h => ?_⟩, _, hbN, ?_, ?_⟩)
      · have := HG6.out.size; simp only [World.size_alloc] at this; simp [World.setCell]; omega
      · have h1 : b ≠ w.heap.size + 1 := fun e => hx (.inl e)
        have h2 : b ≠ w.heap.size + 2 := fun e => hx (.inr (.inl e))
        have h3 : some b ≠ v.ownBlock := fun e => hx (.inr (.inr ⟨v, HNB.out, e.symm⟩))
        rw [Below.heap_setCell _ _ _ _ h1, HG6.out.block b (by simp; omega) h3, Below.heap_alloc _ _ _ (by omega), HG5.out.block b (by simp; omega) (fun e => by injection e with e; omega), Below.heap_alloc _ _ _ hb]
      · rcases frX_own hbN h with h | h | h
        · exact .inl h
        · exact .inr (.inl h)
        · rcases HAT6.out with h4 | h4
          · rw [h4] at h; exact .inr (.inr ⟨v, HNB.out, h⟩)
          · rw [h4] at h; injection h with h; simp only [World.size_alloc] at h; omega
      · have hdd : ddS (all.take (k + 1)) = ddS (all.take k) ++ [x] := by rw [dd_take HXK.out, HHH.out]; rfl
        rw [hdd, List.length_append, HLN.out]
        have hne : (Value.slice A6 (ln + 1) c6).ownBlock ≠ some (w.heap.size + 1) := own_blk_ne hown HNB6.out (by decide)
        have := ownsRow_setCell_other (a := ⟨w.heap.size + 1, 0, none⟩) hown hne (.slice A6 (ln + 1) c6)
        simpa using this
      · have hsn : SeenIs w5 (w.heap.size + 2) (k + 1) (all.take k ++ [x]) := SeenIs.put x HD.out.1 HD.out.2 HOWN5.out
        have hs2 : all.take (k + 1) = all.take k ++ [x] := by
          obtain ⟨hk, e⟩ := List.getElem?_eq_some_iff.1 HXK.out
          rw [List.take_succ_eq_append_getElem hk, e]
        rw [hs2]
        refine hsn.blk ?_
        rw [Below.heap_setCell _ _ _ _ (show w.heap.size + 2 ≠ w.heap.size + 1 by omega), HG6.out.block _ (by simp; omega) (fun e => by have := hobl _ e.symm; omega), Below.heap_alloc _ _ _ (by omega)]
  case done =>
    intro D W' hD hj hch hnD hK
    obtain ⟨v, hnb, hown, hseen⟩ := hj
    rw [List.take_of_length_le (Nat.le_refl _)] at hown
    obtain ⟨A3, c3, rfl, _⟩ := own_shape hown
    have hc := hnb.cell 0
    simp only [List.getElem?_toArray, List.getElem?_cons_zero] at hc
    have HF := Lib.hid (show NmOwn (ddS all) w (.returned (.slice A3 (ddS all).length c3)) (W'.putObj D (.deferred none)) from ⟨_, rfl, by
      have hrow : (W'.putObj D (.deferred none)).ownsRow (w.heap.size + 5) 9 1 (.slice A3 (ddS all).length c3) (ddS all).length (nmVals (ddS all)) := by
        refine ⟨hown.1, ?_⟩
        rcases hown.2 with h0 | ⟨g, cap, cur, hv, hg, hh, hr⟩
        · exact .inl h0
        · refine .inr ⟨g, cap, cur, hv, hg, (World.putObj_heap_other ?_).trans hh, hr⟩
          rintro rfl
          rw [hK] at hh
          cases hh
      exact ownsRow_base hrow (by omega), by
      refine ((((Chg.of_old (X := fun b => w.heap.size ≤ b) HB2.out).trans (hch.chg.mono (Y := fun b => w.heap.size ≤ b) fun b _ h => ?_)).trans ((putObj_chg W' D _).mono (Y := fun b => w.heap.size ≤ b) fun b _ h => ?_))).below (Nat.le_refl _) (fun i hi => hi)
      · exact (frJ_lt HJ0.out b h).2.elim (fun h => by omega) (fun h => by omega)
      · have : b = D := h; have := HB2.out.size; omega⟩)
    clear hown hch hnD hnb hseen
    go_wp2_with fail
    exact marks_tmp rfl hK rfl HF.out

end Go.Proofs.Ytglamoiimmahgaa
