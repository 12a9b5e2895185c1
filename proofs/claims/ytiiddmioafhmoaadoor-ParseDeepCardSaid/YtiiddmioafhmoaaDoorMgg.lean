/- Joined: Pacc Pmany. -/
import Derived.Test.YtiiddmioafhmoaaDoorMgf
import Derived.Deep.AppendLies
import Derived.OneCell

section
namespace Go.Proofs.YtiiddmioafhmoaaDoor
open Go.RowKit
set_option linter.unusedVariables false

def accX (B : Nat) (v : Value) : Nat → Bool := fun k => lowX B k || (some k == v.ownBlock)
theorem accX_low {B k : Nat} {v : Value} (h : lowX B k = true) : accX B v k = true := by unfold accX; rw [h]; rfl
structure AccAt {α : Type} (R : Rd α) (size : Nat) (e : TypeId) (B : Nat) (W : World) (v : Value) (l : List α) : Prop where
  ex : ∃ L : List (List Value), W.ownsRow B e size v l.length L.flatten ∧ L.length = l.length ∧ (∀ x ∈ L, x.length = size) ∧ ∀ i (h1 : i < L.length) (h2 : i < l.length), R.M (accX B v) W L[i] l[i]
section
variable {α : Type} {R : Rd α} {size : Nat} {e : TypeId} {B : Nat} {W W' : World} {v : Value} {l : List α}
theorem AccAt.nil_ : AccAt R size e B W (.slice none 0 0) [] := ⟨[], World.ownsRow_nil _ _ _ _, rfl, fun x h => by simp at h, fun i h => by simp at h⟩
theorem own_par {pb n : Nat} {xs : List Value} (h : W.ownsRow B e size v n xs) (hp : Par pb W W') (hB : pb < B) : W'.ownsRow B e size v n xs := by
  refine ⟨h.1, ?_⟩
  rcases h.2 with h0 | ⟨g, cap, cur, hv, hg, hh, hr⟩
  · exact .inl h0
  · refine .inr ⟨g, cap, cur, hv, hg, ?_, hr⟩
    rw [hp.block g ?_ (by omega)]; exact hh
    rcases Nat.lt_or_ge g W.heap.size with hlt | hge
    · exact hlt
    · rw [Array.getElem?_eq_none hge] at hh; cases hh
theorem AccAt.par {pb : Nat} (h : AccAt R size e B W v l) (hp : Par pb W W') (hB : pb < B) : AccAt R size e B W' v l := by
  obtain ⟨L, h1, h2, h3, h4⟩ := h.ex
  exact ⟨L, own_par h1 hp hB, h2, h3, fun i k1 k2 => (h4 i k1 k2).later (hp.mono fun k _ hk => by subst hk; exact accX_low (lowX_iff.2 hB))⟩
theorem AccAt.below {pb : Nat} (h : AccAt R size e B W v l) (hb : Below W.heap.size W W') (hB : 0 < B) : AccAt R size e B W' v l := h.par (pb := 0) (Chg.of_old hb) hB
theorem AccAt.add {g cap m : Nat} {a : α} {E : List Value} {L : List (List Value)} (h1 : W.ownsRow B e size v l.length L.flatten) (h2 : L.length = l.length) (h3 : ∀ x ∈ L, x.length = size) (h4 : ∀ i (h1 : i < L.length) (h2 : i < l.length), R.M (accX B v) W L[i] l[i])
    (hE : E.length = size) (ha : R.M (accX B v) W E a) (hown : W'.ownsRow B e size (.slice (some ⟨g, 0, none⟩) m cap) (l.length + 1) (L.flatten ++ E)) (hg : W.grownBy W' v.ownBlock) (hlies : v.ownBlock = some g ∨ W.heap.size ≤ g) :
    AccAt R size e B W' (.slice (some ⟨g, 0, none⟩) m cap) (l ++ [a]) := by
  have turn : ∀ (cs : List Value) (x : α), R.M (accX B v) W cs x → R.M (accX B (.slice (some ⟨g, 0, none⟩) m cap)) W' cs x := by
    intro cs x hx
    refine R.more (B := W.heap.size) (R.imp hx fun p u hb hc => ?_) hg.size
    cases hX : accX B v p.block with
    | true => exact (mask_none hX hc).elim
    | false =>
      rw [mask_cell hX] at hc
      unfold accX at hX
      simp only [Bool.or_eq_false_iff, beq_eq_false_iff_ne, ne_eq] at hX
      rw [mask_cell]
      · rw [World.cell?_of_block (w := W) (hg.block _ hb hX.2)]; exact hc
      · unfold accX
        rw [hX.1]
        simp only [Bool.false_or, beq_eq_false_iff_ne, ne_eq, Value.ownBlock, Option.some.injEq]
        intro hpg
        rcases hlies with h5 | h5
        · exact hX.2 (by rw [h5, hpg])
        · omega
  refine ⟨L ++ [E], by rw [List.length_append, List.flatten_append]; simpa using hown, by simp [h2], fun x hx => ?_, fun i k1 k2 => ?_⟩
  · rcases List.mem_append.1 hx with hx | hx
    · exact h3 x hx
    · simp at hx; rw [hx]; exact hE
  · by_cases hi : i < L.length
    · rw [List.getElem_append_left hi, List.getElem_append_left (by omega)]
      exact turn _ _ (h4 i hi (by omega))
    · have hi2 : i = L.length := by simp at k1; omega
      subst hi2
      rw [List.getElem_append_right (by omega)]
      simp only [Nat.sub_self, List.getElem_cons_zero]
      have : (l ++ [a])[L.length] = a := by simp [h2]
      rw [this]
      exact turn _ _ ha
theorem AccAt.row (h : AccAt R size e B W v l) (hs : 0 < size) : ∃ A c, v = .slice A l.length c ∧ l.length ≤ c ∧ c ≤ maxLen ∧ RowM R size (lowX B) W A l := by
  obtain ⟨L, h1, h2, h3, h4⟩ := h.ex
  have h4' : ∀ i (k1 : i < L.length) (k2 : i < l.length), R.M (lowX B) W L[i] l[i] := fun i k1 k2 => (h4 i k1 k2).weaken fun k _ hk => accX_low hk
  rcases h1.2 with ⟨rfl, h0⟩ | ⟨g, cap, cur, hv, hg, hh, hn, hm, hr⟩
  · have : l = [] := List.eq_nil_of_length_eq_zero h0
    subst this
    obtain rfl : L = [] := List.eq_nil_of_length_eq_zero (by simpa using h2)
    exact ⟨none, 0, rfl, by simp, by simp [maxLen], RowM.nil_ _ _ _ _⟩
  · refine ⟨some ⟨g, 0, none⟩, cap, hv, hn, hm, L, ⟨h2, h3, ?_⟩, h4'⟩
    subst hv
    have hr := Reads.of_own h1
    refine ⟨hr.1, fun hn0 => ?_⟩
    obtain ⟨ad, e1, hb, hc⟩ := hr.2 hn0
    refine ⟨ad, e1, hb, fun j u hu => ?_⟩
    have e2 : ad = ⟨g, 0, none⟩ := by injection e1 with e1; exact e1.symm
    subst e2
    rw [mask_cell]
    · exact hc j u hu
    · rw [block_of_add]
      cases hx : lowX B g with
      | false => rfl
      | true => have := lowX_iff.1 hx; omega
end

end Go.Proofs.YtiiddmioafhmoaaDoor
end

section
namespace Go.Proofs.YtiiddmioafhmoaaDoor
open Go.RowKit
set_option linter.unusedVariables false
set_option linter.unusedSimpArgs false
set_option maxRecDepth 100000

theorem ty_ones' {w : World} {B : Nat} {cs : List Value} {t : Ty} (h : TyAt w B cs t) : ∀ u ∈ cs, u.oneCell' = true := by
  cases h with
  | mk => intro u hu; simp only [List.mem_cons, List.not_mem_nil, or_false] at hu; rcases hu with rfl | rfl | rfl | rfl <;> rfl
theorem pt_ones' {w : World} {B : Nat} {cs : List Value} {t : Pt} (h : PtAt w B cs t) : ∀ u ∈ cs, u.oneCell' = true := by
  cases h with
  | mk => intro u hu; simp only [List.mem_cons, List.not_mem_nil, or_false] at hu; rcases hu with rfl | rfl | rfl | rfl | rfl <;> rfl
theorem store_one' (c : Value) (h : c.oneCell' = true) : ∀ (w : World) (a : Addr) (m : Mode), (store a c m).run Tryd.prog w = stored Tryd.prog w a c m := fun w a m => run_store Tryd.prog w a c m h
def sliceLen' : Value → Nat
  | .slice _ n _ => n
  | _ => 0
theorem new_cells (w : World) (cs : List Value) {t : TypeId} : ∀ (j : Nat) (u : Value), cs[j]? = some u → (w.alloc (.cells cs.toArray t)).cell? ((⟨w.heap.size, 0, none⟩ : Addr).add j) = some u := by
  intro j u hj
  rw [add_flat, Nat.zero_add, (Blk.new w _ _).cell j]
  simpa using hj
/-- What begins such a thing. -/
def BegOk (f : Nat) (lv : Nat) (b : List Tk → Bool) : Prop := ∀ (pb : Nat) (ts : List Tk) (W : World), PsAt W pb ts lv → Fine ts → Calls Tryd.prog f #[.pointer (some ⟨pb, 0, none⟩)] W fun e W' => e = .returned (.bool (b ts)) ∧ Below W.heap.size W W'
/-- What reads one. -/
def RdOk {α : Type} (R : Rd α) (n f : Nat) (lv : Nat) (rd : List Tk → Res α) : Prop := ∀ (pb : Nat) (ts : List Tk) (W : World), PsAt W pb ts lv → Fine ts → ∀ r, rd ts = r → r ≠ .out → Calls Tryd.prog f #[.pointer (some ⟨pb, 0, none⟩)] W (PaPost pb lv n R r W)
theorem Par.grown {pb : Nat} {W w w' : World} {row : Option Nat} (h : Par pb W w) (hg : w.grownBy w' row) (hr : ∀ k, row = some k → W.heap.size ≤ k) : Par pb W w' :=
  ⟨hg.os.trans h.os, hg.tape.trans h.tape, hg.output.trans h.output, Nat.le_trans h.size hg.size, fun k hk hx => (hg.block k (Nat.lt_of_lt_of_le hk h.size) (fun he => by have := hr k he.symm; omega)).trans (h.block k hk hx)⟩
theorem PsAt.grown {W W' : World} {pb lv : Nat} {ts : List Tk} {row : Option Nat} (h : PsAt W pb ts lv) (hg : W.grownBy W' row) (hr : ∀ k, row = some k → pb < k) : PsAt W' pb ts lv := by
  obtain ⟨A, cap, h1, h2, h3, h4⟩ := h.ex
  exact ⟨A, cap, h1.grown hg (fun he => by have := hr pb he.symm; omega), h2, h3, h4.keep fun p hp => World.cell?_of_block (w := W) (hg.block _ (Nat.lt_trans hp h1.lt) (fun he => by have := hr _ he.symm; omega))⟩
def Res.pre {α : Type} (acc : List α) : Res (List α) → Res (List α)
  | .ok l ts => .ok (acc ++ l) ts
  | .bad c p => .bad c p
  | .out => .out
theorem ty_info : (Tryd.prog.info? 27).map (fun i => (i.zero, i.size, i.bytes)) = some (some (.agg #[.int .i64 0, .string ⟨#[]⟩, .int .i64 0, .slice none 0 0]), 4, 56) := by kernel_rfl
set_option maxHeartbeats 6400000 in
theorem many_ty (lv : Nat) (b : List Tk → Bool) (rd : List Tk → Res Ty) (HB : BegOk 94 lv b) (HR : RdOk rTy 4 91 lv rd) (m pb : Nat) (ts : List Tk) (W : World) (h : PsAt W pb ts lv) (hf : Fine ts) (hm : m ≤ 60002) (r : Res (List Ty)) (hr : manyF b rd m ts = r) (ho : r ≠ .out) :
    Calls Tryd.prog 93 #[.func (.func 94) #[.pointer (some ⟨pb, 0, none⟩)] #[], .func (.func 91) #[.pointer (some ⟨pb, 0, none⟩)] #[]] W (RowPost pb lv 4 rTy r W) := by
  obtain ⟨i0, hi, hz0, hz1, hz2⟩ := info_parts ty_info
  have HI := Lib.hid hi
  have HZ0 := Lib.hid hz0
  have HZ1 := Lib.hid hz1
  have HZ2 := Lib.hid hz2
  have hlt := h.lt
  have HH := Lib.hid h
  have HF := Lib.hid hf
  have HRR := Lib.hid hr
  have HO := Lib.hid ho
  have HBB := Lib.hid HB
  have HRD := Lib.hid HR
  clear h hf hr ho HB HR hi hz0 hz1 hz2
  go_enter Tryd.func93, Tryd.ntmps93
  go_wp2_with fail
  go_loopw [5] (fun v wr => ∃ (acc : List Ty) (mm : Nat) (ts' : List Tk) (A : Option Addr) (q c : Nat), v = .slice A q c ∧ acc.length = q ∧ acc.length + mm = m ∧ r = (manyF b rd mm ts').pre acc ∧ AccAt rTy 4 27 W.heap.size wr v acc ∧ Par pb W wr ∧ PsAt wr pb ts' lv ∧ Fine ts') (fun v _ => m + 1 - sliceLen' v)
  case atStart => exact ⟨[], m, ts, none, 0, 0, rfl, rfl, by simp, by rw [HRR.out]; cases r <;> rfl, AccAt.nil_, Chg.refl _ _, HH.out, HF.out⟩
  case round =>
    obtain ⟨acc, mm, ts', A, q, c, rfl, hq, hmm, hrr, hacc, hpar, hps, hfi⟩ := hrel
    have HACC := Lib.hid hacc
    have HPAR := Lib.hid hpar
    have HPS := Lib.hid hps
    have HFI := Lib.hid hfi
    have HR2 := Lib.hid hrr
    have HQ := Lib.hid hq
    clear hacc hpar hps hfi hrr
    have hwz : W.heap.size ≤ wr.heap.size := HPAR.out.size
    cases mm with
    | zero => exact absurd (by rw [HR2.out]; rfl) HO.out
    | succ k =>
      have CB := Lib.hid (HBB.out pb ts' wr HPS.out HFI.out)
      cases hb : b ts' with
      | false =>
        obtain rfl : r = .ok acc ts' := by rw [HR2.out]; simp [manyF, hb, Res.pre]
        rw [hb] at CB
        go_wp2_with (first | (go_at_call 94; (with_reducible refine CB.out.mono ?_); rintro e w2 ⟨rfl, hb2⟩))
        go_ret
        obtain ⟨A', c', e1, g1, g2, g3⟩ := (HACC.out.par (Par.of_below hb2) hlt).row (by omega)
        have hq := HQ.out
        subst hq
        injection e1 with e1 e2 e3
        subst e1; subst e3
        exact ⟨HPAR.out.trans (Par.of_below hb2), ⟨_, _, rfl, g1, g2, by omega, g3⟩, HPS.out.later hb2, HFI.out⟩
      | true =>
        rw [hb] at CB
        cases hrd : rd ts' with
        | out => exact absurd (by rw [HR2.out]; simp [manyF, hb, hrd, Res.andThen, Res.pre]) HO.out
        | bad c' p =>
          obtain rfl : r = .bad c' p := by rw [HR2.out]; simp [manyF, hb, hrd, Res.andThen, Res.pre]
          have CR := Lib.hid (fun W2 (hb2 : Below wr.heap.size wr W2) => HRD.out pb ts' W2 (HPS.out.later hb2) HFI.out _ hrd (by simp))
          go_wp2_with (first | (go_at_call 94; (with_reducible refine CB.out.mono ?_); rintro e w2 ⟨rfl, hb2⟩) | (go_at_call 91; (with_reducible refine (CR.out _ hb2).mono ?_); rintro e w3 ⟨hp3, rfl⟩))
          exact ⟨rfl, HPAR.out.trans ((Par.of_below hb2).trans hp3), rfl⟩
        | ok a ts1 =>
          have CR := Lib.hid (fun W2 (hb2 : Below wr.heap.size wr W2) => HRD.out pb ts' W2 (HPS.out.later hb2) HFI.out _ hrd (by simp))
          have HRD2 := Lib.hid (show r = (manyF b rd k ts1).pre (acc ++ [a]) by rw [HR2.out]; simp only [manyF, hb, hrd, Res.andThen, if_true]; cases manyF b rd k ts1 <;> simp [Res.pre])
          clear hrd hb
          go_wp2_with (first | (go_at_call 94; (with_reducible refine CB.out.mono ?_); rintro e w2 ⟨rfl, hb2⟩) | (go_at_call 91; (with_reducible refine (CR.out _ hb2).mono ?_); rintro e w3 ⟨hp3, ⟨cs, hlen, rfl, hty⟩, hs3, hf3⟩; (obtain ⟨x0, x1, x2, x3, rfl⟩ := four_of hlen); (have s0 := store_one' x0 (ty_ones' hty x0 (by simp))); (have s1 := store_one' x1 (ty_ones' hty x1 (by simp))); (have s2 := store_one' x2 (ty_ones' hty x2 (by simp))); (have s3 := store_one' x3 (ty_ones' hty x3 (by simp))); (have hac4 := ((HACC.out.par ((Par.of_below hb2).trans hp3) hlt).below (pb := pb) (below_new' w3 (.cells #[x0, x1, x2, x3] 27)) (by omega))); (obtain ⟨L, o1, o2, o3, o4⟩ := hac4.ex); (have o1q := o1); (rw [HQ.out] at o1q)) | (at_builtin; refine wpList_append_lies _ rfl (.tmp 8) (.tmp 11) 25 rfl W.heap.size 27 i0 (.agg #[.int .i64 0, .string ⟨#[]⟩, .int .i64 0, .slice none 0 0]) 4 56 Tryd.underlying25 HI.out HZ0.out HZ1.out HZ2.out rfl (by decide) (.slice A q c) q L.flatten rfl o1q ⟨w3.heap.size, 0, none⟩ 1 1 [x0, x1, x2, x3] rfl rfl (new_cells _ _) (ty_ones' hty) (by omega) (by have := HQ.out; unfold maxLen; omega) (by have := HQ.out; omega) (by have := hp3.size; have := hb2.size; simp; omega) (w3.heap.size + 1) (by simp) ?_))
          intro g cap w5 hown hgrow hlies hlt5
          have hq := HQ.out
          subst hq
          have hz2 := hb2.size
          have hz3 := hp3.size
          have HPW := Lib.hid ((HPAR.out.trans ((Par.of_below hb2).trans hp3)).trans (Par.of_below (below_new' w3 (.cells #[x0, x1, x2, x3] 27))))
          have hel : rTy.M (accX W.heap.size (.slice A acc.length c)) _ [x0, x1, x2, x3] a := (hty.later (Low.of_below (below_new' w3 (.cells #[x0, x1, x2, x3] 27)))).weaken (fun k _ hk => by
            unfold accX at hk
            simp only [Bool.or_eq_true, beq_iff_eq] at hk
            rcases hk with hk | hk
            · rw [lowX_iff] at hk ⊢; omega
            · obtain ⟨L0, p1, _⟩ := HACC.out.ex
              have := (p1.lt k hk.symm).2
              rw [lowX_iff]; omega)
          have hadd := AccAt.add (W' := w5) o1 o2 o3 o4 rfl hel hown hgrow (by rcases hlies with h5 | h5; exact .inl h5; right; rw [h5]; simp)
          have HPW5 := Lib.hid (Par.grown HPW.out hgrow (fun k hk => (o1.lt k hk).1))
          have HAD := Lib.hid hadd
          have HPS5 := Lib.hid ((hs3.later (below_new' w3 (.cells #[x0, x1, x2, x3] 27))).grown hgrow (fun k hk => by have := (o1.lt k hk).1; omega))
          clear hadd hel hown hgrow hlies hac4 o1 o1q o2 o3 o4
          go_wp2_with fail
          go_roundw
          case rel => exact ⟨acc ++ [a], k, ts1, some ⟨g, 0, none⟩, acc.length + 1, cap, by simp, by simp, by simp; omega, HRD2.out, HAD.out, HPW5.out, HPS5.out, hf3⟩
          case measure => simp [sliceLen']; omega

end Go.Proofs.YtiiddmioafhmoaaDoor
end
