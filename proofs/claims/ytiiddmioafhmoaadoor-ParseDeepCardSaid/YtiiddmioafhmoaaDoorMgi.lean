/- Joined: Awp06 Awake06. -/
import Derived.Test.YtiiddmioafhmoaaDoorDeepp

section
namespace Go.Proofs.YtiiddmioafhmoaaDoor
open Go.RowKit
set_option linter.unusedVariables false
set_option linter.unusedSimpArgs false
set_option maxRecDepth 100000

theorem applied_two (a b : Ex) (op : Tk) (ts : List Tk) : appliedP [a, b] [op] ts = .ok (infixE op a b) ts := by
  have hr : IsRoot (lvT [op]) 0 1 0 := ⟨Nat.le_refl _, by omega, fun j h1 h2 => by omega, fun j h1 h2 => by omega⟩
  have ho : ordL (lvT [op]) 0 1 = [0] := by rw [ord_root hr, ord_nil _ (Nat.le_refl 0), ord_nil _ (by omega : (1 : Nat) ≤ 0 + 1)]; rfl
  have hc : clashK (lvT [op]) 1 = none := by
    unfold clashK clashB
    simp [List.range_succ]
  unfold appliedP appE
  rw [show [op].length = 1 from rfl, hc, ho]
  rfl
abbrev src1 : List UInt8 := [102, 32, 120, 32, 43, 32, 49]
abbrev src2 : List UInt8 := [92, 120, 32, 45, 62, 32]
abbrev src3 : List UInt8 := [97, 32, 61, 61, 32, 98, 32, 61, 61, 32, 99]
def fx : Ex := applyE (namedE 3 ⟨1, [102], 0, 0⟩) (namedE 3 ⟨1, [120], 0, 2⟩) 0
def one : Ex := exK 1 ⟨#[]⟩ 1 [] 6
theorem scan1 : scanL src1 = ([⟨1, [102], 0, 0⟩, ⟨1, [120], 0, 2⟩, ⟨5, [43], 0, 4⟩, ⟨3, [49], 1, 6⟩, ⟨0, [], 0, 7⟩], 0, 0) := by kernel_rfl
theorem oper1 : operF 301 (expF 301) 1 [⟨1, [102], 0, 0⟩, ⟨1, [120], 0, 2⟩, ⟨5, [43], 0, 4⟩, ⟨3, [49], 1, 6⟩, ⟨0, [], 0, 7⟩] = .ok fx [⟨5, [43], 0, 4⟩, ⟨3, [49], 1, 6⟩, ⟨0, [], 0, 7⟩] := by kernel_rfl
theorem oper2 : operF 301 (expF 301) 1 [⟨3, [49], 1, 6⟩, ⟨0, [], 0, 7⟩] = .ok one [⟨0, [], 0, 7⟩] := by kernel_rfl
theorem says1 : wholeP (expF 302) src1 = .ok (infixE ⟨5, [43], 0, 4⟩ fx one) [⟨0, [], 0, 7⟩] := by
  have he : expF 302 0 [⟨1, [102], 0, 0⟩, ⟨1, [120], 0, 2⟩, ⟨5, [43], 0, 4⟩, ⟨3, [49], 1, 6⟩, ⟨0, [], 0, 7⟩] = .ok (infixE ⟨5, [43], 0, 4⟩ fx one) [⟨0, [], 0, 7⟩] := by
    rw [expF]
    unfold belowP
    rw [if_neg (by omega)]
    unfold operandsP
    rw [oper1]
    simp only [Res.andThen]
    rw [show ([⟨5, [43], 0, 4⟩, ⟨3, [49], 1, 6⟩, ⟨0, [], 0, 7⟩] : List Tk).length + 1 = 3 + 1 from rfl, operandsF, if_pos (by rfl), show restT [⟨5, [43], 0, 4⟩, ⟨3, [49], 1, 6⟩, ⟨0, [], 0, 7⟩] = [⟨3, [49], 1, 6⟩, ⟨0, [], 0, 7⟩] from rfl, oper2]
    simp only [Res.andThen]
    rw [operandsF, if_neg (by decide)]
    exact applied_two fx one ⟨5, [43], 0, 4⟩ _
  unfold wholeP
  rw [scan1, if_pos rfl]
  simp only [he, Res.andThen, kindP]
  rfl
theorem says2 : wholeP (expF 302) src2 = .bad 110 6 := by kernel_rfl
theorem says3 : wholeP (expF 302) src3 = .bad 112 7 := by kernel_rfl
theorem infix1 : infixE ⟨5, [43], 0, 4⟩ fx one = exK 5 ⟨#[]⟩ 0 [applyE (namedE 3 ⟨5, [43], 0, 4⟩) fx 4, exK 1 ⟨#[]⟩ 1 [] 6] 4 := rfl

theorem ex_n_cell {w : World} {B : Nat} {l : List Value} {k n q : Int} {nm : ByteArray} {t : Ty} {ks : List Ex} {als : List Al} {bs : List Bd} (h : ExAt w B l (.mk k nm n t ks als bs q)) : l[2]? = some (.int .i64 n) := by
  cases h
  rfl
/-- What memory holds of an application to a number. -/
theorem app_cells {X : Nat → Bool} {W : World} {cs : List Value} {a : Ex} {n q q2 : Int} {nm nm2 : ByteArray} {n2 : Int} (h : rEx.M X W cs (exK 5 nm n2 [a, exK 1 nm2 n [] q] q2)) :
    ∃ x1 x2 x3 x4 x5 x6 x8 x9 x10 g o c, cs = [.int .i64 5, x1, x2, x3, x4, x5, x6, .slice (some ⟨g, o, none⟩) 2 c, x8, x9, x10] ∧ g < W.heap.size ∧ W.cell? ⟨g, o + 11 + 2, none⟩ = some (.int .i64 n) := by
  have h' : ExAt (mask X W) W.heap.size cs (.mk 5 nm n2 tyZ [a, exK 1 nm2 n [] q] [] [] q2) := h
  cases h' with
  | mk hk hs hn hq ht hc hm hca hma hcb hmb hb hba hbb hr hks hra hals hrb hbs =>
    cases ht
    obtain ⟨g, o, e, hg, hl, hlen, hcell⟩ := hr.cells (by decide) (i := 1) (by simp)
    subst e
    have h1 := hks 1 hl (by simp)
    refine ⟨_, _, _, _, _, _, _, _, _, g, o, _, rfl, hg, ?_⟩
    have h2 := hcell 2 _ (ex_n_cell h1)
    exact unmask_some _ _ h2

end Go.Proofs.YtiiddmioafhmoaaDoor
end

section
namespace Go.Proofs.YtiiddmioafhmoaaDoor
open Go.RowKit
set_option linter.unusedVariables false
set_option linter.unusedSimpArgs false
set_option maxRecDepth 100000

set_option maxHeartbeats 6400000 in
theorem awake06_any (w : World) : Calls Tryd.prog 4 #[] w fun e w' => e = .returned (.bool true) ∧ Below w.heap.size w w' := by
  have C1 := Lib.hid (fun W => exp_src ⟨#[102, 32, 120, 32, 43, 32, 49]⟩ W (by simp [ByteArray.size, maxLen]) _ says1 (by simp))
  have C2 := Lib.hid (fun W => exp_src ⟨#[92, 120, 32, 45, 62, 32]⟩ W (by simp [ByteArray.size, maxLen]) _ says2 (by simp))
  have C3 := Lib.hid (fun W => exp_src ⟨#[97, 32, 61, 61, 32, 98, 32, 61, 61, 32, 99]⟩ W (by simp [ByteArray.size, maxLen]) _ says3 (by simp))
  go_enter Tryd.func4, Tryd.ntmps4
  go_upto_region 2 with (go_at_call 5; (with_reducible refine (C1.out _).mono ?_); rintro e w2 ⟨hb2, cs, hlen, rfl, hty⟩; rw [infix1] at hty; (obtain ⟨x1, x2, x3, x4, x5, x6, x8, x9, x10, g, o, c, rfl, hg, hcell⟩ := app_cells hty); (have s1 := store_one' x1 (ex_ones' hty x1 (by simp))); (have s2 := store_one' x2 (ex_ones' hty x2 (by simp))); (have s3 := store_one' x3 (ex_ones' hty x3 (by simp))); (have s4 := store_one' x4 (ex_ones' hty x4 (by simp))); (have s5 := store_one' x5 (ex_ones' hty x5 (by simp))); (have s6 := store_one' x6 (ex_ones' hty x6 (by simp))); (have s8 := store_one' x8 (ex_ones' hty x8 (by simp))); (have s9 := store_one' x9 (ex_ones' hty x9 (by simp))); (have s10 := store_one' x10 (ex_ones' hty x10 (by simp))))
  obtain ⟨w3, hw3⟩ : ∃ w3, (w2.alloc (.cells #[.int .i64 5, x1, x2, x3, x4, x5, x6, .slice (some ⟨g, o, none⟩) 2 c, x8, x9, x10] 32)).alloc (.cells #[.int .i64 0, .int .i64 0] 35) = w3 := ⟨_, rfl⟩
  have hn3 : Below w2.heap.size w2 w3 := by rw [← hw3]; exact ((Below.refl _ _).alloc (Nat.le_refl _) _).alloc (by simp) _
  have hxE : Blk w3 w2.heap.size 32 #[.int .i64 5, x1, x2, x3, x4, x5, x6, .slice (some ⟨g, o, none⟩) 2 c, x8, x9, x10] := by rw [← hw3]; exact (Blk.new _ _ _).alloc _
  have hxD : Blk w3 (w2.heap.size + 1) 35 #[.int .i64 0, .int .i64 0] := by
    rw [← hw3]
    have := Blk.new (w2.alloc (.cells #[.int .i64 5, x1, x2, x3, x4, x5, x6, .slice (some ⟨g, o, none⟩) 2 c, x8, x9, x10] 32)) 35 #[.int .i64 0, .int .i64 0]
    simpa using this
  have hce := (hn3.cell (p := ⟨g, o + 11 + 2, none⟩) hg).trans hcell
  rw [hw3]
  clear hw3 hty hcell
  obtain ⟨E, hE⟩ : ∃ E, w2.heap.size = E := ⟨_, rfl⟩
  rw [hE] at hxE hxD hg ⊢
  have HB3 := Lib.hid (hb2.trans (hn3.mono hb2.size))
  have HXE := Lib.hid hxE
  have HXD := Lib.hid hxD
  have HCE := Lib.hid hce
  clear hb2 hn3 hxE hxD hce
  go_upto_region 3 with (go_at_call 5; (with_reducible refine (C2.out _).mono ?_); rintro e w4 ⟨hb4, rfl⟩)
  obtain ⟨w5, hw5⟩ : ∃ w5, (w4.alloc (.cells #[.int .i64 0, .string ⟨#[]⟩, .int .i64 0, .int .i64 0, .string ⟨#[]⟩, .int .i64 0, .slice none 0 0, .slice none 0 0, .slice none 0 0, .slice none 0 0, .int .i64 0] 32)).alloc (.cells #[.int .i64 110, .int .i64 6] 35) = w5 := ⟨_, rfl⟩
  have hn5 : Below w4.heap.size w4 w5 := by rw [← hw5]; exact ((Below.refl _ _).alloc (Nat.le_refl _) _).alloc (by simp) _
  have hxF : Blk w5 (w4.heap.size + 1) 35 #[.int .i64 110, .int .i64 6] := by
    rw [← hw5]
    have := Blk.new (w4.alloc (.cells #[.int .i64 0, .string ⟨#[]⟩, .int .i64 0, .int .i64 0, .string ⟨#[]⟩, .int .i64 0, .slice none 0 0, .slice none 0 0, .slice none 0 0, .slice none 0 0, .int .i64 0] 32)) 35 #[.int .i64 110, .int .i64 6]
    simpa using this
  try rw [hw5]
  clear hw5
  obtain ⟨F, hF⟩ : ∃ F, w4.heap.size = F := ⟨_, rfl⟩
  have hz45 := hb4.size
  have hlD := HXD.out.lt
  rw [hF] at hxF ⊢
  have HB5 := Lib.hid (hb4.trans (hn5.mono hb4.size))
  have HXF := Lib.hid hxF
  clear hb4 hn5 hxF
  go_upto_region 4 with (go_at_call 5; (with_reducible refine (C3.out _).mono ?_); rintro e w6 ⟨hb6, rfl⟩)
  obtain ⟨w7, hw7⟩ : ∃ w7, (w6.alloc (.cells #[.int .i64 0, .string ⟨#[]⟩, .int .i64 0, .int .i64 0, .string ⟨#[]⟩, .int .i64 0, .slice none 0 0, .slice none 0 0, .slice none 0 0, .slice none 0 0, .int .i64 0] 32)).alloc (.cells #[.int .i64 112, .int .i64 7] 35) = w7 := ⟨_, rfl⟩
  have hn7 : Below w6.heap.size w6 w7 := by rw [← hw7]; exact ((Below.refl _ _).alloc (Nat.le_refl _) _).alloc (by simp) _
  have hxG : Blk w7 (w6.heap.size + 1) 35 #[.int .i64 112, .int .i64 7] := by
    rw [← hw7]
    have := Blk.new (w6.alloc (.cells #[.int .i64 0, .string ⟨#[]⟩, .int .i64 0, .int .i64 0, .string ⟨#[]⟩, .int .i64 0, .slice none 0 0, .slice none 0 0, .slice none 0 0, .slice none 0 0, .int .i64 0] 32)) 35 #[.int .i64 112, .int .i64 7]
    simpa using this
  try rw [hw7]
  clear hw7
  have h57 : Below w5.heap.size w5 w7 := hb6.trans (hn7.mono hb6.size)
  have h37 : Below w3.heap.size w3 w7 := HB5.out.trans (h57.mono HB5.out.size)
  have hE7 := HXE.out.below h37 HXE.out.lt
  have hD7 := HXD.out.below h37 HXD.out.lt
  have hF7 := HXF.out.below h57 HXF.out.lt
  have e0 := hE7.cell 0
  have e7 := hE7.cell 7
  have d0 := hD7.cell 0
  have d1 := hD7.cell 1
  have f0 := hF7.cell 0
  have f1 := hF7.cell 1
  have g0 := hxG.cell 0
  have g1 := hxG.cell 1
  simp only [List.getElem?_toArray, List.getElem?_cons_succ, List.getElem?_cons_zero] at e0 e7 d0 d1 f0 f1 g0 g1
  have hlE := HXE.out.lt
  have hc7 := (h37.cell (p := ⟨g, o + 11 + 2, none⟩) (by show g < _; omega)).trans HCE.out
  have HB7 := Lib.hid (HB3.out.trans (h37.mono HB3.out.size))
  clear h57 h37 hb6 hn7 hE7 hD7 hF7 hxG
  go_wp2_with fail
  go_ret
  exact ⟨rfl, HB7.out⟩

end Go.Proofs.YtiiddmioafhmoaaDoor
end
