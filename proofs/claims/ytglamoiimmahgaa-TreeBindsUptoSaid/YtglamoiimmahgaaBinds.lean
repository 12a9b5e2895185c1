/- Plain, and memory: a function of a name, a let of it, a call. -/
import Derived.Test.YtglamoiimmahgaaNmall
import Derived.Test.YtglamoiimmahgaaAwake05
import Derived.Test.YtglamoiimmahgaaOpen
namespace Go.Proofs.Ytglamoiimmahgaa
open Go.RowKit
set_option linter.unusedVariables false

def lamE (nm : ByteArray) (t : Ex) : Ex := .mk 6 nm 0 tyZero [t] [] [] 0
def letE (nm : ByteArray) (f t : Ex) : Ex := .mk 7 ⟨#[]⟩ 0 tyZero [t] [] [Bd.mk nm f 0] 0
def callE (a b : Ex) : Ex := .mk 5 ⟨#[]⟩ 0 tyZero [a, b] [] [] 0
theorem occ_one (t : Ex) (nm : ByteArray) : t.occ [nm] = withoutS (t.occ []) [nm] := by
  have h := occ_more t.nodes t (Nat.le_refl _) [] [nm]
  rw [List.nil_append] at h; exact h
theorem lam_free (nm : ByteArray) (t : Ex) : ddS ((lamE nm t).occ []) = withoutS (ddS (t.occ [])) [nm] := by
  have e : (lamE nm t).occ [] = t.occ [nm] := by unfold lamE; rw [occ_pre]; simp [preS, exsOcc, bdsOcc, alsOcc]
  rw [e, occ_one, without_dd]
theorem let_free (nm : ByteArray) (f t : Ex) : ddS ((letE nm f t).occ []) = joinS (ddS (f.occ [])) (withoutS (ddS (t.occ [])) [nm]) := by
  have e : (letE nm f t).occ [] = f.occ [] ++ t.occ [nm] := by unfold letE; rw [occ_pre]; simp [preS, exsOcc, bdsOcc, alsOcc, Bd.occ, bdsNames]
  rw [e, occ_one, dd_app, without_dd, join_dd]
theorem lam_val (nm : ByteArray) (t : Ex) : (lamE nm t).value = true := by unfold lamE; rw [value_eq]; simp
theorem let_val (nm : ByteArray) (f t : Ex) : (letE nm f t).value = false := by unfold letE; rw [value_eq]; simp
theorem call_val (nm : ByteArray) (f t : Ex) : (callE (lamE nm t) f).value = false := by
  unfold callE; rw [value_eq]
  have : (lamE nm t).kind = 6 := rfl
  simp [exsTwo, this]
theorem call_sizes (nm : ByteArray) (f t : Ex) : (callE (lamE nm t) f).size = t.size + f.size + 2 := by
  unfold callE lamE; simp only [Ex.size, exsSize, alsSize, bdsSize]; omega
theorem lam_deeps (nm : ByteArray) (t : Ex) : (lamE nm t).deep = t.deep + 1 := by
  unfold lamE; simp only [Ex.deep, exsDeep, alsDeep, bdsDeep]; omega
theorem lam_masses (nm : ByteArray) (t : Ex) : (lamE nm t).mass = t.mass + 1 := by unfold lamE; simp only [Ex.mass, exsMass, alsMass, bdsMass]; omega
theorem let_masses (nm : ByteArray) (f t : Ex) : (letE nm f t).mass = t.mass + f.mass + 2 := by unfold letE; simp only [Ex.mass, exsMass, alsMass, bdsMass, Bd.mass]; omega
theorem call_masses (a b : Ex) : (callE a b).mass = a.mass + b.mass + 1 := by unfold callE; simp only [Ex.mass, exsMass, alsMass, bdsMass]; omega

theorem row_blks {w : World} {g B n size : Nat} {t : TypeId} {L : List (List Value)} (hb : Blk w g t L.flatten.toArray) (hg : g < B) (hl : L.length = n) (he : ∀ l ∈ L, l.length = size) : Row w B size (some ⟨g, 0, none⟩) n L := by
  refine ⟨hl, he, ?_, fun _ => ⟨_, rfl, hg, fun j u hu => ?_⟩⟩
  · rw [flat_len L he, hl]
  · have : (⟨g, 0, none⟩ : Addr).add j = ⟨g, j, none⟩ := by unfold Addr.add; split <;> simp_all
    rw [this, hb.cell j]
    simpa using hu
def lamCells (nm : ByteArray) (g : Nat) : List Value := [.int .i64 6, .string nm, .int .i64 0, .int .i64 0, .string ⟨#[]⟩, .int .i64 0, .slice none 0 0, .slice (some ⟨g, 0, none⟩) 1 1, .slice none 0 0, .slice none 0 0, .int .i64 0]
def letCells (g gb : Nat) : List Value := [.int .i64 7, .string ⟨#[]⟩, .int .i64 0, .int .i64 0, .string ⟨#[]⟩, .int .i64 0, .slice none 0 0, .slice (some ⟨g, 0, none⟩) 1 1, .slice none 0 0, .slice (some ⟨gb, 0, none⟩) 1 1, .int .i64 0]
def callCells (g : Nat) : List Value := [.int .i64 5, .string ⟨#[]⟩, .int .i64 0, .int .i64 0, .string ⟨#[]⟩, .int .i64 0, .slice none 0 0, .slice (some ⟨g, 0, none⟩) 2 2, .slice none 0 0, .slice none 0 0, .int .i64 0]
theorem lam_at {w : World} {B g : Nat} {nm : ByteArray} {t : Ex} {xs : List Value} {ty : TypeId} (hn : nm.size ≤ maxLen) (hb : Blk w g ty xs.toArray) (hg : g < B) (hx : ExAt w B xs t) : ExAt w B (lamCells nm g) (lamE nm t) :=
  ex_kids 6 nm (some ⟨g, 0, none⟩) [t] 1 [xs] (by omega) (by omega) hn (by simp) (by omega)
    (row_blk (L := [xs]) (by simpa using hb) hg rfl (fun l hl => by simp only [List.mem_cons, List.not_mem_nil, or_false] at hl; subst hl; exact hx.eleven))
    (fun i h1 h2 => by
      have : i = 0 := by simpa using h1
      subst this; exact hx)
theorem call_at {w : World} {B g : Nat} {a b : Ex} {xs ys : List Value} {ty : TypeId} (hb : Blk w g ty (xs ++ ys).toArray) (hg : g < B) (hx : ExAt w B xs a) (hy : ExAt w B ys b) : ExAt w B (callCells g) (callE a b) :=
  ex_kids 5 ⟨#[]⟩ (some ⟨g, 0, none⟩) [a, b] 2 [xs, ys] (by omega) (by omega) (by simp [ByteArray.size, maxLen]) (by simp) (by omega)
    (row_blk (L := [xs, ys]) (by simpa using hb) hg rfl (fun l hl => by simp only [List.mem_cons, List.not_mem_nil, or_false] at hl; rcases hl with rfl | rfl; exact hx.eleven; exact hy.eleven))
    (fun i h1 h2 => by
      match i, h1 with
      | 0, _ => exact hx
      | 1, _ => exact hy)
theorem let_at {w : World} {B g gb : Nat} {nm : ByteArray} {t f : Ex} {xs ys : List Value} {ty ty' : TypeId} (hn : nm.size ≤ maxLen) (hb : Blk w g ty xs.toArray) (hg : g < B) (hbb : Blk w gb ty' ([Value.string nm] ++ ys ++ [Value.int .i64 0]).toArray) (hgb : gb < B) (hx : ExAt w B xs t) (hy : ExAt w B ys f) :
    ExAt w B (letCells g gb) (letE nm f t) :=
  ExAt.mk (T := [.int .i64 0, .string ⟨#[]⟩, .int .i64 0, .slice none 0 0]) (ks := [t]) (als := []) (bs := [Bd.mk nm f 0]) (L := [xs]) (La := []) (Lb := [[Value.string nm] ++ ys ++ [Value.int .i64 0]]) (ok_small _ (by omega) (by omega)) (by simp [ByteArray.size, maxLen]) (ok_small _ (by omega) (by omega)) (ok_small _ (by omega) (by omega)) (ty_zero w B)
    (by simp) (by unfold maxLen; omega) (by simp) (by simp [maxLen]) (by simp) (by unfold maxLen; omega) (by simp) (by simp) (by simp)
    (row_blk (L := [xs]) (by simpa using hb) hg rfl (fun l hl => by simp only [List.mem_cons, List.not_mem_nil, or_false] at hl; subst hl; exact hx.eleven))
    (fun i h1 h2 => by
      have : i = 0 := by simpa using h1
      subst this; exact hx)
    (row_none _ _ _) (fun i h => by simp at h)
    (row_blks (size := 13) (L := [[Value.string nm] ++ ys ++ [Value.int .i64 0]]) (by simpa using hbb) hgb rfl (fun l hl => by simp only [List.mem_cons, List.not_mem_nil, or_false] at hl; subst hl; simp [hy.eleven]))
    (fun i h1 h2 => by
      have : i = 0 := by simpa using h1
      subst this; exact BdAt.mk hn hy (ok_small _ (by omega) (by omega)))

end Go.Proofs.Ytglamoiimmahgaa
