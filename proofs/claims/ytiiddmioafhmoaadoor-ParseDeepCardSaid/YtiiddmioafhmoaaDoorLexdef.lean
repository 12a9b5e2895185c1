/- The tokens of a source, as functions on lists of bytes. -/
import Derived.Test.YtiiddmioafhmoaaDoorParse
import Derived.Lib.DecodeN
namespace Go.Proofs.YtiiddmioafhmoaaDoor

abbrev blankS : List UInt8 := [32, 9, 10, 13]
abbrev digitS : List UInt8 := [48, 49, 50, 51, 52, 53, 54, 55, 56, 57]
abbrev upperS : List UInt8 := [65, 66, 67, 68, 69, 70, 71, 72, 73, 74, 75, 76, 77, 78, 79, 80, 81, 82, 83, 84, 85, 86, 87, 88, 89, 90]
abbrev lowS : List UInt8 := [97, 98, 99, 100, 101, 102, 103, 104, 105, 106, 107, 108, 109, 110, 111, 112, 113, 114, 115, 116, 117, 118, 119, 120, 121, 122, 95]
abbrev nameS : List UInt8 := [97, 98, 99, 100, 101, 102, 103, 104, 105, 106, 107, 108, 109, 110, 111, 112, 113, 114, 115, 116, 117, 118, 119, 120, 121, 122, 95, 65, 66, 67, 68, 69, 70, 71, 72, 73, 74, 75, 76, 77, 78, 79, 80, 81, 82, 83, 84, 85, 86, 87, 88, 89, 90]
abbrev inNameS : List UInt8 := [97, 98, 99, 100, 101, 102, 103, 104, 105, 106, 107, 108, 109, 110, 111, 112, 113, 114, 115, 116, 117, 118, 119, 120, 121, 122, 95, 65, 66, 67, 68, 69, 70, 71, 72, 73, 74, 75, 76, 77, 78, 79, 80, 81, 82, 83, 84, 85, 86, 87, 88, 89, 90, 48, 49, 50, 51, 52, 53, 54, 55, 56, 57, 39]
abbrev opS : List UInt8 := [33, 36, 37, 38, 42, 43, 46, 47, 60, 61, 62, 63, 64, 94, 124, 126, 58, 45]
abbrev singleS : List UInt8 := [40, 41, 44, 59, 92]

/-- How many bytes stand at the head that are in a class. -/
def spanL (p : UInt8 → Bool) (r : List UInt8) : Nat := (r.takeWhile p).length

/-- How many bytes are blank or of a comment ('true': within a comment). -/
def skipL : Bool → List UInt8 → Nat
  | _, [] => 0
  | false, c :: r => if blankS.contains c then 1 + skipL false r else if c = 35 then 1 + skipL true r else 0
  | true, c :: r => 1 + skipL (c != 10) r

abbrev keyS : List (List UInt8) := [[100, 97, 116, 97], [99, 108, 97, 115, 115], [105, 110, 115, 116, 97, 110, 99, 101], [102, 114, 111, 109], [119, 104, 101, 114, 101], [101, 110, 100], [100, 101, 114, 105, 118, 105, 110, 103], [100, 101, 102], [108, 101, 116], [114, 101, 99], [97, 110, 100], [105, 110], [99, 97, 115, 101], [111, 102], [105, 102], [116, 104, 101, 110], [101, 108, 115, 101]]
abbrev markS : List (List UInt8) := [[40], [41], [44], [59], [92], [95], [61], [45, 62], [124], [58]]
def isKeyL (s : List UInt8) : Bool := keyS.contains s
def isMarkL (s : List UInt8) : Bool := markS.contains s

/-- Which kind a text alone is. -/
def kindL (s : List UInt8) : Int :=
  if s = [] ∨ 40 < s.length then 0 else if isKeyL s = true then 6 else if isMarkL s = true then 7
  else if spanL opS.contains s = s.length then 5 else if spanL inNameS.contains s < s.length then 0
  else if upperS.contains (s.headD 0) = true then 2 else if lowS.contains (s.headD 0) = true then 1 else 0

def decodedL (d : UInt8) : Option UInt8 := if d = 110 then some 10 else if d = 116 then some 9 else if d = 34 then some 34 else if d = 92 then some 92 else none

/-- A string's text behind its first quote, and how many bytes it takes. -/
def textL : List UInt8 → Option (List UInt8 × Nat)
  | [] => none
  | c :: r => if c = 34 then some ([], 1) else if c = 10 then none else if c = 92 then
      match r with
      | [] => none
      | d :: r' => match decodedL d with
        | none => none
        | some b => (textL r').map fun x => (b :: x.1, x.2 + 2)
    else (textL r).map fun x => (c :: x.1, x.2 + 1)

/-- What a position has: an error, or a kind, a text, a number, and how many bytes. -/
structure Piece where
  code : Int
  kind : Int
  text : List UInt8
  num : Int
  width : Nat

def Piece.bad (e : Int) : Piece := ⟨e, 0, [], 0, 0⟩
def shownL (ds : List UInt8) : List UInt8 := if ds.dropWhile (· == 48) = [] then [48] else ds.dropWhile (· == 48)
def numberL (r : List UInt8) : Piece :=
  if (parse (shownL (r.takeWhile digitS.contains))).2 = 0 then ⟨0, 3, shownL (r.takeWhile digitS.contains), (parse (shownL (r.takeWhile digitS.contains))).1, spanL digitS.contains r⟩ else .bad 102
def wordL (r : List UInt8) (n : Nat) : Piece :=
  if 40 < (r.take n).length then .bad 104 else ⟨0, kindL (r.take n), r.take n, 0, n⟩
def stringL (r : List UInt8) : Piece :=
  match textL r with
  | none => .bad 103
  | some x => ⟨0, 4, x.1, 0, x.2 + 1⟩
def pieceC (c : UInt8) (r : List UInt8) : Piece :=
  if digitS.contains c = true then numberL (c :: r) else if c = 34 then stringL r
  else if nameS.contains c = true then wordL (c :: r) (spanL inNameS.contains (c :: r))
  else if opS.contains c = true then wordL (c :: r) (spanL opS.contains (c :: r))
  else if singleS.contains c = true then wordL (c :: r) 1 else .bad 101
def pieceL : List UInt8 → Piece
  | [] => .bad 0
  | c :: r => pieceC c r

/-- A token. -/
structure Tk where
  kind : Int
  text : List UInt8
  num : Int
  pos : Nat

/-- The tokens from a position on that is no blank; or the first error, and where. -/
def toksF : Nat → Nat → List UInt8 → List Tk × Int × Nat
  | 0, _, _ => ([], 0, 0)
  | _ + 1, at_, [] => ([⟨0, [], 0, at_⟩], 0, 0)
  | f + 1, at_, c :: r =>
    if (pieceL (c :: r)).code = 0 then
      let w := (pieceL (c :: r)).width
      let k := skipL false ((c :: r).drop w)
      let x := toksF f (at_ + w + k) ((c :: r).drop (w + k))
      if x.2.1 = 0 then (⟨(pieceL (c :: r)).kind, (pieceL (c :: r)).text, (pieceL (c :: r)).num, at_⟩ :: x.1, 0, 0) else ([], x.2)
    else ([], (pieceL (c :: r)).code, at_)

/-- The character at the head: its number, its width. -/
def decL (r : List UInt8) : Nat × Nat := Lib.decodeN r.length (r.getD 0 0).toNat (r.getD 1 0).toNat (r.getD 2 0).toNat (r.getD 3 0).toNat

def badF : Nat → Nat → List UInt8 → Option Nat
  | 0, _, _ => none
  | _ + 1, _, [] => none
  | f + 1, at_, c :: r => if (decL (c :: r)).1 = 65533 ∧ Lib.hasPrefix (c :: r) [239, 191, 189] = false then some at_ else badF f (at_ + (decL (c :: r)).2) ((c :: r).drop (decL (c :: r)).2)

def badL (l : List UInt8) : Option Nat := badF (l.length + 1) 0 l

def scanL (l : List UInt8) : List Tk × Int × Nat :=
  if 60000 < l.length then ([], 3, 0) else
  match badL l with
  | some i => ([], 100, i)
  | none => toksF (l.length + 1) (skipL false l) (l.drop (skipL false l))

end Go.Proofs.YtiiddmioafhmoaaDoor
