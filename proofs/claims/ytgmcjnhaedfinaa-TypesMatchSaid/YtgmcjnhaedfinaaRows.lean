/-
  NARROWER THAN 'FOR EVERY INPUT', by the rows' own cells (each row's printed sentence says how): TypesAsk: loops · TypesPut: loops · TypesMatch: loops · TypesBack: loops.
  DERIVED. THE GIVEN ROWS OF THIS SEAT. 4 by the template 'for every input the law returns true; each argument reads behind the call as it read before'; 0 by the template 'total and deterministic' (their statements: YtgmcjnhaedfinaaTotals.lean).
  GIVEN WITH THE SEED: the statements are not yours to turn. If you find one false, say at which input.
  Laid BY PROGRAM, IN A SANDBOX (cutbox-rows.mjs): the forced cells as the released guide's own fill.sh prints them over the translation 2f6f1814fe696bd8… (all of the seat's roots in one cut). By AI agents, Wed Nov 11 2026. No macro, syntax, notation, axiom, sorry.
-/
import Derived.Test.YtgmcjnhaedfinaaChecked
import GoSem.Claim
import GoSem.ClaimJoined
import GoSem.ClaimMapViews
import Derived.JoinedTies
import Derived.KernelRfl
namespace Go.Proofs.Ytgmcjnhaedfinaa
/- THE CELL 'sum', in the pinned program and in every row, IS THE sha256 OF THE DUMP (.gsa) THAT YtgmcjnhaedfinaaProg.lean LOADS. Nothing in Lean hashes anything: it is a label: what it is worth is what the hold of that sum in a sandbox is worth. -/
noncomputable def Try.pinned : Pinned := { name := "ytgmcjnhaedfinaa", sum := "2f6f1814fe696bd85af95d9d0365cb51cadbfc60f414917a9c791dbfddc05041", checked := Try.checked }
namespace Rows
def none {H : Type} : Left H := { results := [], args := [] }

/-- 'cognatelaw08.TypesAsk': WHATEVER THE INPUT: true; the input reads as it did. -/
def typesAskSpec : ChangeSpec := { name := "typesAsk", fn := fun _ => fun
  | [d1, d2] => { results := [.lit (.bool true)], args := [d1, d2] }
  | _ => none }
def typesAskRow : OpenClaim := { program := "ytgmcjnhaedfinaa", sum := "2f6f1814fe696bd85af95d9d0365cb51cadbfc60f414917a9c791dbfddc05041", func := "cognate/cognatelaw08.TypesAsk", spec := "typesAsk", unfollowed := true, recurses := true, loops := true, apart := false }
def TypesAskSaid : Prop := typesAskRow.holds Try.pinned (OpenSpec.ofChange typesAskSpec)

/-- ITS FALSE NEIGHBOUR: 'it returns false'. Refute it at one input. -/
def typesAskWrong : ChangeSpec := { name := "typesAsk", fn := fun _ => fun
  | [d1, d2] => { results := [.lit (.bool false)], args := [d1, d2] }
  | _ => none }
def TypesAskWrongFalsely : Prop := typesAskRow.holds Try.pinned (OpenSpec.ofChange typesAskWrong)

/-- 'cognatelaw08.TypesPut': WHATEVER THE INPUT: true; the input reads as it did. -/
def typesPutSpec : ChangeSpec := { name := "typesPut", fn := fun _ => fun
  | [d1, d2] => { results := [.lit (.bool true)], args := [d1, d2] }
  | _ => none }
def typesPutRow : OpenClaim := { program := "ytgmcjnhaedfinaa", sum := "2f6f1814fe696bd85af95d9d0365cb51cadbfc60f414917a9c791dbfddc05041", func := "cognate/cognatelaw08.TypesPut", spec := "typesPut", unfollowed := true, recurses := true, loops := true, apart := false }
def TypesPutSaid : Prop := typesPutRow.holds Try.pinned (OpenSpec.ofChange typesPutSpec)

/-- ITS FALSE NEIGHBOUR: 'it returns false'. Refute it at one input. -/
def typesPutWrong : ChangeSpec := { name := "typesPut", fn := fun _ => fun
  | [d1, d2] => { results := [.lit (.bool false)], args := [d1, d2] }
  | _ => none }
def TypesPutWrongFalsely : Prop := typesPutRow.holds Try.pinned (OpenSpec.ofChange typesPutWrong)

/-- 'cognatelaw08.TypesMatch': WHATEVER THE INPUT: true; the input reads as it did. -/
def typesMatchSpec : ChangeSpec := { name := "typesMatch", fn := fun _ => fun
  | [d1, d2, d3] => { results := [.lit (.bool true)], args := [d1, d2, d3] }
  | _ => none }
def typesMatchRow : OpenClaim := { program := "ytgmcjnhaedfinaa", sum := "2f6f1814fe696bd85af95d9d0365cb51cadbfc60f414917a9c791dbfddc05041", func := "cognate/cognatelaw08.TypesMatch", spec := "typesMatch", unfollowed := true, recurses := true, loops := true, apart := false }
def TypesMatchSaid : Prop := typesMatchRow.holds Try.pinned (OpenSpec.ofChange typesMatchSpec)

/-- ITS FALSE NEIGHBOUR: 'it returns false'. Refute it at one input. -/
def typesMatchWrong : ChangeSpec := { name := "typesMatch", fn := fun _ => fun
  | [d1, d2, d3] => { results := [.lit (.bool false)], args := [d1, d2, d3] }
  | _ => none }
def TypesMatchWrongFalsely : Prop := typesMatchRow.holds Try.pinned (OpenSpec.ofChange typesMatchWrong)

/-- 'cognatelaw08.TypesBack': WHATEVER THE INPUT: true; the input reads as it did. -/
def typesBackSpec : ChangeSpec := { name := "typesBack", fn := fun _ => fun
  | [d1, d2, d3] => { results := [.lit (.bool true)], args := [d1, d2, d3] }
  | _ => none }
def typesBackRow : OpenClaim := { program := "ytgmcjnhaedfinaa", sum := "2f6f1814fe696bd85af95d9d0365cb51cadbfc60f414917a9c791dbfddc05041", func := "cognate/cognatelaw08.TypesBack", spec := "typesBack", unfollowed := true, recurses := true, loops := true, apart := false }
def TypesBackSaid : Prop := typesBackRow.holds Try.pinned (OpenSpec.ofChange typesBackSpec)

/-- ITS FALSE NEIGHBOUR: 'it returns false'. Refute it at one input. -/
def typesBackWrong : ChangeSpec := { name := "typesBack", fn := fun _ => fun
  | [d1, d2, d3] => { results := [.lit (.bool false)], args := [d1, d2, d3] }
  | _ => none }
def TypesBackWrongFalsely : Prop := typesBackRow.holds Try.pinned (OpenSpec.ofChange typesBackWrong)

/- THE SECOND FORM. 'bulk': how many values and letters a reading holds, each counted each time it is reached (what is shared counts as often as it is met; a slice's spare places count too). A statement '..UptoSaid' is the law's where the arguments, and the package variables that the reading takes, are together of bulk at most 1048576: NARROWER than '..Said'. Prove '..Said' where nothing that the law and all that it calls make is longer than what came in: it says more and counts as full. Else prove '..UptoSaid'. A law counts once. -/
mutual
def uptoBulk {H : Type} : DataW H → Nat
  | .lit (.string bytes) => bytes.length + 1
  | .lit _ => 1
  | .nil => 1
  | .ptr d => uptoBulk d + 1
  | .slice elems spare => uptoBulkAll elems + uptoBulkAll spare + 1
  | .agg parts => uptoBulkAll parts + 1
  | .iface _ d => uptoBulk d + 1
  | .map entries => uptoBulkEntries entries + 1
  | .held _ => 1
def uptoBulkAll {H : Type} : List (DataW H) → Nat
  | [] => 0
  | d :: r => uptoBulk d + uptoBulkAll r
def uptoBulkEntries {H : Type} : List (Lit × DataW H) → Nat
  | [] => 0
  | x :: r => uptoBulkEntry x + uptoBulkEntries r
def uptoBulkEntry {H : Type} : Lit × DataW H → Nat
  | (.string bytes, d) => bytes.length + uptoBulk d + 1
  | (_, d) => uptoBulk d + 1
 end
def uptoSmall : (H : Type) → List (DataW H) → Bool := fun _ ds => decide (uptoBulkAll ds ≤ 1048576)
def OpenSpec.upto (s : _root_.Go.ChangeSpec) : _root_.Go.OpenSpec := { _root_.Go.OpenSpec.ofChange s with cond := some uptoSmall }

/-- 'cognatelaw08.TypesAsk', WHERE WHAT IT READS IS OF BULK AT MOST 1048576: true; the input reads as it did. -/
def typesAskUptoRow : OpenClaim := { program := "ytgmcjnhaedfinaa", sum := "2f6f1814fe696bd85af95d9d0365cb51cadbfc60f414917a9c791dbfddc05041", func := "cognate/cognatelaw08.TypesAsk", spec := "typesAsk", unfollowed := true, recurses := true, loops := true, apart := false, narrowed := true }
def TypesAskUptoSaid : Prop := typesAskUptoRow.holds Try.pinned (OpenSpec.upto typesAskSpec)

/-- 'cognatelaw08.TypesPut', WHERE WHAT IT READS IS OF BULK AT MOST 1048576: true; the input reads as it did. -/
def typesPutUptoRow : OpenClaim := { program := "ytgmcjnhaedfinaa", sum := "2f6f1814fe696bd85af95d9d0365cb51cadbfc60f414917a9c791dbfddc05041", func := "cognate/cognatelaw08.TypesPut", spec := "typesPut", unfollowed := true, recurses := true, loops := true, apart := false, narrowed := true }
def TypesPutUptoSaid : Prop := typesPutUptoRow.holds Try.pinned (OpenSpec.upto typesPutSpec)

/-- 'cognatelaw08.TypesMatch', WHERE WHAT IT READS IS OF BULK AT MOST 1048576: true; the input reads as it did. -/
def typesMatchUptoRow : OpenClaim := { program := "ytgmcjnhaedfinaa", sum := "2f6f1814fe696bd85af95d9d0365cb51cadbfc60f414917a9c791dbfddc05041", func := "cognate/cognatelaw08.TypesMatch", spec := "typesMatch", unfollowed := true, recurses := true, loops := true, apart := false, narrowed := true }
def TypesMatchUptoSaid : Prop := typesMatchUptoRow.holds Try.pinned (OpenSpec.upto typesMatchSpec)

/-- 'cognatelaw08.TypesBack', WHERE WHAT IT READS IS OF BULK AT MOST 1048576: true; the input reads as it did. -/
def typesBackUptoRow : OpenClaim := { program := "ytgmcjnhaedfinaa", sum := "2f6f1814fe696bd85af95d9d0365cb51cadbfc60f414917a9c791dbfddc05041", func := "cognate/cognatelaw08.TypesBack", spec := "typesBack", unfollowed := true, recurses := true, loops := true, apart := false, narrowed := true }
def TypesBackUptoSaid : Prop := typesBackUptoRow.holds Try.pinned (OpenSpec.upto typesBackSpec)

end Rows
end Go.Proofs.Ytgmcjnhaedfinaa
