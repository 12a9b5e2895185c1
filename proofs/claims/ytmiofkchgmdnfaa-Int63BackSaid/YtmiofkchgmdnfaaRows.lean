/-
  No cell of these rows narrows 'for every input' (looked for: loops, veiled, ifaces, maps, wideKeys, modest, calm, conditions, laid).
  DERIVED. THE GIVEN ROWS OF THIS SEAT. 4 by the template 'for every input the law returns true; each argument reads behind the call as it read before'; 0 by the template 'total and deterministic' (their statements: YtmiofkchgmdnfaaTotals.lean).
  GIVEN WITH THE SEED: the statements are not yours to turn. If you find one false, say at which input.
  Laid BY PROGRAM, IN A SANDBOX (cutbox-rows.mjs): the forced cells as the released guide's own fill.sh prints them over the translation cd66b46f14d7a01b… (all of the seat's roots in one cut). By AI agents, Wed Nov 11 2026. No macro, syntax, notation, axiom, sorry.
-/
import Derived.Test.YtmiofkchgmdnfaaChecked
import GoSem.Claim
import GoSem.ClaimJoined
import GoSem.ClaimMapViews
import Derived.JoinedTies
import Derived.KernelRfl
namespace Go.Proofs.Ytmiofkchgmdnfaa
/- THE CELL 'sum', in the pinned program and in every row, IS THE sha256 OF THE DUMP (.gsa) THAT YtmiofkchgmdnfaaProg.lean LOADS. Nothing in Lean hashes anything: it is a label: what it is worth is what the hold of that sum in a sandbox is worth. -/
noncomputable def Try.pinned : Pinned := { name := "ytmiofkchgmdnfaa", sum := "cd66b46f14d7a01bd3428a3dd2f2a20d60b08fc5aeb9af1869d08c17597373c8", checked := Try.checked }
namespace Rows
def none {H : Type} : Left H := { results := [], args := [] }

/-- 'cognatelaw01.Int63Wraps': WHATEVER THE INPUT: true; the input reads as it did. -/
def int63WrapsSpec : ChangeSpec := { name := "int63Wraps", fn := fun _ => fun
  | [d1, d2] => { results := [.lit (.bool true)], args := [d1, d2] }
  | _ => none }
def int63WrapsRow : OpenClaim := { program := "ytmiofkchgmdnfaa", sum := "cd66b46f14d7a01bd3428a3dd2f2a20d60b08fc5aeb9af1869d08c17597373c8", func := "cognate/cognatelaw01.Int63Wraps", spec := "int63Wraps", apart := false }
def Int63WrapsSaid : Prop := int63WrapsRow.holds Try.pinned (OpenSpec.ofChange int63WrapsSpec)

/-- ITS FALSE NEIGHBOUR: 'it returns false'. Refute it at one input. -/
def int63WrapsWrong : ChangeSpec := { name := "int63Wraps", fn := fun _ => fun
  | [d1, d2] => { results := [.lit (.bool false)], args := [d1, d2] }
  | _ => none }
def Int63WrapsWrongFalsely : Prop := int63WrapsRow.holds Try.pinned (OpenSpec.ofChange int63WrapsWrong)

/-- 'cognatelaw01.Int63Sums': WHATEVER THE INPUT: true; the input reads as it did. -/
def int63SumsSpec : ChangeSpec := { name := "int63Sums", fn := fun _ => fun
  | [d1, d2] => { results := [.lit (.bool true)], args := [d1, d2] }
  | _ => none }
def int63SumsRow : OpenClaim := { program := "ytmiofkchgmdnfaa", sum := "cd66b46f14d7a01bd3428a3dd2f2a20d60b08fc5aeb9af1869d08c17597373c8", func := "cognate/cognatelaw01.Int63Sums", spec := "int63Sums", apart := false }
def Int63SumsSaid : Prop := int63SumsRow.holds Try.pinned (OpenSpec.ofChange int63SumsSpec)

/-- ITS FALSE NEIGHBOUR: 'it returns false'. Refute it at one input. -/
def int63SumsWrong : ChangeSpec := { name := "int63Sums", fn := fun _ => fun
  | [d1, d2] => { results := [.lit (.bool false)], args := [d1, d2] }
  | _ => none }
def Int63SumsWrongFalsely : Prop := int63SumsRow.holds Try.pinned (OpenSpec.ofChange int63SumsWrong)

/-- 'cognatelaw01.Int63Quos': WHATEVER THE INPUT: true; the input reads as it did. -/
def int63QuosSpec : ChangeSpec := { name := "int63Quos", fn := fun _ => fun
  | [d1, d2] => { results := [.lit (.bool true)], args := [d1, d2] }
  | _ => none }
def int63QuosRow : OpenClaim := { program := "ytmiofkchgmdnfaa", sum := "cd66b46f14d7a01bd3428a3dd2f2a20d60b08fc5aeb9af1869d08c17597373c8", func := "cognate/cognatelaw01.Int63Quos", spec := "int63Quos", apart := false }
def Int63QuosSaid : Prop := int63QuosRow.holds Try.pinned (OpenSpec.ofChange int63QuosSpec)

/-- ITS FALSE NEIGHBOUR: 'it returns false'. Refute it at one input. -/
def int63QuosWrong : ChangeSpec := { name := "int63Quos", fn := fun _ => fun
  | [d1, d2] => { results := [.lit (.bool false)], args := [d1, d2] }
  | _ => none }
def Int63QuosWrongFalsely : Prop := int63QuosRow.holds Try.pinned (OpenSpec.ofChange int63QuosWrong)

/-- 'cognatelaw01.Int63Back': WHATEVER THE INPUT: true; the input reads as it did. -/
def int63BackSpec : ChangeSpec := { name := "int63Back", fn := fun _ => fun
  | [d1, d2, d3] => { results := [.lit (.bool true)], args := [d1, d2, d3] }
  | _ => none }
def int63BackRow : OpenClaim := { program := "ytmiofkchgmdnfaa", sum := "cd66b46f14d7a01bd3428a3dd2f2a20d60b08fc5aeb9af1869d08c17597373c8", func := "cognate/cognatelaw01.Int63Back", spec := "int63Back", apart := false }
def Int63BackSaid : Prop := int63BackRow.holds Try.pinned (OpenSpec.ofChange int63BackSpec)

/-- ITS FALSE NEIGHBOUR: 'it returns false'. Refute it at one input. -/
def int63BackWrong : ChangeSpec := { name := "int63Back", fn := fun _ => fun
  | [d1, d2, d3] => { results := [.lit (.bool false)], args := [d1, d2, d3] }
  | _ => none }
def Int63BackWrongFalsely : Prop := int63BackRow.holds Try.pinned (OpenSpec.ofChange int63BackWrong)

/- THE SECOND FORM. 'bulk': how many values and letters a reading holds, each counted each time it is reached (what is shared counts as often as it is met; a slice's spare places count too). A statement '..UptoSaid' is the law's where the arguments, and the package variables that the reading takes, are together of bulk at most 1048576: NARROWER than '..Said'. Prove '..Said' where nothing that the law and all that it calls make is longer than what came in: it says more and counts as full. Else prove '..UptoSaid'. A law counts once. -/
mutual
def uptoBulk {H : Type} : DataW H → Nat
  | .lit (.string bytes) => bytes.length + 1
  | .lit _ => 1
  | .nil => 1
  | .ptr d => uptoBulk d + 1
  | .slice elems spare => uptoBulkAll elems + uptoBulkAll spare + 1
  | .agg parts => uptoBulkAll parts + 1
  | .iface _ d => uptoBulk d + 1
  | .map entries => uptoBulkEntries entries + 1
  | .held _ => 1
def uptoBulkAll {H : Type} : List (DataW H) → Nat
  | [] => 0
  | d :: r => uptoBulk d + uptoBulkAll r
def uptoBulkEntries {H : Type} : List (Lit × DataW H) → Nat
  | [] => 0
  | x :: r => uptoBulkEntry x + uptoBulkEntries r
def uptoBulkEntry {H : Type} : Lit × DataW H → Nat
  | (.string bytes, d) => bytes.length + uptoBulk d + 1
  | (_, d) => uptoBulk d + 1
 end
def uptoSmall : (H : Type) → List (DataW H) → Bool := fun _ ds => decide (uptoBulkAll ds ≤ 1048576)
def OpenSpec.upto (s : _root_.Go.ChangeSpec) : _root_.Go.OpenSpec := { _root_.Go.OpenSpec.ofChange s with cond := some uptoSmall }

/-- 'cognatelaw01.Int63Wraps', WHERE WHAT IT READS IS OF BULK AT MOST 1048576: true; the input reads as it did. -/
def int63WrapsUptoRow : OpenClaim := { program := "ytmiofkchgmdnfaa", sum := "cd66b46f14d7a01bd3428a3dd2f2a20d60b08fc5aeb9af1869d08c17597373c8", func := "cognate/cognatelaw01.Int63Wraps", spec := "int63Wraps", apart := false, narrowed := true }
def Int63WrapsUptoSaid : Prop := int63WrapsUptoRow.holds Try.pinned (OpenSpec.upto int63WrapsSpec)

/-- 'cognatelaw01.Int63Sums', WHERE WHAT IT READS IS OF BULK AT MOST 1048576: true; the input reads as it did. -/
def int63SumsUptoRow : OpenClaim := { program := "ytmiofkchgmdnfaa", sum := "cd66b46f14d7a01bd3428a3dd2f2a20d60b08fc5aeb9af1869d08c17597373c8", func := "cognate/cognatelaw01.Int63Sums", spec := "int63Sums", apart := false, narrowed := true }
def Int63SumsUptoSaid : Prop := int63SumsUptoRow.holds Try.pinned (OpenSpec.upto int63SumsSpec)

/-- 'cognatelaw01.Int63Quos', WHERE WHAT IT READS IS OF BULK AT MOST 1048576: true; the input reads as it did. -/
def int63QuosUptoRow : OpenClaim := { program := "ytmiofkchgmdnfaa", sum := "cd66b46f14d7a01bd3428a3dd2f2a20d60b08fc5aeb9af1869d08c17597373c8", func := "cognate/cognatelaw01.Int63Quos", spec := "int63Quos", apart := false, narrowed := true }
def Int63QuosUptoSaid : Prop := int63QuosUptoRow.holds Try.pinned (OpenSpec.upto int63QuosSpec)

/-- 'cognatelaw01.Int63Back', WHERE WHAT IT READS IS OF BULK AT MOST 1048576: true; the input reads as it did. -/
def int63BackUptoRow : OpenClaim := { program := "ytmiofkchgmdnfaa", sum := "cd66b46f14d7a01bd3428a3dd2f2a20d60b08fc5aeb9af1869d08c17597373c8", func := "cognate/cognatelaw01.Int63Back", spec := "int63Back", apart := false, narrowed := true }
def Int63BackUptoSaid : Prop := int63BackUptoRow.holds Try.pinned (OpenSpec.upto int63BackSpec)

end Rows
end Go.Proofs.Ytmiofkchgmdnfaa
