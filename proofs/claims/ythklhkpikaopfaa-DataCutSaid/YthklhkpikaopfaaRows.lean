/-
  No cell of these rows narrows 'for every input' (looked for: loops, veiled, ifaces, maps, wideKeys, modest, calm, conditions, laid).
  DERIVED. THE GIVEN ROWS OF THIS SEAT. 3 by the template 'for every input the law returns true; each argument reads behind the call as it read before'; 0 by the template 'total and deterministic' (their statements: YthklhkpikaopfaaTotals.lean).
  GIVEN WITH THE SEED: the statements are not yours to turn. If you find one false, say at which input.
  Laid BY PROGRAM, IN A SANDBOX (cutbox-rows.mjs): the forced cells as the released guide's own fill.sh prints them over the translation 395254111d62d5a9… (all of the seat's roots in one cut). By AI agents, Wed Nov 11 2026. No macro, syntax, notation, axiom, sorry.
-/
import Derived.Test.YthklhkpikaopfaaChecked
import GoSem.Claim
import GoSem.ClaimJoined
import GoSem.ClaimMapViews
import Derived.JoinedTies
import Derived.KernelRfl
namespace Go.Proofs.Ythklhkpikaopfaa
/- THE CELL 'sum', in the pinned program and in every row, IS THE sha256 OF THE DUMP (.gsa) THAT YthklhkpikaopfaaProg.lean LOADS. Nothing in Lean hashes anything: it is a label: what it is worth is what the hold of that sum in a sandbox is worth. -/
noncomputable def Try.pinned : Pinned := { name := "ythklhkpikaopfaa", sum := "395254111d62d5a927526a7cac1ca5d91cde3a756bfc15f03ba094b4cc1b12cf", checked := Try.checked }
namespace Rows
def none {H : Type} : Left H := { results := [], args := [] }

/-- 'hansomlaw23.DataBack': WHATEVER THE INPUT: true; the input reads as it did. -/
def dataBackSpec : ChangeSpec := { name := "dataBack", fn := fun _ => fun
  | [d1, d2] => { results := [.lit (.bool true)], args := [d1, d2] }
  | _ => none }
def dataBackRow : OpenClaim := { program := "ythklhkpikaopfaa", sum := "395254111d62d5a927526a7cac1ca5d91cde3a756bfc15f03ba094b4cc1b12cf", func := "hansom/hansomlaw23.DataBack", spec := "dataBack", apart := false }
def DataBackSaid : Prop := dataBackRow.holds Try.pinned (OpenSpec.ofChange dataBackSpec)

/-- ITS FALSE NEIGHBOUR: 'it returns false'. Refute it at one input. -/
def dataBackWrong : ChangeSpec := { name := "dataBack", fn := fun _ => fun
  | [d1, d2] => { results := [.lit (.bool false)], args := [d1, d2] }
  | _ => none }
def DataBackWrongFalsely : Prop := dataBackRow.holds Try.pinned (OpenSpec.ofChange dataBackWrong)

/-- 'hansomlaw23.DataAny': WHATEVER THE INPUT: true; the input reads as it did. -/
def dataAnySpec : ChangeSpec := { name := "dataAny", fn := fun _ => fun
  | [d] => { results := [.lit (.bool true)], args := [d] }
  | _ => none }
def dataAnyRow : OpenClaim := { program := "ythklhkpikaopfaa", sum := "395254111d62d5a927526a7cac1ca5d91cde3a756bfc15f03ba094b4cc1b12cf", func := "hansom/hansomlaw23.DataAny", spec := "dataAny", apart := false }
def DataAnySaid : Prop := dataAnyRow.holds Try.pinned (OpenSpec.ofChange dataAnySpec)

/-- ITS FALSE NEIGHBOUR: 'it returns false'. Refute it at one input. -/
def dataAnyWrong : ChangeSpec := { name := "dataAny", fn := fun _ => fun
  | [d] => { results := [.lit (.bool false)], args := [d] }
  | _ => none }
def DataAnyWrongFalsely : Prop := dataAnyRow.holds Try.pinned (OpenSpec.ofChange dataAnyWrong)

/-- 'hansomlaw23.DataCut': WHATEVER THE INPUT: true; the input reads as it did. -/
def dataCutSpec : ChangeSpec := { name := "dataCut", fn := fun _ => fun
  | [d1, d2, d3] => { results := [.lit (.bool true)], args := [d1, d2, d3] }
  | _ => none }
def dataCutRow : OpenClaim := { program := "ythklhkpikaopfaa", sum := "395254111d62d5a927526a7cac1ca5d91cde3a756bfc15f03ba094b4cc1b12cf", func := "hansom/hansomlaw23.DataCut", spec := "dataCut", unfollowed := true, recurses := true, apart := false }
def DataCutSaid : Prop := dataCutRow.holds Try.pinned (OpenSpec.ofChange dataCutSpec)

/-- ITS FALSE NEIGHBOUR: 'it returns false'. Refute it at one input. -/
def dataCutWrong : ChangeSpec := { name := "dataCut", fn := fun _ => fun
  | [d1, d2, d3] => { results := [.lit (.bool false)], args := [d1, d2, d3] }
  | _ => none }
def DataCutWrongFalsely : Prop := dataCutRow.holds Try.pinned (OpenSpec.ofChange dataCutWrong)

/- THE SECOND FORM. 'bulk': how many values and letters a reading holds, each counted each time it is reached (what is shared counts as often as it is met; a slice's spare places count too). A statement '..UptoSaid' is the law's where the arguments, and the package variables that the reading takes, are together of bulk at most 1048576: NARROWER than '..Said'. Prove '..Said' where nothing that the law and all that it calls make is longer than what came in: it says more and counts as full. Else prove '..UptoSaid'. A law counts once. -/
mutual
def uptoBulk {H : Type} : DataW H → Nat
  | .lit (.string bytes) => bytes.length + 1
  | .lit _ => 1
  | .nil => 1
  | .ptr d => uptoBulk d + 1
  | .slice elems spare => uptoBulkAll elems + uptoBulkAll spare + 1
  | .agg parts => uptoBulkAll parts + 1
  | .iface _ d => uptoBulk d + 1
  | .map entries => uptoBulkEntries entries + 1
  | .held _ => 1
def uptoBulkAll {H : Type} : List (DataW H) → Nat
  | [] => 0
  | d :: r => uptoBulk d + uptoBulkAll r
def uptoBulkEntries {H : Type} : List (Lit × DataW H) → Nat
  | [] => 0
  | x :: r => uptoBulkEntry x + uptoBulkEntries r
def uptoBulkEntry {H : Type} : Lit × DataW H → Nat
  | (.string bytes, d) => bytes.length + uptoBulk d + 1
  | (_, d) => uptoBulk d + 1
 end
def uptoSmall : (H : Type) → List (DataW H) → Bool := fun _ ds => decide (uptoBulkAll ds ≤ 1048576)
def OpenSpec.upto (s : _root_.Go.ChangeSpec) : _root_.Go.OpenSpec := { _root_.Go.OpenSpec.ofChange s with cond := some uptoSmall }

/-- 'hansomlaw23.DataBack', WHERE WHAT IT READS IS OF BULK AT MOST 1048576: true; the input reads as it did. -/
def dataBackUptoRow : OpenClaim := { program := "ythklhkpikaopfaa", sum := "395254111d62d5a927526a7cac1ca5d91cde3a756bfc15f03ba094b4cc1b12cf", func := "hansom/hansomlaw23.DataBack", spec := "dataBack", apart := false, narrowed := true }
def DataBackUptoSaid : Prop := dataBackUptoRow.holds Try.pinned (OpenSpec.upto dataBackSpec)

/-- 'hansomlaw23.DataAny', WHERE WHAT IT READS IS OF BULK AT MOST 1048576: true; the input reads as it did. -/
def dataAnyUptoRow : OpenClaim := { program := "ythklhkpikaopfaa", sum := "395254111d62d5a927526a7cac1ca5d91cde3a756bfc15f03ba094b4cc1b12cf", func := "hansom/hansomlaw23.DataAny", spec := "dataAny", apart := false, narrowed := true }
def DataAnyUptoSaid : Prop := dataAnyUptoRow.holds Try.pinned (OpenSpec.upto dataAnySpec)

/-- 'hansomlaw23.DataCut', WHERE WHAT IT READS IS OF BULK AT MOST 1048576: true; the input reads as it did. -/
def dataCutUptoRow : OpenClaim := { program := "ythklhkpikaopfaa", sum := "395254111d62d5a927526a7cac1ca5d91cde3a756bfc15f03ba094b4cc1b12cf", func := "hansom/hansomlaw23.DataCut", spec := "dataCut", unfollowed := true, recurses := true, apart := false, narrowed := true }
def DataCutUptoSaid : Prop := dataCutUptoRow.holds Try.pinned (OpenSpec.upto dataCutSpec)

end Rows
end Go.Proofs.Ythklhkpikaopfaa
