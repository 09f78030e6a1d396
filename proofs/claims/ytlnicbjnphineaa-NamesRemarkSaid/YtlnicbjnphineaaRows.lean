/-
  No cell of these rows narrows 'for every input' (looked for: loops, veiled, ifaces, maps, wideKeys, modest, calm, conditions, laid).
  DERIVED. THE GIVEN ROWS OF THIS SEAT. 3 by the template 'for every input the law returns true; each argument reads behind the call as it read before'; 0 by the template 'total and deterministic' (their statements: YtlnicbjnphineaaTotals.lean).
  GIVEN WITH THE SEED: the statements are not yours to turn. If you find one false, say at which input.
  Laid BY PROGRAM, IN A SANDBOX (cutbox-rows.mjs): the forced cells as the released guide's own fill.sh prints them over the translation 8ec0361255288761… (all of the seat's roots in one cut). By AI agents, Wed Nov 11 2026. No macro, syntax, notation, axiom, sorry.
-/
import Derived.Test.YtlnicbjnphineaaChecked
import GoSem.Claim
import GoSem.ClaimJoined
import GoSem.ClaimMapViews
import Derived.JoinedTies
import Derived.KernelRfl
namespace Go.Proofs.Ytlnicbjnphineaa
/- THE CELL 'sum', in the pinned program and in every row, IS THE sha256 OF THE DUMP (.gsa) THAT YtlnicbjnphineaaProg.lean LOADS. Nothing in Lean hashes anything: it is a label: what it is worth is what the hold of that sum in a sandbox is worth. -/
noncomputable def Try.pinned : Pinned := { name := "ytlnicbjnphineaa", sum := "8ec03612552887617770c10bd8fe3a8403161ca7e260ae09a3ca07e10ca5e0c7", checked := Try.checked }
namespace Rows
def none {H : Type} : Left H := { results := [], args := [] }

/-- 'hansomlaw20.NamesHeader': WHATEVER THE INPUT: true; the input reads as it did. -/
def namesHeaderSpec : ChangeSpec := { name := "namesHeader", fn := fun _ => fun
  | [d1, d2] => { results := [.lit (.bool true)], args := [d1, d2] }
  | _ => none }
def namesHeaderRow : OpenClaim := { program := "ytlnicbjnphineaa", sum := "8ec03612552887617770c10bd8fe3a8403161ca7e260ae09a3ca07e10ca5e0c7", func := "hansom/hansomlaw20.NamesHeader", spec := "namesHeader", apart := false }
def NamesHeaderSaid : Prop := namesHeaderRow.holds Try.pinned (OpenSpec.ofChange namesHeaderSpec)

/-- ITS FALSE NEIGHBOUR: 'it returns false'. Refute it at one input. -/
def namesHeaderWrong : ChangeSpec := { name := "namesHeader", fn := fun _ => fun
  | [d1, d2] => { results := [.lit (.bool false)], args := [d1, d2] }
  | _ => none }
def NamesHeaderWrongFalsely : Prop := namesHeaderRow.holds Try.pinned (OpenSpec.ofChange namesHeaderWrong)

/-- 'hansomlaw20.NamesList': WHATEVER THE INPUT: true; the input reads as it did. -/
def namesListSpec : ChangeSpec := { name := "namesList", fn := fun _ => fun
  | [d1, d2] => { results := [.lit (.bool true)], args := [d1, d2] }
  | _ => none }
def namesListRow : OpenClaim := { program := "ytlnicbjnphineaa", sum := "8ec03612552887617770c10bd8fe3a8403161ca7e260ae09a3ca07e10ca5e0c7", func := "hansom/hansomlaw20.NamesList", spec := "namesList", apart := false }
def NamesListSaid : Prop := namesListRow.holds Try.pinned (OpenSpec.ofChange namesListSpec)

/-- ITS FALSE NEIGHBOUR: 'it returns false'. Refute it at one input. -/
def namesListWrong : ChangeSpec := { name := "namesList", fn := fun _ => fun
  | [d1, d2] => { results := [.lit (.bool false)], args := [d1, d2] }
  | _ => none }
def NamesListWrongFalsely : Prop := namesListRow.holds Try.pinned (OpenSpec.ofChange namesListWrong)

/-- 'hansomlaw20.NamesRemark': WHATEVER THE INPUT: true; the input reads as it did. -/
def namesRemarkSpec : ChangeSpec := { name := "namesRemark", fn := fun _ => fun
  | [d1, d2] => { results := [.lit (.bool true)], args := [d1, d2] }
  | _ => none }
def namesRemarkRow : OpenClaim := { program := "ytlnicbjnphineaa", sum := "8ec03612552887617770c10bd8fe3a8403161ca7e260ae09a3ca07e10ca5e0c7", func := "hansom/hansomlaw20.NamesRemark", spec := "namesRemark", apart := false }
def NamesRemarkSaid : Prop := namesRemarkRow.holds Try.pinned (OpenSpec.ofChange namesRemarkSpec)

/-- ITS FALSE NEIGHBOUR: 'it returns false'. Refute it at one input. -/
def namesRemarkWrong : ChangeSpec := { name := "namesRemark", fn := fun _ => fun
  | [d1, d2] => { results := [.lit (.bool false)], args := [d1, d2] }
  | _ => none }
def NamesRemarkWrongFalsely : Prop := namesRemarkRow.holds Try.pinned (OpenSpec.ofChange namesRemarkWrong)

/- THE SECOND FORM. 'bulk': how many values and letters a reading holds, each counted each time it is reached (what is shared counts as often as it is met; a slice's spare places count too). A statement '..UptoSaid' is the law's where the arguments, and the package variables that the reading takes, are together of bulk at most 1048576: NARROWER than '..Said'. Prove '..Said' where nothing that the law and all that it calls make is longer than what came in: it says more and counts as full. Else prove '..UptoSaid'. A law counts once. -/
mutual
def uptoBulk {H : Type} : DataW H → Nat
  | .lit (.string bytes) => bytes.length + 1
  | .lit _ => 1
  | .nil => 1
  | .ptr d => uptoBulk d + 1
  | .slice elems spare => uptoBulkAll elems + uptoBulkAll spare + 1
  | .agg parts => uptoBulkAll parts + 1
  | .iface _ d => uptoBulk d + 1
  | .map entries => uptoBulkEntries entries + 1
  | .held _ => 1
def uptoBulkAll {H : Type} : List (DataW H) → Nat
  | [] => 0
  | d :: r => uptoBulk d + uptoBulkAll r
def uptoBulkEntries {H : Type} : List (Lit × DataW H) → Nat
  | [] => 0
  | x :: r => uptoBulkEntry x + uptoBulkEntries r
def uptoBulkEntry {H : Type} : Lit × DataW H → Nat
  | (.string bytes, d) => bytes.length + uptoBulk d + 1
  | (_, d) => uptoBulk d + 1
 end
def uptoSmall : (H : Type) → List (DataW H) → Bool := fun _ ds => decide (uptoBulkAll ds ≤ 1048576)
def OpenSpec.upto (s : _root_.Go.ChangeSpec) : _root_.Go.OpenSpec := { _root_.Go.OpenSpec.ofChange s with cond := some uptoSmall }

/-- 'hansomlaw20.NamesHeader', WHERE WHAT IT READS IS OF BULK AT MOST 1048576: true; the input reads as it did. -/
def namesHeaderUptoRow : OpenClaim := { program := "ytlnicbjnphineaa", sum := "8ec03612552887617770c10bd8fe3a8403161ca7e260ae09a3ca07e10ca5e0c7", func := "hansom/hansomlaw20.NamesHeader", spec := "namesHeader", apart := false, narrowed := true }
def NamesHeaderUptoSaid : Prop := namesHeaderUptoRow.holds Try.pinned (OpenSpec.upto namesHeaderSpec)

/-- 'hansomlaw20.NamesList', WHERE WHAT IT READS IS OF BULK AT MOST 1048576: true; the input reads as it did. -/
def namesListUptoRow : OpenClaim := { program := "ytlnicbjnphineaa", sum := "8ec03612552887617770c10bd8fe3a8403161ca7e260ae09a3ca07e10ca5e0c7", func := "hansom/hansomlaw20.NamesList", spec := "namesList", apart := false, narrowed := true }
def NamesListUptoSaid : Prop := namesListUptoRow.holds Try.pinned (OpenSpec.upto namesListSpec)

/-- 'hansomlaw20.NamesRemark', WHERE WHAT IT READS IS OF BULK AT MOST 1048576: true; the input reads as it did. -/
def namesRemarkUptoRow : OpenClaim := { program := "ytlnicbjnphineaa", sum := "8ec03612552887617770c10bd8fe3a8403161ca7e260ae09a3ca07e10ca5e0c7", func := "hansom/hansomlaw20.NamesRemark", spec := "namesRemark", apart := false, narrowed := true }
def NamesRemarkUptoSaid : Prop := namesRemarkUptoRow.holds Try.pinned (OpenSpec.upto namesRemarkSpec)

end Rows
end Go.Proofs.Ytlnicbjnphineaa
