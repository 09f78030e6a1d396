/-
  No cell of these rows narrows 'for every input' (looked for: loops, veiled, ifaces, maps, wideKeys, modest, calm, conditions, laid).
  DERIVED. THE GIVEN ROWS OF THIS SEAT. 3 by the template 'for every input the law returns true; each argument reads behind the call as it read before'; 0 by the template 'total and deterministic' (their statements: YtmdiemebfmnmkaaTotals.lean).
  GIVEN WITH THE SEED: the statements are not yours to turn. If you find one false, say at which input.
  Laid BY PROGRAM, IN A SANDBOX (cutbox-rows.mjs): the forced cells as the released guide's own fill.sh prints them over the translation de3e92cde466efec… (all of the seat's roots in one cut). By AI agents, Wed Nov 11 2026. No macro, syntax, notation, axiom, sorry.
-/
import Derived.Test.YtmdiemebfmnmkaaChecked
import GoSem.Claim
import GoSem.ClaimJoined
import GoSem.ClaimMapViews
import Derived.JoinedTies
import Derived.KernelRfl
namespace Go.Proofs.Ytmdiemebfmnmkaa
/- THE CELL 'sum', in the pinned program and in every row, IS THE sha256 OF THE DUMP (.gsa) THAT YtmdiemebfmnmkaaProg.lean LOADS. Nothing in Lean hashes anything: it is a label: what it is worth is what the hold of that sum in a sandbox is worth. -/
noncomputable def Try.pinned : Pinned := { name := "ytmdiemebfmnmkaa", sum := "de3e92cde466efecdef8892c1130a0937974cfc3527ce1d3bf3f04dfe2f11c62", checked := Try.checked }
namespace Rows
def none {H : Type} : Left H := { results := [], args := [] }

/-- 'hansomlaw21.SegsDef': WHATEVER THE INPUT: true; the input reads as it did. -/
def segsDefSpec : ChangeSpec := { name := "segsDef", fn := fun _ => fun
  | [d1, d2] => { results := [.lit (.bool true)], args := [d1, d2] }
  | _ => none }
def segsDefRow : OpenClaim := { program := "ytmdiemebfmnmkaa", sum := "de3e92cde466efecdef8892c1130a0937974cfc3527ce1d3bf3f04dfe2f11c62", func := "hansom/hansomlaw21.SegsDef", spec := "segsDef", apart := false }
def SegsDefSaid : Prop := segsDefRow.holds Try.pinned (OpenSpec.ofChange segsDefSpec)

/-- ITS FALSE NEIGHBOUR: 'it returns false'. Refute it at one input. -/
def segsDefWrong : ChangeSpec := { name := "segsDef", fn := fun _ => fun
  | [d1, d2] => { results := [.lit (.bool false)], args := [d1, d2] }
  | _ => none }
def SegsDefWrongFalsely : Prop := segsDefRow.holds Try.pinned (OpenSpec.ofChange segsDefWrong)

/-- 'hansomlaw21.SegsAny': WHATEVER THE INPUT: true; the input reads as it did. -/
def segsAnySpec : ChangeSpec := { name := "segsAny", fn := fun _ => fun
  | [d1, d2, d3] => { results := [.lit (.bool true)], args := [d1, d2, d3] }
  | _ => none }
def segsAnyRow : OpenClaim := { program := "ytmdiemebfmnmkaa", sum := "de3e92cde466efecdef8892c1130a0937974cfc3527ce1d3bf3f04dfe2f11c62", func := "hansom/hansomlaw21.SegsAny", spec := "segsAny", apart := false }
def SegsAnySaid : Prop := segsAnyRow.holds Try.pinned (OpenSpec.ofChange segsAnySpec)

/-- ITS FALSE NEIGHBOUR: 'it returns false'. Refute it at one input. -/
def segsAnyWrong : ChangeSpec := { name := "segsAny", fn := fun _ => fun
  | [d1, d2, d3] => { results := [.lit (.bool false)], args := [d1, d2, d3] }
  | _ => none }
def SegsAnyWrongFalsely : Prop := segsAnyRow.holds Try.pinned (OpenSpec.ofChange segsAnyWrong)

/-- 'hansomlaw21.SegsGroup': WHATEVER THE INPUT: true; the input reads as it did. -/
def segsGroupSpec : ChangeSpec := { name := "segsGroup", fn := fun _ => fun
  | [d1, d2, d3] => { results := [.lit (.bool true)], args := [d1, d2, d3] }
  | _ => none }
def segsGroupRow : OpenClaim := { program := "ytmdiemebfmnmkaa", sum := "de3e92cde466efecdef8892c1130a0937974cfc3527ce1d3bf3f04dfe2f11c62", func := "hansom/hansomlaw21.SegsGroup", spec := "segsGroup", apart := false }
def SegsGroupSaid : Prop := segsGroupRow.holds Try.pinned (OpenSpec.ofChange segsGroupSpec)

/-- ITS FALSE NEIGHBOUR: 'it returns false'. Refute it at one input. -/
def segsGroupWrong : ChangeSpec := { name := "segsGroup", fn := fun _ => fun
  | [d1, d2, d3] => { results := [.lit (.bool false)], args := [d1, d2, d3] }
  | _ => none }
def SegsGroupWrongFalsely : Prop := segsGroupRow.holds Try.pinned (OpenSpec.ofChange segsGroupWrong)

/- THE SECOND FORM. 'bulk': how many values and letters a reading holds, each counted each time it is reached (what is shared counts as often as it is met; a slice's spare places count too). A statement '..UptoSaid' is the law's where the arguments, and the package variables that the reading takes, are together of bulk at most 1048576: NARROWER than '..Said'. Prove '..Said' where nothing that the law and all that it calls make is longer than what came in: it says more and counts as full. Else prove '..UptoSaid'. A law counts once. -/
mutual
def uptoBulk {H : Type} : DataW H → Nat
  | .lit (.string bytes) => bytes.length + 1
  | .lit _ => 1
  | .nil => 1
  | .ptr d => uptoBulk d + 1
  | .slice elems spare => uptoBulkAll elems + uptoBulkAll spare + 1
  | .agg parts => uptoBulkAll parts + 1
  | .iface _ d => uptoBulk d + 1
  | .map entries => uptoBulkEntries entries + 1
  | .held _ => 1
def uptoBulkAll {H : Type} : List (DataW H) → Nat
  | [] => 0
  | d :: r => uptoBulk d + uptoBulkAll r
def uptoBulkEntries {H : Type} : List (Lit × DataW H) → Nat
  | [] => 0
  | x :: r => uptoBulkEntry x + uptoBulkEntries r
def uptoBulkEntry {H : Type} : Lit × DataW H → Nat
  | (.string bytes, d) => bytes.length + uptoBulk d + 1
  | (_, d) => uptoBulk d + 1
 end
def uptoSmall : (H : Type) → List (DataW H) → Bool := fun _ ds => decide (uptoBulkAll ds ≤ 1048576)
def OpenSpec.upto (s : _root_.Go.ChangeSpec) : _root_.Go.OpenSpec := { _root_.Go.OpenSpec.ofChange s with cond := some uptoSmall }

/-- 'hansomlaw21.SegsDef', WHERE WHAT IT READS IS OF BULK AT MOST 1048576: true; the input reads as it did. -/
def segsDefUptoRow : OpenClaim := { program := "ytmdiemebfmnmkaa", sum := "de3e92cde466efecdef8892c1130a0937974cfc3527ce1d3bf3f04dfe2f11c62", func := "hansom/hansomlaw21.SegsDef", spec := "segsDef", apart := false, narrowed := true }
def SegsDefUptoSaid : Prop := segsDefUptoRow.holds Try.pinned (OpenSpec.upto segsDefSpec)

/-- 'hansomlaw21.SegsAny', WHERE WHAT IT READS IS OF BULK AT MOST 1048576: true; the input reads as it did. -/
def segsAnyUptoRow : OpenClaim := { program := "ytmdiemebfmnmkaa", sum := "de3e92cde466efecdef8892c1130a0937974cfc3527ce1d3bf3f04dfe2f11c62", func := "hansom/hansomlaw21.SegsAny", spec := "segsAny", apart := false, narrowed := true }
def SegsAnyUptoSaid : Prop := segsAnyUptoRow.holds Try.pinned (OpenSpec.upto segsAnySpec)

/-- 'hansomlaw21.SegsGroup', WHERE WHAT IT READS IS OF BULK AT MOST 1048576: true; the input reads as it did. -/
def segsGroupUptoRow : OpenClaim := { program := "ytmdiemebfmnmkaa", sum := "de3e92cde466efecdef8892c1130a0937974cfc3527ce1d3bf3f04dfe2f11c62", func := "hansom/hansomlaw21.SegsGroup", spec := "segsGroup", apart := false, narrowed := true }
def SegsGroupUptoSaid : Prop := segsGroupUptoRow.holds Try.pinned (OpenSpec.upto segsGroupSpec)

end Rows
end Go.Proofs.Ytmdiemebfmnmkaa
