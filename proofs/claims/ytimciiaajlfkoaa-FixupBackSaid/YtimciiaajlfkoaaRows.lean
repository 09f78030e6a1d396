/-
  No cell of these rows narrows 'for every input' (looked for: loops, veiled, ifaces, maps, wideKeys, modest, calm, conditions, laid).
  DERIVED. THE GIVEN ROWS OF THIS SEAT. 4 by the template 'for every input the law returns true; each argument reads behind the call as it read before'; 0 by the template 'total and deterministic' (their statements: YtimciiaajlfkoaaTotals.lean).
  GIVEN WITH THE SEED: the statements are not yours to turn. If you find one false, say at which input.
  Laid BY PROGRAM, IN A SANDBOX (cutbox-rows.mjs): the forced cells as the released guide's own fill.sh prints them over the translation f5b76f89e9a89d6c… (all of the seat's roots in one cut). By AI agents, Wed Nov 11 2026. No macro, syntax, notation, axiom, sorry.
-/
import Derived.Test.YtimciiaajlfkoaaChecked
import GoSem.Claim
import GoSem.ClaimJoined
import GoSem.ClaimMapViews
import Derived.JoinedTies
import Derived.KernelRfl
namespace Go.Proofs.Ytimciiaajlfkoaa
/- THE CELL 'sum', in the pinned program and in every row, IS THE sha256 OF THE DUMP (.gsa) THAT YtimciiaajlfkoaaProg.lean LOADS. Nothing in Lean hashes anything: it is a label: what it is worth is what the hold of that sum in a sandbox is worth. -/
noncomputable def Try.pinned : Pinned := { name := "ytimciiaajlfkoaa", sum := "f5b76f89e9a89d6c417c9c2830c936230381d9ed5da47ff4e544a2689b080be0", checked := Try.checked }
namespace Rows
def none {H : Type} : Left H := { results := [], args := [] }

/-- 'hansomlaw25.FixupMay': WHATEVER THE INPUT: true; the input reads as it did. -/
def fixupMaySpec : ChangeSpec := { name := "fixupMay", fn := fun _ => fun
  | [d1, d2, d3] => { results := [.lit (.bool true)], args := [d1, d2, d3] }
  | _ => none }
def fixupMayRow : OpenClaim := { program := "ytimciiaajlfkoaa", sum := "f5b76f89e9a89d6c417c9c2830c936230381d9ed5da47ff4e544a2689b080be0", func := "hansom/hansomlaw25.FixupMay", spec := "fixupMay", apart := false }
def FixupMaySaid : Prop := fixupMayRow.holds Try.pinned (OpenSpec.ofChange fixupMaySpec)

/-- ITS FALSE NEIGHBOUR: 'it returns false'. Refute it at one input. -/
def fixupMayWrong : ChangeSpec := { name := "fixupMay", fn := fun _ => fun
  | [d1, d2, d3] => { results := [.lit (.bool false)], args := [d1, d2, d3] }
  | _ => none }
def FixupMayWrongFalsely : Prop := fixupMayRow.holds Try.pinned (OpenSpec.ofChange fixupMayWrong)

/-- 'hansomlaw25.FixupBack': WHATEVER THE INPUT: true; the input reads as it did. -/
def fixupBackSpec : ChangeSpec := { name := "fixupBack", fn := fun _ => fun
  | [d1, d2, d3] => { results := [.lit (.bool true)], args := [d1, d2, d3] }
  | _ => none }
def fixupBackRow : OpenClaim := { program := "ytimciiaajlfkoaa", sum := "f5b76f89e9a89d6c417c9c2830c936230381d9ed5da47ff4e544a2689b080be0", func := "hansom/hansomlaw25.FixupBack", spec := "fixupBack", apart := false }
def FixupBackSaid : Prop := fixupBackRow.holds Try.pinned (OpenSpec.ofChange fixupBackSpec)

/-- ITS FALSE NEIGHBOUR: 'it returns false'. Refute it at one input. -/
def fixupBackWrong : ChangeSpec := { name := "fixupBack", fn := fun _ => fun
  | [d1, d2, d3] => { results := [.lit (.bool false)], args := [d1, d2, d3] }
  | _ => none }
def FixupBackWrongFalsely : Prop := fixupBackRow.holds Try.pinned (OpenSpec.ofChange fixupBackWrong)

/-- 'hansomlaw25.FixupThreads': WHATEVER THE INPUT: true; the input reads as it did. -/
def fixupThreadsSpec : ChangeSpec := { name := "fixupThreads", fn := fun _ => fun
  | [d1, d2, d3] => { results := [.lit (.bool true)], args := [d1, d2, d3] }
  | _ => none }
def fixupThreadsRow : OpenClaim := { program := "ytimciiaajlfkoaa", sum := "f5b76f89e9a89d6c417c9c2830c936230381d9ed5da47ff4e544a2689b080be0", func := "hansom/hansomlaw25.FixupThreads", spec := "fixupThreads", apart := false }
def FixupThreadsSaid : Prop := fixupThreadsRow.holds Try.pinned (OpenSpec.ofChange fixupThreadsSpec)

/-- ITS FALSE NEIGHBOUR: 'it returns false'. Refute it at one input. -/
def fixupThreadsWrong : ChangeSpec := { name := "fixupThreads", fn := fun _ => fun
  | [d1, d2, d3] => { results := [.lit (.bool false)], args := [d1, d2, d3] }
  | _ => none }
def FixupThreadsWrongFalsely : Prop := fixupThreadsRow.holds Try.pinned (OpenSpec.ofChange fixupThreadsWrong)

/-- 'hansomlaw25.FixupSorted': WHATEVER THE INPUT: true; the input reads as it did. -/
def fixupSortedSpec : ChangeSpec := { name := "fixupSorted", fn := fun _ => fun
  | [d] => { results := [.lit (.bool true)], args := [d] }
  | _ => none }
def fixupSortedRow : OpenClaim := { program := "ytimciiaajlfkoaa", sum := "f5b76f89e9a89d6c417c9c2830c936230381d9ed5da47ff4e544a2689b080be0", func := "hansom/hansomlaw25.FixupSorted", spec := "fixupSorted", unfollowed := true, recurses := true, apart := false }
def FixupSortedSaid : Prop := fixupSortedRow.holds Try.pinned (OpenSpec.ofChange fixupSortedSpec)

/-- ITS FALSE NEIGHBOUR: 'it returns false'. Refute it at one input. -/
def fixupSortedWrong : ChangeSpec := { name := "fixupSorted", fn := fun _ => fun
  | [d] => { results := [.lit (.bool false)], args := [d] }
  | _ => none }
def FixupSortedWrongFalsely : Prop := fixupSortedRow.holds Try.pinned (OpenSpec.ofChange fixupSortedWrong)

/- THE SECOND FORM. 'bulk': how many values and letters a reading holds, each counted each time it is reached (what is shared counts as often as it is met; a slice's spare places count too). A statement '..UptoSaid' is the law's where the arguments, and the package variables that the reading takes, are together of bulk at most 1048576: NARROWER than '..Said'. Prove '..Said' where nothing that the law and all that it calls make is longer than what came in: it says more and counts as full. Else prove '..UptoSaid'. A law counts once. -/
mutual
def uptoBulk {H : Type} : DataW H → Nat
  | .lit (.string bytes) => bytes.length + 1
  | .lit _ => 1
  | .nil => 1
  | .ptr d => uptoBulk d + 1
  | .slice elems spare => uptoBulkAll elems + uptoBulkAll spare + 1
  | .agg parts => uptoBulkAll parts + 1
  | .iface _ d => uptoBulk d + 1
  | .map entries => uptoBulkEntries entries + 1
  | .held _ => 1
def uptoBulkAll {H : Type} : List (DataW H) → Nat
  | [] => 0
  | d :: r => uptoBulk d + uptoBulkAll r
def uptoBulkEntries {H : Type} : List (Lit × DataW H) → Nat
  | [] => 0
  | x :: r => uptoBulkEntry x + uptoBulkEntries r
def uptoBulkEntry {H : Type} : Lit × DataW H → Nat
  | (.string bytes, d) => bytes.length + uptoBulk d + 1
  | (_, d) => uptoBulk d + 1
 end
def uptoSmall : (H : Type) → List (DataW H) → Bool := fun _ ds => decide (uptoBulkAll ds ≤ 1048576)
def OpenSpec.upto (s : _root_.Go.ChangeSpec) : _root_.Go.OpenSpec := { _root_.Go.OpenSpec.ofChange s with cond := some uptoSmall }

/-- 'hansomlaw25.FixupMay', WHERE WHAT IT READS IS OF BULK AT MOST 1048576: true; the input reads as it did. -/
def fixupMayUptoRow : OpenClaim := { program := "ytimciiaajlfkoaa", sum := "f5b76f89e9a89d6c417c9c2830c936230381d9ed5da47ff4e544a2689b080be0", func := "hansom/hansomlaw25.FixupMay", spec := "fixupMay", apart := false, narrowed := true }
def FixupMayUptoSaid : Prop := fixupMayUptoRow.holds Try.pinned (OpenSpec.upto fixupMaySpec)

/-- 'hansomlaw25.FixupBack', WHERE WHAT IT READS IS OF BULK AT MOST 1048576: true; the input reads as it did. -/
def fixupBackUptoRow : OpenClaim := { program := "ytimciiaajlfkoaa", sum := "f5b76f89e9a89d6c417c9c2830c936230381d9ed5da47ff4e544a2689b080be0", func := "hansom/hansomlaw25.FixupBack", spec := "fixupBack", apart := false, narrowed := true }
def FixupBackUptoSaid : Prop := fixupBackUptoRow.holds Try.pinned (OpenSpec.upto fixupBackSpec)

/-- 'hansomlaw25.FixupThreads', WHERE WHAT IT READS IS OF BULK AT MOST 1048576: true; the input reads as it did. -/
def fixupThreadsUptoRow : OpenClaim := { program := "ytimciiaajlfkoaa", sum := "f5b76f89e9a89d6c417c9c2830c936230381d9ed5da47ff4e544a2689b080be0", func := "hansom/hansomlaw25.FixupThreads", spec := "fixupThreads", apart := false, narrowed := true }
def FixupThreadsUptoSaid : Prop := fixupThreadsUptoRow.holds Try.pinned (OpenSpec.upto fixupThreadsSpec)

/-- 'hansomlaw25.FixupSorted', WHERE WHAT IT READS IS OF BULK AT MOST 1048576: true; the input reads as it did. -/
def fixupSortedUptoRow : OpenClaim := { program := "ytimciiaajlfkoaa", sum := "f5b76f89e9a89d6c417c9c2830c936230381d9ed5da47ff4e544a2689b080be0", func := "hansom/hansomlaw25.FixupSorted", spec := "fixupSorted", unfollowed := true, recurses := true, apart := false, narrowed := true }
def FixupSortedUptoSaid : Prop := fixupSortedUptoRow.holds Try.pinned (OpenSpec.upto fixupSortedSpec)

end Rows
end Go.Proofs.Ytimciiaajlfkoaa
