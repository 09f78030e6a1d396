/-
  No cell of these rows narrows 'for every input' (looked for: loops, veiled, ifaces, maps, wideKeys, modest, calm, conditions, laid).
  DERIVED. THE GIVEN ROWS OF THIS SEAT. 3 by the template 'for every input the law returns true; each argument reads behind the call as it read before'; 0 by the template 'total and deterministic' (their statements: YtmiakniilimghaaTotals.lean).
  GIVEN WITH THE SEED: the statements are not yours to turn. If you find one false, say at which input.
  Laid BY PROGRAM, IN A SANDBOX (cutbox-rows.mjs): the forced cells as the released guide's own fill.sh prints them over the translation 5562fc2636013f39… (all of the seat's roots in one cut). By AI agents, Wed Nov 11 2026. No macro, syntax, notation, axiom, sorry.
-/
import Derived.Test.YtmiakniilimghaaChecked
import GoSem.Claim
import GoSem.ClaimJoined
import GoSem.ClaimMapViews
import Derived.JoinedTies
import Derived.KernelRfl
namespace Go.Proofs.Ytmiakniilimghaa
/- THE CELL 'sum', in the pinned program and in every row, IS THE sha256 OF THE DUMP (.gsa) THAT YtmiakniilimghaaProg.lean LOADS. Nothing in Lean hashes anything: it is a label: what it is worth is what the hold of that sum in a sandbox is worth. -/
noncomputable def Try.pinned : Pinned := { name := "ytmiakniilimghaa", sum := "5562fc2636013f3919dbc5d34c7be37fb41b9b69e795216925404533f21cdfe4", checked := Try.checked }
namespace Rows
def none {H : Type} : Left H := { results := [], args := [] }

/-- 'hansomlaw22.PubsGiven': WHATEVER THE INPUT: true; the input reads as it did. -/
def pubsGivenSpec : ChangeSpec := { name := "pubsGiven", fn := fun _ => fun
  | [d1, d2] => { results := [.lit (.bool true)], args := [d1, d2] }
  | _ => none }
def pubsGivenRow : OpenClaim := { program := "ytmiakniilimghaa", sum := "5562fc2636013f3919dbc5d34c7be37fb41b9b69e795216925404533f21cdfe4", func := "hansom/hansomlaw22.PubsGiven", spec := "pubsGiven", unfollowed := true, recurses := true, apart := false }
def PubsGivenSaid : Prop := pubsGivenRow.holds Try.pinned (OpenSpec.ofChange pubsGivenSpec)

/-- ITS FALSE NEIGHBOUR: 'it returns false'. Refute it at one input. -/
def pubsGivenWrong : ChangeSpec := { name := "pubsGiven", fn := fun _ => fun
  | [d1, d2] => { results := [.lit (.bool false)], args := [d1, d2] }
  | _ => none }
def PubsGivenWrongFalsely : Prop := pubsGivenRow.holds Try.pinned (OpenSpec.ofChange pubsGivenWrong)

/-- 'hansomlaw22.PubsTaken': WHATEVER THE INPUT: true; the input reads as it did. -/
def pubsTakenSpec : ChangeSpec := { name := "pubsTaken", fn := fun _ => fun
  | [d1, d2] => { results := [.lit (.bool true)], args := [d1, d2] }
  | _ => none }
def pubsTakenRow : OpenClaim := { program := "ytmiakniilimghaa", sum := "5562fc2636013f3919dbc5d34c7be37fb41b9b69e795216925404533f21cdfe4", func := "hansom/hansomlaw22.PubsTaken", spec := "pubsTaken", unfollowed := true, recurses := true, apart := false }
def PubsTakenSaid : Prop := pubsTakenRow.holds Try.pinned (OpenSpec.ofChange pubsTakenSpec)

/-- ITS FALSE NEIGHBOUR: 'it returns false'. Refute it at one input. -/
def pubsTakenWrong : ChangeSpec := { name := "pubsTaken", fn := fun _ => fun
  | [d1, d2] => { results := [.lit (.bool false)], args := [d1, d2] }
  | _ => none }
def PubsTakenWrongFalsely : Prop := pubsTakenRow.holds Try.pinned (OpenSpec.ofChange pubsTakenWrong)

/-- 'hansomlaw22.PubsMade': WHATEVER THE INPUT: true; the input reads as it did. -/
def pubsMadeSpec : ChangeSpec := { name := "pubsMade", fn := fun _ => fun
  | [d1, d2] => { results := [.lit (.bool true)], args := [d1, d2] }
  | _ => none }
def pubsMadeRow : OpenClaim := { program := "ytmiakniilimghaa", sum := "5562fc2636013f3919dbc5d34c7be37fb41b9b69e795216925404533f21cdfe4", func := "hansom/hansomlaw22.PubsMade", spec := "pubsMade", unfollowed := true, recurses := true, apart := false }
def PubsMadeSaid : Prop := pubsMadeRow.holds Try.pinned (OpenSpec.ofChange pubsMadeSpec)

/-- ITS FALSE NEIGHBOUR: 'it returns false'. Refute it at one input. -/
def pubsMadeWrong : ChangeSpec := { name := "pubsMade", fn := fun _ => fun
  | [d1, d2] => { results := [.lit (.bool false)], args := [d1, d2] }
  | _ => none }
def PubsMadeWrongFalsely : Prop := pubsMadeRow.holds Try.pinned (OpenSpec.ofChange pubsMadeWrong)

/- THE SECOND FORM. 'bulk': how many values and letters a reading holds, each counted each time it is reached (what is shared counts as often as it is met; a slice's spare places count too). A statement '..UptoSaid' is the law's where the arguments, and the package variables that the reading takes, are together of bulk at most 1048576: NARROWER than '..Said'. Prove '..Said' where nothing that the law and all that it calls make is longer than what came in: it says more and counts as full. Else prove '..UptoSaid'. A law counts once. -/
mutual
def uptoBulk {H : Type} : DataW H → Nat
  | .lit (.string bytes) => bytes.length + 1
  | .lit _ => 1
  | .nil => 1
  | .ptr d => uptoBulk d + 1
  | .slice elems spare => uptoBulkAll elems + uptoBulkAll spare + 1
  | .agg parts => uptoBulkAll parts + 1
  | .iface _ d => uptoBulk d + 1
  | .map entries => uptoBulkEntries entries + 1
  | .held _ => 1
def uptoBulkAll {H : Type} : List (DataW H) → Nat
  | [] => 0
  | d :: r => uptoBulk d + uptoBulkAll r
def uptoBulkEntries {H : Type} : List (Lit × DataW H) → Nat
  | [] => 0
  | x :: r => uptoBulkEntry x + uptoBulkEntries r
def uptoBulkEntry {H : Type} : Lit × DataW H → Nat
  | (.string bytes, d) => bytes.length + uptoBulk d + 1
  | (_, d) => uptoBulk d + 1
 end
def uptoSmall : (H : Type) → List (DataW H) → Bool := fun _ ds => decide (uptoBulkAll ds ≤ 1048576)
def OpenSpec.upto (s : _root_.Go.ChangeSpec) : _root_.Go.OpenSpec := { _root_.Go.OpenSpec.ofChange s with cond := some uptoSmall }

/-- 'hansomlaw22.PubsGiven', WHERE WHAT IT READS IS OF BULK AT MOST 1048576: true; the input reads as it did. -/
def pubsGivenUptoRow : OpenClaim := { program := "ytmiakniilimghaa", sum := "5562fc2636013f3919dbc5d34c7be37fb41b9b69e795216925404533f21cdfe4", func := "hansom/hansomlaw22.PubsGiven", spec := "pubsGiven", unfollowed := true, recurses := true, apart := false, narrowed := true }
def PubsGivenUptoSaid : Prop := pubsGivenUptoRow.holds Try.pinned (OpenSpec.upto pubsGivenSpec)

/-- 'hansomlaw22.PubsTaken', WHERE WHAT IT READS IS OF BULK AT MOST 1048576: true; the input reads as it did. -/
def pubsTakenUptoRow : OpenClaim := { program := "ytmiakniilimghaa", sum := "5562fc2636013f3919dbc5d34c7be37fb41b9b69e795216925404533f21cdfe4", func := "hansom/hansomlaw22.PubsTaken", spec := "pubsTaken", unfollowed := true, recurses := true, apart := false, narrowed := true }
def PubsTakenUptoSaid : Prop := pubsTakenUptoRow.holds Try.pinned (OpenSpec.upto pubsTakenSpec)

/-- 'hansomlaw22.PubsMade', WHERE WHAT IT READS IS OF BULK AT MOST 1048576: true; the input reads as it did. -/
def pubsMadeUptoRow : OpenClaim := { program := "ytmiakniilimghaa", sum := "5562fc2636013f3919dbc5d34c7be37fb41b9b69e795216925404533f21cdfe4", func := "hansom/hansomlaw22.PubsMade", spec := "pubsMade", unfollowed := true, recurses := true, apart := false, narrowed := true }
def PubsMadeUptoSaid : Prop := pubsMadeUptoRow.holds Try.pinned (OpenSpec.upto pubsMadeSpec)

end Rows
end Go.Proofs.Ytmiakniilimghaa
