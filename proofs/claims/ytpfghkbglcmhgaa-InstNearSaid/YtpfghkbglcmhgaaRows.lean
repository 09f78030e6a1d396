/-
  No cell of these rows narrows 'for every input' (looked for: loops, veiled, ifaces, maps, wideKeys, modest, calm, conditions, laid).
  DERIVED. THE GIVEN ROWS OF THIS SEAT. 2 by the template 'for every input the law returns true; each argument reads behind the call as it read before'; 0 by the template 'total and deterministic' (their statements: YtpfghkbglcmhgaaTotals.lean).
  GIVEN WITH THE SEED: the statements are not yours to turn. If you find one false, say at which input.
  Laid BY PROGRAM, IN A SANDBOX (cutbox-rows.mjs): the forced cells as the released guide's own fill.sh prints them over the translation 463acb7885ab1959… (all of the seat's roots in one cut). By AI agents, Wed Nov 11 2026. No macro, syntax, notation, axiom, sorry.
-/
import Derived.Test.YtpfghkbglcmhgaaChecked
import GoSem.Claim
import GoSem.ClaimJoined
import GoSem.ClaimMapViews
import Derived.JoinedTies
import Derived.KernelRfl
namespace Go.Proofs.Ytpfghkbglcmhgaa
/- THE CELL 'sum', in the pinned program and in every row, IS THE sha256 OF THE DUMP (.gsa) THAT YtpfghkbglcmhgaaProg.lean LOADS. Nothing in Lean hashes anything: it is a label: what it is worth is what the hold of that sum in a sandbox is worth. -/
noncomputable def Try.pinned : Pinned := { name := "ytpfghkbglcmhgaa", sum := "463acb7885ab19596a676e3c7cec1b96afb764d356234631538a985d02d6d45f", checked := Try.checked }
namespace Rows
def none {H : Type} : Left H := { results := [], args := [] }

/-- 'hansomlaw05.InstMay': WHATEVER THE INPUT: true; the input reads as it did. -/
def instMaySpec : ChangeSpec := { name := "instMay", fn := fun _ => fun
  | [d1, d2] => { results := [.lit (.bool true)], args := [d1, d2] }
  | _ => none }
def instMayRow : OpenClaim := { program := "ytpfghkbglcmhgaa", sum := "463acb7885ab19596a676e3c7cec1b96afb764d356234631538a985d02d6d45f", func := "hansom/hansomlaw05.InstMay", spec := "instMay", apart := false }
def InstMaySaid : Prop := instMayRow.holds Try.pinned (OpenSpec.ofChange instMaySpec)

/-- ITS FALSE NEIGHBOUR: 'it returns false'. Refute it at one input. -/
def instMayWrong : ChangeSpec := { name := "instMay", fn := fun _ => fun
  | [d1, d2] => { results := [.lit (.bool false)], args := [d1, d2] }
  | _ => none }
def InstMayWrongFalsely : Prop := instMayRow.holds Try.pinned (OpenSpec.ofChange instMayWrong)

/-- 'hansomlaw05.InstNear': WHATEVER THE INPUT: true; the input reads as it did. -/
def instNearSpec : ChangeSpec := { name := "instNear", fn := fun _ => fun
  | [d] => { results := [.lit (.bool true)], args := [d] }
  | _ => none }
def instNearRow : OpenClaim := { program := "ytpfghkbglcmhgaa", sum := "463acb7885ab19596a676e3c7cec1b96afb764d356234631538a985d02d6d45f", func := "hansom/hansomlaw05.InstNear", spec := "instNear", apart := false }
def InstNearSaid : Prop := instNearRow.holds Try.pinned (OpenSpec.ofChange instNearSpec)

/-- ITS FALSE NEIGHBOUR: 'it returns false'. Refute it at one input. -/
def instNearWrong : ChangeSpec := { name := "instNear", fn := fun _ => fun
  | [d] => { results := [.lit (.bool false)], args := [d] }
  | _ => none }
def InstNearWrongFalsely : Prop := instNearRow.holds Try.pinned (OpenSpec.ofChange instNearWrong)

/- THE SECOND FORM. 'bulk': how many values and letters a reading holds, each counted each time it is reached (what is shared counts as often as it is met; a slice's spare places count too). A statement '..UptoSaid' is the law's where the arguments, and the package variables that the reading takes, are together of bulk at most 1048576: NARROWER than '..Said'. Prove '..Said' where nothing that the law and all that it calls make is longer than what came in: it says more and counts as full. Else prove '..UptoSaid'. A law counts once. -/
mutual
def uptoBulk {H : Type} : DataW H → Nat
  | .lit (.string bytes) => bytes.length + 1
  | .lit _ => 1
  | .nil => 1
  | .ptr d => uptoBulk d + 1
  | .slice elems spare => uptoBulkAll elems + uptoBulkAll spare + 1
  | .agg parts => uptoBulkAll parts + 1
  | .iface _ d => uptoBulk d + 1
  | .map entries => uptoBulkEntries entries + 1
  | .held _ => 1
def uptoBulkAll {H : Type} : List (DataW H) → Nat
  | [] => 0
  | d :: r => uptoBulk d + uptoBulkAll r
def uptoBulkEntries {H : Type} : List (Lit × DataW H) → Nat
  | [] => 0
  | x :: r => uptoBulkEntry x + uptoBulkEntries r
def uptoBulkEntry {H : Type} : Lit × DataW H → Nat
  | (.string bytes, d) => bytes.length + uptoBulk d + 1
  | (_, d) => uptoBulk d + 1
 end
def uptoSmall : (H : Type) → List (DataW H) → Bool := fun _ ds => decide (uptoBulkAll ds ≤ 1048576)
def OpenSpec.upto (s : _root_.Go.ChangeSpec) : _root_.Go.OpenSpec := { _root_.Go.OpenSpec.ofChange s with cond := some uptoSmall }

/-- 'hansomlaw05.InstMay', WHERE WHAT IT READS IS OF BULK AT MOST 1048576: true; the input reads as it did. -/
def instMayUptoRow : OpenClaim := { program := "ytpfghkbglcmhgaa", sum := "463acb7885ab19596a676e3c7cec1b96afb764d356234631538a985d02d6d45f", func := "hansom/hansomlaw05.InstMay", spec := "instMay", apart := false, narrowed := true }
def InstMayUptoSaid : Prop := instMayUptoRow.holds Try.pinned (OpenSpec.upto instMaySpec)

/-- 'hansomlaw05.InstNear', WHERE WHAT IT READS IS OF BULK AT MOST 1048576: true; the input reads as it did. -/
def instNearUptoRow : OpenClaim := { program := "ytpfghkbglcmhgaa", sum := "463acb7885ab19596a676e3c7cec1b96afb764d356234631538a985d02d6d45f", func := "hansom/hansomlaw05.InstNear", spec := "instNear", apart := false, narrowed := true }
def InstNearUptoSaid : Prop := instNearUptoRow.holds Try.pinned (OpenSpec.upto instNearSpec)

end Rows
end Go.Proofs.Ytpfghkbglcmhgaa
