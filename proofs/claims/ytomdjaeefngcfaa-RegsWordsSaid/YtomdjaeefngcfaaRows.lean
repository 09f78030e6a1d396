/-
  No cell of these rows narrows 'for every input' (looked for: loops, veiled, ifaces, maps, wideKeys, modest, calm, conditions, laid).
  DERIVED. THE GIVEN ROWS OF THIS SEAT. 2 by the template 'for every input the law returns true; each argument reads behind the call as it read before'; 0 by the template 'total and deterministic' (their statements: YtomdjaeefngcfaaTotals.lean).
  GIVEN WITH THE SEED: the statements are not yours to turn. If you find one false, say at which input.
  Laid BY PROGRAM, IN A SANDBOX (cutbox-rows.mjs): the forced cells as the released guide's own fill.sh prints them over the translation ddfb09f585518cd4… (all of the seat's roots in one cut). By AI agents, Wed Nov 11 2026. No macro, syntax, notation, axiom, sorry.
-/
import Derived.Test.YtomdjaeefngcfaaChecked
import GoSem.Claim
import GoSem.ClaimJoined
import GoSem.ClaimMapViews
import Derived.JoinedTies
import Derived.KernelRfl
namespace Go.Proofs.Ytomdjaeefngcfaa
/- THE CELL 'sum', in the pinned program and in every row, IS THE sha256 OF THE DUMP (.gsa) THAT YtomdjaeefngcfaaProg.lean LOADS. Nothing in Lean hashes anything: it is a label: what it is worth is what the hold of that sum in a sandbox is worth. -/
noncomputable def Try.pinned : Pinned := { name := "ytomdjaeefngcfaa", sum := "ddfb09f585518cd46fd10ef7c94804e24a0c9d3c7bd8f67923b37f2a83e4c5a1", checked := Try.checked }
namespace Rows
def none {H : Type} : Left H := { results := [], args := [] }

/-- 'hansomlaw03.RegsWords': WHATEVER THE INPUT: true; the input reads as it did. -/
def regsWordsSpec : ChangeSpec := { name := "regsWords", fn := fun _ => fun
  | [d1, d2, d3] => { results := [.lit (.bool true)], args := [d1, d2, d3] }
  | _ => none }
def regsWordsRow : OpenClaim := { program := "ytomdjaeefngcfaa", sum := "ddfb09f585518cd46fd10ef7c94804e24a0c9d3c7bd8f67923b37f2a83e4c5a1", func := "hansom/hansomlaw03.RegsWords", spec := "regsWords", apart := false }
def RegsWordsSaid : Prop := regsWordsRow.holds Try.pinned (OpenSpec.ofChange regsWordsSpec)

/-- ITS FALSE NEIGHBOUR: 'it returns false'. Refute it at one input. -/
def regsWordsWrong : ChangeSpec := { name := "regsWords", fn := fun _ => fun
  | [d1, d2, d3] => { results := [.lit (.bool false)], args := [d1, d2, d3] }
  | _ => none }
def RegsWordsWrongFalsely : Prop := regsWordsRow.holds Try.pinned (OpenSpec.ofChange regsWordsWrong)

/-- 'hansomlaw03.RegsBytes': WHATEVER THE INPUT: true; the input reads as it did. -/
def regsBytesSpec : ChangeSpec := { name := "regsBytes", fn := fun _ => fun
  | [d1, d2, d3] => { results := [.lit (.bool true)], args := [d1, d2, d3] }
  | _ => none }
def regsBytesRow : OpenClaim := { program := "ytomdjaeefngcfaa", sum := "ddfb09f585518cd46fd10ef7c94804e24a0c9d3c7bd8f67923b37f2a83e4c5a1", func := "hansom/hansomlaw03.RegsBytes", spec := "regsBytes", apart := false }
def RegsBytesSaid : Prop := regsBytesRow.holds Try.pinned (OpenSpec.ofChange regsBytesSpec)

/-- ITS FALSE NEIGHBOUR: 'it returns false'. Refute it at one input. -/
def regsBytesWrong : ChangeSpec := { name := "regsBytes", fn := fun _ => fun
  | [d1, d2, d3] => { results := [.lit (.bool false)], args := [d1, d2, d3] }
  | _ => none }
def RegsBytesWrongFalsely : Prop := regsBytesRow.holds Try.pinned (OpenSpec.ofChange regsBytesWrong)

/- THE SECOND FORM. 'bulk': how many values and letters a reading holds, each counted each time it is reached (what is shared counts as often as it is met; a slice's spare places count too). A statement '..UptoSaid' is the law's where the arguments, and the package variables that the reading takes, are together of bulk at most 1048576: NARROWER than '..Said'. Prove '..Said' where nothing that the law and all that it calls make is longer than what came in: it says more and counts as full. Else prove '..UptoSaid'. A law counts once. -/
mutual
def uptoBulk {H : Type} : DataW H → Nat
  | .lit (.string bytes) => bytes.length + 1
  | .lit _ => 1
  | .nil => 1
  | .ptr d => uptoBulk d + 1
  | .slice elems spare => uptoBulkAll elems + uptoBulkAll spare + 1
  | .agg parts => uptoBulkAll parts + 1
  | .iface _ d => uptoBulk d + 1
  | .map entries => uptoBulkEntries entries + 1
  | .held _ => 1
def uptoBulkAll {H : Type} : List (DataW H) → Nat
  | [] => 0
  | d :: r => uptoBulk d + uptoBulkAll r
def uptoBulkEntries {H : Type} : List (Lit × DataW H) → Nat
  | [] => 0
  | x :: r => uptoBulkEntry x + uptoBulkEntries r
def uptoBulkEntry {H : Type} : Lit × DataW H → Nat
  | (.string bytes, d) => bytes.length + uptoBulk d + 1
  | (_, d) => uptoBulk d + 1
 end
def uptoSmall : (H : Type) → List (DataW H) → Bool := fun _ ds => decide (uptoBulkAll ds ≤ 1048576)
def OpenSpec.upto (s : _root_.Go.ChangeSpec) : _root_.Go.OpenSpec := { _root_.Go.OpenSpec.ofChange s with cond := some uptoSmall }

/-- 'hansomlaw03.RegsWords', WHERE WHAT IT READS IS OF BULK AT MOST 1048576: true; the input reads as it did. -/
def regsWordsUptoRow : OpenClaim := { program := "ytomdjaeefngcfaa", sum := "ddfb09f585518cd46fd10ef7c94804e24a0c9d3c7bd8f67923b37f2a83e4c5a1", func := "hansom/hansomlaw03.RegsWords", spec := "regsWords", apart := false, narrowed := true }
def RegsWordsUptoSaid : Prop := regsWordsUptoRow.holds Try.pinned (OpenSpec.upto regsWordsSpec)

/-- 'hansomlaw03.RegsBytes', WHERE WHAT IT READS IS OF BULK AT MOST 1048576: true; the input reads as it did. -/
def regsBytesUptoRow : OpenClaim := { program := "ytomdjaeefngcfaa", sum := "ddfb09f585518cd46fd10ef7c94804e24a0c9d3c7bd8f67923b37f2a83e4c5a1", func := "hansom/hansomlaw03.RegsBytes", spec := "regsBytes", apart := false, narrowed := true }
def RegsBytesUptoSaid : Prop := regsBytesUptoRow.holds Try.pinned (OpenSpec.upto regsBytesSpec)

end Rows
end Go.Proofs.Ytomdjaeefngcfaa
