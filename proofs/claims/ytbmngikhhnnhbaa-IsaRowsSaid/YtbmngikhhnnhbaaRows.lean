/-
  No cell of these rows narrows 'for every input' (looked for: loops, veiled, ifaces, maps, wideKeys, modest, calm, conditions, laid).
  DERIVED. THE GIVEN ROWS OF THIS SEAT. 3 by the template 'for every input the law returns true; each argument reads behind the call as it read before'; 0 by the template 'total and deterministic' (their statements: YtbmngikhhnnhbaaTotals.lean).
  GIVEN WITH THE SEED: the statements are not yours to turn. If you find one false, say at which input.
  Laid BY PROGRAM, IN A SANDBOX (cutbox-rows.mjs): the forced cells as the released guide's own fill.sh prints them over the translation 595d3818a0fdfddb… (all of the seat's roots in one cut). By AI agents, Wed Nov 11 2026. No macro, syntax, notation, axiom, sorry.
-/
import Derived.Test.YtbmngikhhnnhbaaChecked
import GoSem.Claim
import GoSem.ClaimJoined
import GoSem.ClaimMapViews
import Derived.JoinedTies
import Derived.KernelRfl
namespace Go.Proofs.Ytbmngikhhnnhbaa
/- THE CELL 'sum', in the pinned program and in every row, IS THE sha256 OF THE DUMP (.gsa) THAT YtbmngikhhnnhbaaProg.lean LOADS. Nothing in Lean hashes anything: it is a label: what it is worth is what the hold of that sum in a sandbox is worth. -/
noncomputable def Try.pinned : Pinned := { name := "ytbmngikhhnnhbaa", sum := "595d3818a0fdfddb8119633bf94328028fd3705c0edde16071fd6c15daf9c2b2", checked := Try.checked }
namespace Rows
def none {H : Type} : Left H := { results := [], args := [] }

/-- 'hansomlaw04.IsaRows': WHATEVER THE INPUT: true; the input reads as it did. -/
def isaRowsSpec : ChangeSpec := { name := "isaRows", fn := fun _ => fun
  | [d1, d2] => { results := [.lit (.bool true)], args := [d1, d2] }
  | _ => none }
def isaRowsRow : OpenClaim := { program := "ytbmngikhhnnhbaa", sum := "595d3818a0fdfddb8119633bf94328028fd3705c0edde16071fd6c15daf9c2b2", func := "hansom/hansomlaw04.IsaRows", spec := "isaRows", apart := false }
def IsaRowsSaid : Prop := isaRowsRow.holds Try.pinned (OpenSpec.ofChange isaRowsSpec)

/-- ITS FALSE NEIGHBOUR: 'it returns false'. Refute it at one input. -/
def isaRowsWrong : ChangeSpec := { name := "isaRows", fn := fun _ => fun
  | [d1, d2] => { results := [.lit (.bool false)], args := [d1, d2] }
  | _ => none }
def IsaRowsWrongFalsely : Prop := isaRowsRow.holds Try.pinned (OpenSpec.ofChange isaRowsWrong)

/-- 'hansomlaw04.IsaKinds': WHATEVER THE INPUT: true; the input reads as it did. -/
def isaKindsSpec : ChangeSpec := { name := "isaKinds", fn := fun _ => fun
  | [d1, d2, d3] => { results := [.lit (.bool true)], args := [d1, d2, d3] }
  | _ => none }
def isaKindsRow : OpenClaim := { program := "ytbmngikhhnnhbaa", sum := "595d3818a0fdfddb8119633bf94328028fd3705c0edde16071fd6c15daf9c2b2", func := "hansom/hansomlaw04.IsaKinds", spec := "isaKinds", apart := false }
def IsaKindsSaid : Prop := isaKindsRow.holds Try.pinned (OpenSpec.ofChange isaKindsSpec)

/-- ITS FALSE NEIGHBOUR: 'it returns false'. Refute it at one input. -/
def isaKindsWrong : ChangeSpec := { name := "isaKinds", fn := fun _ => fun
  | [d1, d2, d3] => { results := [.lit (.bool false)], args := [d1, d2, d3] }
  | _ => none }
def IsaKindsWrongFalsely : Prop := isaKindsRow.holds Try.pinned (OpenSpec.ofChange isaKindsWrong)

/-- 'hansomlaw04.IsaAll': WHATEVER THE INPUT: true; the input reads as it did. -/
def isaAllSpec : ChangeSpec := { name := "isaAll", fn := fun _ => fun
  | [d] => { results := [.lit (.bool true)], args := [d] }
  | _ => none }
def isaAllRow : OpenClaim := { program := "ytbmngikhhnnhbaa", sum := "595d3818a0fdfddb8119633bf94328028fd3705c0edde16071fd6c15daf9c2b2", func := "hansom/hansomlaw04.IsaAll", spec := "isaAll", apart := false }
def IsaAllSaid : Prop := isaAllRow.holds Try.pinned (OpenSpec.ofChange isaAllSpec)

/-- ITS FALSE NEIGHBOUR: 'it returns false'. Refute it at one input. -/
def isaAllWrong : ChangeSpec := { name := "isaAll", fn := fun _ => fun
  | [d] => { results := [.lit (.bool false)], args := [d] }
  | _ => none }
def IsaAllWrongFalsely : Prop := isaAllRow.holds Try.pinned (OpenSpec.ofChange isaAllWrong)

/- THE SECOND FORM. 'bulk': how many values and letters a reading holds, each counted each time it is reached (what is shared counts as often as it is met; a slice's spare places count too). A statement '..UptoSaid' is the law's where the arguments, and the package variables that the reading takes, are together of bulk at most 1048576: NARROWER than '..Said'. Prove '..Said' where nothing that the law and all that it calls make is longer than what came in: it says more and counts as full. Else prove '..UptoSaid'. A law counts once. -/
mutual
def uptoBulk {H : Type} : DataW H → Nat
  | .lit (.string bytes) => bytes.length + 1
  | .lit _ => 1
  | .nil => 1
  | .ptr d => uptoBulk d + 1
  | .slice elems spare => uptoBulkAll elems + uptoBulkAll spare + 1
  | .agg parts => uptoBulkAll parts + 1
  | .iface _ d => uptoBulk d + 1
  | .map entries => uptoBulkEntries entries + 1
  | .held _ => 1
def uptoBulkAll {H : Type} : List (DataW H) → Nat
  | [] => 0
  | d :: r => uptoBulk d + uptoBulkAll r
def uptoBulkEntries {H : Type} : List (Lit × DataW H) → Nat
  | [] => 0
  | x :: r => uptoBulkEntry x + uptoBulkEntries r
def uptoBulkEntry {H : Type} : Lit × DataW H → Nat
  | (.string bytes, d) => bytes.length + uptoBulk d + 1
  | (_, d) => uptoBulk d + 1
 end
def uptoSmall : (H : Type) → List (DataW H) → Bool := fun _ ds => decide (uptoBulkAll ds ≤ 1048576)
def OpenSpec.upto (s : _root_.Go.ChangeSpec) : _root_.Go.OpenSpec := { _root_.Go.OpenSpec.ofChange s with cond := some uptoSmall }

/-- 'hansomlaw04.IsaRows', WHERE WHAT IT READS IS OF BULK AT MOST 1048576: true; the input reads as it did. -/
def isaRowsUptoRow : OpenClaim := { program := "ytbmngikhhnnhbaa", sum := "595d3818a0fdfddb8119633bf94328028fd3705c0edde16071fd6c15daf9c2b2", func := "hansom/hansomlaw04.IsaRows", spec := "isaRows", apart := false, narrowed := true }
def IsaRowsUptoSaid : Prop := isaRowsUptoRow.holds Try.pinned (OpenSpec.upto isaRowsSpec)

/-- 'hansomlaw04.IsaKinds', WHERE WHAT IT READS IS OF BULK AT MOST 1048576: true; the input reads as it did. -/
def isaKindsUptoRow : OpenClaim := { program := "ytbmngikhhnnhbaa", sum := "595d3818a0fdfddb8119633bf94328028fd3705c0edde16071fd6c15daf9c2b2", func := "hansom/hansomlaw04.IsaKinds", spec := "isaKinds", apart := false, narrowed := true }
def IsaKindsUptoSaid : Prop := isaKindsUptoRow.holds Try.pinned (OpenSpec.upto isaKindsSpec)

/-- 'hansomlaw04.IsaAll', WHERE WHAT IT READS IS OF BULK AT MOST 1048576: true; the input reads as it did. -/
def isaAllUptoRow : OpenClaim := { program := "ytbmngikhhnnhbaa", sum := "595d3818a0fdfddb8119633bf94328028fd3705c0edde16071fd6c15daf9c2b2", func := "hansom/hansomlaw04.IsaAll", spec := "isaAll", apart := false, narrowed := true }
def IsaAllUptoSaid : Prop := isaAllUptoRow.holds Try.pinned (OpenSpec.upto isaAllSpec)

end Rows
end Go.Proofs.Ytbmngikhhnnhbaa
