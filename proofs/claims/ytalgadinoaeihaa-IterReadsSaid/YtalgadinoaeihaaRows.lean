/-
  NARROWER THAN 'FOR EVERY INPUT', by the rows' own cells (each row's printed sentence says how): IterSpreads: loops · IterReads: loops.
  DERIVED. THE GIVEN ROWS OF THIS SEAT. 3 by the template 'for every input the law returns true; each argument reads behind the call as it read before'; 0 by the template 'total and deterministic' (their statements: YtalgadinoaeihaaTotals.lean).
  GIVEN WITH THE SEED: the statements are not yours to turn. If you find one false, say at which input.
  Laid BY PROGRAM, IN A SANDBOX (cutbox-rows.mjs): the forced cells as the released guide's own fill.sh prints them over the translation 1f5e0fdbb77e3da0… (all of the seat's roots in one cut). By AI agents, Wed Nov 11 2026. No macro, syntax, notation, axiom, sorry.
-/
import Derived.Test.YtalgadinoaeihaaChecked
import GoSem.Claim
import GoSem.ClaimJoined
import GoSem.ClaimMapViews
import Derived.JoinedTies
import Derived.KernelRfl
namespace Go.Proofs.Ytalgadinoaeihaa
/- THE CELL 'sum', in the pinned program and in every row, IS THE sha256 OF THE DUMP (.gsa) THAT YtalgadinoaeihaaProg.lean LOADS. Nothing in Lean hashes anything: it is a label: what it is worth is what the hold of that sum in a sandbox is worth. -/
noncomputable def Try.pinned : Pinned := { name := "ytalgadinoaeihaa", sum := "1f5e0fdbb77e3da02ade852aae3f9f850cc66e7a7cac93b70a5ea65d05389810", checked := Try.checked }
namespace Rows
def none {H : Type} : Left H := { results := [], args := [] }

/-- 'hansomlaw24.IterSpreads': WHATEVER THE INPUT: true; the input reads as it did. -/
def iterSpreadsSpec : ChangeSpec := { name := "iterSpreads", fn := fun _ => fun
  | [d1, d2] => { results := [.lit (.bool true)], args := [d1, d2] }
  | _ => none }
def iterSpreadsRow : OpenClaim := { program := "ytalgadinoaeihaa", sum := "1f5e0fdbb77e3da02ade852aae3f9f850cc66e7a7cac93b70a5ea65d05389810", func := "hansom/hansomlaw24.IterSpreads", spec := "iterSpreads", recurses := true, loops := true, apart := false }
def IterSpreadsSaid : Prop := iterSpreadsRow.holds Try.pinned (OpenSpec.ofChange iterSpreadsSpec)

/-- ITS FALSE NEIGHBOUR: 'it returns false'. Refute it at one input. -/
def iterSpreadsWrong : ChangeSpec := { name := "iterSpreads", fn := fun _ => fun
  | [d1, d2] => { results := [.lit (.bool false)], args := [d1, d2] }
  | _ => none }
def IterSpreadsWrongFalsely : Prop := iterSpreadsRow.holds Try.pinned (OpenSpec.ofChange iterSpreadsWrong)

/-- 'hansomlaw24.IterReads': WHATEVER THE INPUT: true; the input reads as it did. -/
def iterReadsSpec : ChangeSpec := { name := "iterReads", fn := fun _ => fun
  | [d1, d2, d3] => { results := [.lit (.bool true)], args := [d1, d2, d3] }
  | _ => none }
def iterReadsRow : OpenClaim := { program := "ytalgadinoaeihaa", sum := "1f5e0fdbb77e3da02ade852aae3f9f850cc66e7a7cac93b70a5ea65d05389810", func := "hansom/hansomlaw24.IterReads", spec := "iterReads", recurses := true, loops := true, apart := false }
def IterReadsSaid : Prop := iterReadsRow.holds Try.pinned (OpenSpec.ofChange iterReadsSpec)

/-- ITS FALSE NEIGHBOUR: 'it returns false'. Refute it at one input. -/
def iterReadsWrong : ChangeSpec := { name := "iterReads", fn := fun _ => fun
  | [d1, d2, d3] => { results := [.lit (.bool false)], args := [d1, d2, d3] }
  | _ => none }
def IterReadsWrongFalsely : Prop := iterReadsRow.holds Try.pinned (OpenSpec.ofChange iterReadsWrong)

/-- 'hansomlaw24.IterMost': WHATEVER THE INPUT: true; the input reads as it did. -/
def iterMostSpec : ChangeSpec := { name := "iterMost", fn := fun _ => fun
  | [d1, d2] => { results := [.lit (.bool true)], args := [d1, d2] }
  | _ => none }
def iterMostRow : OpenClaim := { program := "ytalgadinoaeihaa", sum := "1f5e0fdbb77e3da02ade852aae3f9f850cc66e7a7cac93b70a5ea65d05389810", func := "hansom/hansomlaw24.IterMost", spec := "iterMost", recurses := true, apart := false }
def IterMostSaid : Prop := iterMostRow.holds Try.pinned (OpenSpec.ofChange iterMostSpec)

/-- ITS FALSE NEIGHBOUR: 'it returns false'. Refute it at one input. -/
def iterMostWrong : ChangeSpec := { name := "iterMost", fn := fun _ => fun
  | [d1, d2] => { results := [.lit (.bool false)], args := [d1, d2] }
  | _ => none }
def IterMostWrongFalsely : Prop := iterMostRow.holds Try.pinned (OpenSpec.ofChange iterMostWrong)

/- THE SECOND FORM. 'bulk': how many values and letters a reading holds, each counted each time it is reached (what is shared counts as often as it is met; a slice's spare places count too). A statement '..UptoSaid' is the law's where the arguments, and the package variables that the reading takes, are together of bulk at most 1048576: NARROWER than '..Said'. Prove '..Said' where nothing that the law and all that it calls make is longer than what came in: it says more and counts as full. Else prove '..UptoSaid'. A law counts once. -/
mutual
def uptoBulk {H : Type} : DataW H → Nat
  | .lit (.string bytes) => bytes.length + 1
  | .lit _ => 1
  | .nil => 1
  | .ptr d => uptoBulk d + 1
  | .slice elems spare => uptoBulkAll elems + uptoBulkAll spare + 1
  | .agg parts => uptoBulkAll parts + 1
  | .iface _ d => uptoBulk d + 1
  | .map entries => uptoBulkEntries entries + 1
  | .held _ => 1
def uptoBulkAll {H : Type} : List (DataW H) → Nat
  | [] => 0
  | d :: r => uptoBulk d + uptoBulkAll r
def uptoBulkEntries {H : Type} : List (Lit × DataW H) → Nat
  | [] => 0
  | x :: r => uptoBulkEntry x + uptoBulkEntries r
def uptoBulkEntry {H : Type} : Lit × DataW H → Nat
  | (.string bytes, d) => bytes.length + uptoBulk d + 1
  | (_, d) => uptoBulk d + 1
 end
def uptoSmall : (H : Type) → List (DataW H) → Bool := fun _ ds => decide (uptoBulkAll ds ≤ 1048576)
def OpenSpec.upto (s : _root_.Go.ChangeSpec) : _root_.Go.OpenSpec := { _root_.Go.OpenSpec.ofChange s with cond := some uptoSmall }

/-- 'hansomlaw24.IterSpreads', WHERE WHAT IT READS IS OF BULK AT MOST 1048576: true; the input reads as it did. -/
def iterSpreadsUptoRow : OpenClaim := { program := "ytalgadinoaeihaa", sum := "1f5e0fdbb77e3da02ade852aae3f9f850cc66e7a7cac93b70a5ea65d05389810", func := "hansom/hansomlaw24.IterSpreads", spec := "iterSpreads", recurses := true, loops := true, apart := false, narrowed := true }
def IterSpreadsUptoSaid : Prop := iterSpreadsUptoRow.holds Try.pinned (OpenSpec.upto iterSpreadsSpec)

/-- 'hansomlaw24.IterReads', WHERE WHAT IT READS IS OF BULK AT MOST 1048576: true; the input reads as it did. -/
def iterReadsUptoRow : OpenClaim := { program := "ytalgadinoaeihaa", sum := "1f5e0fdbb77e3da02ade852aae3f9f850cc66e7a7cac93b70a5ea65d05389810", func := "hansom/hansomlaw24.IterReads", spec := "iterReads", recurses := true, loops := true, apart := false, narrowed := true }
def IterReadsUptoSaid : Prop := iterReadsUptoRow.holds Try.pinned (OpenSpec.upto iterReadsSpec)

/-- 'hansomlaw24.IterMost', WHERE WHAT IT READS IS OF BULK AT MOST 1048576: true; the input reads as it did. -/
def iterMostUptoRow : OpenClaim := { program := "ytalgadinoaeihaa", sum := "1f5e0fdbb77e3da02ade852aae3f9f850cc66e7a7cac93b70a5ea65d05389810", func := "hansom/hansomlaw24.IterMost", spec := "iterMost", recurses := true, apart := false, narrowed := true }
def IterMostUptoSaid : Prop := iterMostUptoRow.holds Try.pinned (OpenSpec.upto iterMostSpec)

end Rows
end Go.Proofs.Ytalgadinoaeihaa
