/-
  No cell of these rows narrows 'for every input' (looked for: loops, veiled, ifaces, maps, wideKeys, modest, calm, conditions, laid).
  DERIVED. THE GIVEN ROWS OF THIS SEAT. 2 by the template 'for every input the law returns true; each argument reads behind the call as it read before'; 0 by the template 'total and deterministic' (their statements: YtnadbokhcmbcaaaTotals.lean).
  GIVEN WITH THE SEED: the statements are not yours to turn. If you find one false, say at which input.
  Laid BY PROGRAM, IN A SANDBOX (cutbox-rows.mjs): the forced cells as the released guide's own fill.sh prints them over the translation d665278699642fb7… (all of the seat's roots in one cut). By AI agents, Wed Nov 11 2026. No macro, syntax, notation, axiom, sorry.
-/
import Derived.Test.YtnadbokhcmbcaaaChecked
import GoSem.Claim
import GoSem.ClaimJoined
import GoSem.ClaimMapViews
import Derived.JoinedTies
import Derived.KernelRfl
namespace Go.Proofs.Ytnadbokhcmbcaaa
/- THE CELL 'sum', in the pinned program and in every row, IS THE sha256 OF THE DUMP (.gsa) THAT YtnadbokhcmbcaaaProg.lean LOADS. Nothing in Lean hashes anything: it is a label: what it is worth is what the hold of that sum in a sandbox is worth. -/
noncomputable def Try.pinned : Pinned := { name := "ytnadbokhcmbcaaa", sum := "d665278699642fb736353856361d95ae0cbb6e0c8e7cff75c72bc61ec3e53738", checked := Try.checked }
namespace Rows
def none {H : Type} : Left H := { results := [], args := [] }

/-- 'flashcachelaw20.AdmitCheck': WHATEVER THE INPUT: true; the input reads as it did. -/
def admitCheckSpec : ChangeSpec := { name := "admitCheck", fn := fun _ => fun
  | [d] => { results := [.lit (.bool true)], args := [d] }
  | _ => none }
def admitCheckRow : OpenClaim := { program := "ytnadbokhcmbcaaa", sum := "d665278699642fb736353856361d95ae0cbb6e0c8e7cff75c72bc61ec3e53738", func := "flashcache/flashcachelaw20.AdmitCheck", spec := "admitCheck", apart := false }
def AdmitCheckSaid : Prop := admitCheckRow.holds Try.pinned (OpenSpec.ofChange admitCheckSpec)

/-- ITS FALSE NEIGHBOUR: 'it returns false'. Refute it at one input. -/
def admitCheckWrong : ChangeSpec := { name := "admitCheck", fn := fun _ => fun
  | [d] => { results := [.lit (.bool false)], args := [d] }
  | _ => none }
def AdmitCheckWrongFalsely : Prop := admitCheckRow.holds Try.pinned (OpenSpec.ofChange admitCheckWrong)

/-- 'flashcachelaw20.AdmitRule': WHATEVER THE INPUT: true; the input reads as it did. -/
def admitRuleSpec : ChangeSpec := { name := "admitRule", fn := fun _ => fun
  | [d1, d2, d3] => { results := [.lit (.bool true)], args := [d1, d2, d3] }
  | _ => none }
def admitRuleRow : OpenClaim := { program := "ytnadbokhcmbcaaa", sum := "d665278699642fb736353856361d95ae0cbb6e0c8e7cff75c72bc61ec3e53738", func := "flashcache/flashcachelaw20.AdmitRule", spec := "admitRule", apart := false }
def AdmitRuleSaid : Prop := admitRuleRow.holds Try.pinned (OpenSpec.ofChange admitRuleSpec)

/-- ITS FALSE NEIGHBOUR: 'it returns false'. Refute it at one input. -/
def admitRuleWrong : ChangeSpec := { name := "admitRule", fn := fun _ => fun
  | [d1, d2, d3] => { results := [.lit (.bool false)], args := [d1, d2, d3] }
  | _ => none }
def AdmitRuleWrongFalsely : Prop := admitRuleRow.holds Try.pinned (OpenSpec.ofChange admitRuleWrong)

/- THE SECOND FORM. 'bulk': how many values and letters a reading holds, each counted each time it is reached (what is shared counts as often as it is met; a slice's spare places count too). A statement '..UptoSaid' is the law's where the arguments, and the package variables that the reading takes, are together of bulk at most 1048576: NARROWER than '..Said'. Prove '..Said' where nothing that the law and all that it calls make is longer than what came in: it says more and counts as full. Else prove '..UptoSaid'. A law counts once. -/
mutual
def uptoBulk {H : Type} : DataW H → Nat
  | .lit (.string bytes) => bytes.length + 1
  | .lit _ => 1
  | .nil => 1
  | .ptr d => uptoBulk d + 1
  | .slice elems spare => uptoBulkAll elems + uptoBulkAll spare + 1
  | .agg parts => uptoBulkAll parts + 1
  | .iface _ d => uptoBulk d + 1
  | .map entries => uptoBulkEntries entries + 1
  | .held _ => 1
def uptoBulkAll {H : Type} : List (DataW H) → Nat
  | [] => 0
  | d :: r => uptoBulk d + uptoBulkAll r
def uptoBulkEntries {H : Type} : List (Lit × DataW H) → Nat
  | [] => 0
  | x :: r => uptoBulkEntry x + uptoBulkEntries r
def uptoBulkEntry {H : Type} : Lit × DataW H → Nat
  | (.string bytes, d) => bytes.length + uptoBulk d + 1
  | (_, d) => uptoBulk d + 1
 end
def uptoSmall : (H : Type) → List (DataW H) → Bool := fun _ ds => decide (uptoBulkAll ds ≤ 1048576)
def OpenSpec.upto (s : _root_.Go.ChangeSpec) : _root_.Go.OpenSpec := { _root_.Go.OpenSpec.ofChange s with cond := some uptoSmall }

/-- 'flashcachelaw20.AdmitCheck', WHERE WHAT IT READS IS OF BULK AT MOST 1048576: true; the input reads as it did. -/
def admitCheckUptoRow : OpenClaim := { program := "ytnadbokhcmbcaaa", sum := "d665278699642fb736353856361d95ae0cbb6e0c8e7cff75c72bc61ec3e53738", func := "flashcache/flashcachelaw20.AdmitCheck", spec := "admitCheck", apart := false, narrowed := true }
def AdmitCheckUptoSaid : Prop := admitCheckUptoRow.holds Try.pinned (OpenSpec.upto admitCheckSpec)

/-- 'flashcachelaw20.AdmitRule', WHERE WHAT IT READS IS OF BULK AT MOST 1048576: true; the input reads as it did. -/
def admitRuleUptoRow : OpenClaim := { program := "ytnadbokhcmbcaaa", sum := "d665278699642fb736353856361d95ae0cbb6e0c8e7cff75c72bc61ec3e53738", func := "flashcache/flashcachelaw20.AdmitRule", spec := "admitRule", apart := false, narrowed := true }
def AdmitRuleUptoSaid : Prop := admitRuleUptoRow.holds Try.pinned (OpenSpec.upto admitRuleSpec)

end Rows
end Go.Proofs.Ytnadbokhcmbcaaa
