/-
  NARROWER THAN 'FOR EVERY INPUT', by the rows' own cells (each row's printed sentence says how): SuperDecode: laid · PairLoad: laid · PairPublish: laid · PairAtomic: laid · PairTorn: laid.
  DERIVED. THE GIVEN ROWS OF THIS SEAT. 5 by the template 'for every input the law returns true; each argument reads behind the call as it read before'; 0 by the template 'total and deterministic' (their statements: YtcjnhemlkahgoaaDoorTotals.lean).
  GIVEN WITH THE SEED: the statements are not yours to turn. If you find one false, say at which input.
  Laid BY PROGRAM, IN A SANDBOX (cutbox-rows.mjs): the forced cells as the released guide's own fill.sh prints them over the translation 3c2c7d1b60050814… (all of the seat's roots in one cut). By AI agents, Wed Nov 11 2026. No macro, syntax, notation, axiom, sorry.
-/
import Derived.Test.YtcjnhemlkahgoaaDoorChecked
import GoSem.Claim
import GoSem.ClaimJoined
import GoSem.ClaimMapViews
import Derived.JoinedTies
import Derived.KernelRfl
namespace Go.Proofs.YtcjnhemlkahgoaaDoor
/- THE CELL 'sum', in the pinned program and in every row, IS THE sha256 OF THE DUMP (.gsa) THAT YtcjnhemlkahgoaaDoorProg.lean LOADS. Nothing in Lean hashes anything: it is a label: what it is worth is what the hold of that sum in a sandbox is worth. -/
noncomputable def Tryd.pinned : Pinned := { name := "ytcjnhemlkahgoaadoor", sum := "3c2c7d1b60050814a45b6dc392e2cc29aa4e141f7637b557e5e10cddc77d5d16", checked := Tryd.checked }
namespace Rows
def none {H : Type} : Left H := { results := [], args := [] }

/- WHAT THE LISTED PACKAGE-LEVEL VARIABLES READ AS WHEN THE CALL BEGINS. Each datum BY PROGRAM (the guide's laid-datum.mjs) off the statement by which the dump's own 'gosem.cut.vars' lays the variable. In a bare row this is a premise. The card (YtcjnhemlkahgoaaDoorCards.lean) ties it to the program's text. -/
def laid_flashcache_crc_fourSteps {H : Type} : DataW H := .agg [.lit (.int .u32 0), .lit (.int .u32 274646895), .lit (.int .u32 549293790), .lit (.int .u32 820201905), .lit (.int .u32 1098587580), .lit (.int .u32 1361435347), .lit (.int .u32 1640403810), .lit (.int .u32 1905808397), .lit (.int .u32 2197175160), .lit (.int .u32 2460548119), .lit (.int .u32 2722870694), .lit (.int .u32 2987750089), .lit (.int .u32 3280807620), .lit (.int .u32 3553878443), .lit (.int .u32 3811616794), .lit (.int .u32 4084100981)]

/-- 'flashcachelaw08.SuperDecode': WHATEVER THE INPUT: true; the input reads as it did. -/
def superDecodeSpec : ChangeSpec := { name := "superDecode", fn := fun _ => fun
  | [d1, d2, d3] => { results := [.lit (.bool true)], args := [d1, d2, d3] }
  | _ => none }
def superDecodeRow : OpenClaim := { program := "ytcjnhemlkahgoaadoor", sum := "3c2c7d1b60050814a45b6dc392e2cc29aa4e141f7637b557e5e10cddc77d5d16", func := "flashcache/flashcachelaw08.SuperDecode", spec := "superDecode", unfollowed := true, recurses := true, named := ["flashcache/crc.fourSteps"], apart := false, laid := [("flashcache/crc.fourSteps", laid_flashcache_crc_fourSteps)] }
def SuperDecodeSaid : Prop := superDecodeRow.holds Tryd.pinned (OpenSpec.ofChange superDecodeSpec)

/-- ITS FALSE NEIGHBOUR: 'it returns false'. Refute it at one input. -/
def superDecodeWrong : ChangeSpec := { name := "superDecode", fn := fun _ => fun
  | [d1, d2, d3] => { results := [.lit (.bool false)], args := [d1, d2, d3] }
  | _ => none }
def SuperDecodeWrongFalsely : Prop := superDecodeRow.holds Tryd.pinned (OpenSpec.ofChange superDecodeWrong)

/-- 'flashcachelaw09.PairLoad': WHATEVER THE INPUT: true; the input reads as it did. -/
def pairLoadSpec : ChangeSpec := { name := "pairLoad", fn := fun _ => fun
  | [d] => { results := [.lit (.bool true)], args := [d] }
  | _ => none }
def pairLoadRow : OpenClaim := { program := "ytcjnhemlkahgoaadoor", sum := "3c2c7d1b60050814a45b6dc392e2cc29aa4e141f7637b557e5e10cddc77d5d16", func := "flashcache/flashcachelaw09.PairLoad", spec := "pairLoad", unfollowed := true, recurses := true, named := ["flashcache/crc.fourSteps"], apart := false, laid := [("flashcache/crc.fourSteps", laid_flashcache_crc_fourSteps)] }
def PairLoadSaid : Prop := pairLoadRow.holds Tryd.pinned (OpenSpec.ofChange pairLoadSpec)

/-- ITS FALSE NEIGHBOUR: 'it returns false'. Refute it at one input. -/
def pairLoadWrong : ChangeSpec := { name := "pairLoad", fn := fun _ => fun
  | [d] => { results := [.lit (.bool false)], args := [d] }
  | _ => none }
def PairLoadWrongFalsely : Prop := pairLoadRow.holds Tryd.pinned (OpenSpec.ofChange pairLoadWrong)

/-- 'flashcachelaw09.PairPublish': WHATEVER THE INPUT: true; the input reads as it did. -/
def pairPublishSpec : ChangeSpec := { name := "pairPublish", fn := fun _ => fun
  | [d1, d2] => { results := [.lit (.bool true)], args := [d1, d2] }
  | _ => none }
def pairPublishRow : OpenClaim := { program := "ytcjnhemlkahgoaadoor", sum := "3c2c7d1b60050814a45b6dc392e2cc29aa4e141f7637b557e5e10cddc77d5d16", func := "flashcache/flashcachelaw09.PairPublish", spec := "pairPublish", unfollowed := true, recurses := true, named := ["flashcache/crc.fourSteps"], apart := false, laid := [("flashcache/crc.fourSteps", laid_flashcache_crc_fourSteps)] }
def PairPublishSaid : Prop := pairPublishRow.holds Tryd.pinned (OpenSpec.ofChange pairPublishSpec)

/-- ITS FALSE NEIGHBOUR: 'it returns false'. Refute it at one input. -/
def pairPublishWrong : ChangeSpec := { name := "pairPublish", fn := fun _ => fun
  | [d1, d2] => { results := [.lit (.bool false)], args := [d1, d2] }
  | _ => none }
def PairPublishWrongFalsely : Prop := pairPublishRow.holds Tryd.pinned (OpenSpec.ofChange pairPublishWrong)

/-- 'flashcachelaw09.PairAtomic': WHATEVER THE INPUT: true; the input reads as it did. -/
def pairAtomicSpec : ChangeSpec := { name := "pairAtomic", fn := fun _ => fun
  | [d] => { results := [.lit (.bool true)], args := [d] }
  | _ => none }
def pairAtomicRow : OpenClaim := { program := "ytcjnhemlkahgoaadoor", sum := "3c2c7d1b60050814a45b6dc392e2cc29aa4e141f7637b557e5e10cddc77d5d16", func := "flashcache/flashcachelaw09.PairAtomic", spec := "pairAtomic", unfollowed := true, recurses := true, named := ["flashcache/crc.fourSteps"], apart := false, laid := [("flashcache/crc.fourSteps", laid_flashcache_crc_fourSteps)] }
def PairAtomicSaid : Prop := pairAtomicRow.holds Tryd.pinned (OpenSpec.ofChange pairAtomicSpec)

/-- ITS FALSE NEIGHBOUR: 'it returns false'. Refute it at one input. -/
def pairAtomicWrong : ChangeSpec := { name := "pairAtomic", fn := fun _ => fun
  | [d] => { results := [.lit (.bool false)], args := [d] }
  | _ => none }
def PairAtomicWrongFalsely : Prop := pairAtomicRow.holds Tryd.pinned (OpenSpec.ofChange pairAtomicWrong)

/-- 'flashcachelaw09.PairTorn': WHATEVER THE INPUT: true; the input reads as it did. -/
def pairTornSpec : ChangeSpec := { name := "pairTorn", fn := fun _ => fun
  | [d1, d2, d3] => { results := [.lit (.bool true)], args := [d1, d2, d3] }
  | _ => none }
def pairTornRow : OpenClaim := { program := "ytcjnhemlkahgoaadoor", sum := "3c2c7d1b60050814a45b6dc392e2cc29aa4e141f7637b557e5e10cddc77d5d16", func := "flashcache/flashcachelaw09.PairTorn", spec := "pairTorn", unfollowed := true, recurses := true, named := ["flashcache/crc.fourSteps"], apart := false, laid := [("flashcache/crc.fourSteps", laid_flashcache_crc_fourSteps)] }
def PairTornSaid : Prop := pairTornRow.holds Tryd.pinned (OpenSpec.ofChange pairTornSpec)

/-- ITS FALSE NEIGHBOUR: 'it returns false'. Refute it at one input. -/
def pairTornWrong : ChangeSpec := { name := "pairTorn", fn := fun _ => fun
  | [d1, d2, d3] => { results := [.lit (.bool false)], args := [d1, d2, d3] }
  | _ => none }
def PairTornWrongFalsely : Prop := pairTornRow.holds Tryd.pinned (OpenSpec.ofChange pairTornWrong)

/- THE SECOND FORM. 'bulk': how many values and letters a reading holds, each counted each time it is reached (what is shared counts as often as it is met; a slice's spare places count too). A statement '..UptoSaid' is the law's where the arguments, and the package variables that the reading takes, are together of bulk at most 1048576: NARROWER than '..Said'. Prove '..Said' where nothing that the law and all that it calls make is longer than what came in: it says more and counts as full. Else prove '..UptoSaid'. A law counts once. -/
mutual
def uptoBulk {H : Type} : DataW H → Nat
  | .lit (.string bytes) => bytes.length + 1
  | .lit _ => 1
  | .nil => 1
  | .ptr d => uptoBulk d + 1
  | .slice elems spare => uptoBulkAll elems + uptoBulkAll spare + 1
  | .agg parts => uptoBulkAll parts + 1
  | .iface _ d => uptoBulk d + 1
  | .map entries => uptoBulkEntries entries + 1
  | .held _ => 1
def uptoBulkAll {H : Type} : List (DataW H) → Nat
  | [] => 0
  | d :: r => uptoBulk d + uptoBulkAll r
def uptoBulkEntries {H : Type} : List (Lit × DataW H) → Nat
  | [] => 0
  | x :: r => uptoBulkEntry x + uptoBulkEntries r
def uptoBulkEntry {H : Type} : Lit × DataW H → Nat
  | (.string bytes, d) => bytes.length + uptoBulk d + 1
  | (_, d) => uptoBulk d + 1
 end
def uptoSmall : (H : Type) → List (DataW H) → Bool := fun _ ds => decide (uptoBulkAll ds ≤ 1048576)
def OpenSpec.upto (s : _root_.Go.ChangeSpec) : _root_.Go.OpenSpec := { _root_.Go.OpenSpec.ofChange s with cond := some uptoSmall }

/-- 'flashcachelaw08.SuperDecode', WHERE WHAT IT READS IS OF BULK AT MOST 1048576: true; the input reads as it did. -/
def superDecodeUptoRow : OpenClaim := { program := "ytcjnhemlkahgoaadoor", sum := "3c2c7d1b60050814a45b6dc392e2cc29aa4e141f7637b557e5e10cddc77d5d16", func := "flashcache/flashcachelaw08.SuperDecode", spec := "superDecode", unfollowed := true, recurses := true, named := ["flashcache/crc.fourSteps"], apart := false, laid := [("flashcache/crc.fourSteps", laid_flashcache_crc_fourSteps)], narrowed := true }
def SuperDecodeUptoSaid : Prop := superDecodeUptoRow.holds Tryd.pinned (OpenSpec.upto superDecodeSpec)

/-- 'flashcachelaw09.PairLoad', WHERE WHAT IT READS IS OF BULK AT MOST 1048576: true; the input reads as it did. -/
def pairLoadUptoRow : OpenClaim := { program := "ytcjnhemlkahgoaadoor", sum := "3c2c7d1b60050814a45b6dc392e2cc29aa4e141f7637b557e5e10cddc77d5d16", func := "flashcache/flashcachelaw09.PairLoad", spec := "pairLoad", unfollowed := true, recurses := true, named := ["flashcache/crc.fourSteps"], apart := false, laid := [("flashcache/crc.fourSteps", laid_flashcache_crc_fourSteps)], narrowed := true }
def PairLoadUptoSaid : Prop := pairLoadUptoRow.holds Tryd.pinned (OpenSpec.upto pairLoadSpec)

/-- 'flashcachelaw09.PairPublish', WHERE WHAT IT READS IS OF BULK AT MOST 1048576: true; the input reads as it did. -/
def pairPublishUptoRow : OpenClaim := { program := "ytcjnhemlkahgoaadoor", sum := "3c2c7d1b60050814a45b6dc392e2cc29aa4e141f7637b557e5e10cddc77d5d16", func := "flashcache/flashcachelaw09.PairPublish", spec := "pairPublish", unfollowed := true, recurses := true, named := ["flashcache/crc.fourSteps"], apart := false, laid := [("flashcache/crc.fourSteps", laid_flashcache_crc_fourSteps)], narrowed := true }
def PairPublishUptoSaid : Prop := pairPublishUptoRow.holds Tryd.pinned (OpenSpec.upto pairPublishSpec)

/-- 'flashcachelaw09.PairAtomic', WHERE WHAT IT READS IS OF BULK AT MOST 1048576: true; the input reads as it did. -/
def pairAtomicUptoRow : OpenClaim := { program := "ytcjnhemlkahgoaadoor", sum := "3c2c7d1b60050814a45b6dc392e2cc29aa4e141f7637b557e5e10cddc77d5d16", func := "flashcache/flashcachelaw09.PairAtomic", spec := "pairAtomic", unfollowed := true, recurses := true, named := ["flashcache/crc.fourSteps"], apart := false, laid := [("flashcache/crc.fourSteps", laid_flashcache_crc_fourSteps)], narrowed := true }
def PairAtomicUptoSaid : Prop := pairAtomicUptoRow.holds Tryd.pinned (OpenSpec.upto pairAtomicSpec)

/-- 'flashcachelaw09.PairTorn', WHERE WHAT IT READS IS OF BULK AT MOST 1048576: true; the input reads as it did. -/
def pairTornUptoRow : OpenClaim := { program := "ytcjnhemlkahgoaadoor", sum := "3c2c7d1b60050814a45b6dc392e2cc29aa4e141f7637b557e5e10cddc77d5d16", func := "flashcache/flashcachelaw09.PairTorn", spec := "pairTorn", unfollowed := true, recurses := true, named := ["flashcache/crc.fourSteps"], apart := false, laid := [("flashcache/crc.fourSteps", laid_flashcache_crc_fourSteps)], narrowed := true }
def PairTornUptoSaid : Prop := pairTornUptoRow.holds Tryd.pinned (OpenSpec.upto pairTornSpec)

end Rows
end Go.Proofs.YtcjnhemlkahgoaaDoor
