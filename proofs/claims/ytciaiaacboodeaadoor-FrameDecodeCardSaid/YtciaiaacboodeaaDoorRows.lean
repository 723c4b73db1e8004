/-
  NARROWER THAN 'FOR EVERY INPUT', by the rows' own cells (each row's printed sentence says how): RecordDecode: laid · FrameEncode: laid · FrameDecode: laid · FrameOther: laid · FrameTorn: laid.
  DERIVED. THE GIVEN ROWS OF THIS SEAT. 5 by the template 'for every input the law returns true; each argument reads behind the call as it read before'; 0 by the template 'total and deterministic' (their statements: YtciaiaacboodeaaDoorTotals.lean).
  GIVEN WITH THE SEED: the statements are not yours to turn. If you find one false, say at which input.
  Laid BY PROGRAM, IN A SANDBOX (cutbox-rows.mjs): the forced cells as the released guide's own fill.sh prints them over the translation 60a6f157f48f19a4… (all of the seat's roots in one cut). By AI agents, Wed Nov 11 2026. No macro, syntax, notation, axiom, sorry.
-/
import Derived.Test.YtciaiaacboodeaaDoorChecked
import GoSem.Claim
import GoSem.ClaimJoined
import GoSem.ClaimMapViews
import Derived.JoinedTies
import Derived.KernelRfl
namespace Go.Proofs.YtciaiaacboodeaaDoor
/- THE CELL 'sum', in the pinned program and in every row, IS THE sha256 OF THE DUMP (.gsa) THAT YtciaiaacboodeaaDoorProg.lean LOADS. Nothing in Lean hashes anything: it is a label: what it is worth is what the hold of that sum in a sandbox is worth. -/
noncomputable def Tryd.pinned : Pinned := { name := "ytciaiaacboodeaadoor", sum := "60a6f157f48f19a42bbf59b59126ca33fac481ee6af5ec9e869f2305ea55932c", checked := Tryd.checked }
namespace Rows
def none {H : Type} : Left H := { results := [], args := [] }

/- WHAT THE LISTED PACKAGE-LEVEL VARIABLES READ AS WHEN THE CALL BEGINS. Each datum BY PROGRAM (the guide's laid-datum.mjs) off the statement by which the dump's own 'gosem.cut.vars' lays the variable. In a bare row this is a premise. The card (YtciaiaacboodeaaDoorCards.lean) ties it to the program's text. -/
def laid_flashcache_crc_fourSteps {H : Type} : DataW H := .agg [.lit (.int .u32 0), .lit (.int .u32 274646895), .lit (.int .u32 549293790), .lit (.int .u32 820201905), .lit (.int .u32 1098587580), .lit (.int .u32 1361435347), .lit (.int .u32 1640403810), .lit (.int .u32 1905808397), .lit (.int .u32 2197175160), .lit (.int .u32 2460548119), .lit (.int .u32 2722870694), .lit (.int .u32 2987750089), .lit (.int .u32 3280807620), .lit (.int .u32 3553878443), .lit (.int .u32 3811616794), .lit (.int .u32 4084100981)]

/-- 'flashcachelaw05.RecordDecode': WHATEVER THE INPUT: true; the input reads as it did. -/
def recordDecodeSpec : ChangeSpec := { name := "recordDecode", fn := fun _ => fun
  | [d1, d2] => { results := [.lit (.bool true)], args := [d1, d2] }
  | _ => none }
def recordDecodeRow : OpenClaim := { program := "ytciaiaacboodeaadoor", sum := "60a6f157f48f19a42bbf59b59126ca33fac481ee6af5ec9e869f2305ea55932c", func := "flashcache/flashcachelaw05.RecordDecode", spec := "recordDecode", unfollowed := true, recurses := true, named := ["flashcache/crc.fourSteps"], apart := false, laid := [("flashcache/crc.fourSteps", laid_flashcache_crc_fourSteps)] }
def RecordDecodeSaid : Prop := recordDecodeRow.holds Tryd.pinned (OpenSpec.ofChange recordDecodeSpec)

/-- ITS FALSE NEIGHBOUR: 'it returns false'. Refute it at one input. -/
def recordDecodeWrong : ChangeSpec := { name := "recordDecode", fn := fun _ => fun
  | [d1, d2] => { results := [.lit (.bool false)], args := [d1, d2] }
  | _ => none }
def RecordDecodeWrongFalsely : Prop := recordDecodeRow.holds Tryd.pinned (OpenSpec.ofChange recordDecodeWrong)

/-- 'flashcachelaw06.FrameEncode': WHATEVER THE INPUT: true; the input reads as it did. -/
def frameEncodeSpec : ChangeSpec := { name := "frameEncode", fn := fun _ => fun
  | [d1, d2] => { results := [.lit (.bool true)], args := [d1, d2] }
  | _ => none }
def frameEncodeRow : OpenClaim := { program := "ytciaiaacboodeaadoor", sum := "60a6f157f48f19a42bbf59b59126ca33fac481ee6af5ec9e869f2305ea55932c", func := "flashcache/flashcachelaw06.FrameEncode", spec := "frameEncode", named := ["flashcache/crc.fourSteps"], apart := false, laid := [("flashcache/crc.fourSteps", laid_flashcache_crc_fourSteps)] }
def FrameEncodeSaid : Prop := frameEncodeRow.holds Tryd.pinned (OpenSpec.ofChange frameEncodeSpec)

/-- ITS FALSE NEIGHBOUR: 'it returns false'. Refute it at one input. -/
def frameEncodeWrong : ChangeSpec := { name := "frameEncode", fn := fun _ => fun
  | [d1, d2] => { results := [.lit (.bool false)], args := [d1, d2] }
  | _ => none }
def FrameEncodeWrongFalsely : Prop := frameEncodeRow.holds Tryd.pinned (OpenSpec.ofChange frameEncodeWrong)

/-- 'flashcachelaw06.FrameDecode': WHATEVER THE INPUT: true; the input reads as it did. -/
def frameDecodeSpec : ChangeSpec := { name := "frameDecode", fn := fun _ => fun
  | [d1, d2] => { results := [.lit (.bool true)], args := [d1, d2] }
  | _ => none }
def frameDecodeRow : OpenClaim := { program := "ytciaiaacboodeaadoor", sum := "60a6f157f48f19a42bbf59b59126ca33fac481ee6af5ec9e869f2305ea55932c", func := "flashcache/flashcachelaw06.FrameDecode", spec := "frameDecode", named := ["flashcache/crc.fourSteps"], apart := false, laid := [("flashcache/crc.fourSteps", laid_flashcache_crc_fourSteps)] }
def FrameDecodeSaid : Prop := frameDecodeRow.holds Tryd.pinned (OpenSpec.ofChange frameDecodeSpec)

/-- ITS FALSE NEIGHBOUR: 'it returns false'. Refute it at one input. -/
def frameDecodeWrong : ChangeSpec := { name := "frameDecode", fn := fun _ => fun
  | [d1, d2] => { results := [.lit (.bool false)], args := [d1, d2] }
  | _ => none }
def FrameDecodeWrongFalsely : Prop := frameDecodeRow.holds Tryd.pinned (OpenSpec.ofChange frameDecodeWrong)

/-- 'flashcachelaw06.FrameOther': WHATEVER THE INPUT: true; the input reads as it did. -/
def frameOtherSpec : ChangeSpec := { name := "frameOther", fn := fun _ => fun
  | [d1, d2, d3] => { results := [.lit (.bool true)], args := [d1, d2, d3] }
  | _ => none }
def frameOtherRow : OpenClaim := { program := "ytciaiaacboodeaadoor", sum := "60a6f157f48f19a42bbf59b59126ca33fac481ee6af5ec9e869f2305ea55932c", func := "flashcache/flashcachelaw06.FrameOther", spec := "frameOther", named := ["flashcache/crc.fourSteps"], apart := false, laid := [("flashcache/crc.fourSteps", laid_flashcache_crc_fourSteps)] }
def FrameOtherSaid : Prop := frameOtherRow.holds Tryd.pinned (OpenSpec.ofChange frameOtherSpec)

/-- ITS FALSE NEIGHBOUR: 'it returns false'. Refute it at one input. -/
def frameOtherWrong : ChangeSpec := { name := "frameOther", fn := fun _ => fun
  | [d1, d2, d3] => { results := [.lit (.bool false)], args := [d1, d2, d3] }
  | _ => none }
def FrameOtherWrongFalsely : Prop := frameOtherRow.holds Tryd.pinned (OpenSpec.ofChange frameOtherWrong)

/-- 'flashcachelaw06.FrameTorn': WHATEVER THE INPUT: true; the input reads as it did. -/
def frameTornSpec : ChangeSpec := { name := "frameTorn", fn := fun _ => fun
  | [d] => { results := [.lit (.bool true)], args := [d] }
  | _ => none }
def frameTornRow : OpenClaim := { program := "ytciaiaacboodeaadoor", sum := "60a6f157f48f19a42bbf59b59126ca33fac481ee6af5ec9e869f2305ea55932c", func := "flashcache/flashcachelaw06.FrameTorn", spec := "frameTorn", named := ["flashcache/crc.fourSteps"], apart := false, laid := [("flashcache/crc.fourSteps", laid_flashcache_crc_fourSteps)] }
def FrameTornSaid : Prop := frameTornRow.holds Tryd.pinned (OpenSpec.ofChange frameTornSpec)

/-- ITS FALSE NEIGHBOUR: 'it returns false'. Refute it at one input. -/
def frameTornWrong : ChangeSpec := { name := "frameTorn", fn := fun _ => fun
  | [d] => { results := [.lit (.bool false)], args := [d] }
  | _ => none }
def FrameTornWrongFalsely : Prop := frameTornRow.holds Tryd.pinned (OpenSpec.ofChange frameTornWrong)

/- THE SECOND FORM. 'bulk': how many values and letters a reading holds, each counted each time it is reached (what is shared counts as often as it is met; a slice's spare places count too). A statement '..UptoSaid' is the law's where the arguments, and the package variables that the reading takes, are together of bulk at most 1048576: NARROWER than '..Said'. Prove '..Said' where nothing that the law and all that it calls make is longer than what came in: it says more and counts as full. Else prove '..UptoSaid'. A law counts once. -/
mutual
def uptoBulk {H : Type} : DataW H → Nat
  | .lit (.string bytes) => bytes.length + 1
  | .lit _ => 1
  | .nil => 1
  | .ptr d => uptoBulk d + 1
  | .slice elems spare => uptoBulkAll elems + uptoBulkAll spare + 1
  | .agg parts => uptoBulkAll parts + 1
  | .iface _ d => uptoBulk d + 1
  | .map entries => uptoBulkEntries entries + 1
  | .held _ => 1
def uptoBulkAll {H : Type} : List (DataW H) → Nat
  | [] => 0
  | d :: r => uptoBulk d + uptoBulkAll r
def uptoBulkEntries {H : Type} : List (Lit × DataW H) → Nat
  | [] => 0
  | x :: r => uptoBulkEntry x + uptoBulkEntries r
def uptoBulkEntry {H : Type} : Lit × DataW H → Nat
  | (.string bytes, d) => bytes.length + uptoBulk d + 1
  | (_, d) => uptoBulk d + 1
 end
def uptoSmall : (H : Type) → List (DataW H) → Bool := fun _ ds => decide (uptoBulkAll ds ≤ 1048576)
def OpenSpec.upto (s : _root_.Go.ChangeSpec) : _root_.Go.OpenSpec := { _root_.Go.OpenSpec.ofChange s with cond := some uptoSmall }

/-- 'flashcachelaw05.RecordDecode', WHERE WHAT IT READS IS OF BULK AT MOST 1048576: true; the input reads as it did. -/
def recordDecodeUptoRow : OpenClaim := { program := "ytciaiaacboodeaadoor", sum := "60a6f157f48f19a42bbf59b59126ca33fac481ee6af5ec9e869f2305ea55932c", func := "flashcache/flashcachelaw05.RecordDecode", spec := "recordDecode", unfollowed := true, recurses := true, named := ["flashcache/crc.fourSteps"], apart := false, laid := [("flashcache/crc.fourSteps", laid_flashcache_crc_fourSteps)], narrowed := true }
def RecordDecodeUptoSaid : Prop := recordDecodeUptoRow.holds Tryd.pinned (OpenSpec.upto recordDecodeSpec)

/-- 'flashcachelaw06.FrameEncode', WHERE WHAT IT READS IS OF BULK AT MOST 1048576: true; the input reads as it did. -/
def frameEncodeUptoRow : OpenClaim := { program := "ytciaiaacboodeaadoor", sum := "60a6f157f48f19a42bbf59b59126ca33fac481ee6af5ec9e869f2305ea55932c", func := "flashcache/flashcachelaw06.FrameEncode", spec := "frameEncode", named := ["flashcache/crc.fourSteps"], apart := false, laid := [("flashcache/crc.fourSteps", laid_flashcache_crc_fourSteps)], narrowed := true }
def FrameEncodeUptoSaid : Prop := frameEncodeUptoRow.holds Tryd.pinned (OpenSpec.upto frameEncodeSpec)

/-- 'flashcachelaw06.FrameDecode', WHERE WHAT IT READS IS OF BULK AT MOST 1048576: true; the input reads as it did. -/
def frameDecodeUptoRow : OpenClaim := { program := "ytciaiaacboodeaadoor", sum := "60a6f157f48f19a42bbf59b59126ca33fac481ee6af5ec9e869f2305ea55932c", func := "flashcache/flashcachelaw06.FrameDecode", spec := "frameDecode", named := ["flashcache/crc.fourSteps"], apart := false, laid := [("flashcache/crc.fourSteps", laid_flashcache_crc_fourSteps)], narrowed := true }
def FrameDecodeUptoSaid : Prop := frameDecodeUptoRow.holds Tryd.pinned (OpenSpec.upto frameDecodeSpec)

/-- 'flashcachelaw06.FrameOther', WHERE WHAT IT READS IS OF BULK AT MOST 1048576: true; the input reads as it did. -/
def frameOtherUptoRow : OpenClaim := { program := "ytciaiaacboodeaadoor", sum := "60a6f157f48f19a42bbf59b59126ca33fac481ee6af5ec9e869f2305ea55932c", func := "flashcache/flashcachelaw06.FrameOther", spec := "frameOther", named := ["flashcache/crc.fourSteps"], apart := false, laid := [("flashcache/crc.fourSteps", laid_flashcache_crc_fourSteps)], narrowed := true }
def FrameOtherUptoSaid : Prop := frameOtherUptoRow.holds Tryd.pinned (OpenSpec.upto frameOtherSpec)

/-- 'flashcachelaw06.FrameTorn', WHERE WHAT IT READS IS OF BULK AT MOST 1048576: true; the input reads as it did. -/
def frameTornUptoRow : OpenClaim := { program := "ytciaiaacboodeaadoor", sum := "60a6f157f48f19a42bbf59b59126ca33fac481ee6af5ec9e869f2305ea55932c", func := "flashcache/flashcachelaw06.FrameTorn", spec := "frameTorn", named := ["flashcache/crc.fourSteps"], apart := false, laid := [("flashcache/crc.fourSteps", laid_flashcache_crc_fourSteps)], narrowed := true }
def FrameTornUptoSaid : Prop := frameTornUptoRow.holds Tryd.pinned (OpenSpec.upto frameTornSpec)

end Rows
end Go.Proofs.YtciaiaacboodeaaDoor
