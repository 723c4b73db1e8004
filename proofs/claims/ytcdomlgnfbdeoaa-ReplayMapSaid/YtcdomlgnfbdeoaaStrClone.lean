/-
  strings.Clone, at whatever string.
-/
import Derived.Test.YtcdomlgnfbdeoaaBase
import Derived.Test.YtcdomlgnfbdeoaaSrt
set_option maxRecDepth 100000
namespace Go.Proofs.Ytcdomlgnfbdeoaa
open Go.RowKit
theorem strclone_any (s : ByteArray) (hs : s.size ≤ 1048576) (w : World) : Calls Try.prog 35 #[.string s] w fun e w' => e = .returned (.string s) ∧ Below w.heap.size w w' := by
  have C := Lib.hid (Try.sclone_laid s w (by omega))
  go_enter Try.func35, Try.ntmps35
  go_wp2_with fail
  refine C.out.mono ?_
  rintro e w' ⟨rfl, hb⟩
  have HB := Lib.hid hb
  clear hb
  go_wp2_with fail
  go_ret
  exact ⟨rfl, HB.out⟩
end Go.Proofs.Ytcdomlgnfbdeoaa
