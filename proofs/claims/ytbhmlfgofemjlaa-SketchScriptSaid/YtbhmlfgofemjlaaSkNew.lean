/-
  New sketches.
-/
import Derived.Test.YtbhmlfgofemjlaaSkMem
set_option maxRecDepth 100000
namespace Go.Proofs.Ytbhmlfgofemjlaa
open Go.RowKit
theorem sk_zero : (Try.prog.info? 41).map (fun i => (i.zero, i.size)) = some (some (.agg (skc .u8 Sk.new).toArray), 257) := by kernel_rfl
theorem refsk_zero : (Try.prog.info? 30).map (fun i => (i.zero, i.size)) = some (some (.agg (skc .i64 Sk.new).toArray), 257) := by kernel_rfl
theorem SkIn.new (t : TypeId) (kd : IntKind) (w : World) : SkIn t kd (w.alloc (.cells (skc kd Sk.new).toArray t (0, 0))) w.heap.size Sk.new := ⟨heap_alloc_last w _, Sk.ok_new.len, Sk.ok_new.le⟩
set_option maxHeartbeats 400000 in
theorem sknew_any (w : World) : Calls Try.prog 6 #[] w fun e w' => e = .returned (.pointer (some ⟨w.heap.size, 0, none⟩)) ∧ w' = w.alloc (.cells (skc .u8 Sk.new).toArray 41 (0, 0)) := by
  have hz := (zero_of_info sk_zero).1
  have hs := (zero_of_info sk_zero).2
  generalize hC : (skc .u8 Sk.new).toArray = C at *
  clear hC
  go_enter Try.func6, Try.ntmps6
  go_wp2
  go_ret
  exact ⟨rfl, rfl⟩
end Go.Proofs.Ytbhmlfgofemjlaa
