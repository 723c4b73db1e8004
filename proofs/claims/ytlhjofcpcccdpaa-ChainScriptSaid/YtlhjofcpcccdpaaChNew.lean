/-
  The walks of New, and of the calls on no chain.
-/
import Derived.Test.YtlhjofcpcccdpaaChWords
import Derived.Test.YtlhjofcpcccdpaaStrClone
set_option maxRecDepth 100000
namespace Go.Proofs.Ytlhjofcpcccdpaa
open Go.RowKit Go.Maps
theorem chnew_any (M : Nat) (w : World) : Calls Try.prog 6 #[] w fun e w' => e = .returned (.pointer (some ⟨w.heap.size, 0, none⟩)) ∧ Below w.heap.size w w' ∧ Chn M w' (fun k => k = w.heap.size) w.heap.size (fun _ => []) := by
  go_enter Try.func6, Try.ntmps6
  go_wp2_with fail
  go_ret
  exact ⟨rfl, (Below.refl _ w).alloc (Nat.le_refl _) _, none, rfl, heap_alloc_new w _, ⟨fun _ => List.Pairwise.nil, fun _ => Nat.zero_le _, fun _ _ h => (by cases h)⟩, .inl ⟨rfl, fun _ => rfl⟩⟩
theorem niladd_any (s o : Int) (k : ByteArray) (w : World) : Calls Try.prog 7 #[.pointer none, .int .i64 s, .int .i64 o, .string k] w fun e w' => e = .returned (.tuple #[]) ∧ w' = w := by
  go_enter Try.func7, Try.ntmps7
  go_wp2_with fail
  (try simp only [Exit.inBlock, Exit.then]); refine bodyPost_ret (results_none rfl _ _ _) rfl ?_
  exact ⟨rfl, rfl⟩
theorem nilrem_any (s o : Int) (w : World) : Calls Try.prog 9 #[.pointer none, .int .i64 s, .int .i64 o] w fun e w' => e = .returned (.bool false) ∧ w' = w := by
  go_enter Try.func9, Try.ntmps9
  go_wp2_with fail
  go_ret
  exact ⟨rfl, rfl⟩
theorem nilitems_any (s : Int) (w : World) : Calls Try.prog 14 #[.pointer none, .int .i64 s] w fun e w' => e = .returned (.slice none 0 0) ∧ w' = w := by
  go_enter Try.func14, Try.ntmps14
  go_wp2_with fail
  go_ret
  exact ⟨rfl, rfl⟩
theorem nildrop_any (s : Int) (w : World) : Calls Try.prog 12 #[.pointer none, .int .i64 s] w fun e w' => e = .returned (.slice none 0 0) ∧ w' = w := by
  go_enter Try.func12, Try.ntmps12
  go_wp2_with fail
  go_ret
  exact ⟨rfl, rfl⟩
theorem nilseqs_any (w : World) : Calls Try.prog 16 #[.pointer none] w fun e w' => e = .returned (.slice none 0 0) ∧ w' = w := by
  go_enter Try.func16, Try.ntmps16
  go_wp2_with fail
  go_ret
  exact ⟨rfl, rfl⟩
end Go.Proofs.Ytlhjofcpcccdpaa
