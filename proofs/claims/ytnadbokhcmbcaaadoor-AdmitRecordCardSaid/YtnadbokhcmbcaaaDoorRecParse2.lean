/-
  The walk of record's parse.
-/
import Derived.Test.YtnadbokhcmbcaaaDoorRecParse
import Derived.Test.YtnadbokhcmbcaaaDoorRecEncode
import Derived.BigRegion
import Derived.RegionTactic
namespace Go.Proofs.YtnadbokhcmbcaaaDoor
open Go.RowKit

theorem head16 (v : Int) (l : List Nat) : Rc.kl v (l.take 16) = Rc.kl v l ∧ Rc.vl v (l.take 16) = Rc.vl v l ∧ Rc.kd v (l.take 16) = Rc.kd v l ∧ Rc.xp v (l.take 16) = Rc.xp v l := by
  obtain ⟨h1, h2⟩ := Rc.lengths_take v l 16 (Nat.le_refl _)
  refine ⟨h1, h2, ?_, ?_⟩
  · unfold Rc.kd
    rw [Rc.getD_take' _ _ _ (by omega), Rc.getD_take' _ _ _ (by omega)]
  · unfold Rc.xp
    rw [Rc.sub_take _ _ _ _ (by omega), Rc.sub_take _ _ _ _ (by omega)]
theorem kl_lt (v : Int) {l : List Nat} (h : ∀ x ∈ l, x < 256) : Rc.kl v l < 256 := by
  unfold Rc.kl
  split <;> exact getD_lt h _
theorem sub_le (l : List Nat) (i n : Nat) : (Rc.sub l i n).length ≤ n := by unfold Rc.sub; rw [List.length_take]; omega
theorem pow4 : (256 : Nat) ^ 4 = 4294967296 := rfl
theorem vl_lt (v : Int) {l : List Nat} (h : ∀ x ∈ l, x < 256) : Rc.vl v l < 4294967296 := by
  unfold Rc.vl
  split
  · have h1 := Wire.num_lt _ (sub_lt h 4 4)
    have h2 : (256 : Nat) ^ (Rc.sub l 4 4).length ≤ 256 ^ 4 := Nat.pow_le_pow_right (by decide) (sub_le l 4 4)
    rw [pow4] at h2; omega
  · have h1 := Wire.num_lt _ (sub_lt h 3 3)
    have h2 : (256 : Nat) ^ (Rc.sub l 3 3).length ≤ 256 ^ 4 := Nat.pow_le_pow_right (by decide) (by have := sub_le l 3 3; omega)
    rw [pow4] at h2; omega
/-- Is there room for what the head says? -/
def Fits (v : Int) (l : List Nat) : Prop := 16 ≤ l.length ∧ 16 + Rc.kl v l + Rc.vl v l ≤ l.length
/-- What parse hands back of bytes that are long enough. -/
def Parsed (w : World) (B : Nat) (v : Int) (l : List Nat) (e : Ending) (w' : World) : Prop :=
  ∃ A1 c1 A2 c2, e = .returned (.tuple #[.agg #[.int .i64 (Rc.kd v l : Int), .slice A1 (Rc.kl v l) c1, .slice A2 (Rc.vl v l) c2, .int .i64 (Rc.xp v l : Int)], .bool true]) ∧ SlIs A1 (Rc.kl v l) c1 ∧ SlIs A2 (Rc.vl v l) c2 ∧ Bs w' B A1 (Rc.sub l 16 (Rc.kl v l)) ∧ Bs w' B A2 (Rc.sub l (16 + Rc.kl v l) (Rc.vl v l)) ∧ Below w.heap.size w w'
end Go.Proofs.YtnadbokhcmbcaaaDoor
