/-
  The walk of the reference's Encode.
-/
import Derived.Test.YtnadbokhcmbcaaaDoorRecCut
namespace Go.Proofs.YtnadbokhcmbcaaaDoor
open Go.RowKit
theorem head1 (kd xp : Nat) (key val : List Nat) (hk : kd ≤ 3) (hn : key.length ≤ 255) : Rc.head 1 ⟨(kd : Int), key, val, (xp : Int)⟩ = ([161, kd, key.length, 0] ++ Wire.be 4 val.length) ++ Wire.be 4 xp := by
  have e : Rc.head 1 ⟨(kd : Int), key, val, (xp : Int)⟩ = Rc.flat [(161, 1), (kd, 1), (key.length, 1), (0, 1), (val.length, 4), (xp, 4)] := rfl
  rw [e]
  simp only [Rc.flat, List.flatMap_cons, List.flatMap_nil, Rc.be_one]
  simp
  omega
theorem head2 (kd xp : Nat) (key val : List Nat) (hk : kd ≤ 3) (hn : key.length ≤ 255) : Rc.head 2 ⟨(kd : Int), key, val, (xp : Int)⟩ = (([162, key.length, 16 * kd] ++ Wire.be 3 val.length) ++ [0]) ++ Wire.be 5 xp := by
  have e : Rc.head 2 ⟨(kd : Int), key, val, (xp : Int)⟩ = Rc.flat [(162, 1), (key.length, 1), (16 * kd, 1), (val.length, 3), (0, 1), (xp, 5)] := rfl
  rw [e]
  simp only [Rc.flat, List.flatMap_cons, List.flatMap_nil, Rc.be_one]
  simp
  omega
end Go.Proofs.YtnadbokhcmbcaaaDoor
