/-
  The walk of record.Decode.
-/
import Derived.Test.YtnadbokhcmbcaaaDoorRecParse2
import Derived.Test.YtnadbokhcmbcaaaDoorBytesEq
namespace Go.Proofs.YtnadbokhcmbcaaaDoor
open Go.RowKit

/-- Nothing was decoded. -/
def NoRec (w : World) (e : Ending) (w' : World) : Prop := e = .returned (.tuple #[.agg #[.int .i64 0, .slice none 0 0, .slice none 0 0, .int .i64 0], .int .i64 0, .bool false]) ∧ Below w.heap.size w w'
/-- The record that the head tells, checked by its parts' lengths. -/
theorem rec_check (v : Int) (l : List Nat) (h : Fits v l) : Rc.check v (Rc.rec v l) = Rc.chk v (Rc.kd v l : Int) (Rc.kl v l) (Rc.vl v l) (Rc.xp v l : Int) := by
  unfold Rc.check Rc.rec
  simp only
  rw [Rc.sub_length _ _ _ (by have := h.2; omega), Rc.sub_length _ _ _ (by have := h.2; omega)]
/-- What a decoded record leaves: its key and its value in rows of their own. -/
def GotRec (w : World) (v : Int) (l : List Nat) (e : Ending) (w' : World) : Prop :=
  ∃ A1 c1 A2 c2, e = .returned (.tuple #[.agg #[.int .i64 (Rc.kd v l : Int), .slice A1 (Rc.kl v l) c1, .slice A2 (Rc.vl v l) c2, .int .i64 (Rc.xp v l : Int)], .int .i64 ((16 + Rc.kl v l + Rc.vl v l : Nat) : Int), .bool true]) ∧ SlIs A1 (Rc.kl v l) c1 ∧ SlIs A2 (Rc.vl v l) c2 ∧
    BsIn w' w.heap.size w'.heap.size A1 (Rc.sub l 16 (Rc.kl v l)) ∧ BsIn w' w.heap.size w'.heap.size A2 (Rc.sub l (16 + Rc.kl v l) (Rc.vl v l)) ∧ Below w.heap.size w w'
end Go.Proofs.YtnadbokhcmbcaaaDoor
