/-
  Awake of the statements on records: the chapter's example.
-/
import Derived.Test.YtnadbokhcmbcaaaDoorRecUse
namespace Go.Proofs.YtnadbokhcmbcaaaDoor
open Go.RowKit
def rk : Rc.Rec := ⟨2, [107], [], 0⟩
theorem rk_ok : Rc.check 1 rk = 0 ∧ Rc.place 3 0 := by decide
theorem rk_len : (Rc.enc 1 3 0 rk).length = 17 := Rc.enc_length 1 3 0 rk
theorem rk_two : ∃ t, Rc.enc 1 3 0 rk = 161 :: 2 :: t := by
  have h := Rc.shape1 rk 3 0 []
  rw [List.append_nil] at h
  exact ⟨_, h⟩
theorem rk_lt : ∀ x ∈ Rc.enc 1 3 0 rk, x < 256 := Rc.enc_lt _ _ _ _ (by decide) (by decide)
theorem rk_good : Rc.good 1 3 0 (Rc.enc 1 3 0 rk ++ [9]) ∧ Rc.rec 1 (Rc.enc 1 3 0 rk ++ [9]) = rk := Rc.round 1 3 0 rk [9] rk_ok.1 rk_ok.2
theorem rk_parts : Rc.kd 1 (Rc.enc 1 3 0 rk ++ [9]) = 2 ∧ Rc.kl 1 (Rc.enc 1 3 0 rk ++ [9]) = 1 ∧ Rc.vl 1 (Rc.enc 1 3 0 rk ++ [9]) = 0 := by
  obtain ⟨h1, h2, h3⟩ := Rc.back 1 3 0 rk [9] rk_ok.1
  refine ⟨?_, h1, h2⟩
  have h4 := (rec_parts h3).1
  have h5 : rk.kind = 2 := rfl
  omega
end Go.Proofs.YtnadbokhcmbcaaaDoor
