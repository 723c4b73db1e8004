/-
  Words for the walks of Load: the newest superblock so far in a box.
-/
import Derived.Test.YtcjnhemlkahgoaaDoorSpMath
import Derived.Test.YtcjnhemlkahgoaaDoorSbDecode
namespace Go.Proofs.YtcjnhemlkahgoaaDoor
open Go.RowKit
/-- What Load returns. -/
def LoadIs (o : Option Sb.S) (w : World) (r : Ending) (w' : World) : Prop := (∃ s, o = some s ∧ HasSb w s r w') ∨ (o = none ∧ NoSb w r w')
/-- The box b holds the newest one so far; its layouts lie behind the block lo. -/
def BoxIs (lo b : Nat) (o : Option Sb.S) (A : Option Addr) (n c : Nat) (W : World) : Prop := W.heap[b]? = some (.cells #[.int .i64 (o.getD Sb.S0).gen, .int .i64 (o.getD Sb.S0).phase, .int .i64 (o.getD Sb.S0).mig, .int .i64 (o.getD Sb.S0).tail, .int .i64 (o.getD Sb.S0).now, .int .i64 (o.getD Sb.S0).t.id, .int .i64 (o.getD Sb.S0).t.ver, .int .i64 (o.getD Sb.S0).t.rs, .int .i64 (o.getD Sb.S0).t.reg, .int .i64 (o.getD Sb.S0).h.id, .int .i64 (o.getD Sb.S0).h.ver, .int .i64 (o.getD Sb.S0).h.rs, .int .i64 (o.getD Sb.S0).h.reg, .slice A n c] 27 (0, 0)) ∧ SbAt W W.heap.size (o.getD Sb.S0) A n c ∧ (∀ ad, A = some ad → lo < ad.block) ∧ (o = none → A = none ∧ n = 0 ∧ c = 0)
/-- At the head of a round: the result's box as it is, the newest one's box. -/
def LdAt (w : World) (o : Option Sb.S) (W : World) : Prop := Sd w w.heap.size (.cells #[.int .i64 0, .int .i64 0, .int .i64 0, .int .i64 0, .int .i64 0, .int .i64 0, .int .i64 0, .int .i64 0, .int .i64 0, .int .i64 0, .int .i64 0, .int .i64 0, .int .i64 0, .slice none 0 0] 27 (0, 0)) W ∧ ∃ A n c, BoxIs (w.heap.size + 1) (w.heap.size + 1) o A n c W
theorem SbAt.next {w w' : World} {s : Sb.S} {A : Option Addr} {n c : Nat} (h : SbAt w w.heap.size s A n c) (hb : Below w.heap.size w w') : SbAt w' w'.heap.size s A n c := (h.below hb (Nat.le_refl _)).own
theorem BoxIs.next {lo b : Nat} {o : Option Sb.S} {A : Option Addr} {n c : Nat} {W W' : World} (h : BoxIs lo b o A n c W) (hb : Below W.heap.size W W') : BoxIs lo b o A n c W' :=
  ⟨(hb.block _ (Array.getElem?_eq_some_iff.1 h.1).1).trans h.1, h.2.1.next hb, h.2.2⟩
theorem BoxIs.drew {lo b : Nat} {o : Option Sb.S} {A : Option Addr} {n c : Nat} {W : World} (h : BoxIs lo b o A n c W) : BoxIs lo b o A n c W.drew := h
theorem Sd.boxed {w W : World} {g : Nat} {o : Obj} (h : Sd w g o W) (o' : Obj) : Sd w g o (W.alloc o') := ⟨(heap_alloc_old _ _ (Array.getElem?_eq_some_iff.1 h.1).1).trans h.1, h.2.alloc h.2.size _⟩
theorem drew_row {w : World} {g : Nat} {o : Obj} (h : w.heap[g]? = some o) : w.drew.heap[g]? = some o := h
theorem SbAt.drawn1 {w : World} {s : Sb.S} {A : Option Addr} {n c : Nat} (h : SbAt w w.heap.size s A n c) : SbAt w.drew w.drew.heap.size s A n c := h
theorem SbAt.zero (w : World) : SbAt w w.heap.size Sb.S0 none 0 0 := ⟨sl_nil, rfl, Ls.nil⟩
theorem upto_take {x : Int} {l : List Nat} {o : Option Sb.S} {s : Sb.S} (h : Sb.good x l s) (hg : s.gen % 2 = x) (hn : (o.getD Sb.S0).gen < s.gen) : Sp.over o (Sp.cand x l) = some s := by
  rw [Sp.cand_some h hg]
  cases o with
  | none => rfl
  | some b => exact Sp.over_newer hn
theorem upto_other {x : Int} {l : List Nat} {o : Option Sb.S} {s : Sb.S} (h : Sb.good x l s) (hg : s.gen % 2 ≠ x) : Sp.over o (Sp.cand x l) = o := by
  rw [Sp.cand_none fun t ht => by rw [Sp.good_one ht h]; exact hg]
  cases o <;> rfl
theorem upto_elder {x : Int} {l : List Nat} {o : Option Sb.S} {s : Sb.S} (h : Sb.good x l s) (hn : ¬ (o.getD Sb.S0).gen < s.gen) : Sp.over o (Sp.cand x l) = o := by
  by_cases hg : s.gen % 2 = x
  · rw [Sp.cand_some h hg]
    cases o with
    | none => exact absurd (show (0 : Int) < s.gen by have := Sp.gen_pos h; omega) hn
    | some b => exact Sp.over_elder hn
  · exact upto_other h hg
theorem upto_no {x : Int} {l : List Nat} {o : Option Sb.S} (h : ¬ ∃ s, Sb.good x l s) : Sp.over o (Sp.cand x l) = o := by
  rw [Sp.cand_none fun t ht => absurd ⟨t, ht⟩ h]
  cases o <;> rfl
/-- What is found in the first k sectors. -/
noncomputable def Sp.upto (l0 l1 : List Nat) : Nat → Option Sb.S
  | 0 => none
  | 1 => Sp.cand 0 l0
  | _ => Sp.newest l0 l1
theorem Sp.upto_one (l0 l1 : List Nat) : Sp.upto l0 l1 1 = Sp.over (Sp.upto l0 l1 0) (Sp.cand 0 l0) := (Sp.over_none _).symm
theorem Sp.upto_two (l0 l1 : List Nat) : Sp.upto l0 l1 2 = Sp.over (Sp.upto l0 l1 1) (Sp.cand 1 l1) := rfl
theorem tmod_pos {a : Int} (h : 1 ≤ a) : a.tmod 2 = a % 2 := Int.tmod_eq_emod_of_nonneg (by omega)
/-- One box is stored over, the other one and what lies elsewhere stay. -/
theorem box_stored {w W : World} {o0 : Obj} {b : Nat} {A : Option Addr} {n c : Nat} {y0 y1 y2 y3 y4 y5 y6 y7 y8 y9 y10 y11 y12 y13 : Value} {s : Sb.S} (h : Sd w w.heap.size o0 W) (hb : W.heap[b]? = some (.cells #[y0, y1, y2, y3, y4, y5, y6, y7, y8, y9, y10, y11, y12, y13] 27 (0, 0))) (hlt : w.heap.size < b) (hat : SbAt W W.heap.size s A n c) (hfr : ∀ ad, A = some ad → b < ad.block) (W' : World) (hW : W' = ((((((((((((((W.setCell ⟨b, 0, none⟩ (.int .i64 s.gen)).setCell ⟨b, 1, none⟩ (.int .i64 s.phase)).setCell ⟨b, 2, none⟩ (.int .i64 s.mig)).setCell ⟨b, 3, none⟩ (.int .i64 s.tail)).setCell ⟨b, 4, none⟩ (.int .i64 s.now)).setCell ⟨b, 5, none⟩ (.int .i64 s.t.id)).setCell ⟨b, 6, none⟩ (.int .i64 s.t.ver)).setCell ⟨b, 7, none⟩ (.int .i64 s.t.rs)).setCell ⟨b, 8, none⟩ (.int .i64 s.t.reg)).setCell ⟨b, 9, none⟩ (.int .i64 s.h.id)).setCell ⟨b, 10, none⟩ (.int .i64 s.h.ver)).setCell ⟨b, 11, none⟩ (.int .i64 s.h.rs)).setCell ⟨b, 12, none⟩ (.int .i64 s.h.reg)).setCell ⟨b, 13, none⟩ (.slice A n c))) :
    Sd w w.heap.size o0 W' ∧ BoxIs b b (some s) A n c W' := by
  have hg := stored14_grown W b (.int .i64 s.gen) (.int .i64 s.phase) (.int .i64 s.mig) (.int .i64 s.tail) (.int .i64 s.now) (.int .i64 s.t.id) (.int .i64 s.t.ver) (.int .i64 s.t.rs) (.int .i64 s.t.reg) (.int .i64 s.h.id) (.int .i64 s.h.ver) (.int .i64 s.h.rs) (.int .i64 s.h.reg) (.slice A n c)
  rw [← hW] at hg
  refine ⟨⟨(hg.block _ (Array.getElem?_eq_some_iff.1 h.1).1 (fun e => by injection e with e; omega)).trans h.1, h.2.trans (below_of_grown hg (Nat.le_of_lt hlt) h.2.size)⟩, ?_, ?_, hfr, fun e => by cases e⟩
  · rw [hW]; exact stored14 hb
  · exact (hat.grown hg (fun k hk ad e => by have := hfr ad e; omega)).own
end Go.Proofs.YtcjnhemlkahgoaaDoor
