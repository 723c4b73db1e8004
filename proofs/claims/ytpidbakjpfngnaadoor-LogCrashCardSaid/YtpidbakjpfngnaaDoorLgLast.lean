/-
  The append that is interrupted: what it leaves, and what a crash leaves of that.
-/
import Derived.Test.YtpidbakjpfngnaaDoorLgRound
import Derived.Test.YtpidbakjpfngnaaDoorFlashCrash
set_option maxRecDepth 100000
namespace Go.Proofs.YtpidbakjpfngnaaDoor
open Go.RowKit
/-- 'append(records, p)', p in a box that was made for it: other blocks than the row's stay. -/
theorem wpList_append_rec2 {w : World} {ops : Array Oper} {rest : List Oper} {o : Oper} {a : Act} {Q : Exit → Act → World → Prop} (hgd : o.guard = none) (s x : Operand)
    (ho : o.op = .call { callee := .builtin .append, args := #[s, x], argTypes := #[25, 25] })
    (base n g c : Nat) (v : Value) (l : List Pl.P) (p : Pl.P) (hs : a.eval s = v) (hown : PRow w base v n l) (hx : a.eval x = .slice (some ⟨g, 0, none⟩) 1 c) (hg : w.heap[g]? = some (.cells (pcs p).toArray 34 (0, 0))) (hn : n ≤ 1000) (hbase : base ≤ w.heap.size)
    (h : ∀ v' w', PRow w' base v' (n + 1) (l ++ [p]) → Below base w w' → (∀ b ob, (∀ k, v.ownBlock = some k → k ≠ b) → w.heap[b]? = some ob → w'.heap[b]? = some ob) → wpList Tryd.prog ops Q rest (a.put o.dst v') w') : wpList Tryd.prog ops Q (o :: rest) a w := by
  obtain ⟨i0, hi0, hz0, hz1, hz2⟩ := info_parts9 info_plan
  refine wpList_append_own w hgd s x 25 ho base 34 i0 _ 8 64 Tryd.underlying25 hi0 hz0 hz1 hz2 rfl (by decide) v n (recs l) hs hown ⟨g, 0, none⟩ 1 c (pcs p) hx rfl (fun j u hu => ?_) (pcs_one p) (by unfold maxLen; omega) (by omega) hbase fun v' w' h2 h3 _ => h v' w' ?_ ((Below.refl _ _).grown h3 hbase fun k e => (hown.lt k e).1) fun b ob hb hob => (h3.block b (Array.getElem?_eq_some_iff.1 hob).1 (fun e => hb b e.symm rfl)).trans hob
  · rw [add_flat, Nat.zero_add, cell_of_row _ _ j _ _ _ hg, List.getElem?_toArray]; exact hu
  · unfold PRow
    rw [recs_append, recs_one]
    exact h2
theorem kept_one (y : Bool) : keptBy [y] [] 0 = 64 ∨ keptBy [y] [] 0 = 0 := by
  cases y
  · exact .inr rfl
  · exact .inl rfl
/-- The device behind the last append: what a crash leaves of it, and whether it is dead. -/
def LastIs (M : Int) (f : Nat → Pl.P) (n : Nat) (y : Bool) (fs : Flash) (e : Int) : Prop :=
  (e = 0 ∧ fs.dead = false ∧ Lg.replay (crashed 80 fs.cur fs.old [y] []) M = (List.range (n + 1)).map f) ∨
  (e = 1 ∧ fs.dead = true ∧ (Lg.replay (crashed 80 fs.cur fs.old [y] []) M = (List.range (n + 1)).map f ∨ Lg.replay (crashed 80 fs.cur fs.old [y] []) M = (List.range n).map f))
theorem app_last {M : Int} {f : Nat → Pl.P} (ho : Lg.Own M f) {n : Nat} (hn : n < 36) {l : List Nat} (h : Lg.At l M f n) (wr : Nat) (y : Bool) (kk : Nat) :
    ∃ fs e, (Flash.clean l wr true (kk : Int)).app 80 (f n) = fs ∧ (Flash.clean l wr true (kk : Int)).appErr 80 (f n) = e ∧ LastIs M f n y fs e := by
  refine ⟨_, _, rfl, rfl, ?_⟩
  unfold LastIs
  by_cases h0 : kk = 0
  · subst h0
    have ha := Lg.app_rec_none ho hn (n := 80) (by decide) l wr
    rw [show ((0 : Nat) : Int) = 0 from rfl, ha.1, ha.2]
    refine .inr ⟨rfl, rfl, .inr ?_⟩
    have hc : crashed 80 l (fun _ => none) [y] [] = l := crash_clean h.1 _ _
    show Lg.replay (crashed 80 l (fun _ => none) [y] []) M = _
    rw [hc]
    exact Lg.at_replay ho (by omega) h
  · by_cases h1 : kk = 1
    · subst h1
      have ha := Lg.app_rec_half ho hn (n := 80) (by decide) l wr
      rw [show ((1 : Nat) : Int) = 1 from rfl, ha.1, ha.2]
      refine .inr ⟨rfl, rfl, ?_⟩
      rcases Lg.laid_crash (n := 80) (keep := [y]) (T := []) (by decide) h.1 ho.1 hn h.2 (kept_one y) with hl | hl
      · exact .inl (Lg.replay_laid ho hl (by omega))
      · exact .inr (Lg.replay_laid ho hl (by omega))
    · obtain ⟨f', hp, he, -⟩ := Lg.app_rec ho hn (n := 80) (by decide) l wr true (kk : Int) (fun _ => by omega)
      rw [hp, he]
      refine .inl ⟨rfl, rfl, ?_⟩
      have hx := Lg.at_next ho.1 hn h
      have hc : crashed 80 (Lg.put l M f n) (fun _ => none) [y] [] = Lg.put l M f n := crash_clean hx.1 _ _
      show Lg.replay (crashed 80 (Lg.put l M f n) (fun _ => none) [y] []) M = _
      rw [hc]
      exact Lg.at_replay ho (by omega) hx
end Go.Proofs.YtpidbakjpfngnaaDoor
