/-
  Decode as one contract; the comparison of two records; Short and Awake of the statements.
-/
import Derived.Test.YtjmhnbohojdodaaDoorRecDecode
import Derived.Test.YtjmhnbohojdodaaDoorBase
import Derived.Laws.Rows
import Derived.ArgAppend
import Derived.Laws.OwnMore
import Derived.BigRegion
import Derived.RegionTactic
import Derived.Lib.SlBytesConst
namespace Go.Proofs.YtjmhnbohojdodaaDoor
open Go.RowKit

theorem rec_len (v : Int) (l : List Nat) (h : Fits v l) : Rc.len (Rc.rec v l) = 16 + Rc.kl v l + Rc.vl v l := by
  unfold Rc.len Rc.rec
  simp only
  rw [Rc.sub_length _ _ _ (by have := h.2; omega), Rc.sub_length _ _ _ (by have := h.2; omega)]
/-- Equal records have equal parts. -/
theorem rec_parts {v : Int} {l : List Nat} {r : Rc.Rec} (h : Rc.rec v l = r) : (Rc.kd v l : Int) = r.kind ∧ Rc.sub l 16 (Rc.kl v l) = r.key ∧ Rc.sub l (16 + Rc.kl v l) (Rc.vl v l) = r.val ∧ (Rc.xp v l : Int) = r.exp := by
  subst h
  exact ⟨rfl, rfl, rfl, rfl⟩
/-- Two records in memory, compared by the reference. -/
theorem receq_any (kd x kd' x' : Int) (A1 A2 A3 A4 : Option Addr) (B B' n1 n2 n3 n4 c1 c2 c3 c4 : Nat) (k v k' v' : List Nat) (w : World) (hB : B ≤ w.heap.size) (hB' : B' ≤ w.heap.size)
    (h1 : Hid (k.length = n1 ∧ Bs w B A1 k)) (h2 : Hid (v.length = n2 ∧ Bs w B A2 v)) (h3 : Hid (k'.length = n3 ∧ Bs w B' A3 k')) (h4 : Hid (v'.length = n4 ∧ Bs w B' A4 v'))
    (hn : Hid (n1 ≤ 140737488355328 ∧ n2 ≤ 140737488355328 ∧ n3 ≤ 140737488355328 ∧ n4 ≤ 140737488355328)) :
    Calls Tryd.prog 27 #[.agg #[.int .i64 kd, .slice A1 n1 c1, .slice A2 n2 c2, .int .i64 x], .agg #[.int .i64 kd', .slice A3 n3 c3, .slice A4 n4 c4, .int .i64 x']] w fun e w' => e = .returned (.bool (Rc.same ⟨kd, k, v, x⟩ ⟨kd', k', v', x'⟩)) ∧ Below w.heap.size w w' := by
  have HB : Hid (∀ o o', Below w.heap.size w ((w.alloc o).alloc o')) := fun o o' => ((Below.refl _ _).alloc (Nat.le_refl _) o).alloc (by simp) o'
  have HK : Hid (∀ W, Below w.heap.size w W → Calls Tryd.prog 20 #[.slice A1 n1 c1, .slice A3 n3 c3] W (SaysQuiet (decide (k = k')) W)) := fun W hW =>
    refeq_any A1 A3 B B' n1 n3 c1 c3 k k' W h1.out.1 h3.out.1 hn.out.1 hn.out.2.2.1 (h1.out.2.below hW hB) (h3.out.2.below hW hB')
  have HV : Hid (∀ W, Below w.heap.size w W → Calls Tryd.prog 20 #[.slice A2 n2 c2, .slice A4 n4 c4] W (SaysQuiet (decide (v = v')) W)) := fun W hW =>
    refeq_any A2 A4 B B' n2 n4 c2 c4 v v' W h2.out.1 h4.out.1 hn.out.2.1 hn.out.2.2.2 (h2.out.2.below hW hB) (h4.out.2.below hW hB')
  have hsame : Rc.same ⟨kd, k, v, x⟩ ⟨kd', k', v', x'⟩ = ((kd == kd') && ((x == x') && (decide (k = k') && decide (v = v')))) := by
    unfold Rc.same
    simp only
    congr 1
  rw [hsame]
  clear hsame
  generalize decide (k = k') = bk at HK ⊢
  generalize decide (v = v') = bv at HV ⊢
  by_cases e1 : (kd == kd') = true
  · by_cases e2 : (x == x') = true
    · rw [e1, e2]
      cases bk with
      | true =>
        go_enter Tryd.func27, Tryd.ntmps27
        go_wp2_with fail
        refine (HK.out _ (HB.out _ _)).mono ?_
        rintro e w1 ⟨rfl, q1, rfl⟩
        go_wp2_with fail
        refine (HV.out _ (below_drawn (HB.out _ _) _)).mono ?_
        rintro e w2 ⟨rfl, q2, rfl⟩
        go_wp2
        go_ret
        exact ⟨by simp, below_drawn (HB.out _ _) _⟩
      | false =>
        go_enter Tryd.func27, Tryd.ntmps27
        go_wp2_with fail
        refine (HK.out _ (HB.out _ _)).mono ?_
        rintro e w1 ⟨rfl, q1, rfl⟩
        go_wp2
        go_ret
        exact ⟨by simp, below_drawn (HB.out _ _) _⟩
    · have e2' : (x == x') = false := by simpa using e2
      rw [e1, e2']
      clear e2
      go_enter Tryd.func27, Tryd.ntmps27
      go_wp2
      go_ret
      exact ⟨by simp, HB.out _ _⟩
  · have e1' : (kd == kd') = false := by simpa using e1
    rw [e1']
    clear e1
    go_enter Tryd.func27, Tryd.ntmps27
    go_wp2
    go_ret
    exact ⟨by simp, HB.out _ _⟩
set_option maxHeartbeats 1000000 in
theorem short_any (kd x : Int) (A1 A2 : Option Addr) (n1 n2 c1 c2 m1 m2 : Nat) (w : World) (hs1 : SlIs A1 n1 c1) (hs2 : SlIs A2 n2 c2) (h1 : MinIs n1 260 m1) (h2 : MinIs n2 200 m2) :
    Calls Tryd.prog 11 #[.agg #[.int .i64 kd, .slice A1 n1 c1, .slice A2 n2 c2, .int .i64 x]] w fun e w' => e = .returned (.agg #[.int .i64 kd, .slice A1 m1 c1, .slice A2 m2 c2, .int .i64 x]) ∧ Below w.heap.size w w' := by
  obtain ⟨-, b1, b2⟩ := hs1
  obtain ⟨-, b3, b4⟩ := hs2
  rcases h1 with ⟨i1, rfl⟩ | ⟨i1, rfl⟩
  all_goals
    rcases h2 with ⟨i2, rfl⟩ | ⟨i2, rfl⟩
  all_goals
    go_enter Tryd.func11, Tryd.ntmps11
    go_wp2
    go_region
    go_wp2
    (try simp only [Exit.inBlock, Exit.then])
    refine bodyPost_ret (results_cell_row rfl _ _ (w.heap.size + 1) _ _ (0, 0) _ rfl (alloc_at (w := w.alloc _) (by simp)) Tryd.underlying38 rfl (by kernel_rfl)) rfl ?_
    exact ⟨rfl, below_drawn (((Below.refl _ _).alloc (Nat.le_refl _) _).alloc (by simp) _) 1⟩
end Go.Proofs.YtjmhnbohojdodaaDoor
