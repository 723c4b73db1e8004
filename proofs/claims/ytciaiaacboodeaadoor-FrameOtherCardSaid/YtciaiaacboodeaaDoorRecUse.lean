/-
  Decode as one contract; the comparison of two records; Short and Awake of the statements.
-/
import Derived.Test.YtciaiaacboodeaaDoorRecDecode
import Derived.Test.YtciaiaacboodeaaDoorWireRef
import Derived.Laws.Rows
import Derived.ArgAppend
import Derived.Laws.OwnMore
import Derived.BigRegion
import Derived.RegionTactic
import Derived.Lib.SlBytesConst
namespace Go.Proofs.YtciaiaacboodeaaDoor
open Go.RowKit

theorem rec_len (v : Int) (l : List Nat) (h : Fits v l) : Rc.len (Rc.rec v l) = 16 + Rc.kl v l + Rc.vl v l := by
  unfold Rc.len Rc.rec
  simp only
  rw [Rc.sub_length _ _ _ (by have := h.2; omega), Rc.sub_length _ _ _ (by have := h.2; omega)]
theorem decode_good (v seq off : Int) (A : Option Addr) (B n c : Nat) (l : List Nat) (w : World) (hB : B ≤ w.heap.size) (hsq : seq ≤ 9223372036854775807) (hA : A = none → c = 0 ∧ n = 0) (hnc : n ≤ c) (hc : c ≤ 9223372036854775807) (hl : Hid (l.length = n)) (hb : Hid (Bs w B A l)) (ht : Hid (TabW w)) (hz : 0 < w.heap.size) (hg : Rc.good v seq off l) :
    Calls Tryd.prog 8 #[.int .i64 v, .int .i64 seq, .int .i64 off, .slice A n c] w (GotRec w v l) := by
  obtain ⟨h1, h2, h3, h4, h5⟩ := hg
  exact decode_ok v seq off A B n c l w hB hsq hA hnc hc hl hb ht hz ⟨h1, h2⟩ h3 h4 (by rw [rec_len v l ⟨h1, h2⟩]; exact h5)
theorem decode_not (v seq off : Int) (A : Option Addr) (B n c : Nat) (l : List Nat) (w : World) (hB : B ≤ w.heap.size) (hsq : seq ≤ 9223372036854775807) (hA : A = none → c = 0 ∧ n = 0) (hnc : n ≤ c) (hc : c ≤ 9223372036854775807) (hl : Hid (l.length = n)) (hb : Hid (Bs w B A l)) (ht : Hid (TabW w)) (hz : 0 < w.heap.size) (hg : ¬ Rc.good v seq off l) :
    Calls Tryd.prog 8 #[.int .i64 v, .int .i64 seq, .int .i64 off, .slice A n c] w (NoRec w) := by
  by_cases hf : Fits v l
  · by_cases hc0 : Rc.check v (Rc.rec v l) ≠ 0 ∨ ¬ Rc.place seq off
    · exact decode_bad v seq off A B n c l w hB hA hnc hc hl hb hf hc0
    · have h3 : Rc.check v (Rc.rec v l) = 0 := Decidable.not_not.1 fun h => hc0 (.inl h)
      have h4 : Rc.place seq off := Decidable.not_not.1 fun h => hc0 (.inr h)
      exact decode_other v seq off A B n c l w hB hsq hA hnc hc hl hb ht hz hf h3 h4 (by rw [rec_len v l hf]; exact fun h => hg ⟨hf.1, hf.2, h3, h4, h⟩)
  · exact decode_early v seq off A B n c l w hA hnc hc hl hb hf
/-- Equal records have equal parts. -/
theorem rec_parts {v : Int} {l : List Nat} {r : Rc.Rec} (h : Rc.rec v l = r) : (Rc.kd v l : Int) = r.kind ∧ Rc.sub l 16 (Rc.kl v l) = r.key ∧ Rc.sub l (16 + Rc.kl v l) (Rc.vl v l) = r.val ∧ (Rc.xp v l : Int) = r.exp := by
  subst h
  exact ⟨rfl, rfl, rfl, rfl⟩
/-- Two records in memory, compared by the reference. -/
theorem receq_any (kd x kd' x' : Int) (A1 A2 A3 A4 : Option Addr) (B B' n1 n2 n3 n4 c1 c2 c3 c4 : Nat) (k v k' v' : List Nat) (w : World) (hB : B ≤ w.heap.size) (hB' : B' ≤ w.heap.size)
    (h1 : Hid (k.length = n1 ∧ Bs w B A1 k)) (h2 : Hid (v.length = n2 ∧ Bs w B A2 v)) (h3 : Hid (k'.length = n3 ∧ Bs w B' A3 k')) (h4 : Hid (v'.length = n4 ∧ Bs w B' A4 v'))
    (hn : Hid (n1 ≤ 140737488355328 ∧ n2 ≤ 140737488355328 ∧ n3 ≤ 140737488355328 ∧ n4 ≤ 140737488355328)) :
    Calls Tryd.prog 11 #[.agg #[.int .i64 kd, .slice A1 n1 c1, .slice A2 n2 c2, .int .i64 x], .agg #[.int .i64 kd', .slice A3 n3 c3, .slice A4 n4 c4, .int .i64 x']] w fun e w' => e = .returned (.bool (Rc.same ⟨kd, k, v, x⟩ ⟨kd', k', v', x'⟩)) ∧ Below w.heap.size w w' := by
  have HB : Hid (∀ o o', Below w.heap.size w ((w.alloc o).alloc o')) := fun o o' => ((Below.refl _ _).alloc (Nat.le_refl _) o).alloc (by simp) o'
  have HK : Hid (∀ W, Below w.heap.size w W → Calls Tryd.prog 15 #[.slice A1 n1 c1, .slice A3 n3 c3] W (SaysQuiet (decide (k = k')) W)) := fun W hW =>
    refeq_any A1 A3 B B' n1 n3 c1 c3 k k' W h1.out.1 h3.out.1 hn.out.1 hn.out.2.2.1 (h1.out.2.below hW hB) (h3.out.2.below hW hB')
  have HV : Hid (∀ W, Below w.heap.size w W → Calls Tryd.prog 15 #[.slice A2 n2 c2, .slice A4 n4 c4] W (SaysQuiet (decide (v = v')) W)) := fun W hW =>
    refeq_any A2 A4 B B' n2 n4 c2 c4 v v' W h2.out.1 h4.out.1 hn.out.2.1 hn.out.2.2.2 (h2.out.2.below hW hB) (h4.out.2.below hW hB')
  have hsame : Rc.same ⟨kd, k, v, x⟩ ⟨kd', k', v', x'⟩ = ((kd == kd') && ((x == x') && (decide (k = k') && decide (v = v')))) := by
    unfold Rc.same
    simp only
    congr 1
  rw [hsame]
  clear hsame
  generalize decide (k = k') = bk at HK ⊢
  generalize decide (v = v') = bv at HV ⊢
  by_cases e1 : (kd == kd') = true
  · by_cases e2 : (x == x') = true
    · rw [e1, e2]
      cases bk with
      | true =>
        go_enter Tryd.func11, Tryd.ntmps11
        go_wp2_with fail
        refine (HK.out _ (HB.out _ _)).mono ?_
        rintro e w1 ⟨rfl, q1, rfl⟩
        go_wp2_with fail
        refine (HV.out _ (below_drawn (HB.out _ _) _)).mono ?_
        rintro e w2 ⟨rfl, q2, rfl⟩
        go_wp2
        go_ret
        exact ⟨by simp, below_drawn (HB.out _ _) _⟩
      | false =>
        go_enter Tryd.func11, Tryd.ntmps11
        go_wp2_with fail
        refine (HK.out _ (HB.out _ _)).mono ?_
        rintro e w1 ⟨rfl, q1, rfl⟩
        go_wp2
        go_ret
        exact ⟨by simp, below_drawn (HB.out _ _) _⟩
    · have e2' : (x == x') = false := by simpa using e2
      rw [e1, e2']
      clear e2
      go_enter Tryd.func11, Tryd.ntmps11
      go_wp2
      go_ret
      exact ⟨by simp, HB.out _ _⟩
  · have e1' : (kd == kd') = false := by simpa using e1
    rw [e1']
    clear e1
    go_enter Tryd.func11, Tryd.ntmps11
    go_wp2
    go_ret
    exact ⟨by simp, HB.out _ _⟩
/-- What min(n, k) is. -/
def MinIs (n k m : Nat) : Prop := (n ≤ k ∧ m = n) ∨ (k < n ∧ m = k)
theorem min_is (n k : Nat) : ∃ m, MinIs n k m := by
  by_cases h : n ≤ k
  · exact ⟨n, .inl ⟨h, rfl⟩⟩
  · exact ⟨k, .inr ⟨by omega, rfl⟩⟩
end Go.Proofs.YtciaiaacboodeaaDoor
