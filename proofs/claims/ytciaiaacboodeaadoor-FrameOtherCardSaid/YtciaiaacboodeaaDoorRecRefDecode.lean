/-
  The walk of the reference's Decode.
-/
import Derived.Test.YtciaiaacboodeaaDoorRecEncodeLaw
namespace Go.Proofs.YtciaiaacboodeaaDoor
open Go.RowKit
theorem refdecode_early (v seq off : Int) (A : Option Addr) (n c : Nat) (w : World) (h : ¬ (v = 1 ∨ v = 2) ∨ ¬ Rc.place seq off ∨ n < 16) :
    Calls Tryd.prog 9 #[.int .i64 v, .int .i64 seq, .int .i64 off, .slice A n c] w (NoRec w) := by
  by_cases hv : v = 1 ∨ v = 2
  · have hc : decide (seq < 0) = true ∨ (decide (seq < 0) = false ∧ (decide (off < 0) = true ∨ (decide (off < 0) = false ∧ (decide (2147483647 < off) = true ∨ (decide (2147483647 < off) = false ∧ decide ((n : Int) < 16) = true))))) := by
      have h2 := h.resolve_left (fun e => e hv)
      unfold Rc.place at h2
      simp
      omega
    clear h
    rcases hc with f1 | ⟨f1, f2 | ⟨f2, f3 | ⟨f3, f4⟩⟩⟩
    all_goals
      rcases hv with rfl | rfl
    all_goals
      go_enter Tryd.func9, Tryd.ntmps9
      go_wp2
      (try simp only [Exit.inBlock, Exit.then])
      refine bodyPost_ret (results_row3 rfl _ _ w.heap.size _ _ (0, 0) _ rfl (heap_alloc_new _ _) Tryd.underlying26 rfl (by kernel_rfl)) rfl ?_
      exact ⟨rfl, (Below.refl _ _).alloc (Nat.le_refl _) _⟩
  · have f1 : (v != 1) = true := by rw [bne_iff_ne]; omega
    have f2 : (v != 2) = true := by rw [bne_iff_ne]; omega
    clear h hv
    go_enter Tryd.func9, Tryd.ntmps9
    go_wp2
    (try simp only [Exit.inBlock, Exit.then])
    refine bodyPost_ret (results_row3 rfl _ _ w.heap.size _ _ (0, 0) _ rfl (heap_alloc_new _ _) Tryd.underlying26 rfl (by kernel_rfl)) rfl ?_
    exact ⟨rfl, (Below.refl _ _).alloc (Nat.le_refl _) _⟩
theorem add_pos (ad : Addr) (i : Nat) (h : 0 < i) : ad.add i = ⟨ad.block, ad.off + i, none⟩ := by
  unfold Addr.add
  rw [if_neg (by omega)]
/-- The reference's Num of a part of the bytes. -/
theorem num_part (ad : Addr) (B i m c : Nat) (l : List Nat) (W : World) (hb : Bs W B (some ad) l) (h0 : 0 < i) (hm : m ≤ 8) (hl : i + m ≤ l.length) :
    Calls Tryd.prog 23 #[.slice (some ⟨ad.block, ad.off + i, none⟩) m c] W fun e w' => e = .returned (.int .u64 (Wire.num (Rc.sub l i m) : Int)) ∧ w' = W := by
  have h := ((hb.bsIn.drop i).bs).take m
  rw [Option.map_some, add_pos ad i h0] at h
  exact (refnum_any _ B m c (Rc.sub l i m) W (Rc.sub_length l i m hl) hm h).mono fun _ _ h => ⟨h.1, h.2.symm⟩
theorem byte_at (ad : Addr) (B i : Nat) (l : List Nat) (W : World) (hb : Bs W B (some ad) l) (h0 : 0 < i) (hl : i < l.length) : W.cell? ⟨ad.block, ad.off + i, none⟩ = some (.int .u8 ((l.getD i 0 : Nat) : Int)) := by
  obtain ⟨_, ad', e, _, hc⟩ := hb i hl
  injection e with e
  subst e
  rw [← add_pos ad i h0]; exact hc
theorem wrap_small (q : Nat) (h : q < 9223372036854775808) : IntKind.i64.wrap (q : Int) = (q : Int) := by
  rw [IntKind.wrap_i64]; omega
/-- 'append([]byte(nil), x...)', x nil or not: the bytes in a row of their own. -/
theorem append_bytes {w : World} {ops : Array Oper} {rest : List Oper} {o : Oper} {a : Act} {Q : Exit → Act → World → Prop} (hgd : Region.wanted o (yielded ops a.tmps) = true) (x : Operand)
    (ho : o.op = .call { callee := .builtin .append, args := #[.const (.slice none 0 0), x], argTypes := #[24, 24] })
    (B : Nat) (A : Option Addr) (m c : Nat) (l : List Nat) (hx : a.eval x = .slice A m c) (hA : A = none → m = 0 ∧ c = 0) (hl : l.length = m) (hb : Bs w B A l) (hm : m ≤ 140737488355328)
    (h : ∀ A' c' w', SlIs A' m c' → BsIn w' w.heap.size w'.heap.size A' l → Below w.heap.size w w' → wpList Tryd.prog ops Q rest (a.put o.dst (.slice A' m c')) w') : wpList Tryd.prog ops Q (o :: rest) a w := by
  obtain ⟨i0, hi0, hz0, hz1, hz2⟩ := info_parts info_u8
  refine append_onto hgd (.const (.slice none 0 0)) x 24 ho w.heap.size 5 i0 (.int .u8 0) 1 1 Tryd.underlying24 hi0 hz0 hz1 hz2 rfl (by decide) _ 0 [] rfl (World.ownsRow_nil _ _ _ _) A m c (vals l) hx hA (by rw [vals_length]; omega) (fun ad e => by subst e; exact hb.cells) (vals_one _) (by unfold maxLen; omega) (by omega) (Nat.le_refl _) ?_
  intro v' w' hown hg
  rw [List.nil_append, Nat.zero_add] at hown
  obtain ⟨A', c', rfl, hbs, -, hn, hm', ho'⟩ := own_bytes hown hb.lt
  refine h A' c' w' (sl_own hn hm' ho') (own_bsin hbs ?_) ((Below.refl _ _).grown hg (Nat.le_refl _) (fun k e => by cases e))
  rcases ho' with ⟨e, _⟩ | ⟨g, h1, h2, h3⟩
  · exact .inl e
  · exact .inr ⟨g, h1, h2, h3⟩
theorem grown_below {w w' : World} {r B : Nat} (h : w.grownBy w' (some r)) (hB : B ≤ r) (hs : B ≤ w.heap.size) : Below B w w' := below_of_grown h hB hs
/-- The second box's second and third field, stored. -/
theorem sd2_set1 {w W : World} {o0 : Obj} {a b c d v : Value} {t : TypeId} (h : Sd2 w o0 (.cells #[a, b, c, d] t (0, 0)) W) : Sd2 w o0 (.cells #[a, v, c, d] t (0, 0)) (W.setCell ⟨w.heap.size + 1, 1, none⟩ v) :=
  ⟨((grown_set W _ _ _).block _ (Array.getElem?_eq_some_iff.1 h.1).1 (fun e => by injection e with e; omega)).trans h.1, by have h1 := h.2.1; simp [World.setCell, Array.getElem?_modify, h1], h.2.2.trans (below_of_grown (grown_set _ _ _ _) (by omega) h.2.2.size)⟩
theorem sd2_set2 {w W : World} {o0 : Obj} {a b c d v : Value} {t : TypeId} (h : Sd2 w o0 (.cells #[a, b, c, d] t (0, 0)) W) : Sd2 w o0 (.cells #[a, b, v, d] t (0, 0)) (W.setCell ⟨w.heap.size + 1, 2, none⟩ v) :=
  ⟨((grown_set W _ _ _).block _ (Array.getElem?_eq_some_iff.1 h.1).1 (fun e => by injection e with e; omega)).trans h.1, by have h1 := h.2.1; simp [World.setCell, Array.getElem?_modify, h1], h.2.2.trans (below_of_grown (grown_set _ _ _ _) (by omega) h.2.2.size)⟩
theorem reflen_any (kd : Int) (A : Option Addr) (n c : Nat) (A' : Option Addr) (n' c' : Nat) (x : Int) (w : World) (hs : n ≤ 140737488355328) (hs' : n' ≤ 140737488355328) :
    Calls Tryd.prog 24 #[.agg #[.int .i64 kd, .slice A n c, .slice A' n' c', .int .i64 x]] w fun e w' => e = .returned (.int .i64 ((16 + n + n' : Nat) : Int)) ∧ Below w.heap.size w w' := by
  go_enter Tryd.func24, Tryd.ntmps24
  go_wp2
  go_ret
  exact ⟨ret_int (by omega), (Below.refl _ _).alloc (Nat.le_refl _) _⟩
theorem below_drop {w w' : World} (h : Below w.drew.heap.size w.drew w') : Below w.heap.size w w' := ⟨h.os, h.tape, h.output, h.size, h.block⟩
end Go.Proofs.YtciaiaacboodeaaDoor
