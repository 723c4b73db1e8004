/-
  Words on slices of things of any shape: their cells, how they are read, a row of the call's own, what stays, an append.
-/
import Derived.Test.YtcdomlgnfbdeoaaSbOne
set_option maxRecDepth 100000
namespace Go.Proofs.Ytcdomlgnfbdeoaa
open Go.RowKit
theorem arr_flat (c o k : Nat) : (⟨c, o, none⟩ : Addr).add k = ⟨c, o + k, none⟩ := by unfold Addr.add; split <;> simp_all
/-- How a thing lies in memory: its cells, and the thing of no cells that are written. -/
structure Shape (α : Type) where
  cs : α → List Value
  z : α
  m : Nat
  len : ∀ a, (cs a).length = m
  pos : 0 < m
  one : ∀ a, ∀ u ∈ cs a, u.oneCell' = true
section
variable {α : Type} {S : Shape α}
def Shape.flat (S : Shape α) (l : List α) : List Value := l.flatMap S.cs
theorem Shape.flat_length (l : List α) : (S.flat l).length = l.length * S.m := by
  induction l with
  | nil => exact (Nat.zero_mul _).symm
  | cons a t ih =>
    show (S.cs a ++ S.flat t).length = _
    rw [List.length_append, ih, List.length_cons, S.len, Nat.succ_mul, Nat.add_comm]
theorem Shape.flat_append (a b : List α) : S.flat (a ++ b) = S.flat a ++ S.flat b := by unfold Shape.flat; rw [List.flatMap_append]
theorem Shape.flat_one (a : α) : S.flat [a] = S.cs a := by unfold Shape.flat; rw [List.flatMap_cons, List.flatMap_nil, List.append_nil]
theorem Shape.flat_at : ∀ (l : List α) (k j : Nat), k < l.length → j < S.m → (S.flat l)[k * S.m + j]? = (S.cs (l.getD k S.z))[j]?
  | [], _, _, h, _ => absurd h (Nat.not_lt_zero _)
  | a :: t, 0, j, _, hj => by
    show (S.cs a ++ S.flat t)[0 * S.m + j]? = _
    rw [List.getElem?_append_left (by rw [S.len]; omega), Nat.zero_mul, Nat.zero_add]; rfl
  | a :: t, k + 1, j, h, hj => by
    show (S.cs a ++ S.flat t)[(k + 1) * S.m + j]? = _
    rw [List.getElem?_append_right (by rw [S.len, Nat.succ_mul]; omega), S.len, show (k + 1) * S.m + j - S.m = k * S.m + j by rw [Nat.succ_mul]; omega]
    exact Shape.flat_at t k j (by simpa using h) hj
/-- Things read through a slice, in blocks from lo on, below B. -/
def Arr (S : Shape α) (w : World) (lo B : Nat) (A : Option Addr) (l : List α) : Prop := ∀ k, k < l.length → ∃ ad, A = some ad ∧ lo ≤ ad.block ∧ ad.block < B ∧ ∀ j v, (S.cs (l.getD k S.z))[j]? = some v → w.cell? (ad.add (k * S.m + j)) = some v
variable {w w' : World} {lo B C : Nat} {A : Option Addr} {l : List α}
theorem Arr.below (h : Arr S w lo B A l) (hb : Below C w w') (hB : B ≤ C) : Arr S w' lo B A l := fun k hk => by
  obtain ⟨ad, h1, h2, h3, h4⟩ := h k hk
  exact ⟨ad, h1, h2, h3, fun j v e => (hb.cell (by rw [add_block]; omega)).trans (h4 j v e)⟩
theorem Arr.heap (h : Arr S w lo B A l) (e : w'.heap = w.heap) : Arr S w' lo B A l := fun k hk => by
  obtain ⟨ad, h1, h2, h3, h4⟩ := h k hk
  exact ⟨ad, h1, h2, h3, fun j v e' => (World.cell?_of_block (by rw [e])).trans (h4 j v e')⟩
theorem Arr.up (h : Arr S w lo B A l) (hB : B ≤ C) : Arr S w lo C A l := fun k hk => by
  obtain ⟨ad, h1, h2, h3, h4⟩ := h k hk
  exact ⟨ad, h1, h2, by omega, h4⟩
theorem Arr.down {lo' : Nat} (h : Arr S w lo B A l) (hl : lo' ≤ lo) : Arr S w lo' B A l := fun k hk => by
  obtain ⟨ad, h1, h2, h3, h4⟩ := h k hk
  exact ⟨ad, h1, by omega, h3, h4⟩
theorem Arr.take (h : Arr S w lo B A l) (n : Nat) : Arr S w lo B A (l.take n) := fun k hk => by
  rw [List.length_take] at hk
  obtain ⟨ad, h1, h2, h3, h4⟩ := h k (by omega)
  refine ⟨ad, h1, h2, h3, fun j v e => h4 j v ?_⟩
  rw [List.getD_eq_getElem?_getD, List.getElem?_take_of_lt (by omega), ← List.getD_eq_getElem?_getD] at e
  exact e
theorem Arr.nil : Arr S w lo B A [] := fun _ hk => absurd hk (Nat.not_lt_zero _)
theorem Arr.some {k : Nat} (h : Arr S w lo B A l) (hk : k < l.length) : ∃ ad, A = some ad := by
  obtain ⟨ad, e, _⟩ := h k hk
  exact ⟨ad, e⟩
theorem Arr.cell {ad : Addr} (h : Arr S w lo B (Option.some ad) l) (k : Nat) (hk : k < l.length) (j : Nat) (v : Value) (e : (S.cs (l.getD k S.z))[j]? = Option.some v) : w.cell? (ad.add (k * S.m + j)) = Option.some v := by
  obtain ⟨ad', e1, _, _, h4⟩ := h k hk
  injection e1 with e1
  subst e1
  exact h4 j v e
/-- A box that a slice of one thing reads. -/
theorem Arr.ofBox {g : Nat} {a : α} {t : TypeId} (h : w.heap[g]? = Option.some (.cells (S.cs a).toArray t (0, 0))) (h1 : lo ≤ g) (h2 : g < B) : Arr S w lo B (Option.some ⟨g, 0, none⟩) [a] := fun k hk => by
  obtain rfl : k = 0 := by simpa using hk
  refine ⟨_, rfl, h1, h2, fun j v e => ?_⟩
  rw [Nat.zero_mul, Nat.zero_add, arr_flat, Nat.zero_add, cell_of_row _ _ j _ _ _ h, List.getElem?_toArray]
  exact e
/-- A row of things of the call's own. -/
def ARow (S : Shape α) (t : TypeId) (w : World) (base : Nat) (v : Value) (n : Nat) (l : List α) : Prop := w.ownsRow base t S.m v n (S.flat l)
variable {t : TypeId} {base n : Nat} {v : Value}
theorem ARow.nil (w : World) (base : Nat) : ARow S t w base (.slice none 0 0) 0 [] := World.ownsRow_nil _ _ _ _
theorem ARow.length (h : ARow S t w base v n l) : l.length = n := by
  have := h.1
  rw [S.flat_length] at this
  exact Nat.eq_of_mul_eq_mul_right S.pos this
theorem ARow.open_ (h : ARow S t w base v n l) : ∃ A c, v = .slice A n c ∧ SlIs A n c ∧ Arr S w base w.heap.size A l := by
  have hl := h.length
  rcases h.2 with ⟨rfl, rfl⟩ | ⟨g, cap, cur, rfl, hb, hg, hnc, hcm, hsz, htk⟩
  · exact ⟨none, 0, rfl, ⟨fun _ => ⟨rfl, rfl⟩, Nat.le_refl _, by decide⟩, fun k hk => absurd hk (by omega)⟩
  · refine ⟨_, cap, rfl, ⟨(fun e => by cases e), hnc, by unfold maxLen at hcm; exact hcm⟩, fun k hk => ⟨_, rfl, hb, (Array.getElem?_eq_some_iff.1 hg).1, fun j x hx => ?_⟩⟩
    have hj : j < S.m := by
      rcases Nat.lt_or_ge j S.m with h | h
      · exact h
      · rw [List.getElem?_eq_none (by rw [S.len]; exact h)] at hx; cases hx
    exact h.cells (g := g) rfl (k * S.m + j) _ (by rw [S.flat_at _ _ _ hk hj]; exact hx)
theorem ARow.stays (h : ARow S t w base v n l) (hb : Below w.heap.size w w') : ARow S t w' base v n l := by
  refine ⟨h.1, ?_⟩
  rcases h.2 with h0 | ⟨g, cap, cur, h1, h2, h3, h4⟩
  · exact .inl h0
  · exact .inr ⟨g, cap, cur, h1, h2, (hb.block g (Array.getElem?_eq_some_iff.1 h3).1).trans h3, h4⟩
theorem ARow.made (h : ARow S t w base v n l) (o : Obj) : ARow S t (w.alloc o) base v n l := h.stays ((Below.refl _ w).alloc (Nat.le_refl _) _)
theorem ARow.heap (h : ARow S t w base v n l) (e : w'.heap = w.heap) : ARow S t w' base v n l := by
  refine ⟨h.1, ?_⟩
  rcases h.2 with h0 | ⟨g, cap, cur, h1, h2, h3, h4⟩
  · exact .inl h0
  · exact .inr ⟨g, cap, cur, h1, h2, by rw [e]; exact h3, h4⟩
theorem ARow.box (h : ARow S t w base v n l) (hn : 0 < n) : ∃ g c, v = .slice (Option.some ⟨g, 0, none⟩) n c ∧ n ≤ c ∧ Arr S w base w.heap.size (Option.some ⟨g, 0, none⟩) l := by
  obtain ⟨A, c, rfl, hs, hp⟩ := h.open_
  rcases h.2 with ⟨_, rfl⟩ | ⟨g, cap, cur, e, _⟩
  · exact absurd hn (Nat.lt_irrefl _)
  · injection e with e1 _ e3
    subst e1
    exact ⟨g, c, rfl, hs.2.1, hp⟩
theorem arr_info {P : Program} {t : TypeId} {z : Value} {s b : Nat} (h : (P.info? t).map (fun i => (i.zero, i.size, i.bytes)) = Option.some (Option.some z, s, b)) : ∃ i, P.info? t = Option.some i ∧ i.zero = Option.some z ∧ i.size = s ∧ i.bytes = b := by
  cases hi : P.info? t with
  | none => rw [hi] at h; cases h
  | some i =>
    rw [hi] at h
    simp only [Option.map_some, Option.some.injEq, Prod.mk.injEq] at h
    exact ⟨i, rfl, h.1, h.2.1, h.2.2⟩
/-- 'append(s, a)': a lies in a box that was made for it; what is not the row's own block stays. -/
theorem wpList_append_arr {P : Program} {ops : Array Oper} {rest : List Oper} {o : Oper} {a : Act} {Q : Exit → Act → World → Prop} {zv : Value} {bytes : Nat} (tS : TypeId) (hu : P.underlying tS = Option.some (.slice t)) (hi : (P.info? t).map (fun i => (i.zero, i.size, i.bytes)) = Option.some (Option.some zv, S.m, bytes)) (hzs : zv.cells.size = S.m) (hgd : o.guard = none) (s x : Operand)
    (ho : o.op = .call { callee := .builtin .append, args := #[s, x], argTypes := #[tS, tS] })
    (g c : Nat) (p : α) (hs : a.eval s = v) (hown : ARow S t w base v n l) (hx : a.eval x = .slice (Option.some ⟨g, 0, none⟩) 1 c) (hg : w.heap[g]? = Option.some (.cells (S.cs p).toArray t (0, 0))) (hn : n + 1 ≤ maxLen) (hby : (n + 1) * bytes ≤ 140737488355328) (hbase : base ≤ w.heap.size)
    (h : ∀ v' w', ARow S t w' base v' (n + 1) (l ++ [p]) → Below base w w' → (∀ b ob, (∀ k, v.ownBlock = Option.some k → k ≠ b) → w.heap[b]? = Option.some ob → w'.heap[b]? = Option.some ob) → wpList P ops Q rest (a.put o.dst v') w') : wpList P ops Q (o :: rest) a w := by
  obtain ⟨i0, hi0, hz0, hz1, hz2⟩ := arr_info hi
  refine wpList_append_own w hgd s x tS ho base t i0 zv S.m bytes hu hi0 hz0 hz1 hz2 hzs S.pos v n (S.flat l) hs hown ⟨g, 0, none⟩ 1 c (S.cs p) hx (by rw [S.len, Nat.one_mul]) (fun j u hu => ?_) (S.one p) hn hby hbase fun v' w' h2 h3 _ => h v' w' ?_ ((Below.refl _ _).grown h3 hbase fun k e => (hown.lt k e).1) fun b ob hb hob => (h3.block b (Array.getElem?_eq_some_iff.1 hob).1 (fun e => hb b e.symm rfl)).trans hob
  · rw [arr_flat, Nat.zero_add, cell_of_row _ _ j _ _ _ hg, List.getElem?_toArray]; exact hu
  · unfold ARow
    rw [S.flat_append, S.flat_one]
    exact h2
end
/-- Whole numbers. -/
def intS : Shape Int := ⟨fun k => [.int .i64 k], 0, 1, fun _ => rfl, by decide, fun a u hu => by
  simp only [List.mem_cons, List.not_mem_nil, or_false] at hu
  subst hu; rfl⟩
theorem ints_at {w : World} {lo B : Nat} {ad : Addr} {l : List Int} (h : Arr intS w lo B (some ad) l) (k : Nat) (hk : k < l.length) : w.cell? (ad.add k) = some (.int .i64 (l.getD k 0)) := by
  have := h.cell k hk 0 (.int .i64 (l.getD k 0)) rfl
  rwa [show k * intS.m + 0 = k from Nat.mul_one k] at this
theorem list_ext_getD {α : Type} {a b : List α} (z : α) (hl : a.length = b.length) (h : ∀ j, j < a.length → a.getD j z = b.getD j z) : a = b := by
  apply List.ext_getElem hl
  intro j h1 h2
  have e := h j h1
  rw [List.getD_eq_getElem?_getD, List.getD_eq_getElem?_getD, List.getElem?_eq_getElem h1, List.getElem?_eq_getElem h2] at e
  exact e
end Go.Proofs.Ytcdomlgnfbdeoaa
