/-
  Words on plan records in slices: their cells, how they are read, a row of the call's own, what stays.
-/
import Derived.Test.YtpidbakjpfngnaaDoorPlDecode
import Derived.Test.YtpidbakjpfngnaaDoorPlEq
import Derived.Test.YtpidbakjpfngnaaDoorLgMath
set_option maxRecDepth 100000
namespace Go.Proofs.YtpidbakjpfngnaaDoor
open Go.RowKit
instance recEq : DecidableEq Pl.P := fun a b => decidable_of_iff (Pl.same a b = true) (Pl.same_iff a b)
def P0 : Pl.P := ⟨0, 0, 0, 0, Sb.L0⟩
/-- The cells of a record. -/
def pcs (p : Pl.P) : List Value := [.int .i64 p.kind, .int .i64 p.mig, .int .i64 p.idx, .int .i64 p.tail, .int .i64 p.t.id, .int .i64 p.t.ver, .int .i64 p.t.rs, .int .i64 p.t.reg]
def recs (l : List Pl.P) : List Value := l.flatMap pcs
theorem recs_length (l : List Pl.P) : (recs l).length = l.length * 8 := by
  induction l with
  | nil => rfl
  | cons a t ih =>
    show (pcs a ++ recs t).length = _
    rw [List.length_append, ih, List.length_cons, show (pcs a).length = 8 from rfl]; omega
theorem recs_append (a b : List Pl.P) : recs (a ++ b) = recs a ++ recs b := by unfold recs; rw [List.flatMap_append]
theorem recs_one (p : Pl.P) : recs [p] = pcs p := by unfold recs; rw [List.flatMap_cons, List.flatMap_nil, List.append_nil]
theorem recs_at : ∀ (l : List Pl.P) (k j : Nat), k < l.length → j < 8 → (recs l)[k * 8 + j]? = (pcs (l.getD k P0))[j]?
  | [], _, _, h, _ => absurd h (Nat.not_lt_zero _)
  | a :: t, 0, j, _, hj => by
    show (pcs a ++ recs t)[0 * 8 + j]? = _
    rw [List.getElem?_append_left (by show 0 * 8 + j < 8; omega), Nat.zero_mul, Nat.zero_add]; rfl
  | a :: t, k + 1, j, h, hj => by
    show (pcs a ++ recs t)[(k + 1) * 8 + j]? = _
    rw [List.getElem?_append_right (by show 8 ≤ _; omega), show (k + 1) * 8 + j - (pcs a).length = k * 8 + j by show (k + 1) * 8 + j - 8 = _; omega]
    exact recs_at t k j (by simpa using h) hj
theorem pcs_one (p : Pl.P) : ∀ u ∈ pcs p, u.oneCell' = true := by
  intro u hu
  simp only [pcs, List.mem_cons, List.not_mem_nil, or_false] at hu
  rcases hu with rfl | rfl | rfl | rfl | rfl | rfl | rfl | rfl <;> rfl
/-- Records read through a slice, in blocks from lo on, below B. -/
def Pls (w : World) (lo B : Nat) (A : Option Addr) (l : List Pl.P) : Prop := ∀ k, k < l.length → ∃ ad, A = some ad ∧ lo ≤ ad.block ∧ ad.block < B ∧ ∀ j v, (pcs (l.getD k P0))[j]? = some v → w.cell? (ad.add (k * 8 + j)) = some v
section
variable {w w' : World} {lo B C : Nat} {A : Option Addr} {l : List Pl.P}
theorem Pls.below (h : Pls w lo B A l) (hb : Below C w w') (hB : B ≤ C) : Pls w' lo B A l := fun k hk => by
  obtain ⟨ad, h1, h2, h3, h4⟩ := h k hk
  exact ⟨ad, h1, h2, h3, fun j v e => (hb.cell (by rw [add_block]; omega)).trans (h4 j v e)⟩
theorem Pls.heap (h : Pls w lo B A l) (e : w'.heap = w.heap) : Pls w' lo B A l := fun k hk => by
  obtain ⟨ad, h1, h2, h3, h4⟩ := h k hk
  exact ⟨ad, h1, h2, h3, fun j v e' => (World.cell?_of_block (by rw [e])).trans (h4 j v e')⟩
theorem Pls.kept {S : Nat → Prop} (h : Pls w lo B A l) (hk : Kept S w w') (hs : ∀ k, lo ≤ k → k < B → ¬ S k) : Pls w' lo B A l := fun k hl => by
  obtain ⟨ad, h1, h2, h3, h4⟩ := h k hl
  refine ⟨ad, h1, h2, h3, fun j v e => (World.cell?_of_block (hk.block _ (World.block_lt_of_cell? _ _ (h4 j v e)) ?_)).trans (h4 j v e)⟩
  rw [add_block]; exact hs _ h2 h3
theorem Pls.up (h : Pls w lo B A l) (hB : B ≤ C) : Pls w lo C A l := fun k hk => by
  obtain ⟨ad, h1, h2, h3, h4⟩ := h k hk
  exact ⟨ad, h1, h2, by omega, h4⟩
theorem Pls.down {lo' : Nat} (h : Pls w lo B A l) (hl : lo' ≤ lo) : Pls w lo' B A l := fun k hk => by
  obtain ⟨ad, h1, h2, h3, h4⟩ := h k hk
  exact ⟨ad, h1, by omega, h3, h4⟩
theorem Pls.take (h : Pls w lo B A l) (n : Nat) : Pls w lo B A (l.take n) := fun k hk => by
  rw [List.length_take] at hk
  obtain ⟨ad, h1, h2, h3, h4⟩ := h k (by omega)
  refine ⟨ad, h1, h2, h3, fun j v e => h4 j v ?_⟩
  rw [List.getD_eq_getElem?_getD, List.getElem?_take_of_lt (by omega), ← List.getD_eq_getElem?_getD] at e
  exact e
theorem Pls.nil : Pls w lo B A [] := fun _ hk => absurd hk (Nat.not_lt_zero _)
theorem pls_some {k : Nat} (h : Pls w lo B A l) (hk : k < l.length) : ∃ ad, A = some ad := by
  obtain ⟨ad, e, _⟩ := h k hk
  exact ⟨ad, e⟩
/-- The cells of one record of a slice, as a load spells them. -/
theorem Pls.at {ad : Addr} (h : Pls w lo B (some ad) l) (k : Nat) (hk : k < l.length) (p : Pl.P) (e : l.getD k P0 = p) :
    w.cell? (ad.add (k * 8)) = some (.int .i64 p.kind) ∧ w.cell? ⟨(ad.add (k * 8)).block, (ad.add (k * 8)).off + 1, none⟩ = some (.int .i64 p.mig) ∧ w.cell? ⟨(ad.add (k * 8)).block, (ad.add (k * 8)).off + 2, none⟩ = some (.int .i64 p.idx) ∧ w.cell? ⟨(ad.add (k * 8)).block, (ad.add (k * 8)).off + 3, none⟩ = some (.int .i64 p.tail) ∧
    w.cell? ⟨(ad.add (k * 8)).block, (ad.add (k * 8)).off + 4, none⟩ = some (.int .i64 p.t.id) ∧ w.cell? ⟨(ad.add (k * 8)).block, (ad.add (k * 8)).off + 5, none⟩ = some (.int .i64 p.t.ver) ∧ w.cell? ⟨(ad.add (k * 8)).block, (ad.add (k * 8)).off + 6, none⟩ = some (.int .i64 p.t.rs) ∧ w.cell? ⟨(ad.add (k * 8)).block, (ad.add (k * 8)).off + 7, none⟩ = some (.int .i64 p.t.reg) := by
  obtain ⟨ad', e1, _, _, h4⟩ := h k hk
  injection e1 with e1
  subst e1
  rw [e] at h4
  have g : ∀ i, 0 < i → ∀ v, (pcs p)[i]? = some v → w.cell? ⟨(ad.add (k * 8)).block, (ad.add (k * 8)).off + i, none⟩ = some v := fun i hi v hv => by
    have := h4 i v hv
    rwa [at_field _ _ _ hi] at this
  exact ⟨h4 0 _ rfl, g 1 (by decide) _ rfl, g 2 (by decide) _ rfl, g 3 (by decide) _ rfl, g 4 (by decide) _ rfl, g 5 (by decide) _ rfl, g 6 (by decide) _ rfl, g 7 (by decide) _ rfl⟩
end
theorem recs_ext {a b : List Pl.P} (hl : a.length = b.length) (h : ∀ j, j < a.length → a.getD j P0 = b.getD j P0) : a = b := by
  apply List.ext_getElem hl
  intro j h1 h2
  have e := h j h1
  rw [List.getD_eq_getElem?_getD, List.getD_eq_getElem?_getD, List.getElem?_eq_getElem h1, List.getElem?_eq_getElem h2] at e
  exact e
/-- A row of records of the call's own. -/
def PRow (w : World) (base : Nat) (v : Value) (n : Nat) (l : List Pl.P) : Prop := w.ownsRow base 34 8 v n (recs l)
section
variable {w w' : World} {base n : Nat} {v : Value} {l : List Pl.P}
theorem PRow.nil (w : World) (base : Nat) : PRow w base (.slice none 0 0) 0 [] := World.ownsRow_nil _ _ _ _
theorem PRow.length (h : PRow w base v n l) : l.length = n := by
  have := h.1
  rw [recs_length] at this
  omega
theorem PRow.open_ (h : PRow w base v n l) : ∃ A c, v = .slice A n c ∧ SlIs A n c ∧ Pls w base w.heap.size A l := by
  have hl := h.length
  rcases h.2 with ⟨rfl, rfl⟩ | ⟨g, cap, cur, rfl, hb, hg, hnc, hcm, hsz, htk⟩
  · exact ⟨none, 0, rfl, ⟨fun _ => ⟨rfl, rfl⟩, Nat.le_refl _, by decide⟩, fun k hk => absurd hk (by omega)⟩
  · refine ⟨_, cap, rfl, ⟨(fun e => by cases e), hnc, by unfold maxLen at hcm; exact hcm⟩, fun k hk => ⟨_, rfl, hb, (Array.getElem?_eq_some_iff.1 hg).1, fun j x hx => ?_⟩⟩
    have hj : j < 8 := by
      rcases Nat.lt_or_ge j 8 with h | h
      · exact h
      · rw [List.getElem?_eq_none (by exact h)] at hx; cases hx
    exact h.cells (g := g) rfl (k * 8 + j) _ (by rw [recs_at _ _ _ hk hj]; exact hx)
theorem PRow.stays (h : PRow w base v n l) (hb : Below w.heap.size w w') : PRow w' base v n l := by
  refine ⟨h.1, ?_⟩
  rcases h.2 with h0 | ⟨g, cap, cur, h1, h2, h3, h4⟩
  · exact .inl h0
  · exact .inr ⟨g, cap, cur, h1, h2, (hb.block g (Array.getElem?_eq_some_iff.1 h3).1).trans h3, h4⟩
theorem PRow.kept {S : Nat → Prop} (h : PRow w base v n l) (hk : Kept S w w') (hs : ∀ k, base ≤ k → ¬ S k) : PRow w' base v n l := by
  refine ⟨h.1, ?_⟩
  rcases h.2 with h0 | ⟨g, cap, cur, h1, h2, h3, h4⟩
  · exact .inl h0
  · exact .inr ⟨g, cap, cur, h1, h2, (hk.block g (Array.getElem?_eq_some_iff.1 h3).1 (hs _ h2)).trans h3, h4⟩
theorem PRow.made (h : PRow w base v n l) (o : Obj) : PRow (w.alloc o) base v n l := h.stays ((Below.refl _ w).alloc (Nat.le_refl _) _)
end
theorem info_plan : (Tryd.prog.info? 34).map (fun i => (i.zero, i.size, i.bytes)) = some (some (.agg #[.int .i64 0, .int .i64 0, .int .i64 0, .int .i64 0, .int .i64 0, .int .i64 0, .int .i64 0, .int .i64 0]), 8, 64) := by kernel_rfl
theorem info_parts9 {P : Program} {t : TypeId} {z : Value} {s b : Nat} (h : (P.info? t).map (fun i => (i.zero, i.size, i.bytes)) = some (some z, s, b)) : ∃ i, P.info? t = some i ∧ i.zero = some z ∧ i.size = s ∧ i.bytes = b := by
  cases hi : P.info? t with
  | none => rw [hi] at h; cases h
  | some i =>
    rw [hi] at h
    simp only [Option.map_some, Option.some.injEq, Prod.mk.injEq] at h
    exact ⟨i, rfl, h.1, h.2.1, h.2.2⟩
/-- 'append(records, p)': p lies in a box that was made for it. -/
theorem wpList_append_rec {w : World} {ops : Array Oper} {rest : List Oper} {o : Oper} {a : Act} {Q : Exit → Act → World → Prop} (hgd : o.guard = none) (s x : Operand)
    (ho : o.op = .call { callee := .builtin .append, args := #[s, x], argTypes := #[25, 25] })
    (base n g c : Nat) (v : Value) (l : List Pl.P) (p : Pl.P) (hs : a.eval s = v) (hown : PRow w base v n l) (hx : a.eval x = .slice (some ⟨g, 0, none⟩) 1 c) (hg : w.heap[g]? = some (.cells (pcs p).toArray 34 (0, 0))) (hn : n ≤ 1000) (hbase : base ≤ w.heap.size)
    (h : ∀ v' w', PRow w' base v' (n + 1) (l ++ [p]) → Below base w w' → wpList Tryd.prog ops Q rest (a.put o.dst v') w') : wpList Tryd.prog ops Q (o :: rest) a w := by
  obtain ⟨i0, hi0, hz0, hz1, hz2⟩ := info_parts9 info_plan
  refine wpList_append_own w hgd s x 25 ho base 34 i0 _ 8 64 Tryd.underlying25 hi0 hz0 hz1 hz2 rfl (by decide) v n (recs l) hs hown ⟨g, 0, none⟩ 1 c (pcs p) hx rfl (fun j u hu => ?_) (pcs_one p) (by unfold maxLen; omega) (by omega) hbase fun v' w' h2 h3 _ => h v' w' ?_ ((Below.refl _ _).grown h3 hbase fun k e => (hown.lt k e).1)
  · rw [add_flat, Nat.zero_add, cell_of_row _ _ j _ _ _ hg, List.getElem?_toArray]; exact hu
  · unfold PRow
    rw [recs_append, recs_one]
    exact h2
end Go.Proofs.YtpidbakjpfngnaaDoor
