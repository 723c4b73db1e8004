/-
  Rows that lie in blocks of a set, and colours of blocks: which thing a block belongs to.
-/
import Derived.Test.YtcdomlgnfbdeoaaKept
import Derived.Test.YtcdomlgnfbdeoaaArr
set_option maxRecDepth 100000
namespace Go.Proofs.Ytcdomlgnfbdeoaa
open Go.RowKit
/-- The blocks of S, and those made since. -/
def Grow (S : Nat → Prop) (w : World) (k : Nat) : Prop := S k ∨ w.heap.size ≤ k
/-- A row in a block of S, or nil. -/
def SRow (S : Nat → Prop) (t : TypeId) (z : Nat) (w : World) (v : Value) (n : Nat) (xs : List Value) : Prop := w.ownsRow 0 t z v n xs ∧ ∀ k, v.ownBlock = some k → S k
section
variable {S T : Nat → Prop} {t : TypeId} {z n : Nat} {w w' : World} {v : Value} {xs : List Value}
theorem ownsRow_block {b : Nat} (h : w.ownsRow b t z v n xs) (hb : ∀ k, v.ownBlock = some k → w'.heap[k]? = w.heap[k]?) : w'.ownsRow b t z v n xs := by
  refine ⟨h.1, ?_⟩
  rcases h.2 with h0 | ⟨g, cap, cur, rfl, h2, h3, h4⟩
  · exact .inl h0
  · exact .inr ⟨g, cap, cur, rfl, h2, (hb g rfl).trans h3, h4⟩
theorem SRow.lt (h : SRow S t z w v n xs) {k : Nat} (hk : v.ownBlock = some k) : k < w.heap.size := (h.1.lt k hk).2
theorem SRow.kept (h : SRow S t z w v n xs) (hk : Kept T w w') (hd : ∀ k, k < w.heap.size → S k → ¬ T k) : SRow S t z w' v n xs :=
  ⟨ownsRow_block h.1 fun k e => hk.block k (h.lt e) (hd k (h.lt e) (h.2 k e)), h.2⟩
theorem SRow.mono (h : SRow S t z w v n xs) (hs : ∀ k, k < w.heap.size → S k → T k) : SRow T t z w v n xs := ⟨h.1, fun k e => hs k (h.lt e) (h.2 k e)⟩
theorem SRow.new (h : SRow S t z w v n xs) (hb : Below w.heap.size w w') : SRow S t z w' v n xs := ⟨ownsRow_block h.1 fun k e => hb.block k (h.lt e), h.2⟩
theorem SRow.nil : SRow S t z w (.slice none 0 0) 0 [] := ⟨World.ownsRow_nil _ _ _ _, fun _ e => by cases e⟩
theorem SRow.of (h : w'.ownsRow w.heap.size t z v n xs) : SRow (Grow S w) t z w' v n xs := ⟨ownsRow_mono h (Nat.zero_le _), fun k e => .inr (h.lt k e).1⟩
theorem SRow.open_ (h : SRow S t z w v n xs) : ∃ A c, v = .slice A n c ∧ SlIs A n c := by
  rcases h.1.2 with ⟨rfl, rfl⟩ | ⟨g, cap, cur, rfl, hb, hg, hnc, hcm, hsz, htk⟩
  · exact ⟨none, 0, rfl, fun _ => ⟨rfl, rfl⟩, Nat.le_refl _, by decide⟩
  · exact ⟨_, cap, rfl, (fun e => by cases e), hnc, by unfold maxLen at hcm; exact hcm⟩
end
/-- 'append(out, xs...)': out a row in S, xs nil, empty or not. -/
theorem op_append_srow {P : Program} {w : World} {S : Nat → Prop} {o : Oper} {a : Act} {K : Act → World → Prop} {Q : Exit → Act → World → Prop} (s x : Operand) (t : TypeId)
    (ho : o.op = .call { callee := .builtin .append, args := #[s, x], argTypes := #[t, t] })
    (e : TypeId) (z : Value) (size bytes : Nat) (ht : P.underlying t = some (.slice e)) (hi : (P.info? e).map (fun i => (i.zero, i.size, i.bytes)) = some (some z, size, bytes))
    (hzs : z.cells.size = size) (hsz : 0 < size)
    (v : Value) (n : Nat) (xs : List Value) (hs : a.eval s = v) (hown : SRow S e size w v n xs)
    (A : Option Addr) (m c : Nat) (news : List Value) (hx : a.eval x = .slice A m c) (hA : A = none → m = 0 ∧ c = 0) (hl : news.length = m * size)
    (hnews : ∀ ad, A = some ad → ∀ j u, news[j]? = some u → w.cell? (ad.add j) = some u) (h1 : ∀ u ∈ news, u.oneCell' = true)
    (h63 : n + m ≤ maxLen) (hbytes : (n + m) * bytes ≤ 140737488355328)
    (h : ∀ v' w', SRow (Grow S w) e size w' v' (n + m) (xs ++ news) → Kept S w w' → K (a.put o.dst v') w') : o.wp P a w K Q := by
  obtain ⟨i, hi0, hz, hsize, hby⟩ := arr_info hi
  cases A with
  | none =>
    obtain ⟨rfl, rfl⟩ := hA rfl
    have hn : news = [] := List.eq_nil_of_length_eq_zero (by simpa using hl)
    subst hn
    have hrun := run_append_owned_none (P := P) (w := w) 0 t o.type e i size ht hi0 v n xs hown.1
    unfold Oper.wp
    simp [execOp, ho, resolve, invoke, builtin, hs, hx, hrun, Result.andThen]
    have h0 : SRow (Grow S w) e size w v n xs := hown.mono fun k _ hk => Or.inl hk
    exact h v w (by simpa using h0) (Kept.refl _ _)
  | some ad =>
    obtain ⟨v', w', hr, h2, h3, h4, h5⟩ := run_append_own_at (P := P) w 0 t o.type e i z size bytes ht hi0 hz hsize hby hzs hsz v n xs hown.1 ad m c news hl (hnews ad rfl) h1 h63 hbytes (Nat.zero_le _)
    unfold Oper.wp execOp
    simp only [ho, resolve, invoke, builtin, Sem.run_bind, Sem.run_pure, Result.andThen_ok, List.map_toArray, List.map_cons, List.map_nil, hs, hx, hr]
    refine h v' w' ⟨h2, fun k e => ?_⟩ (Kept.of_grown h3 fun k e => hown.2 k e)
    rcases h5 with h5 | h5
    · exact .inl (hown.2 k (h5.symm.trans e))
    · exact .inr (by rw [h5] at e; injection e with e; omega)
/-- The same in a walk; the operation may stand behind a guard that says yes. -/
theorem append_srow {P : Program} {w : World} {S : Nat → Prop} {ops : Array Oper} {rest : List Oper} {o : Oper} {a : Act} {Q : Exit → Act → World → Prop} (hgd : Region.wanted o (yielded ops a.tmps) = true) (s x : Operand) (t : TypeId)
    (ho : o.op = .call { callee := .builtin .append, args := #[s, x], argTypes := #[t, t] })
    (e : TypeId) (z : Value) (size bytes : Nat) (ht : P.underlying t = some (.slice e)) (hi : (P.info? e).map (fun i => (i.zero, i.size, i.bytes)) = some (some z, size, bytes))
    (hzs : z.cells.size = size) (hsz : 0 < size)
    (v : Value) (n : Nat) (xs : List Value) (hs : a.eval s = v) (hown : SRow S e size w v n xs)
    (A : Option Addr) (m c : Nat) (news : List Value) (hx : a.eval x = .slice A m c) (hA : A = none → m = 0 ∧ c = 0) (hl : news.length = m * size)
    (hnews : ∀ ad, A = some ad → ∀ j u, news[j]? = some u → w.cell? (ad.add j) = some u) (h1 : ∀ u ∈ news, u.oneCell' = true)
    (h63 : n + m ≤ maxLen) (hbytes : (n + m) * bytes ≤ 140737488355328)
    (h : ∀ v' w', SRow (Grow S w) e size w' v' (n + m) (xs ++ news) → Kept S w w' → wpList P ops Q rest (a.put o.dst v') w') : wpList P ops Q (o :: rest) a w :=
  BigFrame.wpList_want hgd fun _ hK => op_append_srow s x t ho e z size bytes ht hi hzs hsz v n xs hs hown A m c news hx hA hl hnews h1 h63 hbytes fun v' w' h2 h3 => hK _ _ (h v' w' h2 h3)
/-- The same at a step of a region that draws its order. -/
theorem step_append_srow {P : Program} {w : World} {S : Nat → Prop} {ops : Array Oper} {o : Oper} {a : Act} {K : Act → World → Prop} {Q : Exit → Act → World → Prop} {E : Prop} (hgd : Region.wanted o (yielded ops a.tmps) = true) (s x : Operand) (t : TypeId)
    (ho : o.op = .call { callee := .builtin .append, args := #[s, x], argTypes := #[t, t] })
    (e : TypeId) (z : Value) (size bytes : Nat) (ht : P.underlying t = some (.slice e)) (hi : (P.info? e).map (fun i => (i.zero, i.size, i.bytes)) = some (some z, size, bytes))
    (hzs : z.cells.size = size) (hsz : 0 < size)
    (v : Value) (n : Nat) (xs : List Value) (hs : a.eval s = v) (hown : SRow S e size w v n xs)
    (A : Option Addr) (m c : Nat) (news : List Value) (hx : a.eval x = .slice A m c) (hA : A = none → m = 0 ∧ c = 0) (hl : news.length = m * size)
    (hnews : ∀ ad, A = some ad → ∀ j u, news[j]? = some u → w.cell? (ad.add j) = some u) (h1 : ∀ u ∈ news, u.oneCell' = true)
    (h63 : n + m ≤ maxLen) (hbytes : (n + m) * bytes ≤ 140737488355328)
    (h : ∀ v' w', SRow (Grow S w) e size w' v' (n + m) (xs ++ news) → Kept S w w' → K (a.put o.dst v') w') : if Region.wanted o (yielded ops a.tmps) = true then Oper.wp P o a w K Q else E := by
  rw [if_pos hgd]
  exact op_append_srow s x t ho e z size bytes ht hi hzs hsz v n xs hs hown A m c news hx hA hl hnews h1 h63 hbytes h
/-- Colours of blocks: 0 for those that belong to no thing, among them those not made yet, and those before base. -/
def Col (base : Nat) (w : World) (c : Nat → Nat) : Prop := (∀ k, w.heap.size ≤ k → c k = 0) ∧ ∀ k, c k ≠ 0 → base ≤ k
/-- The blocks made between two worlds get the colour i. -/
def paint (c : Nat → Nat) (w w' : World) (i k : Nat) : Nat := if w.heap.size ≤ k ∧ k < w'.heap.size then i else c k
section
variable {w w' : World} {c : Nat → Nat} {base i j k : Nat}
theorem Col.none (w : World) (base : Nat) : Col base w fun _ => 0 := ⟨fun _ _ => rfl, fun _ h => absurd rfl h⟩
theorem Col.next (h : Col base w c) (hs : w.heap.size ≤ w'.heap.size) : Col base w' c := ⟨fun k hk => h.1 k (by omega), h.2⟩
theorem paint_old (hk : k < w.heap.size) : paint c w w' i k = c k := by unfold paint; rw [if_neg (by omega)]
theorem Col.paint (h : Col base w c) (hB : base ≤ w.heap.size) (hs : w.heap.size ≤ w'.heap.size) (i : Nat) : Col base w' (paint c w w' i) := ⟨fun k hk => by
  show (if w.heap.size ≤ k ∧ k < w'.heap.size then i else c k) = 0
  rw [if_neg (by omega)]
  exact h.1 k (by omega), fun k hk => by
  by_cases hw : w.heap.size ≤ k
  · omega
  · rw [paint_old (by omega)] at hk
    exact h.2 k hk⟩
theorem paint_self (hk : k < w'.heap.size) (h : Grow (fun k => c k = i) w k) : paint c w w' i k = i := by
  unfold paint
  split
  · rfl
  · rcases h with h | h
    · exact h
    · omega
theorem paint_keep (hk : k < w.heap.size) (h : c k = j) : paint c w w' i k = j := (paint_old hk).trans h
theorem Col.below (h : Col base w c) (hB : base ≤ w.heap.size) (hk : Kept (fun k => c k = i) w w') (hi : i ≠ 0) : Below base w w' := hk.below hB fun k e => h.2 k (by omega)
/-- A block of no thing stays while a thing changes. -/
theorem Col.free (hk : Kept (fun k => c k = i) w w') {b : Nat} {o : Obj} (hb : w.heap[b]? = some o) (hc : c b = 0) (hi : i ≠ 0) : w'.heap[b]? = some o :=
  (hk.block b (Array.getElem?_eq_some_iff.1 hb).1 (by omega)).trans hb
theorem Col.tab (h : Col base w c) (hB : 0 < base) (hw : base ≤ w.heap.size) (hk : Kept (fun k => c k = i) w w') (hi : i ≠ 0) (ht : TabW w) : TabW w' := ht.below (h.below hw hk hi) hB
end
end Go.Proofs.Ytcdomlgnfbdeoaa
