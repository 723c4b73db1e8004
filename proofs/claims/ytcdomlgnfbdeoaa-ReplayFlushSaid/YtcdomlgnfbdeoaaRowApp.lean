/-
  Rows in blocks of a set: one more thing, a whole row behind another.
-/
import Derived.Test.YtcdomlgnfbdeoaaOwn
set_option maxRecDepth 100000
namespace Go.Proofs.Ytcdomlgnfbdeoaa
open Go.RowKit
theorem SRow.cells {S : Nat → Prop} {t : TypeId} {z n m c : Nat} {w : World} {A : Option Addr} {xs : List Value} (h : SRow S t z w (.slice A m c) n xs) : ∀ ad, A = some ad → ∀ j u, xs[j]? = some u → w.cell? (ad.add j) = some u := fun ad e j u hu => by
  rcases h.1.2 with ⟨e1, -⟩ | ⟨g, cap, cur, e1, -⟩
  · injection e1 with e1; rw [e] at e1; cases e1
  · injection e1 with e1
    rw [e] at e1
    injection e1 with e1
    subst e1
    exact h.1.cells (g := g) (by rw [e]; rfl) j u hu
theorem SRow.len {α : Type} {Sh : Shape α} {S : Nat → Prop} {t : TypeId} {n : Nat} {w : World} {v : Value} {l : List α} (h : SRow S t Sh.m w v n (Sh.flat l)) : l.length = n := ARow.length h.1
theorem Shape.flat_one' {α : Type} (Sh : Shape α) (l : List α) : ∀ u ∈ Sh.flat l, u.oneCell' = true := fun u hu => by
  unfold Shape.flat at hu
  obtain ⟨a, -, h⟩ := List.mem_flatMap.1 hu
  exact Sh.one a u h
section
variable {α : Type} {Sh : Shape α} {P : Program} {w : World} {S : Nat → Prop} {o : Oper} {a : Act} {K : Act → World → Prop} {Q : Exit → Act → World → Prop} {e : TypeId} {zv : Value} {bytes : Nat}
/-- 'append(s, p)': p lies in a box that was made for it. -/
theorem op_append_one (s x : Operand) (t : TypeId) (ho : o.op = .call { callee := .builtin .append, args := #[s, x], argTypes := #[t, t] })
    (ht : P.underlying t = some (.slice e)) (hi : (P.info? e).map (fun i => (i.zero, i.size, i.bytes)) = some (some zv, Sh.m, bytes)) (hzs : zv.cells.size = Sh.m)
    (v : Value) (n : Nat) (l : List α) (hs : a.eval s = v) (hown : SRow S e Sh.m w v n (Sh.flat l)) (g c : Nat) (p : α) (hx : a.eval x = .slice (some ⟨g, 0, none⟩) 1 c) (hg : w.heap[g]? = some (.cells (Sh.cs p).toArray e (0, 0))) (h63 : n ≤ 1000000) (hbytes : (n + 1) * bytes ≤ 140737488355328)
    (h : ∀ v' w', SRow (Grow S w) e Sh.m w' v' (n + 1) (Sh.flat (l ++ [p])) → Kept S w w' → K (a.put o.dst v') w') : o.wp P a w K Q := by
  refine op_append_srow s x t ho e zv Sh.m bytes ht hi hzs Sh.pos v n (Sh.flat l) hs hown (some ⟨g, 0, none⟩) 1 c (Sh.cs p) hx (fun e => by cases e) (by rw [Sh.len, Nat.one_mul]) (fun ad e j u hu => ?_) (Sh.one p) (by unfold maxLen; omega) hbytes fun v' w' h1 h2 => h v' w' (by rw [Sh.flat_append, Sh.flat_one]; exact h1) h2
  injection e with e
  subst e
  rw [arr_flat, Nat.zero_add, cell_of_row _ _ j _ _ _ hg, List.getElem?_toArray]; exact hu
/-- 'append(s, x...)': x a row. -/
theorem op_append_all {U : Nat → Prop} (s x : Operand) (t : TypeId) (ho : o.op = .call { callee := .builtin .append, args := #[s, x], argTypes := #[t, t] })
    (ht : P.underlying t = some (.slice e)) (hi : (P.info? e).map (fun i => (i.zero, i.size, i.bytes)) = some (some zv, Sh.m, bytes)) (hzs : zv.cells.size = Sh.m)
    (v : Value) (n : Nat) (l : List α) (hs : a.eval s = v) (hown : SRow S e Sh.m w v n (Sh.flat l)) (u : Value) (m : Nat) (p : List α) (hx : a.eval x = u) (hu : SRow U e Sh.m w u m (Sh.flat p)) (h63 : n + m ≤ 1000000) (hbytes : (n + m) * bytes ≤ 140737488355328)
    (h : ∀ v' w', SRow (Grow S w) e Sh.m w' v' (n + m) (Sh.flat (l ++ p)) → Kept S w w' → K (a.put o.dst v') w') : o.wp P a w K Q := by
  obtain ⟨A, c, rfl, hsl⟩ := hu.open_
  exact op_append_srow s x t ho e zv Sh.m bytes ht hi hzs Sh.pos v n (Sh.flat l) hs hown A m c (Sh.flat p) hx (fun e => ⟨(hsl.1 e).2, (hsl.1 e).1⟩) (by rw [Sh.flat_length, hu.len]) hu.cells (Sh.flat_one' p) (by unfold maxLen; omega) hbytes fun v' w' h1 h2 => h v' w' (by rw [Sh.flat_append]; exact h1) h2
end
/-- 'append(s, p)' in a walk: p lies in a box that was made for it; rows in blocks of a set. -/
theorem append_one {α : Type} {Sh : Shape α} {P : Program} {w : World} {S : Nat → Prop} {ops : Array Oper} {rest : List Oper} {o : Oper} {a : Act} {Q : Exit → Act → World → Prop} {e : TypeId} {zv : Value} {bytes : Nat} (hgd : Region.wanted o (yielded ops a.tmps) = true) (s x : Operand) (t : TypeId) (ho : o.op = .call { callee := .builtin .append, args := #[s, x], argTypes := #[t, t] })
    (ht : P.underlying t = some (.slice e)) (hi : (P.info? e).map (fun i => (i.zero, i.size, i.bytes)) = some (some zv, Sh.m, bytes)) (hzs : zv.cells.size = Sh.m)
    (v : Value) (n : Nat) (l : List α) (hs : a.eval s = v) (hown : SRow S e Sh.m w v n (Sh.flat l)) (g c : Nat) (p : α) (hx : a.eval x = .slice (some ⟨g, 0, none⟩) 1 c) (hg : w.heap[g]? = some (.cells (Sh.cs p).toArray e (0, 0))) (h63 : n ≤ 1000000) (hbytes : (n + 1) * bytes ≤ 140737488355328)
    (h : ∀ v' w', SRow (Grow S w) e Sh.m w' v' (n + 1) (Sh.flat (l ++ [p])) → Kept S w w' → wpList P ops Q rest (a.put o.dst v') w') : wpList P ops Q (o :: rest) a w :=
  BigFrame.wpList_want hgd fun _ hK => op_append_one s x t ho ht hi hzs v n l hs hown g c p hx hg h63 hbytes fun v' w' h1 h2 => hK _ _ (h v' w' h1 h2)
/-- 'append(s, x...)' in a walk: both are rows. -/
theorem append_all {α : Type} {Sh : Shape α} {P : Program} {w : World} {S U : Nat → Prop} {ops : Array Oper} {rest : List Oper} {o : Oper} {a : Act} {Q : Exit → Act → World → Prop} {e : TypeId} {zv : Value} {bytes : Nat} (hgd : Region.wanted o (yielded ops a.tmps) = true) (s x : Operand) (t : TypeId) (ho : o.op = .call { callee := .builtin .append, args := #[s, x], argTypes := #[t, t] })
    (ht : P.underlying t = some (.slice e)) (hi : (P.info? e).map (fun i => (i.zero, i.size, i.bytes)) = some (some zv, Sh.m, bytes)) (hzs : zv.cells.size = Sh.m)
    (v : Value) (n : Nat) (l : List α) (hs : a.eval s = v) (hown : SRow S e Sh.m w v n (Sh.flat l)) (u : Value) (m : Nat) (p : List α) (hx : a.eval x = u) (hu : SRow U e Sh.m w u m (Sh.flat p)) (h63 : n + m ≤ 1000000) (hbytes : (n + m) * bytes ≤ 140737488355328)
    (h : ∀ v' w', SRow (Grow S w) e Sh.m w' v' (n + m) (Sh.flat (l ++ p)) → Kept S w w' → wpList P ops Q rest (a.put o.dst v') w') : wpList P ops Q (o :: rest) a w :=
  BigFrame.wpList_want hgd fun _ hK => op_append_all s x t ho ht hi hzs v n l hs hown u m p hx hu h63 hbytes fun v' w' h1 h2 => hK _ _ (h v' w' h1 h2)
/-- Things read in blocks that stay. -/
theorem Arr.kept {α : Type} {Sh : Shape α} {T : Nat → Prop} {w w' : World} {lo B : Nat} {A : Option Addr} {l : List α} (h : Arr Sh w lo B A l) (hk : Kept T w w') (hB : B ≤ w.heap.size) (hd : ∀ k, lo ≤ k → k < B → ¬ T k) : Arr Sh w' lo B A l := fun k hl => by
  obtain ⟨ad, h1, h2, h3, h4⟩ := h k hl
  exact ⟨ad, h1, h2, h3, fun j v e => (World.cell?_of_block (by rw [add_block]; exact hk.block _ (Nat.lt_of_lt_of_le h3 hB) (hd _ h2 h3))).trans (h4 j v e)⟩
theorem SRow.ofRow {α : Type} {Sh : Shape α} {t : TypeId} {w : World} {base n : Nat} {v : Value} {l : List α} (h : ARow Sh t w base v n l) : SRow (fun k => base ≤ k) t Sh.m w v n (Sh.flat l) := ⟨ownsRow_mono h (Nat.zero_le _), fun k e => (World.ownsRow.lt h k e).1⟩
/-- Appends at an operation whose place is named. -/
theorem op_srow_to {P : Program} {w : World} {S : Nat → Prop} {o : Oper} {a : Act} {K : Act → World → Prop} {Q : Exit → Act → World → Prop} (d : Tmp) (hd : o.dst = some d) (s x : Operand) (t : TypeId)
    (ho : o.op = .call { callee := .builtin .append, args := #[s, x], argTypes := #[t, t] })
    (e : TypeId) (z : Value) (size bytes : Nat) (ht : P.underlying t = some (.slice e)) (hi : (P.info? e).map (fun i => (i.zero, i.size, i.bytes)) = some (some z, size, bytes))
    (hzs : z.cells.size = size) (hsz : 0 < size)
    (v : Value) (n : Nat) (xs : List Value) (hs : a.eval s = v) (hown : SRow S e size w v n xs)
    (A : Option Addr) (m c : Nat) (news : List Value) (hx : a.eval x = .slice A m c) (hA : A = none → m = 0 ∧ c = 0) (hl : news.length = m * size)
    (hnews : ∀ ad, A = some ad → ∀ j u, news[j]? = some u → w.cell? (ad.add j) = some u) (h1 : ∀ u ∈ news, u.oneCell' = true)
    (h63 : n + m ≤ maxLen) (hbytes : (n + m) * bytes ≤ 140737488355328)
    (h : ∀ v' w', SRow (Grow S w) e size w' v' (n + m) (xs ++ news) → Kept S w w' → K (a.put (some d) v') w') : o.wp P a w K Q :=
  op_append_srow s x t ho e z size bytes ht hi hzs hsz v n xs hs hown A m c news hx hA hl hnews h1 h63 hbytes fun v' w' h1 h2 => by rw [hd]; exact h v' w' h1 h2
theorem op_one_to {α : Type} {Sh : Shape α} {P : Program} {w : World} {S : Nat → Prop} {o : Oper} {a : Act} {K : Act → World → Prop} {Q : Exit → Act → World → Prop} {e : TypeId} {zv : Value} {bytes : Nat} (d : Tmp) (hd : o.dst = some d) (s x : Operand) (t : TypeId) (ho : o.op = .call { callee := .builtin .append, args := #[s, x], argTypes := #[t, t] })
    (ht : P.underlying t = some (.slice e)) (hi : (P.info? e).map (fun i => (i.zero, i.size, i.bytes)) = some (some zv, Sh.m, bytes)) (hzs : zv.cells.size = Sh.m)
    (v : Value) (n : Nat) (l : List α) (hs : a.eval s = v) (hown : SRow S e Sh.m w v n (Sh.flat l)) (g c : Nat) (p : α) (hx : a.eval x = .slice (some ⟨g, 0, none⟩) 1 c) (hg : w.heap[g]? = some (.cells (Sh.cs p).toArray e (0, 0))) (h63 : n ≤ 1000000) (hbytes : (n + 1) * bytes ≤ 140737488355328)
    (h : ∀ v' w', SRow (Grow S w) e Sh.m w' v' (n + 1) (Sh.flat (l ++ [p])) → Kept S w w' → K (a.put (some d) v') w') : o.wp P a w K Q :=
  op_append_one s x t ho ht hi hzs v n l hs hown g c p hx hg h63 hbytes fun v' w' h1 h2 => by rw [hd]; exact h v' w' h1 h2
end Go.Proofs.Ytcdomlgnfbdeoaa
