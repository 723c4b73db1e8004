/-
  The law's Short: at most five batches of at most eight records, twice.
-/
import Derived.Test.YtcdomlgnfbdeoaaRpMem
import Derived.Test.YtcdomlgnfbdeoaaTbPr
import Derived.BigQuiet
set_option maxRecDepth 100000
namespace Go.Proofs.Ytcdomlgnfbdeoaa
open Go.RowKit
theorem info_found' : (Try.prog.info? 44).map (fun i => (i.zero, i.size, i.bytes)) = some (some (.agg (fdS.cs Fd0).toArray), fdS.m, 80) := by kernel_rfl
theorem info_bata : (Try.prog.info? 34).map (fun i => (i.zero, i.size, i.bytes)) = some (some (.agg (batS.cs Bt0).toArray), batS.m, 32) := by kernel_rfl
theorem info_batb : (Try.prog.info? 46).map (fun i => (i.zero, i.size, i.bytes)) = some (some (.agg (batS.cs Bt0).toArray), batS.m, 32) := by kernel_rfl
/-- 'append(s, p)', at an operation: what it leaves, told by the row's own block. -/
theorem op_append_off {α : Type} {Sh : Shape α} {P : Program} {w : World} {o : Oper} {a : Act} {K : Act → World → Prop} {Q : Exit → Act → World → Prop} {e : TypeId} {zv : Value} {bytes : Nat} (s x : Operand) (t : TypeId) (ho : o.op = .call { callee := .builtin .append, args := #[s, x], argTypes := #[t, t] })
    (ht : P.underlying t = some (.slice e)) (hi : (P.info? e).map (fun i => (i.zero, i.size, i.bytes)) = some (some zv, Sh.m, bytes)) (hzs : zv.cells.size = Sh.m)
    (v : Value) (n : Nat) (l : List α) (hs : a.eval s = v) (hown : w.ownsRow 0 e Sh.m v n (Sh.flat l)) (g c : Nat) (p : α) (hx : a.eval x = .slice (some ⟨g, 0, none⟩) 1 c) (hg : w.heap[g]? = some (.cells (Sh.cs p).toArray e (0, 0))) (h63 : n ≤ 1000000) (hbytes : (n + 1) * bytes ≤ 140737488355328)
    (h : ∀ v' w', w'.ownsRow 0 e Sh.m v' (n + 1) (Sh.flat (l ++ [p])) → Kept (fun k => v.ownBlock = some k) w w' → (∀ g, v'.ownBlock = some g → v.ownBlock = some g ∨ w.heap.size ≤ g) → K (a.put o.dst v') w') : o.wp P a w K Q :=
  op_append_one (S := fun k => v.ownBlock = some k) s x t ho ht hi hzs v n l hs ⟨hown, fun _ e => e⟩ g c p hx hg h63 hbytes fun v' w' h1 h2 => h v' w' h1.1 h2 h1.2
/-- A found record as the law's Short has it. -/
def Fd.sh (f : Fd) : Fd := ⟨f.off, f.len, ⟨f.rd.kd, f.rd.x, f.rd.A1, none, min f.rd.n1 10, f.rd.c1, 0, 0, f.rd.key.take 10, []⟩⟩
theorem sh_here {w : World} {B : Nat} {f : Fd} (h : f.rd.here w B) : f.sh.rd.here w B := by
  obtain ⟨⟨⟨a1, a2, a3⟩, a4, a5⟩, -⟩ := h
  refine ⟨⟨⟨fun e => ?_, ?_, a3⟩, ?_, a5.take _⟩, ⟨⟨fun _ => ⟨rfl, rfl⟩, Nat.le_refl _, by show (0 : Nat) ≤ _; omega⟩, rfl, fun k hk => absurd hk (Nat.not_lt_zero _)⟩⟩
  · have := a1 e; simp only [Fd.sh]; omega
  · simp only [Fd.sh]; omega
  · simp only [Fd.sh]; rw [List.length_take]; omega
/-- The value of a batch's list. -/
def Bt.v (b : Bt) : Value := .slice b.A b.n b.c
/-- Two rows of batches, apart from each other and from the lists in them. -/
structure ShSt (N : Nat) (w : World) (av bv : Value) (la lb li : List Bt) : Prop where
  ra : w.ownsRow 0 34 2 av la.length (batS.flat la)
  rb : w.ownsRow 0 46 2 bv lb.length (batS.flat lb)
  oa : ∀ g, av.ownBlock = some g → N ≤ g ∧ bv.ownBlock ≠ some g
  ob : ∀ g, bv.ownBlock = some g → N ≤ g
  inn : ∀ b ∈ li, SRow (fun k => N ≤ k ∧ av.ownBlock ≠ some k ∧ bv.ownBlock ≠ some k) 44 6 w b.v b.n (fdS.flat b.fds) ∧ b.n ≤ 8 ∧ ∀ f ∈ b.fds, f.rd.here w N ∧ f.rd.n1 ≤ 10
theorem ShSt.nil (N : Nat) (w : World) : ShSt N w (.slice none 0 0) (.slice none 0 0) [] [] [] :=
  ⟨World.ownsRow_nil _ _ _ _, World.ownsRow_nil _ _ _ _, (fun g e => (by cases e)), (fun g e => (by cases e)), (fun b h => (by cases h))⟩
section
variable {N : Nat} {w w' : World} {av bv av' bv' : Value} {la lb li : List Bt} {b : Bt}
theorem ShSt.next (h : ShSt N w av bv la lb li) (hN : N ≤ w.heap.size) (hb : Below w.heap.size w w') : ShSt N w' av bv la lb li :=
  ⟨ownsRow_block h.ra fun k e => hb.block k (h.ra.lt k e).2, ownsRow_block h.rb fun k e => hb.block k (h.rb.lt k e).2, h.oa, h.ob, fun b hm => ⟨(h.inn b hm).1.new hb, (h.inn b hm).2.1, fun f hf => ⟨((h.inn b hm).2.2 f hf).1.below hb hN, ((h.inn b hm).2.2 f hf).2⟩⟩⟩
/-- One more in the first row. -/
theorem ShSt.appA (h : ShSt N w av bv la lb li) (hN : N ≤ w.heap.size) (hr : w'.ownsRow 0 34 2 av' (la.length + 1) (batS.flat (la ++ [b]))) (hk : Kept (fun k => av.ownBlock = some k) w w') (ho : ∀ g, av'.ownBlock = some g → av.ownBlock = some g ∨ w.heap.size ≤ g) : ShSt N w' av' bv (la ++ [b]) lb li := by
  have hbl : Below N w w' := hk.below hN fun k e => (h.oa k e).1
  refine ⟨by rw [List.length_append]; exact hr, ownsRow_block h.rb fun k e => hk.block k (h.rb.lt k e).2 fun e2 => (h.oa k e2).2 e, fun g e => ?_, h.ob, fun x hm => ⟨?_, (h.inn x hm).2.1, fun f hf => ⟨((h.inn x hm).2.2 f hf).1.below hbl (Nat.le_refl _), ((h.inn x hm).2.2 f hf).2⟩⟩⟩
  · rcases ho g e with e1 | e1
    · exact h.oa g e1
    · exact ⟨Nat.le_trans hN e1, fun e2 => Nat.lt_irrefl _ (Nat.lt_of_lt_of_le (h.rb.lt g e2).2 e1)⟩
  · have hx := (h.inn x hm).1
    exact ((hx.mono (T := fun k => (N ≤ k ∧ av.ownBlock ≠ some k ∧ bv.ownBlock ≠ some k) ∧ k < w.heap.size) fun k hl e => ⟨e, hl⟩).kept hk fun k _ e e2 => e.1.2.1 e2).mono fun k _ e => ⟨e.1.1, fun e2 => by
      rcases ho k e2 with e3 | e3
      · exact e.1.2.1 e3
      · have := e.2; omega, e.1.2.2⟩
/-- One more in the second row. -/
theorem ShSt.appB (h : ShSt N w av bv la lb li) (hN : N ≤ w.heap.size) (hr : w'.ownsRow 0 46 2 bv' (lb.length + 1) (batS.flat (lb ++ [b]))) (hk : Kept (fun k => bv.ownBlock = some k) w w') (ho : ∀ g, bv'.ownBlock = some g → bv.ownBlock = some g ∨ w.heap.size ≤ g) : ShSt N w' av bv' la (lb ++ [b]) li := by
  have hbl : Below N w w' := hk.below hN fun k e => h.ob k e
  refine ⟨ownsRow_block h.ra fun k e => hk.block k (h.ra.lt k e).2 fun e2 => (h.oa k e).2 e2, by rw [List.length_append]; exact hr, fun g e => ⟨(h.oa g e).1, fun e2 => ?_⟩, fun g e => ?_, fun x hm => ⟨?_, (h.inn x hm).2.1, fun f hf => ⟨((h.inn x hm).2.2 f hf).1.below hbl (Nat.le_refl _), ((h.inn x hm).2.2 f hf).2⟩⟩⟩
  · rcases ho g e2 with e1 | e1
    · exact (h.oa g e).2 e1
    · exact Nat.lt_irrefl _ (Nat.lt_of_lt_of_le (h.ra.lt g e).2 e1)
  · rcases ho g e with e1 | e1
    · exact h.ob g e1
    · exact Nat.le_trans hN e1
  · have hx := (h.inn x hm).1
    exact ((hx.mono (T := fun k => (N ≤ k ∧ av.ownBlock ≠ some k ∧ bv.ownBlock ≠ some k) ∧ k < w.heap.size) fun k hl e => ⟨e, hl⟩).kept hk fun k _ e e2 => e.1.2.2 e2).mono fun k _ e => ⟨e.1.1, e.1.2.1, fun e2 => by
      rcases ho k e2 with e3 | e3
      · exact e.1.2.2 e3
      · have := e.2; omega⟩
/-- A list that was built since. -/
theorem ShSt.add {N1 : Nat} (h : ShSt N w av bv la lb li) (hN : N ≤ N1) (ha : ∀ g, av.ownBlock = some g → g < N1) (hb : ∀ g, bv.ownBlock = some g → g < N1) (hr : SRow (fun k => N1 ≤ k) 44 6 w b.v b.n (fdS.flat b.fds)) (h8 : b.n ≤ 8) (hf : ∀ f ∈ b.fds, f.rd.here w N ∧ f.rd.n1 ≤ 10) : ShSt N w av bv la lb (li ++ [b]) :=
  ⟨h.ra, h.rb, h.oa, h.ob, fun x hm => by
    rcases List.mem_append.1 hm with hm | hm
    · exact h.inn x hm
    · rw [List.mem_singleton.1 hm]
      exact ⟨hr.mono fun k _ e => ⟨Nat.le_trans hN e, fun e2 => by have := ha k e2; omega, fun e2 => by have := hb k e2; omega⟩, h8, hf⟩⟩
/-- What a reader sees of the first row, and of the second one. -/
theorem ShSt.readA (h : ShSt N w av bv la lb la) (hN : N ≤ w.heap.size) : ∃ A c, av = .slice A la.length c ∧ SlIs A la.length c ∧ BtsAt w w.heap.size A la := by
  obtain ⟨A, c, e, hs, ha⟩ := ARow.open_ (S := batS) h.ra
  refine ⟨A, c, e, hs, ha, fun b hm => ?_⟩
  obtain ⟨hr, -, hf⟩ := h.inn b hm
  obtain ⟨A1, c1, e1, hs1, ha1⟩ := ARow.open_ (S := fdS) hr.1
  injection e1 with e1 e2 e3
  have hl : b.fds.length = b.n := ARow.length (S := fdS) hr.1
  subst e3
  rw [← e1] at hs1 ha1
  exact ⟨hs1, hl, ha1, fun f hm => by
    obtain ⟨⟨p1, p2, p3⟩, ⟨q1, q2, q3⟩⟩ := (hf f hm).1
    exact ⟨⟨p1, p2, p3.more hN⟩, ⟨q1, q2, q3.more hN⟩⟩⟩
theorem ShSt.readB (h : ShSt N w av bv la lb lb) (hN : N ≤ w.heap.size) : ∃ A c, bv = .slice A lb.length c ∧ SlIs A lb.length c ∧ BtsAt w w.heap.size A lb := by
  obtain ⟨A, c, e, hs, ha⟩ := ARow.open_ (S := batS) h.rb
  refine ⟨A, c, e, hs, ha, fun b hm => ?_⟩
  obtain ⟨hr, -, hf⟩ := h.inn b hm
  obtain ⟨A1, c1, e1, hs1, ha1⟩ := ARow.open_ (S := fdS) hr.1
  injection e1 with e1 e2 e3
  have hl : b.fds.length = b.n := ARow.length (S := fdS) hr.1
  subst e3
  rw [← e1] at hs1 ha1
  exact ⟨hs1, hl, ha1, fun f hm => by
    obtain ⟨⟨p1, p2, p3⟩, ⟨q1, q2, q3⟩⟩ := (hf f hm).1
    exact ⟨⟨p1, p2, p3.more hN⟩, ⟨q1, q2, q3.more hN⟩⟩⟩
end
end Go.Proofs.Ytcdomlgnfbdeoaa
