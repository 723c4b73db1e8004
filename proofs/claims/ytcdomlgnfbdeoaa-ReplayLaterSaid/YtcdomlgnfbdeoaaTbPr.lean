/-
  Pairs in memory: their cells, one more in a row; boxes of five cells.
-/
import Derived.Test.YtcdomlgnfbdeoaaTbOrd
import Derived.Test.YtcdomlgnfbdeoaaRowApp
import Derived.Test.YtcdomlgnfbdeoaaKept
set_option maxRecDepth 100000
namespace Go.Proofs.Ytcdomlgnfbdeoaa
open Go.RowKit
instance enInh : Inhabited Tb.En := ⟨Tb.En0⟩
/-- The cells of a pair. -/
def prc (p : Tb.Pr) : List Value := [.string p.1, .int .i64 p.2.seq, .int .i64 p.2.off, .int .i64 p.2.len, .int .i64 p.2.exp, .bool p.2.hit]
theorem prc_one (p : Tb.Pr) : ∀ u ∈ prc p, u.oneCell' = true := fun u hu => by
  simp only [prc, List.mem_cons, List.not_mem_nil, or_false] at hu
  rcases hu with rfl | rfl | rfl | rfl | rfl | rfl <;> rfl
def prS : Shape Tb.Pr := ⟨prc, Tb.Pr0, 6, fun _ => rfl, by decide, prc_one⟩
theorem info_pair : (Try.prog.info? 38).map (fun i => (i.zero, i.size, i.bytes)) = some (some (.agg (prc Tb.Pr0).toArray), prS.m, 56) := by kernel_rfl
theorem below_drew2 {B : Nat} {w w' : World} (h : Below B w w') : Below B w w'.drew := ⟨h.os, h.tape, h.output, h.size, h.block⟩
theorem op_append_one' {α : Type} {Sh : Shape α} {P : Program} {w : World} {S : Nat → Prop} {o : Oper} {a : Act} {K : Act → World → Prop} {Q : Exit → Act → World → Prop} {e : TypeId} {zv : Value} {bytes : Nat} (d : Tmp) (hd : o.dst = some d) (s x : Operand) (t : TypeId) (ho : o.op = .call { callee := .builtin .append, args := #[s, x], argTypes := #[t, t] })
    (ht : P.underlying t = some (.slice e)) (hi : (P.info? e).map (fun i => (i.zero, i.size, i.bytes)) = some (some zv, Sh.m, bytes)) (hzs : zv.cells.size = Sh.m)
    (v : Value) (n : Nat) (l : List α) (hs : a.eval s = v) (hown : SRow S e Sh.m w v n (Sh.flat l)) (g c : Nat) (p : α) (hx : a.eval x = .slice (some ⟨g, 0, none⟩) 1 c) (hg : w.heap[g]? = some (.cells (Sh.cs p).toArray e (0, 0))) (h63 : n ≤ 1000000) (hbytes : (n + 1) * bytes ≤ 140737488355328)
    (h : ∀ v' w', SRow (Grow S w) e Sh.m w' v' (n + 1) (Sh.flat (l ++ [p])) → Kept S w w' → K (a.put (some d) v') w') : o.wp P a w K Q :=
  op_append_one s x t ho ht hi hzs v n l hs hown g c p hx hg h63 hbytes fun v' w' h1 h2 => by rw [hd]; exact h v' w' h1 h2
theorem arr_kept {α : Type} {S : Shape α} {T : Nat → Prop} {w w' : World} {lo B g o : Nat} {l : List α} (h : Arr S w lo B (some ⟨g, o, none⟩) l) (hk : Kept T w w') (hT : ¬ T g) (hB : B ≤ w.heap.size) (hB' : B ≤ w'.heap.size) : Arr S w' lo w'.heap.size (some ⟨g, o, none⟩) l := fun k hl => by
  obtain ⟨ad, e, h2, h3, h4⟩ := h k hl
  injection e with e
  subst e
  exact ⟨_, rfl, h2, Nat.lt_of_lt_of_le h3 hB', fun j v hv => (World.cell?_of_block (by rw [arr_flat]; exact hk.block g (Nat.lt_of_lt_of_le h3 hB) hT)).trans (h4 j v hv)⟩
/-- The cells of one pair of a row, as loads spell them. -/
theorem prs_at {w : World} {lo B g : Nat} {L : List Tb.Pr} (h : Arr prS w lo B (some ⟨g, 0, none⟩) L) (i : Nat) (hi : i < L.length) (k : ByteArray) (e0 e1 e2 e3 : Int) (e4 : Bool) (e : Tb.gp L i = (k, ⟨e0, e1, e2, e3, e4⟩)) :
    w.cell? ⟨g, i * 6, none⟩ = some (.string k) ∧ w.cell? ⟨g, i * 6 + 1, none⟩ = some (.int .i64 e0) ∧ w.cell? ⟨g, i * 6 + 2, none⟩ = some (.int .i64 e1) ∧ w.cell? ⟨g, i * 6 + 3, none⟩ = some (.int .i64 e2) ∧ w.cell? ⟨g, i * 6 + 4, none⟩ = some (.int .i64 e3) ∧ w.cell? ⟨g, i * 6 + 5, none⟩ = some (.bool e4) := by
  have key : ∀ j v, (prc (k, ⟨e0, e1, e2, e3, e4⟩))[j]? = some v → w.cell? ⟨g, i * 6 + j, none⟩ = some v := fun j v hv => by
    have := h.cell i hi j v (by rw [show L.getD i prS.z = (k, ⟨e0, e1, e2, e3, e4⟩) from e]; exact hv)
    rw [arr_flat, Nat.zero_add] at this
    exact this
  exact ⟨key 0 _ rfl, key 1 _ rfl, key 2 _ rfl, key 3 _ rfl, key 4 _ rfl, key 5 _ rfl⟩
theorem five_cells {w : World} {g : Nat} {a b c d e : Value} {t : TypeId} (h : w.heap[g]? = some (.cells #[a, b, c, d, e] t (0, 0))) :
    w.cell? ⟨g, 0, none⟩ = some a ∧ w.cell? ⟨g, 1, none⟩ = some b ∧ w.cell? ⟨g, 2, none⟩ = some c ∧ w.cell? ⟨g, 3, none⟩ = some d ∧ w.cell? ⟨g, 4, none⟩ = some e := by
  refine ⟨?_, ?_, ?_, ?_, ?_⟩ <;> (rw [cell_of_row _ _ _ _ _ _ h]; rfl)
theorem five_frozen {w : World} {g : Nat} {a b c d e : Value} {t : TypeId} (h : w.heap[g]? = some (.cells #[a, b, c, d, e] t (0, 0))) :
    w.frozen? ⟨g, 0, none⟩ = false ∧ w.frozen? ⟨g, 1, none⟩ = false ∧ w.frozen? ⟨g, 2, none⟩ = false ∧ w.frozen? ⟨g, 3, none⟩ = false ∧ w.frozen? ⟨g, 4, none⟩ = false :=
  ⟨frozen_of_row w g _ _ _ h, frozen_of_row w g _ _ _ h, frozen_of_row w g _ _ _ h, frozen_of_row w g _ _ _ h, frozen_of_row w g _ _ _ h⟩
theorem stored5 {w : World} {g : Nat} {a b c d e a' b' c' d' e' : Value} {t : TypeId} (h : w.heap[g]? = some (.cells #[a, b, c, d, e] t (0, 0))) :
    (((((w.setCell ⟨g, 0, none⟩ a').setCell ⟨g, 1, none⟩ b').setCell ⟨g, 2, none⟩ c').setCell ⟨g, 3, none⟩ d').setCell ⟨g, 4, none⟩ e').heap[g]? = some (.cells #[a', b', c', d', e'] t (0, 0)) := by
  simp [World.setCell, Array.getElem?_modify, h]
theorem five_kept {S : Nat → Prop} (w : World) (g o : Nat) (a b c d e : Value) (hS : S g) : Kept S w (((((w.setCell ⟨g, o, none⟩ a).setCell ⟨g, o + 1, none⟩ b).setCell ⟨g, o + 2, none⟩ c).setCell ⟨g, o + 3, none⟩ d).setCell ⟨g, o + 4, none⟩ e) :=
  ((((Kept.setCell w ⟨g, o, none⟩ _ hS).trans (Kept.setCell _ ⟨g, o + 1, none⟩ _ hS)).trans (Kept.setCell _ ⟨g, o + 2, none⟩ _ hS)).trans (Kept.setCell _ ⟨g, o + 3, none⟩ _ hS)).trans (Kept.setCell _ ⟨g, o + 4, none⟩ _ hS)
theorem five_zero {S : Nat → Prop} (w : World) (g : Nat) (a b c d e : Value) (hS : S g) : Kept S w (((((w.setCell ⟨g, 0, none⟩ a).setCell ⟨g, 1, none⟩ b).setCell ⟨g, 2, none⟩ c).setCell ⟨g, 3, none⟩ d).setCell ⟨g, 4, none⟩ e) :=
  ((((Kept.setCell w ⟨g, 0, none⟩ _ hS).trans (Kept.setCell _ ⟨g, 1, none⟩ _ hS)).trans (Kept.setCell _ ⟨g, 2, none⟩ _ hS)).trans (Kept.setCell _ ⟨g, 3, none⟩ _ hS)).trans (Kept.setCell _ ⟨g, 4, none⟩ _ hS)
theorem bl_of {a b : ByteArray} (h : Tb.kl a b = true) : Op.bytesLess a.toList b.toList = true := by
  rw [Lib.toList_data, Lib.toList_data]; exact h
theorem key_eq (a b : ByteArray) : (a.toList == b.toList) = decide (a = b) := by
  rw [Lib.toList_data, Lib.toList_data]
  by_cases h : a = b
  · rw [decide_eq_true h, h, beq_self_eq_true]
  · rw [decide_eq_false h, beq_eq_false_iff_ne]
    exact fun e => h (Tb.data_inj e)
theorem kept_drew {S : Nat → Prop} {w w' : World} (h : Kept S w w') : Kept S w w'.drew := ⟨h.os, h.tape, h.output, h.size, h.block⟩
end Go.Proofs.Ytcdomlgnfbdeoaa
