/-
  append(b, make([]byte, q)...) onto a row of the call's own, whether it has room or not.
-/
import Derived.Test.YtcjnhemlkahgoaaDoorBase
import Derived.Lib.AppendZerosOnto
set_option maxRecDepth 100000
namespace Go.Proofs.YtcjnhemlkahgoaaDoor
open Go.RowKit
theorem zero_cells (q : Nat) : (Builtin.zeroCells #[.int .u8 0] q).toList = vals (List.replicate q 0) := by
  apply List.ext_getElem?
  intro j
  simp only [Builtin.zeroCells, vals, List.map_replicate]
  rw [show (#[Value.int .u8 0] : Array Value).size = 1 from rfl, Nat.mul_one]
  by_cases hj : j < q
  · simp [hj, Nat.mod_one]
  · simp [hj]
theorem run_zeros_room {w : World} {t tn ty e : TypeId} {i : TypeInfo} (ht : Tryd.prog.underlying t = some (.slice e)) (htn : Tryd.prog.underlying tn = some (.int .i64)) (hi : Tryd.prog.info? e = some i) (hz : i.zero = some (.int .u8 0)) (h1 : i.size = 1) (h2 : i.bytes = 1)
    (g n cap q : Nat) (cur : Array Value) (hg : w.heap[g]? = some (.cells cur e (0, 0))) (hq : 0 < q) (hq2 : q ≤ 1000000) (hroom : n + q ≤ cap) (hfit : n + q ≤ cur.size) :
    (Builtin.append_ #[t, tn] ty #[.slice (some ⟨g, 0, none⟩) n cap, .int .i64 (q : Int)]).run Tryd.prog w = .ok (.slice (some ⟨g, 0, none⟩) (n + q) cap) (w.setRow g (cur.toList.take n ++ vals (List.replicate q 0) ++ cur.toList.drop (n + q)).toArray) := by
  have hst := run_storeCells_at Tryd.prog g n e (vals (List.replicate q 0)) 0 cur w hg (by rw [vals_length, List.length_replicate]; omega) (vals_one _)
  simp only [Nat.add_zero, vals_length, List.length_replicate] at hst
  have hk : q ≠ 0 := by omega
  have hw : IntKind.i64.wrap (q : Int) = q := by rw [IntKind.wrap_i64]; omega
  have hneg : ¬ ((q : Int) < 0) := by omega
  have h48i : ¬ (281474976710656 < (q : Int)) := by omega
  have hzc : (Builtin.zeroCells #[.int .u8 0] q).toList = vals (List.replicate q 0) := zero_cells q
  have hcl : (Value.int .u8 0).cells = #[.int .u8 0] := rfl
  simp [Builtin.append_, run_underlying ht, run_underlying htn, sizeOf, typeInfo, zeroValue, hi, hz, h1, h2, asInt, asIntOf, hw, hroom, hneg, hk, h48i, Addr.add_lit, hcl, hzc, hst]
theorem run_zeros_own {w : World} {t tn ty e : TypeId} {i : TypeInfo} (ht : Tryd.prog.underlying t = some (.slice e)) (htn : Tryd.prog.underlying tn = some (.int .i64)) (hi : Tryd.prog.info? e = some i) (hz : i.zero = some (.int .u8 0)) (h1 : i.size = 1) (h2 : i.bytes = 1)
    (base n q : Nat) (v : Value) (l : List Nat) (hown : w.ownsRow base e 1 v n (vals l)) (hq2 : n + q ≤ 1000000) (hbase : base ≤ w.heap.size) :
    ∃ v' w', (Builtin.append_ #[t, tn] ty #[v, .int .i64 (q : Int)]).run Tryd.prog w = .ok v' w' ∧ w'.ownsRow base e 1 v' (n + q) (vals (l ++ List.replicate q 0)) ∧ Below base w w' := by
  have hw : IntKind.i64.wrap (q : Int) = q := by rw [IntKind.wrap_i64]; omega
  have hneg : ¬ ((q : Int) < 0) := by omega
  have h48i : ¬ (281474976710656 < (q : Int)) := by omega
  have hll : l.length = n := by have := hown.1; rw [vals_length] at this; omega
  by_cases hk : q = 0
  · subst hk
    refine ⟨v, w, ?_, by simpa using hown, Below.refl _ _⟩
    rcases hown.2 with ⟨rfl, rfl⟩ | ⟨g, cap, cur, rfl, hbg, hg, hnc, hcm, hcs, htake⟩
    · simp [Builtin.append_, run_underlying ht, run_underlying htn, sizeOf, typeInfo, hi, h2, asInt, asIntOf, IntKind.wrap_i64]
    · simp [Builtin.append_, run_underlying ht, run_underlying htn, sizeOf, typeInfo, hi, h2, asInt, asIntOf, IntKind.wrap_i64, hnc, storeCells]
  · have hv : vals (l ++ List.replicate q 0) = vals l ++ vals (List.replicate q 0) := by simp [vals]
    have hlen : (vals l ++ vals (List.replicate q 0)).length = (n + q) * 1 := by rw [List.length_append, vals_length, vals_length, hll, List.length_replicate]; omega
    have grown : ∀ old : Nat, old < n + q → (w.drew.alloc (.cells ((vals l).toArray ++ Builtin.zeroCells #[.int .u8 0] q ++ Builtin.zeroCells #[.int .u8 0] (grownCap w (n + q) old e - (n + q))) e)).ownsRow base e 1
        (.slice (some ⟨w.heap.size, 0, none⟩) (n + q) (grownCap w (n + q) old e)) (n + q) (vals l ++ vals (List.replicate q 0)) ∧ Below base w (w.drew.alloc (.cells ((vals l).toArray ++ Builtin.zeroCells #[.int .u8 0] q ++ Builtin.zeroCells #[.int .u8 0] (grownCap w (n + q) old e - (n + q))) e)) := by
      intro old ho
      have hge := grownCap_ge w (n + q) old e
      have hcm : grownCap w (n + q) old e ≤ maxLen := grownCap_le_maxLen w (n + q) old e (by unfold maxLen; omega)
      refine ⟨⟨hlen, .inr ⟨w.heap.size, _, _, rfl, hbase, heap_alloc_new w.drew _, hge, hcm, ?_, ?_⟩⟩, (Below.refl _ w).drew.alloc hbase _⟩
      · simp only [Array.size_append, List.size_toArray, size_zeroCells, vals_length, hll]
        simp only [List.length_cons, List.length_nil]
        omega
      · simp only [Array.toList_append, List.append_assoc, zero_cells]
        rw [← List.append_assoc, show (n + q) * 1 = (vals l ++ vals (List.replicate q 0)).length from hlen.symm]
        exact List.take_left
    have hcl : (Value.int .u8 0).cells = #[.int .u8 0] := rfl
    rcases hown.2 with ⟨rfl, rfl⟩ | ⟨g, cap, cur, rfl, hbg, hg, hnc, hcm, hcs, htake⟩
    · have hx : l = [] := List.eq_nil_of_length_eq_zero (by simpa using hll)
      subst hx
      have hr := Lib.run_append_grow_zeros (P := Tryd.prog) w t tn ty e i (.int .u8 0) .i64 .i64 ht htn hi hz none 0 0 [] (run_firstCells_none w.drew i.size 0 0 0) q (by omega) (by omega) (by omega) (by omega) (by rw [h2]; omega) (growslice_fits (by omega) (by rw [h2]; omega))
      have hgr := grown 0 (by omega)
      rw [hcl] at hr
      rw [hv]
      exact ⟨_, _, hr, hgr.1, hgr.2⟩
    · by_cases hroom : n + q ≤ cap
      · have hr := run_zeros_room (ty := ty) ht htn hi hz h1 h2 g n cap q cur hg (by omega) (by omega) hroom (by omega)
        refine ⟨_, _, hr, ?_, ?_⟩
        · rw [hv]
          refine ⟨hlen, .inr ⟨g, cap, _, rfl, hbg, setRow_heap w g cur _ e _ hg, hroom, hcm, ?_, ?_⟩⟩
          · simp only [List.size_toArray, List.length_append, List.length_take, List.length_drop, Array.length_toList, vals_length, List.length_replicate]
            omega
          · have ht2 : cur.toList.take n = vals l := by simpa using htake
            rw [ht2, show (n + q) * 1 = (vals l ++ vals (List.replicate q 0)).length from hlen.symm]
            exact List.take_left
        · exact below_setRow (Below.refl _ _) hbg _
      · have holds : ∀ j u, (vals l)[j]? = some u → w.cell? ((⟨g, 0, none⟩ : Addr).add j) = some u := hown.cells (g := g) rfl
        have hr := Lib.run_append_grow_zeros (P := Tryd.prog) w t tn ty e i (.int .u8 0) .i64 .i64 ht htn hi hz (some ⟨g, 0, none⟩) n cap (vals l) (run_firstCells_some w.drew i.size n ⟨g, 0, none⟩ n cap (vals l) (by rw [vals_length, h1]; omega) holds) q (by omega) (by omega) (by omega) (by omega) (by rw [h2]; omega) (growslice_fits (by omega) (by rw [h2]; omega))
        have hgr := grown cap (by omega)
        rw [hcl] at hr
        rw [hv]
        exact ⟨_, _, hr, hgr.1, hgr.2⟩
theorem wpList_zeros {w : World} {ops : Array Oper} {rest : List Oper} {o : Oper} {a : Act} {Q : Exit → Act → World → Prop} (hgd : o.guard = none) (s x : Operand) (t tn : TypeId)
    (ho : o.op = .call { callee := .builtin .append, args := #[s, x], argTypes := #[t, tn] }) (e : TypeId) (i : TypeInfo) (ht : Tryd.prog.underlying t = some (.slice e)) (htn : Tryd.prog.underlying tn = some (.int .i64)) (hi : Tryd.prog.info? e = some i) (hz : i.zero = some (.int .u8 0)) (h1 : i.size = 1) (h2 : i.bytes = 1)
    (base n q : Nat) (v : Value) (l : List Nat) (hs : a.eval s = v) (hx : a.eval x = .int .i64 (q : Int)) (hown : w.ownsRow base e 1 v n (vals l)) (hq2 : n + q ≤ 1000000) (hbase : base ≤ w.heap.size)
    (h : ∀ v' w', w'.ownsRow base e 1 v' (n + q) (vals (l ++ List.replicate q 0)) → Below base w w' → wpList Tryd.prog ops Q rest (a.put o.dst v') w') : wpList Tryd.prog ops Q (o :: rest) a w := by
  refine wpList_plain hgd fun K hK => ?_
  obtain ⟨v', w', hrun, r1, r2⟩ := run_zeros_own (w := w) (ty := o.type) ht htn hi hz h1 h2 base n q v l hown hq2 hbase
  unfold Oper.wp
  simp [execOp, ho, resolve, invoke, builtin, hs, hx, hrun, Result.andThen]
  exact hK _ _ (h _ _ r1 r2)
/-- What a row of one's own is: its block. -/
theorem own_rest {w : World} {base : Nat} {v : Value} {n : Nat} {l : List Nat} {e : TypeId} (h : w.ownsRow base e 1 v n (vals l)) (hn : 0 < n) : ∃ g cap rest, v = .slice (some ⟨g, 0, none⟩) n cap ∧ base ≤ g ∧ w.heap[g]? = some (.cells (vals l ++ rest).toArray e (0, 0)) ∧ n ≤ cap ∧ cap ≤ maxLen ∧ l.length = n := by
  have hll : l.length = n := by have := h.1; rw [vals_length] at this; omega
  rcases h.2 with ⟨rfl, rfl⟩ | ⟨g, cap, cur, rfl, hbg, hg, hnc, hcm, hcs, htake⟩
  · omega
  · refine ⟨g, cap, cur.toList.drop n, rfl, hbg, ?_, hnc, hcm, hll⟩
    have ht2 : cur.toList.take n = vals l := by simpa using htake
    rw [← ht2, List.take_append_drop]
    simpa using hg
end Go.Proofs.YtcjnhemlkahgoaaDoor
