/-
  Words for the law PackerScript: its part of the stream, a region of thirty-one operations, by hand.
-/
import Derived.Test.YtepbdicglgjcjaaDoorFoldI
import Derived.Test.YtepbdicglgjcjaaDoorBareF
set_option maxRecDepth 100000
namespace Go.Proofs.YtepbdicglgjcjaaDoor
open Go.RowKit
theorem seven_cells {w : World} {g : Nat} {a b c d e f h : Value} {t : TypeId} (hh : w.heap[g]? = some (.cells #[a, b, c, d, e, f, h] t (0, 0))) :
    w.cell? ⟨g, 0, none⟩ = some a ∧ w.cell? ⟨g, 1, none⟩ = some b ∧ w.cell? ⟨g, 2, none⟩ = some c ∧ w.cell? ⟨g, 3, none⟩ = some d ∧ w.cell? ⟨g, 4, none⟩ = some e ∧ w.cell? ⟨g, 5, none⟩ = some f ∧ w.cell? ⟨g, 6, none⟩ = some h := by
  refine ⟨?_, ?_, ?_, ?_, ?_, ?_, ?_⟩
  · rw [cell_of_row w g 0 _ t (0, 0) hh]; rfl
  · rw [cell_of_row w g 1 _ t (0, 0) hh]; rfl
  · rw [cell_of_row w g 2 _ t (0, 0) hh]; rfl
  · rw [cell_of_row w g 3 _ t (0, 0) hh]; rfl
  · rw [cell_of_row w g 4 _ t (0, 0) hh]; rfl
  · rw [cell_of_row w g 5 _ t (0, 0) hh]; rfl
  · rw [cell_of_row w g 6 _ t (0, 0) hh]; rfl
theorem op_cells {w : World} {g : Nat} {a b c d e f h : Value} {t : TypeId} (hh : w.heap[g]? = some (.cells #[a, b, c, d, e, f, h] t (0, 0))) :
    (w.cell? ⟨g, 0, none⟩ = some a ∧ w.cell? ⟨g, 1, none⟩ = some b ∧ w.cell? ⟨g, 2, none⟩ = some c ∧ w.cell? ⟨g, 3, none⟩ = some d ∧ w.cell? ⟨g, 4, none⟩ = some e ∧ w.cell? ⟨g, 5, none⟩ = some f ∧ w.cell? ⟨g, 6, none⟩ = some h) ∧ w.frozen? ⟨g, 1, none⟩ = false ∧ w.frozen? ⟨g, 2, none⟩ = false ∧ w.frozen? ⟨g, 3, none⟩ = false ∧ w.frozen? ⟨g, 4, none⟩ = false :=
  ⟨seven_cells hh, frozen_of_row w g 1 _ t hh, frozen_of_row w g 2 _ t hh, frozen_of_row w g 3 _ t hh, frozen_of_row w g 4 _ t hh⟩
theorem op_put {w : World} {g : Nat} {a b c d e f h b' c' d' e' : Value} {t : TypeId} (hh : w.heap[g]? = some (.cells #[a, b, c, d, e, f, h] t (0, 0))) :
    ((((w.setCell ⟨g, 1, none⟩ b').setCell ⟨g, 2, none⟩ c').setCell ⟨g, 3, none⟩ d').setCell ⟨g, 4, none⟩ e').heap[g]? = some (.cells #[a, b', c', d', e', f, h] t (0, 0)) ∧
    Kept (fun j => j = g) w ((((w.setCell ⟨g, 1, none⟩ b').setCell ⟨g, 2, none⟩ c').setCell ⟨g, 3, none⟩ d').setCell ⟨g, 4, none⟩ e') :=
  ⟨by simp [World.setCell, Array.getElem?_modify, hh], (((Kept.setCell (S := fun j => j = g) w ⟨g, 1, none⟩ b' rfl).trans (Kept.setCell _ ⟨g, 2, none⟩ c' rfl)).trans (Kept.setCell _ ⟨g, 3, none⟩ d' rfl)).trans (Kept.setCell _ ⟨g, 4, none⟩ e' rfl)⟩
theorem StS.far {W wr wr' : World} {S : Nat → Prop} {a b c d slot seq : Int} {col : Nat → Nat} {gp : Nat} {stp : List Nat} {kp : Nat} {gq : Nat} {stq : List Nat} {kq : Nat} (h : StS W a b c d slot seq wr col gp stp kp gq stq kq) (hk : Kept S wr wr') (h0 : ∀ j, S j → col j = 0) (h1 : ∀ j, S j → W.heap.size < j) : StS W a b c d slot seq wr' col gp stp kp gq stq kq where
  colr := h.colr.next hk.size
  up := h.up.trans (hk.below h.up.size fun j e => Nat.le_of_lt (h1 j e))
  box := ⟨(hk.block _ (Array.getElem?_eq_some_iff.1 h.box.1).1 fun e => Nat.lt_irrefl _ (h1 _ e)).trans h.box.1, h.box.2⟩
  p := h.p.kept hk fun j _ e e2 => by have := h0 j e2; rw [e] at this; cases this
  q := h.q.kept hk fun j _ e e2 => by have := h0 j e2; rw [e] at this; cases this
/-- Where a part begins. -/
def cutTo (A : Option Addr) (cap p : Nat) : Option Addr := if cap = p then A else A.map (·.add p)
theorem exec_slice_row {P : Program} {oi : Oper} {a : Act} (x lo hi : Operand) (t : TypeId) (ho : oi.op = .slice t x (some lo) (some hi) none) (e : TypeId) (ht : P.underlying t = some (.slice e)) (hsz : (P.info? e).map (·.size) = some 1) {A : Option Addr} {N cap p k : Nat} {X Y : Int}
    (hx : a.eval x = .slice A N cap) (hlo : a.eval lo = .int .i64 X) (hhi : a.eval hi = .int .i64 Y) (hX : X = (p : Int)) (hY : Y = ((p + k : Nat) : Int)) (hq : p + k ≤ cap) (w : World) :
    (execOp a.eval oi).run P w = .ok (.value (.slice (cutTo A cap p) k (cap - p))) w := by
  subst hX hY
  cases hi : P.info? e with
  | none => simp [hi] at hsz
  | some i =>
    have hs : i.size = 1 := by simpa [hi] using hsz
    have h4 : p + k - p = k := by omega
    unfold cutTo
    simp only [execOp, ho]
    simp [hx, hlo, hhi, Instr.sliceAt, Instr.slice, Instr.sliceBounds, Instr.sliceBound, asIntOf, run_underlying ht, sizeOf, typeInfo, hi, hs, Result.andThen]
    rw [if_pos (show 0 ≤ (p : Int) + (k : Int) ∧ (p : Int) + (k : Int) ≤ (cap : Int) by omega), show ((p : Int) + (k : Int)).toNat = p + k by omega]
    simp [h4]
theorem bs_cut {w : World} {A : Option Addr} {l : List Nat} {cap p k : Nat} (h : Bs w w.heap.size A l) (hA : A = none ∧ l.length = 0 ∨ ∃ g, A = some ⟨g, 0, none⟩) (hk : p + k ≤ l.length) (hc : l.length ≤ cap) : Bs w w.heap.size (cutTo A cap p) (Rc.sub l p k) := by
  by_cases h0 : k = 0
  · subst h0
    exact fun j hj => absurd hj (by unfold Rc.sub; simp)
  · rcases hA with ⟨-, h1⟩ | ⟨g, rfl⟩
    · omega
    · unfold cutTo
      rw [if_neg (by omega)]
      show Bs w _ (some ((⟨g, 0, none⟩ : Addr).add p)) _
      rw [arr_flat, Nat.zero_add]
      exact h.sub p k
theorem read_ways (off m : Int) (q : Nat) (hq : q ≤ 120773) : (decide (0 ≤ off) = false ∨ (decide (0 ≤ off) = true ∧ decide (0 ≤ m) = false) ∨ (decide (0 ≤ off) = true ∧ decide (0 ≤ m) = true ∧ decide (off ≤ (q : Int)) = false) ∨
    (decide (0 ≤ off) = true ∧ decide (0 ≤ m) = true ∧ decide (off ≤ (q : Int)) = true ∧ decide (m ≤ (q : Int) - off) = false ∧ IntKind.i64.wrap ((q : Int) - off) = (q : Int) - off)) ∨
    (decide (0 ≤ off) = true ∧ decide (0 ≤ m) = true ∧ decide (off ≤ (q : Int)) = true ∧ decide (m ≤ (q : Int) - off) = true ∧ IntKind.i64.wrap ((q : Int) - off) = (q : Int) - off ∧ IntKind.i64.wrap (off + m) = off + m ∧ ∃ p k : Nat, off = (p : Int) ∧ m = (k : Int) ∧ p + k ≤ q) := by
  simp only [decide_eq_true_eq, decide_eq_false_iff_not, IntKind.wrap_i64]
  by_cases h1 : 0 ≤ off
  · by_cases h2 : 0 ≤ m
    · by_cases h3 : off ≤ (q : Int)
      · by_cases h4 : m ≤ (q : Int) - off
        · exact .inr ⟨h1, h2, h3, h4, by omega, by omega, off.toNat, m.toNat, by omega, by omega, by omega⟩
        · exact .inl (.inr (.inr (.inr ⟨h1, h2, h3, h4, by omega⟩)))
      · exact .inl (.inr (.inr (.inl ⟨h1, h2, h3⟩)))
    · exact .inl (.inr (.inl ⟨h1, h2⟩))
  · exact .inl (.inl h1)
/-- The same where the slot s before them is turned too. -/
theorem frame_of2 (l : List Value) (a' : Act) (s lo n : Nat) {v : Value} (hsl : s < lo) (hlo : lo + n ≤ l.length) (hs : a'.tmps.size = l.length) (hf : a'.defers = []) (hv : a'.tmps[s]? = some v) (ho : ∀ j, (j ≠ s ∧ (j < lo ∨ lo + n ≤ j)) → a'.tmps[j]? = l[j]?) :
    ∃ m : List Value, m.length = n ∧ (∀ i, i < n → m[i]? = a'.tmps[lo + i]?) ∧ a' = ⟨((l.set s v).take lo ++ (m ++ (l.set s v).drop (lo + n))).toArray, []⟩ := by
  refine frame_of (l.set s v) a' lo n (by rw [List.length_set]; exact hlo) (by rw [List.length_set]; exact hs) hf fun j hj => ?_
  by_cases hjs : j = s
  · subst hjs
    rw [hv, List.getElem?_set]
    simp; omega
  · rw [ho j ⟨hjs, hj⟩, List.getElem?_set, if_neg (fun e => hjs e.symm)]
set_option maxHeartbeats 8000000 in
theorem want_test {Q : Exit → Act → World → Prop} (hQ : ∀ c (a a' : Act) w, a'.defers = a.defers → Q (.panic c) a w → Q (.panic c) a' w) (a0 : Act) (w5 : World) (qo q : Nat) (off m : Int) (A' : Option Addr) (sn cp' : Nat) (hs0 : a0.tmps.size = 215) (hf0 : a0.defers = [])
    (c10 : a0.tmps[10]? = some (.pointer (some ⟨q, 0, none⟩))) (c12 : a0.tmps[12]? = some (.pointer (some ⟨qo, 0, none⟩))) (HC15 : Hid (∀ W, Below w5.heap.size w5 W → (W.cell? ⟨qo, 5, none⟩ = some (.int .i64 off) ∧ W.cell? ⟨qo, 6, none⟩ = some (.int .i64 m)) ∧ W.cell? ⟨q, 6, none⟩ = some (.slice A' sn cp'))) (bb : Bool) (hways : ((bb = false ∧ (decide (0 ≤ off) = false ∨ (decide (0 ≤ off) = true ∧ decide (0 ≤ m) = false) ∨ (decide (0 ≤ off) = true ∧ decide (0 ≤ m) = true ∧ decide (off ≤ (sn : Int)) = false) ∨ (decide (0 ≤ off) = true ∧ decide (0 ≤ m) = true ∧ decide (off ≤ (sn : Int)) = true ∧ decide (m ≤ (sn : Int) - off) = false ∧ IntKind.i64.wrap ((sn : Int) - off) = (sn : Int) - off))) ∨ (bb = true ∧ decide (0 ≤ off) = true ∧ decide (0 ≤ m) = true ∧ decide (off ≤ (sn : Int)) = true ∧ decide (m ≤ (sn : Int) - off) = true ∧ IntKind.i64.wrap ((sn : Int) - off) = (sn : Int) - off)))
    (hend : ∀ a', a'.tmps.size = 215 → a'.defers = [] → a'.tmps[108]? = some (.bool bb) → (∀ j, (j < 78 ∨ 109 ≤ j) → a'.tmps[j]? = a0.tmps[j]?) → Q .normal a' w5.drew) :
    Code.wp Tryd.prog (Code.region 15 #[{ dst := some 78, op := Op.fieldAddr 40 (Operand.tmp 12) 2, type := 0, pos := "law.go:76", after := #[], guard := none }, { dst := some 79, op := Op.load 3 (Operand.tmp 78), type := 3, pos := "law.go:76", after := #[{ on := 0, ground := Ground.data }], guard := none }, { dst := some 80, op := Op.binOp BinOp.geq 3 (Operand.tmp 79) (Operand.const (Value.int IntKind.i64 0)) 3, type := 4, pos := "law.go:76", after := #[{ on := 1, ground := Ground.data }], guard := none }, { dst := some 81, op := Op.move (Operand.tmp 80), type := 4, pos := "law.go:76", after := #[{ on := 2, ground := Ground.data }], guard := none }, { dst := some 82, op := Op.fieldAddr 40 (Operand.tmp 12) 3, type := 0, pos := "law.go:76", after := #[{ on := 3, ground := Ground.guard }], guard := some (3, true) }, { dst := some 83, op := Op.load 3 (Operand.tmp 82), type := 3, pos := "law.go:76", after := #[{ on := 4, ground := Ground.data }, { on := 3, ground := Ground.guard }], guard := some (3, true) }, { dst := some 84, op := Op.binOp BinOp.geq 3 (Operand.tmp 83) (Operand.const (Value.int IntKind.i64 0)) 3, type := 4, pos := "law.go:76", after := #[{ on := 5, ground := Ground.data }, { on := 3, ground := Ground.guard }], guard := some (3, true) }, { dst := some 85, op := Op.pick (Operand.tmp 81) (Operand.tmp 84) (Operand.const (Value.bool false)), type := 4, pos := "law.go:76", after := #[{ on := 3, ground := Ground.data }, { on := 6, ground := Ground.data }], guard := none }, { dst := some 86, op := Op.move (Operand.tmp 85), type := 4, pos := "law.go:76", after := #[{ on := 7, ground := Ground.data }, { on := 3, ground := Ground.chain }], guard := none }, { dst := some 87, op := Op.fieldAddr 40 (Operand.tmp 12) 2, type := 0, pos := "law.go:76", after := #[{ on := 8, ground := Ground.guard }], guard := some (8, true) }, { dst := some 88, op := Op.load 3 (Operand.tmp 87), type := 3, pos := "law.go:76", after := #[{ on := 9, ground := Ground.data }, { on := 8, ground := Ground.guard }], guard := some (8, true) }, { dst := some 89, op := Op.move (Operand.tmp 10), type := 33, pos := "law.go:76", after := #[{ on := 8, ground := Ground.guard }], guard := some (8, true) }, { dst := some 90, op := Op.nilCheck (Operand.tmp 89), type := 0, pos := "law.go:76", after := #[{ on := 11, ground := Ground.data }, { on := 8, ground := Ground.guard }], guard := some (8, true) }, { dst := some 91, op := Op.fieldAddr 36 (Operand.tmp 90) 3, type := 0, pos := "law.go:76", after := #[{ on := 12, ground := Ground.data }, { on := 8, ground := Ground.guard }], guard := some (8, true) }, { dst := some 92, op := Op.load 34 (Operand.tmp 91), type := 34, pos := "law.go:76", after := #[{ on := 13, ground := Ground.data }, { on := 8, ground := Ground.guard }], guard := some (8, true) }, { dst := some 93, op := Op.call { callee := Callee.builtin Builtin.len, args := #[Operand.tmp 92], argTypes := #[34] }, type := 3, pos := "law.go:76", after := #[{ on := 14, ground := Ground.data }, { on := 8, ground := Ground.guard }], guard := some (8, true) }, { dst := some 94, op := Op.binOp BinOp.leq 3 (Operand.tmp 88) (Operand.tmp 93) 3, type := 4, pos := "law.go:76", after := #[{ on := 10, ground := Ground.data }, { on := 15, ground := Ground.data }, { on := 8, ground := Ground.guard }], guard := some (8, true) }, { dst := some 95, op := Op.pick (Operand.tmp 86) (Operand.tmp 94) (Operand.const (Value.bool false)), type := 4, pos := "law.go:76", after := #[{ on := 8, ground := Ground.data }, { on := 16, ground := Ground.data }], guard := none }, { dst := some 96, op := Op.move (Operand.tmp 95), type := 4, pos := "law.go:76", after := #[{ on := 17, ground := Ground.data }, { on := 8, ground := Ground.chain }], guard := none }, { dst := some 97, op := Op.fieldAddr 40 (Operand.tmp 12) 3, type := 0, pos := "law.go:76", after := #[{ on := 18, ground := Ground.guard }], guard := some (18, true) }, { dst := some 98, op := Op.load 3 (Operand.tmp 97), type := 3, pos := "law.go:76", after := #[{ on := 19, ground := Ground.data }, { on := 18, ground := Ground.guard }], guard := some (18, true) }, { dst := some 99, op := Op.move (Operand.tmp 10), type := 33, pos := "law.go:76", after := #[{ on := 18, ground := Ground.guard }], guard := some (18, true) }, { dst := some 100, op := Op.nilCheck (Operand.tmp 99), type := 0, pos := "law.go:76", after := #[{ on := 21, ground := Ground.data }, { on := 18, ground := Ground.guard }], guard := some (18, true) }, { dst := some 101, op := Op.fieldAddr 36 (Operand.tmp 100) 3, type := 0, pos := "law.go:76", after := #[{ on := 22, ground := Ground.data }, { on := 18, ground := Ground.guard }], guard := some (18, true) }, { dst := some 102, op := Op.load 34 (Operand.tmp 101), type := 34, pos := "law.go:76", after := #[{ on := 23, ground := Ground.data }, { on := 18, ground := Ground.guard }], guard := some (18, true) }, { dst := some 103, op := Op.call { callee := Callee.builtin Builtin.len, args := #[Operand.tmp 102], argTypes := #[34] }, type := 3, pos := "law.go:76", after := #[{ on := 24, ground := Ground.data }, { on := 18, ground := Ground.guard }], guard := some (18, true) }, { dst := some 104, op := Op.fieldAddr 40 (Operand.tmp 12) 2, type := 0, pos := "law.go:76", after := #[{ on := 18, ground := Ground.guard }], guard := some (18, true) }, { dst := some 105, op := Op.load 3 (Operand.tmp 104), type := 3, pos := "law.go:76", after := #[{ on := 26, ground := Ground.data }, { on := 18, ground := Ground.guard }], guard := some (18, true) }, { dst := some 106, op := Op.binOp BinOp.sub 3 (Operand.tmp 103) (Operand.tmp 105) 3, type := 3, pos := "law.go:76", after := #[{ on := 25, ground := Ground.data }, { on := 27, ground := Ground.data }, { on := 18, ground := Ground.guard }], guard := some (18, true) }, { dst := some 107, op := Op.binOp BinOp.leq 3 (Operand.tmp 98) (Operand.tmp 106) 3, type := 4, pos := "law.go:76", after := #[{ on := 20, ground := Ground.data }, { on := 28, ground := Ground.data }, { on := 18, ground := Ground.guard }], guard := some (18, true) }, { dst := some 108, op := Op.pick (Operand.tmp 96) (Operand.tmp 107) (Operand.const (Value.bool false)), type := 4, pos := "law.go:76", after := #[{ on := 18, ground := Ground.data }, { on := 29, ground := Ground.data }], guard := none }] true) Q a0 w5 := by
  have HBD : Hid (Below w5.heap.size w5 w5.drew) := below_drewN w5 1
  have hO0 : ∀ j, (j < 78 ∨ 109 ≤ j) → a0.tmps[j]? = a0.tmps[j]? := fun _ _ => rfl
  rcases hways with ⟨rfl, p1 | ⟨p1, p2⟩ | ⟨p1, p2, p3⟩ | ⟨p1, p2, p3, p4, w1x⟩⟩ | ⟨rfl, p1, p2, p3, p4, w1x⟩
  all_goals
    refine wp_region_held_drew (S := fun W => (W.cell? ⟨qo, 5, none⟩ = some (.int .i64 off) ∧ W.cell? ⟨qo, 6, none⟩ = some (.int .i64 m)) ∧ W.cell? ⟨q, 6, none⟩ = some (.slice A' sn cp')) (by kernel_rfl) (HC15.out _ HBD.out) (fun hH => ?_)
    change wpAnyH _ _ _ _ _ 31 #[false, false, false, false, false, false, false, false, false, false, false, false, false, false, false, false, false, false, false, false, false, false, false, false, false, false, false, false, false, false, false] _ _
    refine held_take (i := 0) (v := ?_) (d := some 78) rfl rfl (by kernel_rfl) (by kernel_rfl) (by kernel_rfl) (fun c a w h => hQ c _ a w (by rfl) h) hH ⟨?_, fun w hSw => ?_⟩ ?_
    rotate_left 1
    · rfl
    · have e12 := eval_of ((hO0 12 (by decide)).trans c12)
      have ec : ∀ u, Act.eval a0 (.const u) = u := fun _ => rfl
      have ef : ∀ u, Act.eval a0 (.func u) = .func (.func u) #[] #[] := fun _ => rfl
      generalize Act.eval a0 = ρ at ec ef e12 ⊢
      (go_simp; all_goals with_reducible rfl)
    simp only [List.setIfInBounds_toArray, List.set_cons_zero]
    refine act_next (G := fun x => wpAnyH _ _ _ _ _ _ _ x _) _ 78 _ (by rw [hs0]; decide) (fun b1 s1 v1 k1 f1 => ?_)
    have hs1 := s1.trans hs0
    have hf1 := f1.trans hf0
    have hO1 : ∀ j, (j < 78 ∨ 109 ≤ j) → b1.tmps[j]? = a0.tmps[j]? := fun j hj => (k1 j (by omega)).trans (hO0 j hj)
    have g78_1 := v1
    clear hs0 hf0 hO0 s1 k1 f1 
    clear v1
    refine held_take (i := 1) (v := ?_) (d := some 79) rfl rfl (by kernel_rfl) (by kernel_rfl) (by kernel_rfl) (fun c a w h => hQ c _ a w (by rfl) h) hH ⟨?_, fun w hSw => ?_⟩ ?_
    rotate_left 1
    · rfl
    · have e78 := eval_of g78_1
      obtain ⟨⟨y5, y6⟩, y7⟩ := hSw
      have ec : ∀ u, Act.eval b1 (.const u) = u := fun _ => rfl
      have ef : ∀ u, Act.eval b1 (.func u) = .func (.func u) #[] #[] := fun _ => rfl
      generalize Act.eval b1 = ρ at ec ef e78 ⊢
      (go_simp; all_goals with_reducible rfl)
    simp only [List.setIfInBounds_toArray, List.set_cons_zero, List.set_cons_succ]
    refine act_next (G := fun x => wpAnyH _ _ _ _ _ _ _ x _) _ 79 _ (by rw [hs1]; decide) (fun b2 s2 v2 k2 f2 => ?_)
    have hs2 := s2.trans hs1
    have hf2 := f2.trans hf1
    have hO2 : ∀ j, (j < 78 ∨ 109 ≤ j) → b2.tmps[j]? = a0.tmps[j]? := fun j hj => (k2 j (by omega)).trans (hO1 j hj)
    have g79_2 := v2
    clear hs1 hf1 hO1 s2 k2 f2 g78_1
    clear v2
    refine held_take (i := 2) (v := ?_) (d := some 80) rfl rfl (by kernel_rfl) (by kernel_rfl) (by kernel_rfl) (fun c a w h => hQ c _ a w (by rfl) h) hH ⟨?_, fun w hSw => ?_⟩ ?_
    rotate_left 1
    · rfl
    · have e79 := eval_of g79_2
      have ec : ∀ u, Act.eval b2 (.const u) = u := fun _ => rfl
      have ef : ∀ u, Act.eval b2 (.func u) = .func (.func u) #[] #[] := fun _ => rfl
      generalize Act.eval b2 = ρ at ec ef e79 ⊢
      (go_simp; all_goals with_reducible rfl)
    simp only [List.setIfInBounds_toArray, List.set_cons_zero, List.set_cons_succ]
    refine act_next (G := fun x => wpAnyH _ _ _ _ _ _ _ x _) _ 80 _ (by rw [hs2]; decide) (fun b3 s3 v3 k3 f3 => ?_)
    have hs3 := s3.trans hs2
    have hf3 := f3.trans hf2
    have hO3 : ∀ j, (j < 78 ∨ 109 ≤ j) → b3.tmps[j]? = a0.tmps[j]? := fun j hj => (k3 j (by omega)).trans (hO2 j hj)
    have g80_3 := v3
    clear hs2 hf2 hO2 s3 k3 f3 g79_2
    clear v3
    refine held_take (i := 3) (v := ?_) (d := some 81) rfl rfl (by kernel_rfl) (by kernel_rfl) (by kernel_rfl) (fun c a w h => hQ c _ a w (by rfl) h) hH ⟨?_, fun w hSw => ?_⟩ ?_
    rotate_left 1
    · rfl
    · have e80 := eval_of g80_3
      have ec : ∀ u, Act.eval b3 (.const u) = u := fun _ => rfl
      have ef : ∀ u, Act.eval b3 (.func u) = .func (.func u) #[] #[] := fun _ => rfl
      generalize Act.eval b3 = ρ at ec ef e80 ⊢
      (go_simp; all_goals with_reducible rfl)
    simp only [List.setIfInBounds_toArray, List.set_cons_zero, List.set_cons_succ]
    refine act_next (G := fun x => wpAnyH _ _ _ _ _ _ _ x _) _ 81 _ (by rw [hs3]; decide) (fun b4 s4 v4 k4 f4 => ?_)
    have hs4 := s4.trans hs3
    have hf4 := f4.trans hf3
    have hO4 : ∀ j, (j < 78 ∨ 109 ≤ j) → b4.tmps[j]? = a0.tmps[j]? := fun j hj => (k4 j (by omega)).trans (hO3 j hj)
    have g81_4 := v4
    clear hs3 hf3 hO3 s4 k4 f4 g80_3
    clear v4
    first
      | refine held_skip (i := 4) (d := some 82) rfl rfl (by kernel_rfl) (by kernel_rfl) (by kernel_rfl) (fun c a w h => hQ c _ a w (by rfl) h) hH ?_ ?_
        · exact wanted_no (g := 3) (s := 81) rfl rfl g81_4
        simp only [List.setIfInBounds_toArray, List.set_cons_zero, List.set_cons_succ]
      | refine held_take (i := 4) (v := ?_) (d := some 82) rfl rfl (by kernel_rfl) (by kernel_rfl) (by kernel_rfl) (fun c a w h => hQ c _ a w (by rfl) h) hH ⟨?_, fun w hSw => ?_⟩ ?_
        rotate_left 1
        · exact wanted_yes (g := 3) (s := 81) rfl rfl g81_4
        · have e12 := eval_of ((hO4 12 (by decide)).trans c12)
          have ec : ∀ u, Act.eval b4 (.const u) = u := fun _ => rfl
          have ef : ∀ u, Act.eval b4 (.func u) = .func (.func u) #[] #[] := fun _ => rfl
          generalize Act.eval b4 = ρ at ec ef e12 ⊢
          (go_simp; all_goals with_reducible rfl)
        simp only [List.setIfInBounds_toArray, List.set_cons_zero, List.set_cons_succ]
    refine act_next (G := fun x => wpAnyH _ _ _ _ _ _ _ x _) _ 82 _ (by rw [hs4]; decide) (fun b5 s5 v5 k5 f5 => ?_)
    have hs5 := s5.trans hs4
    have hf5 := f5.trans hf4
    have hO5 : ∀ j, (j < 78 ∨ 109 ≤ j) → b5.tmps[j]? = a0.tmps[j]? := fun j hj => (k5 j (by omega)).trans (hO4 j hj)
    have g81_5 := (k5 81 (by decide)).trans g81_4
    have g82_5 := v5
    clear hs4 hf4 hO4 s5 k5 f5 g81_4
    clear v5
    first
      | refine held_skip (i := 5) (d := some 83) rfl rfl (by kernel_rfl) (by kernel_rfl) (by kernel_rfl) (fun c a w h => hQ c _ a w (by rfl) h) hH ?_ ?_
        · exact wanted_no (g := 3) (s := 81) rfl rfl g81_5
        simp only [List.setIfInBounds_toArray, List.set_cons_zero, List.set_cons_succ]
      | refine held_take (i := 5) (v := ?_) (d := some 83) rfl rfl (by kernel_rfl) (by kernel_rfl) (by kernel_rfl) (fun c a w h => hQ c _ a w (by rfl) h) hH ⟨?_, fun w hSw => ?_⟩ ?_
        rotate_left 1
        · exact wanted_yes (g := 3) (s := 81) rfl rfl g81_5
        · have e82 := eval_of g82_5
          obtain ⟨⟨y5, y6⟩, y7⟩ := hSw
          have ec : ∀ u, Act.eval b5 (.const u) = u := fun _ => rfl
          have ef : ∀ u, Act.eval b5 (.func u) = .func (.func u) #[] #[] := fun _ => rfl
          generalize Act.eval b5 = ρ at ec ef e82 ⊢
          (go_simp; all_goals with_reducible rfl)
        simp only [List.setIfInBounds_toArray, List.set_cons_zero, List.set_cons_succ]
    refine act_next (G := fun x => wpAnyH _ _ _ _ _ _ _ x _) _ 83 _ (by rw [hs5]; decide) (fun b6 s6 v6 k6 f6 => ?_)
    have hs6 := s6.trans hs5
    have hf6 := f6.trans hf5
    have hO6 : ∀ j, (j < 78 ∨ 109 ≤ j) → b6.tmps[j]? = a0.tmps[j]? := fun j hj => (k6 j (by omega)).trans (hO5 j hj)
    have g81_6 := (k6 81 (by decide)).trans g81_5
    have g83_6 := v6
    clear hs5 hf5 hO5 s6 k6 f6 g81_5 g82_5
    clear v6
    first
      | refine held_skip (i := 6) (d := some 84) rfl rfl (by kernel_rfl) (by kernel_rfl) (by kernel_rfl) (fun c a w h => hQ c _ a w (by rfl) h) hH ?_ ?_
        · exact wanted_no (g := 3) (s := 81) rfl rfl g81_6
        simp only [List.setIfInBounds_toArray, List.set_cons_zero, List.set_cons_succ]
      | refine held_take (i := 6) (v := ?_) (d := some 84) rfl rfl (by kernel_rfl) (by kernel_rfl) (by kernel_rfl) (fun c a w h => hQ c _ a w (by rfl) h) hH ⟨?_, fun w hSw => ?_⟩ ?_
        rotate_left 1
        · exact wanted_yes (g := 3) (s := 81) rfl rfl g81_6
        · have e83 := eval_of g83_6
          have ec : ∀ u, Act.eval b6 (.const u) = u := fun _ => rfl
          have ef : ∀ u, Act.eval b6 (.func u) = .func (.func u) #[] #[] := fun _ => rfl
          generalize Act.eval b6 = ρ at ec ef e83 ⊢
          (go_simp; all_goals with_reducible rfl)
        simp only [List.setIfInBounds_toArray, List.set_cons_zero, List.set_cons_succ]
    refine act_next (G := fun x => wpAnyH _ _ _ _ _ _ _ x _) _ 84 _ (by rw [hs6]; decide) (fun b7 s7 v7 k7 f7 => ?_)
    have hs7 := s7.trans hs6
    have hf7 := f7.trans hf6
    have hO7 : ∀ j, (j < 78 ∨ 109 ≤ j) → b7.tmps[j]? = a0.tmps[j]? := fun j hj => (k7 j (by omega)).trans (hO6 j hj)
    have g81_7 := (k7 81 (by decide)).trans g81_6
    have g84_7 := v7
    clear hs6 hf6 hO6 s7 k7 f7 g81_6 g83_6
    clear v7
    refine held_take (i := 7) (v := ?_) (d := some 85) rfl rfl (by kernel_rfl) (by kernel_rfl) (by kernel_rfl) (fun c a w h => hQ c _ a w (by rfl) h) hH ⟨?_, fun w hSw => ?_⟩ ?_
    rotate_left 1
    · rfl
    · have e81 := eval_of g81_7
      have e84 := eval_of g84_7
      have ec : ∀ u, Act.eval b7 (.const u) = u := fun _ => rfl
      have ef : ∀ u, Act.eval b7 (.func u) = .func (.func u) #[] #[] := fun _ => rfl
      generalize Act.eval b7 = ρ at ec ef e81 e84 ⊢
      (go_simp; all_goals with_reducible rfl)
    simp only [List.setIfInBounds_toArray, List.set_cons_zero, List.set_cons_succ]
    refine act_next (G := fun x => wpAnyH _ _ _ _ _ _ _ x _) _ 85 _ (by rw [hs7]; decide) (fun b8 s8 v8 k8 f8 => ?_)
    have hs8 := s8.trans hs7
    have hf8 := f8.trans hf7
    have hO8 : ∀ j, (j < 78 ∨ 109 ≤ j) → b8.tmps[j]? = a0.tmps[j]? := fun j hj => (k8 j (by omega)).trans (hO7 j hj)
    have g85_8 := v8
    clear hs7 hf7 hO7 s8 k8 f8 g81_7 g84_7
    clear v8
    refine held_take (i := 8) (v := ?_) (d := some 86) rfl rfl (by kernel_rfl) (by kernel_rfl) (by kernel_rfl) (fun c a w h => hQ c _ a w (by rfl) h) hH ⟨?_, fun w hSw => ?_⟩ ?_
    rotate_left 1
    · rfl
    · have e85 := eval_of g85_8
      have ec : ∀ u, Act.eval b8 (.const u) = u := fun _ => rfl
      have ef : ∀ u, Act.eval b8 (.func u) = .func (.func u) #[] #[] := fun _ => rfl
      generalize Act.eval b8 = ρ at ec ef e85 ⊢
      (go_simp; all_goals with_reducible rfl)
    simp only [List.setIfInBounds_toArray, List.set_cons_zero, List.set_cons_succ]
    refine act_next (G := fun x => wpAnyH _ _ _ _ _ _ _ x _) _ 86 _ (by rw [hs8]; decide) (fun b9 s9 v9 k9 f9 => ?_)
    have hs9 := s9.trans hs8
    have hf9 := f9.trans hf8
    have hO9 : ∀ j, (j < 78 ∨ 109 ≤ j) → b9.tmps[j]? = a0.tmps[j]? := fun j hj => (k9 j (by omega)).trans (hO8 j hj)
    have g86_9 := v9
    clear hs8 hf8 hO8 s9 k9 f9 g85_8
    clear v9
    first
      | refine held_skip (i := 9) (d := some 87) rfl rfl (by kernel_rfl) (by kernel_rfl) (by kernel_rfl) (fun c a w h => hQ c _ a w (by rfl) h) hH ?_ ?_
        · exact wanted_no (g := 8) (s := 86) rfl rfl g86_9
        simp only [List.setIfInBounds_toArray, List.set_cons_zero, List.set_cons_succ]
      | refine held_take (i := 9) (v := ?_) (d := some 87) rfl rfl (by kernel_rfl) (by kernel_rfl) (by kernel_rfl) (fun c a w h => hQ c _ a w (by rfl) h) hH ⟨?_, fun w hSw => ?_⟩ ?_
        rotate_left 1
        · exact wanted_yes (g := 8) (s := 86) rfl rfl g86_9
        · have e12 := eval_of ((hO9 12 (by decide)).trans c12)
          have ec : ∀ u, Act.eval b9 (.const u) = u := fun _ => rfl
          have ef : ∀ u, Act.eval b9 (.func u) = .func (.func u) #[] #[] := fun _ => rfl
          generalize Act.eval b9 = ρ at ec ef e12 ⊢
          (go_simp; all_goals with_reducible rfl)
        simp only [List.setIfInBounds_toArray, List.set_cons_zero, List.set_cons_succ]
    refine act_next (G := fun x => wpAnyH _ _ _ _ _ _ _ x _) _ 87 _ (by rw [hs9]; decide) (fun b10 s10 v10 k10 f10 => ?_)
    have hs10 := s10.trans hs9
    have hf10 := f10.trans hf9
    have hO10 : ∀ j, (j < 78 ∨ 109 ≤ j) → b10.tmps[j]? = a0.tmps[j]? := fun j hj => (k10 j (by omega)).trans (hO9 j hj)
    have g86_10 := (k10 86 (by decide)).trans g86_9
    have g87_10 := v10
    clear hs9 hf9 hO9 s10 k10 f10 g86_9
    clear v10
    first
      | refine held_skip (i := 10) (d := some 88) rfl rfl (by kernel_rfl) (by kernel_rfl) (by kernel_rfl) (fun c a w h => hQ c _ a w (by rfl) h) hH ?_ ?_
        · exact wanted_no (g := 8) (s := 86) rfl rfl g86_10
        simp only [List.setIfInBounds_toArray, List.set_cons_zero, List.set_cons_succ]
      | refine held_take (i := 10) (v := ?_) (d := some 88) rfl rfl (by kernel_rfl) (by kernel_rfl) (by kernel_rfl) (fun c a w h => hQ c _ a w (by rfl) h) hH ⟨?_, fun w hSw => ?_⟩ ?_
        rotate_left 1
        · exact wanted_yes (g := 8) (s := 86) rfl rfl g86_10
        · have e87 := eval_of g87_10
          obtain ⟨⟨y5, y6⟩, y7⟩ := hSw
          have ec : ∀ u, Act.eval b10 (.const u) = u := fun _ => rfl
          have ef : ∀ u, Act.eval b10 (.func u) = .func (.func u) #[] #[] := fun _ => rfl
          generalize Act.eval b10 = ρ at ec ef e87 ⊢
          (go_simp; all_goals with_reducible rfl)
        simp only [List.setIfInBounds_toArray, List.set_cons_zero, List.set_cons_succ]
    refine act_next (G := fun x => wpAnyH _ _ _ _ _ _ _ x _) _ 88 _ (by rw [hs10]; decide) (fun b11 s11 v11 k11 f11 => ?_)
    have hs11 := s11.trans hs10
    have hf11 := f11.trans hf10
    have hO11 : ∀ j, (j < 78 ∨ 109 ≤ j) → b11.tmps[j]? = a0.tmps[j]? := fun j hj => (k11 j (by omega)).trans (hO10 j hj)
    have g86_11 := (k11 86 (by decide)).trans g86_10
    have g88_11 := v11
    clear hs10 hf10 hO10 s11 k11 f11 g86_10 g87_10
    clear v11
    first
      | refine held_skip (i := 11) (d := some 89) rfl rfl (by kernel_rfl) (by kernel_rfl) (by kernel_rfl) (fun c a w h => hQ c _ a w (by rfl) h) hH ?_ ?_
        · exact wanted_no (g := 8) (s := 86) rfl rfl g86_11
        simp only [List.setIfInBounds_toArray, List.set_cons_zero, List.set_cons_succ]
      | refine held_take (i := 11) (v := ?_) (d := some 89) rfl rfl (by kernel_rfl) (by kernel_rfl) (by kernel_rfl) (fun c a w h => hQ c _ a w (by rfl) h) hH ⟨?_, fun w hSw => ?_⟩ ?_
        rotate_left 1
        · exact wanted_yes (g := 8) (s := 86) rfl rfl g86_11
        · have e10 := eval_of ((hO11 10 (by decide)).trans c10)
          have ec : ∀ u, Act.eval b11 (.const u) = u := fun _ => rfl
          have ef : ∀ u, Act.eval b11 (.func u) = .func (.func u) #[] #[] := fun _ => rfl
          generalize Act.eval b11 = ρ at ec ef e10 ⊢
          (go_simp; all_goals with_reducible rfl)
        simp only [List.setIfInBounds_toArray, List.set_cons_zero, List.set_cons_succ]
    refine act_next (G := fun x => wpAnyH _ _ _ _ _ _ _ x _) _ 89 _ (by rw [hs11]; decide) (fun b12 s12 v12 k12 f12 => ?_)
    have hs12 := s12.trans hs11
    have hf12 := f12.trans hf11
    have hO12 : ∀ j, (j < 78 ∨ 109 ≤ j) → b12.tmps[j]? = a0.tmps[j]? := fun j hj => (k12 j (by omega)).trans (hO11 j hj)
    have g86_12 := (k12 86 (by decide)).trans g86_11
    have g88_12 := (k12 88 (by decide)).trans g88_11
    have g89_12 := v12
    clear hs11 hf11 hO11 s12 k12 f12 g86_11 g88_11
    clear v12
    first
      | refine held_skip (i := 12) (d := some 90) rfl rfl (by kernel_rfl) (by kernel_rfl) (by kernel_rfl) (fun c a w h => hQ c _ a w (by rfl) h) hH ?_ ?_
        · exact wanted_no (g := 8) (s := 86) rfl rfl g86_12
        simp only [List.setIfInBounds_toArray, List.set_cons_zero, List.set_cons_succ]
      | refine held_take (i := 12) (v := ?_) (d := some 90) rfl rfl (by kernel_rfl) (by kernel_rfl) (by kernel_rfl) (fun c a w h => hQ c _ a w (by rfl) h) hH ⟨?_, fun w hSw => ?_⟩ ?_
        rotate_left 1
        · exact wanted_yes (g := 8) (s := 86) rfl rfl g86_12
        · have e89 := eval_of g89_12
          have ec : ∀ u, Act.eval b12 (.const u) = u := fun _ => rfl
          have ef : ∀ u, Act.eval b12 (.func u) = .func (.func u) #[] #[] := fun _ => rfl
          generalize Act.eval b12 = ρ at ec ef e89 ⊢
          (go_simp; all_goals with_reducible rfl)
        simp only [List.setIfInBounds_toArray, List.set_cons_zero, List.set_cons_succ]
    refine act_next (G := fun x => wpAnyH _ _ _ _ _ _ _ x _) _ 90 _ (by rw [hs12]; decide) (fun b13 s13 v13 k13 f13 => ?_)
    have hs13 := s13.trans hs12
    have hf13 := f13.trans hf12
    have hO13 : ∀ j, (j < 78 ∨ 109 ≤ j) → b13.tmps[j]? = a0.tmps[j]? := fun j hj => (k13 j (by omega)).trans (hO12 j hj)
    have g86_13 := (k13 86 (by decide)).trans g86_12
    have g88_13 := (k13 88 (by decide)).trans g88_12
    have g90_13 := v13
    clear hs12 hf12 hO12 s13 k13 f13 g86_12 g88_12 g89_12
    clear v13
    first
      | refine held_skip (i := 13) (d := some 91) rfl rfl (by kernel_rfl) (by kernel_rfl) (by kernel_rfl) (fun c a w h => hQ c _ a w (by rfl) h) hH ?_ ?_
        · exact wanted_no (g := 8) (s := 86) rfl rfl g86_13
        simp only [List.setIfInBounds_toArray, List.set_cons_zero, List.set_cons_succ]
      | refine held_take (i := 13) (v := ?_) (d := some 91) rfl rfl (by kernel_rfl) (by kernel_rfl) (by kernel_rfl) (fun c a w h => hQ c _ a w (by rfl) h) hH ⟨?_, fun w hSw => ?_⟩ ?_
        rotate_left 1
        · exact wanted_yes (g := 8) (s := 86) rfl rfl g86_13
        · have e90 := eval_of g90_13
          have ec : ∀ u, Act.eval b13 (.const u) = u := fun _ => rfl
          have ef : ∀ u, Act.eval b13 (.func u) = .func (.func u) #[] #[] := fun _ => rfl
          generalize Act.eval b13 = ρ at ec ef e90 ⊢
          (go_simp; all_goals with_reducible rfl)
        simp only [List.setIfInBounds_toArray, List.set_cons_zero, List.set_cons_succ]
    refine act_next (G := fun x => wpAnyH _ _ _ _ _ _ _ x _) _ 91 _ (by rw [hs13]; decide) (fun b14 s14 v14 k14 f14 => ?_)
    have hs14 := s14.trans hs13
    have hf14 := f14.trans hf13
    have hO14 : ∀ j, (j < 78 ∨ 109 ≤ j) → b14.tmps[j]? = a0.tmps[j]? := fun j hj => (k14 j (by omega)).trans (hO13 j hj)
    have g86_14 := (k14 86 (by decide)).trans g86_13
    have g88_14 := (k14 88 (by decide)).trans g88_13
    have g91_14 := v14
    clear hs13 hf13 hO13 s14 k14 f14 g86_13 g88_13 g90_13
    clear v14
    first
      | refine held_skip (i := 14) (d := some 92) rfl rfl (by kernel_rfl) (by kernel_rfl) (by kernel_rfl) (fun c a w h => hQ c _ a w (by rfl) h) hH ?_ ?_
        · exact wanted_no (g := 8) (s := 86) rfl rfl g86_14
        simp only [List.setIfInBounds_toArray, List.set_cons_zero, List.set_cons_succ]
      | refine held_take (i := 14) (v := ?_) (d := some 92) rfl rfl (by kernel_rfl) (by kernel_rfl) (by kernel_rfl) (fun c a w h => hQ c _ a w (by rfl) h) hH ⟨?_, fun w hSw => ?_⟩ ?_
        rotate_left 1
        · exact wanted_yes (g := 8) (s := 86) rfl rfl g86_14
        · have e91 := eval_of g91_14
          obtain ⟨⟨y5, y6⟩, y7⟩ := hSw
          have ec : ∀ u, Act.eval b14 (.const u) = u := fun _ => rfl
          have ef : ∀ u, Act.eval b14 (.func u) = .func (.func u) #[] #[] := fun _ => rfl
          generalize Act.eval b14 = ρ at ec ef e91 ⊢
          (go_simp; all_goals with_reducible rfl)
        simp only [List.setIfInBounds_toArray, List.set_cons_zero, List.set_cons_succ]
    refine act_next (G := fun x => wpAnyH _ _ _ _ _ _ _ x _) _ 92 _ (by rw [hs14]; decide) (fun b15 s15 v15 k15 f15 => ?_)
    have hs15 := s15.trans hs14
    have hf15 := f15.trans hf14
    have hO15 : ∀ j, (j < 78 ∨ 109 ≤ j) → b15.tmps[j]? = a0.tmps[j]? := fun j hj => (k15 j (by omega)).trans (hO14 j hj)
    have g86_15 := (k15 86 (by decide)).trans g86_14
    have g88_15 := (k15 88 (by decide)).trans g88_14
    have g92_15 := v15
    clear hs14 hf14 hO14 s15 k15 f15 g86_14 g88_14 g91_14
    clear v15
    first
      | refine held_skip (i := 15) (d := some 93) rfl rfl (by kernel_rfl) (by kernel_rfl) (by kernel_rfl) (fun c a w h => hQ c _ a w (by rfl) h) hH ?_ ?_
        · exact wanted_no (g := 8) (s := 86) rfl rfl g86_15
        simp only [List.setIfInBounds_toArray, List.set_cons_zero, List.set_cons_succ]
      | refine held_take (i := 15) (v := ?_) (d := some 93) rfl rfl (by kernel_rfl) (by kernel_rfl) (by kernel_rfl) (fun c a w h => hQ c _ a w (by rfl) h) hH ⟨?_, fun w hSw => ?_⟩ ?_
        rotate_left 1
        · exact wanted_yes (g := 8) (s := 86) rfl rfl g86_15
        · have e92 := eval_of g92_15
          have ec : ∀ u, Act.eval b15 (.const u) = u := fun _ => rfl
          have ef : ∀ u, Act.eval b15 (.func u) = .func (.func u) #[] #[] := fun _ => rfl
          generalize Act.eval b15 = ρ at ec ef e92 ⊢
          (go_simp; all_goals with_reducible rfl)
        simp only [List.setIfInBounds_toArray, List.set_cons_zero, List.set_cons_succ]
    refine act_next (G := fun x => wpAnyH _ _ _ _ _ _ _ x _) _ 93 _ (by rw [hs15]; decide) (fun b16 s16 v16 k16 f16 => ?_)
    have hs16 := s16.trans hs15
    have hf16 := f16.trans hf15
    have hO16 : ∀ j, (j < 78 ∨ 109 ≤ j) → b16.tmps[j]? = a0.tmps[j]? := fun j hj => (k16 j (by omega)).trans (hO15 j hj)
    have g86_16 := (k16 86 (by decide)).trans g86_15
    have g88_16 := (k16 88 (by decide)).trans g88_15
    have g93_16 := v16
    clear hs15 hf15 hO15 s16 k16 f16 g86_15 g88_15 g92_15
    clear v16
    first
      | refine held_skip (i := 16) (d := some 94) rfl rfl (by kernel_rfl) (by kernel_rfl) (by kernel_rfl) (fun c a w h => hQ c _ a w (by rfl) h) hH ?_ ?_
        · exact wanted_no (g := 8) (s := 86) rfl rfl g86_16
        simp only [List.setIfInBounds_toArray, List.set_cons_zero, List.set_cons_succ]
      | refine held_take (i := 16) (v := ?_) (d := some 94) rfl rfl (by kernel_rfl) (by kernel_rfl) (by kernel_rfl) (fun c a w h => hQ c _ a w (by rfl) h) hH ⟨?_, fun w hSw => ?_⟩ ?_
        rotate_left 1
        · exact wanted_yes (g := 8) (s := 86) rfl rfl g86_16
        · have e88 := eval_of g88_16
          have e93 := eval_of g93_16
          have ec : ∀ u, Act.eval b16 (.const u) = u := fun _ => rfl
          have ef : ∀ u, Act.eval b16 (.func u) = .func (.func u) #[] #[] := fun _ => rfl
          generalize Act.eval b16 = ρ at ec ef e88 e93 ⊢
          (go_simp; all_goals with_reducible rfl)
        simp only [List.setIfInBounds_toArray, List.set_cons_zero, List.set_cons_succ]
    refine act_next (G := fun x => wpAnyH _ _ _ _ _ _ _ x _) _ 94 _ (by rw [hs16]; decide) (fun b17 s17 v17 k17 f17 => ?_)
    have hs17 := s17.trans hs16
    have hf17 := f17.trans hf16
    have hO17 : ∀ j, (j < 78 ∨ 109 ≤ j) → b17.tmps[j]? = a0.tmps[j]? := fun j hj => (k17 j (by omega)).trans (hO16 j hj)
    have g86_17 := (k17 86 (by decide)).trans g86_16
    have g94_17 := v17
    clear hs16 hf16 hO16 s17 k17 f17 g86_16 g88_16 g93_16
    clear v17
    refine held_take (i := 17) (v := ?_) (d := some 95) rfl rfl (by kernel_rfl) (by kernel_rfl) (by kernel_rfl) (fun c a w h => hQ c _ a w (by rfl) h) hH ⟨?_, fun w hSw => ?_⟩ ?_
    rotate_left 1
    · rfl
    · have e86 := eval_of g86_17
      have e94 := eval_of g94_17
      have ec : ∀ u, Act.eval b17 (.const u) = u := fun _ => rfl
      have ef : ∀ u, Act.eval b17 (.func u) = .func (.func u) #[] #[] := fun _ => rfl
      generalize Act.eval b17 = ρ at ec ef e86 e94 ⊢
      (go_simp; all_goals with_reducible rfl)
    simp only [List.setIfInBounds_toArray, List.set_cons_zero, List.set_cons_succ]
    refine act_next (G := fun x => wpAnyH _ _ _ _ _ _ _ x _) _ 95 _ (by rw [hs17]; decide) (fun b18 s18 v18 k18 f18 => ?_)
    have hs18 := s18.trans hs17
    have hf18 := f18.trans hf17
    have hO18 : ∀ j, (j < 78 ∨ 109 ≤ j) → b18.tmps[j]? = a0.tmps[j]? := fun j hj => (k18 j (by omega)).trans (hO17 j hj)
    have g95_18 := v18
    clear hs17 hf17 hO17 s18 k18 f18 g86_17 g94_17
    clear v18
    refine held_take (i := 18) (v := ?_) (d := some 96) rfl rfl (by kernel_rfl) (by kernel_rfl) (by kernel_rfl) (fun c a w h => hQ c _ a w (by rfl) h) hH ⟨?_, fun w hSw => ?_⟩ ?_
    rotate_left 1
    · rfl
    · have e95 := eval_of g95_18
      have ec : ∀ u, Act.eval b18 (.const u) = u := fun _ => rfl
      have ef : ∀ u, Act.eval b18 (.func u) = .func (.func u) #[] #[] := fun _ => rfl
      generalize Act.eval b18 = ρ at ec ef e95 ⊢
      (go_simp; all_goals with_reducible rfl)
    simp only [List.setIfInBounds_toArray, List.set_cons_zero, List.set_cons_succ]
    refine act_next (G := fun x => wpAnyH _ _ _ _ _ _ _ x _) _ 96 _ (by rw [hs18]; decide) (fun b19 s19 v19 k19 f19 => ?_)
    have hs19 := s19.trans hs18
    have hf19 := f19.trans hf18
    have hO19 : ∀ j, (j < 78 ∨ 109 ≤ j) → b19.tmps[j]? = a0.tmps[j]? := fun j hj => (k19 j (by omega)).trans (hO18 j hj)
    have g96_19 := v19
    clear hs18 hf18 hO18 s19 k19 f19 g95_18
    clear v19
    first
      | refine held_skip (i := 19) (d := some 97) rfl rfl (by kernel_rfl) (by kernel_rfl) (by kernel_rfl) (fun c a w h => hQ c _ a w (by rfl) h) hH ?_ ?_
        · exact wanted_no (g := 18) (s := 96) rfl rfl g96_19
        simp only [List.setIfInBounds_toArray, List.set_cons_zero, List.set_cons_succ]
      | refine held_take (i := 19) (v := ?_) (d := some 97) rfl rfl (by kernel_rfl) (by kernel_rfl) (by kernel_rfl) (fun c a w h => hQ c _ a w (by rfl) h) hH ⟨?_, fun w hSw => ?_⟩ ?_
        rotate_left 1
        · exact wanted_yes (g := 18) (s := 96) rfl rfl g96_19
        · have e12 := eval_of ((hO19 12 (by decide)).trans c12)
          have ec : ∀ u, Act.eval b19 (.const u) = u := fun _ => rfl
          have ef : ∀ u, Act.eval b19 (.func u) = .func (.func u) #[] #[] := fun _ => rfl
          generalize Act.eval b19 = ρ at ec ef e12 ⊢
          (go_simp; all_goals with_reducible rfl)
        simp only [List.setIfInBounds_toArray, List.set_cons_zero, List.set_cons_succ]
    refine act_next (G := fun x => wpAnyH _ _ _ _ _ _ _ x _) _ 97 _ (by rw [hs19]; decide) (fun b20 s20 v20 k20 f20 => ?_)
    have hs20 := s20.trans hs19
    have hf20 := f20.trans hf19
    have hO20 : ∀ j, (j < 78 ∨ 109 ≤ j) → b20.tmps[j]? = a0.tmps[j]? := fun j hj => (k20 j (by omega)).trans (hO19 j hj)
    have g96_20 := (k20 96 (by decide)).trans g96_19
    have g97_20 := v20
    clear hs19 hf19 hO19 s20 k20 f20 g96_19
    clear v20
    first
      | refine held_skip (i := 20) (d := some 98) rfl rfl (by kernel_rfl) (by kernel_rfl) (by kernel_rfl) (fun c a w h => hQ c _ a w (by rfl) h) hH ?_ ?_
        · exact wanted_no (g := 18) (s := 96) rfl rfl g96_20
        simp only [List.setIfInBounds_toArray, List.set_cons_zero, List.set_cons_succ]
      | refine held_take (i := 20) (v := ?_) (d := some 98) rfl rfl (by kernel_rfl) (by kernel_rfl) (by kernel_rfl) (fun c a w h => hQ c _ a w (by rfl) h) hH ⟨?_, fun w hSw => ?_⟩ ?_
        rotate_left 1
        · exact wanted_yes (g := 18) (s := 96) rfl rfl g96_20
        · have e97 := eval_of g97_20
          obtain ⟨⟨y5, y6⟩, y7⟩ := hSw
          have ec : ∀ u, Act.eval b20 (.const u) = u := fun _ => rfl
          have ef : ∀ u, Act.eval b20 (.func u) = .func (.func u) #[] #[] := fun _ => rfl
          generalize Act.eval b20 = ρ at ec ef e97 ⊢
          (go_simp; all_goals with_reducible rfl)
        simp only [List.setIfInBounds_toArray, List.set_cons_zero, List.set_cons_succ]
    refine act_next (G := fun x => wpAnyH _ _ _ _ _ _ _ x _) _ 98 _ (by rw [hs20]; decide) (fun b21 s21 v21 k21 f21 => ?_)
    have hs21 := s21.trans hs20
    have hf21 := f21.trans hf20
    have hO21 : ∀ j, (j < 78 ∨ 109 ≤ j) → b21.tmps[j]? = a0.tmps[j]? := fun j hj => (k21 j (by omega)).trans (hO20 j hj)
    have g96_21 := (k21 96 (by decide)).trans g96_20
    have g98_21 := v21
    clear hs20 hf20 hO20 s21 k21 f21 g96_20 g97_20
    clear v21
    first
      | refine held_skip (i := 21) (d := some 99) rfl rfl (by kernel_rfl) (by kernel_rfl) (by kernel_rfl) (fun c a w h => hQ c _ a w (by rfl) h) hH ?_ ?_
        · exact wanted_no (g := 18) (s := 96) rfl rfl g96_21
        simp only [List.setIfInBounds_toArray, List.set_cons_zero, List.set_cons_succ]
      | refine held_take (i := 21) (v := ?_) (d := some 99) rfl rfl (by kernel_rfl) (by kernel_rfl) (by kernel_rfl) (fun c a w h => hQ c _ a w (by rfl) h) hH ⟨?_, fun w hSw => ?_⟩ ?_
        rotate_left 1
        · exact wanted_yes (g := 18) (s := 96) rfl rfl g96_21
        · have e10 := eval_of ((hO21 10 (by decide)).trans c10)
          have ec : ∀ u, Act.eval b21 (.const u) = u := fun _ => rfl
          have ef : ∀ u, Act.eval b21 (.func u) = .func (.func u) #[] #[] := fun _ => rfl
          generalize Act.eval b21 = ρ at ec ef e10 ⊢
          (go_simp; all_goals with_reducible rfl)
        simp only [List.setIfInBounds_toArray, List.set_cons_zero, List.set_cons_succ]
    refine act_next (G := fun x => wpAnyH _ _ _ _ _ _ _ x _) _ 99 _ (by rw [hs21]; decide) (fun b22 s22 v22 k22 f22 => ?_)
    have hs22 := s22.trans hs21
    have hf22 := f22.trans hf21
    have hO22 : ∀ j, (j < 78 ∨ 109 ≤ j) → b22.tmps[j]? = a0.tmps[j]? := fun j hj => (k22 j (by omega)).trans (hO21 j hj)
    have g96_22 := (k22 96 (by decide)).trans g96_21
    have g98_22 := (k22 98 (by decide)).trans g98_21
    have g99_22 := v22
    clear hs21 hf21 hO21 s22 k22 f22 g96_21 g98_21
    clear v22
    first
      | refine held_skip (i := 22) (d := some 100) rfl rfl (by kernel_rfl) (by kernel_rfl) (by kernel_rfl) (fun c a w h => hQ c _ a w (by rfl) h) hH ?_ ?_
        · exact wanted_no (g := 18) (s := 96) rfl rfl g96_22
        simp only [List.setIfInBounds_toArray, List.set_cons_zero, List.set_cons_succ]
      | refine held_take (i := 22) (v := ?_) (d := some 100) rfl rfl (by kernel_rfl) (by kernel_rfl) (by kernel_rfl) (fun c a w h => hQ c _ a w (by rfl) h) hH ⟨?_, fun w hSw => ?_⟩ ?_
        rotate_left 1
        · exact wanted_yes (g := 18) (s := 96) rfl rfl g96_22
        · have e99 := eval_of g99_22
          have ec : ∀ u, Act.eval b22 (.const u) = u := fun _ => rfl
          have ef : ∀ u, Act.eval b22 (.func u) = .func (.func u) #[] #[] := fun _ => rfl
          generalize Act.eval b22 = ρ at ec ef e99 ⊢
          (go_simp; all_goals with_reducible rfl)
        simp only [List.setIfInBounds_toArray, List.set_cons_zero, List.set_cons_succ]
    refine act_next (G := fun x => wpAnyH _ _ _ _ _ _ _ x _) _ 100 _ (by rw [hs22]; decide) (fun b23 s23 v23 k23 f23 => ?_)
    have hs23 := s23.trans hs22
    have hf23 := f23.trans hf22
    have hO23 : ∀ j, (j < 78 ∨ 109 ≤ j) → b23.tmps[j]? = a0.tmps[j]? := fun j hj => (k23 j (by omega)).trans (hO22 j hj)
    have g96_23 := (k23 96 (by decide)).trans g96_22
    have g98_23 := (k23 98 (by decide)).trans g98_22
    have g100_23 := v23
    clear hs22 hf22 hO22 s23 k23 f23 g96_22 g98_22 g99_22
    clear v23
    first
      | refine held_skip (i := 23) (d := some 101) rfl rfl (by kernel_rfl) (by kernel_rfl) (by kernel_rfl) (fun c a w h => hQ c _ a w (by rfl) h) hH ?_ ?_
        · exact wanted_no (g := 18) (s := 96) rfl rfl g96_23
        simp only [List.setIfInBounds_toArray, List.set_cons_zero, List.set_cons_succ]
      | refine held_take (i := 23) (v := ?_) (d := some 101) rfl rfl (by kernel_rfl) (by kernel_rfl) (by kernel_rfl) (fun c a w h => hQ c _ a w (by rfl) h) hH ⟨?_, fun w hSw => ?_⟩ ?_
        rotate_left 1
        · exact wanted_yes (g := 18) (s := 96) rfl rfl g96_23
        · have e100 := eval_of g100_23
          have ec : ∀ u, Act.eval b23 (.const u) = u := fun _ => rfl
          have ef : ∀ u, Act.eval b23 (.func u) = .func (.func u) #[] #[] := fun _ => rfl
          generalize Act.eval b23 = ρ at ec ef e100 ⊢
          (go_simp; all_goals with_reducible rfl)
        simp only [List.setIfInBounds_toArray, List.set_cons_zero, List.set_cons_succ]
    refine act_next (G := fun x => wpAnyH _ _ _ _ _ _ _ x _) _ 101 _ (by rw [hs23]; decide) (fun b24 s24 v24 k24 f24 => ?_)
    have hs24 := s24.trans hs23
    have hf24 := f24.trans hf23
    have hO24 : ∀ j, (j < 78 ∨ 109 ≤ j) → b24.tmps[j]? = a0.tmps[j]? := fun j hj => (k24 j (by omega)).trans (hO23 j hj)
    have g96_24 := (k24 96 (by decide)).trans g96_23
    have g98_24 := (k24 98 (by decide)).trans g98_23
    have g101_24 := v24
    clear hs23 hf23 hO23 s24 k24 f24 g96_23 g98_23 g100_23
    clear v24
    first
      | refine held_skip (i := 24) (d := some 102) rfl rfl (by kernel_rfl) (by kernel_rfl) (by kernel_rfl) (fun c a w h => hQ c _ a w (by rfl) h) hH ?_ ?_
        · exact wanted_no (g := 18) (s := 96) rfl rfl g96_24
        simp only [List.setIfInBounds_toArray, List.set_cons_zero, List.set_cons_succ]
      | refine held_take (i := 24) (v := ?_) (d := some 102) rfl rfl (by kernel_rfl) (by kernel_rfl) (by kernel_rfl) (fun c a w h => hQ c _ a w (by rfl) h) hH ⟨?_, fun w hSw => ?_⟩ ?_
        rotate_left 1
        · exact wanted_yes (g := 18) (s := 96) rfl rfl g96_24
        · have e101 := eval_of g101_24
          obtain ⟨⟨y5, y6⟩, y7⟩ := hSw
          have ec : ∀ u, Act.eval b24 (.const u) = u := fun _ => rfl
          have ef : ∀ u, Act.eval b24 (.func u) = .func (.func u) #[] #[] := fun _ => rfl
          generalize Act.eval b24 = ρ at ec ef e101 ⊢
          (go_simp; all_goals with_reducible rfl)
        simp only [List.setIfInBounds_toArray, List.set_cons_zero, List.set_cons_succ]
    refine act_next (G := fun x => wpAnyH _ _ _ _ _ _ _ x _) _ 102 _ (by rw [hs24]; decide) (fun b25 s25 v25 k25 f25 => ?_)
    have hs25 := s25.trans hs24
    have hf25 := f25.trans hf24
    have hO25 : ∀ j, (j < 78 ∨ 109 ≤ j) → b25.tmps[j]? = a0.tmps[j]? := fun j hj => (k25 j (by omega)).trans (hO24 j hj)
    have g96_25 := (k25 96 (by decide)).trans g96_24
    have g98_25 := (k25 98 (by decide)).trans g98_24
    have g102_25 := v25
    clear hs24 hf24 hO24 s25 k25 f25 g96_24 g98_24 g101_24
    clear v25
    first
      | refine held_skip (i := 25) (d := some 103) rfl rfl (by kernel_rfl) (by kernel_rfl) (by kernel_rfl) (fun c a w h => hQ c _ a w (by rfl) h) hH ?_ ?_
        · exact wanted_no (g := 18) (s := 96) rfl rfl g96_25
        simp only [List.setIfInBounds_toArray, List.set_cons_zero, List.set_cons_succ]
      | refine held_take (i := 25) (v := ?_) (d := some 103) rfl rfl (by kernel_rfl) (by kernel_rfl) (by kernel_rfl) (fun c a w h => hQ c _ a w (by rfl) h) hH ⟨?_, fun w hSw => ?_⟩ ?_
        rotate_left 1
        · exact wanted_yes (g := 18) (s := 96) rfl rfl g96_25
        · have e102 := eval_of g102_25
          have ec : ∀ u, Act.eval b25 (.const u) = u := fun _ => rfl
          have ef : ∀ u, Act.eval b25 (.func u) = .func (.func u) #[] #[] := fun _ => rfl
          generalize Act.eval b25 = ρ at ec ef e102 ⊢
          (go_simp; all_goals with_reducible rfl)
        simp only [List.setIfInBounds_toArray, List.set_cons_zero, List.set_cons_succ]
    refine act_next (G := fun x => wpAnyH _ _ _ _ _ _ _ x _) _ 103 _ (by rw [hs25]; decide) (fun b26 s26 v26 k26 f26 => ?_)
    have hs26 := s26.trans hs25
    have hf26 := f26.trans hf25
    have hO26 : ∀ j, (j < 78 ∨ 109 ≤ j) → b26.tmps[j]? = a0.tmps[j]? := fun j hj => (k26 j (by omega)).trans (hO25 j hj)
    have g96_26 := (k26 96 (by decide)).trans g96_25
    have g98_26 := (k26 98 (by decide)).trans g98_25
    have g103_26 := v26
    clear hs25 hf25 hO25 s26 k26 f26 g96_25 g98_25 g102_25
    clear v26
    first
      | refine held_skip (i := 26) (d := some 104) rfl rfl (by kernel_rfl) (by kernel_rfl) (by kernel_rfl) (fun c a w h => hQ c _ a w (by rfl) h) hH ?_ ?_
        · exact wanted_no (g := 18) (s := 96) rfl rfl g96_26
        simp only [List.setIfInBounds_toArray, List.set_cons_zero, List.set_cons_succ]
      | refine held_take (i := 26) (v := ?_) (d := some 104) rfl rfl (by kernel_rfl) (by kernel_rfl) (by kernel_rfl) (fun c a w h => hQ c _ a w (by rfl) h) hH ⟨?_, fun w hSw => ?_⟩ ?_
        rotate_left 1
        · exact wanted_yes (g := 18) (s := 96) rfl rfl g96_26
        · have e12 := eval_of ((hO26 12 (by decide)).trans c12)
          have ec : ∀ u, Act.eval b26 (.const u) = u := fun _ => rfl
          have ef : ∀ u, Act.eval b26 (.func u) = .func (.func u) #[] #[] := fun _ => rfl
          generalize Act.eval b26 = ρ at ec ef e12 ⊢
          (go_simp; all_goals with_reducible rfl)
        simp only [List.setIfInBounds_toArray, List.set_cons_zero, List.set_cons_succ]
    refine act_next (G := fun x => wpAnyH _ _ _ _ _ _ _ x _) _ 104 _ (by rw [hs26]; decide) (fun b27 s27 v27 k27 f27 => ?_)
    have hs27 := s27.trans hs26
    have hf27 := f27.trans hf26
    have hO27 : ∀ j, (j < 78 ∨ 109 ≤ j) → b27.tmps[j]? = a0.tmps[j]? := fun j hj => (k27 j (by omega)).trans (hO26 j hj)
    have g96_27 := (k27 96 (by decide)).trans g96_26
    have g98_27 := (k27 98 (by decide)).trans g98_26
    have g103_27 := (k27 103 (by decide)).trans g103_26
    have g104_27 := v27
    clear hs26 hf26 hO26 s27 k27 f27 g96_26 g98_26 g103_26
    clear v27
    first
      | refine held_skip (i := 27) (d := some 105) rfl rfl (by kernel_rfl) (by kernel_rfl) (by kernel_rfl) (fun c a w h => hQ c _ a w (by rfl) h) hH ?_ ?_
        · exact wanted_no (g := 18) (s := 96) rfl rfl g96_27
        simp only [List.setIfInBounds_toArray, List.set_cons_zero, List.set_cons_succ]
      | refine held_take (i := 27) (v := ?_) (d := some 105) rfl rfl (by kernel_rfl) (by kernel_rfl) (by kernel_rfl) (fun c a w h => hQ c _ a w (by rfl) h) hH ⟨?_, fun w hSw => ?_⟩ ?_
        rotate_left 1
        · exact wanted_yes (g := 18) (s := 96) rfl rfl g96_27
        · have e104 := eval_of g104_27
          obtain ⟨⟨y5, y6⟩, y7⟩ := hSw
          have ec : ∀ u, Act.eval b27 (.const u) = u := fun _ => rfl
          have ef : ∀ u, Act.eval b27 (.func u) = .func (.func u) #[] #[] := fun _ => rfl
          generalize Act.eval b27 = ρ at ec ef e104 ⊢
          (go_simp; all_goals with_reducible rfl)
        simp only [List.setIfInBounds_toArray, List.set_cons_zero, List.set_cons_succ]
    refine act_next (G := fun x => wpAnyH _ _ _ _ _ _ _ x _) _ 105 _ (by rw [hs27]; decide) (fun b28 s28 v28 k28 f28 => ?_)
    have hs28 := s28.trans hs27
    have hf28 := f28.trans hf27
    have hO28 : ∀ j, (j < 78 ∨ 109 ≤ j) → b28.tmps[j]? = a0.tmps[j]? := fun j hj => (k28 j (by omega)).trans (hO27 j hj)
    have g96_28 := (k28 96 (by decide)).trans g96_27
    have g98_28 := (k28 98 (by decide)).trans g98_27
    have g103_28 := (k28 103 (by decide)).trans g103_27
    have g105_28 := v28
    clear hs27 hf27 hO27 s28 k28 f28 g96_27 g98_27 g103_27 g104_27
    clear v28
    first
      | refine held_skip (i := 28) (d := some 106) rfl rfl (by kernel_rfl) (by kernel_rfl) (by kernel_rfl) (fun c a w h => hQ c _ a w (by rfl) h) hH ?_ ?_
        · exact wanted_no (g := 18) (s := 96) rfl rfl g96_28
        simp only [List.setIfInBounds_toArray, List.set_cons_zero, List.set_cons_succ]
      | refine held_take (i := 28) (v := ?_) (d := some 106) rfl rfl (by kernel_rfl) (by kernel_rfl) (by kernel_rfl) (fun c a w h => hQ c _ a w (by rfl) h) hH ⟨?_, fun w hSw => ?_⟩ ?_
        rotate_left 1
        · exact wanted_yes (g := 18) (s := 96) rfl rfl g96_28
        · have e103 := eval_of g103_28
          have e105 := eval_of g105_28
          have ec : ∀ u, Act.eval b28 (.const u) = u := fun _ => rfl
          have ef : ∀ u, Act.eval b28 (.func u) = .func (.func u) #[] #[] := fun _ => rfl
          generalize Act.eval b28 = ρ at ec ef e103 e105 ⊢
          (go_simp; all_goals with_reducible rfl)
        simp only [List.setIfInBounds_toArray, List.set_cons_zero, List.set_cons_succ]
    refine act_next (G := fun x => wpAnyH _ _ _ _ _ _ _ x _) _ 106 _ (by rw [hs28]; decide) (fun b29 s29 v29 k29 f29 => ?_)
    have hs29 := s29.trans hs28
    have hf29 := f29.trans hf28
    have hO29 : ∀ j, (j < 78 ∨ 109 ≤ j) → b29.tmps[j]? = a0.tmps[j]? := fun j hj => (k29 j (by omega)).trans (hO28 j hj)
    have g96_29 := (k29 96 (by decide)).trans g96_28
    have g98_29 := (k29 98 (by decide)).trans g98_28
    have g106_29 := v29
    clear hs28 hf28 hO28 s29 k29 f29 g96_28 g98_28 g103_28 g105_28
    clear v29
    first
      | refine held_skip (i := 29) (d := some 107) rfl rfl (by kernel_rfl) (by kernel_rfl) (by kernel_rfl) (fun c a w h => hQ c _ a w (by rfl) h) hH ?_ ?_
        · exact wanted_no (g := 18) (s := 96) rfl rfl g96_29
        simp only [List.setIfInBounds_toArray, List.set_cons_zero, List.set_cons_succ]
      | refine held_take (i := 29) (v := ?_) (d := some 107) rfl rfl (by kernel_rfl) (by kernel_rfl) (by kernel_rfl) (fun c a w h => hQ c _ a w (by rfl) h) hH ⟨?_, fun w hSw => ?_⟩ ?_
        rotate_left 1
        · exact wanted_yes (g := 18) (s := 96) rfl rfl g96_29
        · have e98 := eval_of g98_29
          have e106 := eval_of g106_29
          have ec : ∀ u, Act.eval b29 (.const u) = u := fun _ => rfl
          have ef : ∀ u, Act.eval b29 (.func u) = .func (.func u) #[] #[] := fun _ => rfl
          generalize Act.eval b29 = ρ at ec ef e98 e106 ⊢
          (go_simp; all_goals with_reducible rfl)
        simp only [List.setIfInBounds_toArray, List.set_cons_zero, List.set_cons_succ]
    refine act_next (G := fun x => wpAnyH _ _ _ _ _ _ _ x _) _ 107 _ (by rw [hs29]; decide) (fun b30 s30 v30 k30 f30 => ?_)
    have hs30 := s30.trans hs29
    have hf30 := f30.trans hf29
    have hO30 : ∀ j, (j < 78 ∨ 109 ≤ j) → b30.tmps[j]? = a0.tmps[j]? := fun j hj => (k30 j (by omega)).trans (hO29 j hj)
    have g96_30 := (k30 96 (by decide)).trans g96_29
    have g107_30 := v30
    clear hs29 hf29 hO29 s30 k30 f30 g96_29 g98_29 g106_29
    clear v30
    refine held_take (i := 30) (v := ?_) (d := some 108) rfl rfl (by kernel_rfl) (by kernel_rfl) (by kernel_rfl) (fun c a w h => hQ c _ a w (by rfl) h) hH ⟨?_, fun w hSw => ?_⟩ ?_
    rotate_left 1
    · rfl
    · have e96 := eval_of g96_30
      have e107 := eval_of g107_30
      have ec : ∀ u, Act.eval b30 (.const u) = u := fun _ => rfl
      have ef : ∀ u, Act.eval b30 (.func u) = .func (.func u) #[] #[] := fun _ => rfl
      generalize Act.eval b30 = ρ at ec ef e96 e107 ⊢
      (go_simp; all_goals with_reducible rfl)
    simp only [List.setIfInBounds_toArray, List.set_cons_zero, List.set_cons_succ]
    refine act_next (G := fun x => wpAnyH _ _ _ _ _ _ _ x _) _ 108 _ (by rw [hs30]; decide) (fun b31 s31 v31 k31 f31 => ?_)
    have hs31 := s31.trans hs30
    have hf31 := f31.trans hf30
    have hO31 : ∀ j, (j < 78 ∨ 109 ≤ j) → b31.tmps[j]? = a0.tmps[j]? := fun j hj => (k31 j (by omega)).trans (hO30 j hj)
    have g108_31 := v31
    clear hs30 hf30 hO30 s31 k31 f31 g96_30 g107_30
    clear v31
    refine wpAnyH_done (by kernel_rfl) ?_ _
    exact hend _ hs31 hf31 g108_31 hO31
set_option maxHeartbeats 8000000 in
theorem want_cut {Q : Exit → Act → World → Prop} (hQ : ∀ c (a a' : Act) w, a'.defers = a.defers → Q (.panic c) a w → Q (.panic c) a' w) (a0 : Act) (w5 : World) (qo q : Nat) (off m : Int) (A' : Option Addr) (sn cp' : Nat) (hs0 : a0.tmps.size = 215) (hf0 : a0.defers = [])
    (c10 : a0.tmps[10]? = some (.pointer (some ⟨q, 0, none⟩))) (c12 : a0.tmps[12]? = some (.pointer (some ⟨qo, 0, none⟩))) (HC15 : Hid (∀ W, Below w5.heap.size w5 W → (W.cell? ⟨qo, 5, none⟩ = some (.int .i64 off) ∧ W.cell? ⟨qo, 6, none⟩ = some (.int .i64 m)) ∧ W.cell? ⟨q, 6, none⟩ = some (.slice A' sn cp'))) (p j : Nat) (HCUT : Hid (p + j ≤ cp')) (HPC : Hid (off + m = ((p + j : Nat) : Int))) (HOP : Hid (off = (p : Int))) (w2x : IntKind.i64.wrap (off + m) = off + m)
    (hend : ∀ a', a'.tmps.size = 215 → a'.defers = [] → a'.tmps[23]? = some (.slice (cutTo A' cp' p) j (cp' - p)) → (∀ j, (j ≠ 23 ∧ (j < 109 ∨ 121 ≤ j)) → a'.tmps[j]? = a0.tmps[j]?) → Q .normal a' w5.drew) :
    Code.wp Tryd.prog (Code.region 16 #[{ dst := some 109, op := Op.move (Operand.tmp 10), type := 33, pos := "law.go:77", after := #[], guard := none }, { dst := some 110, op := Op.nilCheck (Operand.tmp 109), type := 0, pos := "law.go:77", after := #[{ on := 0, ground := Ground.data }], guard := none }, { dst := some 111, op := Op.fieldAddr 36 (Operand.tmp 110) 3, type := 0, pos := "law.go:77", after := #[{ on := 1, ground := Ground.data }], guard := none }, { dst := some 112, op := Op.load 34 (Operand.tmp 111), type := 34, pos := "law.go:77", after := #[{ on := 2, ground := Ground.data }], guard := none }, { dst := some 113, op := Op.fieldAddr 40 (Operand.tmp 12) 2, type := 0, pos := "law.go:77", after := #[], guard := none }, { dst := some 114, op := Op.load 3 (Operand.tmp 113), type := 3, pos := "law.go:77", after := #[{ on := 4, ground := Ground.data }], guard := none }, { dst := some 115, op := Op.fieldAddr 40 (Operand.tmp 12) 2, type := 0, pos := "law.go:77", after := #[], guard := none }, { dst := some 116, op := Op.load 3 (Operand.tmp 115), type := 3, pos := "law.go:77", after := #[{ on := 6, ground := Ground.data }], guard := none }, { dst := some 117, op := Op.fieldAddr 40 (Operand.tmp 12) 3, type := 0, pos := "law.go:77", after := #[], guard := none }, { dst := some 118, op := Op.load 3 (Operand.tmp 117), type := 3, pos := "law.go:77", after := #[{ on := 8, ground := Ground.data }], guard := none }, { dst := some 119, op := Op.binOp BinOp.add 3 (Operand.tmp 116) (Operand.tmp 118) 3, type := 3, pos := "law.go:77", after := #[{ on := 7, ground := Ground.data }, { on := 9, ground := Ground.data }], guard := none }, { dst := some 120, op := Op.slice 34 (Operand.tmp 112) (some (Operand.tmp 114)) (some (Operand.tmp 119)) none, type := 34, pos := "law.go:77", after := #[{ on := 3, ground := Ground.data }, { on := 5, ground := Ground.data }, { on := 10, ground := Ground.data }], guard := none }, { dst := some 23, op := Op.assign (Operand.tmp 120), type := 34, pos := "law.go:77", after := #[{ on := 11, ground := Ground.data }, { on := 0, ground := Ground.phase }, { on := 1, ground := Ground.phase }, { on := 2, ground := Ground.phase }, { on := 3, ground := Ground.phase }, { on := 4, ground := Ground.phase }, { on := 5, ground := Ground.phase }, { on := 6, ground := Ground.phase }, { on := 7, ground := Ground.phase }, { on := 8, ground := Ground.phase }, { on := 9, ground := Ground.phase }, { on := 10, ground := Ground.phase }, { on := 11, ground := Ground.phase }], guard := none }] true) Q a0 w5 := by
  have HBD : Hid (Below w5.heap.size w5 w5.drew) := below_drewN w5 1
  have hO0 : ∀ j, (j ≠ 23 ∧ (j < 109 ∨ 121 ≤ j)) → a0.tmps[j]? = a0.tmps[j]? := fun _ _ => rfl
  refine wp_region_held_drew (S := fun W => (W.cell? ⟨qo, 5, none⟩ = some (.int .i64 off) ∧ W.cell? ⟨qo, 6, none⟩ = some (.int .i64 m)) ∧ W.cell? ⟨q, 6, none⟩ = some (.slice A' sn cp')) (by kernel_rfl) (HC15.out _ HBD.out) (fun hH => ?_)
  change wpAnyH _ _ _ _ _ 13 #[false, false, false, false, false, false, false, false, false, false, false, false, false] _ _
  refine held_take (i := 0) (v := ?_) (d := some 109) rfl rfl (by kernel_rfl) (by kernel_rfl) (by kernel_rfl) (fun c a w h => hQ c _ a w (by rfl) h) hH ⟨?_, fun w hSw => ?_⟩ ?_
  rotate_left 1
  · rfl
  · have e10 := eval_of ((hO0 10 (by decide)).trans c10)
    have ec : ∀ u, Act.eval a0 (.const u) = u := fun _ => rfl
    have ef : ∀ u, Act.eval a0 (.func u) = .func (.func u) #[] #[] := fun _ => rfl
    generalize Act.eval a0 = ρ at ec ef e10 ⊢
    (go_simp; all_goals with_reducible rfl)
  simp only [List.setIfInBounds_toArray, List.set_cons_zero]
  refine act_next (G := fun x => wpAnyH _ _ _ _ _ _ _ x _) _ 109 _ (by rw [hs0]; decide) (fun b1 s1 v1 k1 f1 => ?_)
  have hs1 := s1.trans hs0
  have hf1 := f1.trans hf0
  have hO1 : ∀ j, (j ≠ 23 ∧ (j < 109 ∨ 121 ≤ j)) → b1.tmps[j]? = a0.tmps[j]? := fun j hj => (k1 j (by omega)).trans (hO0 j hj)
  have g109_1 := v1
  clear hs0 hf0 hO0 s1 k1 f1 
  clear v1
  refine held_take (i := 1) (v := ?_) (d := some 110) rfl rfl (by kernel_rfl) (by kernel_rfl) (by kernel_rfl) (fun c a w h => hQ c _ a w (by rfl) h) hH ⟨?_, fun w hSw => ?_⟩ ?_
  rotate_left 1
  · rfl
  · have e109 := eval_of g109_1
    have ec : ∀ u, Act.eval b1 (.const u) = u := fun _ => rfl
    have ef : ∀ u, Act.eval b1 (.func u) = .func (.func u) #[] #[] := fun _ => rfl
    generalize Act.eval b1 = ρ at ec ef e109 ⊢
    (go_simp; all_goals with_reducible rfl)
  simp only [List.setIfInBounds_toArray, List.set_cons_zero, List.set_cons_succ]
  refine act_next (G := fun x => wpAnyH _ _ _ _ _ _ _ x _) _ 110 _ (by rw [hs1]; decide) (fun b2 s2 v2 k2 f2 => ?_)
  have hs2 := s2.trans hs1
  have hf2 := f2.trans hf1
  have hO2 : ∀ j, (j ≠ 23 ∧ (j < 109 ∨ 121 ≤ j)) → b2.tmps[j]? = a0.tmps[j]? := fun j hj => (k2 j (by omega)).trans (hO1 j hj)
  have g110_2 := v2
  clear hs1 hf1 hO1 s2 k2 f2 g109_1
  clear v2
  refine held_take (i := 2) (v := ?_) (d := some 111) rfl rfl (by kernel_rfl) (by kernel_rfl) (by kernel_rfl) (fun c a w h => hQ c _ a w (by rfl) h) hH ⟨?_, fun w hSw => ?_⟩ ?_
  rotate_left 1
  · rfl
  · have e110 := eval_of g110_2
    have ec : ∀ u, Act.eval b2 (.const u) = u := fun _ => rfl
    have ef : ∀ u, Act.eval b2 (.func u) = .func (.func u) #[] #[] := fun _ => rfl
    generalize Act.eval b2 = ρ at ec ef e110 ⊢
    (go_simp; all_goals with_reducible rfl)
  simp only [List.setIfInBounds_toArray, List.set_cons_zero, List.set_cons_succ]
  refine act_next (G := fun x => wpAnyH _ _ _ _ _ _ _ x _) _ 111 _ (by rw [hs2]; decide) (fun b3 s3 v3 k3 f3 => ?_)
  have hs3 := s3.trans hs2
  have hf3 := f3.trans hf2
  have hO3 : ∀ j, (j ≠ 23 ∧ (j < 109 ∨ 121 ≤ j)) → b3.tmps[j]? = a0.tmps[j]? := fun j hj => (k3 j (by omega)).trans (hO2 j hj)
  have g111_3 := v3
  clear hs2 hf2 hO2 s3 k3 f3 g110_2
  clear v3
  refine held_take (i := 3) (v := ?_) (d := some 112) rfl rfl (by kernel_rfl) (by kernel_rfl) (by kernel_rfl) (fun c a w h => hQ c _ a w (by rfl) h) hH ⟨?_, fun w hSw => ?_⟩ ?_
  rotate_left 1
  · rfl
  · have e111 := eval_of g111_3
    obtain ⟨⟨y5, y6⟩, y7⟩ := hSw
    have ec : ∀ u, Act.eval b3 (.const u) = u := fun _ => rfl
    have ef : ∀ u, Act.eval b3 (.func u) = .func (.func u) #[] #[] := fun _ => rfl
    generalize Act.eval b3 = ρ at ec ef e111 ⊢
    (go_simp; all_goals with_reducible rfl)
  simp only [List.setIfInBounds_toArray, List.set_cons_zero, List.set_cons_succ]
  refine act_next (G := fun x => wpAnyH _ _ _ _ _ _ _ x _) _ 112 _ (by rw [hs3]; decide) (fun b4 s4 v4 k4 f4 => ?_)
  have hs4 := s4.trans hs3
  have hf4 := f4.trans hf3
  have hO4 : ∀ j, (j ≠ 23 ∧ (j < 109 ∨ 121 ≤ j)) → b4.tmps[j]? = a0.tmps[j]? := fun j hj => (k4 j (by omega)).trans (hO3 j hj)
  have g112_4 := v4
  clear hs3 hf3 hO3 s4 k4 f4 g111_3
  clear v4
  refine held_take (i := 4) (v := ?_) (d := some 113) rfl rfl (by kernel_rfl) (by kernel_rfl) (by kernel_rfl) (fun c a w h => hQ c _ a w (by rfl) h) hH ⟨?_, fun w hSw => ?_⟩ ?_
  rotate_left 1
  · rfl
  · have e12 := eval_of ((hO4 12 (by decide)).trans c12)
    have ec : ∀ u, Act.eval b4 (.const u) = u := fun _ => rfl
    have ef : ∀ u, Act.eval b4 (.func u) = .func (.func u) #[] #[] := fun _ => rfl
    generalize Act.eval b4 = ρ at ec ef e12 ⊢
    (go_simp; all_goals with_reducible rfl)
  simp only [List.setIfInBounds_toArray, List.set_cons_zero, List.set_cons_succ]
  refine act_next (G := fun x => wpAnyH _ _ _ _ _ _ _ x _) _ 113 _ (by rw [hs4]; decide) (fun b5 s5 v5 k5 f5 => ?_)
  have hs5 := s5.trans hs4
  have hf5 := f5.trans hf4
  have hO5 : ∀ j, (j ≠ 23 ∧ (j < 109 ∨ 121 ≤ j)) → b5.tmps[j]? = a0.tmps[j]? := fun j hj => (k5 j (by omega)).trans (hO4 j hj)
  have g112_5 := (k5 112 (by decide)).trans g112_4
  have g113_5 := v5
  clear hs4 hf4 hO4 s5 k5 f5 g112_4
  clear v5
  refine held_take (i := 5) (v := ?_) (d := some 114) rfl rfl (by kernel_rfl) (by kernel_rfl) (by kernel_rfl) (fun c a w h => hQ c _ a w (by rfl) h) hH ⟨?_, fun w hSw => ?_⟩ ?_
  rotate_left 1
  · rfl
  · have e113 := eval_of g113_5
    obtain ⟨⟨y5, y6⟩, y7⟩ := hSw
    have ec : ∀ u, Act.eval b5 (.const u) = u := fun _ => rfl
    have ef : ∀ u, Act.eval b5 (.func u) = .func (.func u) #[] #[] := fun _ => rfl
    generalize Act.eval b5 = ρ at ec ef e113 ⊢
    (go_simp; all_goals with_reducible rfl)
  simp only [List.setIfInBounds_toArray, List.set_cons_zero, List.set_cons_succ]
  refine act_next (G := fun x => wpAnyH _ _ _ _ _ _ _ x _) _ 114 _ (by rw [hs5]; decide) (fun b6 s6 v6 k6 f6 => ?_)
  have hs6 := s6.trans hs5
  have hf6 := f6.trans hf5
  have hO6 : ∀ j, (j ≠ 23 ∧ (j < 109 ∨ 121 ≤ j)) → b6.tmps[j]? = a0.tmps[j]? := fun j hj => (k6 j (by omega)).trans (hO5 j hj)
  have g112_6 := (k6 112 (by decide)).trans g112_5
  have g114_6 := v6
  clear hs5 hf5 hO5 s6 k6 f6 g112_5 g113_5
  clear v6
  refine held_take (i := 6) (v := ?_) (d := some 115) rfl rfl (by kernel_rfl) (by kernel_rfl) (by kernel_rfl) (fun c a w h => hQ c _ a w (by rfl) h) hH ⟨?_, fun w hSw => ?_⟩ ?_
  rotate_left 1
  · rfl
  · have e12 := eval_of ((hO6 12 (by decide)).trans c12)
    have ec : ∀ u, Act.eval b6 (.const u) = u := fun _ => rfl
    have ef : ∀ u, Act.eval b6 (.func u) = .func (.func u) #[] #[] := fun _ => rfl
    generalize Act.eval b6 = ρ at ec ef e12 ⊢
    (go_simp; all_goals with_reducible rfl)
  simp only [List.setIfInBounds_toArray, List.set_cons_zero, List.set_cons_succ]
  refine act_next (G := fun x => wpAnyH _ _ _ _ _ _ _ x _) _ 115 _ (by rw [hs6]; decide) (fun b7 s7 v7 k7 f7 => ?_)
  have hs7 := s7.trans hs6
  have hf7 := f7.trans hf6
  have hO7 : ∀ j, (j ≠ 23 ∧ (j < 109 ∨ 121 ≤ j)) → b7.tmps[j]? = a0.tmps[j]? := fun j hj => (k7 j (by omega)).trans (hO6 j hj)
  have g112_7 := (k7 112 (by decide)).trans g112_6
  have g114_7 := (k7 114 (by decide)).trans g114_6
  have g115_7 := v7
  clear hs6 hf6 hO6 s7 k7 f7 g112_6 g114_6
  clear v7
  refine held_take (i := 7) (v := ?_) (d := some 116) rfl rfl (by kernel_rfl) (by kernel_rfl) (by kernel_rfl) (fun c a w h => hQ c _ a w (by rfl) h) hH ⟨?_, fun w hSw => ?_⟩ ?_
  rotate_left 1
  · rfl
  · have e115 := eval_of g115_7
    obtain ⟨⟨y5, y6⟩, y7⟩ := hSw
    have ec : ∀ u, Act.eval b7 (.const u) = u := fun _ => rfl
    have ef : ∀ u, Act.eval b7 (.func u) = .func (.func u) #[] #[] := fun _ => rfl
    generalize Act.eval b7 = ρ at ec ef e115 ⊢
    (go_simp; all_goals with_reducible rfl)
  simp only [List.setIfInBounds_toArray, List.set_cons_zero, List.set_cons_succ]
  refine act_next (G := fun x => wpAnyH _ _ _ _ _ _ _ x _) _ 116 _ (by rw [hs7]; decide) (fun b8 s8 v8 k8 f8 => ?_)
  have hs8 := s8.trans hs7
  have hf8 := f8.trans hf7
  have hO8 : ∀ j, (j ≠ 23 ∧ (j < 109 ∨ 121 ≤ j)) → b8.tmps[j]? = a0.tmps[j]? := fun j hj => (k8 j (by omega)).trans (hO7 j hj)
  have g112_8 := (k8 112 (by decide)).trans g112_7
  have g114_8 := (k8 114 (by decide)).trans g114_7
  have g116_8 := v8
  clear hs7 hf7 hO7 s8 k8 f8 g112_7 g114_7 g115_7
  clear v8
  refine held_take (i := 8) (v := ?_) (d := some 117) rfl rfl (by kernel_rfl) (by kernel_rfl) (by kernel_rfl) (fun c a w h => hQ c _ a w (by rfl) h) hH ⟨?_, fun w hSw => ?_⟩ ?_
  rotate_left 1
  · rfl
  · have e12 := eval_of ((hO8 12 (by decide)).trans c12)
    have ec : ∀ u, Act.eval b8 (.const u) = u := fun _ => rfl
    have ef : ∀ u, Act.eval b8 (.func u) = .func (.func u) #[] #[] := fun _ => rfl
    generalize Act.eval b8 = ρ at ec ef e12 ⊢
    (go_simp; all_goals with_reducible rfl)
  simp only [List.setIfInBounds_toArray, List.set_cons_zero, List.set_cons_succ]
  refine act_next (G := fun x => wpAnyH _ _ _ _ _ _ _ x _) _ 117 _ (by rw [hs8]; decide) (fun b9 s9 v9 k9 f9 => ?_)
  have hs9 := s9.trans hs8
  have hf9 := f9.trans hf8
  have hO9 : ∀ j, (j ≠ 23 ∧ (j < 109 ∨ 121 ≤ j)) → b9.tmps[j]? = a0.tmps[j]? := fun j hj => (k9 j (by omega)).trans (hO8 j hj)
  have g112_9 := (k9 112 (by decide)).trans g112_8
  have g114_9 := (k9 114 (by decide)).trans g114_8
  have g116_9 := (k9 116 (by decide)).trans g116_8
  have g117_9 := v9
  clear hs8 hf8 hO8 s9 k9 f9 g112_8 g114_8 g116_8
  clear v9
  refine held_take (i := 9) (v := ?_) (d := some 118) rfl rfl (by kernel_rfl) (by kernel_rfl) (by kernel_rfl) (fun c a w h => hQ c _ a w (by rfl) h) hH ⟨?_, fun w hSw => ?_⟩ ?_
  rotate_left 1
  · rfl
  · have e117 := eval_of g117_9
    obtain ⟨⟨y5, y6⟩, y7⟩ := hSw
    have ec : ∀ u, Act.eval b9 (.const u) = u := fun _ => rfl
    have ef : ∀ u, Act.eval b9 (.func u) = .func (.func u) #[] #[] := fun _ => rfl
    generalize Act.eval b9 = ρ at ec ef e117 ⊢
    (go_simp; all_goals with_reducible rfl)
  simp only [List.setIfInBounds_toArray, List.set_cons_zero, List.set_cons_succ]
  refine act_next (G := fun x => wpAnyH _ _ _ _ _ _ _ x _) _ 118 _ (by rw [hs9]; decide) (fun b10 s10 v10 k10 f10 => ?_)
  have hs10 := s10.trans hs9
  have hf10 := f10.trans hf9
  have hO10 : ∀ j, (j ≠ 23 ∧ (j < 109 ∨ 121 ≤ j)) → b10.tmps[j]? = a0.tmps[j]? := fun j hj => (k10 j (by omega)).trans (hO9 j hj)
  have g112_10 := (k10 112 (by decide)).trans g112_9
  have g114_10 := (k10 114 (by decide)).trans g114_9
  have g116_10 := (k10 116 (by decide)).trans g116_9
  have g118_10 := v10
  clear hs9 hf9 hO9 s10 k10 f10 g112_9 g114_9 g116_9 g117_9
  clear v10
  refine held_take (i := 10) (v := ?_) (d := some 119) rfl rfl (by kernel_rfl) (by kernel_rfl) (by kernel_rfl) (fun c a w h => hQ c _ a w (by rfl) h) hH ⟨?_, fun w hSw => ?_⟩ ?_
  rotate_left 1
  · rfl
  · have e116 := eval_of g116_10
    have e118 := eval_of g118_10
    have ec : ∀ u, Act.eval b10 (.const u) = u := fun _ => rfl
    have ef : ∀ u, Act.eval b10 (.func u) = .func (.func u) #[] #[] := fun _ => rfl
    generalize Act.eval b10 = ρ at ec ef e116 e118 ⊢
    (go_simp; all_goals with_reducible rfl)
  simp only [List.setIfInBounds_toArray, List.set_cons_zero, List.set_cons_succ]
  refine act_next (G := fun x => wpAnyH _ _ _ _ _ _ _ x _) _ 119 _ (by rw [hs10]; decide) (fun b11 s11 v11 k11 f11 => ?_)
  have hs11 := s11.trans hs10
  have hf11 := f11.trans hf10
  have hO11 : ∀ j, (j ≠ 23 ∧ (j < 109 ∨ 121 ≤ j)) → b11.tmps[j]? = a0.tmps[j]? := fun j hj => (k11 j (by omega)).trans (hO10 j hj)
  have g112_11 := (k11 112 (by decide)).trans g112_10
  have g114_11 := (k11 114 (by decide)).trans g114_10
  have g119_11 := v11
  clear hs10 hf10 hO10 s11 k11 f11 g112_10 g114_10 g116_10 g118_10
  clear v11
  refine held_take (i := 11) (v := ?_) (d := some 120) rfl rfl (by kernel_rfl) (by kernel_rfl) (by kernel_rfl) (fun c a w h => hQ c _ a w (by rfl) h) hH ⟨?_, fun w hSw => ?_⟩ ?_
  rotate_left 1
  · rfl
  · have e112 := eval_of g112_11
    have e114 := eval_of g114_11
    have e119 := eval_of g119_11
    refine exec_slice_row (.tmp 112) (.tmp 114) (.tmp 119) 34 ?_ 5 Tryd.underlying34 (by kernel_rfl) (A := A') (N := sn) (cap := cp') (p := p) (k := j) (X := off) (Y := off + m) e112 e114 ?_ HOP.out HPC.out HCUT.out w
    · rfl
    · exact e119
  simp only [List.setIfInBounds_toArray, List.set_cons_zero, List.set_cons_succ]
  refine act_next (G := fun x => wpAnyH _ _ _ _ _ _ _ x _) _ 120 _ (by rw [hs11]; decide) (fun b12 s12 v12 k12 f12 => ?_)
  have hs12 := s12.trans hs11
  have hf12 := f12.trans hf11
  have hO12 : ∀ j, (j ≠ 23 ∧ (j < 109 ∨ 121 ≤ j)) → b12.tmps[j]? = a0.tmps[j]? := fun j hj => (k12 j (by omega)).trans (hO11 j hj)
  have g120_12 := v12
  clear hs11 hf11 hO11 s12 k12 f12 g112_11 g114_11 g119_11
  clear v12
  refine held_take (i := 12) (v := ?_) (d := some 23) rfl rfl (by kernel_rfl) (by kernel_rfl) (by kernel_rfl) (fun c a w h => hQ c _ a w (by rfl) h) hH ⟨?_, fun w hSw => ?_⟩ ?_
  rotate_left 1
  · rfl
  · have e120 := eval_of g120_12
    have ec : ∀ u, Act.eval b12 (.const u) = u := fun _ => rfl
    have ef : ∀ u, Act.eval b12 (.func u) = .func (.func u) #[] #[] := fun _ => rfl
    generalize Act.eval b12 = ρ at ec ef e120 ⊢
    (go_simp; all_goals with_reducible rfl)
  simp only [List.setIfInBounds_toArray, List.set_cons_zero, List.set_cons_succ]
  refine act_next (G := fun x => wpAnyH _ _ _ _ _ _ _ x _) _ 23 _ (by rw [hs12]; decide) (fun b13 s13 v13 k13 f13 => ?_)
  have hs13 := s13.trans hs12
  have hf13 := f13.trans hf12
  have hO13 : ∀ j, (j ≠ 23 ∧ (j < 109 ∨ 121 ≤ j)) → b13.tmps[j]? = a0.tmps[j]? := fun j hj => (k13 j (by omega)).trans (hO12 j hj)
  have g23_13 := v13
  clear hs12 hf12 hO12 s13 k13 f13 g120_12
  clear v13
  refine wpAnyH_done (by kernel_rfl) ?_ _
  exact hend _ hs13 hf13 g23_13 hO13
end Go.Proofs.YtepbdicglgjcjaaDoor
