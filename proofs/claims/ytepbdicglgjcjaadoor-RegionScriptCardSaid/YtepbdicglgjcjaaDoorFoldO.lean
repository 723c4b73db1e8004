/-
  The texts Bare, RgRead of this proof, one behind the other.
-/
import Derived.Test.YtepbdicglgjcjaaDoorFoldC
import Derived.Test.YtepbdicglgjcjaaDoorRgCutF
section
set_option maxRecDepth 100000
namespace Go.Proofs.YtepbdicglgjcjaaDoor
open Go.RowKit
theorem eval_of {a : Act} {j : Nat} {v : Value} (h : a.tmps[j]? = some v) : a.eval (.tmp j) = v := by
  show a.tmps.getD j undef = v
  rw [Array.getD_eq_getD_getElem?, h]; rfl
theorem wanted_yes {ops : Array Oper} {oi : Oper} {a : Act} {g s : Nat} {b : Bool} (hg : oi.guard = some (g, b)) (hs : (ops[g]?).bind (·.dst) = some s) (hf : a.tmps[s]? = some (.bool b)) : Region.wanted oi (yielded ops a.tmps) = true := by
  unfold Region.wanted yielded
  rw [hg]
  simp [hs, hf]
theorem wanted_no {ops : Array Oper} {oi : Oper} {a : Act} {g s : Nat} {b : Bool} (hg : oi.guard = some (g, b)) (hs : (ops[g]?).bind (·.dst) = some s) (hf : a.tmps[s]? = some (.bool (!b))) : Region.wanted oi (yielded ops a.tmps) = false := by
  unfold Region.wanted yielded
  rw [hg]
  cases b <;> simp [hs, hf]
theorem act_next {G : Act → Prop} (a : Act) (d : Nat) (v : Value) (hd : d < a.tmps.size) (h : ∀ a' : Act, a'.tmps.size = a.tmps.size → a'.tmps[d]? = some v → (∀ j, j ≠ d → a'.tmps[j]? = a.tmps[j]?) → a'.defers = a.defers → G a') : G (a.put (some d) v) := by
  refine h _ ?_ ?_ (fun j hj => ?_) rfl
  · show (a.tmps.setIfInBounds d v).size = _
    simp
  · show (a.tmps.setIfInBounds d v)[d]? = _
    rw [Array.getElem?_setIfInBounds]
    simp [hd]
  · show (a.tmps.setIfInBounds d v)[j]? = _
    rw [Array.getElem?_setIfInBounds]
    rw [if_neg (fun e => hj e.symm)]
/-- A frame of which the slots lo .. hi are turned. -/
theorem frame_of (l : List Value) (a' : Act) (lo n : Nat) (hlo : lo + n ≤ l.length) (hs : a'.tmps.size = l.length) (hf : a'.defers = []) (ho : ∀ j, (j < lo ∨ lo + n ≤ j) → a'.tmps[j]? = l[j]?) :
    ∃ m : List Value, m.length = n ∧ (∀ i, i < n → m[i]? = a'.tmps[lo + i]?) ∧ a' = ⟨(l.take lo ++ (m ++ l.drop (lo + n))).toArray, []⟩ := by
  obtain ⟨⟨t⟩, df⟩ := a'
  simp only at hs hf ho ⊢
  subst hf
  have hs' : t.length = l.length := hs
  have ho' : ∀ j, (j < lo ∨ lo + n ≤ j) → t[j]? = l[j]? := fun j hj => by have := ho j hj; simpa using this
  refine ⟨(t.drop lo).take n, by rw [List.length_take, List.length_drop]; omega, fun i hi => by simp [hi], ?_⟩
  have e : t = l.take lo ++ ((t.drop lo).take n ++ l.drop (lo + n)) := by
    have e1 : t.take lo = l.take lo := by
      apply List.ext_getElem?
      intro j
      rw [List.getElem?_take, List.getElem?_take]
      split
      · exact ho' j (.inl (by omega))
      · rfl
    have e2 : t.drop (lo + n) = l.drop (lo + n) := by
      apply List.ext_getElem?
      intro j
      rw [List.getElem?_drop, List.getElem?_drop]
      exact ho' _ (.inr (by omega))
    rw [← e1, ← e2, ← List.drop_drop, List.take_append_drop, List.take_append_drop]
  rw [← e]
theorem list_cons {α : Type} {l : List α} {n : Nat} (h : l.length = n + 1) : ∃ x t, l = x :: t ∧ t.length = n := by
  cases l with
  | nil => cases h
  | cons x t => exact ⟨x, t, rfl, by simpa using h⟩
theorem list_zero {α : Type} {l : List α} (h : l.length = 0) : l = [] := List.length_eq_zero_iff.1 h
end Go.Proofs.YtepbdicglgjcjaaDoor
end
section
set_option maxRecDepth 100000
namespace Go.Proofs.YtepbdicglgjcjaaDoor
open Go.RowKit
theorem act_next2 {G : Act → Prop} (a : Act) (d : Nat) (v : Value) (hf : a.defers = []) (hd : d < a.tmps.size) (h : ∀ a' : Act, a'.tmps.size = a.tmps.size → a'.tmps[d]? = some v → (∀ j, j ≠ d → a'.tmps[j]? = a.tmps[j]?) → a'.defers = a.defers → G a') : G ⟨a.tmps.setIfInBounds d v, []⟩ := by
  have e : (⟨a.tmps.setIfInBounds d v, []⟩ : Act) = a.put (some d) v := by rw [← hf]; rfl
  rw [e]
  exact act_next a d v hd h
set_option maxHeartbeats 8000000 in
theorem read_no {Q : Exit → Act → World → Prop} (hQ : ∀ c (a a' : Act) w, a'.defers = a.defers → Q (.panic c) a w → Q (.panic c) a' w) (a0 : Act) (w7 : World) (b rh gq hd r : Nat) (off m : Int) (A' : Option Addr) (sn cp' : Nat) (hs0 : a0.tmps.size = 246) (hf0 : a0.defers = [])
    (_c10 : a0.tmps[10]? = some (.pointer (some ⟨hd, 0, none⟩))) (_c11 : a0.tmps[11]? = some (.pointer (some ⟨r, 0, none⟩))) (c13 : a0.tmps[13]? = some (.pointer (some ⟨rh, 0, none⟩))) (c16 : a0.tmps[16]? = some (.pointer (some ⟨b, 0, none⟩))) (HC20 : Hid (∀ W, Below w7.heap.size w7 W → (W.cell? ⟨b, 5, none⟩ = some (.int .i64 off) ∧ W.cell? ⟨b, 6, none⟩ = some (.int .i64 m)) ∧ W.cell? ⟨rh, 7, none⟩ = some (.pointer (some ⟨gq, 0, none⟩)) ∧ W.cell? ⟨gq, 6, none⟩ = some (.slice A' sn cp') ∧ W.cell? ⟨hd, 5, none⟩ = some (.bool false)))
    (hno : (decide (0 ≤ off) = false ∨ (decide (0 ≤ off) = true ∧ decide (0 ≤ m) = false) ∨ (decide (0 ≤ off) = true ∧ decide (0 ≤ m) = true ∧ decide (off ≤ (sn : Int)) = false) ∨ (decide (0 ≤ off) = true ∧ decide (0 ≤ m) = true ∧ decide (off ≤ (sn : Int)) = true ∧ decide (m ≤ (sn : Int) - off) = false ∧ IntKind.i64.wrap ((sn : Int) - off) = (sn : Int) - off)))
    (hend : ∀ a' W, a'.tmps.size = 246 → a'.defers = [] → a'.tmps[175]? = some (.bool false) → (∀ j, (j < 107 ∨ 176 ≤ j) → a'.tmps[j]? = a0.tmps[j]?) → Below w7.heap.size w7 W → Q .normal a' W) :
    Code.wp Tryd.prog (Code.region 20 ([{ dst := some 107, op := Op.fieldAddr 73 (Operand.tmp 16) 2, type := 0, pos := "law.go:79", after := #[], guard := none }, { dst := some 108, op := Op.load 3 (Operand.tmp 107), type := 3, pos := "law.go:79", after := #[{ on := 0, ground := Ground.data }], guard := none }, { dst := some 109, op := Op.binOp BinOp.geq 3 (Operand.tmp 108) (Operand.const (Value.int IntKind.i64 0)) 3, type := 4, pos := "law.go:79", after := #[{ on := 1, ground := Ground.data }], guard := none }, { dst := some 110, op := Op.move (Operand.tmp 109), type := 4, pos := "law.go:79", after := #[{ on := 2, ground := Ground.data }], guard := none }, { dst := some 111, op := Op.fieldAddr 73 (Operand.tmp 16) 3, type := 0, pos := "law.go:79", after := #[{ on := 3, ground := Ground.guard }], guard := some (3, true) }, { dst := some 112, op := Op.load 3 (Operand.tmp 111), type := 3, pos := "law.go:79", after := #[{ on := 4, ground := Ground.data }, { on := 3, ground := Ground.guard }], guard := some (3, true) }, { dst := some 113, op := Op.binOp BinOp.geq 3 (Operand.tmp 112) (Operand.const (Value.int IntKind.i64 0)) 3, type := 4, pos := "law.go:79", after := #[{ on := 5, ground := Ground.data }, { on := 3, ground := Ground.guard }], guard := some (3, true) }, { dst := some 114, op := Op.pick (Operand.tmp 110) (Operand.tmp 113) (Operand.const (Value.bool false)), type := 4, pos := "law.go:79", after := #[{ on := 3, ground := Ground.data }, { on := 6, ground := Ground.data }], guard := none }, { dst := some 115, op := Op.move (Operand.tmp 114), type := 4, pos := "law.go:79", after := #[{ on := 7, ground := Ground.data }, { on := 3, ground := Ground.chain }], guard := none }, { dst := some 116, op := Op.fieldAddr 73 (Operand.tmp 16) 2, type := 0, pos := "law.go:79", after := #[{ on := 8, ground := Ground.guard }], guard := some (8, true) }, { dst := some 117, op := Op.load 3 (Operand.tmp 116), type := 3, pos := "law.go:79", after := #[{ on := 9, ground := Ground.data }, { on := 8, ground := Ground.guard }], guard := some (8, true) }, { dst := some 118, op := Op.move (Operand.tmp 13), type := 69, pos := "law.go:79", after := #[{ on := 8, ground := Ground.guard }], guard := some (8, true) }, { dst := some 119, op := Op.nilCheck (Operand.tmp 118), type := 0, pos := "law.go:79", after := #[{ on := 11, ground := Ground.data }, { on := 8, ground := Ground.guard }], guard := some (8, true) }, { dst := some 120, op := Op.fieldAddr 76 (Operand.tmp 119) 2, type := 0, pos := "law.go:79", after := #[{ on := 12, ground := Ground.data }, { on := 8, ground := Ground.guard }], guard := some (8, true) }, { dst := some 121, op := Op.load 33 (Operand.tmp 120), type := 33, pos := "law.go:79", after := #[{ on := 13, ground := Ground.data }, { on := 8, ground := Ground.guard }], guard := some (8, true) }, { dst := some 122, op := Op.nilCheck (Operand.tmp 121), type := 0, pos := "law.go:79", after := #[{ on := 14, ground := Ground.data }, { on := 8, ground := Ground.guard }], guard := some (8, true) }, { dst := some 123, op := Op.fieldAddr 36 (Operand.tmp 122) 3, type := 0, pos := "law.go:79", after := #[{ on := 15, ground := Ground.data }, { on := 8, ground := Ground.guard }], guard := some (8, true) }, { dst := some 124, op := Op.load 34 (Operand.tmp 123), type := 34, pos := "law.go:79", after := #[{ on := 16, ground := Ground.data }, { on := 8, ground := Ground.guard }], guard := some (8, true) }, { dst := some 125, op := Op.call { callee := Callee.builtin Builtin.len, args := #[Operand.tmp 124], argTypes := #[34] }, type := 3, pos := "law.go:79", after := #[{ on := 17, ground := Ground.data }, { on := 8, ground := Ground.guard }], guard := some (8, true) }, { dst := some 126, op := Op.binOp BinOp.leq 3 (Operand.tmp 117) (Operand.tmp 125) 3, type := 4, pos := "law.go:79", after := #[{ on := 10, ground := Ground.data }, { on := 18, ground := Ground.data }, { on := 8, ground := Ground.guard }], guard := some (8, true) }, { dst := some 127, op := Op.pick (Operand.tmp 115) (Operand.tmp 126) (Operand.const (Value.bool false)), type := 4, pos := "law.go:79", after := #[{ on := 8, ground := Ground.data }, { on := 19, ground := Ground.data }], guard := none }, { dst := some 128, op := Op.move (Operand.tmp 127), type := 4, pos := "law.go:79", after := #[{ on := 20, ground := Ground.data }, { on := 8, ground := Ground.chain }], guard := none }, { dst := some 129, op := Op.fieldAddr 73 (Operand.tmp 16) 3, type := 0, pos := "law.go:79", after := #[{ on := 21, ground := Ground.guard }], guard := some (21, true) }, { dst := some 130, op := Op.load 3 (Operand.tmp 129), type := 3, pos := "law.go:79", after := #[{ on := 22, ground := Ground.data }, { on := 21, ground := Ground.guard }], guard := some (21, true) }, { dst := some 131, op := Op.move (Operand.tmp 13), type := 69, pos := "law.go:79", after := #[{ on := 21, ground := Ground.guard }], guard := some (21, true) }, { dst := some 132, op := Op.nilCheck (Operand.tmp 131), type := 0, pos := "law.go:79", after := #[{ on := 24, ground := Ground.data }, { on := 21, ground := Ground.guard }], guard := some (21, true) }, { dst := some 133, op := Op.fieldAddr 76 (Operand.tmp 132) 2, type := 0, pos := "law.go:79", after := #[{ on := 25, ground := Ground.data }, { on := 21, ground := Ground.guard }], guard := some (21, true) }, { dst := some 134, op := Op.load 33 (Operand.tmp 133), type := 33, pos := "law.go:79", after := #[{ on := 26, ground := Ground.data }, { on := 21, ground := Ground.guard }], guard := some (21, true) }, { dst := some 135, op := Op.nilCheck (Operand.tmp 134), type := 0, pos := "law.go:79", after := #[{ on := 27, ground := Ground.data }, { on := 21, ground := Ground.guard }], guard := some (21, true) }, { dst := some 136, op := Op.fieldAddr 36 (Operand.tmp 135) 3, type := 0, pos := "law.go:79", after := #[{ on := 28, ground := Ground.data }, { on := 21, ground := Ground.guard }], guard := some (21, true) }, { dst := some 137, op := Op.load 34 (Operand.tmp 136), type := 34, pos := "law.go:79", after := #[{ on := 29, ground := Ground.data }, { on := 21, ground := Ground.guard }], guard := some (21, true) }, { dst := some 138, op := Op.call { callee := Callee.builtin Builtin.len, args := #[Operand.tmp 137], argTypes := #[34] }, type := 3, pos := "law.go:79", after := #[{ on := 30, ground := Ground.data }, { on := 21, ground := Ground.guard }], guard := some (21, true) }, { dst := some 139, op := Op.fieldAddr 73 (Operand.tmp 16) 2, type := 0, pos := "law.go:79", after := #[{ on := 21, ground := Ground.guard }], guard := some (21, true) }, { dst := some 140, op := Op.load 3 (Operand.tmp 139), type := 3, pos := "law.go:79", after := #[{ on := 32, ground := Ground.data }, { on := 21, ground := Ground.guard }], guard := some (21, true) }].append [{ dst := some 141, op := Op.binOp BinOp.sub 3 (Operand.tmp 138) (Operand.tmp 140) 3, type := 3, pos := "law.go:79", after := #[{ on := 31, ground := Ground.data }, { on := 33, ground := Ground.data }, { on := 21, ground := Ground.guard }], guard := some (21, true) }, { dst := some 142, op := Op.binOp BinOp.leq 3 (Operand.tmp 130) (Operand.tmp 141) 3, type := 4, pos := "law.go:79", after := #[{ on := 23, ground := Ground.data }, { on := 34, ground := Ground.data }, { on := 21, ground := Ground.guard }], guard := some (21, true) }, { dst := some 143, op := Op.pick (Operand.tmp 128) (Operand.tmp 142) (Operand.const (Value.bool false)), type := 4, pos := "law.go:79", after := #[{ on := 21, ground := Ground.data }, { on := 35, ground := Ground.data }], guard := none }, { dst := some 144, op := Op.move (Operand.tmp 143), type := 4, pos := "law.go:79", after := #[{ on := 36, ground := Ground.data }, { on := 21, ground := Ground.chain }], guard := none }, { dst := some 145, op := Op.move (Operand.tmp 10), type := 63, pos := "law.go:79", after := #[{ on := 37, ground := Ground.guard }], guard := some (37, true) }, { dst := some 146, op := Op.nilCheck (Operand.tmp 145), type := 0, pos := "law.go:79", after := #[{ on := 38, ground := Ground.data }, { on := 37, ground := Ground.guard }], guard := some (37, true) }, { dst := some 147, op := Op.fieldAddr 79 (Operand.tmp 146) 5, type := 0, pos := "law.go:79", after := #[{ on := 39, ground := Ground.data }, { on := 37, ground := Ground.guard }], guard := some (37, true) }, { dst := some 148, op := Op.load 4 (Operand.tmp 147), type := 4, pos := "law.go:79", after := #[{ on := 40, ground := Ground.data }, { on := 37, ground := Ground.guard }], guard := some (37, true) }, { dst := some 149, op := Op.unOp UnOp.not 4 (Operand.tmp 148), type := 4, pos := "law.go:79", after := #[{ on := 41, ground := Ground.data }, { on := 37, ground := Ground.guard }], guard := some (37, true) }, { dst := some 150, op := Op.pick (Operand.tmp 144) (Operand.tmp 149) (Operand.const (Value.bool false)), type := 4, pos := "law.go:79", after := #[{ on := 37, ground := Ground.data }, { on := 42, ground := Ground.data }], guard := none }, { dst := some 151, op := Op.move (Operand.tmp 150), type := 4, pos := "law.go:79", after := #[{ on := 43, ground := Ground.data }, { on := 37, ground := Ground.chain }], guard := none }, { dst := some 152, op := Op.move (Operand.tmp 11), type := 66, pos := "law.go:79", after := #[{ on := 44, ground := Ground.guard }], guard := some (44, true) }, { dst := some 153, op := Op.fieldAddr 73 (Operand.tmp 16) 2, type := 0, pos := "law.go:79", after := #[{ on := 44, ground := Ground.guard }], guard := some (44, true) }, { dst := some 154, op := Op.load 3 (Operand.tmp 153), type := 3, pos := "law.go:79", after := #[{ on := 46, ground := Ground.data }, { on := 44, ground := Ground.guard }], guard := some (44, true) }, { dst := some 155, op := Op.fieldAddr 73 (Operand.tmp 16) 3, type := 0, pos := "law.go:79", after := #[{ on := 44, ground := Ground.guard }], guard := some (44, true) }, { dst := some 156, op := Op.load 3 (Operand.tmp 155), type := 3, pos := "law.go:79", after := #[{ on := 48, ground := Ground.data }, { on := 44, ground := Ground.guard }], guard := some (44, true) }, { dst := some 157, op := Op.call { callee := Callee.value (Operand.func 37), args := #[Operand.tmp 152, Operand.tmp 154, Operand.tmp 156], argTypes := #[66, 3, 3] }, type := 34, pos := "law.go:79", after := #[{ on := 45, ground := Ground.data }, { on := 47, ground := Ground.data }, { on := 49, ground := Ground.data }, { on := 44, ground := Ground.chain }, { on := 44, ground := Ground.guard }], guard := some (44, true) }, { dst := some 158, op := Op.move (Operand.tmp 13), type := 69, pos := "law.go:79", after := #[{ on := 44, ground := Ground.guard }], guard := some (44, true) }, { dst := some 159, op := Op.nilCheck (Operand.tmp 158), type := 0, pos := "law.go:79", after := #[{ on := 51, ground := Ground.data }, { on := 44, ground := Ground.guard }], guard := some (44, true) }, { dst := some 160, op := Op.fieldAddr 76 (Operand.tmp 159) 2, type := 0, pos := "law.go:79", after := #[{ on := 52, ground := Ground.data }, { on := 44, ground := Ground.guard }], guard := some (44, true) }, { dst := some 161, op := Op.load 33 (Operand.tmp 160), type := 33, pos := "law.go:79", after := #[{ on := 53, ground := Ground.data }, { on := 44, ground := Ground.guard }], guard := some (44, true) }, { dst := some 162, op := Op.nilCheck (Operand.tmp 161), type := 0, pos := "law.go:79", after := #[{ on := 54, ground := Ground.data }, { on := 44, ground := Ground.guard }], guard := some (44, true) }, { dst := some 163, op := Op.fieldAddr 36 (Operand.tmp 162) 3, type := 0, pos := "law.go:79", after := #[{ on := 55, ground := Ground.data }, { on := 44, ground := Ground.guard }], guard := some (44, true) }, { dst := some 164, op := Op.load 34 (Operand.tmp 163), type := 34, pos := "law.go:79", after := #[{ on := 56, ground := Ground.data }, { on := 44, ground := Ground.guard }], guard := some (44, true) }, { dst := some 165, op := Op.fieldAddr 73 (Operand.tmp 16) 2, type := 0, pos := "law.go:79", after := #[{ on := 44, ground := Ground.guard }], guard := some (44, true) }, { dst := some 166, op := Op.load 3 (Operand.tmp 165), type := 3, pos := "law.go:79", after := #[{ on := 58, ground := Ground.data }, { on := 44, ground := Ground.guard }], guard := some (44, true) }, { dst := some 167, op := Op.fieldAddr 73 (Operand.tmp 16) 2, type := 0, pos := "law.go:79", after := #[{ on := 44, ground := Ground.guard }], guard := some (44, true) }, { dst := some 168, op := Op.load 3 (Operand.tmp 167), type := 3, pos := "law.go:79", after := #[{ on := 60, ground := Ground.data }, { on := 44, ground := Ground.guard }], guard := some (44, true) }, { dst := some 169, op := Op.fieldAddr 73 (Operand.tmp 16) 3, type := 0, pos := "law.go:79", after := #[{ on := 44, ground := Ground.guard }], guard := some (44, true) }, { dst := some 170, op := Op.load 3 (Operand.tmp 169), type := 3, pos := "law.go:79", after := #[{ on := 62, ground := Ground.data }, { on := 44, ground := Ground.guard }], guard := some (44, true) }, { dst := some 171, op := Op.binOp BinOp.add 3 (Operand.tmp 168) (Operand.tmp 170) 3, type := 3, pos := "law.go:79", after := #[{ on := 61, ground := Ground.data }, { on := 63, ground := Ground.data }, { on := 44, ground := Ground.guard }], guard := some (44, true) }, { dst := some 172, op := Op.slice 34 (Operand.tmp 164) (some (Operand.tmp 166)) (some (Operand.tmp 171)) none, type := 34, pos := "law.go:79", after := #[{ on := 57, ground := Ground.data }, { on := 59, ground := Ground.data }, { on := 64, ground := Ground.data }, { on := 44, ground := Ground.guard }], guard := some (44, true) }, { dst := some 173, op := Op.call { callee := Callee.value (Operand.func 19), args := #[Operand.tmp 157, Operand.tmp 172], argTypes := #[34, 34] }, type := 4, pos := "law.go:79", after := #[{ on := 50, ground := Ground.data }, { on := 65, ground := Ground.data }, { on := 50, ground := Ground.chain }, { on := 44, ground := Ground.guard }], guard := some (44, true) }, { dst := some 174, op := Op.unOp UnOp.not 4 (Operand.tmp 173), type := 4, pos := "law.go:79", after := #[{ on := 66, ground := Ground.data }, { on := 44, ground := Ground.guard }], guard := some (44, true) }, { dst := some 175, op := Op.pick (Operand.tmp 151) (Operand.tmp 174) (Operand.const (Value.bool false)), type := 4, pos := "law.go:79", after := #[{ on := 44, ground := Ground.data }, { on := 67, ground := Ground.data }], guard := none }]).toArray true) Q a0 w7 := by
  have HBD : Hid (Below w7.heap.size w7 w7.drew) := below_drewN w7 1
  have hO0 : ∀ j, (j < 107 ∨ 176 ≤ j) → a0.tmps[j]? = a0.tmps[j]? := fun _ _ => rfl
  rcases hno with p1 | ⟨p1, p2⟩ | ⟨p1, p2, p3⟩ | ⟨p1, p2, p3, p4, w1x⟩
  all_goals
    simp only [List.append_eq, List.cons_append, List.nil_append]
    refine wp_region_held_drew (S := fun W => (W.cell? ⟨b, 5, none⟩ = some (.int .i64 off) ∧ W.cell? ⟨b, 6, none⟩ = some (.int .i64 m)) ∧ W.cell? ⟨rh, 7, none⟩ = some (.pointer (some ⟨gq, 0, none⟩)) ∧ W.cell? ⟨gq, 6, none⟩ = some (.slice A' sn cp') ∧ W.cell? ⟨hd, 5, none⟩ = some (.bool false)) (by kernel_rfl) (HC20.out _ HBD.out) (fun hH => ?_)
    change wpAnyH _ _ _ _ _ 69 #[false, false, false, false, false, false, false, false, false, false, false, false, false, false, false, false, false, false, false, false, false, false, false, false, false, false, false, false, false, false, false, false, false, false, false, false, false, false, false, false, false, false, false, false, false, false, false, false, false, false, false, false, false, false, false, false, false, false, false, false, false, false, false, false, false, false, false, false, false] _ _
    refine held_take (i := 0) (v := ?_) (d := some 107) rfl rfl (by kernel_rfl) (by kernel_rfl) (by kernel_rfl) (fun c a w h => hQ c _ a w (by rfl) h) hH ⟨?_, fun w hSw => ?_⟩ ?_
    rotate_left 1
    · rfl
    · have e16 := eval_of ((hO0 16 (by decide)).trans c16)
      have ec : ∀ u, Act.eval a0 (.const u) = u := fun _ => rfl
      have ef : ∀ u, Act.eval a0 (.func u) = .func (.func u) #[] #[] := fun _ => rfl
      generalize Act.eval a0 = ρ at ec ef e16 ⊢
      (go_simp; all_goals with_reducible rfl)
    simp only [List.setIfInBounds_toArray, List.set_cons_zero]
    refine act_next (G := fun x => wpAnyH _ _ _ _ _ _ _ x _) _ 107 _ (by rw [hs0]; decide) (fun b1 s1 v1 k1 f1 => ?_)
    have hs1 := s1.trans hs0
    have hf1 := f1.trans hf0
    have hO1 : ∀ j, (j < 107 ∨ 176 ≤ j) → b1.tmps[j]? = a0.tmps[j]? := fun j hj => (k1 j (by omega)).trans (hO0 j hj)
    have g107_1 := v1
    clear hs0 hf0 hO0 s1 k1 f1 
    clear v1
    refine held_take (i := 1) (v := ?_) (d := some 108) rfl rfl (by kernel_rfl) (by kernel_rfl) (by kernel_rfl) (fun c a w h => hQ c _ a w (by rfl) h) hH ⟨?_, fun w hSw => ?_⟩ ?_
    rotate_left 1
    · rfl
    · have e107 := eval_of g107_1
      obtain ⟨⟨y5, y6⟩, y7, y8, y9⟩ := hSw
      have ec : ∀ u, Act.eval b1 (.const u) = u := fun _ => rfl
      have ef : ∀ u, Act.eval b1 (.func u) = .func (.func u) #[] #[] := fun _ => rfl
      generalize Act.eval b1 = ρ at ec ef e107 ⊢
      (go_simp; all_goals with_reducible rfl)
    simp only [List.setIfInBounds_toArray, List.set_cons_zero, List.set_cons_succ]
    refine act_next (G := fun x => wpAnyH _ _ _ _ _ _ _ x _) _ 108 _ (by rw [hs1]; decide) (fun b2 s2 v2 k2 f2 => ?_)
    have hs2 := s2.trans hs1
    have hf2 := f2.trans hf1
    have hO2 : ∀ j, (j < 107 ∨ 176 ≤ j) → b2.tmps[j]? = a0.tmps[j]? := fun j hj => (k2 j (by omega)).trans (hO1 j hj)
    have g108_2 := v2
    clear hs1 hf1 hO1 s2 k2 f2 g107_1
    clear v2
    refine held_take (i := 2) (v := ?_) (d := some 109) rfl rfl (by kernel_rfl) (by kernel_rfl) (by kernel_rfl) (fun c a w h => hQ c _ a w (by rfl) h) hH ⟨?_, fun w hSw => ?_⟩ ?_
    rotate_left 1
    · rfl
    · have e108 := eval_of g108_2
      have ec : ∀ u, Act.eval b2 (.const u) = u := fun _ => rfl
      have ef : ∀ u, Act.eval b2 (.func u) = .func (.func u) #[] #[] := fun _ => rfl
      generalize Act.eval b2 = ρ at ec ef e108 ⊢
      (go_simp; all_goals with_reducible rfl)
    simp only [List.setIfInBounds_toArray, List.set_cons_zero, List.set_cons_succ]
    refine act_next (G := fun x => wpAnyH _ _ _ _ _ _ _ x _) _ 109 _ (by rw [hs2]; decide) (fun b3 s3 v3 k3 f3 => ?_)
    have hs3 := s3.trans hs2
    have hf3 := f3.trans hf2
    have hO3 : ∀ j, (j < 107 ∨ 176 ≤ j) → b3.tmps[j]? = a0.tmps[j]? := fun j hj => (k3 j (by omega)).trans (hO2 j hj)
    have g109_3 := v3
    clear hs2 hf2 hO2 s3 k3 f3 g108_2
    clear v3
    refine held_take (i := 3) (v := ?_) (d := some 110) rfl rfl (by kernel_rfl) (by kernel_rfl) (by kernel_rfl) (fun c a w h => hQ c _ a w (by rfl) h) hH ⟨?_, fun w hSw => ?_⟩ ?_
    rotate_left 1
    · rfl
    · have e109 := eval_of g109_3
      have ec : ∀ u, Act.eval b3 (.const u) = u := fun _ => rfl
      have ef : ∀ u, Act.eval b3 (.func u) = .func (.func u) #[] #[] := fun _ => rfl
      generalize Act.eval b3 = ρ at ec ef e109 ⊢
      (go_simp; all_goals with_reducible rfl)
    simp only [List.setIfInBounds_toArray, List.set_cons_zero, List.set_cons_succ]
    refine act_next (G := fun x => wpAnyH _ _ _ _ _ _ _ x _) _ 110 _ (by rw [hs3]; decide) (fun b4 s4 v4 k4 f4 => ?_)
    have hs4 := s4.trans hs3
    have hf4 := f4.trans hf3
    have hO4 : ∀ j, (j < 107 ∨ 176 ≤ j) → b4.tmps[j]? = a0.tmps[j]? := fun j hj => (k4 j (by omega)).trans (hO3 j hj)
    have g110_4 := v4
    clear hs3 hf3 hO3 s4 k4 f4 g109_3
    clear v4
    first
      | refine held_skip (i := 4) (d := some 111) rfl rfl (by kernel_rfl) (by kernel_rfl) (by kernel_rfl) (fun c a w h => hQ c _ a w (by rfl) h) hH ?_ ?_
        · exact wanted_no (g := 3) (s := 110) rfl rfl g110_4
        simp only [List.setIfInBounds_toArray, List.set_cons_zero, List.set_cons_succ]
      | refine held_take (i := 4) (v := ?_) (d := some 111) rfl rfl (by kernel_rfl) (by kernel_rfl) (by kernel_rfl) (fun c a w h => hQ c _ a w (by rfl) h) hH ⟨?_, fun w hSw => ?_⟩ ?_
        rotate_left 1
        · exact wanted_yes (g := 3) (s := 110) rfl rfl g110_4
        · have e16 := eval_of ((hO4 16 (by decide)).trans c16)
          have ec : ∀ u, Act.eval b4 (.const u) = u := fun _ => rfl
          have ef : ∀ u, Act.eval b4 (.func u) = .func (.func u) #[] #[] := fun _ => rfl
          generalize Act.eval b4 = ρ at ec ef e16 ⊢
          (go_simp; all_goals with_reducible rfl)
        simp only [List.setIfInBounds_toArray, List.set_cons_zero, List.set_cons_succ]
    refine act_next (G := fun x => wpAnyH _ _ _ _ _ _ _ x _) _ 111 _ (by rw [hs4]; decide) (fun b5 s5 v5 k5 f5 => ?_)
    have hs5 := s5.trans hs4
    have hf5 := f5.trans hf4
    have hO5 : ∀ j, (j < 107 ∨ 176 ≤ j) → b5.tmps[j]? = a0.tmps[j]? := fun j hj => (k5 j (by omega)).trans (hO4 j hj)
    have g110_5 := (k5 110 (by decide)).trans g110_4
    have g111_5 := v5
    clear hs4 hf4 hO4 s5 k5 f5 g110_4
    clear v5
    first
      | refine held_skip (i := 5) (d := some 112) rfl rfl (by kernel_rfl) (by kernel_rfl) (by kernel_rfl) (fun c a w h => hQ c _ a w (by rfl) h) hH ?_ ?_
        · exact wanted_no (g := 3) (s := 110) rfl rfl g110_5
        simp only [List.setIfInBounds_toArray, List.set_cons_zero, List.set_cons_succ]
      | refine held_take (i := 5) (v := ?_) (d := some 112) rfl rfl (by kernel_rfl) (by kernel_rfl) (by kernel_rfl) (fun c a w h => hQ c _ a w (by rfl) h) hH ⟨?_, fun w hSw => ?_⟩ ?_
        rotate_left 1
        · exact wanted_yes (g := 3) (s := 110) rfl rfl g110_5
        · have e111 := eval_of g111_5
          obtain ⟨⟨y5, y6⟩, y7, y8, y9⟩ := hSw
          have ec : ∀ u, Act.eval b5 (.const u) = u := fun _ => rfl
          have ef : ∀ u, Act.eval b5 (.func u) = .func (.func u) #[] #[] := fun _ => rfl
          generalize Act.eval b5 = ρ at ec ef e111 ⊢
          (go_simp; all_goals with_reducible rfl)
        simp only [List.setIfInBounds_toArray, List.set_cons_zero, List.set_cons_succ]
    refine act_next (G := fun x => wpAnyH _ _ _ _ _ _ _ x _) _ 112 _ (by rw [hs5]; decide) (fun b6 s6 v6 k6 f6 => ?_)
    have hs6 := s6.trans hs5
    have hf6 := f6.trans hf5
    have hO6 : ∀ j, (j < 107 ∨ 176 ≤ j) → b6.tmps[j]? = a0.tmps[j]? := fun j hj => (k6 j (by omega)).trans (hO5 j hj)
    have g110_6 := (k6 110 (by decide)).trans g110_5
    have g112_6 := v6
    clear hs5 hf5 hO5 s6 k6 f6 g110_5 g111_5
    clear v6
    first
      | refine held_skip (i := 6) (d := some 113) rfl rfl (by kernel_rfl) (by kernel_rfl) (by kernel_rfl) (fun c a w h => hQ c _ a w (by rfl) h) hH ?_ ?_
        · exact wanted_no (g := 3) (s := 110) rfl rfl g110_6
        simp only [List.setIfInBounds_toArray, List.set_cons_zero, List.set_cons_succ]
      | refine held_take (i := 6) (v := ?_) (d := some 113) rfl rfl (by kernel_rfl) (by kernel_rfl) (by kernel_rfl) (fun c a w h => hQ c _ a w (by rfl) h) hH ⟨?_, fun w hSw => ?_⟩ ?_
        rotate_left 1
        · exact wanted_yes (g := 3) (s := 110) rfl rfl g110_6
        · have e112 := eval_of g112_6
          have ec : ∀ u, Act.eval b6 (.const u) = u := fun _ => rfl
          have ef : ∀ u, Act.eval b6 (.func u) = .func (.func u) #[] #[] := fun _ => rfl
          generalize Act.eval b6 = ρ at ec ef e112 ⊢
          (go_simp; all_goals with_reducible rfl)
        simp only [List.setIfInBounds_toArray, List.set_cons_zero, List.set_cons_succ]
    refine act_next (G := fun x => wpAnyH _ _ _ _ _ _ _ x _) _ 113 _ (by rw [hs6]; decide) (fun b7 s7 v7 k7 f7 => ?_)
    have hs7 := s7.trans hs6
    have hf7 := f7.trans hf6
    have hO7 : ∀ j, (j < 107 ∨ 176 ≤ j) → b7.tmps[j]? = a0.tmps[j]? := fun j hj => (k7 j (by omega)).trans (hO6 j hj)
    have g110_7 := (k7 110 (by decide)).trans g110_6
    have g113_7 := v7
    clear hs6 hf6 hO6 s7 k7 f7 g110_6 g112_6
    clear v7
    refine held_take (i := 7) (v := ?_) (d := some 114) rfl rfl (by kernel_rfl) (by kernel_rfl) (by kernel_rfl) (fun c a w h => hQ c _ a w (by rfl) h) hH ⟨?_, fun w hSw => ?_⟩ ?_
    rotate_left 1
    · rfl
    · have e110 := eval_of g110_7
      have e113 := eval_of g113_7
      have ec : ∀ u, Act.eval b7 (.const u) = u := fun _ => rfl
      have ef : ∀ u, Act.eval b7 (.func u) = .func (.func u) #[] #[] := fun _ => rfl
      generalize Act.eval b7 = ρ at ec ef e110 e113 ⊢
      (go_simp; all_goals with_reducible rfl)
    simp only [List.setIfInBounds_toArray, List.set_cons_zero, List.set_cons_succ]
    refine act_next (G := fun x => wpAnyH _ _ _ _ _ _ _ x _) _ 114 _ (by rw [hs7]; decide) (fun b8 s8 v8 k8 f8 => ?_)
    have hs8 := s8.trans hs7
    have hf8 := f8.trans hf7
    have hO8 : ∀ j, (j < 107 ∨ 176 ≤ j) → b8.tmps[j]? = a0.tmps[j]? := fun j hj => (k8 j (by omega)).trans (hO7 j hj)
    have g114_8 := v8
    clear hs7 hf7 hO7 s8 k8 f8 g110_7 g113_7
    clear v8
    refine held_take (i := 8) (v := ?_) (d := some 115) rfl rfl (by kernel_rfl) (by kernel_rfl) (by kernel_rfl) (fun c a w h => hQ c _ a w (by rfl) h) hH ⟨?_, fun w hSw => ?_⟩ ?_
    rotate_left 1
    · rfl
    · have e114 := eval_of g114_8
      have ec : ∀ u, Act.eval b8 (.const u) = u := fun _ => rfl
      have ef : ∀ u, Act.eval b8 (.func u) = .func (.func u) #[] #[] := fun _ => rfl
      generalize Act.eval b8 = ρ at ec ef e114 ⊢
      (go_simp; all_goals with_reducible rfl)
    simp only [List.setIfInBounds_toArray, List.set_cons_zero, List.set_cons_succ]
    refine act_next (G := fun x => wpAnyH _ _ _ _ _ _ _ x _) _ 115 _ (by rw [hs8]; decide) (fun b9 s9 v9 k9 f9 => ?_)
    have hs9 := s9.trans hs8
    have hf9 := f9.trans hf8
    have hO9 : ∀ j, (j < 107 ∨ 176 ≤ j) → b9.tmps[j]? = a0.tmps[j]? := fun j hj => (k9 j (by omega)).trans (hO8 j hj)
    have g115_9 := v9
    clear hs8 hf8 hO8 s9 k9 f9 g114_8
    clear v9
    first
      | refine held_skip (i := 9) (d := some 116) rfl rfl (by kernel_rfl) (by kernel_rfl) (by kernel_rfl) (fun c a w h => hQ c _ a w (by rfl) h) hH ?_ ?_
        · exact wanted_no (g := 8) (s := 115) rfl rfl g115_9
        simp only [List.setIfInBounds_toArray, List.set_cons_zero, List.set_cons_succ]
      | refine held_take (i := 9) (v := ?_) (d := some 116) rfl rfl (by kernel_rfl) (by kernel_rfl) (by kernel_rfl) (fun c a w h => hQ c _ a w (by rfl) h) hH ⟨?_, fun w hSw => ?_⟩ ?_
        rotate_left 1
        · exact wanted_yes (g := 8) (s := 115) rfl rfl g115_9
        · have e16 := eval_of ((hO9 16 (by decide)).trans c16)
          have ec : ∀ u, Act.eval b9 (.const u) = u := fun _ => rfl
          have ef : ∀ u, Act.eval b9 (.func u) = .func (.func u) #[] #[] := fun _ => rfl
          generalize Act.eval b9 = ρ at ec ef e16 ⊢
          (go_simp; all_goals with_reducible rfl)
        simp only [List.setIfInBounds_toArray, List.set_cons_zero, List.set_cons_succ]
    refine act_next (G := fun x => wpAnyH _ _ _ _ _ _ _ x _) _ 116 _ (by rw [hs9]; decide) (fun b10 s10 v10 k10 f10 => ?_)
    have hs10 := s10.trans hs9
    have hf10 := f10.trans hf9
    have hO10 : ∀ j, (j < 107 ∨ 176 ≤ j) → b10.tmps[j]? = a0.tmps[j]? := fun j hj => (k10 j (by omega)).trans (hO9 j hj)
    have g115_10 := (k10 115 (by decide)).trans g115_9
    have g116_10 := v10
    clear hs9 hf9 hO9 s10 k10 f10 g115_9
    clear v10
    first
      | refine held_skip (i := 10) (d := some 117) rfl rfl (by kernel_rfl) (by kernel_rfl) (by kernel_rfl) (fun c a w h => hQ c _ a w (by rfl) h) hH ?_ ?_
        · exact wanted_no (g := 8) (s := 115) rfl rfl g115_10
        simp only [List.setIfInBounds_toArray, List.set_cons_zero, List.set_cons_succ]
      | refine held_take (i := 10) (v := ?_) (d := some 117) rfl rfl (by kernel_rfl) (by kernel_rfl) (by kernel_rfl) (fun c a w h => hQ c _ a w (by rfl) h) hH ⟨?_, fun w hSw => ?_⟩ ?_
        rotate_left 1
        · exact wanted_yes (g := 8) (s := 115) rfl rfl g115_10
        · have e116 := eval_of g116_10
          obtain ⟨⟨y5, y6⟩, y7, y8, y9⟩ := hSw
          have ec : ∀ u, Act.eval b10 (.const u) = u := fun _ => rfl
          have ef : ∀ u, Act.eval b10 (.func u) = .func (.func u) #[] #[] := fun _ => rfl
          generalize Act.eval b10 = ρ at ec ef e116 ⊢
          (go_simp; all_goals with_reducible rfl)
        simp only [List.setIfInBounds_toArray, List.set_cons_zero, List.set_cons_succ]
    refine act_next (G := fun x => wpAnyH _ _ _ _ _ _ _ x _) _ 117 _ (by rw [hs10]; decide) (fun b11 s11 v11 k11 f11 => ?_)
    have hs11 := s11.trans hs10
    have hf11 := f11.trans hf10
    have hO11 : ∀ j, (j < 107 ∨ 176 ≤ j) → b11.tmps[j]? = a0.tmps[j]? := fun j hj => (k11 j (by omega)).trans (hO10 j hj)
    have g115_11 := (k11 115 (by decide)).trans g115_10
    have g117_11 := v11
    clear hs10 hf10 hO10 s11 k11 f11 g115_10 g116_10
    clear v11
    first
      | refine held_skip (i := 11) (d := some 118) rfl rfl (by kernel_rfl) (by kernel_rfl) (by kernel_rfl) (fun c a w h => hQ c _ a w (by rfl) h) hH ?_ ?_
        · exact wanted_no (g := 8) (s := 115) rfl rfl g115_11
        simp only [List.setIfInBounds_toArray, List.set_cons_zero, List.set_cons_succ]
      | refine held_take (i := 11) (v := ?_) (d := some 118) rfl rfl (by kernel_rfl) (by kernel_rfl) (by kernel_rfl) (fun c a w h => hQ c _ a w (by rfl) h) hH ⟨?_, fun w hSw => ?_⟩ ?_
        rotate_left 1
        · exact wanted_yes (g := 8) (s := 115) rfl rfl g115_11
        · have e13 := eval_of ((hO11 13 (by decide)).trans c13)
          have ec : ∀ u, Act.eval b11 (.const u) = u := fun _ => rfl
          have ef : ∀ u, Act.eval b11 (.func u) = .func (.func u) #[] #[] := fun _ => rfl
          generalize Act.eval b11 = ρ at ec ef e13 ⊢
          (go_simp; all_goals with_reducible rfl)
        simp only [List.setIfInBounds_toArray, List.set_cons_zero, List.set_cons_succ]
    refine act_next (G := fun x => wpAnyH _ _ _ _ _ _ _ x _) _ 118 _ (by rw [hs11]; decide) (fun b12 s12 v12 k12 f12 => ?_)
    have hs12 := s12.trans hs11
    have hf12 := f12.trans hf11
    have hO12 : ∀ j, (j < 107 ∨ 176 ≤ j) → b12.tmps[j]? = a0.tmps[j]? := fun j hj => (k12 j (by omega)).trans (hO11 j hj)
    have g115_12 := (k12 115 (by decide)).trans g115_11
    have g117_12 := (k12 117 (by decide)).trans g117_11
    have g118_12 := v12
    clear hs11 hf11 hO11 s12 k12 f12 g115_11 g117_11
    clear v12
    first
      | refine held_skip (i := 12) (d := some 119) rfl rfl (by kernel_rfl) (by kernel_rfl) (by kernel_rfl) (fun c a w h => hQ c _ a w (by rfl) h) hH ?_ ?_
        · exact wanted_no (g := 8) (s := 115) rfl rfl g115_12
        simp only [List.setIfInBounds_toArray, List.set_cons_zero, List.set_cons_succ]
      | refine held_take (i := 12) (v := ?_) (d := some 119) rfl rfl (by kernel_rfl) (by kernel_rfl) (by kernel_rfl) (fun c a w h => hQ c _ a w (by rfl) h) hH ⟨?_, fun w hSw => ?_⟩ ?_
        rotate_left 1
        · exact wanted_yes (g := 8) (s := 115) rfl rfl g115_12
        · have e118 := eval_of g118_12
          have ec : ∀ u, Act.eval b12 (.const u) = u := fun _ => rfl
          have ef : ∀ u, Act.eval b12 (.func u) = .func (.func u) #[] #[] := fun _ => rfl
          generalize Act.eval b12 = ρ at ec ef e118 ⊢
          (go_simp; all_goals with_reducible rfl)
        simp only [List.setIfInBounds_toArray, List.set_cons_zero, List.set_cons_succ]
    refine act_next (G := fun x => wpAnyH _ _ _ _ _ _ _ x _) _ 119 _ (by rw [hs12]; decide) (fun b13 s13 v13 k13 f13 => ?_)
    have hs13 := s13.trans hs12
    have hf13 := f13.trans hf12
    have hO13 : ∀ j, (j < 107 ∨ 176 ≤ j) → b13.tmps[j]? = a0.tmps[j]? := fun j hj => (k13 j (by omega)).trans (hO12 j hj)
    have g115_13 := (k13 115 (by decide)).trans g115_12
    have g117_13 := (k13 117 (by decide)).trans g117_12
    have g119_13 := v13
    clear hs12 hf12 hO12 s13 k13 f13 g115_12 g117_12 g118_12
    clear v13
    first
      | refine held_skip (i := 13) (d := some 120) rfl rfl (by kernel_rfl) (by kernel_rfl) (by kernel_rfl) (fun c a w h => hQ c _ a w (by rfl) h) hH ?_ ?_
        · exact wanted_no (g := 8) (s := 115) rfl rfl g115_13
        simp only [List.setIfInBounds_toArray, List.set_cons_zero, List.set_cons_succ]
      | refine held_take (i := 13) (v := ?_) (d := some 120) rfl rfl (by kernel_rfl) (by kernel_rfl) (by kernel_rfl) (fun c a w h => hQ c _ a w (by rfl) h) hH ⟨?_, fun w hSw => ?_⟩ ?_
        rotate_left 1
        · exact wanted_yes (g := 8) (s := 115) rfl rfl g115_13
        · have e119 := eval_of g119_13
          have ec : ∀ u, Act.eval b13 (.const u) = u := fun _ => rfl
          have ef : ∀ u, Act.eval b13 (.func u) = .func (.func u) #[] #[] := fun _ => rfl
          generalize Act.eval b13 = ρ at ec ef e119 ⊢
          (go_simp; all_goals with_reducible rfl)
        simp only [List.setIfInBounds_toArray, List.set_cons_zero, List.set_cons_succ]
    refine act_next (G := fun x => wpAnyH _ _ _ _ _ _ _ x _) _ 120 _ (by rw [hs13]; decide) (fun b14 s14 v14 k14 f14 => ?_)
    have hs14 := s14.trans hs13
    have hf14 := f14.trans hf13
    have hO14 : ∀ j, (j < 107 ∨ 176 ≤ j) → b14.tmps[j]? = a0.tmps[j]? := fun j hj => (k14 j (by omega)).trans (hO13 j hj)
    have g115_14 := (k14 115 (by decide)).trans g115_13
    have g117_14 := (k14 117 (by decide)).trans g117_13
    have g120_14 := v14
    clear hs13 hf13 hO13 s14 k14 f14 g115_13 g117_13 g119_13
    clear v14
    first
      | refine held_skip (i := 14) (d := some 121) rfl rfl (by kernel_rfl) (by kernel_rfl) (by kernel_rfl) (fun c a w h => hQ c _ a w (by rfl) h) hH ?_ ?_
        · exact wanted_no (g := 8) (s := 115) rfl rfl g115_14
        simp only [List.setIfInBounds_toArray, List.set_cons_zero, List.set_cons_succ]
      | refine held_take (i := 14) (v := ?_) (d := some 121) rfl rfl (by kernel_rfl) (by kernel_rfl) (by kernel_rfl) (fun c a w h => hQ c _ a w (by rfl) h) hH ⟨?_, fun w hSw => ?_⟩ ?_
        rotate_left 1
        · exact wanted_yes (g := 8) (s := 115) rfl rfl g115_14
        · have e120 := eval_of g120_14
          obtain ⟨⟨y5, y6⟩, y7, y8, y9⟩ := hSw
          have ec : ∀ u, Act.eval b14 (.const u) = u := fun _ => rfl
          have ef : ∀ u, Act.eval b14 (.func u) = .func (.func u) #[] #[] := fun _ => rfl
          generalize Act.eval b14 = ρ at ec ef e120 ⊢
          (go_simp; all_goals with_reducible rfl)
        simp only [List.setIfInBounds_toArray, List.set_cons_zero, List.set_cons_succ]
    refine act_next (G := fun x => wpAnyH _ _ _ _ _ _ _ x _) _ 121 _ (by rw [hs14]; decide) (fun b15 s15 v15 k15 f15 => ?_)
    have hs15 := s15.trans hs14
    have hf15 := f15.trans hf14
    have hO15 : ∀ j, (j < 107 ∨ 176 ≤ j) → b15.tmps[j]? = a0.tmps[j]? := fun j hj => (k15 j (by omega)).trans (hO14 j hj)
    have g115_15 := (k15 115 (by decide)).trans g115_14
    have g117_15 := (k15 117 (by decide)).trans g117_14
    have g121_15 := v15
    clear hs14 hf14 hO14 s15 k15 f15 g115_14 g117_14 g120_14
    clear v15
    first
      | refine held_skip (i := 15) (d := some 122) rfl rfl (by kernel_rfl) (by kernel_rfl) (by kernel_rfl) (fun c a w h => hQ c _ a w (by rfl) h) hH ?_ ?_
        · exact wanted_no (g := 8) (s := 115) rfl rfl g115_15
        simp only [List.setIfInBounds_toArray, List.set_cons_zero, List.set_cons_succ]
      | refine held_take (i := 15) (v := ?_) (d := some 122) rfl rfl (by kernel_rfl) (by kernel_rfl) (by kernel_rfl) (fun c a w h => hQ c _ a w (by rfl) h) hH ⟨?_, fun w hSw => ?_⟩ ?_
        rotate_left 1
        · exact wanted_yes (g := 8) (s := 115) rfl rfl g115_15
        · have e121 := eval_of g121_15
          have ec : ∀ u, Act.eval b15 (.const u) = u := fun _ => rfl
          have ef : ∀ u, Act.eval b15 (.func u) = .func (.func u) #[] #[] := fun _ => rfl
          generalize Act.eval b15 = ρ at ec ef e121 ⊢
          (go_simp; all_goals with_reducible rfl)
        simp only [List.setIfInBounds_toArray, List.set_cons_zero, List.set_cons_succ]
    refine act_next (G := fun x => wpAnyH _ _ _ _ _ _ _ x _) _ 122 _ (by rw [hs15]; decide) (fun b16 s16 v16 k16 f16 => ?_)
    have hs16 := s16.trans hs15
    have hf16 := f16.trans hf15
    have hO16 : ∀ j, (j < 107 ∨ 176 ≤ j) → b16.tmps[j]? = a0.tmps[j]? := fun j hj => (k16 j (by omega)).trans (hO15 j hj)
    have g115_16 := (k16 115 (by decide)).trans g115_15
    have g117_16 := (k16 117 (by decide)).trans g117_15
    have g122_16 := v16
    clear hs15 hf15 hO15 s16 k16 f16 g115_15 g117_15 g121_15
    clear v16
    first
      | refine held_skip (i := 16) (d := some 123) rfl rfl (by kernel_rfl) (by kernel_rfl) (by kernel_rfl) (fun c a w h => hQ c _ a w (by rfl) h) hH ?_ ?_
        · exact wanted_no (g := 8) (s := 115) rfl rfl g115_16
        simp only [List.setIfInBounds_toArray, List.set_cons_zero, List.set_cons_succ]
      | refine held_take (i := 16) (v := ?_) (d := some 123) rfl rfl (by kernel_rfl) (by kernel_rfl) (by kernel_rfl) (fun c a w h => hQ c _ a w (by rfl) h) hH ⟨?_, fun w hSw => ?_⟩ ?_
        rotate_left 1
        · exact wanted_yes (g := 8) (s := 115) rfl rfl g115_16
        · have e122 := eval_of g122_16
          have ec : ∀ u, Act.eval b16 (.const u) = u := fun _ => rfl
          have ef : ∀ u, Act.eval b16 (.func u) = .func (.func u) #[] #[] := fun _ => rfl
          generalize Act.eval b16 = ρ at ec ef e122 ⊢
          (go_simp; all_goals with_reducible rfl)
        simp only [List.setIfInBounds_toArray, List.set_cons_zero, List.set_cons_succ]
    refine act_next (G := fun x => wpAnyH _ _ _ _ _ _ _ x _) _ 123 _ (by rw [hs16]; decide) (fun b17 s17 v17 k17 f17 => ?_)
    have hs17 := s17.trans hs16
    have hf17 := f17.trans hf16
    have hO17 : ∀ j, (j < 107 ∨ 176 ≤ j) → b17.tmps[j]? = a0.tmps[j]? := fun j hj => (k17 j (by omega)).trans (hO16 j hj)
    have g115_17 := (k17 115 (by decide)).trans g115_16
    have g117_17 := (k17 117 (by decide)).trans g117_16
    have g123_17 := v17
    clear hs16 hf16 hO16 s17 k17 f17 g115_16 g117_16 g122_16
    clear v17
    first
      | refine held_skip (i := 17) (d := some 124) rfl rfl (by kernel_rfl) (by kernel_rfl) (by kernel_rfl) (fun c a w h => hQ c _ a w (by rfl) h) hH ?_ ?_
        · exact wanted_no (g := 8) (s := 115) rfl rfl g115_17
        simp only [List.setIfInBounds_toArray, List.set_cons_zero, List.set_cons_succ]
      | refine held_take (i := 17) (v := ?_) (d := some 124) rfl rfl (by kernel_rfl) (by kernel_rfl) (by kernel_rfl) (fun c a w h => hQ c _ a w (by rfl) h) hH ⟨?_, fun w hSw => ?_⟩ ?_
        rotate_left 1
        · exact wanted_yes (g := 8) (s := 115) rfl rfl g115_17
        · have e123 := eval_of g123_17
          obtain ⟨⟨y5, y6⟩, y7, y8, y9⟩ := hSw
          have ec : ∀ u, Act.eval b17 (.const u) = u := fun _ => rfl
          have ef : ∀ u, Act.eval b17 (.func u) = .func (.func u) #[] #[] := fun _ => rfl
          generalize Act.eval b17 = ρ at ec ef e123 ⊢
          (go_simp; all_goals with_reducible rfl)
        simp only [List.setIfInBounds_toArray, List.set_cons_zero, List.set_cons_succ]
    refine act_next (G := fun x => wpAnyH _ _ _ _ _ _ _ x _) _ 124 _ (by rw [hs17]; decide) (fun b18 s18 v18 k18 f18 => ?_)
    have hs18 := s18.trans hs17
    have hf18 := f18.trans hf17
    have hO18 : ∀ j, (j < 107 ∨ 176 ≤ j) → b18.tmps[j]? = a0.tmps[j]? := fun j hj => (k18 j (by omega)).trans (hO17 j hj)
    have g115_18 := (k18 115 (by decide)).trans g115_17
    have g117_18 := (k18 117 (by decide)).trans g117_17
    have g124_18 := v18
    clear hs17 hf17 hO17 s18 k18 f18 g115_17 g117_17 g123_17
    clear v18
    first
      | refine held_skip (i := 18) (d := some 125) rfl rfl (by kernel_rfl) (by kernel_rfl) (by kernel_rfl) (fun c a w h => hQ c _ a w (by rfl) h) hH ?_ ?_
        · exact wanted_no (g := 8) (s := 115) rfl rfl g115_18
        simp only [List.setIfInBounds_toArray, List.set_cons_zero, List.set_cons_succ]
      | refine held_take (i := 18) (v := ?_) (d := some 125) rfl rfl (by kernel_rfl) (by kernel_rfl) (by kernel_rfl) (fun c a w h => hQ c _ a w (by rfl) h) hH ⟨?_, fun w hSw => ?_⟩ ?_
        rotate_left 1
        · exact wanted_yes (g := 8) (s := 115) rfl rfl g115_18
        · have e124 := eval_of g124_18
          have ec : ∀ u, Act.eval b18 (.const u) = u := fun _ => rfl
          have ef : ∀ u, Act.eval b18 (.func u) = .func (.func u) #[] #[] := fun _ => rfl
          generalize Act.eval b18 = ρ at ec ef e124 ⊢
          (go_simp; all_goals with_reducible rfl)
        simp only [List.setIfInBounds_toArray, List.set_cons_zero, List.set_cons_succ]
    refine act_next (G := fun x => wpAnyH _ _ _ _ _ _ _ x _) _ 125 _ (by rw [hs18]; decide) (fun b19 s19 v19 k19 f19 => ?_)
    have hs19 := s19.trans hs18
    have hf19 := f19.trans hf18
    have hO19 : ∀ j, (j < 107 ∨ 176 ≤ j) → b19.tmps[j]? = a0.tmps[j]? := fun j hj => (k19 j (by omega)).trans (hO18 j hj)
    have g115_19 := (k19 115 (by decide)).trans g115_18
    have g117_19 := (k19 117 (by decide)).trans g117_18
    have g125_19 := v19
    clear hs18 hf18 hO18 s19 k19 f19 g115_18 g117_18 g124_18
    clear v19
    first
      | refine held_skip (i := 19) (d := some 126) rfl rfl (by kernel_rfl) (by kernel_rfl) (by kernel_rfl) (fun c a w h => hQ c _ a w (by rfl) h) hH ?_ ?_
        · exact wanted_no (g := 8) (s := 115) rfl rfl g115_19
        simp only [List.setIfInBounds_toArray, List.set_cons_zero, List.set_cons_succ]
      | refine held_take (i := 19) (v := ?_) (d := some 126) rfl rfl (by kernel_rfl) (by kernel_rfl) (by kernel_rfl) (fun c a w h => hQ c _ a w (by rfl) h) hH ⟨?_, fun w hSw => ?_⟩ ?_
        rotate_left 1
        · exact wanted_yes (g := 8) (s := 115) rfl rfl g115_19
        · have e117 := eval_of g117_19
          have e125 := eval_of g125_19
          have ec : ∀ u, Act.eval b19 (.const u) = u := fun _ => rfl
          have ef : ∀ u, Act.eval b19 (.func u) = .func (.func u) #[] #[] := fun _ => rfl
          generalize Act.eval b19 = ρ at ec ef e117 e125 ⊢
          (go_simp; all_goals with_reducible rfl)
        simp only [List.setIfInBounds_toArray, List.set_cons_zero, List.set_cons_succ]
    refine act_next (G := fun x => wpAnyH _ _ _ _ _ _ _ x _) _ 126 _ (by rw [hs19]; decide) (fun b20 s20 v20 k20 f20 => ?_)
    have hs20 := s20.trans hs19
    have hf20 := f20.trans hf19
    have hO20 : ∀ j, (j < 107 ∨ 176 ≤ j) → b20.tmps[j]? = a0.tmps[j]? := fun j hj => (k20 j (by omega)).trans (hO19 j hj)
    have g115_20 := (k20 115 (by decide)).trans g115_19
    have g126_20 := v20
    clear hs19 hf19 hO19 s20 k20 f20 g115_19 g117_19 g125_19
    clear v20
    refine held_take (i := 20) (v := ?_) (d := some 127) rfl rfl (by kernel_rfl) (by kernel_rfl) (by kernel_rfl) (fun c a w h => hQ c _ a w (by rfl) h) hH ⟨?_, fun w hSw => ?_⟩ ?_
    rotate_left 1
    · rfl
    · have e115 := eval_of g115_20
      have e126 := eval_of g126_20
      have ec : ∀ u, Act.eval b20 (.const u) = u := fun _ => rfl
      have ef : ∀ u, Act.eval b20 (.func u) = .func (.func u) #[] #[] := fun _ => rfl
      generalize Act.eval b20 = ρ at ec ef e115 e126 ⊢
      (go_simp; all_goals with_reducible rfl)
    simp only [List.setIfInBounds_toArray, List.set_cons_zero, List.set_cons_succ]
    refine act_next (G := fun x => wpAnyH _ _ _ _ _ _ _ x _) _ 127 _ (by rw [hs20]; decide) (fun b21 s21 v21 k21 f21 => ?_)
    have hs21 := s21.trans hs20
    have hf21 := f21.trans hf20
    have hO21 : ∀ j, (j < 107 ∨ 176 ≤ j) → b21.tmps[j]? = a0.tmps[j]? := fun j hj => (k21 j (by omega)).trans (hO20 j hj)
    have g127_21 := v21
    clear hs20 hf20 hO20 s21 k21 f21 g115_20 g126_20
    clear v21
    refine held_take (i := 21) (v := ?_) (d := some 128) rfl rfl (by kernel_rfl) (by kernel_rfl) (by kernel_rfl) (fun c a w h => hQ c _ a w (by rfl) h) hH ⟨?_, fun w hSw => ?_⟩ ?_
    rotate_left 1
    · rfl
    · have e127 := eval_of g127_21
      have ec : ∀ u, Act.eval b21 (.const u) = u := fun _ => rfl
      have ef : ∀ u, Act.eval b21 (.func u) = .func (.func u) #[] #[] := fun _ => rfl
      generalize Act.eval b21 = ρ at ec ef e127 ⊢
      (go_simp; all_goals with_reducible rfl)
    simp only [List.setIfInBounds_toArray, List.set_cons_zero, List.set_cons_succ]
    refine act_next (G := fun x => wpAnyH _ _ _ _ _ _ _ x _) _ 128 _ (by rw [hs21]; decide) (fun b22 s22 v22 k22 f22 => ?_)
    have hs22 := s22.trans hs21
    have hf22 := f22.trans hf21
    have hO22 : ∀ j, (j < 107 ∨ 176 ≤ j) → b22.tmps[j]? = a0.tmps[j]? := fun j hj => (k22 j (by omega)).trans (hO21 j hj)
    have g128_22 := v22
    clear hs21 hf21 hO21 s22 k22 f22 g127_21
    clear v22
    first
      | refine held_skip (i := 22) (d := some 129) rfl rfl (by kernel_rfl) (by kernel_rfl) (by kernel_rfl) (fun c a w h => hQ c _ a w (by rfl) h) hH ?_ ?_
        · exact wanted_no (g := 21) (s := 128) rfl rfl g128_22
        simp only [List.setIfInBounds_toArray, List.set_cons_zero, List.set_cons_succ]
      | refine held_take (i := 22) (v := ?_) (d := some 129) rfl rfl (by kernel_rfl) (by kernel_rfl) (by kernel_rfl) (fun c a w h => hQ c _ a w (by rfl) h) hH ⟨?_, fun w hSw => ?_⟩ ?_
        rotate_left 1
        · exact wanted_yes (g := 21) (s := 128) rfl rfl g128_22
        · have e16 := eval_of ((hO22 16 (by decide)).trans c16)
          have ec : ∀ u, Act.eval b22 (.const u) = u := fun _ => rfl
          have ef : ∀ u, Act.eval b22 (.func u) = .func (.func u) #[] #[] := fun _ => rfl
          generalize Act.eval b22 = ρ at ec ef e16 ⊢
          (go_simp; all_goals with_reducible rfl)
        simp only [List.setIfInBounds_toArray, List.set_cons_zero, List.set_cons_succ]
    refine act_next (G := fun x => wpAnyH _ _ _ _ _ _ _ x _) _ 129 _ (by rw [hs22]; decide) (fun b23 s23 v23 k23 f23 => ?_)
    have hs23 := s23.trans hs22
    have hf23 := f23.trans hf22
    have hO23 : ∀ j, (j < 107 ∨ 176 ≤ j) → b23.tmps[j]? = a0.tmps[j]? := fun j hj => (k23 j (by omega)).trans (hO22 j hj)
    have g128_23 := (k23 128 (by decide)).trans g128_22
    have g129_23 := v23
    clear hs22 hf22 hO22 s23 k23 f23 g128_22
    clear v23
    first
      | refine held_skip (i := 23) (d := some 130) rfl rfl (by kernel_rfl) (by kernel_rfl) (by kernel_rfl) (fun c a w h => hQ c _ a w (by rfl) h) hH ?_ ?_
        · exact wanted_no (g := 21) (s := 128) rfl rfl g128_23
        simp only [List.setIfInBounds_toArray, List.set_cons_zero, List.set_cons_succ]
      | refine held_take (i := 23) (v := ?_) (d := some 130) rfl rfl (by kernel_rfl) (by kernel_rfl) (by kernel_rfl) (fun c a w h => hQ c _ a w (by rfl) h) hH ⟨?_, fun w hSw => ?_⟩ ?_
        rotate_left 1
        · exact wanted_yes (g := 21) (s := 128) rfl rfl g128_23
        · have e129 := eval_of g129_23
          obtain ⟨⟨y5, y6⟩, y7, y8, y9⟩ := hSw
          have ec : ∀ u, Act.eval b23 (.const u) = u := fun _ => rfl
          have ef : ∀ u, Act.eval b23 (.func u) = .func (.func u) #[] #[] := fun _ => rfl
          generalize Act.eval b23 = ρ at ec ef e129 ⊢
          (go_simp; all_goals with_reducible rfl)
        simp only [List.setIfInBounds_toArray, List.set_cons_zero, List.set_cons_succ]
    refine act_next (G := fun x => wpAnyH _ _ _ _ _ _ _ x _) _ 130 _ (by rw [hs23]; decide) (fun b24 s24 v24 k24 f24 => ?_)
    have hs24 := s24.trans hs23
    have hf24 := f24.trans hf23
    have hO24 : ∀ j, (j < 107 ∨ 176 ≤ j) → b24.tmps[j]? = a0.tmps[j]? := fun j hj => (k24 j (by omega)).trans (hO23 j hj)
    have g128_24 := (k24 128 (by decide)).trans g128_23
    have g130_24 := v24
    clear hs23 hf23 hO23 s24 k24 f24 g128_23 g129_23
    clear v24
    first
      | refine held_skip (i := 24) (d := some 131) rfl rfl (by kernel_rfl) (by kernel_rfl) (by kernel_rfl) (fun c a w h => hQ c _ a w (by rfl) h) hH ?_ ?_
        · exact wanted_no (g := 21) (s := 128) rfl rfl g128_24
        simp only [List.setIfInBounds_toArray, List.set_cons_zero, List.set_cons_succ]
      | refine held_take (i := 24) (v := ?_) (d := some 131) rfl rfl (by kernel_rfl) (by kernel_rfl) (by kernel_rfl) (fun c a w h => hQ c _ a w (by rfl) h) hH ⟨?_, fun w hSw => ?_⟩ ?_
        rotate_left 1
        · exact wanted_yes (g := 21) (s := 128) rfl rfl g128_24
        · have e13 := eval_of ((hO24 13 (by decide)).trans c13)
          have ec : ∀ u, Act.eval b24 (.const u) = u := fun _ => rfl
          have ef : ∀ u, Act.eval b24 (.func u) = .func (.func u) #[] #[] := fun _ => rfl
          generalize Act.eval b24 = ρ at ec ef e13 ⊢
          (go_simp; all_goals with_reducible rfl)
        simp only [List.setIfInBounds_toArray, List.set_cons_zero, List.set_cons_succ]
    refine act_next (G := fun x => wpAnyH _ _ _ _ _ _ _ x _) _ 131 _ (by rw [hs24]; decide) (fun b25 s25 v25 k25 f25 => ?_)
    have hs25 := s25.trans hs24
    have hf25 := f25.trans hf24
    have hO25 : ∀ j, (j < 107 ∨ 176 ≤ j) → b25.tmps[j]? = a0.tmps[j]? := fun j hj => (k25 j (by omega)).trans (hO24 j hj)
    have g128_25 := (k25 128 (by decide)).trans g128_24
    have g130_25 := (k25 130 (by decide)).trans g130_24
    have g131_25 := v25
    clear hs24 hf24 hO24 s25 k25 f25 g128_24 g130_24
    clear v25
    first
      | refine held_skip (i := 25) (d := some 132) rfl rfl (by kernel_rfl) (by kernel_rfl) (by kernel_rfl) (fun c a w h => hQ c _ a w (by rfl) h) hH ?_ ?_
        · exact wanted_no (g := 21) (s := 128) rfl rfl g128_25
        simp only [List.setIfInBounds_toArray, List.set_cons_zero, List.set_cons_succ]
      | refine held_take (i := 25) (v := ?_) (d := some 132) rfl rfl (by kernel_rfl) (by kernel_rfl) (by kernel_rfl) (fun c a w h => hQ c _ a w (by rfl) h) hH ⟨?_, fun w hSw => ?_⟩ ?_
        rotate_left 1
        · exact wanted_yes (g := 21) (s := 128) rfl rfl g128_25
        · have e131 := eval_of g131_25
          have ec : ∀ u, Act.eval b25 (.const u) = u := fun _ => rfl
          have ef : ∀ u, Act.eval b25 (.func u) = .func (.func u) #[] #[] := fun _ => rfl
          generalize Act.eval b25 = ρ at ec ef e131 ⊢
          (go_simp; all_goals with_reducible rfl)
        simp only [List.setIfInBounds_toArray, List.set_cons_zero, List.set_cons_succ]
    refine act_next (G := fun x => wpAnyH _ _ _ _ _ _ _ x _) _ 132 _ (by rw [hs25]; decide) (fun b26 s26 v26 k26 f26 => ?_)
    have hs26 := s26.trans hs25
    have hf26 := f26.trans hf25
    have hO26 : ∀ j, (j < 107 ∨ 176 ≤ j) → b26.tmps[j]? = a0.tmps[j]? := fun j hj => (k26 j (by omega)).trans (hO25 j hj)
    have g128_26 := (k26 128 (by decide)).trans g128_25
    have g130_26 := (k26 130 (by decide)).trans g130_25
    have g132_26 := v26
    clear hs25 hf25 hO25 s26 k26 f26 g128_25 g130_25 g131_25
    clear v26
    first
      | refine held_skip (i := 26) (d := some 133) rfl rfl (by kernel_rfl) (by kernel_rfl) (by kernel_rfl) (fun c a w h => hQ c _ a w (by rfl) h) hH ?_ ?_
        · exact wanted_no (g := 21) (s := 128) rfl rfl g128_26
        simp only [List.setIfInBounds_toArray, List.set_cons_zero, List.set_cons_succ]
      | refine held_take (i := 26) (v := ?_) (d := some 133) rfl rfl (by kernel_rfl) (by kernel_rfl) (by kernel_rfl) (fun c a w h => hQ c _ a w (by rfl) h) hH ⟨?_, fun w hSw => ?_⟩ ?_
        rotate_left 1
        · exact wanted_yes (g := 21) (s := 128) rfl rfl g128_26
        · have e132 := eval_of g132_26
          have ec : ∀ u, Act.eval b26 (.const u) = u := fun _ => rfl
          have ef : ∀ u, Act.eval b26 (.func u) = .func (.func u) #[] #[] := fun _ => rfl
          generalize Act.eval b26 = ρ at ec ef e132 ⊢
          (go_simp; all_goals with_reducible rfl)
        simp only [List.setIfInBounds_toArray, List.set_cons_zero, List.set_cons_succ]
    refine act_next (G := fun x => wpAnyH _ _ _ _ _ _ _ x _) _ 133 _ (by rw [hs26]; decide) (fun b27 s27 v27 k27 f27 => ?_)
    have hs27 := s27.trans hs26
    have hf27 := f27.trans hf26
    have hO27 : ∀ j, (j < 107 ∨ 176 ≤ j) → b27.tmps[j]? = a0.tmps[j]? := fun j hj => (k27 j (by omega)).trans (hO26 j hj)
    have g128_27 := (k27 128 (by decide)).trans g128_26
    have g130_27 := (k27 130 (by decide)).trans g130_26
    have g133_27 := v27
    clear hs26 hf26 hO26 s27 k27 f27 g128_26 g130_26 g132_26
    clear v27
    first
      | refine held_skip (i := 27) (d := some 134) rfl rfl (by kernel_rfl) (by kernel_rfl) (by kernel_rfl) (fun c a w h => hQ c _ a w (by rfl) h) hH ?_ ?_
        · exact wanted_no (g := 21) (s := 128) rfl rfl g128_27
        simp only [List.setIfInBounds_toArray, List.set_cons_zero, List.set_cons_succ]
      | refine held_take (i := 27) (v := ?_) (d := some 134) rfl rfl (by kernel_rfl) (by kernel_rfl) (by kernel_rfl) (fun c a w h => hQ c _ a w (by rfl) h) hH ⟨?_, fun w hSw => ?_⟩ ?_
        rotate_left 1
        · exact wanted_yes (g := 21) (s := 128) rfl rfl g128_27
        · have e133 := eval_of g133_27
          obtain ⟨⟨y5, y6⟩, y7, y8, y9⟩ := hSw
          have ec : ∀ u, Act.eval b27 (.const u) = u := fun _ => rfl
          have ef : ∀ u, Act.eval b27 (.func u) = .func (.func u) #[] #[] := fun _ => rfl
          generalize Act.eval b27 = ρ at ec ef e133 ⊢
          (go_simp; all_goals with_reducible rfl)
        simp only [List.setIfInBounds_toArray, List.set_cons_zero, List.set_cons_succ]
    refine act_next (G := fun x => wpAnyH _ _ _ _ _ _ _ x _) _ 134 _ (by rw [hs27]; decide) (fun b28 s28 v28 k28 f28 => ?_)
    have hs28 := s28.trans hs27
    have hf28 := f28.trans hf27
    have hO28 : ∀ j, (j < 107 ∨ 176 ≤ j) → b28.tmps[j]? = a0.tmps[j]? := fun j hj => (k28 j (by omega)).trans (hO27 j hj)
    have g128_28 := (k28 128 (by decide)).trans g128_27
    have g130_28 := (k28 130 (by decide)).trans g130_27
    have g134_28 := v28
    clear hs27 hf27 hO27 s28 k28 f28 g128_27 g130_27 g133_27
    clear v28
    first
      | refine held_skip (i := 28) (d := some 135) rfl rfl (by kernel_rfl) (by kernel_rfl) (by kernel_rfl) (fun c a w h => hQ c _ a w (by rfl) h) hH ?_ ?_
        · exact wanted_no (g := 21) (s := 128) rfl rfl g128_28
        simp only [List.setIfInBounds_toArray, List.set_cons_zero, List.set_cons_succ]
      | refine held_take (i := 28) (v := ?_) (d := some 135) rfl rfl (by kernel_rfl) (by kernel_rfl) (by kernel_rfl) (fun c a w h => hQ c _ a w (by rfl) h) hH ⟨?_, fun w hSw => ?_⟩ ?_
        rotate_left 1
        · exact wanted_yes (g := 21) (s := 128) rfl rfl g128_28
        · have e134 := eval_of g134_28
          have ec : ∀ u, Act.eval b28 (.const u) = u := fun _ => rfl
          have ef : ∀ u, Act.eval b28 (.func u) = .func (.func u) #[] #[] := fun _ => rfl
          generalize Act.eval b28 = ρ at ec ef e134 ⊢
          (go_simp; all_goals with_reducible rfl)
        simp only [List.setIfInBounds_toArray, List.set_cons_zero, List.set_cons_succ]
    refine act_next (G := fun x => wpAnyH _ _ _ _ _ _ _ x _) _ 135 _ (by rw [hs28]; decide) (fun b29 s29 v29 k29 f29 => ?_)
    have hs29 := s29.trans hs28
    have hf29 := f29.trans hf28
    have hO29 : ∀ j, (j < 107 ∨ 176 ≤ j) → b29.tmps[j]? = a0.tmps[j]? := fun j hj => (k29 j (by omega)).trans (hO28 j hj)
    have g128_29 := (k29 128 (by decide)).trans g128_28
    have g130_29 := (k29 130 (by decide)).trans g130_28
    have g135_29 := v29
    clear hs28 hf28 hO28 s29 k29 f29 g128_28 g130_28 g134_28
    clear v29
    first
      | refine held_skip (i := 29) (d := some 136) rfl rfl (by kernel_rfl) (by kernel_rfl) (by kernel_rfl) (fun c a w h => hQ c _ a w (by rfl) h) hH ?_ ?_
        · exact wanted_no (g := 21) (s := 128) rfl rfl g128_29
        simp only [List.setIfInBounds_toArray, List.set_cons_zero, List.set_cons_succ]
      | refine held_take (i := 29) (v := ?_) (d := some 136) rfl rfl (by kernel_rfl) (by kernel_rfl) (by kernel_rfl) (fun c a w h => hQ c _ a w (by rfl) h) hH ⟨?_, fun w hSw => ?_⟩ ?_
        rotate_left 1
        · exact wanted_yes (g := 21) (s := 128) rfl rfl g128_29
        · have e135 := eval_of g135_29
          have ec : ∀ u, Act.eval b29 (.const u) = u := fun _ => rfl
          have ef : ∀ u, Act.eval b29 (.func u) = .func (.func u) #[] #[] := fun _ => rfl
          generalize Act.eval b29 = ρ at ec ef e135 ⊢
          (go_simp; all_goals with_reducible rfl)
        simp only [List.setIfInBounds_toArray, List.set_cons_zero, List.set_cons_succ]
    refine act_next (G := fun x => wpAnyH _ _ _ _ _ _ _ x _) _ 136 _ (by rw [hs29]; decide) (fun b30 s30 v30 k30 f30 => ?_)
    have hs30 := s30.trans hs29
    have hf30 := f30.trans hf29
    have hO30 : ∀ j, (j < 107 ∨ 176 ≤ j) → b30.tmps[j]? = a0.tmps[j]? := fun j hj => (k30 j (by omega)).trans (hO29 j hj)
    have g128_30 := (k30 128 (by decide)).trans g128_29
    have g130_30 := (k30 130 (by decide)).trans g130_29
    have g136_30 := v30
    clear hs29 hf29 hO29 s30 k30 f30 g128_29 g130_29 g135_29
    clear v30
    first
      | refine held_skip (i := 30) (d := some 137) rfl rfl (by kernel_rfl) (by kernel_rfl) (by kernel_rfl) (fun c a w h => hQ c _ a w (by rfl) h) hH ?_ ?_
        · exact wanted_no (g := 21) (s := 128) rfl rfl g128_30
        simp only [List.setIfInBounds_toArray, List.set_cons_zero, List.set_cons_succ]
      | refine held_take (i := 30) (v := ?_) (d := some 137) rfl rfl (by kernel_rfl) (by kernel_rfl) (by kernel_rfl) (fun c a w h => hQ c _ a w (by rfl) h) hH ⟨?_, fun w hSw => ?_⟩ ?_
        rotate_left 1
        · exact wanted_yes (g := 21) (s := 128) rfl rfl g128_30
        · have e136 := eval_of g136_30
          obtain ⟨⟨y5, y6⟩, y7, y8, y9⟩ := hSw
          have ec : ∀ u, Act.eval b30 (.const u) = u := fun _ => rfl
          have ef : ∀ u, Act.eval b30 (.func u) = .func (.func u) #[] #[] := fun _ => rfl
          generalize Act.eval b30 = ρ at ec ef e136 ⊢
          (go_simp; all_goals with_reducible rfl)
        simp only [List.setIfInBounds_toArray, List.set_cons_zero, List.set_cons_succ]
    refine act_next (G := fun x => wpAnyH _ _ _ _ _ _ _ x _) _ 137 _ (by rw [hs30]; decide) (fun b31 s31 v31 k31 f31 => ?_)
    have hs31 := s31.trans hs30
    have hf31 := f31.trans hf30
    have hO31 : ∀ j, (j < 107 ∨ 176 ≤ j) → b31.tmps[j]? = a0.tmps[j]? := fun j hj => (k31 j (by omega)).trans (hO30 j hj)
    have g128_31 := (k31 128 (by decide)).trans g128_30
    have g130_31 := (k31 130 (by decide)).trans g130_30
    have g137_31 := v31
    clear hs30 hf30 hO30 s31 k31 f31 g128_30 g130_30 g136_30
    clear v31
    first
      | refine held_skip (i := 31) (d := some 138) rfl rfl (by kernel_rfl) (by kernel_rfl) (by kernel_rfl) (fun c a w h => hQ c _ a w (by rfl) h) hH ?_ ?_
        · exact wanted_no (g := 21) (s := 128) rfl rfl g128_31
        simp only [List.setIfInBounds_toArray, List.set_cons_zero, List.set_cons_succ]
      | refine held_take (i := 31) (v := ?_) (d := some 138) rfl rfl (by kernel_rfl) (by kernel_rfl) (by kernel_rfl) (fun c a w h => hQ c _ a w (by rfl) h) hH ⟨?_, fun w hSw => ?_⟩ ?_
        rotate_left 1
        · exact wanted_yes (g := 21) (s := 128) rfl rfl g128_31
        · have e137 := eval_of g137_31
          have ec : ∀ u, Act.eval b31 (.const u) = u := fun _ => rfl
          have ef : ∀ u, Act.eval b31 (.func u) = .func (.func u) #[] #[] := fun _ => rfl
          generalize Act.eval b31 = ρ at ec ef e137 ⊢
          (go_simp; all_goals with_reducible rfl)
        simp only [List.setIfInBounds_toArray, List.set_cons_zero, List.set_cons_succ]
    refine act_next (G := fun x => wpAnyH _ _ _ _ _ _ _ x _) _ 138 _ (by rw [hs31]; decide) (fun b32 s32 v32 k32 f32 => ?_)
    have hs32 := s32.trans hs31
    have hf32 := f32.trans hf31
    have hO32 : ∀ j, (j < 107 ∨ 176 ≤ j) → b32.tmps[j]? = a0.tmps[j]? := fun j hj => (k32 j (by omega)).trans (hO31 j hj)
    have g128_32 := (k32 128 (by decide)).trans g128_31
    have g130_32 := (k32 130 (by decide)).trans g130_31
    have g138_32 := v32
    clear hs31 hf31 hO31 s32 k32 f32 g128_31 g130_31 g137_31
    clear v32
    first
      | refine held_skip (i := 32) (d := some 139) rfl rfl (by kernel_rfl) (by kernel_rfl) (by kernel_rfl) (fun c a w h => hQ c _ a w (by rfl) h) hH ?_ ?_
        · exact wanted_no (g := 21) (s := 128) rfl rfl g128_32
        simp only [List.setIfInBounds_toArray, List.set_cons_zero, List.set_cons_succ]
      | refine held_take (i := 32) (v := ?_) (d := some 139) rfl rfl (by kernel_rfl) (by kernel_rfl) (by kernel_rfl) (fun c a w h => hQ c _ a w (by rfl) h) hH ⟨?_, fun w hSw => ?_⟩ ?_
        rotate_left 1
        · exact wanted_yes (g := 21) (s := 128) rfl rfl g128_32
        · have e16 := eval_of ((hO32 16 (by decide)).trans c16)
          have ec : ∀ u, Act.eval b32 (.const u) = u := fun _ => rfl
          have ef : ∀ u, Act.eval b32 (.func u) = .func (.func u) #[] #[] := fun _ => rfl
          generalize Act.eval b32 = ρ at ec ef e16 ⊢
          (go_simp; all_goals with_reducible rfl)
        simp only [List.setIfInBounds_toArray, List.set_cons_zero, List.set_cons_succ]
    refine act_next (G := fun x => wpAnyH _ _ _ _ _ _ _ x _) _ 139 _ (by rw [hs32]; decide) (fun b33 s33 v33 k33 f33 => ?_)
    have hs33 := s33.trans hs32
    have hf33 := f33.trans hf32
    have hO33 : ∀ j, (j < 107 ∨ 176 ≤ j) → b33.tmps[j]? = a0.tmps[j]? := fun j hj => (k33 j (by omega)).trans (hO32 j hj)
    have g128_33 := (k33 128 (by decide)).trans g128_32
    have g130_33 := (k33 130 (by decide)).trans g130_32
    have g138_33 := (k33 138 (by decide)).trans g138_32
    have g139_33 := v33
    clear hs32 hf32 hO32 s33 k33 f33 g128_32 g130_32 g138_32
    clear v33
    first
      | refine held_skip (i := 33) (d := some 140) rfl rfl (by kernel_rfl) (by kernel_rfl) (by kernel_rfl) (fun c a w h => hQ c _ a w (by rfl) h) hH ?_ ?_
        · exact wanted_no (g := 21) (s := 128) rfl rfl g128_33
        simp only [List.setIfInBounds_toArray, List.set_cons_zero, List.set_cons_succ]
      | refine held_take (i := 33) (v := ?_) (d := some 140) rfl rfl (by kernel_rfl) (by kernel_rfl) (by kernel_rfl) (fun c a w h => hQ c _ a w (by rfl) h) hH ⟨?_, fun w hSw => ?_⟩ ?_
        rotate_left 1
        · exact wanted_yes (g := 21) (s := 128) rfl rfl g128_33
        · have e139 := eval_of g139_33
          obtain ⟨⟨y5, y6⟩, y7, y8, y9⟩ := hSw
          have ec : ∀ u, Act.eval b33 (.const u) = u := fun _ => rfl
          have ef : ∀ u, Act.eval b33 (.func u) = .func (.func u) #[] #[] := fun _ => rfl
          generalize Act.eval b33 = ρ at ec ef e139 ⊢
          (go_simp; all_goals with_reducible rfl)
        simp only [List.setIfInBounds_toArray, List.set_cons_zero, List.set_cons_succ]
    refine act_next (G := fun x => wpAnyH _ _ _ _ _ _ _ x _) _ 140 _ (by rw [hs33]; decide) (fun b34 s34 v34 k34 f34 => ?_)
    have hs34 := s34.trans hs33
    have hf34 := f34.trans hf33
    have hO34 : ∀ j, (j < 107 ∨ 176 ≤ j) → b34.tmps[j]? = a0.tmps[j]? := fun j hj => (k34 j (by omega)).trans (hO33 j hj)
    have g128_34 := (k34 128 (by decide)).trans g128_33
    have g130_34 := (k34 130 (by decide)).trans g130_33
    have g138_34 := (k34 138 (by decide)).trans g138_33
    have g140_34 := v34
    clear hs33 hf33 hO33 s34 k34 f34 g128_33 g130_33 g138_33 g139_33
    clear v34
    first
      | refine held_skip (i := 34) (d := some 141) rfl rfl (by kernel_rfl) (by kernel_rfl) (by kernel_rfl) (fun c a w h => hQ c _ a w (by rfl) h) hH ?_ ?_
        · exact wanted_no (g := 21) (s := 128) rfl rfl g128_34
        simp only [List.setIfInBounds_toArray, List.set_cons_zero, List.set_cons_succ]
      | refine held_take (i := 34) (v := ?_) (d := some 141) rfl rfl (by kernel_rfl) (by kernel_rfl) (by kernel_rfl) (fun c a w h => hQ c _ a w (by rfl) h) hH ⟨?_, fun w hSw => ?_⟩ ?_
        rotate_left 1
        · exact wanted_yes (g := 21) (s := 128) rfl rfl g128_34
        · have e138 := eval_of g138_34
          have e140 := eval_of g140_34
          have ec : ∀ u, Act.eval b34 (.const u) = u := fun _ => rfl
          have ef : ∀ u, Act.eval b34 (.func u) = .func (.func u) #[] #[] := fun _ => rfl
          generalize Act.eval b34 = ρ at ec ef e138 e140 ⊢
          (go_simp; all_goals with_reducible rfl)
        simp only [List.setIfInBounds_toArray, List.set_cons_zero, List.set_cons_succ]
    refine act_next (G := fun x => wpAnyH _ _ _ _ _ _ _ x _) _ 141 _ (by rw [hs34]; decide) (fun b35 s35 v35 k35 f35 => ?_)
    have hs35 := s35.trans hs34
    have hf35 := f35.trans hf34
    have hO35 : ∀ j, (j < 107 ∨ 176 ≤ j) → b35.tmps[j]? = a0.tmps[j]? := fun j hj => (k35 j (by omega)).trans (hO34 j hj)
    have g128_35 := (k35 128 (by decide)).trans g128_34
    have g130_35 := (k35 130 (by decide)).trans g130_34
    have g141_35 := v35
    clear hs34 hf34 hO34 s35 k35 f35 g128_34 g130_34 g138_34 g140_34
    clear v35
    first
      | refine held_skip (i := 35) (d := some 142) rfl rfl (by kernel_rfl) (by kernel_rfl) (by kernel_rfl) (fun c a w h => hQ c _ a w (by rfl) h) hH ?_ ?_
        · exact wanted_no (g := 21) (s := 128) rfl rfl g128_35
        simp only [List.setIfInBounds_toArray, List.set_cons_zero, List.set_cons_succ]
      | refine held_take (i := 35) (v := ?_) (d := some 142) rfl rfl (by kernel_rfl) (by kernel_rfl) (by kernel_rfl) (fun c a w h => hQ c _ a w (by rfl) h) hH ⟨?_, fun w hSw => ?_⟩ ?_
        rotate_left 1
        · exact wanted_yes (g := 21) (s := 128) rfl rfl g128_35
        · have e130 := eval_of g130_35
          have e141 := eval_of g141_35
          have ec : ∀ u, Act.eval b35 (.const u) = u := fun _ => rfl
          have ef : ∀ u, Act.eval b35 (.func u) = .func (.func u) #[] #[] := fun _ => rfl
          generalize Act.eval b35 = ρ at ec ef e130 e141 ⊢
          (go_simp; all_goals with_reducible rfl)
        simp only [List.setIfInBounds_toArray, List.set_cons_zero, List.set_cons_succ]
    refine act_next (G := fun x => wpAnyH _ _ _ _ _ _ _ x _) _ 142 _ (by rw [hs35]; decide) (fun b36 s36 v36 k36 f36 => ?_)
    have hs36 := s36.trans hs35
    have hf36 := f36.trans hf35
    have hO36 : ∀ j, (j < 107 ∨ 176 ≤ j) → b36.tmps[j]? = a0.tmps[j]? := fun j hj => (k36 j (by omega)).trans (hO35 j hj)
    have g128_36 := (k36 128 (by decide)).trans g128_35
    have g142_36 := v36
    clear hs35 hf35 hO35 s36 k36 f36 g128_35 g130_35 g141_35
    clear v36
    refine held_take (i := 36) (v := ?_) (d := some 143) rfl rfl (by kernel_rfl) (by kernel_rfl) (by kernel_rfl) (fun c a w h => hQ c _ a w (by rfl) h) hH ⟨?_, fun w hSw => ?_⟩ ?_
    rotate_left 1
    · rfl
    · have e128 := eval_of g128_36
      have e142 := eval_of g142_36
      have ec : ∀ u, Act.eval b36 (.const u) = u := fun _ => rfl
      have ef : ∀ u, Act.eval b36 (.func u) = .func (.func u) #[] #[] := fun _ => rfl
      generalize Act.eval b36 = ρ at ec ef e128 e142 ⊢
      (go_simp; all_goals with_reducible rfl)
    simp only [List.setIfInBounds_toArray, List.set_cons_zero, List.set_cons_succ]
    refine act_next (G := fun x => wpAnyH _ _ _ _ _ _ _ x _) _ 143 _ (by rw [hs36]; decide) (fun b37 s37 v37 k37 f37 => ?_)
    have hs37 := s37.trans hs36
    have hf37 := f37.trans hf36
    have hO37 : ∀ j, (j < 107 ∨ 176 ≤ j) → b37.tmps[j]? = a0.tmps[j]? := fun j hj => (k37 j (by omega)).trans (hO36 j hj)
    have g143_37 := v37
    clear hs36 hf36 hO36 s37 k37 f37 g128_36 g142_36
    clear v37
    refine held_take (i := 37) (v := ?_) (d := some 144) rfl rfl (by kernel_rfl) (by kernel_rfl) (by kernel_rfl) (fun c a w h => hQ c _ a w (by rfl) h) hH ⟨?_, fun w hSw => ?_⟩ ?_
    rotate_left 1
    · rfl
    · have e143 := eval_of g143_37
      have ec : ∀ u, Act.eval b37 (.const u) = u := fun _ => rfl
      have ef : ∀ u, Act.eval b37 (.func u) = .func (.func u) #[] #[] := fun _ => rfl
      generalize Act.eval b37 = ρ at ec ef e143 ⊢
      (go_simp; all_goals with_reducible rfl)
    simp only [List.setIfInBounds_toArray, List.set_cons_zero, List.set_cons_succ]
    refine act_next (G := fun x => wpAnyH _ _ _ _ _ _ _ x _) _ 144 _ (by rw [hs37]; decide) (fun b38 s38 v38 k38 f38 => ?_)
    have hs38 := s38.trans hs37
    have hf38 := f38.trans hf37
    have hO38 : ∀ j, (j < 107 ∨ 176 ≤ j) → b38.tmps[j]? = a0.tmps[j]? := fun j hj => (k38 j (by omega)).trans (hO37 j hj)
    have g144_38 := v38
    clear hs37 hf37 hO37 s38 k38 f38 g143_37
    clear v38
    first
      | refine held_skip (i := 38) (d := some 145) rfl rfl (by kernel_rfl) (by kernel_rfl) (by kernel_rfl) (fun c a w h => hQ c _ a w (by rfl) h) hH ?_ ?_
        · exact wanted_no (g := 37) (s := 144) rfl rfl g144_38
        simp only [List.setIfInBounds_toArray, List.set_cons_zero, List.set_cons_succ]
      | refine held_take (i := 38) (v := ?_) (d := some 145) rfl rfl (by kernel_rfl) (by kernel_rfl) (by kernel_rfl) (fun c a w h => hQ c _ a w (by rfl) h) hH ⟨?_, fun w hSw => ?_⟩ ?_
        rotate_left 1
        · exact wanted_yes (g := 37) (s := 144) rfl rfl g144_38
        · have e10 := eval_of ((hO38 10 (by decide)).trans c10)
          have ec : ∀ u, Act.eval b38 (.const u) = u := fun _ => rfl
          have ef : ∀ u, Act.eval b38 (.func u) = .func (.func u) #[] #[] := fun _ => rfl
          generalize Act.eval b38 = ρ at ec ef e10 ⊢
          (go_simp; all_goals with_reducible rfl)
        simp only [List.setIfInBounds_toArray, List.set_cons_zero, List.set_cons_succ]
    refine act_next (G := fun x => wpAnyH _ _ _ _ _ _ _ x _) _ 145 _ (by rw [hs38]; decide) (fun b39 s39 v39 k39 f39 => ?_)
    have hs39 := s39.trans hs38
    have hf39 := f39.trans hf38
    have hO39 : ∀ j, (j < 107 ∨ 176 ≤ j) → b39.tmps[j]? = a0.tmps[j]? := fun j hj => (k39 j (by omega)).trans (hO38 j hj)
    have g144_39 := (k39 144 (by decide)).trans g144_38
    have g145_39 := v39
    clear hs38 hf38 hO38 s39 k39 f39 g144_38
    clear v39
    first
      | refine held_skip (i := 39) (d := some 146) rfl rfl (by kernel_rfl) (by kernel_rfl) (by kernel_rfl) (fun c a w h => hQ c _ a w (by rfl) h) hH ?_ ?_
        · exact wanted_no (g := 37) (s := 144) rfl rfl g144_39
        simp only [List.setIfInBounds_toArray, List.set_cons_zero, List.set_cons_succ]
      | refine held_take (i := 39) (v := ?_) (d := some 146) rfl rfl (by kernel_rfl) (by kernel_rfl) (by kernel_rfl) (fun c a w h => hQ c _ a w (by rfl) h) hH ⟨?_, fun w hSw => ?_⟩ ?_
        rotate_left 1
        · exact wanted_yes (g := 37) (s := 144) rfl rfl g144_39
        · have e145 := eval_of g145_39
          have ec : ∀ u, Act.eval b39 (.const u) = u := fun _ => rfl
          have ef : ∀ u, Act.eval b39 (.func u) = .func (.func u) #[] #[] := fun _ => rfl
          generalize Act.eval b39 = ρ at ec ef e145 ⊢
          (go_simp; all_goals with_reducible rfl)
        simp only [List.setIfInBounds_toArray, List.set_cons_zero, List.set_cons_succ]
    refine act_next (G := fun x => wpAnyH _ _ _ _ _ _ _ x _) _ 146 _ (by rw [hs39]; decide) (fun b40 s40 v40 k40 f40 => ?_)
    have hs40 := s40.trans hs39
    have hf40 := f40.trans hf39
    have hO40 : ∀ j, (j < 107 ∨ 176 ≤ j) → b40.tmps[j]? = a0.tmps[j]? := fun j hj => (k40 j (by omega)).trans (hO39 j hj)
    have g144_40 := (k40 144 (by decide)).trans g144_39
    have g146_40 := v40
    clear hs39 hf39 hO39 s40 k40 f40 g144_39 g145_39
    clear v40
    first
      | refine held_skip (i := 40) (d := some 147) rfl rfl (by kernel_rfl) (by kernel_rfl) (by kernel_rfl) (fun c a w h => hQ c _ a w (by rfl) h) hH ?_ ?_
        · exact wanted_no (g := 37) (s := 144) rfl rfl g144_40
        simp only [List.setIfInBounds_toArray, List.set_cons_zero, List.set_cons_succ]
      | refine held_take (i := 40) (v := ?_) (d := some 147) rfl rfl (by kernel_rfl) (by kernel_rfl) (by kernel_rfl) (fun c a w h => hQ c _ a w (by rfl) h) hH ⟨?_, fun w hSw => ?_⟩ ?_
        rotate_left 1
        · exact wanted_yes (g := 37) (s := 144) rfl rfl g144_40
        · have e146 := eval_of g146_40
          have ec : ∀ u, Act.eval b40 (.const u) = u := fun _ => rfl
          have ef : ∀ u, Act.eval b40 (.func u) = .func (.func u) #[] #[] := fun _ => rfl
          generalize Act.eval b40 = ρ at ec ef e146 ⊢
          (go_simp; all_goals with_reducible rfl)
        simp only [List.setIfInBounds_toArray, List.set_cons_zero, List.set_cons_succ]
    refine act_next (G := fun x => wpAnyH _ _ _ _ _ _ _ x _) _ 147 _ (by rw [hs40]; decide) (fun b41 s41 v41 k41 f41 => ?_)
    have hs41 := s41.trans hs40
    have hf41 := f41.trans hf40
    have hO41 : ∀ j, (j < 107 ∨ 176 ≤ j) → b41.tmps[j]? = a0.tmps[j]? := fun j hj => (k41 j (by omega)).trans (hO40 j hj)
    have g144_41 := (k41 144 (by decide)).trans g144_40
    have g147_41 := v41
    clear hs40 hf40 hO40 s41 k41 f41 g144_40 g146_40
    clear v41
    first
      | refine held_skip (i := 41) (d := some 148) rfl rfl (by kernel_rfl) (by kernel_rfl) (by kernel_rfl) (fun c a w h => hQ c _ a w (by rfl) h) hH ?_ ?_
        · exact wanted_no (g := 37) (s := 144) rfl rfl g144_41
        simp only [List.setIfInBounds_toArray, List.set_cons_zero, List.set_cons_succ]
      | refine held_take (i := 41) (v := ?_) (d := some 148) rfl rfl (by kernel_rfl) (by kernel_rfl) (by kernel_rfl) (fun c a w h => hQ c _ a w (by rfl) h) hH ⟨?_, fun w hSw => ?_⟩ ?_
        rotate_left 1
        · exact wanted_yes (g := 37) (s := 144) rfl rfl g144_41
        · have e147 := eval_of g147_41
          obtain ⟨⟨y5, y6⟩, y7, y8, y9⟩ := hSw
          have ec : ∀ u, Act.eval b41 (.const u) = u := fun _ => rfl
          have ef : ∀ u, Act.eval b41 (.func u) = .func (.func u) #[] #[] := fun _ => rfl
          generalize Act.eval b41 = ρ at ec ef e147 ⊢
          (go_simp; all_goals with_reducible rfl)
        simp only [List.setIfInBounds_toArray, List.set_cons_zero, List.set_cons_succ]
    refine act_next (G := fun x => wpAnyH _ _ _ _ _ _ _ x _) _ 148 _ (by rw [hs41]; decide) (fun b42 s42 v42 k42 f42 => ?_)
    have hs42 := s42.trans hs41
    have hf42 := f42.trans hf41
    have hO42 : ∀ j, (j < 107 ∨ 176 ≤ j) → b42.tmps[j]? = a0.tmps[j]? := fun j hj => (k42 j (by omega)).trans (hO41 j hj)
    have g144_42 := (k42 144 (by decide)).trans g144_41
    have g148_42 := v42
    clear hs41 hf41 hO41 s42 k42 f42 g144_41 g147_41
    clear v42
    first
      | refine held_skip (i := 42) (d := some 149) rfl rfl (by kernel_rfl) (by kernel_rfl) (by kernel_rfl) (fun c a w h => hQ c _ a w (by rfl) h) hH ?_ ?_
        · exact wanted_no (g := 37) (s := 144) rfl rfl g144_42
        simp only [List.setIfInBounds_toArray, List.set_cons_zero, List.set_cons_succ]
      | refine held_take (i := 42) (v := ?_) (d := some 149) rfl rfl (by kernel_rfl) (by kernel_rfl) (by kernel_rfl) (fun c a w h => hQ c _ a w (by rfl) h) hH ⟨?_, fun w hSw => ?_⟩ ?_
        rotate_left 1
        · exact wanted_yes (g := 37) (s := 144) rfl rfl g144_42
        · have e148 := eval_of g148_42
          have ec : ∀ u, Act.eval b42 (.const u) = u := fun _ => rfl
          have ef : ∀ u, Act.eval b42 (.func u) = .func (.func u) #[] #[] := fun _ => rfl
          generalize Act.eval b42 = ρ at ec ef e148 ⊢
          (go_simp; all_goals with_reducible rfl)
        simp only [List.setIfInBounds_toArray, List.set_cons_zero, List.set_cons_succ]
    refine act_next (G := fun x => wpAnyH _ _ _ _ _ _ _ x _) _ 149 _ (by rw [hs42]; decide) (fun b43 s43 v43 k43 f43 => ?_)
    have hs43 := s43.trans hs42
    have hf43 := f43.trans hf42
    have hO43 : ∀ j, (j < 107 ∨ 176 ≤ j) → b43.tmps[j]? = a0.tmps[j]? := fun j hj => (k43 j (by omega)).trans (hO42 j hj)
    have g144_43 := (k43 144 (by decide)).trans g144_42
    have g149_43 := v43
    clear hs42 hf42 hO42 s43 k43 f43 g144_42 g148_42
    clear v43
    refine held_take (i := 43) (v := ?_) (d := some 150) rfl rfl (by kernel_rfl) (by kernel_rfl) (by kernel_rfl) (fun c a w h => hQ c _ a w (by rfl) h) hH ⟨?_, fun w hSw => ?_⟩ ?_
    rotate_left 1
    · rfl
    · have e144 := eval_of g144_43
      have e149 := eval_of g149_43
      have ec : ∀ u, Act.eval b43 (.const u) = u := fun _ => rfl
      have ef : ∀ u, Act.eval b43 (.func u) = .func (.func u) #[] #[] := fun _ => rfl
      generalize Act.eval b43 = ρ at ec ef e144 e149 ⊢
      (go_simp; all_goals with_reducible rfl)
    simp only [List.setIfInBounds_toArray, List.set_cons_zero, List.set_cons_succ]
    refine act_next (G := fun x => wpAnyH _ _ _ _ _ _ _ x _) _ 150 _ (by rw [hs43]; decide) (fun b44 s44 v44 k44 f44 => ?_)
    have hs44 := s44.trans hs43
    have hf44 := f44.trans hf43
    have hO44 : ∀ j, (j < 107 ∨ 176 ≤ j) → b44.tmps[j]? = a0.tmps[j]? := fun j hj => (k44 j (by omega)).trans (hO43 j hj)
    have g150_44 := v44
    clear hs43 hf43 hO43 s44 k44 f44 g144_43 g149_43
    clear v44
    refine held_take (i := 44) (v := ?_) (d := some 151) rfl rfl (by kernel_rfl) (by kernel_rfl) (by kernel_rfl) (fun c a w h => hQ c _ a w (by rfl) h) hH ⟨?_, fun w hSw => ?_⟩ ?_
    rotate_left 1
    · rfl
    · have e150 := eval_of g150_44
      have ec : ∀ u, Act.eval b44 (.const u) = u := fun _ => rfl
      have ef : ∀ u, Act.eval b44 (.func u) = .func (.func u) #[] #[] := fun _ => rfl
      generalize Act.eval b44 = ρ at ec ef e150 ⊢
      (go_simp; all_goals with_reducible rfl)
    simp only [List.setIfInBounds_toArray, List.set_cons_zero, List.set_cons_succ]
    refine act_next (G := fun x => wpAnyH _ _ _ _ _ _ _ x _) _ 151 _ (by rw [hs44]; decide) (fun b45 s45 v45 k45 f45 => ?_)
    have hs45 := s45.trans hs44
    have hf45 := f45.trans hf44
    have hO45 : ∀ j, (j < 107 ∨ 176 ≤ j) → b45.tmps[j]? = a0.tmps[j]? := fun j hj => (k45 j (by omega)).trans (hO44 j hj)
    have g151_45 := v45
    clear hs44 hf44 hO44 s45 k45 f45 g150_44
    clear v45
    first
      | refine held_skip (i := 45) (d := some 152) rfl rfl (by kernel_rfl) (by kernel_rfl) (by kernel_rfl) (fun c a w h => hQ c _ a w (by rfl) h) hH ?_ ?_
        · exact wanted_no (g := 44) (s := 151) rfl rfl g151_45
        simp only [List.setIfInBounds_toArray, List.set_cons_zero, List.set_cons_succ]
      | refine held_take (i := 45) (v := ?_) (d := some 152) rfl rfl (by kernel_rfl) (by kernel_rfl) (by kernel_rfl) (fun c a w h => hQ c _ a w (by rfl) h) hH ⟨?_, fun w hSw => ?_⟩ ?_
        rotate_left 1
        · exact wanted_yes (g := 44) (s := 151) rfl rfl g151_45
        · have e11 := eval_of ((hO45 11 (by decide)).trans c11)
          have ec : ∀ u, Act.eval b45 (.const u) = u := fun _ => rfl
          have ef : ∀ u, Act.eval b45 (.func u) = .func (.func u) #[] #[] := fun _ => rfl
          generalize Act.eval b45 = ρ at ec ef e11 ⊢
          (go_simp; all_goals with_reducible rfl)
        simp only [List.setIfInBounds_toArray, List.set_cons_zero, List.set_cons_succ]
    refine act_next (G := fun x => wpAnyH _ _ _ _ _ _ _ x _) _ 152 _ (by rw [hs45]; decide) (fun b46 s46 v46 k46 f46 => ?_)
    have hs46 := s46.trans hs45
    have hf46 := f46.trans hf45
    have hO46 : ∀ j, (j < 107 ∨ 176 ≤ j) → b46.tmps[j]? = a0.tmps[j]? := fun j hj => (k46 j (by omega)).trans (hO45 j hj)
    have g151_46 := (k46 151 (by decide)).trans g151_45
    have g152_46 := v46
    clear hs45 hf45 hO45 s46 k46 f46 g151_45
    clear v46
    first
      | refine held_skip (i := 46) (d := some 153) rfl rfl (by kernel_rfl) (by kernel_rfl) (by kernel_rfl) (fun c a w h => hQ c _ a w (by rfl) h) hH ?_ ?_
        · exact wanted_no (g := 44) (s := 151) rfl rfl g151_46
        simp only [List.setIfInBounds_toArray, List.set_cons_zero, List.set_cons_succ]
      | refine held_take (i := 46) (v := ?_) (d := some 153) rfl rfl (by kernel_rfl) (by kernel_rfl) (by kernel_rfl) (fun c a w h => hQ c _ a w (by rfl) h) hH ⟨?_, fun w hSw => ?_⟩ ?_
        rotate_left 1
        · exact wanted_yes (g := 44) (s := 151) rfl rfl g151_46
        · have e16 := eval_of ((hO46 16 (by decide)).trans c16)
          have ec : ∀ u, Act.eval b46 (.const u) = u := fun _ => rfl
          have ef : ∀ u, Act.eval b46 (.func u) = .func (.func u) #[] #[] := fun _ => rfl
          generalize Act.eval b46 = ρ at ec ef e16 ⊢
          (go_simp; all_goals with_reducible rfl)
        simp only [List.setIfInBounds_toArray, List.set_cons_zero, List.set_cons_succ]
    refine act_next (G := fun x => wpAnyH _ _ _ _ _ _ _ x _) _ 153 _ (by rw [hs46]; decide) (fun b47 s47 v47 k47 f47 => ?_)
    have hs47 := s47.trans hs46
    have hf47 := f47.trans hf46
    have hO47 : ∀ j, (j < 107 ∨ 176 ≤ j) → b47.tmps[j]? = a0.tmps[j]? := fun j hj => (k47 j (by omega)).trans (hO46 j hj)
    have g151_47 := (k47 151 (by decide)).trans g151_46
    have g152_47 := (k47 152 (by decide)).trans g152_46
    have g153_47 := v47
    clear hs46 hf46 hO46 s47 k47 f47 g151_46 g152_46
    clear v47
    first
      | refine held_skip (i := 47) (d := some 154) rfl rfl (by kernel_rfl) (by kernel_rfl) (by kernel_rfl) (fun c a w h => hQ c _ a w (by rfl) h) hH ?_ ?_
        · exact wanted_no (g := 44) (s := 151) rfl rfl g151_47
        simp only [List.setIfInBounds_toArray, List.set_cons_zero, List.set_cons_succ]
      | refine held_take (i := 47) (v := ?_) (d := some 154) rfl rfl (by kernel_rfl) (by kernel_rfl) (by kernel_rfl) (fun c a w h => hQ c _ a w (by rfl) h) hH ⟨?_, fun w hSw => ?_⟩ ?_
        rotate_left 1
        · exact wanted_yes (g := 44) (s := 151) rfl rfl g151_47
        · have e153 := eval_of g153_47
          obtain ⟨⟨y5, y6⟩, y7, y8, y9⟩ := hSw
          have ec : ∀ u, Act.eval b47 (.const u) = u := fun _ => rfl
          have ef : ∀ u, Act.eval b47 (.func u) = .func (.func u) #[] #[] := fun _ => rfl
          generalize Act.eval b47 = ρ at ec ef e153 ⊢
          (go_simp; all_goals with_reducible rfl)
        simp only [List.setIfInBounds_toArray, List.set_cons_zero, List.set_cons_succ]
    refine act_next (G := fun x => wpAnyH _ _ _ _ _ _ _ x _) _ 154 _ (by rw [hs47]; decide) (fun b48 s48 v48 k48 f48 => ?_)
    have hs48 := s48.trans hs47
    have hf48 := f48.trans hf47
    have hO48 : ∀ j, (j < 107 ∨ 176 ≤ j) → b48.tmps[j]? = a0.tmps[j]? := fun j hj => (k48 j (by omega)).trans (hO47 j hj)
    have g151_48 := (k48 151 (by decide)).trans g151_47
    have g152_48 := (k48 152 (by decide)).trans g152_47
    have g154_48 := v48
    clear hs47 hf47 hO47 s48 k48 f48 g151_47 g152_47 g153_47
    clear v48
    first
      | refine held_skip (i := 48) (d := some 155) rfl rfl (by kernel_rfl) (by kernel_rfl) (by kernel_rfl) (fun c a w h => hQ c _ a w (by rfl) h) hH ?_ ?_
        · exact wanted_no (g := 44) (s := 151) rfl rfl g151_48
        simp only [List.setIfInBounds_toArray, List.set_cons_zero, List.set_cons_succ]
      | refine held_take (i := 48) (v := ?_) (d := some 155) rfl rfl (by kernel_rfl) (by kernel_rfl) (by kernel_rfl) (fun c a w h => hQ c _ a w (by rfl) h) hH ⟨?_, fun w hSw => ?_⟩ ?_
        rotate_left 1
        · exact wanted_yes (g := 44) (s := 151) rfl rfl g151_48
        · have e16 := eval_of ((hO48 16 (by decide)).trans c16)
          have ec : ∀ u, Act.eval b48 (.const u) = u := fun _ => rfl
          have ef : ∀ u, Act.eval b48 (.func u) = .func (.func u) #[] #[] := fun _ => rfl
          generalize Act.eval b48 = ρ at ec ef e16 ⊢
          (go_simp; all_goals with_reducible rfl)
        simp only [List.setIfInBounds_toArray, List.set_cons_zero, List.set_cons_succ]
    refine act_next (G := fun x => wpAnyH _ _ _ _ _ _ _ x _) _ 155 _ (by rw [hs48]; decide) (fun b49 s49 v49 k49 f49 => ?_)
    have hs49 := s49.trans hs48
    have hf49 := f49.trans hf48
    have hO49 : ∀ j, (j < 107 ∨ 176 ≤ j) → b49.tmps[j]? = a0.tmps[j]? := fun j hj => (k49 j (by omega)).trans (hO48 j hj)
    have g151_49 := (k49 151 (by decide)).trans g151_48
    have g152_49 := (k49 152 (by decide)).trans g152_48
    have g154_49 := (k49 154 (by decide)).trans g154_48
    have g155_49 := v49
    clear hs48 hf48 hO48 s49 k49 f49 g151_48 g152_48 g154_48
    clear v49
    first
      | refine held_skip (i := 49) (d := some 156) rfl rfl (by kernel_rfl) (by kernel_rfl) (by kernel_rfl) (fun c a w h => hQ c _ a w (by rfl) h) hH ?_ ?_
        · exact wanted_no (g := 44) (s := 151) rfl rfl g151_49
        simp only [List.setIfInBounds_toArray, List.set_cons_zero, List.set_cons_succ]
      | refine held_take (i := 49) (v := ?_) (d := some 156) rfl rfl (by kernel_rfl) (by kernel_rfl) (by kernel_rfl) (fun c a w h => hQ c _ a w (by rfl) h) hH ⟨?_, fun w hSw => ?_⟩ ?_
        rotate_left 1
        · exact wanted_yes (g := 44) (s := 151) rfl rfl g151_49
        · have e155 := eval_of g155_49
          obtain ⟨⟨y5, y6⟩, y7, y8, y9⟩ := hSw
          have ec : ∀ u, Act.eval b49 (.const u) = u := fun _ => rfl
          have ef : ∀ u, Act.eval b49 (.func u) = .func (.func u) #[] #[] := fun _ => rfl
          generalize Act.eval b49 = ρ at ec ef e155 ⊢
          (go_simp; all_goals with_reducible rfl)
        simp only [List.setIfInBounds_toArray, List.set_cons_zero, List.set_cons_succ]
    refine act_next (G := fun x => wpAnyH _ _ _ _ _ _ _ x _) _ 156 _ (by rw [hs49]; decide) (fun b50 s50 v50 k50 f50 => ?_)
    have hs50 := s50.trans hs49
    have hf50 := f50.trans hf49
    have hO50 : ∀ j, (j < 107 ∨ 176 ≤ j) → b50.tmps[j]? = a0.tmps[j]? := fun j hj => (k50 j (by omega)).trans (hO49 j hj)
    have g151_50 := (k50 151 (by decide)).trans g151_49
    have g152_50 := (k50 152 (by decide)).trans g152_49
    have g154_50 := (k50 154 (by decide)).trans g154_49
    have g156_50 := v50
    clear hs49 hf49 hO49 s50 k50 f50 g151_49 g152_49 g154_49 g155_49
    clear v50
    first
      | refine held_skip (i := 51) (d := some 158) rfl rfl (by kernel_rfl) (by kernel_rfl) (by kernel_rfl) (fun c a w h => hQ c _ a w (by rfl) h) hH ?_ ?_
        · exact wanted_no (g := 44) (s := 151) rfl rfl g151_50
        simp only [List.setIfInBounds_toArray, List.set_cons_zero, List.set_cons_succ]
      | refine held_take (i := 51) (v := ?_) (d := some 158) rfl rfl (by kernel_rfl) (by kernel_rfl) (by kernel_rfl) (fun c a w h => hQ c _ a w (by rfl) h) hH ⟨?_, fun w hSw => ?_⟩ ?_
        rotate_left 1
        · exact wanted_yes (g := 44) (s := 151) rfl rfl g151_50
        · have e13 := eval_of ((hO50 13 (by decide)).trans c13)
          have ec : ∀ u, Act.eval b50 (.const u) = u := fun _ => rfl
          have ef : ∀ u, Act.eval b50 (.func u) = .func (.func u) #[] #[] := fun _ => rfl
          generalize Act.eval b50 = ρ at ec ef e13 ⊢
          (go_simp; all_goals with_reducible rfl)
        simp only [List.setIfInBounds_toArray, List.set_cons_zero, List.set_cons_succ]
    refine act_next (G := fun x => wpAnyH _ _ _ _ _ _ _ x _) _ 158 _ (by rw [hs50]; decide) (fun b51 s51 v51 k51 f51 => ?_)
    have hs51 := s51.trans hs50
    have hf51 := f51.trans hf50
    have hO51 : ∀ j, (j < 107 ∨ 176 ≤ j) → b51.tmps[j]? = a0.tmps[j]? := fun j hj => (k51 j (by omega)).trans (hO50 j hj)
    have g151_51 := (k51 151 (by decide)).trans g151_50
    have g152_51 := (k51 152 (by decide)).trans g152_50
    have g154_51 := (k51 154 (by decide)).trans g154_50
    have g156_51 := (k51 156 (by decide)).trans g156_50
    have g158_51 := v51
    clear hs50 hf50 hO50 s51 k51 f51 g151_50 g152_50 g154_50 g156_50
    clear v51
    first
      | refine held_skip (i := 52) (d := some 159) rfl rfl (by kernel_rfl) (by kernel_rfl) (by kernel_rfl) (fun c a w h => hQ c _ a w (by rfl) h) hH ?_ ?_
        · exact wanted_no (g := 44) (s := 151) rfl rfl g151_51
        simp only [List.setIfInBounds_toArray, List.set_cons_zero, List.set_cons_succ]
      | refine held_take (i := 52) (v := ?_) (d := some 159) rfl rfl (by kernel_rfl) (by kernel_rfl) (by kernel_rfl) (fun c a w h => hQ c _ a w (by rfl) h) hH ⟨?_, fun w hSw => ?_⟩ ?_
        rotate_left 1
        · exact wanted_yes (g := 44) (s := 151) rfl rfl g151_51
        · have e158 := eval_of g158_51
          have ec : ∀ u, Act.eval b51 (.const u) = u := fun _ => rfl
          have ef : ∀ u, Act.eval b51 (.func u) = .func (.func u) #[] #[] := fun _ => rfl
          generalize Act.eval b51 = ρ at ec ef e158 ⊢
          (go_simp; all_goals with_reducible rfl)
        simp only [List.setIfInBounds_toArray, List.set_cons_zero, List.set_cons_succ]
    refine act_next (G := fun x => wpAnyH _ _ _ _ _ _ _ x _) _ 159 _ (by rw [hs51]; decide) (fun b52 s52 v52 k52 f52 => ?_)
    have hs52 := s52.trans hs51
    have hf52 := f52.trans hf51
    have hO52 : ∀ j, (j < 107 ∨ 176 ≤ j) → b52.tmps[j]? = a0.tmps[j]? := fun j hj => (k52 j (by omega)).trans (hO51 j hj)
    have g151_52 := (k52 151 (by decide)).trans g151_51
    have g152_52 := (k52 152 (by decide)).trans g152_51
    have g154_52 := (k52 154 (by decide)).trans g154_51
    have g156_52 := (k52 156 (by decide)).trans g156_51
    have g159_52 := v52
    clear hs51 hf51 hO51 s52 k52 f52 g151_51 g152_51 g154_51 g156_51 g158_51
    clear v52
    first
      | refine held_skip (i := 53) (d := some 160) rfl rfl (by kernel_rfl) (by kernel_rfl) (by kernel_rfl) (fun c a w h => hQ c _ a w (by rfl) h) hH ?_ ?_
        · exact wanted_no (g := 44) (s := 151) rfl rfl g151_52
        simp only [List.setIfInBounds_toArray, List.set_cons_zero, List.set_cons_succ]
      | refine held_take (i := 53) (v := ?_) (d := some 160) rfl rfl (by kernel_rfl) (by kernel_rfl) (by kernel_rfl) (fun c a w h => hQ c _ a w (by rfl) h) hH ⟨?_, fun w hSw => ?_⟩ ?_
        rotate_left 1
        · exact wanted_yes (g := 44) (s := 151) rfl rfl g151_52
        · have e159 := eval_of g159_52
          have ec : ∀ u, Act.eval b52 (.const u) = u := fun _ => rfl
          have ef : ∀ u, Act.eval b52 (.func u) = .func (.func u) #[] #[] := fun _ => rfl
          generalize Act.eval b52 = ρ at ec ef e159 ⊢
          (go_simp; all_goals with_reducible rfl)
        simp only [List.setIfInBounds_toArray, List.set_cons_zero, List.set_cons_succ]
    refine act_next (G := fun x => wpAnyH _ _ _ _ _ _ _ x _) _ 160 _ (by rw [hs52]; decide) (fun b53 s53 v53 k53 f53 => ?_)
    have hs53 := s53.trans hs52
    have hf53 := f53.trans hf52
    have hO53 : ∀ j, (j < 107 ∨ 176 ≤ j) → b53.tmps[j]? = a0.tmps[j]? := fun j hj => (k53 j (by omega)).trans (hO52 j hj)
    have g151_53 := (k53 151 (by decide)).trans g151_52
    have g152_53 := (k53 152 (by decide)).trans g152_52
    have g154_53 := (k53 154 (by decide)).trans g154_52
    have g156_53 := (k53 156 (by decide)).trans g156_52
    have g160_53 := v53
    clear hs52 hf52 hO52 s53 k53 f53 g151_52 g152_52 g154_52 g156_52 g159_52
    clear v53
    first
      | refine held_skip (i := 54) (d := some 161) rfl rfl (by kernel_rfl) (by kernel_rfl) (by kernel_rfl) (fun c a w h => hQ c _ a w (by rfl) h) hH ?_ ?_
        · exact wanted_no (g := 44) (s := 151) rfl rfl g151_53
        simp only [List.setIfInBounds_toArray, List.set_cons_zero, List.set_cons_succ]
      | refine held_take (i := 54) (v := ?_) (d := some 161) rfl rfl (by kernel_rfl) (by kernel_rfl) (by kernel_rfl) (fun c a w h => hQ c _ a w (by rfl) h) hH ⟨?_, fun w hSw => ?_⟩ ?_
        rotate_left 1
        · exact wanted_yes (g := 44) (s := 151) rfl rfl g151_53
        · have e160 := eval_of g160_53
          obtain ⟨⟨y5, y6⟩, y7, y8, y9⟩ := hSw
          have ec : ∀ u, Act.eval b53 (.const u) = u := fun _ => rfl
          have ef : ∀ u, Act.eval b53 (.func u) = .func (.func u) #[] #[] := fun _ => rfl
          generalize Act.eval b53 = ρ at ec ef e160 ⊢
          (go_simp; all_goals with_reducible rfl)
        simp only [List.setIfInBounds_toArray, List.set_cons_zero, List.set_cons_succ]
    refine act_next (G := fun x => wpAnyH _ _ _ _ _ _ _ x _) _ 161 _ (by rw [hs53]; decide) (fun b54 s54 v54 k54 f54 => ?_)
    have hs54 := s54.trans hs53
    have hf54 := f54.trans hf53
    have hO54 : ∀ j, (j < 107 ∨ 176 ≤ j) → b54.tmps[j]? = a0.tmps[j]? := fun j hj => (k54 j (by omega)).trans (hO53 j hj)
    have g151_54 := (k54 151 (by decide)).trans g151_53
    have g152_54 := (k54 152 (by decide)).trans g152_53
    have g154_54 := (k54 154 (by decide)).trans g154_53
    have g156_54 := (k54 156 (by decide)).trans g156_53
    have g161_54 := v54
    clear hs53 hf53 hO53 s54 k54 f54 g151_53 g152_53 g154_53 g156_53 g160_53
    clear v54
    first
      | refine held_skip (i := 55) (d := some 162) rfl rfl (by kernel_rfl) (by kernel_rfl) (by kernel_rfl) (fun c a w h => hQ c _ a w (by rfl) h) hH ?_ ?_
        · exact wanted_no (g := 44) (s := 151) rfl rfl g151_54
        simp only [List.setIfInBounds_toArray, List.set_cons_zero, List.set_cons_succ]
      | refine held_take (i := 55) (v := ?_) (d := some 162) rfl rfl (by kernel_rfl) (by kernel_rfl) (by kernel_rfl) (fun c a w h => hQ c _ a w (by rfl) h) hH ⟨?_, fun w hSw => ?_⟩ ?_
        rotate_left 1
        · exact wanted_yes (g := 44) (s := 151) rfl rfl g151_54
        · have e161 := eval_of g161_54
          have ec : ∀ u, Act.eval b54 (.const u) = u := fun _ => rfl
          have ef : ∀ u, Act.eval b54 (.func u) = .func (.func u) #[] #[] := fun _ => rfl
          generalize Act.eval b54 = ρ at ec ef e161 ⊢
          (go_simp; all_goals with_reducible rfl)
        simp only [List.setIfInBounds_toArray, List.set_cons_zero, List.set_cons_succ]
    refine act_next (G := fun x => wpAnyH _ _ _ _ _ _ _ x _) _ 162 _ (by rw [hs54]; decide) (fun b55 s55 v55 k55 f55 => ?_)
    have hs55 := s55.trans hs54
    have hf55 := f55.trans hf54
    have hO55 : ∀ j, (j < 107 ∨ 176 ≤ j) → b55.tmps[j]? = a0.tmps[j]? := fun j hj => (k55 j (by omega)).trans (hO54 j hj)
    have g151_55 := (k55 151 (by decide)).trans g151_54
    have g152_55 := (k55 152 (by decide)).trans g152_54
    have g154_55 := (k55 154 (by decide)).trans g154_54
    have g156_55 := (k55 156 (by decide)).trans g156_54
    have g162_55 := v55
    clear hs54 hf54 hO54 s55 k55 f55 g151_54 g152_54 g154_54 g156_54 g161_54
    clear v55
    first
      | refine held_skip (i := 56) (d := some 163) rfl rfl (by kernel_rfl) (by kernel_rfl) (by kernel_rfl) (fun c a w h => hQ c _ a w (by rfl) h) hH ?_ ?_
        · exact wanted_no (g := 44) (s := 151) rfl rfl g151_55
        simp only [List.setIfInBounds_toArray, List.set_cons_zero, List.set_cons_succ]
      | refine held_take (i := 56) (v := ?_) (d := some 163) rfl rfl (by kernel_rfl) (by kernel_rfl) (by kernel_rfl) (fun c a w h => hQ c _ a w (by rfl) h) hH ⟨?_, fun w hSw => ?_⟩ ?_
        rotate_left 1
        · exact wanted_yes (g := 44) (s := 151) rfl rfl g151_55
        · have e162 := eval_of g162_55
          have ec : ∀ u, Act.eval b55 (.const u) = u := fun _ => rfl
          have ef : ∀ u, Act.eval b55 (.func u) = .func (.func u) #[] #[] := fun _ => rfl
          generalize Act.eval b55 = ρ at ec ef e162 ⊢
          (go_simp; all_goals with_reducible rfl)
        simp only [List.setIfInBounds_toArray, List.set_cons_zero, List.set_cons_succ]
    refine act_next (G := fun x => wpAnyH _ _ _ _ _ _ _ x _) _ 163 _ (by rw [hs55]; decide) (fun b56 s56 v56 k56 f56 => ?_)
    have hs56 := s56.trans hs55
    have hf56 := f56.trans hf55
    have hO56 : ∀ j, (j < 107 ∨ 176 ≤ j) → b56.tmps[j]? = a0.tmps[j]? := fun j hj => (k56 j (by omega)).trans (hO55 j hj)
    have g151_56 := (k56 151 (by decide)).trans g151_55
    have g152_56 := (k56 152 (by decide)).trans g152_55
    have g154_56 := (k56 154 (by decide)).trans g154_55
    have g156_56 := (k56 156 (by decide)).trans g156_55
    have g163_56 := v56
    clear hs55 hf55 hO55 s56 k56 f56 g151_55 g152_55 g154_55 g156_55 g162_55
    clear v56
    first
      | refine held_skip (i := 57) (d := some 164) rfl rfl (by kernel_rfl) (by kernel_rfl) (by kernel_rfl) (fun c a w h => hQ c _ a w (by rfl) h) hH ?_ ?_
        · exact wanted_no (g := 44) (s := 151) rfl rfl g151_56
        simp only [List.setIfInBounds_toArray, List.set_cons_zero, List.set_cons_succ]
      | refine held_take (i := 57) (v := ?_) (d := some 164) rfl rfl (by kernel_rfl) (by kernel_rfl) (by kernel_rfl) (fun c a w h => hQ c _ a w (by rfl) h) hH ⟨?_, fun w hSw => ?_⟩ ?_
        rotate_left 1
        · exact wanted_yes (g := 44) (s := 151) rfl rfl g151_56
        · have e163 := eval_of g163_56
          obtain ⟨⟨y5, y6⟩, y7, y8, y9⟩ := hSw
          have ec : ∀ u, Act.eval b56 (.const u) = u := fun _ => rfl
          have ef : ∀ u, Act.eval b56 (.func u) = .func (.func u) #[] #[] := fun _ => rfl
          generalize Act.eval b56 = ρ at ec ef e163 ⊢
          (go_simp; all_goals with_reducible rfl)
        simp only [List.setIfInBounds_toArray, List.set_cons_zero, List.set_cons_succ]
    refine act_next (G := fun x => wpAnyH _ _ _ _ _ _ _ x _) _ 164 _ (by rw [hs56]; decide) (fun b57 s57 v57 k57 f57 => ?_)
    have hs57 := s57.trans hs56
    have hf57 := f57.trans hf56
    have hO57 : ∀ j, (j < 107 ∨ 176 ≤ j) → b57.tmps[j]? = a0.tmps[j]? := fun j hj => (k57 j (by omega)).trans (hO56 j hj)
    have g151_57 := (k57 151 (by decide)).trans g151_56
    have g152_57 := (k57 152 (by decide)).trans g152_56
    have g154_57 := (k57 154 (by decide)).trans g154_56
    have g156_57 := (k57 156 (by decide)).trans g156_56
    have g164_57 := v57
    clear hs56 hf56 hO56 s57 k57 f57 g151_56 g152_56 g154_56 g156_56 g163_56
    clear v57
    first
      | refine held_skip (i := 58) (d := some 165) rfl rfl (by kernel_rfl) (by kernel_rfl) (by kernel_rfl) (fun c a w h => hQ c _ a w (by rfl) h) hH ?_ ?_
        · exact wanted_no (g := 44) (s := 151) rfl rfl g151_57
        simp only [List.setIfInBounds_toArray, List.set_cons_zero, List.set_cons_succ]
      | refine held_take (i := 58) (v := ?_) (d := some 165) rfl rfl (by kernel_rfl) (by kernel_rfl) (by kernel_rfl) (fun c a w h => hQ c _ a w (by rfl) h) hH ⟨?_, fun w hSw => ?_⟩ ?_
        rotate_left 1
        · exact wanted_yes (g := 44) (s := 151) rfl rfl g151_57
        · have e16 := eval_of ((hO57 16 (by decide)).trans c16)
          have ec : ∀ u, Act.eval b57 (.const u) = u := fun _ => rfl
          have ef : ∀ u, Act.eval b57 (.func u) = .func (.func u) #[] #[] := fun _ => rfl
          generalize Act.eval b57 = ρ at ec ef e16 ⊢
          (go_simp; all_goals with_reducible rfl)
        simp only [List.setIfInBounds_toArray, List.set_cons_zero, List.set_cons_succ]
    refine act_next (G := fun x => wpAnyH _ _ _ _ _ _ _ x _) _ 165 _ (by rw [hs57]; decide) (fun b58 s58 v58 k58 f58 => ?_)
    have hs58 := s58.trans hs57
    have hf58 := f58.trans hf57
    have hO58 : ∀ j, (j < 107 ∨ 176 ≤ j) → b58.tmps[j]? = a0.tmps[j]? := fun j hj => (k58 j (by omega)).trans (hO57 j hj)
    have g151_58 := (k58 151 (by decide)).trans g151_57
    have g152_58 := (k58 152 (by decide)).trans g152_57
    have g154_58 := (k58 154 (by decide)).trans g154_57
    have g156_58 := (k58 156 (by decide)).trans g156_57
    have g164_58 := (k58 164 (by decide)).trans g164_57
    have g165_58 := v58
    clear hs57 hf57 hO57 s58 k58 f58 g151_57 g152_57 g154_57 g156_57 g164_57
    clear v58
    first
      | refine held_skip (i := 59) (d := some 166) rfl rfl (by kernel_rfl) (by kernel_rfl) (by kernel_rfl) (fun c a w h => hQ c _ a w (by rfl) h) hH ?_ ?_
        · exact wanted_no (g := 44) (s := 151) rfl rfl g151_58
        simp only [List.setIfInBounds_toArray, List.set_cons_zero, List.set_cons_succ]
      | refine held_take (i := 59) (v := ?_) (d := some 166) rfl rfl (by kernel_rfl) (by kernel_rfl) (by kernel_rfl) (fun c a w h => hQ c _ a w (by rfl) h) hH ⟨?_, fun w hSw => ?_⟩ ?_
        rotate_left 1
        · exact wanted_yes (g := 44) (s := 151) rfl rfl g151_58
        · have e165 := eval_of g165_58
          obtain ⟨⟨y5, y6⟩, y7, y8, y9⟩ := hSw
          have ec : ∀ u, Act.eval b58 (.const u) = u := fun _ => rfl
          have ef : ∀ u, Act.eval b58 (.func u) = .func (.func u) #[] #[] := fun _ => rfl
          generalize Act.eval b58 = ρ at ec ef e165 ⊢
          (go_simp; all_goals with_reducible rfl)
        simp only [List.setIfInBounds_toArray, List.set_cons_zero, List.set_cons_succ]
    refine act_next (G := fun x => wpAnyH _ _ _ _ _ _ _ x _) _ 166 _ (by rw [hs58]; decide) (fun b59 s59 v59 k59 f59 => ?_)
    have hs59 := s59.trans hs58
    have hf59 := f59.trans hf58
    have hO59 : ∀ j, (j < 107 ∨ 176 ≤ j) → b59.tmps[j]? = a0.tmps[j]? := fun j hj => (k59 j (by omega)).trans (hO58 j hj)
    have g151_59 := (k59 151 (by decide)).trans g151_58
    have g152_59 := (k59 152 (by decide)).trans g152_58
    have g154_59 := (k59 154 (by decide)).trans g154_58
    have g156_59 := (k59 156 (by decide)).trans g156_58
    have g164_59 := (k59 164 (by decide)).trans g164_58
    have g166_59 := v59
    clear hs58 hf58 hO58 s59 k59 f59 g151_58 g152_58 g154_58 g156_58 g164_58 g165_58
    clear v59
    first
      | refine held_skip (i := 60) (d := some 167) rfl rfl (by kernel_rfl) (by kernel_rfl) (by kernel_rfl) (fun c a w h => hQ c _ a w (by rfl) h) hH ?_ ?_
        · exact wanted_no (g := 44) (s := 151) rfl rfl g151_59
        simp only [List.setIfInBounds_toArray, List.set_cons_zero, List.set_cons_succ]
      | refine held_take (i := 60) (v := ?_) (d := some 167) rfl rfl (by kernel_rfl) (by kernel_rfl) (by kernel_rfl) (fun c a w h => hQ c _ a w (by rfl) h) hH ⟨?_, fun w hSw => ?_⟩ ?_
        rotate_left 1
        · exact wanted_yes (g := 44) (s := 151) rfl rfl g151_59
        · have e16 := eval_of ((hO59 16 (by decide)).trans c16)
          have ec : ∀ u, Act.eval b59 (.const u) = u := fun _ => rfl
          have ef : ∀ u, Act.eval b59 (.func u) = .func (.func u) #[] #[] := fun _ => rfl
          generalize Act.eval b59 = ρ at ec ef e16 ⊢
          (go_simp; all_goals with_reducible rfl)
        simp only [List.setIfInBounds_toArray, List.set_cons_zero, List.set_cons_succ]
    refine act_next (G := fun x => wpAnyH _ _ _ _ _ _ _ x _) _ 167 _ (by rw [hs59]; decide) (fun b60 s60 v60 k60 f60 => ?_)
    have hs60 := s60.trans hs59
    have hf60 := f60.trans hf59
    have hO60 : ∀ j, (j < 107 ∨ 176 ≤ j) → b60.tmps[j]? = a0.tmps[j]? := fun j hj => (k60 j (by omega)).trans (hO59 j hj)
    have g151_60 := (k60 151 (by decide)).trans g151_59
    have g152_60 := (k60 152 (by decide)).trans g152_59
    have g154_60 := (k60 154 (by decide)).trans g154_59
    have g156_60 := (k60 156 (by decide)).trans g156_59
    have g164_60 := (k60 164 (by decide)).trans g164_59
    have g166_60 := (k60 166 (by decide)).trans g166_59
    have g167_60 := v60
    clear hs59 hf59 hO59 s60 k60 f60 g151_59 g152_59 g154_59 g156_59 g164_59 g166_59
    clear v60
    first
      | refine held_skip (i := 61) (d := some 168) rfl rfl (by kernel_rfl) (by kernel_rfl) (by kernel_rfl) (fun c a w h => hQ c _ a w (by rfl) h) hH ?_ ?_
        · exact wanted_no (g := 44) (s := 151) rfl rfl g151_60
        simp only [List.setIfInBounds_toArray, List.set_cons_zero, List.set_cons_succ]
      | refine held_take (i := 61) (v := ?_) (d := some 168) rfl rfl (by kernel_rfl) (by kernel_rfl) (by kernel_rfl) (fun c a w h => hQ c _ a w (by rfl) h) hH ⟨?_, fun w hSw => ?_⟩ ?_
        rotate_left 1
        · exact wanted_yes (g := 44) (s := 151) rfl rfl g151_60
        · have e167 := eval_of g167_60
          obtain ⟨⟨y5, y6⟩, y7, y8, y9⟩ := hSw
          have ec : ∀ u, Act.eval b60 (.const u) = u := fun _ => rfl
          have ef : ∀ u, Act.eval b60 (.func u) = .func (.func u) #[] #[] := fun _ => rfl
          generalize Act.eval b60 = ρ at ec ef e167 ⊢
          (go_simp; all_goals with_reducible rfl)
        simp only [List.setIfInBounds_toArray, List.set_cons_zero, List.set_cons_succ]
    refine act_next (G := fun x => wpAnyH _ _ _ _ _ _ _ x _) _ 168 _ (by rw [hs60]; decide) (fun b61 s61 v61 k61 f61 => ?_)
    have hs61 := s61.trans hs60
    have hf61 := f61.trans hf60
    have hO61 : ∀ j, (j < 107 ∨ 176 ≤ j) → b61.tmps[j]? = a0.tmps[j]? := fun j hj => (k61 j (by omega)).trans (hO60 j hj)
    have g151_61 := (k61 151 (by decide)).trans g151_60
    have g152_61 := (k61 152 (by decide)).trans g152_60
    have g154_61 := (k61 154 (by decide)).trans g154_60
    have g156_61 := (k61 156 (by decide)).trans g156_60
    have g164_61 := (k61 164 (by decide)).trans g164_60
    have g166_61 := (k61 166 (by decide)).trans g166_60
    have g168_61 := v61
    clear hs60 hf60 hO60 s61 k61 f61 g151_60 g152_60 g154_60 g156_60 g164_60 g166_60 g167_60
    clear v61
    first
      | refine held_skip (i := 62) (d := some 169) rfl rfl (by kernel_rfl) (by kernel_rfl) (by kernel_rfl) (fun c a w h => hQ c _ a w (by rfl) h) hH ?_ ?_
        · exact wanted_no (g := 44) (s := 151) rfl rfl g151_61
        simp only [List.setIfInBounds_toArray, List.set_cons_zero, List.set_cons_succ]
      | refine held_take (i := 62) (v := ?_) (d := some 169) rfl rfl (by kernel_rfl) (by kernel_rfl) (by kernel_rfl) (fun c a w h => hQ c _ a w (by rfl) h) hH ⟨?_, fun w hSw => ?_⟩ ?_
        rotate_left 1
        · exact wanted_yes (g := 44) (s := 151) rfl rfl g151_61
        · have e16 := eval_of ((hO61 16 (by decide)).trans c16)
          have ec : ∀ u, Act.eval b61 (.const u) = u := fun _ => rfl
          have ef : ∀ u, Act.eval b61 (.func u) = .func (.func u) #[] #[] := fun _ => rfl
          generalize Act.eval b61 = ρ at ec ef e16 ⊢
          (go_simp; all_goals with_reducible rfl)
        simp only [List.setIfInBounds_toArray, List.set_cons_zero, List.set_cons_succ]
    refine act_next (G := fun x => wpAnyH _ _ _ _ _ _ _ x _) _ 169 _ (by rw [hs61]; decide) (fun b62 s62 v62 k62 f62 => ?_)
    have hs62 := s62.trans hs61
    have hf62 := f62.trans hf61
    have hO62 : ∀ j, (j < 107 ∨ 176 ≤ j) → b62.tmps[j]? = a0.tmps[j]? := fun j hj => (k62 j (by omega)).trans (hO61 j hj)
    have g151_62 := (k62 151 (by decide)).trans g151_61
    have g152_62 := (k62 152 (by decide)).trans g152_61
    have g154_62 := (k62 154 (by decide)).trans g154_61
    have g156_62 := (k62 156 (by decide)).trans g156_61
    have g164_62 := (k62 164 (by decide)).trans g164_61
    have g166_62 := (k62 166 (by decide)).trans g166_61
    have g168_62 := (k62 168 (by decide)).trans g168_61
    have g169_62 := v62
    clear hs61 hf61 hO61 s62 k62 f62 g151_61 g152_61 g154_61 g156_61 g164_61 g166_61 g168_61
    clear v62
    first
      | refine held_skip (i := 63) (d := some 170) rfl rfl (by kernel_rfl) (by kernel_rfl) (by kernel_rfl) (fun c a w h => hQ c _ a w (by rfl) h) hH ?_ ?_
        · exact wanted_no (g := 44) (s := 151) rfl rfl g151_62
        simp only [List.setIfInBounds_toArray, List.set_cons_zero, List.set_cons_succ]
      | refine held_take (i := 63) (v := ?_) (d := some 170) rfl rfl (by kernel_rfl) (by kernel_rfl) (by kernel_rfl) (fun c a w h => hQ c _ a w (by rfl) h) hH ⟨?_, fun w hSw => ?_⟩ ?_
        rotate_left 1
        · exact wanted_yes (g := 44) (s := 151) rfl rfl g151_62
        · have e169 := eval_of g169_62
          obtain ⟨⟨y5, y6⟩, y7, y8, y9⟩ := hSw
          have ec : ∀ u, Act.eval b62 (.const u) = u := fun _ => rfl
          have ef : ∀ u, Act.eval b62 (.func u) = .func (.func u) #[] #[] := fun _ => rfl
          generalize Act.eval b62 = ρ at ec ef e169 ⊢
          (go_simp; all_goals with_reducible rfl)
        simp only [List.setIfInBounds_toArray, List.set_cons_zero, List.set_cons_succ]
    refine act_next (G := fun x => wpAnyH _ _ _ _ _ _ _ x _) _ 170 _ (by rw [hs62]; decide) (fun b63 s63 v63 k63 f63 => ?_)
    have hs63 := s63.trans hs62
    have hf63 := f63.trans hf62
    have hO63 : ∀ j, (j < 107 ∨ 176 ≤ j) → b63.tmps[j]? = a0.tmps[j]? := fun j hj => (k63 j (by omega)).trans (hO62 j hj)
    have g151_63 := (k63 151 (by decide)).trans g151_62
    have g152_63 := (k63 152 (by decide)).trans g152_62
    have g154_63 := (k63 154 (by decide)).trans g154_62
    have g156_63 := (k63 156 (by decide)).trans g156_62
    have g164_63 := (k63 164 (by decide)).trans g164_62
    have g166_63 := (k63 166 (by decide)).trans g166_62
    have g168_63 := (k63 168 (by decide)).trans g168_62
    have g170_63 := v63
    clear hs62 hf62 hO62 s63 k63 f63 g151_62 g152_62 g154_62 g156_62 g164_62 g166_62 g168_62 g169_62
    clear v63
    first
      | refine held_skip (i := 64) (d := some 171) rfl rfl (by kernel_rfl) (by kernel_rfl) (by kernel_rfl) (fun c a w h => hQ c _ a w (by rfl) h) hH ?_ ?_
        · exact wanted_no (g := 44) (s := 151) rfl rfl g151_63
        simp only [List.setIfInBounds_toArray, List.set_cons_zero, List.set_cons_succ]
      | refine held_take (i := 64) (v := ?_) (d := some 171) rfl rfl (by kernel_rfl) (by kernel_rfl) (by kernel_rfl) (fun c a w h => hQ c _ a w (by rfl) h) hH ⟨?_, fun w hSw => ?_⟩ ?_
        rotate_left 1
        · exact wanted_yes (g := 44) (s := 151) rfl rfl g151_63
        · have e168 := eval_of g168_63
          have e170 := eval_of g170_63
          have ec : ∀ u, Act.eval b63 (.const u) = u := fun _ => rfl
          have ef : ∀ u, Act.eval b63 (.func u) = .func (.func u) #[] #[] := fun _ => rfl
          generalize Act.eval b63 = ρ at ec ef e168 e170 ⊢
          (go_simp; all_goals with_reducible rfl)
        simp only [List.setIfInBounds_toArray, List.set_cons_zero, List.set_cons_succ]
    refine act_next (G := fun x => wpAnyH _ _ _ _ _ _ _ x _) _ 171 _ (by rw [hs63]; decide) (fun b64 s64 v64 k64 f64 => ?_)
    have hs64 := s64.trans hs63
    have hf64 := f64.trans hf63
    have hO64 : ∀ j, (j < 107 ∨ 176 ≤ j) → b64.tmps[j]? = a0.tmps[j]? := fun j hj => (k64 j (by omega)).trans (hO63 j hj)
    have g151_64 := (k64 151 (by decide)).trans g151_63
    have g152_64 := (k64 152 (by decide)).trans g152_63
    have g154_64 := (k64 154 (by decide)).trans g154_63
    have g156_64 := (k64 156 (by decide)).trans g156_63
    have g164_64 := (k64 164 (by decide)).trans g164_63
    have g166_64 := (k64 166 (by decide)).trans g166_63
    have g171_64 := v64
    clear hs63 hf63 hO63 s64 k64 f64 g151_63 g152_63 g154_63 g156_63 g164_63 g166_63 g168_63 g170_63
    clear v64
    first
      | refine held_skip (i := 65) (d := some 172) rfl rfl (by kernel_rfl) (by kernel_rfl) (by kernel_rfl) (fun c a w h => hQ c _ a w (by rfl) h) hH ?_ ?_
        · exact wanted_no (g := 44) (s := 151) rfl rfl g151_64
        simp only [List.setIfInBounds_toArray, List.set_cons_zero, List.set_cons_succ]
      | refine held_take (i := 65) (v := ?_) (d := some 172) rfl rfl (by kernel_rfl) (by kernel_rfl) (by kernel_rfl) (fun c a w h => hQ c _ a w (by rfl) h) hH ⟨?_, fun w hSw => ?_⟩ ?_
        rotate_left 1
        · exact wanted_yes (g := 44) (s := 151) rfl rfl g151_64
        · have e164 := eval_of g164_64
          have e166 := eval_of g166_64
          have e171 := eval_of g171_64
          have ec : ∀ u, Act.eval b64 (.const u) = u := fun _ => rfl
          have ef : ∀ u, Act.eval b64 (.func u) = .func (.func u) #[] #[] := fun _ => rfl
          generalize Act.eval b64 = ρ at ec ef e164 e166 e171 ⊢
          (go_simp; all_goals with_reducible rfl)
        simp only [List.setIfInBounds_toArray, List.set_cons_zero, List.set_cons_succ]
    refine act_next (G := fun x => wpAnyH _ _ _ _ _ _ _ x _) _ 172 _ (by rw [hs64]; decide) (fun b65 s65 v65 k65 f65 => ?_)
    have hs65 := s65.trans hs64
    have hf65 := f65.trans hf64
    have hO65 : ∀ j, (j < 107 ∨ 176 ≤ j) → b65.tmps[j]? = a0.tmps[j]? := fun j hj => (k65 j (by omega)).trans (hO64 j hj)
    have g151_65 := (k65 151 (by decide)).trans g151_64
    have g152_65 := (k65 152 (by decide)).trans g152_64
    have g154_65 := (k65 154 (by decide)).trans g154_64
    have g156_65 := (k65 156 (by decide)).trans g156_64
    have g172_65 := v65
    clear hs64 hf64 hO64 s65 k65 f65 g151_64 g152_64 g154_64 g156_64 g164_64 g166_64 g171_64
    clear v65
    first
      | refine held_skip (i := 50) (d := some 157) rfl rfl (by kernel_rfl) (by kernel_rfl) (by kernel_rfl) (fun c a w h => hQ c _ a w (by rfl) h) hH ?_ ?_
        · exact wanted_no (g := 44) (s := 151) rfl rfl g151_65
        simp only [List.setIfInBounds_toArray, List.set_cons_zero, List.set_cons_succ]
      | refine held_step (i := 50) rfl (by kernel_rfl) ?_ (fun K hK => ?_)
        · exact wanted_yes (g := 44) (s := 151) rfl rfl g151_65
        have e152 := eval_of g152_65
        have e154 := eval_of g154_65
        have e156 := eval_of g156_65
        unfold Oper.wp
        have ec : ∀ u, Act.eval b65 (.const u) = u := fun _ => rfl
        have ef : ∀ u, Act.eval b65 (.func u) = .func (.func u) #[] #[] := fun _ => rfl
        generalize Act.eval b65 = ρ at ec ef e152 e154 e156 ⊢
        go_simp
        skip
        replace hH := hH
        refine hK _ _ hH ?_
        clear hK K
        simp only [List.setIfInBounds_toArray, List.set_cons_zero, List.set_cons_succ]
        clear ec ef e152 e154 e156
    first
      | refine act_next2 (G := fun x => wpAnyH _ _ _ _ _ _ _ x _) b65 157 _ hf65 (by rw [hs65]; decide) (fun b66 s66 v66 k66 f66 => ?_)
      | refine act_next (G := fun x => wpAnyH _ _ _ _ _ _ _ x _) _ 157 _ (by rw [hs65]; decide) (fun b66 s66 v66 k66 f66 => ?_)
    have hs66 := s66.trans hs65
    have hf66 := f66.trans hf65
    have hO66 : ∀ j, (j < 107 ∨ 176 ≤ j) → b66.tmps[j]? = a0.tmps[j]? := fun j hj => (k66 j (by omega)).trans (hO65 j hj)
    have g151_66 := (k66 151 (by decide)).trans g151_65
    have g172_66 := (k66 172 (by decide)).trans g172_65
    have g157_66 := v66
    clear hs65 hf65 hO65 s66 k66 f66 g151_65 g152_65 g154_65 g156_65 g172_65
    clear v66
    first
      | refine held_skip (i := 66) (d := some 173) rfl rfl (by kernel_rfl) (by kernel_rfl) (by kernel_rfl) (fun c a w h => hQ c _ a w (by rfl) h) hH ?_ ?_
        · exact wanted_no (g := 44) (s := 151) rfl rfl g151_66
        simp only [List.setIfInBounds_toArray, List.set_cons_zero, List.set_cons_succ]
      | refine held_step (i := 66) rfl (by kernel_rfl) ?_ (fun K hK => ?_)
        · exact wanted_yes (g := 44) (s := 151) rfl rfl g151_66
        have e157 := eval_of g157_66
        have e172 := eval_of g172_66
        unfold Oper.wp
        have ec : ∀ u, Act.eval b66 (.const u) = u := fun _ => rfl
        have ef : ∀ u, Act.eval b66 (.func u) = .func (.func u) #[] #[] := fun _ => rfl
        generalize Act.eval b66 = ρ at ec ef e157 e172 ⊢
        go_simp
        skip
        replace hH := hH
        refine hK _ _ hH ?_
        clear hK K
        simp only [List.setIfInBounds_toArray, List.set_cons_zero, List.set_cons_succ]
        clear ec ef e157 e172
    first
      | refine act_next2 (G := fun x => wpAnyH _ _ _ _ _ _ _ x _) b66 173 _ hf66 (by rw [hs66]; decide) (fun b67 s67 v67 k67 f67 => ?_)
      | refine act_next (G := fun x => wpAnyH _ _ _ _ _ _ _ x _) _ 173 _ (by rw [hs66]; decide) (fun b67 s67 v67 k67 f67 => ?_)
    have hs67 := s67.trans hs66
    have hf67 := f67.trans hf66
    have hO67 : ∀ j, (j < 107 ∨ 176 ≤ j) → b67.tmps[j]? = a0.tmps[j]? := fun j hj => (k67 j (by omega)).trans (hO66 j hj)
    have g151_67 := (k67 151 (by decide)).trans g151_66
    have g173_67 := v67
    clear hs66 hf66 hO66 s67 k67 f67 g151_66 g172_66 g157_66
    clear v67
    first
      | refine held_skip (i := 67) (d := some 174) rfl rfl (by kernel_rfl) (by kernel_rfl) (by kernel_rfl) (fun c a w h => hQ c _ a w (by rfl) h) hH ?_ ?_
        · exact wanted_no (g := 44) (s := 151) rfl rfl g151_67
        simp only [List.setIfInBounds_toArray, List.set_cons_zero, List.set_cons_succ]
      | refine held_take (i := 67) (v := ?_) (d := some 174) rfl rfl (by kernel_rfl) (by kernel_rfl) (by kernel_rfl) (fun c a w h => hQ c _ a w (by rfl) h) hH ⟨?_, fun w hSw => ?_⟩ ?_
        rotate_left 1
        · exact wanted_yes (g := 44) (s := 151) rfl rfl g151_67
        · have e173 := eval_of g173_67
          have ec : ∀ u, Act.eval b67 (.const u) = u := fun _ => rfl
          have ef : ∀ u, Act.eval b67 (.func u) = .func (.func u) #[] #[] := fun _ => rfl
          generalize Act.eval b67 = ρ at ec ef e173 ⊢
          (go_simp; all_goals with_reducible rfl)
        simp only [List.setIfInBounds_toArray, List.set_cons_zero, List.set_cons_succ]
    refine act_next (G := fun x => wpAnyH _ _ _ _ _ _ _ x _) _ 174 _ (by rw [hs67]; decide) (fun b68 s68 v68 k68 f68 => ?_)
    have hs68 := s68.trans hs67
    have hf68 := f68.trans hf67
    have hO68 : ∀ j, (j < 107 ∨ 176 ≤ j) → b68.tmps[j]? = a0.tmps[j]? := fun j hj => (k68 j (by omega)).trans (hO67 j hj)
    have g151_68 := (k68 151 (by decide)).trans g151_67
    have g174_68 := v68
    clear hs67 hf67 hO67 s68 k68 f68 g151_67 g173_67
    clear v68
    refine held_take (i := 68) (v := ?_) (d := some 175) rfl rfl (by kernel_rfl) (by kernel_rfl) (by kernel_rfl) (fun c a w h => hQ c _ a w (by rfl) h) hH ⟨?_, fun w hSw => ?_⟩ ?_
    rotate_left 1
    · rfl
    · have e151 := eval_of g151_68
      have e174 := eval_of g174_68
      have ec : ∀ u, Act.eval b68 (.const u) = u := fun _ => rfl
      have ef : ∀ u, Act.eval b68 (.func u) = .func (.func u) #[] #[] := fun _ => rfl
      generalize Act.eval b68 = ρ at ec ef e151 e174 ⊢
      (go_simp; all_goals with_reducible rfl)
    simp only [List.setIfInBounds_toArray, List.set_cons_zero, List.set_cons_succ]
    refine act_next (G := fun x => wpAnyH _ _ _ _ _ _ _ x _) _ 175 _ (by rw [hs68]; decide) (fun b69 s69 v69 k69 f69 => ?_)
    have hs69 := s69.trans hs68
    have hf69 := f69.trans hf68
    have hO69 : ∀ j, (j < 107 ∨ 176 ≤ j) → b69.tmps[j]? = a0.tmps[j]? := fun j hj => (k69 j (by omega)).trans (hO68 j hj)
    have g175_69 := v69
    clear hs68 hf68 hO68 s69 k69 f69 g151_68 g174_68
    clear v69
    refine wpAnyH_done (by kernel_rfl) ?_ _
    exact hend _ _ hs69 hf69 g175_69 hO69 HBD.out
set_option maxHeartbeats 8000000 in
theorem read_yes {Q : Exit → Act → World → Prop} (hQ : ∀ c (a a' : Act) w, a'.defers = a.defers → Q (.panic c) a w → Q (.panic c) a' w) (a0 : Act) (w7 : World) (b rh gq hd r : Nat) (off m : Int) (A' : Option Addr) (sn cp' : Nat) (hs0 : a0.tmps.size = 246) (hf0 : a0.defers = [])
    (c10 : a0.tmps[10]? = some (.pointer (some ⟨hd, 0, none⟩))) (c11 : a0.tmps[11]? = some (.pointer (some ⟨r, 0, none⟩))) (c13 : a0.tmps[13]? = some (.pointer (some ⟨rh, 0, none⟩))) (c16 : a0.tmps[16]? = some (.pointer (some ⟨b, 0, none⟩))) (HC20 : Hid (∀ W, Below w7.heap.size w7 W → (W.cell? ⟨b, 5, none⟩ = some (.int .i64 off) ∧ W.cell? ⟨b, 6, none⟩ = some (.int .i64 m)) ∧ W.cell? ⟨rh, 7, none⟩ = some (.pointer (some ⟨gq, 0, none⟩)) ∧ W.cell? ⟨gq, 6, none⟩ = some (.slice A' sn cp') ∧ W.cell? ⟨hd, 5, none⟩ = some (.bool false))) (p k : Nat) (part : List Nat)
    (HREAD : Hid (∀ W, Below w7.heap.size w7 W → Calls Tryd.prog 37 #[.pointer (some ⟨r, 0, none⟩), .int .i64 off, .int .i64 m] W (Cloned W k part))) (HSUBLT : Hid (∀ x ∈ part, x < 256))
    (HEQ : Hid (∀ W A8 c8, Bs W W.heap.size A8 part → Below w7.heap.size w7 W → Calls Tryd.prog 19 #[.slice A8 k c8, .slice (cutTo A' cp' p) k (cp' - p)] W (SaysQuiet true W)))
    (HCUT : Hid (p + k ≤ cp')) (HPC : Hid (off + m = ((p + k : Nat) : Int))) (HOP : Hid (off = (p : Int)))
    (p1 : decide (0 ≤ off) = true) (p2 : decide (0 ≤ m) = true) (p3 : decide (off ≤ (sn : Int)) = true) (p4 : decide (m ≤ (sn : Int) - off) = true) (w1x : IntKind.i64.wrap ((sn : Int) - off) = (sn : Int) - off) (w2x : IntKind.i64.wrap (off + m) = off + m)
    (hend : ∀ a' W, a'.tmps.size = 246 → a'.defers = [] → a'.tmps[175]? = some (.bool false) → (∀ j, (j < 107 ∨ 176 ≤ j) → a'.tmps[j]? = a0.tmps[j]?) → Below w7.heap.size w7 W → Q .normal a' W) :
    Code.wp Tryd.prog (Code.region 20 ([{ dst := some 107, op := Op.fieldAddr 73 (Operand.tmp 16) 2, type := 0, pos := "law.go:79", after := #[], guard := none }, { dst := some 108, op := Op.load 3 (Operand.tmp 107), type := 3, pos := "law.go:79", after := #[{ on := 0, ground := Ground.data }], guard := none }, { dst := some 109, op := Op.binOp BinOp.geq 3 (Operand.tmp 108) (Operand.const (Value.int IntKind.i64 0)) 3, type := 4, pos := "law.go:79", after := #[{ on := 1, ground := Ground.data }], guard := none }, { dst := some 110, op := Op.move (Operand.tmp 109), type := 4, pos := "law.go:79", after := #[{ on := 2, ground := Ground.data }], guard := none }, { dst := some 111, op := Op.fieldAddr 73 (Operand.tmp 16) 3, type := 0, pos := "law.go:79", after := #[{ on := 3, ground := Ground.guard }], guard := some (3, true) }, { dst := some 112, op := Op.load 3 (Operand.tmp 111), type := 3, pos := "law.go:79", after := #[{ on := 4, ground := Ground.data }, { on := 3, ground := Ground.guard }], guard := some (3, true) }, { dst := some 113, op := Op.binOp BinOp.geq 3 (Operand.tmp 112) (Operand.const (Value.int IntKind.i64 0)) 3, type := 4, pos := "law.go:79", after := #[{ on := 5, ground := Ground.data }, { on := 3, ground := Ground.guard }], guard := some (3, true) }, { dst := some 114, op := Op.pick (Operand.tmp 110) (Operand.tmp 113) (Operand.const (Value.bool false)), type := 4, pos := "law.go:79", after := #[{ on := 3, ground := Ground.data }, { on := 6, ground := Ground.data }], guard := none }, { dst := some 115, op := Op.move (Operand.tmp 114), type := 4, pos := "law.go:79", after := #[{ on := 7, ground := Ground.data }, { on := 3, ground := Ground.chain }], guard := none }, { dst := some 116, op := Op.fieldAddr 73 (Operand.tmp 16) 2, type := 0, pos := "law.go:79", after := #[{ on := 8, ground := Ground.guard }], guard := some (8, true) }, { dst := some 117, op := Op.load 3 (Operand.tmp 116), type := 3, pos := "law.go:79", after := #[{ on := 9, ground := Ground.data }, { on := 8, ground := Ground.guard }], guard := some (8, true) }, { dst := some 118, op := Op.move (Operand.tmp 13), type := 69, pos := "law.go:79", after := #[{ on := 8, ground := Ground.guard }], guard := some (8, true) }, { dst := some 119, op := Op.nilCheck (Operand.tmp 118), type := 0, pos := "law.go:79", after := #[{ on := 11, ground := Ground.data }, { on := 8, ground := Ground.guard }], guard := some (8, true) }, { dst := some 120, op := Op.fieldAddr 76 (Operand.tmp 119) 2, type := 0, pos := "law.go:79", after := #[{ on := 12, ground := Ground.data }, { on := 8, ground := Ground.guard }], guard := some (8, true) }, { dst := some 121, op := Op.load 33 (Operand.tmp 120), type := 33, pos := "law.go:79", after := #[{ on := 13, ground := Ground.data }, { on := 8, ground := Ground.guard }], guard := some (8, true) }, { dst := some 122, op := Op.nilCheck (Operand.tmp 121), type := 0, pos := "law.go:79", after := #[{ on := 14, ground := Ground.data }, { on := 8, ground := Ground.guard }], guard := some (8, true) }, { dst := some 123, op := Op.fieldAddr 36 (Operand.tmp 122) 3, type := 0, pos := "law.go:79", after := #[{ on := 15, ground := Ground.data }, { on := 8, ground := Ground.guard }], guard := some (8, true) }, { dst := some 124, op := Op.load 34 (Operand.tmp 123), type := 34, pos := "law.go:79", after := #[{ on := 16, ground := Ground.data }, { on := 8, ground := Ground.guard }], guard := some (8, true) }, { dst := some 125, op := Op.call { callee := Callee.builtin Builtin.len, args := #[Operand.tmp 124], argTypes := #[34] }, type := 3, pos := "law.go:79", after := #[{ on := 17, ground := Ground.data }, { on := 8, ground := Ground.guard }], guard := some (8, true) }, { dst := some 126, op := Op.binOp BinOp.leq 3 (Operand.tmp 117) (Operand.tmp 125) 3, type := 4, pos := "law.go:79", after := #[{ on := 10, ground := Ground.data }, { on := 18, ground := Ground.data }, { on := 8, ground := Ground.guard }], guard := some (8, true) }, { dst := some 127, op := Op.pick (Operand.tmp 115) (Operand.tmp 126) (Operand.const (Value.bool false)), type := 4, pos := "law.go:79", after := #[{ on := 8, ground := Ground.data }, { on := 19, ground := Ground.data }], guard := none }, { dst := some 128, op := Op.move (Operand.tmp 127), type := 4, pos := "law.go:79", after := #[{ on := 20, ground := Ground.data }, { on := 8, ground := Ground.chain }], guard := none }, { dst := some 129, op := Op.fieldAddr 73 (Operand.tmp 16) 3, type := 0, pos := "law.go:79", after := #[{ on := 21, ground := Ground.guard }], guard := some (21, true) }, { dst := some 130, op := Op.load 3 (Operand.tmp 129), type := 3, pos := "law.go:79", after := #[{ on := 22, ground := Ground.data }, { on := 21, ground := Ground.guard }], guard := some (21, true) }, { dst := some 131, op := Op.move (Operand.tmp 13), type := 69, pos := "law.go:79", after := #[{ on := 21, ground := Ground.guard }], guard := some (21, true) }, { dst := some 132, op := Op.nilCheck (Operand.tmp 131), type := 0, pos := "law.go:79", after := #[{ on := 24, ground := Ground.data }, { on := 21, ground := Ground.guard }], guard := some (21, true) }, { dst := some 133, op := Op.fieldAddr 76 (Operand.tmp 132) 2, type := 0, pos := "law.go:79", after := #[{ on := 25, ground := Ground.data }, { on := 21, ground := Ground.guard }], guard := some (21, true) }, { dst := some 134, op := Op.load 33 (Operand.tmp 133), type := 33, pos := "law.go:79", after := #[{ on := 26, ground := Ground.data }, { on := 21, ground := Ground.guard }], guard := some (21, true) }, { dst := some 135, op := Op.nilCheck (Operand.tmp 134), type := 0, pos := "law.go:79", after := #[{ on := 27, ground := Ground.data }, { on := 21, ground := Ground.guard }], guard := some (21, true) }, { dst := some 136, op := Op.fieldAddr 36 (Operand.tmp 135) 3, type := 0, pos := "law.go:79", after := #[{ on := 28, ground := Ground.data }, { on := 21, ground := Ground.guard }], guard := some (21, true) }, { dst := some 137, op := Op.load 34 (Operand.tmp 136), type := 34, pos := "law.go:79", after := #[{ on := 29, ground := Ground.data }, { on := 21, ground := Ground.guard }], guard := some (21, true) }, { dst := some 138, op := Op.call { callee := Callee.builtin Builtin.len, args := #[Operand.tmp 137], argTypes := #[34] }, type := 3, pos := "law.go:79", after := #[{ on := 30, ground := Ground.data }, { on := 21, ground := Ground.guard }], guard := some (21, true) }, { dst := some 139, op := Op.fieldAddr 73 (Operand.tmp 16) 2, type := 0, pos := "law.go:79", after := #[{ on := 21, ground := Ground.guard }], guard := some (21, true) }, { dst := some 140, op := Op.load 3 (Operand.tmp 139), type := 3, pos := "law.go:79", after := #[{ on := 32, ground := Ground.data }, { on := 21, ground := Ground.guard }], guard := some (21, true) }].append [{ dst := some 141, op := Op.binOp BinOp.sub 3 (Operand.tmp 138) (Operand.tmp 140) 3, type := 3, pos := "law.go:79", after := #[{ on := 31, ground := Ground.data }, { on := 33, ground := Ground.data }, { on := 21, ground := Ground.guard }], guard := some (21, true) }, { dst := some 142, op := Op.binOp BinOp.leq 3 (Operand.tmp 130) (Operand.tmp 141) 3, type := 4, pos := "law.go:79", after := #[{ on := 23, ground := Ground.data }, { on := 34, ground := Ground.data }, { on := 21, ground := Ground.guard }], guard := some (21, true) }, { dst := some 143, op := Op.pick (Operand.tmp 128) (Operand.tmp 142) (Operand.const (Value.bool false)), type := 4, pos := "law.go:79", after := #[{ on := 21, ground := Ground.data }, { on := 35, ground := Ground.data }], guard := none }, { dst := some 144, op := Op.move (Operand.tmp 143), type := 4, pos := "law.go:79", after := #[{ on := 36, ground := Ground.data }, { on := 21, ground := Ground.chain }], guard := none }, { dst := some 145, op := Op.move (Operand.tmp 10), type := 63, pos := "law.go:79", after := #[{ on := 37, ground := Ground.guard }], guard := some (37, true) }, { dst := some 146, op := Op.nilCheck (Operand.tmp 145), type := 0, pos := "law.go:79", after := #[{ on := 38, ground := Ground.data }, { on := 37, ground := Ground.guard }], guard := some (37, true) }, { dst := some 147, op := Op.fieldAddr 79 (Operand.tmp 146) 5, type := 0, pos := "law.go:79", after := #[{ on := 39, ground := Ground.data }, { on := 37, ground := Ground.guard }], guard := some (37, true) }, { dst := some 148, op := Op.load 4 (Operand.tmp 147), type := 4, pos := "law.go:79", after := #[{ on := 40, ground := Ground.data }, { on := 37, ground := Ground.guard }], guard := some (37, true) }, { dst := some 149, op := Op.unOp UnOp.not 4 (Operand.tmp 148), type := 4, pos := "law.go:79", after := #[{ on := 41, ground := Ground.data }, { on := 37, ground := Ground.guard }], guard := some (37, true) }, { dst := some 150, op := Op.pick (Operand.tmp 144) (Operand.tmp 149) (Operand.const (Value.bool false)), type := 4, pos := "law.go:79", after := #[{ on := 37, ground := Ground.data }, { on := 42, ground := Ground.data }], guard := none }, { dst := some 151, op := Op.move (Operand.tmp 150), type := 4, pos := "law.go:79", after := #[{ on := 43, ground := Ground.data }, { on := 37, ground := Ground.chain }], guard := none }, { dst := some 152, op := Op.move (Operand.tmp 11), type := 66, pos := "law.go:79", after := #[{ on := 44, ground := Ground.guard }], guard := some (44, true) }, { dst := some 153, op := Op.fieldAddr 73 (Operand.tmp 16) 2, type := 0, pos := "law.go:79", after := #[{ on := 44, ground := Ground.guard }], guard := some (44, true) }, { dst := some 154, op := Op.load 3 (Operand.tmp 153), type := 3, pos := "law.go:79", after := #[{ on := 46, ground := Ground.data }, { on := 44, ground := Ground.guard }], guard := some (44, true) }, { dst := some 155, op := Op.fieldAddr 73 (Operand.tmp 16) 3, type := 0, pos := "law.go:79", after := #[{ on := 44, ground := Ground.guard }], guard := some (44, true) }, { dst := some 156, op := Op.load 3 (Operand.tmp 155), type := 3, pos := "law.go:79", after := #[{ on := 48, ground := Ground.data }, { on := 44, ground := Ground.guard }], guard := some (44, true) }, { dst := some 157, op := Op.call { callee := Callee.value (Operand.func 37), args := #[Operand.tmp 152, Operand.tmp 154, Operand.tmp 156], argTypes := #[66, 3, 3] }, type := 34, pos := "law.go:79", after := #[{ on := 45, ground := Ground.data }, { on := 47, ground := Ground.data }, { on := 49, ground := Ground.data }, { on := 44, ground := Ground.chain }, { on := 44, ground := Ground.guard }], guard := some (44, true) }, { dst := some 158, op := Op.move (Operand.tmp 13), type := 69, pos := "law.go:79", after := #[{ on := 44, ground := Ground.guard }], guard := some (44, true) }, { dst := some 159, op := Op.nilCheck (Operand.tmp 158), type := 0, pos := "law.go:79", after := #[{ on := 51, ground := Ground.data }, { on := 44, ground := Ground.guard }], guard := some (44, true) }, { dst := some 160, op := Op.fieldAddr 76 (Operand.tmp 159) 2, type := 0, pos := "law.go:79", after := #[{ on := 52, ground := Ground.data }, { on := 44, ground := Ground.guard }], guard := some (44, true) }, { dst := some 161, op := Op.load 33 (Operand.tmp 160), type := 33, pos := "law.go:79", after := #[{ on := 53, ground := Ground.data }, { on := 44, ground := Ground.guard }], guard := some (44, true) }, { dst := some 162, op := Op.nilCheck (Operand.tmp 161), type := 0, pos := "law.go:79", after := #[{ on := 54, ground := Ground.data }, { on := 44, ground := Ground.guard }], guard := some (44, true) }, { dst := some 163, op := Op.fieldAddr 36 (Operand.tmp 162) 3, type := 0, pos := "law.go:79", after := #[{ on := 55, ground := Ground.data }, { on := 44, ground := Ground.guard }], guard := some (44, true) }, { dst := some 164, op := Op.load 34 (Operand.tmp 163), type := 34, pos := "law.go:79", after := #[{ on := 56, ground := Ground.data }, { on := 44, ground := Ground.guard }], guard := some (44, true) }, { dst := some 165, op := Op.fieldAddr 73 (Operand.tmp 16) 2, type := 0, pos := "law.go:79", after := #[{ on := 44, ground := Ground.guard }], guard := some (44, true) }, { dst := some 166, op := Op.load 3 (Operand.tmp 165), type := 3, pos := "law.go:79", after := #[{ on := 58, ground := Ground.data }, { on := 44, ground := Ground.guard }], guard := some (44, true) }, { dst := some 167, op := Op.fieldAddr 73 (Operand.tmp 16) 2, type := 0, pos := "law.go:79", after := #[{ on := 44, ground := Ground.guard }], guard := some (44, true) }, { dst := some 168, op := Op.load 3 (Operand.tmp 167), type := 3, pos := "law.go:79", after := #[{ on := 60, ground := Ground.data }, { on := 44, ground := Ground.guard }], guard := some (44, true) }, { dst := some 169, op := Op.fieldAddr 73 (Operand.tmp 16) 3, type := 0, pos := "law.go:79", after := #[{ on := 44, ground := Ground.guard }], guard := some (44, true) }, { dst := some 170, op := Op.load 3 (Operand.tmp 169), type := 3, pos := "law.go:79", after := #[{ on := 62, ground := Ground.data }, { on := 44, ground := Ground.guard }], guard := some (44, true) }, { dst := some 171, op := Op.binOp BinOp.add 3 (Operand.tmp 168) (Operand.tmp 170) 3, type := 3, pos := "law.go:79", after := #[{ on := 61, ground := Ground.data }, { on := 63, ground := Ground.data }, { on := 44, ground := Ground.guard }], guard := some (44, true) }, { dst := some 172, op := Op.slice 34 (Operand.tmp 164) (some (Operand.tmp 166)) (some (Operand.tmp 171)) none, type := 34, pos := "law.go:79", after := #[{ on := 57, ground := Ground.data }, { on := 59, ground := Ground.data }, { on := 64, ground := Ground.data }, { on := 44, ground := Ground.guard }], guard := some (44, true) }, { dst := some 173, op := Op.call { callee := Callee.value (Operand.func 19), args := #[Operand.tmp 157, Operand.tmp 172], argTypes := #[34, 34] }, type := 4, pos := "law.go:79", after := #[{ on := 50, ground := Ground.data }, { on := 65, ground := Ground.data }, { on := 50, ground := Ground.chain }, { on := 44, ground := Ground.guard }], guard := some (44, true) }, { dst := some 174, op := Op.unOp UnOp.not 4 (Operand.tmp 173), type := 4, pos := "law.go:79", after := #[{ on := 66, ground := Ground.data }, { on := 44, ground := Ground.guard }], guard := some (44, true) }, { dst := some 175, op := Op.pick (Operand.tmp 151) (Operand.tmp 174) (Operand.const (Value.bool false)), type := 4, pos := "law.go:79", after := #[{ on := 44, ground := Ground.data }, { on := 67, ground := Ground.data }], guard := none }]).toArray true) Q a0 w7 := by
  have HBD : Hid (Below w7.heap.size w7 w7.drew) := below_drewN w7 1
  have hO0 : ∀ j, (j < 107 ∨ 176 ≤ j) → a0.tmps[j]? = a0.tmps[j]? := fun _ _ => rfl
  simp only [List.append_eq, List.cons_append, List.nil_append]
  refine wp_region_held_drew (S := fun W => (W.cell? ⟨b, 5, none⟩ = some (.int .i64 off) ∧ W.cell? ⟨b, 6, none⟩ = some (.int .i64 m)) ∧ W.cell? ⟨rh, 7, none⟩ = some (.pointer (some ⟨gq, 0, none⟩)) ∧ W.cell? ⟨gq, 6, none⟩ = some (.slice A' sn cp') ∧ W.cell? ⟨hd, 5, none⟩ = some (.bool false)) (by kernel_rfl) (HC20.out _ HBD.out) (fun hH => ?_)
  change wpAnyH _ _ _ _ _ 69 #[false, false, false, false, false, false, false, false, false, false, false, false, false, false, false, false, false, false, false, false, false, false, false, false, false, false, false, false, false, false, false, false, false, false, false, false, false, false, false, false, false, false, false, false, false, false, false, false, false, false, false, false, false, false, false, false, false, false, false, false, false, false, false, false, false, false, false, false, false] _ _
  refine held_take (i := 0) (v := ?_) (d := some 107) rfl rfl (by kernel_rfl) (by kernel_rfl) (by kernel_rfl) (fun c a w h => hQ c _ a w (by rfl) h) hH ⟨?_, fun w hSw => ?_⟩ ?_
  rotate_left 1
  · rfl
  · have e16 := eval_of ((hO0 16 (by decide)).trans c16)
    have ec : ∀ u, Act.eval a0 (.const u) = u := fun _ => rfl
    have ef : ∀ u, Act.eval a0 (.func u) = .func (.func u) #[] #[] := fun _ => rfl
    generalize Act.eval a0 = ρ at ec ef e16 ⊢
    (go_simp; all_goals with_reducible rfl)
  simp only [List.setIfInBounds_toArray, List.set_cons_zero]
  refine act_next (G := fun x => wpAnyH _ _ _ _ _ _ _ x _) _ 107 _ (by rw [hs0]; decide) (fun b1 s1 v1 k1 f1 => ?_)
  have hs1 := s1.trans hs0
  have hf1 := f1.trans hf0
  have hO1 : ∀ j, (j < 107 ∨ 176 ≤ j) → b1.tmps[j]? = a0.tmps[j]? := fun j hj => (k1 j (by omega)).trans (hO0 j hj)
  have g107_1 := v1
  clear hs0 hf0 hO0 s1 k1 f1 
  clear v1
  refine held_take (i := 1) (v := ?_) (d := some 108) rfl rfl (by kernel_rfl) (by kernel_rfl) (by kernel_rfl) (fun c a w h => hQ c _ a w (by rfl) h) hH ⟨?_, fun w hSw => ?_⟩ ?_
  rotate_left 1
  · rfl
  · have e107 := eval_of g107_1
    obtain ⟨⟨y5, y6⟩, y7, y8, y9⟩ := hSw
    have ec : ∀ u, Act.eval b1 (.const u) = u := fun _ => rfl
    have ef : ∀ u, Act.eval b1 (.func u) = .func (.func u) #[] #[] := fun _ => rfl
    generalize Act.eval b1 = ρ at ec ef e107 ⊢
    (go_simp; all_goals with_reducible rfl)
  simp only [List.setIfInBounds_toArray, List.set_cons_zero, List.set_cons_succ]
  refine act_next (G := fun x => wpAnyH _ _ _ _ _ _ _ x _) _ 108 _ (by rw [hs1]; decide) (fun b2 s2 v2 k2 f2 => ?_)
  have hs2 := s2.trans hs1
  have hf2 := f2.trans hf1
  have hO2 : ∀ j, (j < 107 ∨ 176 ≤ j) → b2.tmps[j]? = a0.tmps[j]? := fun j hj => (k2 j (by omega)).trans (hO1 j hj)
  have g108_2 := v2
  clear hs1 hf1 hO1 s2 k2 f2 g107_1
  clear v2
  refine held_take (i := 2) (v := ?_) (d := some 109) rfl rfl (by kernel_rfl) (by kernel_rfl) (by kernel_rfl) (fun c a w h => hQ c _ a w (by rfl) h) hH ⟨?_, fun w hSw => ?_⟩ ?_
  rotate_left 1
  · rfl
  · have e108 := eval_of g108_2
    have ec : ∀ u, Act.eval b2 (.const u) = u := fun _ => rfl
    have ef : ∀ u, Act.eval b2 (.func u) = .func (.func u) #[] #[] := fun _ => rfl
    generalize Act.eval b2 = ρ at ec ef e108 ⊢
    (go_simp; all_goals with_reducible rfl)
  simp only [List.setIfInBounds_toArray, List.set_cons_zero, List.set_cons_succ]
  refine act_next (G := fun x => wpAnyH _ _ _ _ _ _ _ x _) _ 109 _ (by rw [hs2]; decide) (fun b3 s3 v3 k3 f3 => ?_)
  have hs3 := s3.trans hs2
  have hf3 := f3.trans hf2
  have hO3 : ∀ j, (j < 107 ∨ 176 ≤ j) → b3.tmps[j]? = a0.tmps[j]? := fun j hj => (k3 j (by omega)).trans (hO2 j hj)
  have g109_3 := v3
  clear hs2 hf2 hO2 s3 k3 f3 g108_2
  clear v3
  refine held_take (i := 3) (v := ?_) (d := some 110) rfl rfl (by kernel_rfl) (by kernel_rfl) (by kernel_rfl) (fun c a w h => hQ c _ a w (by rfl) h) hH ⟨?_, fun w hSw => ?_⟩ ?_
  rotate_left 1
  · rfl
  · have e109 := eval_of g109_3
    have ec : ∀ u, Act.eval b3 (.const u) = u := fun _ => rfl
    have ef : ∀ u, Act.eval b3 (.func u) = .func (.func u) #[] #[] := fun _ => rfl
    generalize Act.eval b3 = ρ at ec ef e109 ⊢
    (go_simp; all_goals with_reducible rfl)
  simp only [List.setIfInBounds_toArray, List.set_cons_zero, List.set_cons_succ]
  refine act_next (G := fun x => wpAnyH _ _ _ _ _ _ _ x _) _ 110 _ (by rw [hs3]; decide) (fun b4 s4 v4 k4 f4 => ?_)
  have hs4 := s4.trans hs3
  have hf4 := f4.trans hf3
  have hO4 : ∀ j, (j < 107 ∨ 176 ≤ j) → b4.tmps[j]? = a0.tmps[j]? := fun j hj => (k4 j (by omega)).trans (hO3 j hj)
  have g110_4 := v4
  clear hs3 hf3 hO3 s4 k4 f4 g109_3
  clear v4
  refine held_take (i := 4) (v := ?_) (d := some 111) rfl rfl (by kernel_rfl) (by kernel_rfl) (by kernel_rfl) (fun c a w h => hQ c _ a w (by rfl) h) hH ⟨?_, fun w hSw => ?_⟩ ?_
  rotate_left 1
  · exact wanted_yes (g := 3) (s := 110) rfl rfl g110_4
  · have e16 := eval_of ((hO4 16 (by decide)).trans c16)
    have ec : ∀ u, Act.eval b4 (.const u) = u := fun _ => rfl
    have ef : ∀ u, Act.eval b4 (.func u) = .func (.func u) #[] #[] := fun _ => rfl
    generalize Act.eval b4 = ρ at ec ef e16 ⊢
    (go_simp; all_goals with_reducible rfl)
  simp only [List.setIfInBounds_toArray, List.set_cons_zero, List.set_cons_succ]
  refine act_next (G := fun x => wpAnyH _ _ _ _ _ _ _ x _) _ 111 _ (by rw [hs4]; decide) (fun b5 s5 v5 k5 f5 => ?_)
  have hs5 := s5.trans hs4
  have hf5 := f5.trans hf4
  have hO5 : ∀ j, (j < 107 ∨ 176 ≤ j) → b5.tmps[j]? = a0.tmps[j]? := fun j hj => (k5 j (by omega)).trans (hO4 j hj)
  have g110_5 := (k5 110 (by decide)).trans g110_4
  have g111_5 := v5
  clear hs4 hf4 hO4 s5 k5 f5 g110_4
  clear v5
  refine held_take (i := 5) (v := ?_) (d := some 112) rfl rfl (by kernel_rfl) (by kernel_rfl) (by kernel_rfl) (fun c a w h => hQ c _ a w (by rfl) h) hH ⟨?_, fun w hSw => ?_⟩ ?_
  rotate_left 1
  · exact wanted_yes (g := 3) (s := 110) rfl rfl g110_5
  · have e111 := eval_of g111_5
    obtain ⟨⟨y5, y6⟩, y7, y8, y9⟩ := hSw
    have ec : ∀ u, Act.eval b5 (.const u) = u := fun _ => rfl
    have ef : ∀ u, Act.eval b5 (.func u) = .func (.func u) #[] #[] := fun _ => rfl
    generalize Act.eval b5 = ρ at ec ef e111 ⊢
    (go_simp; all_goals with_reducible rfl)
  simp only [List.setIfInBounds_toArray, List.set_cons_zero, List.set_cons_succ]
  refine act_next (G := fun x => wpAnyH _ _ _ _ _ _ _ x _) _ 112 _ (by rw [hs5]; decide) (fun b6 s6 v6 k6 f6 => ?_)
  have hs6 := s6.trans hs5
  have hf6 := f6.trans hf5
  have hO6 : ∀ j, (j < 107 ∨ 176 ≤ j) → b6.tmps[j]? = a0.tmps[j]? := fun j hj => (k6 j (by omega)).trans (hO5 j hj)
  have g110_6 := (k6 110 (by decide)).trans g110_5
  have g112_6 := v6
  clear hs5 hf5 hO5 s6 k6 f6 g110_5 g111_5
  clear v6
  refine held_take (i := 6) (v := ?_) (d := some 113) rfl rfl (by kernel_rfl) (by kernel_rfl) (by kernel_rfl) (fun c a w h => hQ c _ a w (by rfl) h) hH ⟨?_, fun w hSw => ?_⟩ ?_
  rotate_left 1
  · exact wanted_yes (g := 3) (s := 110) rfl rfl g110_6
  · have e112 := eval_of g112_6
    have ec : ∀ u, Act.eval b6 (.const u) = u := fun _ => rfl
    have ef : ∀ u, Act.eval b6 (.func u) = .func (.func u) #[] #[] := fun _ => rfl
    generalize Act.eval b6 = ρ at ec ef e112 ⊢
    (go_simp; all_goals with_reducible rfl)
  simp only [List.setIfInBounds_toArray, List.set_cons_zero, List.set_cons_succ]
  refine act_next (G := fun x => wpAnyH _ _ _ _ _ _ _ x _) _ 113 _ (by rw [hs6]; decide) (fun b7 s7 v7 k7 f7 => ?_)
  have hs7 := s7.trans hs6
  have hf7 := f7.trans hf6
  have hO7 : ∀ j, (j < 107 ∨ 176 ≤ j) → b7.tmps[j]? = a0.tmps[j]? := fun j hj => (k7 j (by omega)).trans (hO6 j hj)
  have g110_7 := (k7 110 (by decide)).trans g110_6
  have g113_7 := v7
  clear hs6 hf6 hO6 s7 k7 f7 g110_6 g112_6
  clear v7
  refine held_take (i := 7) (v := ?_) (d := some 114) rfl rfl (by kernel_rfl) (by kernel_rfl) (by kernel_rfl) (fun c a w h => hQ c _ a w (by rfl) h) hH ⟨?_, fun w hSw => ?_⟩ ?_
  rotate_left 1
  · rfl
  · have e110 := eval_of g110_7
    have e113 := eval_of g113_7
    have ec : ∀ u, Act.eval b7 (.const u) = u := fun _ => rfl
    have ef : ∀ u, Act.eval b7 (.func u) = .func (.func u) #[] #[] := fun _ => rfl
    generalize Act.eval b7 = ρ at ec ef e110 e113 ⊢
    (go_simp; all_goals with_reducible rfl)
  simp only [List.setIfInBounds_toArray, List.set_cons_zero, List.set_cons_succ]
  refine act_next (G := fun x => wpAnyH _ _ _ _ _ _ _ x _) _ 114 _ (by rw [hs7]; decide) (fun b8 s8 v8 k8 f8 => ?_)
  have hs8 := s8.trans hs7
  have hf8 := f8.trans hf7
  have hO8 : ∀ j, (j < 107 ∨ 176 ≤ j) → b8.tmps[j]? = a0.tmps[j]? := fun j hj => (k8 j (by omega)).trans (hO7 j hj)
  have g114_8 := v8
  clear hs7 hf7 hO7 s8 k8 f8 g110_7 g113_7
  clear v8
  refine held_take (i := 8) (v := ?_) (d := some 115) rfl rfl (by kernel_rfl) (by kernel_rfl) (by kernel_rfl) (fun c a w h => hQ c _ a w (by rfl) h) hH ⟨?_, fun w hSw => ?_⟩ ?_
  rotate_left 1
  · rfl
  · have e114 := eval_of g114_8
    have ec : ∀ u, Act.eval b8 (.const u) = u := fun _ => rfl
    have ef : ∀ u, Act.eval b8 (.func u) = .func (.func u) #[] #[] := fun _ => rfl
    generalize Act.eval b8 = ρ at ec ef e114 ⊢
    (go_simp; all_goals with_reducible rfl)
  simp only [List.setIfInBounds_toArray, List.set_cons_zero, List.set_cons_succ]
  refine act_next (G := fun x => wpAnyH _ _ _ _ _ _ _ x _) _ 115 _ (by rw [hs8]; decide) (fun b9 s9 v9 k9 f9 => ?_)
  have hs9 := s9.trans hs8
  have hf9 := f9.trans hf8
  have hO9 : ∀ j, (j < 107 ∨ 176 ≤ j) → b9.tmps[j]? = a0.tmps[j]? := fun j hj => (k9 j (by omega)).trans (hO8 j hj)
  have g115_9 := v9
  clear hs8 hf8 hO8 s9 k9 f9 g114_8
  clear v9
  refine held_take (i := 9) (v := ?_) (d := some 116) rfl rfl (by kernel_rfl) (by kernel_rfl) (by kernel_rfl) (fun c a w h => hQ c _ a w (by rfl) h) hH ⟨?_, fun w hSw => ?_⟩ ?_
  rotate_left 1
  · exact wanted_yes (g := 8) (s := 115) rfl rfl g115_9
  · have e16 := eval_of ((hO9 16 (by decide)).trans c16)
    have ec : ∀ u, Act.eval b9 (.const u) = u := fun _ => rfl
    have ef : ∀ u, Act.eval b9 (.func u) = .func (.func u) #[] #[] := fun _ => rfl
    generalize Act.eval b9 = ρ at ec ef e16 ⊢
    (go_simp; all_goals with_reducible rfl)
  simp only [List.setIfInBounds_toArray, List.set_cons_zero, List.set_cons_succ]
  refine act_next (G := fun x => wpAnyH _ _ _ _ _ _ _ x _) _ 116 _ (by rw [hs9]; decide) (fun b10 s10 v10 k10 f10 => ?_)
  have hs10 := s10.trans hs9
  have hf10 := f10.trans hf9
  have hO10 : ∀ j, (j < 107 ∨ 176 ≤ j) → b10.tmps[j]? = a0.tmps[j]? := fun j hj => (k10 j (by omega)).trans (hO9 j hj)
  have g115_10 := (k10 115 (by decide)).trans g115_9
  have g116_10 := v10
  clear hs9 hf9 hO9 s10 k10 f10 g115_9
  clear v10
  refine held_take (i := 10) (v := ?_) (d := some 117) rfl rfl (by kernel_rfl) (by kernel_rfl) (by kernel_rfl) (fun c a w h => hQ c _ a w (by rfl) h) hH ⟨?_, fun w hSw => ?_⟩ ?_
  rotate_left 1
  · exact wanted_yes (g := 8) (s := 115) rfl rfl g115_10
  · have e116 := eval_of g116_10
    obtain ⟨⟨y5, y6⟩, y7, y8, y9⟩ := hSw
    have ec : ∀ u, Act.eval b10 (.const u) = u := fun _ => rfl
    have ef : ∀ u, Act.eval b10 (.func u) = .func (.func u) #[] #[] := fun _ => rfl
    generalize Act.eval b10 = ρ at ec ef e116 ⊢
    (go_simp; all_goals with_reducible rfl)
  simp only [List.setIfInBounds_toArray, List.set_cons_zero, List.set_cons_succ]
  refine act_next (G := fun x => wpAnyH _ _ _ _ _ _ _ x _) _ 117 _ (by rw [hs10]; decide) (fun b11 s11 v11 k11 f11 => ?_)
  have hs11 := s11.trans hs10
  have hf11 := f11.trans hf10
  have hO11 : ∀ j, (j < 107 ∨ 176 ≤ j) → b11.tmps[j]? = a0.tmps[j]? := fun j hj => (k11 j (by omega)).trans (hO10 j hj)
  have g115_11 := (k11 115 (by decide)).trans g115_10
  have g117_11 := v11
  clear hs10 hf10 hO10 s11 k11 f11 g115_10 g116_10
  clear v11
  refine held_take (i := 11) (v := ?_) (d := some 118) rfl rfl (by kernel_rfl) (by kernel_rfl) (by kernel_rfl) (fun c a w h => hQ c _ a w (by rfl) h) hH ⟨?_, fun w hSw => ?_⟩ ?_
  rotate_left 1
  · exact wanted_yes (g := 8) (s := 115) rfl rfl g115_11
  · have e13 := eval_of ((hO11 13 (by decide)).trans c13)
    have ec : ∀ u, Act.eval b11 (.const u) = u := fun _ => rfl
    have ef : ∀ u, Act.eval b11 (.func u) = .func (.func u) #[] #[] := fun _ => rfl
    generalize Act.eval b11 = ρ at ec ef e13 ⊢
    (go_simp; all_goals with_reducible rfl)
  simp only [List.setIfInBounds_toArray, List.set_cons_zero, List.set_cons_succ]
  refine act_next (G := fun x => wpAnyH _ _ _ _ _ _ _ x _) _ 118 _ (by rw [hs11]; decide) (fun b12 s12 v12 k12 f12 => ?_)
  have hs12 := s12.trans hs11
  have hf12 := f12.trans hf11
  have hO12 : ∀ j, (j < 107 ∨ 176 ≤ j) → b12.tmps[j]? = a0.tmps[j]? := fun j hj => (k12 j (by omega)).trans (hO11 j hj)
  have g115_12 := (k12 115 (by decide)).trans g115_11
  have g117_12 := (k12 117 (by decide)).trans g117_11
  have g118_12 := v12
  clear hs11 hf11 hO11 s12 k12 f12 g115_11 g117_11
  clear v12
  refine held_take (i := 12) (v := ?_) (d := some 119) rfl rfl (by kernel_rfl) (by kernel_rfl) (by kernel_rfl) (fun c a w h => hQ c _ a w (by rfl) h) hH ⟨?_, fun w hSw => ?_⟩ ?_
  rotate_left 1
  · exact wanted_yes (g := 8) (s := 115) rfl rfl g115_12
  · have e118 := eval_of g118_12
    have ec : ∀ u, Act.eval b12 (.const u) = u := fun _ => rfl
    have ef : ∀ u, Act.eval b12 (.func u) = .func (.func u) #[] #[] := fun _ => rfl
    generalize Act.eval b12 = ρ at ec ef e118 ⊢
    (go_simp; all_goals with_reducible rfl)
  simp only [List.setIfInBounds_toArray, List.set_cons_zero, List.set_cons_succ]
  refine act_next (G := fun x => wpAnyH _ _ _ _ _ _ _ x _) _ 119 _ (by rw [hs12]; decide) (fun b13 s13 v13 k13 f13 => ?_)
  have hs13 := s13.trans hs12
  have hf13 := f13.trans hf12
  have hO13 : ∀ j, (j < 107 ∨ 176 ≤ j) → b13.tmps[j]? = a0.tmps[j]? := fun j hj => (k13 j (by omega)).trans (hO12 j hj)
  have g115_13 := (k13 115 (by decide)).trans g115_12
  have g117_13 := (k13 117 (by decide)).trans g117_12
  have g119_13 := v13
  clear hs12 hf12 hO12 s13 k13 f13 g115_12 g117_12 g118_12
  clear v13
  refine held_take (i := 13) (v := ?_) (d := some 120) rfl rfl (by kernel_rfl) (by kernel_rfl) (by kernel_rfl) (fun c a w h => hQ c _ a w (by rfl) h) hH ⟨?_, fun w hSw => ?_⟩ ?_
  rotate_left 1
  · exact wanted_yes (g := 8) (s := 115) rfl rfl g115_13
  · have e119 := eval_of g119_13
    have ec : ∀ u, Act.eval b13 (.const u) = u := fun _ => rfl
    have ef : ∀ u, Act.eval b13 (.func u) = .func (.func u) #[] #[] := fun _ => rfl
    generalize Act.eval b13 = ρ at ec ef e119 ⊢
    (go_simp; all_goals with_reducible rfl)
  simp only [List.setIfInBounds_toArray, List.set_cons_zero, List.set_cons_succ]
  refine act_next (G := fun x => wpAnyH _ _ _ _ _ _ _ x _) _ 120 _ (by rw [hs13]; decide) (fun b14 s14 v14 k14 f14 => ?_)
  have hs14 := s14.trans hs13
  have hf14 := f14.trans hf13
  have hO14 : ∀ j, (j < 107 ∨ 176 ≤ j) → b14.tmps[j]? = a0.tmps[j]? := fun j hj => (k14 j (by omega)).trans (hO13 j hj)
  have g115_14 := (k14 115 (by decide)).trans g115_13
  have g117_14 := (k14 117 (by decide)).trans g117_13
  have g120_14 := v14
  clear hs13 hf13 hO13 s14 k14 f14 g115_13 g117_13 g119_13
  clear v14
  refine held_take (i := 14) (v := ?_) (d := some 121) rfl rfl (by kernel_rfl) (by kernel_rfl) (by kernel_rfl) (fun c a w h => hQ c _ a w (by rfl) h) hH ⟨?_, fun w hSw => ?_⟩ ?_
  rotate_left 1
  · exact wanted_yes (g := 8) (s := 115) rfl rfl g115_14
  · have e120 := eval_of g120_14
    obtain ⟨⟨y5, y6⟩, y7, y8, y9⟩ := hSw
    have ec : ∀ u, Act.eval b14 (.const u) = u := fun _ => rfl
    have ef : ∀ u, Act.eval b14 (.func u) = .func (.func u) #[] #[] := fun _ => rfl
    generalize Act.eval b14 = ρ at ec ef e120 ⊢
    (go_simp; all_goals with_reducible rfl)
  simp only [List.setIfInBounds_toArray, List.set_cons_zero, List.set_cons_succ]
  refine act_next (G := fun x => wpAnyH _ _ _ _ _ _ _ x _) _ 121 _ (by rw [hs14]; decide) (fun b15 s15 v15 k15 f15 => ?_)
  have hs15 := s15.trans hs14
  have hf15 := f15.trans hf14
  have hO15 : ∀ j, (j < 107 ∨ 176 ≤ j) → b15.tmps[j]? = a0.tmps[j]? := fun j hj => (k15 j (by omega)).trans (hO14 j hj)
  have g115_15 := (k15 115 (by decide)).trans g115_14
  have g117_15 := (k15 117 (by decide)).trans g117_14
  have g121_15 := v15
  clear hs14 hf14 hO14 s15 k15 f15 g115_14 g117_14 g120_14
  clear v15
  refine held_take (i := 15) (v := ?_) (d := some 122) rfl rfl (by kernel_rfl) (by kernel_rfl) (by kernel_rfl) (fun c a w h => hQ c _ a w (by rfl) h) hH ⟨?_, fun w hSw => ?_⟩ ?_
  rotate_left 1
  · exact wanted_yes (g := 8) (s := 115) rfl rfl g115_15
  · have e121 := eval_of g121_15
    have ec : ∀ u, Act.eval b15 (.const u) = u := fun _ => rfl
    have ef : ∀ u, Act.eval b15 (.func u) = .func (.func u) #[] #[] := fun _ => rfl
    generalize Act.eval b15 = ρ at ec ef e121 ⊢
    (go_simp; all_goals with_reducible rfl)
  simp only [List.setIfInBounds_toArray, List.set_cons_zero, List.set_cons_succ]
  refine act_next (G := fun x => wpAnyH _ _ _ _ _ _ _ x _) _ 122 _ (by rw [hs15]; decide) (fun b16 s16 v16 k16 f16 => ?_)
  have hs16 := s16.trans hs15
  have hf16 := f16.trans hf15
  have hO16 : ∀ j, (j < 107 ∨ 176 ≤ j) → b16.tmps[j]? = a0.tmps[j]? := fun j hj => (k16 j (by omega)).trans (hO15 j hj)
  have g115_16 := (k16 115 (by decide)).trans g115_15
  have g117_16 := (k16 117 (by decide)).trans g117_15
  have g122_16 := v16
  clear hs15 hf15 hO15 s16 k16 f16 g115_15 g117_15 g121_15
  clear v16
  refine held_take (i := 16) (v := ?_) (d := some 123) rfl rfl (by kernel_rfl) (by kernel_rfl) (by kernel_rfl) (fun c a w h => hQ c _ a w (by rfl) h) hH ⟨?_, fun w hSw => ?_⟩ ?_
  rotate_left 1
  · exact wanted_yes (g := 8) (s := 115) rfl rfl g115_16
  · have e122 := eval_of g122_16
    have ec : ∀ u, Act.eval b16 (.const u) = u := fun _ => rfl
    have ef : ∀ u, Act.eval b16 (.func u) = .func (.func u) #[] #[] := fun _ => rfl
    generalize Act.eval b16 = ρ at ec ef e122 ⊢
    (go_simp; all_goals with_reducible rfl)
  simp only [List.setIfInBounds_toArray, List.set_cons_zero, List.set_cons_succ]
  refine act_next (G := fun x => wpAnyH _ _ _ _ _ _ _ x _) _ 123 _ (by rw [hs16]; decide) (fun b17 s17 v17 k17 f17 => ?_)
  have hs17 := s17.trans hs16
  have hf17 := f17.trans hf16
  have hO17 : ∀ j, (j < 107 ∨ 176 ≤ j) → b17.tmps[j]? = a0.tmps[j]? := fun j hj => (k17 j (by omega)).trans (hO16 j hj)
  have g115_17 := (k17 115 (by decide)).trans g115_16
  have g117_17 := (k17 117 (by decide)).trans g117_16
  have g123_17 := v17
  clear hs16 hf16 hO16 s17 k17 f17 g115_16 g117_16 g122_16
  clear v17
  refine held_take (i := 17) (v := ?_) (d := some 124) rfl rfl (by kernel_rfl) (by kernel_rfl) (by kernel_rfl) (fun c a w h => hQ c _ a w (by rfl) h) hH ⟨?_, fun w hSw => ?_⟩ ?_
  rotate_left 1
  · exact wanted_yes (g := 8) (s := 115) rfl rfl g115_17
  · have e123 := eval_of g123_17
    obtain ⟨⟨y5, y6⟩, y7, y8, y9⟩ := hSw
    have ec : ∀ u, Act.eval b17 (.const u) = u := fun _ => rfl
    have ef : ∀ u, Act.eval b17 (.func u) = .func (.func u) #[] #[] := fun _ => rfl
    generalize Act.eval b17 = ρ at ec ef e123 ⊢
    (go_simp; all_goals with_reducible rfl)
  simp only [List.setIfInBounds_toArray, List.set_cons_zero, List.set_cons_succ]
  refine act_next (G := fun x => wpAnyH _ _ _ _ _ _ _ x _) _ 124 _ (by rw [hs17]; decide) (fun b18 s18 v18 k18 f18 => ?_)
  have hs18 := s18.trans hs17
  have hf18 := f18.trans hf17
  have hO18 : ∀ j, (j < 107 ∨ 176 ≤ j) → b18.tmps[j]? = a0.tmps[j]? := fun j hj => (k18 j (by omega)).trans (hO17 j hj)
  have g115_18 := (k18 115 (by decide)).trans g115_17
  have g117_18 := (k18 117 (by decide)).trans g117_17
  have g124_18 := v18
  clear hs17 hf17 hO17 s18 k18 f18 g115_17 g117_17 g123_17
  clear v18
  refine held_take (i := 18) (v := ?_) (d := some 125) rfl rfl (by kernel_rfl) (by kernel_rfl) (by kernel_rfl) (fun c a w h => hQ c _ a w (by rfl) h) hH ⟨?_, fun w hSw => ?_⟩ ?_
  rotate_left 1
  · exact wanted_yes (g := 8) (s := 115) rfl rfl g115_18
  · have e124 := eval_of g124_18
    have ec : ∀ u, Act.eval b18 (.const u) = u := fun _ => rfl
    have ef : ∀ u, Act.eval b18 (.func u) = .func (.func u) #[] #[] := fun _ => rfl
    generalize Act.eval b18 = ρ at ec ef e124 ⊢
    (go_simp; all_goals with_reducible rfl)
  simp only [List.setIfInBounds_toArray, List.set_cons_zero, List.set_cons_succ]
  refine act_next (G := fun x => wpAnyH _ _ _ _ _ _ _ x _) _ 125 _ (by rw [hs18]; decide) (fun b19 s19 v19 k19 f19 => ?_)
  have hs19 := s19.trans hs18
  have hf19 := f19.trans hf18
  have hO19 : ∀ j, (j < 107 ∨ 176 ≤ j) → b19.tmps[j]? = a0.tmps[j]? := fun j hj => (k19 j (by omega)).trans (hO18 j hj)
  have g115_19 := (k19 115 (by decide)).trans g115_18
  have g117_19 := (k19 117 (by decide)).trans g117_18
  have g125_19 := v19
  clear hs18 hf18 hO18 s19 k19 f19 g115_18 g117_18 g124_18
  clear v19
  refine held_take (i := 19) (v := ?_) (d := some 126) rfl rfl (by kernel_rfl) (by kernel_rfl) (by kernel_rfl) (fun c a w h => hQ c _ a w (by rfl) h) hH ⟨?_, fun w hSw => ?_⟩ ?_
  rotate_left 1
  · exact wanted_yes (g := 8) (s := 115) rfl rfl g115_19
  · have e117 := eval_of g117_19
    have e125 := eval_of g125_19
    have ec : ∀ u, Act.eval b19 (.const u) = u := fun _ => rfl
    have ef : ∀ u, Act.eval b19 (.func u) = .func (.func u) #[] #[] := fun _ => rfl
    generalize Act.eval b19 = ρ at ec ef e117 e125 ⊢
    (go_simp; all_goals with_reducible rfl)
  simp only [List.setIfInBounds_toArray, List.set_cons_zero, List.set_cons_succ]
  refine act_next (G := fun x => wpAnyH _ _ _ _ _ _ _ x _) _ 126 _ (by rw [hs19]; decide) (fun b20 s20 v20 k20 f20 => ?_)
  have hs20 := s20.trans hs19
  have hf20 := f20.trans hf19
  have hO20 : ∀ j, (j < 107 ∨ 176 ≤ j) → b20.tmps[j]? = a0.tmps[j]? := fun j hj => (k20 j (by omega)).trans (hO19 j hj)
  have g115_20 := (k20 115 (by decide)).trans g115_19
  have g126_20 := v20
  clear hs19 hf19 hO19 s20 k20 f20 g115_19 g117_19 g125_19
  clear v20
  refine held_take (i := 20) (v := ?_) (d := some 127) rfl rfl (by kernel_rfl) (by kernel_rfl) (by kernel_rfl) (fun c a w h => hQ c _ a w (by rfl) h) hH ⟨?_, fun w hSw => ?_⟩ ?_
  rotate_left 1
  · rfl
  · have e115 := eval_of g115_20
    have e126 := eval_of g126_20
    have ec : ∀ u, Act.eval b20 (.const u) = u := fun _ => rfl
    have ef : ∀ u, Act.eval b20 (.func u) = .func (.func u) #[] #[] := fun _ => rfl
    generalize Act.eval b20 = ρ at ec ef e115 e126 ⊢
    (go_simp; all_goals with_reducible rfl)
  simp only [List.setIfInBounds_toArray, List.set_cons_zero, List.set_cons_succ]
  refine act_next (G := fun x => wpAnyH _ _ _ _ _ _ _ x _) _ 127 _ (by rw [hs20]; decide) (fun b21 s21 v21 k21 f21 => ?_)
  have hs21 := s21.trans hs20
  have hf21 := f21.trans hf20
  have hO21 : ∀ j, (j < 107 ∨ 176 ≤ j) → b21.tmps[j]? = a0.tmps[j]? := fun j hj => (k21 j (by omega)).trans (hO20 j hj)
  have g127_21 := v21
  clear hs20 hf20 hO20 s21 k21 f21 g115_20 g126_20
  clear v21
  refine held_take (i := 21) (v := ?_) (d := some 128) rfl rfl (by kernel_rfl) (by kernel_rfl) (by kernel_rfl) (fun c a w h => hQ c _ a w (by rfl) h) hH ⟨?_, fun w hSw => ?_⟩ ?_
  rotate_left 1
  · rfl
  · have e127 := eval_of g127_21
    have ec : ∀ u, Act.eval b21 (.const u) = u := fun _ => rfl
    have ef : ∀ u, Act.eval b21 (.func u) = .func (.func u) #[] #[] := fun _ => rfl
    generalize Act.eval b21 = ρ at ec ef e127 ⊢
    (go_simp; all_goals with_reducible rfl)
  simp only [List.setIfInBounds_toArray, List.set_cons_zero, List.set_cons_succ]
  refine act_next (G := fun x => wpAnyH _ _ _ _ _ _ _ x _) _ 128 _ (by rw [hs21]; decide) (fun b22 s22 v22 k22 f22 => ?_)
  have hs22 := s22.trans hs21
  have hf22 := f22.trans hf21
  have hO22 : ∀ j, (j < 107 ∨ 176 ≤ j) → b22.tmps[j]? = a0.tmps[j]? := fun j hj => (k22 j (by omega)).trans (hO21 j hj)
  have g128_22 := v22
  clear hs21 hf21 hO21 s22 k22 f22 g127_21
  clear v22
  refine held_take (i := 22) (v := ?_) (d := some 129) rfl rfl (by kernel_rfl) (by kernel_rfl) (by kernel_rfl) (fun c a w h => hQ c _ a w (by rfl) h) hH ⟨?_, fun w hSw => ?_⟩ ?_
  rotate_left 1
  · exact wanted_yes (g := 21) (s := 128) rfl rfl g128_22
  · have e16 := eval_of ((hO22 16 (by decide)).trans c16)
    have ec : ∀ u, Act.eval b22 (.const u) = u := fun _ => rfl
    have ef : ∀ u, Act.eval b22 (.func u) = .func (.func u) #[] #[] := fun _ => rfl
    generalize Act.eval b22 = ρ at ec ef e16 ⊢
    (go_simp; all_goals with_reducible rfl)
  simp only [List.setIfInBounds_toArray, List.set_cons_zero, List.set_cons_succ]
  refine act_next (G := fun x => wpAnyH _ _ _ _ _ _ _ x _) _ 129 _ (by rw [hs22]; decide) (fun b23 s23 v23 k23 f23 => ?_)
  have hs23 := s23.trans hs22
  have hf23 := f23.trans hf22
  have hO23 : ∀ j, (j < 107 ∨ 176 ≤ j) → b23.tmps[j]? = a0.tmps[j]? := fun j hj => (k23 j (by omega)).trans (hO22 j hj)
  have g128_23 := (k23 128 (by decide)).trans g128_22
  have g129_23 := v23
  clear hs22 hf22 hO22 s23 k23 f23 g128_22
  clear v23
  refine held_take (i := 23) (v := ?_) (d := some 130) rfl rfl (by kernel_rfl) (by kernel_rfl) (by kernel_rfl) (fun c a w h => hQ c _ a w (by rfl) h) hH ⟨?_, fun w hSw => ?_⟩ ?_
  rotate_left 1
  · exact wanted_yes (g := 21) (s := 128) rfl rfl g128_23
  · have e129 := eval_of g129_23
    obtain ⟨⟨y5, y6⟩, y7, y8, y9⟩ := hSw
    have ec : ∀ u, Act.eval b23 (.const u) = u := fun _ => rfl
    have ef : ∀ u, Act.eval b23 (.func u) = .func (.func u) #[] #[] := fun _ => rfl
    generalize Act.eval b23 = ρ at ec ef e129 ⊢
    (go_simp; all_goals with_reducible rfl)
  simp only [List.setIfInBounds_toArray, List.set_cons_zero, List.set_cons_succ]
  refine act_next (G := fun x => wpAnyH _ _ _ _ _ _ _ x _) _ 130 _ (by rw [hs23]; decide) (fun b24 s24 v24 k24 f24 => ?_)
  have hs24 := s24.trans hs23
  have hf24 := f24.trans hf23
  have hO24 : ∀ j, (j < 107 ∨ 176 ≤ j) → b24.tmps[j]? = a0.tmps[j]? := fun j hj => (k24 j (by omega)).trans (hO23 j hj)
  have g128_24 := (k24 128 (by decide)).trans g128_23
  have g130_24 := v24
  clear hs23 hf23 hO23 s24 k24 f24 g128_23 g129_23
  clear v24
  refine held_take (i := 24) (v := ?_) (d := some 131) rfl rfl (by kernel_rfl) (by kernel_rfl) (by kernel_rfl) (fun c a w h => hQ c _ a w (by rfl) h) hH ⟨?_, fun w hSw => ?_⟩ ?_
  rotate_left 1
  · exact wanted_yes (g := 21) (s := 128) rfl rfl g128_24
  · have e13 := eval_of ((hO24 13 (by decide)).trans c13)
    have ec : ∀ u, Act.eval b24 (.const u) = u := fun _ => rfl
    have ef : ∀ u, Act.eval b24 (.func u) = .func (.func u) #[] #[] := fun _ => rfl
    generalize Act.eval b24 = ρ at ec ef e13 ⊢
    (go_simp; all_goals with_reducible rfl)
  simp only [List.setIfInBounds_toArray, List.set_cons_zero, List.set_cons_succ]
  refine act_next (G := fun x => wpAnyH _ _ _ _ _ _ _ x _) _ 131 _ (by rw [hs24]; decide) (fun b25 s25 v25 k25 f25 => ?_)
  have hs25 := s25.trans hs24
  have hf25 := f25.trans hf24
  have hO25 : ∀ j, (j < 107 ∨ 176 ≤ j) → b25.tmps[j]? = a0.tmps[j]? := fun j hj => (k25 j (by omega)).trans (hO24 j hj)
  have g128_25 := (k25 128 (by decide)).trans g128_24
  have g130_25 := (k25 130 (by decide)).trans g130_24
  have g131_25 := v25
  clear hs24 hf24 hO24 s25 k25 f25 g128_24 g130_24
  clear v25
  refine held_take (i := 25) (v := ?_) (d := some 132) rfl rfl (by kernel_rfl) (by kernel_rfl) (by kernel_rfl) (fun c a w h => hQ c _ a w (by rfl) h) hH ⟨?_, fun w hSw => ?_⟩ ?_
  rotate_left 1
  · exact wanted_yes (g := 21) (s := 128) rfl rfl g128_25
  · have e131 := eval_of g131_25
    have ec : ∀ u, Act.eval b25 (.const u) = u := fun _ => rfl
    have ef : ∀ u, Act.eval b25 (.func u) = .func (.func u) #[] #[] := fun _ => rfl
    generalize Act.eval b25 = ρ at ec ef e131 ⊢
    (go_simp; all_goals with_reducible rfl)
  simp only [List.setIfInBounds_toArray, List.set_cons_zero, List.set_cons_succ]
  refine act_next (G := fun x => wpAnyH _ _ _ _ _ _ _ x _) _ 132 _ (by rw [hs25]; decide) (fun b26 s26 v26 k26 f26 => ?_)
  have hs26 := s26.trans hs25
  have hf26 := f26.trans hf25
  have hO26 : ∀ j, (j < 107 ∨ 176 ≤ j) → b26.tmps[j]? = a0.tmps[j]? := fun j hj => (k26 j (by omega)).trans (hO25 j hj)
  have g128_26 := (k26 128 (by decide)).trans g128_25
  have g130_26 := (k26 130 (by decide)).trans g130_25
  have g132_26 := v26
  clear hs25 hf25 hO25 s26 k26 f26 g128_25 g130_25 g131_25
  clear v26
  refine held_take (i := 26) (v := ?_) (d := some 133) rfl rfl (by kernel_rfl) (by kernel_rfl) (by kernel_rfl) (fun c a w h => hQ c _ a w (by rfl) h) hH ⟨?_, fun w hSw => ?_⟩ ?_
  rotate_left 1
  · exact wanted_yes (g := 21) (s := 128) rfl rfl g128_26
  · have e132 := eval_of g132_26
    have ec : ∀ u, Act.eval b26 (.const u) = u := fun _ => rfl
    have ef : ∀ u, Act.eval b26 (.func u) = .func (.func u) #[] #[] := fun _ => rfl
    generalize Act.eval b26 = ρ at ec ef e132 ⊢
    (go_simp; all_goals with_reducible rfl)
  simp only [List.setIfInBounds_toArray, List.set_cons_zero, List.set_cons_succ]
  refine act_next (G := fun x => wpAnyH _ _ _ _ _ _ _ x _) _ 133 _ (by rw [hs26]; decide) (fun b27 s27 v27 k27 f27 => ?_)
  have hs27 := s27.trans hs26
  have hf27 := f27.trans hf26
  have hO27 : ∀ j, (j < 107 ∨ 176 ≤ j) → b27.tmps[j]? = a0.tmps[j]? := fun j hj => (k27 j (by omega)).trans (hO26 j hj)
  have g128_27 := (k27 128 (by decide)).trans g128_26
  have g130_27 := (k27 130 (by decide)).trans g130_26
  have g133_27 := v27
  clear hs26 hf26 hO26 s27 k27 f27 g128_26 g130_26 g132_26
  clear v27
  refine held_take (i := 27) (v := ?_) (d := some 134) rfl rfl (by kernel_rfl) (by kernel_rfl) (by kernel_rfl) (fun c a w h => hQ c _ a w (by rfl) h) hH ⟨?_, fun w hSw => ?_⟩ ?_
  rotate_left 1
  · exact wanted_yes (g := 21) (s := 128) rfl rfl g128_27
  · have e133 := eval_of g133_27
    obtain ⟨⟨y5, y6⟩, y7, y8, y9⟩ := hSw
    have ec : ∀ u, Act.eval b27 (.const u) = u := fun _ => rfl
    have ef : ∀ u, Act.eval b27 (.func u) = .func (.func u) #[] #[] := fun _ => rfl
    generalize Act.eval b27 = ρ at ec ef e133 ⊢
    (go_simp; all_goals with_reducible rfl)
  simp only [List.setIfInBounds_toArray, List.set_cons_zero, List.set_cons_succ]
  refine act_next (G := fun x => wpAnyH _ _ _ _ _ _ _ x _) _ 134 _ (by rw [hs27]; decide) (fun b28 s28 v28 k28 f28 => ?_)
  have hs28 := s28.trans hs27
  have hf28 := f28.trans hf27
  have hO28 : ∀ j, (j < 107 ∨ 176 ≤ j) → b28.tmps[j]? = a0.tmps[j]? := fun j hj => (k28 j (by omega)).trans (hO27 j hj)
  have g128_28 := (k28 128 (by decide)).trans g128_27
  have g130_28 := (k28 130 (by decide)).trans g130_27
  have g134_28 := v28
  clear hs27 hf27 hO27 s28 k28 f28 g128_27 g130_27 g133_27
  clear v28
  refine held_take (i := 28) (v := ?_) (d := some 135) rfl rfl (by kernel_rfl) (by kernel_rfl) (by kernel_rfl) (fun c a w h => hQ c _ a w (by rfl) h) hH ⟨?_, fun w hSw => ?_⟩ ?_
  rotate_left 1
  · exact wanted_yes (g := 21) (s := 128) rfl rfl g128_28
  · have e134 := eval_of g134_28
    have ec : ∀ u, Act.eval b28 (.const u) = u := fun _ => rfl
    have ef : ∀ u, Act.eval b28 (.func u) = .func (.func u) #[] #[] := fun _ => rfl
    generalize Act.eval b28 = ρ at ec ef e134 ⊢
    (go_simp; all_goals with_reducible rfl)
  simp only [List.setIfInBounds_toArray, List.set_cons_zero, List.set_cons_succ]
  refine act_next (G := fun x => wpAnyH _ _ _ _ _ _ _ x _) _ 135 _ (by rw [hs28]; decide) (fun b29 s29 v29 k29 f29 => ?_)
  have hs29 := s29.trans hs28
  have hf29 := f29.trans hf28
  have hO29 : ∀ j, (j < 107 ∨ 176 ≤ j) → b29.tmps[j]? = a0.tmps[j]? := fun j hj => (k29 j (by omega)).trans (hO28 j hj)
  have g128_29 := (k29 128 (by decide)).trans g128_28
  have g130_29 := (k29 130 (by decide)).trans g130_28
  have g135_29 := v29
  clear hs28 hf28 hO28 s29 k29 f29 g128_28 g130_28 g134_28
  clear v29
  refine held_take (i := 29) (v := ?_) (d := some 136) rfl rfl (by kernel_rfl) (by kernel_rfl) (by kernel_rfl) (fun c a w h => hQ c _ a w (by rfl) h) hH ⟨?_, fun w hSw => ?_⟩ ?_
  rotate_left 1
  · exact wanted_yes (g := 21) (s := 128) rfl rfl g128_29
  · have e135 := eval_of g135_29
    have ec : ∀ u, Act.eval b29 (.const u) = u := fun _ => rfl
    have ef : ∀ u, Act.eval b29 (.func u) = .func (.func u) #[] #[] := fun _ => rfl
    generalize Act.eval b29 = ρ at ec ef e135 ⊢
    (go_simp; all_goals with_reducible rfl)
  simp only [List.setIfInBounds_toArray, List.set_cons_zero, List.set_cons_succ]
  refine act_next (G := fun x => wpAnyH _ _ _ _ _ _ _ x _) _ 136 _ (by rw [hs29]; decide) (fun b30 s30 v30 k30 f30 => ?_)
  have hs30 := s30.trans hs29
  have hf30 := f30.trans hf29
  have hO30 : ∀ j, (j < 107 ∨ 176 ≤ j) → b30.tmps[j]? = a0.tmps[j]? := fun j hj => (k30 j (by omega)).trans (hO29 j hj)
  have g128_30 := (k30 128 (by decide)).trans g128_29
  have g130_30 := (k30 130 (by decide)).trans g130_29
  have g136_30 := v30
  clear hs29 hf29 hO29 s30 k30 f30 g128_29 g130_29 g135_29
  clear v30
  refine held_take (i := 30) (v := ?_) (d := some 137) rfl rfl (by kernel_rfl) (by kernel_rfl) (by kernel_rfl) (fun c a w h => hQ c _ a w (by rfl) h) hH ⟨?_, fun w hSw => ?_⟩ ?_
  rotate_left 1
  · exact wanted_yes (g := 21) (s := 128) rfl rfl g128_30
  · have e136 := eval_of g136_30
    obtain ⟨⟨y5, y6⟩, y7, y8, y9⟩ := hSw
    have ec : ∀ u, Act.eval b30 (.const u) = u := fun _ => rfl
    have ef : ∀ u, Act.eval b30 (.func u) = .func (.func u) #[] #[] := fun _ => rfl
    generalize Act.eval b30 = ρ at ec ef e136 ⊢
    (go_simp; all_goals with_reducible rfl)
  simp only [List.setIfInBounds_toArray, List.set_cons_zero, List.set_cons_succ]
  refine act_next (G := fun x => wpAnyH _ _ _ _ _ _ _ x _) _ 137 _ (by rw [hs30]; decide) (fun b31 s31 v31 k31 f31 => ?_)
  have hs31 := s31.trans hs30
  have hf31 := f31.trans hf30
  have hO31 : ∀ j, (j < 107 ∨ 176 ≤ j) → b31.tmps[j]? = a0.tmps[j]? := fun j hj => (k31 j (by omega)).trans (hO30 j hj)
  have g128_31 := (k31 128 (by decide)).trans g128_30
  have g130_31 := (k31 130 (by decide)).trans g130_30
  have g137_31 := v31
  clear hs30 hf30 hO30 s31 k31 f31 g128_30 g130_30 g136_30
  clear v31
  refine held_take (i := 31) (v := ?_) (d := some 138) rfl rfl (by kernel_rfl) (by kernel_rfl) (by kernel_rfl) (fun c a w h => hQ c _ a w (by rfl) h) hH ⟨?_, fun w hSw => ?_⟩ ?_
  rotate_left 1
  · exact wanted_yes (g := 21) (s := 128) rfl rfl g128_31
  · have e137 := eval_of g137_31
    have ec : ∀ u, Act.eval b31 (.const u) = u := fun _ => rfl
    have ef : ∀ u, Act.eval b31 (.func u) = .func (.func u) #[] #[] := fun _ => rfl
    generalize Act.eval b31 = ρ at ec ef e137 ⊢
    (go_simp; all_goals with_reducible rfl)
  simp only [List.setIfInBounds_toArray, List.set_cons_zero, List.set_cons_succ]
  refine act_next (G := fun x => wpAnyH _ _ _ _ _ _ _ x _) _ 138 _ (by rw [hs31]; decide) (fun b32 s32 v32 k32 f32 => ?_)
  have hs32 := s32.trans hs31
  have hf32 := f32.trans hf31
  have hO32 : ∀ j, (j < 107 ∨ 176 ≤ j) → b32.tmps[j]? = a0.tmps[j]? := fun j hj => (k32 j (by omega)).trans (hO31 j hj)
  have g128_32 := (k32 128 (by decide)).trans g128_31
  have g130_32 := (k32 130 (by decide)).trans g130_31
  have g138_32 := v32
  clear hs31 hf31 hO31 s32 k32 f32 g128_31 g130_31 g137_31
  clear v32
  refine held_take (i := 32) (v := ?_) (d := some 139) rfl rfl (by kernel_rfl) (by kernel_rfl) (by kernel_rfl) (fun c a w h => hQ c _ a w (by rfl) h) hH ⟨?_, fun w hSw => ?_⟩ ?_
  rotate_left 1
  · exact wanted_yes (g := 21) (s := 128) rfl rfl g128_32
  · have e16 := eval_of ((hO32 16 (by decide)).trans c16)
    have ec : ∀ u, Act.eval b32 (.const u) = u := fun _ => rfl
    have ef : ∀ u, Act.eval b32 (.func u) = .func (.func u) #[] #[] := fun _ => rfl
    generalize Act.eval b32 = ρ at ec ef e16 ⊢
    (go_simp; all_goals with_reducible rfl)
  simp only [List.setIfInBounds_toArray, List.set_cons_zero, List.set_cons_succ]
  refine act_next (G := fun x => wpAnyH _ _ _ _ _ _ _ x _) _ 139 _ (by rw [hs32]; decide) (fun b33 s33 v33 k33 f33 => ?_)
  have hs33 := s33.trans hs32
  have hf33 := f33.trans hf32
  have hO33 : ∀ j, (j < 107 ∨ 176 ≤ j) → b33.tmps[j]? = a0.tmps[j]? := fun j hj => (k33 j (by omega)).trans (hO32 j hj)
  have g128_33 := (k33 128 (by decide)).trans g128_32
  have g130_33 := (k33 130 (by decide)).trans g130_32
  have g138_33 := (k33 138 (by decide)).trans g138_32
  have g139_33 := v33
  clear hs32 hf32 hO32 s33 k33 f33 g128_32 g130_32 g138_32
  clear v33
  refine held_take (i := 33) (v := ?_) (d := some 140) rfl rfl (by kernel_rfl) (by kernel_rfl) (by kernel_rfl) (fun c a w h => hQ c _ a w (by rfl) h) hH ⟨?_, fun w hSw => ?_⟩ ?_
  rotate_left 1
  · exact wanted_yes (g := 21) (s := 128) rfl rfl g128_33
  · have e139 := eval_of g139_33
    obtain ⟨⟨y5, y6⟩, y7, y8, y9⟩ := hSw
    have ec : ∀ u, Act.eval b33 (.const u) = u := fun _ => rfl
    have ef : ∀ u, Act.eval b33 (.func u) = .func (.func u) #[] #[] := fun _ => rfl
    generalize Act.eval b33 = ρ at ec ef e139 ⊢
    (go_simp; all_goals with_reducible rfl)
  simp only [List.setIfInBounds_toArray, List.set_cons_zero, List.set_cons_succ]
  refine act_next (G := fun x => wpAnyH _ _ _ _ _ _ _ x _) _ 140 _ (by rw [hs33]; decide) (fun b34 s34 v34 k34 f34 => ?_)
  have hs34 := s34.trans hs33
  have hf34 := f34.trans hf33
  have hO34 : ∀ j, (j < 107 ∨ 176 ≤ j) → b34.tmps[j]? = a0.tmps[j]? := fun j hj => (k34 j (by omega)).trans (hO33 j hj)
  have g128_34 := (k34 128 (by decide)).trans g128_33
  have g130_34 := (k34 130 (by decide)).trans g130_33
  have g138_34 := (k34 138 (by decide)).trans g138_33
  have g140_34 := v34
  clear hs33 hf33 hO33 s34 k34 f34 g128_33 g130_33 g138_33 g139_33
  clear v34
  refine held_take (i := 34) (v := ?_) (d := some 141) rfl rfl (by kernel_rfl) (by kernel_rfl) (by kernel_rfl) (fun c a w h => hQ c _ a w (by rfl) h) hH ⟨?_, fun w hSw => ?_⟩ ?_
  rotate_left 1
  · exact wanted_yes (g := 21) (s := 128) rfl rfl g128_34
  · have e138 := eval_of g138_34
    have e140 := eval_of g140_34
    have ec : ∀ u, Act.eval b34 (.const u) = u := fun _ => rfl
    have ef : ∀ u, Act.eval b34 (.func u) = .func (.func u) #[] #[] := fun _ => rfl
    generalize Act.eval b34 = ρ at ec ef e138 e140 ⊢
    (go_simp; all_goals with_reducible rfl)
  simp only [List.setIfInBounds_toArray, List.set_cons_zero, List.set_cons_succ]
  refine act_next (G := fun x => wpAnyH _ _ _ _ _ _ _ x _) _ 141 _ (by rw [hs34]; decide) (fun b35 s35 v35 k35 f35 => ?_)
  have hs35 := s35.trans hs34
  have hf35 := f35.trans hf34
  have hO35 : ∀ j, (j < 107 ∨ 176 ≤ j) → b35.tmps[j]? = a0.tmps[j]? := fun j hj => (k35 j (by omega)).trans (hO34 j hj)
  have g128_35 := (k35 128 (by decide)).trans g128_34
  have g130_35 := (k35 130 (by decide)).trans g130_34
  have g141_35 := v35
  clear hs34 hf34 hO34 s35 k35 f35 g128_34 g130_34 g138_34 g140_34
  clear v35
  refine held_take (i := 35) (v := ?_) (d := some 142) rfl rfl (by kernel_rfl) (by kernel_rfl) (by kernel_rfl) (fun c a w h => hQ c _ a w (by rfl) h) hH ⟨?_, fun w hSw => ?_⟩ ?_
  rotate_left 1
  · exact wanted_yes (g := 21) (s := 128) rfl rfl g128_35
  · have e130 := eval_of g130_35
    have e141 := eval_of g141_35
    have ec : ∀ u, Act.eval b35 (.const u) = u := fun _ => rfl
    have ef : ∀ u, Act.eval b35 (.func u) = .func (.func u) #[] #[] := fun _ => rfl
    generalize Act.eval b35 = ρ at ec ef e130 e141 ⊢
    (go_simp; all_goals with_reducible rfl)
  simp only [List.setIfInBounds_toArray, List.set_cons_zero, List.set_cons_succ]
  refine act_next (G := fun x => wpAnyH _ _ _ _ _ _ _ x _) _ 142 _ (by rw [hs35]; decide) (fun b36 s36 v36 k36 f36 => ?_)
  have hs36 := s36.trans hs35
  have hf36 := f36.trans hf35
  have hO36 : ∀ j, (j < 107 ∨ 176 ≤ j) → b36.tmps[j]? = a0.tmps[j]? := fun j hj => (k36 j (by omega)).trans (hO35 j hj)
  have g128_36 := (k36 128 (by decide)).trans g128_35
  have g142_36 := v36
  clear hs35 hf35 hO35 s36 k36 f36 g128_35 g130_35 g141_35
  clear v36
  refine held_take (i := 36) (v := ?_) (d := some 143) rfl rfl (by kernel_rfl) (by kernel_rfl) (by kernel_rfl) (fun c a w h => hQ c _ a w (by rfl) h) hH ⟨?_, fun w hSw => ?_⟩ ?_
  rotate_left 1
  · rfl
  · have e128 := eval_of g128_36
    have e142 := eval_of g142_36
    have ec : ∀ u, Act.eval b36 (.const u) = u := fun _ => rfl
    have ef : ∀ u, Act.eval b36 (.func u) = .func (.func u) #[] #[] := fun _ => rfl
    generalize Act.eval b36 = ρ at ec ef e128 e142 ⊢
    (go_simp; all_goals with_reducible rfl)
  simp only [List.setIfInBounds_toArray, List.set_cons_zero, List.set_cons_succ]
  refine act_next (G := fun x => wpAnyH _ _ _ _ _ _ _ x _) _ 143 _ (by rw [hs36]; decide) (fun b37 s37 v37 k37 f37 => ?_)
  have hs37 := s37.trans hs36
  have hf37 := f37.trans hf36
  have hO37 : ∀ j, (j < 107 ∨ 176 ≤ j) → b37.tmps[j]? = a0.tmps[j]? := fun j hj => (k37 j (by omega)).trans (hO36 j hj)
  have g143_37 := v37
  clear hs36 hf36 hO36 s37 k37 f37 g128_36 g142_36
  clear v37
  refine held_take (i := 37) (v := ?_) (d := some 144) rfl rfl (by kernel_rfl) (by kernel_rfl) (by kernel_rfl) (fun c a w h => hQ c _ a w (by rfl) h) hH ⟨?_, fun w hSw => ?_⟩ ?_
  rotate_left 1
  · rfl
  · have e143 := eval_of g143_37
    have ec : ∀ u, Act.eval b37 (.const u) = u := fun _ => rfl
    have ef : ∀ u, Act.eval b37 (.func u) = .func (.func u) #[] #[] := fun _ => rfl
    generalize Act.eval b37 = ρ at ec ef e143 ⊢
    (go_simp; all_goals with_reducible rfl)
  simp only [List.setIfInBounds_toArray, List.set_cons_zero, List.set_cons_succ]
  refine act_next (G := fun x => wpAnyH _ _ _ _ _ _ _ x _) _ 144 _ (by rw [hs37]; decide) (fun b38 s38 v38 k38 f38 => ?_)
  have hs38 := s38.trans hs37
  have hf38 := f38.trans hf37
  have hO38 : ∀ j, (j < 107 ∨ 176 ≤ j) → b38.tmps[j]? = a0.tmps[j]? := fun j hj => (k38 j (by omega)).trans (hO37 j hj)
  have g144_38 := v38
  clear hs37 hf37 hO37 s38 k38 f38 g143_37
  clear v38
  refine held_take (i := 38) (v := ?_) (d := some 145) rfl rfl (by kernel_rfl) (by kernel_rfl) (by kernel_rfl) (fun c a w h => hQ c _ a w (by rfl) h) hH ⟨?_, fun w hSw => ?_⟩ ?_
  rotate_left 1
  · exact wanted_yes (g := 37) (s := 144) rfl rfl g144_38
  · have e10 := eval_of ((hO38 10 (by decide)).trans c10)
    have ec : ∀ u, Act.eval b38 (.const u) = u := fun _ => rfl
    have ef : ∀ u, Act.eval b38 (.func u) = .func (.func u) #[] #[] := fun _ => rfl
    generalize Act.eval b38 = ρ at ec ef e10 ⊢
    (go_simp; all_goals with_reducible rfl)
  simp only [List.setIfInBounds_toArray, List.set_cons_zero, List.set_cons_succ]
  refine act_next (G := fun x => wpAnyH _ _ _ _ _ _ _ x _) _ 145 _ (by rw [hs38]; decide) (fun b39 s39 v39 k39 f39 => ?_)
  have hs39 := s39.trans hs38
  have hf39 := f39.trans hf38
  have hO39 : ∀ j, (j < 107 ∨ 176 ≤ j) → b39.tmps[j]? = a0.tmps[j]? := fun j hj => (k39 j (by omega)).trans (hO38 j hj)
  have g144_39 := (k39 144 (by decide)).trans g144_38
  have g145_39 := v39
  clear hs38 hf38 hO38 s39 k39 f39 g144_38
  clear v39
  refine held_take (i := 39) (v := ?_) (d := some 146) rfl rfl (by kernel_rfl) (by kernel_rfl) (by kernel_rfl) (fun c a w h => hQ c _ a w (by rfl) h) hH ⟨?_, fun w hSw => ?_⟩ ?_
  rotate_left 1
  · exact wanted_yes (g := 37) (s := 144) rfl rfl g144_39
  · have e145 := eval_of g145_39
    have ec : ∀ u, Act.eval b39 (.const u) = u := fun _ => rfl
    have ef : ∀ u, Act.eval b39 (.func u) = .func (.func u) #[] #[] := fun _ => rfl
    generalize Act.eval b39 = ρ at ec ef e145 ⊢
    (go_simp; all_goals with_reducible rfl)
  simp only [List.setIfInBounds_toArray, List.set_cons_zero, List.set_cons_succ]
  refine act_next (G := fun x => wpAnyH _ _ _ _ _ _ _ x _) _ 146 _ (by rw [hs39]; decide) (fun b40 s40 v40 k40 f40 => ?_)
  have hs40 := s40.trans hs39
  have hf40 := f40.trans hf39
  have hO40 : ∀ j, (j < 107 ∨ 176 ≤ j) → b40.tmps[j]? = a0.tmps[j]? := fun j hj => (k40 j (by omega)).trans (hO39 j hj)
  have g144_40 := (k40 144 (by decide)).trans g144_39
  have g146_40 := v40
  clear hs39 hf39 hO39 s40 k40 f40 g144_39 g145_39
  clear v40
  refine held_take (i := 40) (v := ?_) (d := some 147) rfl rfl (by kernel_rfl) (by kernel_rfl) (by kernel_rfl) (fun c a w h => hQ c _ a w (by rfl) h) hH ⟨?_, fun w hSw => ?_⟩ ?_
  rotate_left 1
  · exact wanted_yes (g := 37) (s := 144) rfl rfl g144_40
  · have e146 := eval_of g146_40
    have ec : ∀ u, Act.eval b40 (.const u) = u := fun _ => rfl
    have ef : ∀ u, Act.eval b40 (.func u) = .func (.func u) #[] #[] := fun _ => rfl
    generalize Act.eval b40 = ρ at ec ef e146 ⊢
    (go_simp; all_goals with_reducible rfl)
  simp only [List.setIfInBounds_toArray, List.set_cons_zero, List.set_cons_succ]
  refine act_next (G := fun x => wpAnyH _ _ _ _ _ _ _ x _) _ 147 _ (by rw [hs40]; decide) (fun b41 s41 v41 k41 f41 => ?_)
  have hs41 := s41.trans hs40
  have hf41 := f41.trans hf40
  have hO41 : ∀ j, (j < 107 ∨ 176 ≤ j) → b41.tmps[j]? = a0.tmps[j]? := fun j hj => (k41 j (by omega)).trans (hO40 j hj)
  have g144_41 := (k41 144 (by decide)).trans g144_40
  have g147_41 := v41
  clear hs40 hf40 hO40 s41 k41 f41 g144_40 g146_40
  clear v41
  refine held_take (i := 41) (v := ?_) (d := some 148) rfl rfl (by kernel_rfl) (by kernel_rfl) (by kernel_rfl) (fun c a w h => hQ c _ a w (by rfl) h) hH ⟨?_, fun w hSw => ?_⟩ ?_
  rotate_left 1
  · exact wanted_yes (g := 37) (s := 144) rfl rfl g144_41
  · have e147 := eval_of g147_41
    obtain ⟨⟨y5, y6⟩, y7, y8, y9⟩ := hSw
    have ec : ∀ u, Act.eval b41 (.const u) = u := fun _ => rfl
    have ef : ∀ u, Act.eval b41 (.func u) = .func (.func u) #[] #[] := fun _ => rfl
    generalize Act.eval b41 = ρ at ec ef e147 ⊢
    (go_simp; all_goals with_reducible rfl)
  simp only [List.setIfInBounds_toArray, List.set_cons_zero, List.set_cons_succ]
  refine act_next (G := fun x => wpAnyH _ _ _ _ _ _ _ x _) _ 148 _ (by rw [hs41]; decide) (fun b42 s42 v42 k42 f42 => ?_)
  have hs42 := s42.trans hs41
  have hf42 := f42.trans hf41
  have hO42 : ∀ j, (j < 107 ∨ 176 ≤ j) → b42.tmps[j]? = a0.tmps[j]? := fun j hj => (k42 j (by omega)).trans (hO41 j hj)
  have g144_42 := (k42 144 (by decide)).trans g144_41
  have g148_42 := v42
  clear hs41 hf41 hO41 s42 k42 f42 g144_41 g147_41
  clear v42
  refine held_take (i := 42) (v := ?_) (d := some 149) rfl rfl (by kernel_rfl) (by kernel_rfl) (by kernel_rfl) (fun c a w h => hQ c _ a w (by rfl) h) hH ⟨?_, fun w hSw => ?_⟩ ?_
  rotate_left 1
  · exact wanted_yes (g := 37) (s := 144) rfl rfl g144_42
  · have e148 := eval_of g148_42
    have ec : ∀ u, Act.eval b42 (.const u) = u := fun _ => rfl
    have ef : ∀ u, Act.eval b42 (.func u) = .func (.func u) #[] #[] := fun _ => rfl
    generalize Act.eval b42 = ρ at ec ef e148 ⊢
    (go_simp; all_goals with_reducible rfl)
  simp only [List.setIfInBounds_toArray, List.set_cons_zero, List.set_cons_succ]
  refine act_next (G := fun x => wpAnyH _ _ _ _ _ _ _ x _) _ 149 _ (by rw [hs42]; decide) (fun b43 s43 v43 k43 f43 => ?_)
  have hs43 := s43.trans hs42
  have hf43 := f43.trans hf42
  have hO43 : ∀ j, (j < 107 ∨ 176 ≤ j) → b43.tmps[j]? = a0.tmps[j]? := fun j hj => (k43 j (by omega)).trans (hO42 j hj)
  have g144_43 := (k43 144 (by decide)).trans g144_42
  have g149_43 := v43
  clear hs42 hf42 hO42 s43 k43 f43 g144_42 g148_42
  clear v43
  refine held_take (i := 43) (v := ?_) (d := some 150) rfl rfl (by kernel_rfl) (by kernel_rfl) (by kernel_rfl) (fun c a w h => hQ c _ a w (by rfl) h) hH ⟨?_, fun w hSw => ?_⟩ ?_
  rotate_left 1
  · rfl
  · have e144 := eval_of g144_43
    have e149 := eval_of g149_43
    have ec : ∀ u, Act.eval b43 (.const u) = u := fun _ => rfl
    have ef : ∀ u, Act.eval b43 (.func u) = .func (.func u) #[] #[] := fun _ => rfl
    generalize Act.eval b43 = ρ at ec ef e144 e149 ⊢
    (go_simp; all_goals with_reducible rfl)
  simp only [List.setIfInBounds_toArray, List.set_cons_zero, List.set_cons_succ]
  refine act_next (G := fun x => wpAnyH _ _ _ _ _ _ _ x _) _ 150 _ (by rw [hs43]; decide) (fun b44 s44 v44 k44 f44 => ?_)
  have hs44 := s44.trans hs43
  have hf44 := f44.trans hf43
  have hO44 : ∀ j, (j < 107 ∨ 176 ≤ j) → b44.tmps[j]? = a0.tmps[j]? := fun j hj => (k44 j (by omega)).trans (hO43 j hj)
  have g150_44 := v44
  clear hs43 hf43 hO43 s44 k44 f44 g144_43 g149_43
  clear v44
  refine held_take (i := 44) (v := ?_) (d := some 151) rfl rfl (by kernel_rfl) (by kernel_rfl) (by kernel_rfl) (fun c a w h => hQ c _ a w (by rfl) h) hH ⟨?_, fun w hSw => ?_⟩ ?_
  rotate_left 1
  · rfl
  · have e150 := eval_of g150_44
    have ec : ∀ u, Act.eval b44 (.const u) = u := fun _ => rfl
    have ef : ∀ u, Act.eval b44 (.func u) = .func (.func u) #[] #[] := fun _ => rfl
    generalize Act.eval b44 = ρ at ec ef e150 ⊢
    (go_simp; all_goals with_reducible rfl)
  simp only [List.setIfInBounds_toArray, List.set_cons_zero, List.set_cons_succ]
  refine act_next (G := fun x => wpAnyH _ _ _ _ _ _ _ x _) _ 151 _ (by rw [hs44]; decide) (fun b45 s45 v45 k45 f45 => ?_)
  have hs45 := s45.trans hs44
  have hf45 := f45.trans hf44
  have hO45 : ∀ j, (j < 107 ∨ 176 ≤ j) → b45.tmps[j]? = a0.tmps[j]? := fun j hj => (k45 j (by omega)).trans (hO44 j hj)
  have g151_45 := v45
  clear hs44 hf44 hO44 s45 k45 f45 g150_44
  clear v45
  refine held_take (i := 45) (v := ?_) (d := some 152) rfl rfl (by kernel_rfl) (by kernel_rfl) (by kernel_rfl) (fun c a w h => hQ c _ a w (by rfl) h) hH ⟨?_, fun w hSw => ?_⟩ ?_
  rotate_left 1
  · exact wanted_yes (g := 44) (s := 151) rfl rfl g151_45
  · have e11 := eval_of ((hO45 11 (by decide)).trans c11)
    have ec : ∀ u, Act.eval b45 (.const u) = u := fun _ => rfl
    have ef : ∀ u, Act.eval b45 (.func u) = .func (.func u) #[] #[] := fun _ => rfl
    generalize Act.eval b45 = ρ at ec ef e11 ⊢
    (go_simp; all_goals with_reducible rfl)
  simp only [List.setIfInBounds_toArray, List.set_cons_zero, List.set_cons_succ]
  refine act_next (G := fun x => wpAnyH _ _ _ _ _ _ _ x _) _ 152 _ (by rw [hs45]; decide) (fun b46 s46 v46 k46 f46 => ?_)
  have hs46 := s46.trans hs45
  have hf46 := f46.trans hf45
  have hO46 : ∀ j, (j < 107 ∨ 176 ≤ j) → b46.tmps[j]? = a0.tmps[j]? := fun j hj => (k46 j (by omega)).trans (hO45 j hj)
  have g151_46 := (k46 151 (by decide)).trans g151_45
  have g152_46 := v46
  clear hs45 hf45 hO45 s46 k46 f46 g151_45
  clear v46
  refine held_take (i := 46) (v := ?_) (d := some 153) rfl rfl (by kernel_rfl) (by kernel_rfl) (by kernel_rfl) (fun c a w h => hQ c _ a w (by rfl) h) hH ⟨?_, fun w hSw => ?_⟩ ?_
  rotate_left 1
  · exact wanted_yes (g := 44) (s := 151) rfl rfl g151_46
  · have e16 := eval_of ((hO46 16 (by decide)).trans c16)
    have ec : ∀ u, Act.eval b46 (.const u) = u := fun _ => rfl
    have ef : ∀ u, Act.eval b46 (.func u) = .func (.func u) #[] #[] := fun _ => rfl
    generalize Act.eval b46 = ρ at ec ef e16 ⊢
    (go_simp; all_goals with_reducible rfl)
  simp only [List.setIfInBounds_toArray, List.set_cons_zero, List.set_cons_succ]
  refine act_next (G := fun x => wpAnyH _ _ _ _ _ _ _ x _) _ 153 _ (by rw [hs46]; decide) (fun b47 s47 v47 k47 f47 => ?_)
  have hs47 := s47.trans hs46
  have hf47 := f47.trans hf46
  have hO47 : ∀ j, (j < 107 ∨ 176 ≤ j) → b47.tmps[j]? = a0.tmps[j]? := fun j hj => (k47 j (by omega)).trans (hO46 j hj)
  have g151_47 := (k47 151 (by decide)).trans g151_46
  have g152_47 := (k47 152 (by decide)).trans g152_46
  have g153_47 := v47
  clear hs46 hf46 hO46 s47 k47 f47 g151_46 g152_46
  clear v47
  refine held_take (i := 47) (v := ?_) (d := some 154) rfl rfl (by kernel_rfl) (by kernel_rfl) (by kernel_rfl) (fun c a w h => hQ c _ a w (by rfl) h) hH ⟨?_, fun w hSw => ?_⟩ ?_
  rotate_left 1
  · exact wanted_yes (g := 44) (s := 151) rfl rfl g151_47
  · have e153 := eval_of g153_47
    obtain ⟨⟨y5, y6⟩, y7, y8, y9⟩ := hSw
    have ec : ∀ u, Act.eval b47 (.const u) = u := fun _ => rfl
    have ef : ∀ u, Act.eval b47 (.func u) = .func (.func u) #[] #[] := fun _ => rfl
    generalize Act.eval b47 = ρ at ec ef e153 ⊢
    (go_simp; all_goals with_reducible rfl)
  simp only [List.setIfInBounds_toArray, List.set_cons_zero, List.set_cons_succ]
  refine act_next (G := fun x => wpAnyH _ _ _ _ _ _ _ x _) _ 154 _ (by rw [hs47]; decide) (fun b48 s48 v48 k48 f48 => ?_)
  have hs48 := s48.trans hs47
  have hf48 := f48.trans hf47
  have hO48 : ∀ j, (j < 107 ∨ 176 ≤ j) → b48.tmps[j]? = a0.tmps[j]? := fun j hj => (k48 j (by omega)).trans (hO47 j hj)
  have g151_48 := (k48 151 (by decide)).trans g151_47
  have g152_48 := (k48 152 (by decide)).trans g152_47
  have g154_48 := v48
  clear hs47 hf47 hO47 s48 k48 f48 g151_47 g152_47 g153_47
  clear v48
  refine held_take (i := 48) (v := ?_) (d := some 155) rfl rfl (by kernel_rfl) (by kernel_rfl) (by kernel_rfl) (fun c a w h => hQ c _ a w (by rfl) h) hH ⟨?_, fun w hSw => ?_⟩ ?_
  rotate_left 1
  · exact wanted_yes (g := 44) (s := 151) rfl rfl g151_48
  · have e16 := eval_of ((hO48 16 (by decide)).trans c16)
    have ec : ∀ u, Act.eval b48 (.const u) = u := fun _ => rfl
    have ef : ∀ u, Act.eval b48 (.func u) = .func (.func u) #[] #[] := fun _ => rfl
    generalize Act.eval b48 = ρ at ec ef e16 ⊢
    (go_simp; all_goals with_reducible rfl)
  simp only [List.setIfInBounds_toArray, List.set_cons_zero, List.set_cons_succ]
  refine act_next (G := fun x => wpAnyH _ _ _ _ _ _ _ x _) _ 155 _ (by rw [hs48]; decide) (fun b49 s49 v49 k49 f49 => ?_)
  have hs49 := s49.trans hs48
  have hf49 := f49.trans hf48
  have hO49 : ∀ j, (j < 107 ∨ 176 ≤ j) → b49.tmps[j]? = a0.tmps[j]? := fun j hj => (k49 j (by omega)).trans (hO48 j hj)
  have g151_49 := (k49 151 (by decide)).trans g151_48
  have g152_49 := (k49 152 (by decide)).trans g152_48
  have g154_49 := (k49 154 (by decide)).trans g154_48
  have g155_49 := v49
  clear hs48 hf48 hO48 s49 k49 f49 g151_48 g152_48 g154_48
  clear v49
  refine held_take (i := 49) (v := ?_) (d := some 156) rfl rfl (by kernel_rfl) (by kernel_rfl) (by kernel_rfl) (fun c a w h => hQ c _ a w (by rfl) h) hH ⟨?_, fun w hSw => ?_⟩ ?_
  rotate_left 1
  · exact wanted_yes (g := 44) (s := 151) rfl rfl g151_49
  · have e155 := eval_of g155_49
    obtain ⟨⟨y5, y6⟩, y7, y8, y9⟩ := hSw
    have ec : ∀ u, Act.eval b49 (.const u) = u := fun _ => rfl
    have ef : ∀ u, Act.eval b49 (.func u) = .func (.func u) #[] #[] := fun _ => rfl
    generalize Act.eval b49 = ρ at ec ef e155 ⊢
    (go_simp; all_goals with_reducible rfl)
  simp only [List.setIfInBounds_toArray, List.set_cons_zero, List.set_cons_succ]
  refine act_next (G := fun x => wpAnyH _ _ _ _ _ _ _ x _) _ 156 _ (by rw [hs49]; decide) (fun b50 s50 v50 k50 f50 => ?_)
  have hs50 := s50.trans hs49
  have hf50 := f50.trans hf49
  have hO50 : ∀ j, (j < 107 ∨ 176 ≤ j) → b50.tmps[j]? = a0.tmps[j]? := fun j hj => (k50 j (by omega)).trans (hO49 j hj)
  have g151_50 := (k50 151 (by decide)).trans g151_49
  have g152_50 := (k50 152 (by decide)).trans g152_49
  have g154_50 := (k50 154 (by decide)).trans g154_49
  have g156_50 := v50
  clear hs49 hf49 hO49 s50 k50 f50 g151_49 g152_49 g154_49 g155_49
  clear v50
  refine held_take (i := 51) (v := ?_) (d := some 158) rfl rfl (by kernel_rfl) (by kernel_rfl) (by kernel_rfl) (fun c a w h => hQ c _ a w (by rfl) h) hH ⟨?_, fun w hSw => ?_⟩ ?_
  rotate_left 1
  · exact wanted_yes (g := 44) (s := 151) rfl rfl g151_50
  · have e13 := eval_of ((hO50 13 (by decide)).trans c13)
    have ec : ∀ u, Act.eval b50 (.const u) = u := fun _ => rfl
    have ef : ∀ u, Act.eval b50 (.func u) = .func (.func u) #[] #[] := fun _ => rfl
    generalize Act.eval b50 = ρ at ec ef e13 ⊢
    (go_simp; all_goals with_reducible rfl)
  simp only [List.setIfInBounds_toArray, List.set_cons_zero, List.set_cons_succ]
  refine act_next (G := fun x => wpAnyH _ _ _ _ _ _ _ x _) _ 158 _ (by rw [hs50]; decide) (fun b51 s51 v51 k51 f51 => ?_)
  have hs51 := s51.trans hs50
  have hf51 := f51.trans hf50
  have hO51 : ∀ j, (j < 107 ∨ 176 ≤ j) → b51.tmps[j]? = a0.tmps[j]? := fun j hj => (k51 j (by omega)).trans (hO50 j hj)
  have g151_51 := (k51 151 (by decide)).trans g151_50
  have g152_51 := (k51 152 (by decide)).trans g152_50
  have g154_51 := (k51 154 (by decide)).trans g154_50
  have g156_51 := (k51 156 (by decide)).trans g156_50
  have g158_51 := v51
  clear hs50 hf50 hO50 s51 k51 f51 g151_50 g152_50 g154_50 g156_50
  clear v51
  refine held_take (i := 52) (v := ?_) (d := some 159) rfl rfl (by kernel_rfl) (by kernel_rfl) (by kernel_rfl) (fun c a w h => hQ c _ a w (by rfl) h) hH ⟨?_, fun w hSw => ?_⟩ ?_
  rotate_left 1
  · exact wanted_yes (g := 44) (s := 151) rfl rfl g151_51
  · have e158 := eval_of g158_51
    have ec : ∀ u, Act.eval b51 (.const u) = u := fun _ => rfl
    have ef : ∀ u, Act.eval b51 (.func u) = .func (.func u) #[] #[] := fun _ => rfl
    generalize Act.eval b51 = ρ at ec ef e158 ⊢
    (go_simp; all_goals with_reducible rfl)
  simp only [List.setIfInBounds_toArray, List.set_cons_zero, List.set_cons_succ]
  refine act_next (G := fun x => wpAnyH _ _ _ _ _ _ _ x _) _ 159 _ (by rw [hs51]; decide) (fun b52 s52 v52 k52 f52 => ?_)
  have hs52 := s52.trans hs51
  have hf52 := f52.trans hf51
  have hO52 : ∀ j, (j < 107 ∨ 176 ≤ j) → b52.tmps[j]? = a0.tmps[j]? := fun j hj => (k52 j (by omega)).trans (hO51 j hj)
  have g151_52 := (k52 151 (by decide)).trans g151_51
  have g152_52 := (k52 152 (by decide)).trans g152_51
  have g154_52 := (k52 154 (by decide)).trans g154_51
  have g156_52 := (k52 156 (by decide)).trans g156_51
  have g159_52 := v52
  clear hs51 hf51 hO51 s52 k52 f52 g151_51 g152_51 g154_51 g156_51 g158_51
  clear v52
  refine held_take (i := 53) (v := ?_) (d := some 160) rfl rfl (by kernel_rfl) (by kernel_rfl) (by kernel_rfl) (fun c a w h => hQ c _ a w (by rfl) h) hH ⟨?_, fun w hSw => ?_⟩ ?_
  rotate_left 1
  · exact wanted_yes (g := 44) (s := 151) rfl rfl g151_52
  · have e159 := eval_of g159_52
    have ec : ∀ u, Act.eval b52 (.const u) = u := fun _ => rfl
    have ef : ∀ u, Act.eval b52 (.func u) = .func (.func u) #[] #[] := fun _ => rfl
    generalize Act.eval b52 = ρ at ec ef e159 ⊢
    (go_simp; all_goals with_reducible rfl)
  simp only [List.setIfInBounds_toArray, List.set_cons_zero, List.set_cons_succ]
  refine act_next (G := fun x => wpAnyH _ _ _ _ _ _ _ x _) _ 160 _ (by rw [hs52]; decide) (fun b53 s53 v53 k53 f53 => ?_)
  have hs53 := s53.trans hs52
  have hf53 := f53.trans hf52
  have hO53 : ∀ j, (j < 107 ∨ 176 ≤ j) → b53.tmps[j]? = a0.tmps[j]? := fun j hj => (k53 j (by omega)).trans (hO52 j hj)
  have g151_53 := (k53 151 (by decide)).trans g151_52
  have g152_53 := (k53 152 (by decide)).trans g152_52
  have g154_53 := (k53 154 (by decide)).trans g154_52
  have g156_53 := (k53 156 (by decide)).trans g156_52
  have g160_53 := v53
  clear hs52 hf52 hO52 s53 k53 f53 g151_52 g152_52 g154_52 g156_52 g159_52
  clear v53
  refine held_take (i := 54) (v := ?_) (d := some 161) rfl rfl (by kernel_rfl) (by kernel_rfl) (by kernel_rfl) (fun c a w h => hQ c _ a w (by rfl) h) hH ⟨?_, fun w hSw => ?_⟩ ?_
  rotate_left 1
  · exact wanted_yes (g := 44) (s := 151) rfl rfl g151_53
  · have e160 := eval_of g160_53
    obtain ⟨⟨y5, y6⟩, y7, y8, y9⟩ := hSw
    have ec : ∀ u, Act.eval b53 (.const u) = u := fun _ => rfl
    have ef : ∀ u, Act.eval b53 (.func u) = .func (.func u) #[] #[] := fun _ => rfl
    generalize Act.eval b53 = ρ at ec ef e160 ⊢
    (go_simp; all_goals with_reducible rfl)
  simp only [List.setIfInBounds_toArray, List.set_cons_zero, List.set_cons_succ]
  refine act_next (G := fun x => wpAnyH _ _ _ _ _ _ _ x _) _ 161 _ (by rw [hs53]; decide) (fun b54 s54 v54 k54 f54 => ?_)
  have hs54 := s54.trans hs53
  have hf54 := f54.trans hf53
  have hO54 : ∀ j, (j < 107 ∨ 176 ≤ j) → b54.tmps[j]? = a0.tmps[j]? := fun j hj => (k54 j (by omega)).trans (hO53 j hj)
  have g151_54 := (k54 151 (by decide)).trans g151_53
  have g152_54 := (k54 152 (by decide)).trans g152_53
  have g154_54 := (k54 154 (by decide)).trans g154_53
  have g156_54 := (k54 156 (by decide)).trans g156_53
  have g161_54 := v54
  clear hs53 hf53 hO53 s54 k54 f54 g151_53 g152_53 g154_53 g156_53 g160_53
  clear v54
  refine held_take (i := 55) (v := ?_) (d := some 162) rfl rfl (by kernel_rfl) (by kernel_rfl) (by kernel_rfl) (fun c a w h => hQ c _ a w (by rfl) h) hH ⟨?_, fun w hSw => ?_⟩ ?_
  rotate_left 1
  · exact wanted_yes (g := 44) (s := 151) rfl rfl g151_54
  · have e161 := eval_of g161_54
    have ec : ∀ u, Act.eval b54 (.const u) = u := fun _ => rfl
    have ef : ∀ u, Act.eval b54 (.func u) = .func (.func u) #[] #[] := fun _ => rfl
    generalize Act.eval b54 = ρ at ec ef e161 ⊢
    (go_simp; all_goals with_reducible rfl)
  simp only [List.setIfInBounds_toArray, List.set_cons_zero, List.set_cons_succ]
  refine act_next (G := fun x => wpAnyH _ _ _ _ _ _ _ x _) _ 162 _ (by rw [hs54]; decide) (fun b55 s55 v55 k55 f55 => ?_)
  have hs55 := s55.trans hs54
  have hf55 := f55.trans hf54
  have hO55 : ∀ j, (j < 107 ∨ 176 ≤ j) → b55.tmps[j]? = a0.tmps[j]? := fun j hj => (k55 j (by omega)).trans (hO54 j hj)
  have g151_55 := (k55 151 (by decide)).trans g151_54
  have g152_55 := (k55 152 (by decide)).trans g152_54
  have g154_55 := (k55 154 (by decide)).trans g154_54
  have g156_55 := (k55 156 (by decide)).trans g156_54
  have g162_55 := v55
  clear hs54 hf54 hO54 s55 k55 f55 g151_54 g152_54 g154_54 g156_54 g161_54
  clear v55
  refine held_take (i := 56) (v := ?_) (d := some 163) rfl rfl (by kernel_rfl) (by kernel_rfl) (by kernel_rfl) (fun c a w h => hQ c _ a w (by rfl) h) hH ⟨?_, fun w hSw => ?_⟩ ?_
  rotate_left 1
  · exact wanted_yes (g := 44) (s := 151) rfl rfl g151_55
  · have e162 := eval_of g162_55
    have ec : ∀ u, Act.eval b55 (.const u) = u := fun _ => rfl
    have ef : ∀ u, Act.eval b55 (.func u) = .func (.func u) #[] #[] := fun _ => rfl
    generalize Act.eval b55 = ρ at ec ef e162 ⊢
    (go_simp; all_goals with_reducible rfl)
  simp only [List.setIfInBounds_toArray, List.set_cons_zero, List.set_cons_succ]
  refine act_next (G := fun x => wpAnyH _ _ _ _ _ _ _ x _) _ 163 _ (by rw [hs55]; decide) (fun b56 s56 v56 k56 f56 => ?_)
  have hs56 := s56.trans hs55
  have hf56 := f56.trans hf55
  have hO56 : ∀ j, (j < 107 ∨ 176 ≤ j) → b56.tmps[j]? = a0.tmps[j]? := fun j hj => (k56 j (by omega)).trans (hO55 j hj)
  have g151_56 := (k56 151 (by decide)).trans g151_55
  have g152_56 := (k56 152 (by decide)).trans g152_55
  have g154_56 := (k56 154 (by decide)).trans g154_55
  have g156_56 := (k56 156 (by decide)).trans g156_55
  have g163_56 := v56
  clear hs55 hf55 hO55 s56 k56 f56 g151_55 g152_55 g154_55 g156_55 g162_55
  clear v56
  refine held_take (i := 57) (v := ?_) (d := some 164) rfl rfl (by kernel_rfl) (by kernel_rfl) (by kernel_rfl) (fun c a w h => hQ c _ a w (by rfl) h) hH ⟨?_, fun w hSw => ?_⟩ ?_
  rotate_left 1
  · exact wanted_yes (g := 44) (s := 151) rfl rfl g151_56
  · have e163 := eval_of g163_56
    obtain ⟨⟨y5, y6⟩, y7, y8, y9⟩ := hSw
    have ec : ∀ u, Act.eval b56 (.const u) = u := fun _ => rfl
    have ef : ∀ u, Act.eval b56 (.func u) = .func (.func u) #[] #[] := fun _ => rfl
    generalize Act.eval b56 = ρ at ec ef e163 ⊢
    (go_simp; all_goals with_reducible rfl)
  simp only [List.setIfInBounds_toArray, List.set_cons_zero, List.set_cons_succ]
  refine act_next (G := fun x => wpAnyH _ _ _ _ _ _ _ x _) _ 164 _ (by rw [hs56]; decide) (fun b57 s57 v57 k57 f57 => ?_)
  have hs57 := s57.trans hs56
  have hf57 := f57.trans hf56
  have hO57 : ∀ j, (j < 107 ∨ 176 ≤ j) → b57.tmps[j]? = a0.tmps[j]? := fun j hj => (k57 j (by omega)).trans (hO56 j hj)
  have g151_57 := (k57 151 (by decide)).trans g151_56
  have g152_57 := (k57 152 (by decide)).trans g152_56
  have g154_57 := (k57 154 (by decide)).trans g154_56
  have g156_57 := (k57 156 (by decide)).trans g156_56
  have g164_57 := v57
  clear hs56 hf56 hO56 s57 k57 f57 g151_56 g152_56 g154_56 g156_56 g163_56
  clear v57
  refine held_take (i := 58) (v := ?_) (d := some 165) rfl rfl (by kernel_rfl) (by kernel_rfl) (by kernel_rfl) (fun c a w h => hQ c _ a w (by rfl) h) hH ⟨?_, fun w hSw => ?_⟩ ?_
  rotate_left 1
  · exact wanted_yes (g := 44) (s := 151) rfl rfl g151_57
  · have e16 := eval_of ((hO57 16 (by decide)).trans c16)
    have ec : ∀ u, Act.eval b57 (.const u) = u := fun _ => rfl
    have ef : ∀ u, Act.eval b57 (.func u) = .func (.func u) #[] #[] := fun _ => rfl
    generalize Act.eval b57 = ρ at ec ef e16 ⊢
    (go_simp; all_goals with_reducible rfl)
  simp only [List.setIfInBounds_toArray, List.set_cons_zero, List.set_cons_succ]
  refine act_next (G := fun x => wpAnyH _ _ _ _ _ _ _ x _) _ 165 _ (by rw [hs57]; decide) (fun b58 s58 v58 k58 f58 => ?_)
  have hs58 := s58.trans hs57
  have hf58 := f58.trans hf57
  have hO58 : ∀ j, (j < 107 ∨ 176 ≤ j) → b58.tmps[j]? = a0.tmps[j]? := fun j hj => (k58 j (by omega)).trans (hO57 j hj)
  have g151_58 := (k58 151 (by decide)).trans g151_57
  have g152_58 := (k58 152 (by decide)).trans g152_57
  have g154_58 := (k58 154 (by decide)).trans g154_57
  have g156_58 := (k58 156 (by decide)).trans g156_57
  have g164_58 := (k58 164 (by decide)).trans g164_57
  have g165_58 := v58
  clear hs57 hf57 hO57 s58 k58 f58 g151_57 g152_57 g154_57 g156_57 g164_57
  clear v58
  refine held_take (i := 59) (v := ?_) (d := some 166) rfl rfl (by kernel_rfl) (by kernel_rfl) (by kernel_rfl) (fun c a w h => hQ c _ a w (by rfl) h) hH ⟨?_, fun w hSw => ?_⟩ ?_
  rotate_left 1
  · exact wanted_yes (g := 44) (s := 151) rfl rfl g151_58
  · have e165 := eval_of g165_58
    obtain ⟨⟨y5, y6⟩, y7, y8, y9⟩ := hSw
    have ec : ∀ u, Act.eval b58 (.const u) = u := fun _ => rfl
    have ef : ∀ u, Act.eval b58 (.func u) = .func (.func u) #[] #[] := fun _ => rfl
    generalize Act.eval b58 = ρ at ec ef e165 ⊢
    (go_simp; all_goals with_reducible rfl)
  simp only [List.setIfInBounds_toArray, List.set_cons_zero, List.set_cons_succ]
  refine act_next (G := fun x => wpAnyH _ _ _ _ _ _ _ x _) _ 166 _ (by rw [hs58]; decide) (fun b59 s59 v59 k59 f59 => ?_)
  have hs59 := s59.trans hs58
  have hf59 := f59.trans hf58
  have hO59 : ∀ j, (j < 107 ∨ 176 ≤ j) → b59.tmps[j]? = a0.tmps[j]? := fun j hj => (k59 j (by omega)).trans (hO58 j hj)
  have g151_59 := (k59 151 (by decide)).trans g151_58
  have g152_59 := (k59 152 (by decide)).trans g152_58
  have g154_59 := (k59 154 (by decide)).trans g154_58
  have g156_59 := (k59 156 (by decide)).trans g156_58
  have g164_59 := (k59 164 (by decide)).trans g164_58
  have g166_59 := v59
  clear hs58 hf58 hO58 s59 k59 f59 g151_58 g152_58 g154_58 g156_58 g164_58 g165_58
  clear v59
  refine held_take (i := 60) (v := ?_) (d := some 167) rfl rfl (by kernel_rfl) (by kernel_rfl) (by kernel_rfl) (fun c a w h => hQ c _ a w (by rfl) h) hH ⟨?_, fun w hSw => ?_⟩ ?_
  rotate_left 1
  · exact wanted_yes (g := 44) (s := 151) rfl rfl g151_59
  · have e16 := eval_of ((hO59 16 (by decide)).trans c16)
    have ec : ∀ u, Act.eval b59 (.const u) = u := fun _ => rfl
    have ef : ∀ u, Act.eval b59 (.func u) = .func (.func u) #[] #[] := fun _ => rfl
    generalize Act.eval b59 = ρ at ec ef e16 ⊢
    (go_simp; all_goals with_reducible rfl)
  simp only [List.setIfInBounds_toArray, List.set_cons_zero, List.set_cons_succ]
  refine act_next (G := fun x => wpAnyH _ _ _ _ _ _ _ x _) _ 167 _ (by rw [hs59]; decide) (fun b60 s60 v60 k60 f60 => ?_)
  have hs60 := s60.trans hs59
  have hf60 := f60.trans hf59
  have hO60 : ∀ j, (j < 107 ∨ 176 ≤ j) → b60.tmps[j]? = a0.tmps[j]? := fun j hj => (k60 j (by omega)).trans (hO59 j hj)
  have g151_60 := (k60 151 (by decide)).trans g151_59
  have g152_60 := (k60 152 (by decide)).trans g152_59
  have g154_60 := (k60 154 (by decide)).trans g154_59
  have g156_60 := (k60 156 (by decide)).trans g156_59
  have g164_60 := (k60 164 (by decide)).trans g164_59
  have g166_60 := (k60 166 (by decide)).trans g166_59
  have g167_60 := v60
  clear hs59 hf59 hO59 s60 k60 f60 g151_59 g152_59 g154_59 g156_59 g164_59 g166_59
  clear v60
  refine held_take (i := 61) (v := ?_) (d := some 168) rfl rfl (by kernel_rfl) (by kernel_rfl) (by kernel_rfl) (fun c a w h => hQ c _ a w (by rfl) h) hH ⟨?_, fun w hSw => ?_⟩ ?_
  rotate_left 1
  · exact wanted_yes (g := 44) (s := 151) rfl rfl g151_60
  · have e167 := eval_of g167_60
    obtain ⟨⟨y5, y6⟩, y7, y8, y9⟩ := hSw
    have ec : ∀ u, Act.eval b60 (.const u) = u := fun _ => rfl
    have ef : ∀ u, Act.eval b60 (.func u) = .func (.func u) #[] #[] := fun _ => rfl
    generalize Act.eval b60 = ρ at ec ef e167 ⊢
    (go_simp; all_goals with_reducible rfl)
  simp only [List.setIfInBounds_toArray, List.set_cons_zero, List.set_cons_succ]
  refine act_next (G := fun x => wpAnyH _ _ _ _ _ _ _ x _) _ 168 _ (by rw [hs60]; decide) (fun b61 s61 v61 k61 f61 => ?_)
  have hs61 := s61.trans hs60
  have hf61 := f61.trans hf60
  have hO61 : ∀ j, (j < 107 ∨ 176 ≤ j) → b61.tmps[j]? = a0.tmps[j]? := fun j hj => (k61 j (by omega)).trans (hO60 j hj)
  have g151_61 := (k61 151 (by decide)).trans g151_60
  have g152_61 := (k61 152 (by decide)).trans g152_60
  have g154_61 := (k61 154 (by decide)).trans g154_60
  have g156_61 := (k61 156 (by decide)).trans g156_60
  have g164_61 := (k61 164 (by decide)).trans g164_60
  have g166_61 := (k61 166 (by decide)).trans g166_60
  have g168_61 := v61
  clear hs60 hf60 hO60 s61 k61 f61 g151_60 g152_60 g154_60 g156_60 g164_60 g166_60 g167_60
  clear v61
  refine held_take (i := 62) (v := ?_) (d := some 169) rfl rfl (by kernel_rfl) (by kernel_rfl) (by kernel_rfl) (fun c a w h => hQ c _ a w (by rfl) h) hH ⟨?_, fun w hSw => ?_⟩ ?_
  rotate_left 1
  · exact wanted_yes (g := 44) (s := 151) rfl rfl g151_61
  · have e16 := eval_of ((hO61 16 (by decide)).trans c16)
    have ec : ∀ u, Act.eval b61 (.const u) = u := fun _ => rfl
    have ef : ∀ u, Act.eval b61 (.func u) = .func (.func u) #[] #[] := fun _ => rfl
    generalize Act.eval b61 = ρ at ec ef e16 ⊢
    (go_simp; all_goals with_reducible rfl)
  simp only [List.setIfInBounds_toArray, List.set_cons_zero, List.set_cons_succ]
  refine act_next (G := fun x => wpAnyH _ _ _ _ _ _ _ x _) _ 169 _ (by rw [hs61]; decide) (fun b62 s62 v62 k62 f62 => ?_)
  have hs62 := s62.trans hs61
  have hf62 := f62.trans hf61
  have hO62 : ∀ j, (j < 107 ∨ 176 ≤ j) → b62.tmps[j]? = a0.tmps[j]? := fun j hj => (k62 j (by omega)).trans (hO61 j hj)
  have g151_62 := (k62 151 (by decide)).trans g151_61
  have g152_62 := (k62 152 (by decide)).trans g152_61
  have g154_62 := (k62 154 (by decide)).trans g154_61
  have g156_62 := (k62 156 (by decide)).trans g156_61
  have g164_62 := (k62 164 (by decide)).trans g164_61
  have g166_62 := (k62 166 (by decide)).trans g166_61
  have g168_62 := (k62 168 (by decide)).trans g168_61
  have g169_62 := v62
  clear hs61 hf61 hO61 s62 k62 f62 g151_61 g152_61 g154_61 g156_61 g164_61 g166_61 g168_61
  clear v62
  refine held_take (i := 63) (v := ?_) (d := some 170) rfl rfl (by kernel_rfl) (by kernel_rfl) (by kernel_rfl) (fun c a w h => hQ c _ a w (by rfl) h) hH ⟨?_, fun w hSw => ?_⟩ ?_
  rotate_left 1
  · exact wanted_yes (g := 44) (s := 151) rfl rfl g151_62
  · have e169 := eval_of g169_62
    obtain ⟨⟨y5, y6⟩, y7, y8, y9⟩ := hSw
    have ec : ∀ u, Act.eval b62 (.const u) = u := fun _ => rfl
    have ef : ∀ u, Act.eval b62 (.func u) = .func (.func u) #[] #[] := fun _ => rfl
    generalize Act.eval b62 = ρ at ec ef e169 ⊢
    (go_simp; all_goals with_reducible rfl)
  simp only [List.setIfInBounds_toArray, List.set_cons_zero, List.set_cons_succ]
  refine act_next (G := fun x => wpAnyH _ _ _ _ _ _ _ x _) _ 170 _ (by rw [hs62]; decide) (fun b63 s63 v63 k63 f63 => ?_)
  have hs63 := s63.trans hs62
  have hf63 := f63.trans hf62
  have hO63 : ∀ j, (j < 107 ∨ 176 ≤ j) → b63.tmps[j]? = a0.tmps[j]? := fun j hj => (k63 j (by omega)).trans (hO62 j hj)
  have g151_63 := (k63 151 (by decide)).trans g151_62
  have g152_63 := (k63 152 (by decide)).trans g152_62
  have g154_63 := (k63 154 (by decide)).trans g154_62
  have g156_63 := (k63 156 (by decide)).trans g156_62
  have g164_63 := (k63 164 (by decide)).trans g164_62
  have g166_63 := (k63 166 (by decide)).trans g166_62
  have g168_63 := (k63 168 (by decide)).trans g168_62
  have g170_63 := v63
  clear hs62 hf62 hO62 s63 k63 f63 g151_62 g152_62 g154_62 g156_62 g164_62 g166_62 g168_62 g169_62
  clear v63
  refine held_take (i := 64) (v := ?_) (d := some 171) rfl rfl (by kernel_rfl) (by kernel_rfl) (by kernel_rfl) (fun c a w h => hQ c _ a w (by rfl) h) hH ⟨?_, fun w hSw => ?_⟩ ?_
  rotate_left 1
  · exact wanted_yes (g := 44) (s := 151) rfl rfl g151_63
  · have e168 := eval_of g168_63
    have e170 := eval_of g170_63
    have ec : ∀ u, Act.eval b63 (.const u) = u := fun _ => rfl
    have ef : ∀ u, Act.eval b63 (.func u) = .func (.func u) #[] #[] := fun _ => rfl
    generalize Act.eval b63 = ρ at ec ef e168 e170 ⊢
    (go_simp; all_goals with_reducible rfl)
  simp only [List.setIfInBounds_toArray, List.set_cons_zero, List.set_cons_succ]
  refine act_next (G := fun x => wpAnyH _ _ _ _ _ _ _ x _) _ 171 _ (by rw [hs63]; decide) (fun b64 s64 v64 k64 f64 => ?_)
  have hs64 := s64.trans hs63
  have hf64 := f64.trans hf63
  have hO64 : ∀ j, (j < 107 ∨ 176 ≤ j) → b64.tmps[j]? = a0.tmps[j]? := fun j hj => (k64 j (by omega)).trans (hO63 j hj)
  have g151_64 := (k64 151 (by decide)).trans g151_63
  have g152_64 := (k64 152 (by decide)).trans g152_63
  have g154_64 := (k64 154 (by decide)).trans g154_63
  have g156_64 := (k64 156 (by decide)).trans g156_63
  have g164_64 := (k64 164 (by decide)).trans g164_63
  have g166_64 := (k64 166 (by decide)).trans g166_63
  have g171_64 := v64
  clear hs63 hf63 hO63 s64 k64 f64 g151_63 g152_63 g154_63 g156_63 g164_63 g166_63 g168_63 g170_63
  clear v64
  refine held_take (i := 65) (v := ?_) (d := some 172) rfl rfl (by kernel_rfl) (by kernel_rfl) (by kernel_rfl) (fun c a w h => hQ c _ a w (by rfl) h) hH ⟨?_, fun w hSw => ?_⟩ ?_
  rotate_left 1
  · exact wanted_yes (g := 44) (s := 151) rfl rfl g151_64
  · have e164 := eval_of g164_64
    have e166 := eval_of g166_64
    have e171 := eval_of g171_64
    refine exec_slice_row (.tmp 164) (.tmp 166) (.tmp 171) 34 ?_ 5 Tryd.underlying34 (by kernel_rfl) (A := A') (N := sn) (cap := cp') (p := p) (k := k) (X := off) (Y := off + m) e164 e166 ?_ HOP.out HPC.out HCUT.out w
    · rfl
    · exact e171
  simp only [List.setIfInBounds_toArray, List.set_cons_zero, List.set_cons_succ]
  refine act_next (G := fun x => wpAnyH _ _ _ _ _ _ _ x _) _ 172 _ (by rw [hs64]; decide) (fun b65 s65 v65 k65 f65 => ?_)
  have hs65 := s65.trans hs64
  have hf65 := f65.trans hf64
  have hO65 : ∀ j, (j < 107 ∨ 176 ≤ j) → b65.tmps[j]? = a0.tmps[j]? := fun j hj => (k65 j (by omega)).trans (hO64 j hj)
  have g151_65 := (k65 151 (by decide)).trans g151_64
  have g152_65 := (k65 152 (by decide)).trans g152_64
  have g154_65 := (k65 154 (by decide)).trans g154_64
  have g156_65 := (k65 156 (by decide)).trans g156_64
  have g172_65 := v65
  clear hs64 hf64 hO64 s65 k65 f65 g151_64 g152_64 g154_64 g156_64 g164_64 g166_64 g171_64
  clear v65
  refine held_step (i := 50) rfl (by kernel_rfl) ?_ (fun K hK => ?_)
  · exact wanted_yes (g := 44) (s := 151) rfl rfl g151_65
  have e152 := eval_of g152_65
  have e154 := eval_of g154_65
  have e156 := eval_of g156_65
  clear hH
  unfold Oper.wp
  have ec : ∀ u, Act.eval b65 (.const u) = u := fun _ => rfl
  have ef : ∀ u, Act.eval b65 (.func u) = .func (.func u) #[] #[] := fun _ => rfl
  generalize Act.eval b65 = ρ at ec ef e152 e154 e156 ⊢
  go_simp
  refine (HREAD.out _ HBD.out).mono ?_
  rintro e w8 ⟨v8, rfl, hown8, hb8⟩
  obtain ⟨A8, c8, rfl, hbs8, -⟩ := own_bytes hown8 HSUBLT.out
  have HBS8 := Lib.hid hbs8
  have HB8 : Hid (Below w7.heap.size w7 w8) := HBD.out.trans (hb8.mono HBD.out.size)
  clear hown8 hb8 hbs8
  have hH := HC20.out _ HB8.out
  refine hK _ _ hH ?_
  clear hK K
  simp only [List.setIfInBounds_toArray, List.set_cons_zero, List.set_cons_succ]
  clear ec ef e152 e154 e156
  first
    | refine act_next2 (G := fun x => wpAnyH _ _ _ _ _ _ _ x _) b65 157 _ hf65 (by rw [hs65]; decide) (fun b66 s66 v66 k66 f66 => ?_)
    | refine act_next (G := fun x => wpAnyH _ _ _ _ _ _ _ x _) _ 157 _ (by rw [hs65]; decide) (fun b66 s66 v66 k66 f66 => ?_)
  have hs66 := s66.trans hs65
  have hf66 := f66.trans hf65
  have hO66 : ∀ j, (j < 107 ∨ 176 ≤ j) → b66.tmps[j]? = a0.tmps[j]? := fun j hj => (k66 j (by omega)).trans (hO65 j hj)
  have g151_66 := (k66 151 (by decide)).trans g151_65
  have g172_66 := (k66 172 (by decide)).trans g172_65
  have g157_66 := v66
  clear hs65 hf65 hO65 s66 k66 f66 g151_65 g152_65 g154_65 g156_65 g172_65
  clear v66
  refine held_step (i := 66) rfl (by kernel_rfl) ?_ (fun K hK => ?_)
  · exact wanted_yes (g := 44) (s := 151) rfl rfl g151_66
  have e157 := eval_of g157_66
  have e172 := eval_of g172_66
  clear hH
  unfold Oper.wp
  have ec : ∀ u, Act.eval b66 (.const u) = u := fun _ => rfl
  have ef : ∀ u, Act.eval b66 (.func u) = .func (.func u) #[] #[] := fun _ => rfl
  generalize Act.eval b66 = ρ at ec ef e157 e172 ⊢
  go_simp
  refine (HEQ.out _ _ _ HBS8.out HB8.out).mono ?_
  rintro e w9 ⟨rfl, q9, rfl⟩
  have HB9 : Hid (Below w7.heap.size w7 (w8.drewN q9)) := HB8.out.trans ((below_drewN w8 q9).mono HB8.out.size)
  have hH := HC20.out _ HB9.out
  refine hK _ _ hH ?_
  clear hK K
  simp only [List.setIfInBounds_toArray, List.set_cons_zero, List.set_cons_succ]
  clear ec ef e157 e172
  first
    | refine act_next2 (G := fun x => wpAnyH _ _ _ _ _ _ _ x _) b66 173 _ hf66 (by rw [hs66]; decide) (fun b67 s67 v67 k67 f67 => ?_)
    | refine act_next (G := fun x => wpAnyH _ _ _ _ _ _ _ x _) _ 173 _ (by rw [hs66]; decide) (fun b67 s67 v67 k67 f67 => ?_)
  have hs67 := s67.trans hs66
  have hf67 := f67.trans hf66
  have hO67 : ∀ j, (j < 107 ∨ 176 ≤ j) → b67.tmps[j]? = a0.tmps[j]? := fun j hj => (k67 j (by omega)).trans (hO66 j hj)
  have g151_67 := (k67 151 (by decide)).trans g151_66
  have g173_67 := v67
  clear hs66 hf66 hO66 s67 k67 f67 g151_66 g172_66 g157_66
  clear v67
  refine held_take (i := 67) (v := ?_) (d := some 174) rfl rfl (by kernel_rfl) (by kernel_rfl) (by kernel_rfl) (fun c a w h => hQ c _ a w (by rfl) h) hH ⟨?_, fun w hSw => ?_⟩ ?_
  rotate_left 1
  · exact wanted_yes (g := 44) (s := 151) rfl rfl g151_67
  · have e173 := eval_of g173_67
    have ec : ∀ u, Act.eval b67 (.const u) = u := fun _ => rfl
    have ef : ∀ u, Act.eval b67 (.func u) = .func (.func u) #[] #[] := fun _ => rfl
    generalize Act.eval b67 = ρ at ec ef e173 ⊢
    (go_simp; all_goals with_reducible rfl)
  simp only [List.setIfInBounds_toArray, List.set_cons_zero, List.set_cons_succ]
  refine act_next (G := fun x => wpAnyH _ _ _ _ _ _ _ x _) _ 174 _ (by rw [hs67]; decide) (fun b68 s68 v68 k68 f68 => ?_)
  have hs68 := s68.trans hs67
  have hf68 := f68.trans hf67
  have hO68 : ∀ j, (j < 107 ∨ 176 ≤ j) → b68.tmps[j]? = a0.tmps[j]? := fun j hj => (k68 j (by omega)).trans (hO67 j hj)
  have g151_68 := (k68 151 (by decide)).trans g151_67
  have g174_68 := v68
  clear hs67 hf67 hO67 s68 k68 f68 g151_67 g173_67
  clear v68
  refine held_take (i := 68) (v := ?_) (d := some 175) rfl rfl (by kernel_rfl) (by kernel_rfl) (by kernel_rfl) (fun c a w h => hQ c _ a w (by rfl) h) hH ⟨?_, fun w hSw => ?_⟩ ?_
  rotate_left 1
  · rfl
  · have e151 := eval_of g151_68
    have e174 := eval_of g174_68
    have ec : ∀ u, Act.eval b68 (.const u) = u := fun _ => rfl
    have ef : ∀ u, Act.eval b68 (.func u) = .func (.func u) #[] #[] := fun _ => rfl
    generalize Act.eval b68 = ρ at ec ef e151 e174 ⊢
    (go_simp; all_goals with_reducible rfl)
  simp only [List.setIfInBounds_toArray, List.set_cons_zero, List.set_cons_succ]
  refine act_next (G := fun x => wpAnyH _ _ _ _ _ _ _ x _) _ 175 _ (by rw [hs68]; decide) (fun b69 s69 v69 k69 f69 => ?_)
  have hs69 := s69.trans hs68
  have hf69 := f69.trans hf68
  have hO69 : ∀ j, (j < 107 ∨ 176 ≤ j) → b69.tmps[j]? = a0.tmps[j]? := fun j hj => (k69 j (by omega)).trans (hO68 j hj)
  have g175_69 := v69
  clear hs68 hf68 hO68 s69 k69 f69 g151_68 g174_68
  clear v69
  refine wpAnyH_done (by kernel_rfl) ?_ _
  exact hend _ _ hs69 hf69 g175_69 hO69 HB9.out
end Go.Proofs.YtepbdicglgjcjaaDoor
end
