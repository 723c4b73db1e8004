/-
  The end of a round of the law PackerScript: Off and Room of both packers, a region of twenty-one operations, by hand.
-/
import Derived.Test.YtepbdicglgjcjaaDoorPkWantF
set_option maxRecDepth 100000
namespace Go.Proofs.YtepbdicglgjcjaaDoor
open Go.RowKit
theorem act_next2 {G : Act → Prop} (a : Act) (d : Nat) (v : Value) (hf : a.defers = []) (hd : d < a.tmps.size) (h : ∀ a' : Act, a'.tmps.size = a.tmps.size → a'.tmps[d]? = some v → (∀ j, j ≠ d → a'.tmps[j]? = a.tmps[j]?) → a'.defers = a.defers → G a') : G ⟨a.tmps.setIfInBounds d v, []⟩ := by
  have e : (⟨a.tmps.setIfInBounds d v, []⟩ : Act) = a.put (some d) v := by rw [← hf]; rfl
  rw [e]
  exact act_next a d v hd h
theorem pk_frame_at (l : List Value) (a' : Act) (lo n N : Nat) (hs : a'.tmps.size = N) (hf : a'.defers = []) (ho : ∀ j, (j < lo ∨ lo + n ≤ j) → a'.tmps[j]? = (Act.mk l.toArray []).tmps[j]?) (hl : l.length = N) (hlo : lo + n ≤ N) :
    ∃ m : List Value, m.length = n ∧ (∀ i, i < n → m[i]? = a'.tmps[lo + i]?) ∧ a' = ⟨(l.take lo ++ (m ++ l.drop (lo + n))).toArray, []⟩ :=
  frame_of l a' lo n (by omega) (by omega) hf fun j hj => by rw [ho j hj]; simp
theorem pk_frame_at2 (l : List Value) (a' : Act) (s lo n N : Nat) {v : Value} (hsl : s < lo) (hs : a'.tmps.size = N) (hf : a'.defers = []) (hv : a'.tmps[s]? = some v) (ho : ∀ j, (j ≠ s ∧ (j < lo ∨ lo + n ≤ j)) → a'.tmps[j]? = (Act.mk l.toArray []).tmps[j]?) (hl : l.length = N) (hlo : lo + n ≤ N) :
    ∃ m : List Value, m.length = n ∧ (∀ i, i < n → m[i]? = a'.tmps[lo + i]?) ∧ a' = ⟨((l.set s v).take lo ++ (m ++ (l.set s v).drop (lo + n))).toArray, []⟩ :=
  frame_of2 l a' s lo n hsl (by omega) (by omega) hf hv fun j hj => by rw [ho j hj]; simp
theorem list_21 (l : List Value) (v : Value) (h0 : l.length = 21) (hv : l[20]? = some v) :
    ∃ x193 x194 x195 x196 x197 x198 x199 x200 x201 x202 x203 x204 x205 x206 x207 x208 x209 x210 x211 x212 : Value, l = [x193, x194, x195, x196, x197, x198, x199, x200, x201, x202, x203, x204, x205, x206, x207, x208, x209, x210, x211, x212, v] := by
  obtain ⟨x193, m193, e, h1⟩ := list_cons h0
  subst e
  clear h0
  obtain ⟨x194, m194, e, h2⟩ := list_cons h1
  subst e
  clear h1
  obtain ⟨x195, m195, e, h3⟩ := list_cons h2
  subst e
  clear h2
  obtain ⟨x196, m196, e, h4⟩ := list_cons h3
  subst e
  clear h3
  obtain ⟨x197, m197, e, h5⟩ := list_cons h4
  subst e
  clear h4
  obtain ⟨x198, m198, e, h6⟩ := list_cons h5
  subst e
  clear h5
  obtain ⟨x199, m199, e, h7⟩ := list_cons h6
  subst e
  clear h6
  obtain ⟨x200, m200, e, h8⟩ := list_cons h7
  subst e
  clear h7
  obtain ⟨x201, m201, e, h9⟩ := list_cons h8
  subst e
  clear h8
  obtain ⟨x202, m202, e, h10⟩ := list_cons h9
  subst e
  clear h9
  obtain ⟨x203, m203, e, h11⟩ := list_cons h10
  subst e
  clear h10
  obtain ⟨x204, m204, e, h12⟩ := list_cons h11
  subst e
  clear h11
  obtain ⟨x205, m205, e, h13⟩ := list_cons h12
  subst e
  clear h12
  obtain ⟨x206, m206, e, h14⟩ := list_cons h13
  subst e
  clear h13
  obtain ⟨x207, m207, e, h15⟩ := list_cons h14
  subst e
  clear h14
  obtain ⟨x208, m208, e, h16⟩ := list_cons h15
  subst e
  clear h15
  obtain ⟨x209, m209, e, h17⟩ := list_cons h16
  subst e
  clear h16
  obtain ⟨x210, m210, e, h18⟩ := list_cons h17
  subst e
  clear h17
  obtain ⟨x211, m211, e, h19⟩ := list_cons h18
  subst e
  clear h18
  obtain ⟨x212, m212, e, h20⟩ := list_cons h19
  subst e
  clear h19
  obtain ⟨x213, m213, e, h21⟩ := list_cons h20
  subst e
  clear h20
  have e := list_zero h21
  subst e
  have e := Option.some.inj (show some x213 = some v from hv)
  subst e
  exact ⟨_, _, _, _, _, _, _, _, _, _, _, _, _, _, _, _, _, _, _, _, rfl⟩
theorem list_31 (l : List Value) (v : Value) (h0 : l.length = 31) (hv : l[30]? = some v) :
    ∃ x78 x79 x80 x81 x82 x83 x84 x85 x86 x87 x88 x89 x90 x91 x92 x93 x94 x95 x96 x97 x98 x99 x100 x101 x102 x103 x104 x105 x106 x107 : Value, l = [x78, x79, x80, x81, x82, x83, x84, x85, x86, x87, x88, x89, x90, x91, x92, x93, x94, x95, x96, x97, x98, x99, x100, x101, x102, x103, x104, x105, x106, x107, v] := by
  obtain ⟨x78, m78, e, h1⟩ := list_cons h0
  subst e
  clear h0
  obtain ⟨x79, m79, e, h2⟩ := list_cons h1
  subst e
  clear h1
  obtain ⟨x80, m80, e, h3⟩ := list_cons h2
  subst e
  clear h2
  obtain ⟨x81, m81, e, h4⟩ := list_cons h3
  subst e
  clear h3
  obtain ⟨x82, m82, e, h5⟩ := list_cons h4
  subst e
  clear h4
  obtain ⟨x83, m83, e, h6⟩ := list_cons h5
  subst e
  clear h5
  obtain ⟨x84, m84, e, h7⟩ := list_cons h6
  subst e
  clear h6
  obtain ⟨x85, m85, e, h8⟩ := list_cons h7
  subst e
  clear h7
  obtain ⟨x86, m86, e, h9⟩ := list_cons h8
  subst e
  clear h8
  obtain ⟨x87, m87, e, h10⟩ := list_cons h9
  subst e
  clear h9
  obtain ⟨x88, m88, e, h11⟩ := list_cons h10
  subst e
  clear h10
  obtain ⟨x89, m89, e, h12⟩ := list_cons h11
  subst e
  clear h11
  obtain ⟨x90, m90, e, h13⟩ := list_cons h12
  subst e
  clear h12
  obtain ⟨x91, m91, e, h14⟩ := list_cons h13
  subst e
  clear h13
  obtain ⟨x92, m92, e, h15⟩ := list_cons h14
  subst e
  clear h14
  obtain ⟨x93, m93, e, h16⟩ := list_cons h15
  subst e
  clear h15
  obtain ⟨x94, m94, e, h17⟩ := list_cons h16
  subst e
  clear h16
  obtain ⟨x95, m95, e, h18⟩ := list_cons h17
  subst e
  clear h17
  obtain ⟨x96, m96, e, h19⟩ := list_cons h18
  subst e
  clear h18
  obtain ⟨x97, m97, e, h20⟩ := list_cons h19
  subst e
  clear h19
  obtain ⟨x98, m98, e, h21⟩ := list_cons h20
  subst e
  clear h20
  obtain ⟨x99, m99, e, h22⟩ := list_cons h21
  subst e
  clear h21
  obtain ⟨x100, m100, e, h23⟩ := list_cons h22
  subst e
  clear h22
  obtain ⟨x101, m101, e, h24⟩ := list_cons h23
  subst e
  clear h23
  obtain ⟨x102, m102, e, h25⟩ := list_cons h24
  subst e
  clear h24
  obtain ⟨x103, m103, e, h26⟩ := list_cons h25
  subst e
  clear h25
  obtain ⟨x104, m104, e, h27⟩ := list_cons h26
  subst e
  clear h26
  obtain ⟨x105, m105, e, h28⟩ := list_cons h27
  subst e
  clear h27
  obtain ⟨x106, m106, e, h29⟩ := list_cons h28
  subst e
  clear h28
  obtain ⟨x107, m107, e, h30⟩ := list_cons h29
  subst e
  clear h29
  obtain ⟨x108, m108, e, h31⟩ := list_cons h30
  subst e
  clear h30
  have e := list_zero h31
  subst e
  have e := Option.some.inj (show some x108 = some v from hv)
  subst e
  exact ⟨_, _, _, _, _, _, _, _, _, _, _, _, _, _, _, _, _, _, _, _, _, _, _, _, _, _, _, _, _, _, rfl⟩
theorem list_12 (l : List Value) (h0 : l.length = 12) :
    ∃ x109 x110 x111 x112 x113 x114 x115 x116 x117 x118 x119 x120 : Value, l = [x109, x110, x111, x112, x113, x114, x115, x116, x117, x118, x119, x120] := by
  obtain ⟨x109, m109, e, h1⟩ := list_cons h0
  subst e
  clear h0
  obtain ⟨x110, m110, e, h2⟩ := list_cons h1
  subst e
  clear h1
  obtain ⟨x111, m111, e, h3⟩ := list_cons h2
  subst e
  clear h2
  obtain ⟨x112, m112, e, h4⟩ := list_cons h3
  subst e
  clear h3
  obtain ⟨x113, m113, e, h5⟩ := list_cons h4
  subst e
  clear h4
  obtain ⟨x114, m114, e, h6⟩ := list_cons h5
  subst e
  clear h5
  obtain ⟨x115, m115, e, h7⟩ := list_cons h6
  subst e
  clear h6
  obtain ⟨x116, m116, e, h8⟩ := list_cons h7
  subst e
  clear h7
  obtain ⟨x117, m117, e, h9⟩ := list_cons h8
  subst e
  clear h8
  obtain ⟨x118, m118, e, h10⟩ := list_cons h9
  subst e
  clear h9
  obtain ⟨x119, m119, e, h11⟩ := list_cons h10
  subst e
  clear h10
  obtain ⟨x120, m120, e, h12⟩ := list_cons h11
  subst e
  clear h11
  have e := list_zero h12
  subst e
  exact ⟨_, _, _, _, _, _, _, _, _, _, _, _, rfl⟩
set_option maxHeartbeats 8000000 in
theorem want_rest {Q : Exit → Act → World → Prop} (hQ : ∀ c (a a' : Act) w, a'.defers = a.defers → Q (.panic c) a w → Q (.panic c) a' w) (a0 : Act) (w6 : World) (bx g q : Nat) (a b c d : Int) (A' : Option Addr) (sn cp' C : Nat) (hs0 : a0.tmps.size = 215) (hf0 : a0.defers = [])
    (c3 : a0.tmps[3]? = some (.pointer (some ⟨bx, 0, none⟩))) (c7 : a0.tmps[7]? = some (.pointer (some ⟨g, 0, none⟩))) (c10 : a0.tmps[10]? = some (.pointer (some ⟨q, 0, none⟩)))
    (HC33 : Hid (∀ W, Below w6.heap.size w6 W → (W.cell? ⟨bx, 0, none⟩ = some (.int .i64 a) ∧ W.cell? ⟨bx, 1, none⟩ = some (.int .i64 b) ∧ W.cell? ⟨bx, 2, none⟩ = some (.int .i64 c) ∧ W.cell? ⟨bx, 3, none⟩ = some (.int .i64 d)) ∧ W.cell? ⟨q, 6, none⟩ = some (.slice A' sn cp')))
    (HOFF : Hid (∀ W, Below w6.heap.size w6 W → Calls Tryd.prog 21 #[.pointer (some ⟨g, 0, none⟩)] W fun e w' => e = .returned (.int .i64 (sn : Int)) ∧ W = w'))
    (HROOM : Hid (∀ W, Below w6.heap.size w6 W → Calls Tryd.prog 22 #[.pointer (some ⟨g, 0, none⟩)] W fun e w' => e = .returned (.int .i64 ((C : Int) - (sn : Int))) ∧ Below W.heap.size W w'))
    (HCC : Hid (∀ W, Calls Tryd.prog 23 #[.agg #[.int .i64 a, .int .i64 b, .int .i64 c, .int .i64 d]] W fun r w' => r = .returned (.int .i64 (C : Int)) ∧ Below W.heap.size W w'))
    (a1 : IntKind.i64.wrap ((C : Int) - (sn : Int)) = (C : Int) - (sn : Int))
    (hend : ∀ a' W, a'.tmps.size = 215 → a'.defers = [] → a'.tmps[213]? = some (.bool false) → (∀ j, (j < 193 ∨ 214 ≤ j) → a'.tmps[j]? = a0.tmps[j]?) → Below w6.heap.size w6 W → Q .normal a' W) :
    Code.wp Tryd.prog (Code.region 33 #[{ dst := some 193, op := Op.move (Operand.tmp 7), type := 27, pos := "law.go:83", after := #[], guard := none }, { dst := some 194, op := Op.call { callee := Callee.value (Operand.func 21), args := #[Operand.tmp 193], argTypes := #[27] }, type := 3, pos := "law.go:83", after := #[{ on := 0, ground := Ground.data }], guard := none }, { dst := some 195, op := Op.move (Operand.tmp 10), type := 33, pos := "law.go:83", after := #[], guard := none }, { dst := some 196, op := Op.nilCheck (Operand.tmp 195), type := 0, pos := "law.go:83", after := #[{ on := 2, ground := Ground.data }], guard := none }, { dst := some 197, op := Op.fieldAddr 36 (Operand.tmp 196) 3, type := 0, pos := "law.go:83", after := #[{ on := 3, ground := Ground.data }], guard := none }, { dst := some 198, op := Op.load 34 (Operand.tmp 197), type := 34, pos := "law.go:83", after := #[{ on := 4, ground := Ground.data }], guard := none }, { dst := some 199, op := Op.call { callee := Callee.builtin Builtin.len, args := #[Operand.tmp 198], argTypes := #[34] }, type := 3, pos := "law.go:83", after := #[{ on := 5, ground := Ground.data }], guard := none }, { dst := some 200, op := Op.binOp BinOp.neq 3 (Operand.tmp 194) (Operand.tmp 199) 3, type := 4, pos := "law.go:83", after := #[{ on := 1, ground := Ground.data }, { on := 6, ground := Ground.data }], guard := none }, { dst := some 201, op := Op.move (Operand.tmp 200), type := 4, pos := "law.go:83", after := #[{ on := 7, ground := Ground.data }, { on := 1, ground := Ground.chain }], guard := none }, { dst := some 202, op := Op.move (Operand.tmp 7), type := 27, pos := "law.go:83", after := #[{ on := 8, ground := Ground.guard }], guard := some (8, false) }, { dst := some 203, op := Op.call { callee := Callee.value (Operand.func 22), args := #[Operand.tmp 202], argTypes := #[27] }, type := 3, pos := "law.go:83", after := #[{ on := 9, ground := Ground.data }, { on := 8, ground := Ground.chain }, { on := 8, ground := Ground.guard }], guard := some (8, false) }, { dst := some 204, op := Op.load 23 (Operand.tmp 3), type := 23, pos := "law.go:83", after := #[{ on := 8, ground := Ground.guard }], guard := some (8, false) }, { dst := some 205, op := Op.call { callee := Callee.value (Operand.func 23), args := #[Operand.tmp 204], argTypes := #[23] }, type := 3, pos := "law.go:83", after := #[{ on := 11, ground := Ground.data }, { on := 10, ground := Ground.chain }, { on := 8, ground := Ground.guard }], guard := some (8, false) }, { dst := some 206, op := Op.move (Operand.tmp 10), type := 33, pos := "law.go:83", after := #[{ on := 8, ground := Ground.guard }], guard := some (8, false) }, { dst := some 207, op := Op.nilCheck (Operand.tmp 206), type := 0, pos := "law.go:83", after := #[{ on := 13, ground := Ground.data }, { on := 8, ground := Ground.guard }], guard := some (8, false) }, { dst := some 208, op := Op.fieldAddr 36 (Operand.tmp 207) 3, type := 0, pos := "law.go:83", after := #[{ on := 14, ground := Ground.data }, { on := 8, ground := Ground.guard }], guard := some (8, false) }, { dst := some 209, op := Op.load 34 (Operand.tmp 208), type := 34, pos := "law.go:83", after := #[{ on := 15, ground := Ground.data }, { on := 8, ground := Ground.guard }], guard := some (8, false) }, { dst := some 210, op := Op.call { callee := Callee.builtin Builtin.len, args := #[Operand.tmp 209], argTypes := #[34] }, type := 3, pos := "law.go:83", after := #[{ on := 16, ground := Ground.data }, { on := 8, ground := Ground.guard }], guard := some (8, false) }, { dst := some 211, op := Op.binOp BinOp.sub 3 (Operand.tmp 205) (Operand.tmp 210) 3, type := 3, pos := "law.go:83", after := #[{ on := 12, ground := Ground.data }, { on := 17, ground := Ground.data }, { on := 8, ground := Ground.guard }], guard := some (8, false) }, { dst := some 212, op := Op.binOp BinOp.neq 3 (Operand.tmp 203) (Operand.tmp 211) 3, type := 4, pos := "law.go:83", after := #[{ on := 10, ground := Ground.data }, { on := 18, ground := Ground.data }, { on := 8, ground := Ground.guard }], guard := some (8, false) }, { dst := some 213, op := Op.pick (Operand.tmp 201) (Operand.const (Value.bool true)) (Operand.tmp 212), type := 4, pos := "law.go:83", after := #[{ on := 8, ground := Ground.data }, { on := 19, ground := Ground.data }], guard := none }] true) Q a0 w6 := by
  have HBD : Hid (Below w6.heap.size w6 w6.drew) := below_drewN w6 1
  have hO0 : ∀ j, (j < 193 ∨ 214 ≤ j) → a0.tmps[j]? = a0.tmps[j]? := fun _ _ => rfl
  refine wp_region_held_drew (S := fun W => (W.cell? ⟨bx, 0, none⟩ = some (.int .i64 a) ∧ W.cell? ⟨bx, 1, none⟩ = some (.int .i64 b) ∧ W.cell? ⟨bx, 2, none⟩ = some (.int .i64 c) ∧ W.cell? ⟨bx, 3, none⟩ = some (.int .i64 d)) ∧ W.cell? ⟨q, 6, none⟩ = some (.slice A' sn cp')) (by kernel_rfl) (HC33.out _ HBD.out) (fun hH => ?_)
  change wpAnyH _ _ _ _ _ 21 #[false, false, false, false, false, false, false, false, false, false, false, false, false, false, false, false, false, false, false, false, false] _ _
  refine held_take (i := 0) (v := ?_) (d := some 193) rfl rfl (by kernel_rfl) (by kernel_rfl) (by kernel_rfl) (fun c a w h => hQ c _ a w (by rfl) h) hH ⟨?_, fun w hSw => ?_⟩ ?_
  rotate_left 1
  · rfl
  · have e7 := eval_of ((hO0 7 (by decide)).trans c7)
    have ec : ∀ u, Act.eval a0 (.const u) = u := fun _ => rfl
    have ef : ∀ u, Act.eval a0 (.func u) = .func (.func u) #[] #[] := fun _ => rfl
    generalize Act.eval a0 = ρ at ec ef e7 ⊢
    (go_simp; all_goals with_reducible rfl)
  simp only [List.setIfInBounds_toArray, List.set_cons_zero]
  refine act_next (G := fun x => wpAnyH _ _ _ _ _ _ _ x _) _ 193 _ (by rw [hs0]; decide) (fun b1 s1 v1 k1 f1 => ?_)
  have hs1 := s1.trans hs0
  have hf1 := f1.trans hf0
  have hO1 : ∀ j, (j < 193 ∨ 214 ≤ j) → b1.tmps[j]? = a0.tmps[j]? := fun j hj => (k1 j (by omega)).trans (hO0 j hj)
  have g193_1 := v1
  clear hs0 hf0 hO0 s1 k1 f1 
  clear v1
  refine held_take (i := 2) (v := ?_) (d := some 195) rfl rfl (by kernel_rfl) (by kernel_rfl) (by kernel_rfl) (fun c a w h => hQ c _ a w (by rfl) h) hH ⟨?_, fun w hSw => ?_⟩ ?_
  rotate_left 1
  · rfl
  · have e10 := eval_of ((hO1 10 (by decide)).trans c10)
    have ec : ∀ u, Act.eval b1 (.const u) = u := fun _ => rfl
    have ef : ∀ u, Act.eval b1 (.func u) = .func (.func u) #[] #[] := fun _ => rfl
    generalize Act.eval b1 = ρ at ec ef e10 ⊢
    (go_simp; all_goals with_reducible rfl)
  simp only [List.setIfInBounds_toArray, List.set_cons_zero, List.set_cons_succ]
  refine act_next (G := fun x => wpAnyH _ _ _ _ _ _ _ x _) _ 195 _ (by rw [hs1]; decide) (fun b2 s2 v2 k2 f2 => ?_)
  have hs2 := s2.trans hs1
  have hf2 := f2.trans hf1
  have hO2 : ∀ j, (j < 193 ∨ 214 ≤ j) → b2.tmps[j]? = a0.tmps[j]? := fun j hj => (k2 j (by omega)).trans (hO1 j hj)
  have g193_2 := (k2 193 (by decide)).trans g193_1
  have g195_2 := v2
  clear hs1 hf1 hO1 s2 k2 f2 g193_1
  clear v2
  refine held_take (i := 3) (v := ?_) (d := some 196) rfl rfl (by kernel_rfl) (by kernel_rfl) (by kernel_rfl) (fun c a w h => hQ c _ a w (by rfl) h) hH ⟨?_, fun w hSw => ?_⟩ ?_
  rotate_left 1
  · rfl
  · have e195 := eval_of g195_2
    have ec : ∀ u, Act.eval b2 (.const u) = u := fun _ => rfl
    have ef : ∀ u, Act.eval b2 (.func u) = .func (.func u) #[] #[] := fun _ => rfl
    generalize Act.eval b2 = ρ at ec ef e195 ⊢
    (go_simp; all_goals with_reducible rfl)
  simp only [List.setIfInBounds_toArray, List.set_cons_zero, List.set_cons_succ]
  refine act_next (G := fun x => wpAnyH _ _ _ _ _ _ _ x _) _ 196 _ (by rw [hs2]; decide) (fun b3 s3 v3 k3 f3 => ?_)
  have hs3 := s3.trans hs2
  have hf3 := f3.trans hf2
  have hO3 : ∀ j, (j < 193 ∨ 214 ≤ j) → b3.tmps[j]? = a0.tmps[j]? := fun j hj => (k3 j (by omega)).trans (hO2 j hj)
  have g193_3 := (k3 193 (by decide)).trans g193_2
  have g196_3 := v3
  clear hs2 hf2 hO2 s3 k3 f3 g193_2 g195_2
  clear v3
  refine held_take (i := 4) (v := ?_) (d := some 197) rfl rfl (by kernel_rfl) (by kernel_rfl) (by kernel_rfl) (fun c a w h => hQ c _ a w (by rfl) h) hH ⟨?_, fun w hSw => ?_⟩ ?_
  rotate_left 1
  · rfl
  · have e196 := eval_of g196_3
    have ec : ∀ u, Act.eval b3 (.const u) = u := fun _ => rfl
    have ef : ∀ u, Act.eval b3 (.func u) = .func (.func u) #[] #[] := fun _ => rfl
    generalize Act.eval b3 = ρ at ec ef e196 ⊢
    (go_simp; all_goals with_reducible rfl)
  simp only [List.setIfInBounds_toArray, List.set_cons_zero, List.set_cons_succ]
  refine act_next (G := fun x => wpAnyH _ _ _ _ _ _ _ x _) _ 197 _ (by rw [hs3]; decide) (fun b4 s4 v4 k4 f4 => ?_)
  have hs4 := s4.trans hs3
  have hf4 := f4.trans hf3
  have hO4 : ∀ j, (j < 193 ∨ 214 ≤ j) → b4.tmps[j]? = a0.tmps[j]? := fun j hj => (k4 j (by omega)).trans (hO3 j hj)
  have g193_4 := (k4 193 (by decide)).trans g193_3
  have g197_4 := v4
  clear hs3 hf3 hO3 s4 k4 f4 g193_3 g196_3
  clear v4
  refine held_take (i := 5) (v := ?_) (d := some 198) rfl rfl (by kernel_rfl) (by kernel_rfl) (by kernel_rfl) (fun c a w h => hQ c _ a w (by rfl) h) hH ⟨?_, fun w hSw => ?_⟩ ?_
  rotate_left 1
  · rfl
  · have e197 := eval_of g197_4
    obtain ⟨⟨y0, y1, y2, y3⟩, y6⟩ := hSw
    have ec : ∀ u, Act.eval b4 (.const u) = u := fun _ => rfl
    have ef : ∀ u, Act.eval b4 (.func u) = .func (.func u) #[] #[] := fun _ => rfl
    generalize Act.eval b4 = ρ at ec ef e197 ⊢
    (go_simp; all_goals with_reducible rfl)
  simp only [List.setIfInBounds_toArray, List.set_cons_zero, List.set_cons_succ]
  refine act_next (G := fun x => wpAnyH _ _ _ _ _ _ _ x _) _ 198 _ (by rw [hs4]; decide) (fun b5 s5 v5 k5 f5 => ?_)
  have hs5 := s5.trans hs4
  have hf5 := f5.trans hf4
  have hO5 : ∀ j, (j < 193 ∨ 214 ≤ j) → b5.tmps[j]? = a0.tmps[j]? := fun j hj => (k5 j (by omega)).trans (hO4 j hj)
  have g193_5 := (k5 193 (by decide)).trans g193_4
  have g198_5 := v5
  clear hs4 hf4 hO4 s5 k5 f5 g193_4 g197_4
  clear v5
  refine held_take (i := 6) (v := ?_) (d := some 199) rfl rfl (by kernel_rfl) (by kernel_rfl) (by kernel_rfl) (fun c a w h => hQ c _ a w (by rfl) h) hH ⟨?_, fun w hSw => ?_⟩ ?_
  rotate_left 1
  · rfl
  · have e198 := eval_of g198_5
    have ec : ∀ u, Act.eval b5 (.const u) = u := fun _ => rfl
    have ef : ∀ u, Act.eval b5 (.func u) = .func (.func u) #[] #[] := fun _ => rfl
    generalize Act.eval b5 = ρ at ec ef e198 ⊢
    (go_simp; all_goals with_reducible rfl)
  simp only [List.setIfInBounds_toArray, List.set_cons_zero, List.set_cons_succ]
  refine act_next (G := fun x => wpAnyH _ _ _ _ _ _ _ x _) _ 199 _ (by rw [hs5]; decide) (fun b6 s6 v6 k6 f6 => ?_)
  have hs6 := s6.trans hs5
  have hf6 := f6.trans hf5
  have hO6 : ∀ j, (j < 193 ∨ 214 ≤ j) → b6.tmps[j]? = a0.tmps[j]? := fun j hj => (k6 j (by omega)).trans (hO5 j hj)
  have g193_6 := (k6 193 (by decide)).trans g193_5
  have g199_6 := v6
  clear hs5 hf5 hO5 s6 k6 f6 g193_5 g198_5
  clear v6
  refine held_step (i := 1) rfl (by kernel_rfl) ?_ (fun K hK => ?_)
  · rfl
  have e193 := eval_of g193_6
  unfold Oper.wp
  have ec : ∀ u, Act.eval b6 (.const u) = u := fun _ => rfl
  have ef : ∀ u, Act.eval b6 (.func u) = .func (.func u) #[] #[] := fun _ => rfl
  generalize Act.eval b6 = ρ at ec ef e193 ⊢
  go_simp
  refine (HOFF.out _ HBD.out).mono ?_
  rintro e w7 ⟨rfl, rfl⟩
  replace hH := hH
  refine hK _ _ hH ?_
  clear hK K
  simp only [List.setIfInBounds_toArray, List.set_cons_zero, List.set_cons_succ]
  clear ec ef e193
  first
    | refine act_next2 (G := fun x => wpAnyH _ _ _ _ _ _ _ x _) b6 194 _ hf6 (by rw [hs6]; decide) (fun b7 s7 v7 k7 f7 => ?_)
    | refine act_next (G := fun x => wpAnyH _ _ _ _ _ _ _ x _) _ 194 _ (by rw [hs6]; decide) (fun b7 s7 v7 k7 f7 => ?_)
  have hs7 := s7.trans hs6
  have hf7 := f7.trans hf6
  have hO7 : ∀ j, (j < 193 ∨ 214 ≤ j) → b7.tmps[j]? = a0.tmps[j]? := fun j hj => (k7 j (by omega)).trans (hO6 j hj)
  have g199_7 := (k7 199 (by decide)).trans g199_6
  have g194_7 := v7
  clear hs6 hf6 hO6 s7 k7 f7 g193_6 g199_6
  clear v7
  refine held_take (i := 7) (v := ?_) (d := some 200) rfl rfl (by kernel_rfl) (by kernel_rfl) (by kernel_rfl) (fun c a w h => hQ c _ a w (by rfl) h) hH ⟨?_, fun w hSw => ?_⟩ ?_
  rotate_left 1
  · rfl
  · have e194 := eval_of g194_7
    have e199 := eval_of g199_7
    have ec : ∀ u, Act.eval b7 (.const u) = u := fun _ => rfl
    have ef : ∀ u, Act.eval b7 (.func u) = .func (.func u) #[] #[] := fun _ => rfl
    generalize Act.eval b7 = ρ at ec ef e194 e199 ⊢
    (go_simp; all_goals with_reducible rfl)
  simp only [List.setIfInBounds_toArray, List.set_cons_zero, List.set_cons_succ]
  refine act_next (G := fun x => wpAnyH _ _ _ _ _ _ _ x _) _ 200 _ (by rw [hs7]; decide) (fun b8 s8 v8 k8 f8 => ?_)
  have hs8 := s8.trans hs7
  have hf8 := f8.trans hf7
  have hO8 : ∀ j, (j < 193 ∨ 214 ≤ j) → b8.tmps[j]? = a0.tmps[j]? := fun j hj => (k8 j (by omega)).trans (hO7 j hj)
  have g200_8 := v8
  clear hs7 hf7 hO7 s8 k8 f8 g199_7 g194_7
  clear v8
  refine held_take (i := 8) (v := ?_) (d := some 201) rfl rfl (by kernel_rfl) (by kernel_rfl) (by kernel_rfl) (fun c a w h => hQ c _ a w (by rfl) h) hH ⟨?_, fun w hSw => ?_⟩ ?_
  rotate_left 1
  · rfl
  · have e200 := eval_of g200_8
    have ec : ∀ u, Act.eval b8 (.const u) = u := fun _ => rfl
    have ef : ∀ u, Act.eval b8 (.func u) = .func (.func u) #[] #[] := fun _ => rfl
    generalize Act.eval b8 = ρ at ec ef e200 ⊢
    (go_simp; all_goals with_reducible rfl)
  simp only [List.setIfInBounds_toArray, List.set_cons_zero, List.set_cons_succ]
  refine act_next (G := fun x => wpAnyH _ _ _ _ _ _ _ x _) _ 201 _ (by rw [hs8]; decide) (fun b9 s9 v9 k9 f9 => ?_)
  have hs9 := s9.trans hs8
  have hf9 := f9.trans hf8
  have hO9 : ∀ j, (j < 193 ∨ 214 ≤ j) → b9.tmps[j]? = a0.tmps[j]? := fun j hj => (k9 j (by omega)).trans (hO8 j hj)
  have g201_9 := v9
  clear hs8 hf8 hO8 s9 k9 f9 g200_8
  clear v9
  refine held_take (i := 9) (v := ?_) (d := some 202) rfl rfl (by kernel_rfl) (by kernel_rfl) (by kernel_rfl) (fun c a w h => hQ c _ a w (by rfl) h) hH ⟨?_, fun w hSw => ?_⟩ ?_
  rotate_left 1
  · exact wanted_yes (g := 8) (s := 201) rfl rfl g201_9
  · have e7 := eval_of ((hO9 7 (by decide)).trans c7)
    have ec : ∀ u, Act.eval b9 (.const u) = u := fun _ => rfl
    have ef : ∀ u, Act.eval b9 (.func u) = .func (.func u) #[] #[] := fun _ => rfl
    generalize Act.eval b9 = ρ at ec ef e7 ⊢
    (go_simp; all_goals with_reducible rfl)
  simp only [List.setIfInBounds_toArray, List.set_cons_zero, List.set_cons_succ]
  refine act_next (G := fun x => wpAnyH _ _ _ _ _ _ _ x _) _ 202 _ (by rw [hs9]; decide) (fun b10 s10 v10 k10 f10 => ?_)
  have hs10 := s10.trans hs9
  have hf10 := f10.trans hf9
  have hO10 : ∀ j, (j < 193 ∨ 214 ≤ j) → b10.tmps[j]? = a0.tmps[j]? := fun j hj => (k10 j (by omega)).trans (hO9 j hj)
  have g201_10 := (k10 201 (by decide)).trans g201_9
  have g202_10 := v10
  clear hs9 hf9 hO9 s10 k10 f10 g201_9
  clear v10
  refine held_take (i := 11) (v := ?_) (d := some 204) rfl rfl (by kernel_rfl) (by kernel_rfl) (by kernel_rfl) (fun c a w h => hQ c _ a w (by rfl) h) hH ⟨?_, fun w hSw => ?_⟩ ?_
  rotate_left 1
  · exact wanted_yes (g := 8) (s := 201) rfl rfl g201_10
  · have e3 := eval_of ((hO10 3 (by decide)).trans c3)
    obtain ⟨⟨y0, y1, y2, y3⟩, y6⟩ := hSw
    have ec : ∀ u, Act.eval b10 (.const u) = u := fun _ => rfl
    have ef : ∀ u, Act.eval b10 (.func u) = .func (.func u) #[] #[] := fun _ => rfl
    generalize Act.eval b10 = ρ at ec ef e3 ⊢
    (go_simp; all_goals with_reducible rfl)
  simp only [List.setIfInBounds_toArray, List.set_cons_zero, List.set_cons_succ]
  refine act_next (G := fun x => wpAnyH _ _ _ _ _ _ _ x _) _ 204 _ (by rw [hs10]; decide) (fun b11 s11 v11 k11 f11 => ?_)
  have hs11 := s11.trans hs10
  have hf11 := f11.trans hf10
  have hO11 : ∀ j, (j < 193 ∨ 214 ≤ j) → b11.tmps[j]? = a0.tmps[j]? := fun j hj => (k11 j (by omega)).trans (hO10 j hj)
  have g201_11 := (k11 201 (by decide)).trans g201_10
  have g202_11 := (k11 202 (by decide)).trans g202_10
  have g204_11 := v11
  clear hs10 hf10 hO10 s11 k11 f11 g201_10 g202_10
  clear v11
  refine held_take (i := 13) (v := ?_) (d := some 206) rfl rfl (by kernel_rfl) (by kernel_rfl) (by kernel_rfl) (fun c a w h => hQ c _ a w (by rfl) h) hH ⟨?_, fun w hSw => ?_⟩ ?_
  rotate_left 1
  · exact wanted_yes (g := 8) (s := 201) rfl rfl g201_11
  · have e10 := eval_of ((hO11 10 (by decide)).trans c10)
    have ec : ∀ u, Act.eval b11 (.const u) = u := fun _ => rfl
    have ef : ∀ u, Act.eval b11 (.func u) = .func (.func u) #[] #[] := fun _ => rfl
    generalize Act.eval b11 = ρ at ec ef e10 ⊢
    (go_simp; all_goals with_reducible rfl)
  simp only [List.setIfInBounds_toArray, List.set_cons_zero, List.set_cons_succ]
  refine act_next (G := fun x => wpAnyH _ _ _ _ _ _ _ x _) _ 206 _ (by rw [hs11]; decide) (fun b12 s12 v12 k12 f12 => ?_)
  have hs12 := s12.trans hs11
  have hf12 := f12.trans hf11
  have hO12 : ∀ j, (j < 193 ∨ 214 ≤ j) → b12.tmps[j]? = a0.tmps[j]? := fun j hj => (k12 j (by omega)).trans (hO11 j hj)
  have g201_12 := (k12 201 (by decide)).trans g201_11
  have g202_12 := (k12 202 (by decide)).trans g202_11
  have g204_12 := (k12 204 (by decide)).trans g204_11
  have g206_12 := v12
  clear hs11 hf11 hO11 s12 k12 f12 g201_11 g202_11 g204_11
  clear v12
  refine held_take (i := 14) (v := ?_) (d := some 207) rfl rfl (by kernel_rfl) (by kernel_rfl) (by kernel_rfl) (fun c a w h => hQ c _ a w (by rfl) h) hH ⟨?_, fun w hSw => ?_⟩ ?_
  rotate_left 1
  · exact wanted_yes (g := 8) (s := 201) rfl rfl g201_12
  · have e206 := eval_of g206_12
    have ec : ∀ u, Act.eval b12 (.const u) = u := fun _ => rfl
    have ef : ∀ u, Act.eval b12 (.func u) = .func (.func u) #[] #[] := fun _ => rfl
    generalize Act.eval b12 = ρ at ec ef e206 ⊢
    (go_simp; all_goals with_reducible rfl)
  simp only [List.setIfInBounds_toArray, List.set_cons_zero, List.set_cons_succ]
  refine act_next (G := fun x => wpAnyH _ _ _ _ _ _ _ x _) _ 207 _ (by rw [hs12]; decide) (fun b13 s13 v13 k13 f13 => ?_)
  have hs13 := s13.trans hs12
  have hf13 := f13.trans hf12
  have hO13 : ∀ j, (j < 193 ∨ 214 ≤ j) → b13.tmps[j]? = a0.tmps[j]? := fun j hj => (k13 j (by omega)).trans (hO12 j hj)
  have g201_13 := (k13 201 (by decide)).trans g201_12
  have g202_13 := (k13 202 (by decide)).trans g202_12
  have g204_13 := (k13 204 (by decide)).trans g204_12
  have g207_13 := v13
  clear hs12 hf12 hO12 s13 k13 f13 g201_12 g202_12 g204_12 g206_12
  clear v13
  refine held_take (i := 15) (v := ?_) (d := some 208) rfl rfl (by kernel_rfl) (by kernel_rfl) (by kernel_rfl) (fun c a w h => hQ c _ a w (by rfl) h) hH ⟨?_, fun w hSw => ?_⟩ ?_
  rotate_left 1
  · exact wanted_yes (g := 8) (s := 201) rfl rfl g201_13
  · have e207 := eval_of g207_13
    have ec : ∀ u, Act.eval b13 (.const u) = u := fun _ => rfl
    have ef : ∀ u, Act.eval b13 (.func u) = .func (.func u) #[] #[] := fun _ => rfl
    generalize Act.eval b13 = ρ at ec ef e207 ⊢
    (go_simp; all_goals with_reducible rfl)
  simp only [List.setIfInBounds_toArray, List.set_cons_zero, List.set_cons_succ]
  refine act_next (G := fun x => wpAnyH _ _ _ _ _ _ _ x _) _ 208 _ (by rw [hs13]; decide) (fun b14 s14 v14 k14 f14 => ?_)
  have hs14 := s14.trans hs13
  have hf14 := f14.trans hf13
  have hO14 : ∀ j, (j < 193 ∨ 214 ≤ j) → b14.tmps[j]? = a0.tmps[j]? := fun j hj => (k14 j (by omega)).trans (hO13 j hj)
  have g201_14 := (k14 201 (by decide)).trans g201_13
  have g202_14 := (k14 202 (by decide)).trans g202_13
  have g204_14 := (k14 204 (by decide)).trans g204_13
  have g208_14 := v14
  clear hs13 hf13 hO13 s14 k14 f14 g201_13 g202_13 g204_13 g207_13
  clear v14
  refine held_take (i := 16) (v := ?_) (d := some 209) rfl rfl (by kernel_rfl) (by kernel_rfl) (by kernel_rfl) (fun c a w h => hQ c _ a w (by rfl) h) hH ⟨?_, fun w hSw => ?_⟩ ?_
  rotate_left 1
  · exact wanted_yes (g := 8) (s := 201) rfl rfl g201_14
  · have e208 := eval_of g208_14
    obtain ⟨⟨y0, y1, y2, y3⟩, y6⟩ := hSw
    have ec : ∀ u, Act.eval b14 (.const u) = u := fun _ => rfl
    have ef : ∀ u, Act.eval b14 (.func u) = .func (.func u) #[] #[] := fun _ => rfl
    generalize Act.eval b14 = ρ at ec ef e208 ⊢
    (go_simp; all_goals with_reducible rfl)
  simp only [List.setIfInBounds_toArray, List.set_cons_zero, List.set_cons_succ]
  refine act_next (G := fun x => wpAnyH _ _ _ _ _ _ _ x _) _ 209 _ (by rw [hs14]; decide) (fun b15 s15 v15 k15 f15 => ?_)
  have hs15 := s15.trans hs14
  have hf15 := f15.trans hf14
  have hO15 : ∀ j, (j < 193 ∨ 214 ≤ j) → b15.tmps[j]? = a0.tmps[j]? := fun j hj => (k15 j (by omega)).trans (hO14 j hj)
  have g201_15 := (k15 201 (by decide)).trans g201_14
  have g202_15 := (k15 202 (by decide)).trans g202_14
  have g204_15 := (k15 204 (by decide)).trans g204_14
  have g209_15 := v15
  clear hs14 hf14 hO14 s15 k15 f15 g201_14 g202_14 g204_14 g208_14
  clear v15
  refine held_take (i := 17) (v := ?_) (d := some 210) rfl rfl (by kernel_rfl) (by kernel_rfl) (by kernel_rfl) (fun c a w h => hQ c _ a w (by rfl) h) hH ⟨?_, fun w hSw => ?_⟩ ?_
  rotate_left 1
  · exact wanted_yes (g := 8) (s := 201) rfl rfl g201_15
  · have e209 := eval_of g209_15
    have ec : ∀ u, Act.eval b15 (.const u) = u := fun _ => rfl
    have ef : ∀ u, Act.eval b15 (.func u) = .func (.func u) #[] #[] := fun _ => rfl
    generalize Act.eval b15 = ρ at ec ef e209 ⊢
    (go_simp; all_goals with_reducible rfl)
  simp only [List.setIfInBounds_toArray, List.set_cons_zero, List.set_cons_succ]
  refine act_next (G := fun x => wpAnyH _ _ _ _ _ _ _ x _) _ 210 _ (by rw [hs15]; decide) (fun b16 s16 v16 k16 f16 => ?_)
  have hs16 := s16.trans hs15
  have hf16 := f16.trans hf15
  have hO16 : ∀ j, (j < 193 ∨ 214 ≤ j) → b16.tmps[j]? = a0.tmps[j]? := fun j hj => (k16 j (by omega)).trans (hO15 j hj)
  have g201_16 := (k16 201 (by decide)).trans g201_15
  have g202_16 := (k16 202 (by decide)).trans g202_15
  have g204_16 := (k16 204 (by decide)).trans g204_15
  have g210_16 := v16
  clear hs15 hf15 hO15 s16 k16 f16 g201_15 g202_15 g204_15 g209_15
  clear v16
  refine held_step (i := 10) rfl (by kernel_rfl) ?_ (fun K hK => ?_)
  · exact wanted_yes (g := 8) (s := 201) rfl rfl g201_16
  have e202 := eval_of g202_16
  clear hH
  unfold Oper.wp
  have ec : ∀ u, Act.eval b16 (.const u) = u := fun _ => rfl
  have ef : ∀ u, Act.eval b16 (.func u) = .func (.func u) #[] #[] := fun _ => rfl
  generalize Act.eval b16 = ρ at ec ef e202 ⊢
  go_simp
  refine (HROOM.out _ HBD.out).mono ?_
  rintro e w8 ⟨rfl, hb8⟩
  have HB8 : Hid (Below w6.heap.size w6 w8) := HBD.out.trans (hb8.mono HBD.out.size)
  clear hb8
  have hH := HC33.out _ HB8.out
  refine hK _ _ hH ?_
  clear hK K
  simp only [List.setIfInBounds_toArray, List.set_cons_zero, List.set_cons_succ]
  clear ec ef e202
  first
    | refine act_next2 (G := fun x => wpAnyH _ _ _ _ _ _ _ x _) b16 203 _ hf16 (by rw [hs16]; decide) (fun b17 s17 v17 k17 f17 => ?_)
    | refine act_next (G := fun x => wpAnyH _ _ _ _ _ _ _ x _) _ 203 _ (by rw [hs16]; decide) (fun b17 s17 v17 k17 f17 => ?_)
  have hs17 := s17.trans hs16
  have hf17 := f17.trans hf16
  have hO17 : ∀ j, (j < 193 ∨ 214 ≤ j) → b17.tmps[j]? = a0.tmps[j]? := fun j hj => (k17 j (by omega)).trans (hO16 j hj)
  have g201_17 := (k17 201 (by decide)).trans g201_16
  have g204_17 := (k17 204 (by decide)).trans g204_16
  have g210_17 := (k17 210 (by decide)).trans g210_16
  have g203_17 := v17
  clear hs16 hf16 hO16 s17 k17 f17 g201_16 g202_16 g204_16 g210_16
  clear v17
  refine held_step (i := 12) rfl (by kernel_rfl) ?_ (fun K hK => ?_)
  · exact wanted_yes (g := 8) (s := 201) rfl rfl g201_17
  have e204 := eval_of g204_17
  clear hH
  unfold Oper.wp
  have ec : ∀ u, Act.eval b17 (.const u) = u := fun _ => rfl
  have ef : ∀ u, Act.eval b17 (.func u) = .func (.func u) #[] #[] := fun _ => rfl
  generalize Act.eval b17 = ρ at ec ef e204 ⊢
  go_simp
  refine (HCC.out _).mono ?_
  rintro e w9 ⟨rfl, hb9⟩
  have HB9 : Hid (Below w6.heap.size w6 w9) := HB8.out.trans (hb9.mono HB8.out.size)
  clear hb9
  have hH := HC33.out _ HB9.out
  refine hK _ _ hH ?_
  clear hK K
  simp only [List.setIfInBounds_toArray, List.set_cons_zero, List.set_cons_succ]
  clear ec ef e204
  first
    | refine act_next2 (G := fun x => wpAnyH _ _ _ _ _ _ _ x _) b17 205 _ hf17 (by rw [hs17]; decide) (fun b18 s18 v18 k18 f18 => ?_)
    | refine act_next (G := fun x => wpAnyH _ _ _ _ _ _ _ x _) _ 205 _ (by rw [hs17]; decide) (fun b18 s18 v18 k18 f18 => ?_)
  have hs18 := s18.trans hs17
  have hf18 := f18.trans hf17
  have hO18 : ∀ j, (j < 193 ∨ 214 ≤ j) → b18.tmps[j]? = a0.tmps[j]? := fun j hj => (k18 j (by omega)).trans (hO17 j hj)
  have g201_18 := (k18 201 (by decide)).trans g201_17
  have g210_18 := (k18 210 (by decide)).trans g210_17
  have g203_18 := (k18 203 (by decide)).trans g203_17
  have g205_18 := v18
  clear hs17 hf17 hO17 s18 k18 f18 g201_17 g204_17 g210_17 g203_17
  clear v18
  refine held_take (i := 18) (v := ?_) (d := some 211) rfl rfl (by kernel_rfl) (by kernel_rfl) (by kernel_rfl) (fun c a w h => hQ c _ a w (by rfl) h) hH ⟨?_, fun w hSw => ?_⟩ ?_
  rotate_left 1
  · exact wanted_yes (g := 8) (s := 201) rfl rfl g201_18
  · have e205 := eval_of g205_18
    have e210 := eval_of g210_18
    have ec : ∀ u, Act.eval b18 (.const u) = u := fun _ => rfl
    have ef : ∀ u, Act.eval b18 (.func u) = .func (.func u) #[] #[] := fun _ => rfl
    generalize Act.eval b18 = ρ at ec ef e205 e210 ⊢
    (go_simp; all_goals with_reducible rfl)
  simp only [List.setIfInBounds_toArray, List.set_cons_zero, List.set_cons_succ]
  refine act_next (G := fun x => wpAnyH _ _ _ _ _ _ _ x _) _ 211 _ (by rw [hs18]; decide) (fun b19 s19 v19 k19 f19 => ?_)
  have hs19 := s19.trans hs18
  have hf19 := f19.trans hf18
  have hO19 : ∀ j, (j < 193 ∨ 214 ≤ j) → b19.tmps[j]? = a0.tmps[j]? := fun j hj => (k19 j (by omega)).trans (hO18 j hj)
  have g201_19 := (k19 201 (by decide)).trans g201_18
  have g203_19 := (k19 203 (by decide)).trans g203_18
  have g211_19 := v19
  clear hs18 hf18 hO18 s19 k19 f19 g201_18 g210_18 g203_18 g205_18
  clear v19
  refine held_take (i := 19) (v := ?_) (d := some 212) rfl rfl (by kernel_rfl) (by kernel_rfl) (by kernel_rfl) (fun c a w h => hQ c _ a w (by rfl) h) hH ⟨?_, fun w hSw => ?_⟩ ?_
  rotate_left 1
  · exact wanted_yes (g := 8) (s := 201) rfl rfl g201_19
  · have e203 := eval_of g203_19
    have e211 := eval_of g211_19
    have ec : ∀ u, Act.eval b19 (.const u) = u := fun _ => rfl
    have ef : ∀ u, Act.eval b19 (.func u) = .func (.func u) #[] #[] := fun _ => rfl
    generalize Act.eval b19 = ρ at ec ef e203 e211 ⊢
    (go_simp; all_goals with_reducible rfl)
  simp only [List.setIfInBounds_toArray, List.set_cons_zero, List.set_cons_succ]
  refine act_next (G := fun x => wpAnyH _ _ _ _ _ _ _ x _) _ 212 _ (by rw [hs19]; decide) (fun b20 s20 v20 k20 f20 => ?_)
  have hs20 := s20.trans hs19
  have hf20 := f20.trans hf19
  have hO20 : ∀ j, (j < 193 ∨ 214 ≤ j) → b20.tmps[j]? = a0.tmps[j]? := fun j hj => (k20 j (by omega)).trans (hO19 j hj)
  have g201_20 := (k20 201 (by decide)).trans g201_19
  have g212_20 := v20
  clear hs19 hf19 hO19 s20 k20 f20 g201_19 g203_19 g211_19
  clear v20
  refine held_take (i := 20) (v := ?_) (d := some 213) rfl rfl (by kernel_rfl) (by kernel_rfl) (by kernel_rfl) (fun c a w h => hQ c _ a w (by rfl) h) hH ⟨?_, fun w hSw => ?_⟩ ?_
  rotate_left 1
  · rfl
  · have e201 := eval_of g201_20
    have e212 := eval_of g212_20
    have ec : ∀ u, Act.eval b20 (.const u) = u := fun _ => rfl
    have ef : ∀ u, Act.eval b20 (.func u) = .func (.func u) #[] #[] := fun _ => rfl
    generalize Act.eval b20 = ρ at ec ef e201 e212 ⊢
    (go_simp; all_goals with_reducible rfl)
  simp only [List.setIfInBounds_toArray, List.set_cons_zero, List.set_cons_succ]
  refine act_next (G := fun x => wpAnyH _ _ _ _ _ _ _ x _) _ 213 _ (by rw [hs20]; decide) (fun b21 s21 v21 k21 f21 => ?_)
  have hs21 := s21.trans hs20
  have hf21 := f21.trans hf20
  have hO21 : ∀ j, (j < 193 ∨ 214 ≤ j) → b21.tmps[j]? = a0.tmps[j]? := fun j hj => (k21 j (by omega)).trans (hO20 j hj)
  have g213_21 := v21
  clear hs20 hf20 hO20 s21 k21 f21 g201_20 g212_20
  clear v21
  refine wpAnyH_done (by kernel_rfl) ?_ _
  exact hend _ _ hs21 hf21 g213_21 hO21 HB9.out
end Go.Proofs.YtepbdicglgjcjaaDoor
