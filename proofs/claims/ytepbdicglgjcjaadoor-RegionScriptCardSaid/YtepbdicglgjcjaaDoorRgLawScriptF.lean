/-
  The law RegionScript.
-/
import Derived.Test.YtepbdicglgjcjaaDoorFoldO
import Derived.Test.YtepbdicglgjcjaaDoorHoldF
import Derived.Deep.DeepCutAuto
import Derived.Deep.CutBlock
set_option maxRecDepth 100000
namespace Go.Proofs.YtepbdicglgjcjaaDoor
open Go.RowKit
theorem five_cells {w : World} {g : Nat} {a b c d e : Value} {t : TypeId} (h : w.heap[g]? = some (.cells #[a, b, c, d, e] t (0, 0))) : w.cell? ⟨g, 0, none⟩ = some a ∧ w.cell? ⟨g, 1, none⟩ = some b ∧ w.cell? ⟨g, 2, none⟩ = some c ∧ w.cell? ⟨g, 3, none⟩ = some d ∧ w.cell? ⟨g, 4, none⟩ = some e := by
  refine ⟨?_, ?_, ?_, ?_, ?_⟩
  · rw [cell_of_row w g 0 _ t (0, 0) h]; rfl
  · rw [cell_of_row w g 1 _ t (0, 0) h]; rfl
  · rw [cell_of_row w g 2 _ t (0, 0) h]; rfl
  · rw [cell_of_row w g 3 _ t (0, 0) h]; rfl
  · rw [cell_of_row w g 4 _ t (0, 0) h]; rfl
theorem frame_at (l : List Value) (a' : Act) (lo n N : Nat) (hs : a'.tmps.size = N) (hf : a'.defers = []) (ho : ∀ j, (j < lo ∨ lo + n ≤ j) → a'.tmps[j]? = (Act.mk l.toArray []).tmps[j]?) (hl : l.length = N) (hlo : lo + n ≤ N) :
    ∃ m : List Value, m.length = n ∧ (∀ i, i < n → m[i]? = a'.tmps[lo + i]?) ∧ a' = ⟨(l.take lo ++ (m ++ l.drop (lo + n))).toArray, []⟩ :=
  frame_of l a' lo n (by omega) (by omega) hf fun j hj => by rw [ho j hj]; simp
theorem list_69 (l : List Value) (v : Value) (h0 : l.length = 69) (hv : l[68]? = some v) :
    ∃ x107 x108 x109 x110 x111 x112 x113 x114 x115 x116 x117 x118 x119 x120 x121 x122 x123 x124 x125 x126 x127 x128 x129 x130 x131 x132 x133 x134 x135 x136 x137 x138 x139 x140 x141 x142 x143 x144 x145 x146 x147 x148 x149 x150 x151 x152 x153 x154 x155 x156 x157 x158 x159 x160 x161 x162 x163 x164 x165 x166 x167 x168 x169 x170 x171 x172 x173 x174 : Value, l = [x107, x108, x109, x110, x111, x112, x113, x114, x115, x116, x117, x118, x119, x120, x121, x122, x123, x124, x125, x126, x127, x128, x129, x130, x131, x132, x133, x134, x135, x136, x137, x138, x139, x140, x141, x142, x143, x144, x145, x146, x147, x148, x149, x150, x151, x152, x153, x154, x155, x156, x157, x158, x159, x160, x161, x162, x163, x164, x165, x166, x167, x168, x169, x170, x171, x172, x173, x174, v] := by
  obtain ⟨x107, m107, e, h1⟩ := list_cons h0
  subst e
  clear h0
  obtain ⟨x108, m108, e, h2⟩ := list_cons h1
  subst e
  clear h1
  obtain ⟨x109, m109, e, h3⟩ := list_cons h2
  subst e
  clear h2
  obtain ⟨x110, m110, e, h4⟩ := list_cons h3
  subst e
  clear h3
  obtain ⟨x111, m111, e, h5⟩ := list_cons h4
  subst e
  clear h4
  obtain ⟨x112, m112, e, h6⟩ := list_cons h5
  subst e
  clear h5
  obtain ⟨x113, m113, e, h7⟩ := list_cons h6
  subst e
  clear h6
  obtain ⟨x114, m114, e, h8⟩ := list_cons h7
  subst e
  clear h7
  obtain ⟨x115, m115, e, h9⟩ := list_cons h8
  subst e
  clear h8
  obtain ⟨x116, m116, e, h10⟩ := list_cons h9
  subst e
  clear h9
  obtain ⟨x117, m117, e, h11⟩ := list_cons h10
  subst e
  clear h10
  obtain ⟨x118, m118, e, h12⟩ := list_cons h11
  subst e
  clear h11
  obtain ⟨x119, m119, e, h13⟩ := list_cons h12
  subst e
  clear h12
  obtain ⟨x120, m120, e, h14⟩ := list_cons h13
  subst e
  clear h13
  obtain ⟨x121, m121, e, h15⟩ := list_cons h14
  subst e
  clear h14
  obtain ⟨x122, m122, e, h16⟩ := list_cons h15
  subst e
  clear h15
  obtain ⟨x123, m123, e, h17⟩ := list_cons h16
  subst e
  clear h16
  obtain ⟨x124, m124, e, h18⟩ := list_cons h17
  subst e
  clear h17
  obtain ⟨x125, m125, e, h19⟩ := list_cons h18
  subst e
  clear h18
  obtain ⟨x126, m126, e, h20⟩ := list_cons h19
  subst e
  clear h19
  obtain ⟨x127, m127, e, h21⟩ := list_cons h20
  subst e
  clear h20
  obtain ⟨x128, m128, e, h22⟩ := list_cons h21
  subst e
  clear h21
  obtain ⟨x129, m129, e, h23⟩ := list_cons h22
  subst e
  clear h22
  obtain ⟨x130, m130, e, h24⟩ := list_cons h23
  subst e
  clear h23
  obtain ⟨x131, m131, e, h25⟩ := list_cons h24
  subst e
  clear h24
  obtain ⟨x132, m132, e, h26⟩ := list_cons h25
  subst e
  clear h25
  obtain ⟨x133, m133, e, h27⟩ := list_cons h26
  subst e
  clear h26
  obtain ⟨x134, m134, e, h28⟩ := list_cons h27
  subst e
  clear h27
  obtain ⟨x135, m135, e, h29⟩ := list_cons h28
  subst e
  clear h28
  obtain ⟨x136, m136, e, h30⟩ := list_cons h29
  subst e
  clear h29
  obtain ⟨x137, m137, e, h31⟩ := list_cons h30
  subst e
  clear h30
  obtain ⟨x138, m138, e, h32⟩ := list_cons h31
  subst e
  clear h31
  obtain ⟨x139, m139, e, h33⟩ := list_cons h32
  subst e
  clear h32
  obtain ⟨x140, m140, e, h34⟩ := list_cons h33
  subst e
  clear h33
  obtain ⟨x141, m141, e, h35⟩ := list_cons h34
  subst e
  clear h34
  obtain ⟨x142, m142, e, h36⟩ := list_cons h35
  subst e
  clear h35
  obtain ⟨x143, m143, e, h37⟩ := list_cons h36
  subst e
  clear h36
  obtain ⟨x144, m144, e, h38⟩ := list_cons h37
  subst e
  clear h37
  obtain ⟨x145, m145, e, h39⟩ := list_cons h38
  subst e
  clear h38
  obtain ⟨x146, m146, e, h40⟩ := list_cons h39
  subst e
  clear h39
  obtain ⟨x147, m147, e, h41⟩ := list_cons h40
  subst e
  clear h40
  obtain ⟨x148, m148, e, h42⟩ := list_cons h41
  subst e
  clear h41
  obtain ⟨x149, m149, e, h43⟩ := list_cons h42
  subst e
  clear h42
  obtain ⟨x150, m150, e, h44⟩ := list_cons h43
  subst e
  clear h43
  obtain ⟨x151, m151, e, h45⟩ := list_cons h44
  subst e
  clear h44
  obtain ⟨x152, m152, e, h46⟩ := list_cons h45
  subst e
  clear h45
  obtain ⟨x153, m153, e, h47⟩ := list_cons h46
  subst e
  clear h46
  obtain ⟨x154, m154, e, h48⟩ := list_cons h47
  subst e
  clear h47
  obtain ⟨x155, m155, e, h49⟩ := list_cons h48
  subst e
  clear h48
  obtain ⟨x156, m156, e, h50⟩ := list_cons h49
  subst e
  clear h49
  obtain ⟨x157, m157, e, h51⟩ := list_cons h50
  subst e
  clear h50
  obtain ⟨x158, m158, e, h52⟩ := list_cons h51
  subst e
  clear h51
  obtain ⟨x159, m159, e, h53⟩ := list_cons h52
  subst e
  clear h52
  obtain ⟨x160, m160, e, h54⟩ := list_cons h53
  subst e
  clear h53
  obtain ⟨x161, m161, e, h55⟩ := list_cons h54
  subst e
  clear h54
  obtain ⟨x162, m162, e, h56⟩ := list_cons h55
  subst e
  clear h55
  obtain ⟨x163, m163, e, h57⟩ := list_cons h56
  subst e
  clear h56
  obtain ⟨x164, m164, e, h58⟩ := list_cons h57
  subst e
  clear h57
  obtain ⟨x165, m165, e, h59⟩ := list_cons h58
  subst e
  clear h58
  obtain ⟨x166, m166, e, h60⟩ := list_cons h59
  subst e
  clear h59
  obtain ⟨x167, m167, e, h61⟩ := list_cons h60
  subst e
  clear h60
  obtain ⟨x168, m168, e, h62⟩ := list_cons h61
  subst e
  clear h61
  obtain ⟨x169, m169, e, h63⟩ := list_cons h62
  subst e
  clear h62
  obtain ⟨x170, m170, e, h64⟩ := list_cons h63
  subst e
  clear h63
  obtain ⟨x171, m171, e, h65⟩ := list_cons h64
  subst e
  clear h64
  obtain ⟨x172, m172, e, h66⟩ := list_cons h65
  subst e
  clear h65
  obtain ⟨x173, m173, e, h67⟩ := list_cons h66
  subst e
  clear h66
  obtain ⟨x174, m174, e, h68⟩ := list_cons h67
  subst e
  clear h67
  obtain ⟨x175, m175, e, h69⟩ := list_cons h68
  subst e
  clear h68
  have e := list_zero h69
  subst e
  have e := Option.some.inj (show some x175 = some v from hv)
  subst e
  exact ⟨_, _, _, _, _, _, _, _, _, _, _, _, _, _, _, _, _, _, _, _, _, _, _, _, _, _, _, _, _, _, _, _, _, _, _, _, _, _, _, _, _, _, _, _, _, _, _, _, _, _, _, _, _, _, _, _, _, _, _, _, _, _, _, _, _, _, _, _, rfl⟩
theorem rk_ways (x : Int) : (x == 0) = true ∨ ((x == 0) = false ∧ (x == 1) = true) ∨ ((x == 0) = false ∧ (x == 1) = false) := by
  simp only [beq_iff_eq, beq_eq_false_iff_ne]
  omega
theorem RDev.gone {w : World} {g o v t n lo : Nat} {s : Flash} (h : RDev w g o v t n lo s) : w.cell? ⟨g, 5, none⟩ = some (.bool s.dead) := by
  obtain ⟨ro, rv, left, hh, -⟩ := h
  exact (rd7 hh).1.2.2.2.2.2.1
set_option maxHeartbeats 8000000 in
theorem regionscript_any (v g slot fu : Int) (A : Option Addr) (no cap : Nat) (l : List Cl) (w : World) (hl : Hid (l.length = no)) (hb : Hid (ClsAt w w.heap.size A l)) (ht : Hid (TabW w)) (hz : 0 < w.heap.size) :
    Calls Tryd.prog 4 #[.agg #[.int .i64 v, .int .i64 g, .int .i64 slot, .slice A no cap, .int .i64 fu]] w fun e w' => e = .returned (.bool true) ∧ Below w.heap.size w w' := by
  obtain ⟨ver, rs, hsm, hlay⟩ := rglayout_any v g
  obtain ⟨sl, hsl, esl⟩ := rg_low slot 3 3 (by decide) (by decide)
  obtain ⟨fk, hfk, efk⟩ := rg_low fu 31 31 (by decide) (by decide)
  have HSM := Lib.hid hsm
  have HLAY := Lib.hid hlay
  have HNN : Hid (rs ≤ 16 ∧ 2 ≤ rs ∧ sl ≤ 3 ∧ fk ≤ 31) := by have := hsm.2; show _ ∧ _; omega
  have HA : Hid (∀ W, Below w.heap.size w W → Calls Tryd.prog 32 #[] W fun e w' => e = .returned (.bool true) ∧ Below W.heap.size W w') := fun W hb => rgawake_any W (Lib.hid (ht.out.below hb hz)) (Nat.lt_of_lt_of_le hz hb.size)
  obtain ⟨n, hn⟩ : ∃ n : Nat, n = 74 + 4 * rs := ⟨_, rfl⟩
  have HN := Lib.hid hn
  have m1 : wrap64 (4 * (rs : Int)) = 4 * (rs : Int) := by have := HNN.out; unfold wrap64; omega
  have m2 : wrap64 (74 + 4 * (rs : Int)) = (n : Int) := by have := HNN.out; unfold wrap64; omega
  have HNEW : Hid (∀ W, Calls Tryd.prog 25 #[.int .i64 (n : Int)] W (NewDev W n)) := fun W => new_dev n _ rfl W (by have := HN.out; omega) (by have := HN.out; have := HNN.out; omega)
  have HBL : Hid (∀ W, Calls Tryd.prog 26 #[.int .i64 (n : Int)] W (RMade W n (List.replicate (n * 64) 0))) := fun W => blank_any n W (by have := HN.out; omega) (by have := HN.out; have := HNN.out; omega)
  unfold NewDev at HNEW
  unfold RMade at HBL
  have HX0 := Lib.hid (heap_alloc_new w (.cells #[.int .i64 v, .int .i64 g, .int .i64 slot, .slice A no cap, .int .i64 fu] 57))
  have HB0 : Hid (Below w.heap.size w (w.alloc (.cells #[.int .i64 v, .int .i64 g, .int .i64 slot, .slice A no cap, .int .i64 fu] 57))) := (Below.refl _ w).alloc (Nat.le_refl _) _
  have HC1 : Hid (∀ W, Below (w.alloc (.cells #[.int .i64 v, .int .i64 g, .int .i64 slot, .slice A no cap, .int .i64 fu] 57)).heap.size (w.alloc (.cells #[.int .i64 v, .int .i64 g, .int .i64 slot, .slice A no cap, .int .i64 fu] 57)) W → W.cell? ⟨w.heap.size, 0, none⟩ = some (.int .i64 v) ∧ W.cell? ⟨w.heap.size, 1, none⟩ = some (.int .i64 g) ∧ W.cell? ⟨w.heap.size, 2, none⟩ = some (.int .i64 slot) ∧ W.cell? ⟨w.heap.size, 3, none⟩ = some (.slice A no cap) ∧ W.cell? ⟨w.heap.size, 4, none⟩ = some (.int .i64 fu)) := fun W hb => five_cells ((hb.block _ (Array.getElem?_eq_some_iff.1 HX0.out).1).trans HX0.out)
  clear hsm hlay hn HX0
  go_enter Tryd.func4, Tryd.ntmps4
  go_upto_region 1 with fail
  generalize w.alloc (.cells #[.int .i64 v, .int .i64 g, .int .i64 slot, .slice A no cap, .int .i64 fu] 57) = w0 at *
  go_cut [3, 4, 5] (fun s3 s4 s5 wx => ∃ q, s3 = .pointer (some ⟨q, 0, none⟩) ∧ s4 = .slice A no cap ∧ s5 = .int .i64 fu ∧ Hid (wx.heap[q]? = some (.cells #[.int .i64 3, .int .i64 ver, .int .i64 (rs : Int), .int .i64 4] 23 (0, 0))) ∧ Hid (Below w0.heap.size w0 wx) ∧ Hid (w0.heap.size ≤ q))
  case first =>
    have HBa : Hid (Below w0.heap.size w0 w0.drew) := below_drewN w0 1
    refine wp_region_held_drew (S := fun W => W.cell? ⟨w.heap.size, 0, none⟩ = some (.int .i64 v) ∧ W.cell? ⟨w.heap.size, 1, none⟩ = some (.int .i64 g) ∧ W.cell? ⟨w.heap.size, 2, none⟩ = some (.int .i64 slot) ∧ W.cell? ⟨w.heap.size, 3, none⟩ = some (.slice A no cap) ∧ W.cell? ⟨w.heap.size, 4, none⟩ = some (.int .i64 fu)) (by kernel_rfl) (HC1.out _ HBa.out) (fun hH => ?_)
    change wpAnyH _ _ _ _ _ 13 #[false, false, false, false, false, false, false, false, false, false, false, false, false] _ _
    clear hH
    generalize w0.drew = wa at *
    refine held_take (i := 0) (v := ?_) (d := some 23) rfl rfl (by kernel_rfl) (by kernel_rfl) (by kernel_rfl) (fun _ _ _ h => h) (HC1.out _ HBa.out) ⟨?_, fun w hSw => ?_⟩ ?_
    rotate_left 1
    · rfl
    · (go_simp; all_goals with_reducible rfl)
    simp only [Act.put, List.setIfInBounds_toArray, List.set_cons_zero, List.set_cons_succ]
    refine held_take (i := 1) (v := ?_) (d := some 24) rfl rfl (by kernel_rfl) (by kernel_rfl) (by kernel_rfl) (fun _ _ _ h => h) (HC1.out _ HBa.out) ⟨?_, fun w hSw => ?_⟩ ?_
    rotate_left 1
    · rfl
    · obtain ⟨y0, y1, y2, y3, y4⟩ := hSw
      (go_simp; all_goals with_reducible rfl)
    simp only [Act.put, List.setIfInBounds_toArray, List.set_cons_zero, List.set_cons_succ]
    refine held_take (i := 2) (v := ?_) (d := some 25) rfl rfl (by kernel_rfl) (by kernel_rfl) (by kernel_rfl) (fun _ _ _ h => h) (HC1.out _ HBa.out) ⟨?_, fun w hSw => ?_⟩ ?_
    rotate_left 1
    · rfl
    · (go_simp; all_goals with_reducible rfl)
    simp only [Act.put, List.setIfInBounds_toArray, List.set_cons_zero, List.set_cons_succ]
    refine held_take (i := 3) (v := ?_) (d := some 26) rfl rfl (by kernel_rfl) (by kernel_rfl) (by kernel_rfl) (fun _ _ _ h => h) (HC1.out _ HBa.out) ⟨?_, fun w hSw => ?_⟩ ?_
    rotate_left 1
    · rfl
    · obtain ⟨y0, y1, y2, y3, y4⟩ := hSw
      (go_simp; all_goals with_reducible rfl)
    simp only [Act.put, List.setIfInBounds_toArray, List.set_cons_zero, List.set_cons_succ]
    refine held_take (i := 5) (v := ?_) (d := some 28) rfl rfl (by kernel_rfl) (by kernel_rfl) (by kernel_rfl) (fun _ _ _ h => h) (HC1.out _ HBa.out) ⟨?_, fun w hSw => ?_⟩ ?_
    rotate_left 1
    · rfl
    · (go_simp; all_goals with_reducible rfl)
    simp only [Act.put, List.setIfInBounds_toArray, List.set_cons_zero, List.set_cons_succ]
    refine held_take (i := 6) (v := ?_) (d := some 29) rfl rfl (by kernel_rfl) (by kernel_rfl) (by kernel_rfl) (fun _ _ _ h => h) (HC1.out _ HBa.out) ⟨?_, fun w hSw => ?_⟩ ?_
    rotate_left 1
    · rfl
    · obtain ⟨y0, y1, y2, y3, y4⟩ := hSw
      (go_simp; all_goals with_reducible rfl)
    simp only [Act.put, List.setIfInBounds_toArray, List.set_cons_zero, List.set_cons_succ]
    refine held_take (i := 7) (v := ?_) (d := some 30) rfl rfl (by kernel_rfl) (by kernel_rfl) (by kernel_rfl) (fun _ _ _ h => h) (HC1.out _ HBa.out) ⟨?_, fun w hSw => ?_⟩ ?_
    rotate_left 1
    · rfl
    · (go_simp; all_goals with_reducible rfl)
    simp only [Act.put, List.setIfInBounds_toArray, List.set_cons_zero, List.set_cons_succ]
    refine held_take (i := 8) (v := ?_) (d := some 31) rfl rfl (by kernel_rfl) (by kernel_rfl) (by kernel_rfl) (fun _ _ _ h => h) (HC1.out _ HBa.out) ⟨?_, fun w hSw => ?_⟩ ?_
    rotate_left 1
    · rfl
    · obtain ⟨y0, y1, y2, y3, y4⟩ := hSw
      (go_simp; all_goals with_reducible rfl)
    simp only [Act.put, List.setIfInBounds_toArray, List.set_cons_zero, List.set_cons_succ]
    refine hold_two (i := 4) (j := 9) rfl rfl (by kernel_rfl) (by rfl) (by rfl) (fun K hK => ?_) (fun K hK => ?_)
    · go_simp
      refine (HLAY.out _).mono ?_
      rintro e w1x ⟨rfl, hb1⟩
      have HB1 := Lib.hid (HBa.out.trans (hb1.mono HBa.out.size))
      clear hb1
      refine hK _ _ (HC1.out _ HB1.out) ?_
      clear hK K
      simp only [List.setIfInBounds_toArray, List.set_cons_zero, List.set_cons_succ]
      refine held_step (i := 9) rfl (by kernel_rfl) ?_ (fun K hK => ?_)
      · rfl
      go_simp
      have HL2 : Hid (Below w1x.heap.size w1x (w1x.alloc (.cells #[.int .i64 0, .int .i64 0, .int .i64 0, .int .i64 0] 23))) := (Below.refl _ _).alloc (Nat.le_refl _) _
      have HB2 := Lib.hid (HB1.out.trans (HL2.out.mono HB1.out.size))
      have HX2 := Lib.hid (heap_alloc_new w1x (.cells #[.int .i64 0, .int .i64 0, .int .i64 0, .int .i64 0] 23))
      have HQ2 : Hid (w0.heap.size ≤ w1x.heap.size) := HB1.out.size
      clear HL2
      generalize w1x.alloc (.cells #[.int .i64 0, .int .i64 0, .int .i64 0, .int .i64 0] 23) = w2x at *
      generalize w1x.heap.size = q2 at *
      refine hK _ _ (HC1.out _ HB2.out) ?_
      clear hK K
      simp only [List.setIfInBounds_toArray, List.set_cons_zero, List.set_cons_succ]
      refine held_step (i := 10) rfl (by kernel_rfl) ?_ (fun K hK => ?_)
      · rfl
      obtain ⟨z0, z1, z2, z3⟩ := four_cells HX2.out
      obtain ⟨g0, g1, g2, g3⟩ := four_frozen HX2.out
      go_simp
      have HG3 : Hid (w2x.grownBy ((((w2x.setCell ⟨q2, 0, none⟩ (.int .i64 3)).setCell ⟨q2, 1, none⟩ (.int .i64 ver)).setCell ⟨q2, 2, none⟩ (.int .i64 (rs : Int))).setCell ⟨q2, 3, none⟩ (.int .i64 4)) (some q2)) := stored_grown w2x q2 _ _ _ _
      have HX3 : Hid (((((w2x.setCell ⟨q2, 0, none⟩ (.int .i64 3)).setCell ⟨q2, 1, none⟩ (.int .i64 ver)).setCell ⟨q2, 2, none⟩ (.int .i64 (rs : Int))).setCell ⟨q2, 3, none⟩ (.int .i64 4)).heap[q2]? = some (.cells #[.int .i64 3, .int .i64 ver, .int .i64 (rs : Int), .int .i64 4] 23 (0, 0))) := stored HX2.out
      have HB3 : Hid (Below w0.heap.size w0 ((((w2x.setCell ⟨q2, 0, none⟩ (.int .i64 3)).setCell ⟨q2, 1, none⟩ (.int .i64 ver)).setCell ⟨q2, 2, none⟩ (.int .i64 (rs : Int))).setCell ⟨q2, 3, none⟩ (.int .i64 4))) := HB2.out.grown HG3.out HB2.out.size (fun g e => by injection e with e; subst e; exact HQ2.out)
      clear HG3 z0 z1 z2 z3 g0 g1 g2 g3
      generalize ((((w2x.setCell ⟨q2, 0, none⟩ (.int .i64 3)).setCell ⟨q2, 1, none⟩ (.int .i64 ver)).setCell ⟨q2, 2, none⟩ (.int .i64 (rs : Int))).setCell ⟨q2, 3, none⟩ (.int .i64 4)) = w3x at *
      refine hK _ _ (HC1.out _ HB3.out) ?_
      clear hK K
      simp only [List.setIfInBounds_toArray, List.set_cons_zero, List.set_cons_succ]
      refine held_take (i := 11) (v := ?_) (d := some 4) rfl rfl (by kernel_rfl) (by kernel_rfl) (by kernel_rfl) (fun _ _ _ h => h) (HC1.out _ HB3.out) ⟨?_, fun w hSw => ?_⟩ ?_
      rotate_left 1
      · rfl
      · (go_simp; all_goals with_reducible rfl)
      simp only [Act.put, List.setIfInBounds_toArray, List.set_cons_zero, List.set_cons_succ]
      refine held_take (i := 12) (v := ?_) (d := some 5) rfl rfl (by kernel_rfl) (by kernel_rfl) (by kernel_rfl) (fun _ _ _ h => h) (HC1.out _ HB3.out) ⟨?_, fun w hSw => ?_⟩ ?_
      rotate_left 1
      · rfl
      · (go_simp; all_goals with_reducible rfl)
      simp only [Act.put, List.setIfInBounds_toArray, List.set_cons_zero, List.set_cons_succ]
      refine wpAnyH_done (by kernel_rfl) ?_ _
      (try go_wp2_with fail)
      go_meet
      exact ⟨_, rfl, rfl, rfl, HX3.out, HB3.out, HQ2.out⟩
    · go_simp
      have HL4 : Hid (Below wa.heap.size wa (wa.alloc (.cells #[.int .i64 0, .int .i64 0, .int .i64 0, .int .i64 0] 23))) := (Below.refl _ _).alloc (Nat.le_refl _) _
      have HB4 := Lib.hid (HBa.out.trans (HL4.out.mono HBa.out.size))
      have HX4 := Lib.hid (heap_alloc_new wa (.cells #[.int .i64 0, .int .i64 0, .int .i64 0, .int .i64 0] 23))
      have HQ4 : Hid (w0.heap.size ≤ wa.heap.size) := HBa.out.size
      clear HL4
      generalize wa.alloc (.cells #[.int .i64 0, .int .i64 0, .int .i64 0, .int .i64 0] 23) = w4x at *
      generalize wa.heap.size = q4 at *
      refine hK _ _ (HC1.out _ HB4.out) ?_
      clear hK K
      simp only [List.setIfInBounds_toArray, List.set_cons_zero, List.set_cons_succ]
      refine held_step (i := 4) rfl (by kernel_rfl) ?_ (fun K hK => ?_)
      · rfl
      go_simp
      refine (HLAY.out _).mono ?_
      rintro e w5x ⟨rfl, hb5⟩
      have HB5 := Lib.hid (HB4.out.trans (hb5.mono HB4.out.size))
      have HX5 := Lib.hid ((hb5.block _ (Array.getElem?_eq_some_iff.1 HX4.out).1).trans HX4.out)
      clear hb5
      refine hK _ _ (HC1.out _ HB5.out) ?_
      clear hK K
      simp only [List.setIfInBounds_toArray, List.set_cons_zero, List.set_cons_succ]
      refine held_step (i := 10) rfl (by kernel_rfl) ?_ (fun K hK => ?_)
      · rfl
      obtain ⟨z0, z1, z2, z3⟩ := four_cells HX5.out
      obtain ⟨g0, g1, g2, g3⟩ := four_frozen HX5.out
      go_simp
      have HG6 : Hid (w5x.grownBy ((((w5x.setCell ⟨q4, 0, none⟩ (.int .i64 3)).setCell ⟨q4, 1, none⟩ (.int .i64 ver)).setCell ⟨q4, 2, none⟩ (.int .i64 (rs : Int))).setCell ⟨q4, 3, none⟩ (.int .i64 4)) (some q4)) := stored_grown w5x q4 _ _ _ _
      have HX6 : Hid (((((w5x.setCell ⟨q4, 0, none⟩ (.int .i64 3)).setCell ⟨q4, 1, none⟩ (.int .i64 ver)).setCell ⟨q4, 2, none⟩ (.int .i64 (rs : Int))).setCell ⟨q4, 3, none⟩ (.int .i64 4)).heap[q4]? = some (.cells #[.int .i64 3, .int .i64 ver, .int .i64 (rs : Int), .int .i64 4] 23 (0, 0))) := stored HX5.out
      have HB6 : Hid (Below w0.heap.size w0 ((((w5x.setCell ⟨q4, 0, none⟩ (.int .i64 3)).setCell ⟨q4, 1, none⟩ (.int .i64 ver)).setCell ⟨q4, 2, none⟩ (.int .i64 (rs : Int))).setCell ⟨q4, 3, none⟩ (.int .i64 4))) := HB5.out.grown HG6.out HB5.out.size (fun g e => by injection e with e; subst e; exact HQ4.out)
      clear HG6 z0 z1 z2 z3 g0 g1 g2 g3
      generalize ((((w5x.setCell ⟨q4, 0, none⟩ (.int .i64 3)).setCell ⟨q4, 1, none⟩ (.int .i64 ver)).setCell ⟨q4, 2, none⟩ (.int .i64 (rs : Int))).setCell ⟨q4, 3, none⟩ (.int .i64 4)) = w6x at *
      refine hK _ _ (HC1.out _ HB6.out) ?_
      clear hK K
      simp only [List.setIfInBounds_toArray, List.set_cons_zero, List.set_cons_succ]
      refine held_take (i := 11) (v := ?_) (d := some 4) rfl rfl (by kernel_rfl) (by kernel_rfl) (by kernel_rfl) (fun _ _ _ h => h) (HC1.out _ HB6.out) ⟨?_, fun w hSw => ?_⟩ ?_
      rotate_left 1
      · rfl
      · (go_simp; all_goals with_reducible rfl)
      simp only [Act.put, List.setIfInBounds_toArray, List.set_cons_zero, List.set_cons_succ]
      refine held_take (i := 12) (v := ?_) (d := some 5) rfl rfl (by kernel_rfl) (by kernel_rfl) (by kernel_rfl) (fun _ _ _ h => h) (HC1.out _ HB6.out) ⟨?_, fun w hSw => ?_⟩ ?_
      rotate_left 1
      · rfl
      · (go_simp; all_goals with_reducible rfl)
      simp only [Act.put, List.setIfInBounds_toArray, List.set_cons_zero, List.set_cons_succ]
      refine wpAnyH_done (by kernel_rfl) ?_ _
      (try go_wp2_with fail)
      go_meet
      exact ⟨_, rfl, rfl, rfl, HX6.out, HB6.out, HQ4.out⟩
  case rest =>
    obtain ⟨q, rfl, rfl, rfl, HQ1, HB1, HQ0⟩ := hcut
    generalize wc = w1 at *
    obtain ⟨y0, y1, y2, y3, y4⟩ := HC1.out w1 HB1.out
    obtain ⟨z0, z1, z2, z3⟩ := four_cells HQ1.out
    have HBW1 : Hid (Below w.heap.size w w1) := HB0.out.trans (HB1.out.mono HB0.out.size)
    go_upto_region 4 with fail
    have HX2 := Lib.hid (heap_alloc_new w1 (.cells #[.int .i64 ver, .int .i64 (sl : Int), .int .i64 3, .int .i64 7, .int .i64 3, .int .i64 9] 60))
    have HB2 : Hid (Below w1.heap.size w1 (w1.alloc (.cells #[.int .i64 ver, .int .i64 (sl : Int), .int .i64 3, .int .i64 7, .int .i64 3, .int .i64 9] 60))) := (Below.refl _ w1).alloc (Nat.le_refl _) _
    have HQ2 := Lib.hid ((HB2.out.block q (Array.getElem?_eq_some_iff.1 HQ1.out).1).trans HQ1.out)
    have HNUM1 : Hid (w.heap.size ≤ q ∧ w.heap.size ≤ w1.heap.size) := ⟨Nat.le_trans HB0.out.size HQ0.out, HBW1.out.size⟩
    have HBW2 := Lib.hid (HBW1.out.trans (HB2.out.mono HBW1.out.size))
    clear y0 y1 y2 y3 y4 z0 z1 z2 z3 HQ0 HB0 HB1 HC1 HQ1 HBW1
    generalize w1.alloc (.cells #[.int .i64 ver, .int .i64 (sl : Int), .int .i64 3, .int .i64 7, .int .i64 3, .int .i64 9] 60) = w2 at *
    generalize w1.heap.size = q2 at *
    obtain ⟨z0, z1, z2, z3⟩ := four_cells HQ2.out
    go_wp2_with fail
    refine (HNEW.out _).mono ?_
    rintro e w3 ⟨gd, cd, md, rfl, hd3, hnew, hb3⟩
    have HD3 := Lib.hid hd3
    have HBW3 := Lib.hid (HBW2.out.trans (hb3.mono HBW2.out.size))
    have HQ3 := Lib.hid ((hb3.block q (Array.getElem?_eq_some_iff.1 HQ2.out).1).trans HQ2.out)
    have HX3 := Lib.hid ((hb3.block q2 (Array.getElem?_eq_some_iff.1 HX2.out).1).trans HX2.out)
    have HNUM2 : Hid (q < w2.heap.size ∧ q2 < w2.heap.size) := ⟨(Array.getElem?_eq_some_iff.1 HQ2.out).1, (Array.getElem?_eq_some_iff.1 HX2.out).1⟩
    have HNW : Hid (DevNew w2 gd cd md) := hnew
    clear hd3 hnew hb3 HQ2 HX2 z0 z1 z2 z3
    go_wp2_with fail
    refine (HBL.out _).mono ?_
    rintro e w4 ⟨hd, od, vd, td, rfl, hr4, g1, g2, g3, g4, hb4⟩
    have HD4 := Lib.hid (HD3.out.on hb4)
    have HR4 := Lib.hid hr4
    have HBW4 := Lib.hid (HBW3.out.trans (hb4.mono HBW3.out.size))
    have HQ4 := Lib.hid ((hb4.block q (Array.getElem?_eq_some_iff.1 HQ3.out).1).trans HQ3.out)
    have HX4 := Lib.hid ((hb4.block q2 (Array.getElem?_eq_some_iff.1 HX3.out).1).trans HX3.out)
    have HFAR : Hid ((∀ k, devS gd cd md k → w.heap.size ≤ k ∧ k ≠ q ∧ k ≠ q2) ∧ (∀ k, rS hd od vd td k → w.heap.size ≤ k ∧ k ≠ q ∧ k ≠ q2 ∧ ¬ devS gd cd md k)) := by
      have h1 := HNUM2.out
      have h2 := HNW.out
      have h3 := HD3.out.lt
      have h4 := HBW2.out.size
      have h5 := HBW3.out.size
      have h6 := (Array.getElem?_eq_some_iff.1 HQ3.out).1
      have h7 := (Array.getElem?_eq_some_iff.1 HX3.out).1
      unfold DevNew at h2
      unfold devS rS
      refine ⟨fun k e => ?_, fun k e => ?_⟩ <;> omega
    clear hr4 g1 g2 g3 g4 hb4 HQ3 HX3 HD3 HBW3 HBW2
    go_wp2_with fail
    refine (fuse_any (fk : Int) (by omega) HD4).mono ?_
    rintro e w5 ⟨rfl, hd5, hk5⟩
    have HK5 : Hid (Kept (devS gd cd md) w4 w5) := hk5.mono fun j _ e => .inl e
    have HR5 := Lib.hid (HR4.out.kept HK5.out (HFAR.out.2 _ (.inl rfl)).2.2.2 (HFAR.out.2 _ (.inr (.inl rfl))).2.2.2 (HFAR.out.2 _ (.inr (.inr (.inl rfl)))).2.2.2 (HFAR.out.2 _ (.inr (.inr (.inr rfl)))).2.2.2)
    have HD5 := Lib.hid hd5
    clear hd5 hk5 HD4 HR4
    go_wp2_with fail
    refine (rfuse_any (fk : Int) (by omega) HR5).mono ?_
    rintro e w6 ⟨rfl, hr6, hk6⟩
    have HK6 : Hid (Kept (rS hd od vd td) w5 w6) := hk6.mono fun j _ e => .inl e
    have HND : Hid (∀ k, devS gd cd md k → ¬ rS hd od vd td k) := fun k e e2 => (HFAR.out.2 k e2).2.2.2 e
    have HD6 := Lib.hid (HD5.out.kept HK6.out (HND.out _ (.inl rfl)) (HND.out _ (.inr (.inl rfl))) (HND.out _ (.inr (.inr rfl))))
    have HR6 := Lib.hid hr6
    have HBW6 : Hid (Below w.heap.size w w6) := HBW4.out.trans ((HK5.out.below HBW4.out.size fun k e => (HFAR.out.1 k e).1).trans (HK6.out.below (Nat.le_trans HBW4.out.size HK5.out.size) fun k e => (HFAR.out.2 k e).1))
    have HQ6 : Hid (w6.heap[q]? = some (.cells #[.int .i64 3, .int .i64 ver, .int .i64 (rs : Int), .int .i64 4] 23 (0, 0))) := by
      have h4 := (Array.getElem?_eq_some_iff.1 HQ4.out).1
      exact (HK6.out.block q (Nat.lt_of_lt_of_le h4 HK5.out.size) fun e => (HFAR.out.2 q e).2.1 rfl).trans ((HK5.out.block q h4 fun e => (HFAR.out.1 q e).2.1 rfl).trans HQ4.out)
    have HX6 : Hid (w6.heap[q2]? = some (.cells #[.int .i64 ver, .int .i64 (sl : Int), .int .i64 3, .int .i64 7, .int .i64 3, .int .i64 9] 60 (0, 0))) := by
      have h4 := (Array.getElem?_eq_some_iff.1 HX4.out).1
      exact (HK6.out.block q2 (Nat.lt_of_lt_of_le h4 HK5.out.size) fun e => (HFAR.out.2 q2 e).2.2.1 rfl).trans ((HK5.out.block q2 h4 fun e => (HFAR.out.1 q2 e).2.2 rfl).trans HX4.out)
    have HNW6 : Hid (DevNew w gd cd md) := ⟨(HFAR.out.1 _ (.inl rfl)).1, (HFAR.out.1 _ (.inr (.inl rfl))).1, (HFAR.out.1 _ (.inr (.inr rfl))).1⟩
    have HOK6 := Lib.hid HD6.out.ok
    clear hr6 hk6 HD5 HR5 HK5 HK6 HBW4 HQ4 HX4 HNW HNUM2 HNEW HBL
    obtain ⟨z0, z1, z2, z3⟩ := four_cells HQ6.out
    obtain ⟨y0, y1, y2, y3, y4, y5⟩ := six_cells HX6.out
    go_wp2_with fail
    refine (rgopen_any (W := w) 3 ver (rs : Int) 4 ver (sl : Int) 3 7 3 9 HBW6 HNW6 HD6 (Lib.hid (ht.out.below HBW6.out hz)) (Nat.lt_of_lt_of_le hz HBW6.out.size) (by show 0 < _; decide)).mono ?_
    intro e w7 ho
    clear z0 z1 z2 z3 y0 y1 y2 y3 y4 y5
    have hsl2 : 0 ≤ (sl : Int) ∧ (sl : Int) < 4 := by omega
    have HROP : Hid (∀ W, Below w.heap.size w W → RDev W hd od vd td n 0 ((Flash.fresh (List.replicate (n * 64) 0)).setFuse (fk : Int)) → Calls Tryd.prog 30 #[.pointer (some ⟨hd, 0, none⟩), .agg #[.int .i64 3, .int .i64 ver, .int .i64 (rs : Int), .int .i64 4], .agg #[.int .i64 ver, .int .i64 (sl : Int), .int .i64 3, .int .i64 7, .int .i64 3, .int .i64 9]] W (RhOpened w W hd od vd td n 0 ((Flash.fresh (List.replicate (n * 64) 0)).setFuse (fk : Int)) 3 ver (rs : Int) 4 ver (sl : Int) 3 7 3 9)) := fun W hW hr =>
      refrgopen_any 3 ver (rs : Int) 4 ver (sl : Int) 3 7 3 9 (Rg.may_ok (HSM.out.may hsl2.1 hsl2.2 (by decide))).1 (HSM.out.ok hsl2.1 hsl2.2) (Lib.hid hW) (Lib.hid fun k e => (HFAR.out.2 k e).1) (Lib.hid hr) HOK6 (by decide) (by show 0 < _; decide)
    rcases ho with ⟨h, -⟩ | ⟨-, hx, rfl, hd7, hk7⟩ | ⟨-, hx, r, gp, cl, rfl, hst, hk7, hcl⟩
    · exact absurd (HSM.out.may hsl2.1 hsl2.2 (by decide)) h
    · have HQ7 := Lib.hid ((hk7.block q (Array.getElem?_eq_some_iff.1 HQ6.out).1 fun e => (HFAR.out.1 q e).2.1 rfl).trans HQ6.out)
      have HX7 := Lib.hid ((hk7.block q2 (Array.getElem?_eq_some_iff.1 HX6.out).1 fun e => (HFAR.out.1 q2 e).2.2 rfl).trans HX6.out)
      have HBW7 := Lib.hid (HBW6.out.trans (hk7.below HBW6.out.size fun k e => (HFAR.out.1 k e).1))
      have HR7 := Lib.hid (HR6.out.kept hk7 (HFAR.out.2 _ (.inl rfl)).2.2.2 (HFAR.out.2 _ (.inr (.inl rfl))).2.2.2 (HFAR.out.2 _ (.inr (.inr (.inl rfl)))).2.2.2 (HFAR.out.2 _ (.inr (.inr (.inr rfl)))).2.2.2)
      have HD7 := Lib.hid hd7
      obtain ⟨z0, z1, z2, z3⟩ := four_cells HQ7.out
      obtain ⟨y0, y1, y2, y3, y4, y5⟩ := six_cells HX7.out
      clear hd7 hk7 HD6 HR6 HBW6 HQ6 HX6
      unfold RhOpened at HROP
      generalize (Rg.begun ((Flash.fresh (List.replicate (n * 64) 0)).setFuse (fk : Int)) n (Gm.spot ⟨3, ver, (rs : Int), 4⟩ (sl : Int)) (Hd.enc (Gm.spot ⟨3, ver, (rs : Int), 4⟩ (sl : Int)) ⟨ver, (sl : Int), 3, 7, 3, 9⟩)) = R at *
      obtain ⟨f1, x1⟩ := R
      simp only at HROP hx HD7
      have f2 : (x1 != 0) = true := by simpa using hx
      have f3 : (x1 != x1) = false := by simp
      go_wp2_with fail
      refine (HROP.out _ HBW7.out HR7.out).mono ?_
      intro e w8 ho
      clear z0 z1 z2 z3 y0 y1 y2 y3 y4 y5
      rcases ho with ⟨-, rfl, hr8, hk8⟩ | ⟨h, -⟩
      · have HD8 := Lib.hid (HD7.out.kept hk8 (HND.out _ (.inl rfl)) (HND.out _ (.inr (.inl rfl))) (HND.out _ (.inr (.inr rfl))))
        have HBW8 := Lib.hid (HBW7.out.trans (hk8.below HBW7.out.size fun k e => (HFAR.out.2 k e).1))
        have HR8 := Lib.hid hr8
        clear hr8 hk8
        go_wp2_with fail
        refine (same_any HD8 HR8).mono ?_
        rintro e w9 ⟨rfl, hb9⟩
        have HBW9 := Lib.hid (HBW8.out.trans (hb9.mono HBW8.out.size))
        clear hb9
        go_wp2_with fail
        refine (HA.out _ HBW9.out).mono ?_
        rintro e w10 ⟨rfl, hb10⟩
        have HBW10 := Lib.hid (HBW9.out.trans (hb10.mono HBW9.out.size))
        clear hb10
        go_wp2
        go_ret
        exact ⟨rfl, HBW10.out⟩
      · exact absurd h hx
    · have HAL := Lib.hid (Rg.begun_alive hx)
      have HWR : Hid ((Rg.begun ((Flash.fresh (List.replicate (n * 64) 0)).setFuse (fk : Int)) n (Gm.spot ⟨3, ver, (rs : Int), 4⟩ (sl : Int)) (Hd.enc (Gm.spot ⟨3, ver, (rs : Int), 4⟩ (sl : Int)) ⟨ver, (sl : Int), 3, 7, 3, 9⟩)).1.wr ≤ 1) := Rg.begun_wr
      have HQ7 := Lib.hid ((hk7.block q (Array.getElem?_eq_some_iff.1 HQ6.out).1 fun e => (HFAR.out.1 q e).2.1 rfl).trans HQ6.out)
      have HX7 := Lib.hid ((hk7.block q2 (Array.getElem?_eq_some_iff.1 HX6.out).1 fun e => (HFAR.out.1 q2 e).2.2 rfl).trans HX6.out)
      have HC7 : Hid (cl q = 0 ∧ cl q2 = 0 ∧ ∀ k, rS hd od vd td k → cl k = 0) := by
        have h1 := (Array.getElem?_eq_some_iff.1 HQ6.out).1
        have h2 := (Array.getElem?_eq_some_iff.1 HX6.out).1
        have h3 := HR6.out.lt
        refine ⟨Decidable.byContradiction fun e => ?_, Decidable.byContradiction fun e => ?_, fun k hk => Decidable.byContradiction fun e => ?_⟩
        · rcases hcl q e with h | h
          · exact (HFAR.out.1 q h).2.1 rfl
          · omega
        · rcases hcl q2 e with h | h
          · exact (HFAR.out.1 q2 h).2.2 rfl
          · omega
        · rcases hcl k e with h | h
          · exact (HFAR.out.2 k hk).2.2.2 h
          · unfold rS at hk; omega
      have HBW7 := Lib.hid hst.up
      have HR7 := Lib.hid (HR6.out.kept hk7 (HFAR.out.2 _ (.inl rfl)).2.2.2 (HFAR.out.2 _ (.inr (.inl rfl))).2.2.2 (HFAR.out.2 _ (.inr (.inr (.inl rfl)))).2.2.2 (HFAR.out.2 _ (.inr (.inr (.inr rfl)))).2.2.2)
      have HST7 := Lib.hid hst
      obtain ⟨z0, z1, z2, z3⟩ := four_cells HQ7.out
      obtain ⟨y0, y1, y2, y3, y4, y5⟩ := six_cells HX7.out
      clear hst hk7 hcl HD6 HR6 HBW6 HQ6 HX6
      unfold RhOpened at HROP
      generalize (Rg.begun ((Flash.fresh (List.replicate (n * 64) 0)).setFuse (fk : Int)) n (Gm.spot ⟨3, ver, (rs : Int), 4⟩ (sl : Int)) (Hd.enc (Gm.spot ⟨3, ver, (rs : Int), 4⟩ (sl : Int)) ⟨ver, (sl : Int), 3, 7, 3, 9⟩)) = R at *
      obtain ⟨f1, x1⟩ := R
      simp only at HROP hx HST7 HAL HWR
      subst hx
      go_wp2_with fail
      refine (HROP.out _ HBW7.out HR7.out).mono ?_
      intro e w8 ho
      clear z0 z1 z2 z3 y0 y1 y2 y3 y4 y5
      rcases ho with ⟨h, -⟩ | ⟨-, rh, gq, c2, rfl, hsh, hk8, hc2⟩
      · exact absurd rfl h
      obtain ⟨lo2, hlo2⟩ : ∃ lo2, lo2 = 0 + 2 := ⟨_, rfl⟩
      rw [← hlo2] at hsh
      have HBT8 : Hid (RgBoth w w8 cl c2 r gd cd md rh hd od vd td n lo2 f1 ver (rs : Int) (sl : Int) gp gq [] q q2) := by
        have hlt7 := (Array.getElem?_eq_some_iff.1 HQ7.out).1
        have hlt8 := (Array.getElem?_eq_some_iff.1 HX7.out).1
        refine ⟨HST7.out.far hk8 HC7.out.2.2 (fun k e => (HFAR.out.2 k e).1), hsh, fun k hk => Decidable.byContradiction fun e => ?_, ⟨(hk8.block q hlt7 fun e => (HFAR.out.2 q e).2.1 rfl).trans HQ7.out, HC7.out.1, Decidable.byContradiction fun e => ?_⟩, ⟨(hk8.block q2 hlt8 fun e => (HFAR.out.2 q2 e).2.2.1 rfl).trans HX7.out, HC7.out.2.1, Decidable.byContradiction fun e => ?_⟩⟩
        · rcases hc2 k e with h | h
          · exact hk (HC7.out.2.2 k h)
          · exact hk (HST7.out.colr.1 k h)
        · rcases hc2 q e with h | h
          · exact (HFAR.out.2 q h).2.1 rfl
          · omega
        · rcases hc2 q2 e with h | h
          · exact (HFAR.out.2 q2 h).2.2.1 rfl
          · omega
      have HFIT8 : Hid (Pk.Fit ⟨3, ver, (rs : Int), 4⟩ (sl : Int) 7 [] (Pk.full [])) := Pk.Fit.start (HSM.out.ok hsl2.1 hsl2.2)
      clear hsh hk8 hc2 HST7 HQ7 HX7 HR7 HC7 HBW7 HROP
      go_wp2_with fail
      refine (same_any (Lib.hid HBT8.out.g.d) (Lib.hid HBT8.out.h.d)).mono ?_
      rintro e w9 ⟨rfl, hb9⟩
      have HBT9 := Lib.hid (HBT8.out.new hb9)
      have HLO2 : Hid (lo2 ≤ 2) := by show _ ≤ _; omega
      clear hb9 HBT8 hlo2 HNUM1 hsl hfk
      go_wp2_with fail
      go_loopw [15] (fun iv wr => ∃ (i : Nat) (st : List Nat) (f : Flash) (c c2 : Nat → Nat) (lo : Nat), iv = .int .i64 (i : Int) ∧ i ≤ 16 ∧ Hid (RgBoth w wr c c2 r gd cd md rh hd od vd td n lo f ver (rs : Int) (sl : Int) gp gq st q q2) ∧ Hid (Pk.Fit ⟨3, ver, (rs : Int), 4⟩ (sl : Int) 7 st (Pk.full st)) ∧ Hid (f.dead = false ∧ f.wr ≤ 1 + 40 * i ∧ lo ≤ 2 + 40 * i)) (fun i _ => 16 - (Go.RowKit.intOf i).toNat)
      case atStart => exact ⟨0, [], f1, cl, c2, lo2, rfl, by decide, HBT9.out, HFIT8.out, HAL.out, HWR.out, HLO2.out⟩
      case round =>
        clear HBT9 HFIT8 HAL HWR HLO2
        obtain ⟨i, st, f, c, c2, lo, rfl, hi16, HBT, HFIT, HST⟩ := hrel
        rcases loop_ways i no 16 16 rfl with ⟨t1, t1'⟩ | ⟨t1, t1', t3⟩ | ⟨hin, hi, t1, t1', t3⟩
        · obtain ⟨A', cp', hh, -⟩ := HBT.out.h.p
          have HPB := Lib.hid hh
          clear hh
          have HS : Hid (∀ W, Below wr.heap.size wr W → (W.cell? ⟨q, 0, none⟩ = some (.int .i64 3) ∧ W.cell? ⟨q, 1, none⟩ = some (.int .i64 ver) ∧ W.cell? ⟨q, 2, none⟩ = some (.int .i64 (rs : Int)) ∧ W.cell? ⟨q, 3, none⟩ = some (.int .i64 4)) ∧ (W.cell? ⟨q2, 0, none⟩ = some (.int .i64 ver) ∧ W.cell? ⟨q2, 1, none⟩ = some (.int .i64 (sl : Int)) ∧ W.cell? ⟨q2, 2, none⟩ = some (.int .i64 3) ∧ W.cell? ⟨q2, 3, none⟩ = some (.int .i64 7) ∧ W.cell? ⟨q2, 4, none⟩ = some (.int .i64 3) ∧ W.cell? ⟨q2, 5, none⟩ = some (.int .i64 9)) ∧ W.cell? ⟨rh, 7, none⟩ = some (.pointer (some ⟨gq, 0, none⟩)) ∧ W.cell? ⟨gq, 6, none⟩ = some (.slice A' st.length cp')) := fun W hW =>
            ⟨four_cells (HBT.out.lay.new hW).1, six_cells (HBT.out.hdr.new hW).1, (rg8 (HBT.out.new hW).h.box).2.2.2.2.2.2.2, (pk8 ((hW.block gq (Array.getElem?_eq_some_iff.1 HPB.out).1).trans HPB.out)).2.2.2.2.2.2.1⟩
          have HBD : Hid (Below wr.heap.size wr wr.drew) := below_drewN wr 1
          have HUP := Lib.hid HBT.out.g.up
          have HAW : Hid (∀ W, Below wr.heap.size wr W → Calls Tryd.prog 32 #[] W fun e w' => e = .returned (.bool true) ∧ Below W.heap.size W w') := fun W hW => HA.out W (HUP.out.trans (hW.mono HUP.out.size))
          have CH : Hid (∀ W, Below wr.heap.size wr W → Calls Tryd.prog 38 #[.pointer (some ⟨r, 0, none⟩)] W fun e w' => e = .returned (.agg #[.int .i64 ver, .int .i64 (sl : Int), .int .i64 3, .int .i64 7, .int .i64 3, .int .i64 9]) ∧ Below W.heap.size W w') := fun W hW => rghead_any (Lib.hid (HBT.out.new hW).g)
          have CC : Hid (∀ W, Calls Tryd.prog 23 #[.agg #[.int .i64 3, .int .i64 ver, .int .i64 (rs : Int), .int .i64 4]] W fun r w' => r = .returned (.int .i64 (Pk.cap ⟨3, ver, (rs : Int), 4⟩ : Int)) ∧ Below W.heap.size W w') := fun W => by
            rw [HSM.out.cap.1]
            exact refpkcap_any 3 ver (rs : Int) 4 (by omega) (by have := HNN.out; omega) W
          have CR : Hid (∀ W, Below wr.heap.size wr W → Calls Tryd.prog 39 #[.pointer (some ⟨r, 0, none⟩)] W fun e w' => e = .returned (.int .i64 ((Pk.cap ⟨3, ver, (rs : Int), 4⟩ : Int) - (st.length : Int))) ∧ Below W.heap.size W w') := fun W hW => rgroom_any (Lib.hid (HBT.out.new hW).g) HFIT.out
          have a1 : IntKind.i64.wrap ((Pk.cap ⟨3, ver, (rs : Int), 4⟩ : Int) - (st.length : Int)) = (Pk.cap ⟨3, ver, (rs : Int), 4⟩ : Int) - (st.length : Int) := by
            have h1 := HSM.out.cap.2
            have h2 := HFIT.out.le
            rw [IntKind.wrap_i64]; omega
          have kq : ∀ W : World, (Op.equalIn 10000 60 (.agg #[.int .i64 ver, .int .i64 (sl : Int), .int .i64 3, .int .i64 7, .int .i64 3, .int .i64 9]) (.agg #[.int .i64 ver, .int .i64 (sl : Int), .int .i64 3, .int .i64 7, .int .i64 3, .int .i64 9])).run Tryd.prog W = .ok true W := fun W => (hdr_eq W ⟨ver, (sl : Int), 3, 7, 3, 9⟩ ⟨ver, (sl : Int), 3, 7, 3, 9⟩).trans (by rw [Hd.same_self])
          have b1 : (((Pk.cap ⟨3, ver, (rs : Int), 4⟩ : Int) - (st.length : Int)) == ((Pk.cap ⟨3, ver, (rs : Int), 4⟩ : Int) - (st.length : Int))) = true := by simp
          clear HBT HFIT HST HPB
          generalize st.length = sn at *
          generalize Pk.cap ⟨3, ver, (rs : Int), 4⟩ = C at *
          go_wp2_with fail
          go_region_held3 (fun W => (W.cell? ⟨q, 0, none⟩ = some (.int .i64 3) ∧ W.cell? ⟨q, 1, none⟩ = some (.int .i64 ver) ∧ W.cell? ⟨q, 2, none⟩ = some (.int .i64 (rs : Int)) ∧ W.cell? ⟨q, 3, none⟩ = some (.int .i64 4)) ∧ (W.cell? ⟨q2, 0, none⟩ = some (.int .i64 ver) ∧ W.cell? ⟨q2, 1, none⟩ = some (.int .i64 (sl : Int)) ∧ W.cell? ⟨q2, 2, none⟩ = some (.int .i64 3) ∧ W.cell? ⟨q2, 3, none⟩ = some (.int .i64 7) ∧ W.cell? ⟨q2, 4, none⟩ = some (.int .i64 3) ∧ W.cell? ⟨q2, 5, none⟩ = some (.int .i64 9)) ∧ W.cell? ⟨rh, 7, none⟩ = some (.pointer (some ⟨gq, 0, none⟩)) ∧ W.cell? ⟨gq, 6, none⟩ = some (.slice A' sn cp'))
            (first
              | (revert HB8; intro HB8; exact HS.out _ HB8.out)
              | (revert HB7; intro HB7; exact HS.out _ HB7.out)
              | (revert HB6; intro HB6; exact HS.out _ HB6.out)
              | (revert HB5; intro HB5; exact HS.out _ HB5.out)
              | exact HS.out _ HBD.out)
            (first
              | (go_at_call 32; refine (HAW.out _ HBD.out).mono ?_; rintro e w5 ⟨rfl, hb5⟩; have HB5 : Hid (Below wr.heap.size wr w5) := HBD.out.trans (hb5.mono HBD.out.size); clear hb5)
              | (go_at_call 38; refine (CH.out _ HB5.out).mono ?_; rintro e w6 ⟨rfl, hb6⟩; have HB6 : Hid (Below wr.heap.size wr w6) := HB5.out.trans (hb6.mono HB5.out.size); clear hb6)
              | (go_at_call 39; refine (CR.out _ HB6.out).mono ?_; rintro e w7 ⟨rfl, hb7⟩; have HB7 : Hid (Below wr.heap.size wr w7) := HB6.out.trans (hb7.mono HB6.out.size); clear hb7)
              | (go_at_call 23; refine (CC.out _).mono ?_; rintro e w8 ⟨rfl, hb8⟩; have HB8 : Hid (Below wr.heap.size wr w8) := HB7.out.trans (hb8.mono HB7.out.size); clear hb8))
          all_goals
            have HZ := Lib.hid (HUP.out.trans (HB8.out.mono HUP.out.size))
            go_wp2
            go_ret
            exact ⟨rfl, HZ.out⟩
        · obtain ⟨A', cp', hh, -⟩ := HBT.out.h.p
          have HPB := Lib.hid hh
          clear hh
          have HS : Hid (∀ W, Below wr.heap.size wr W → (W.cell? ⟨q, 0, none⟩ = some (.int .i64 3) ∧ W.cell? ⟨q, 1, none⟩ = some (.int .i64 ver) ∧ W.cell? ⟨q, 2, none⟩ = some (.int .i64 (rs : Int)) ∧ W.cell? ⟨q, 3, none⟩ = some (.int .i64 4)) ∧ (W.cell? ⟨q2, 0, none⟩ = some (.int .i64 ver) ∧ W.cell? ⟨q2, 1, none⟩ = some (.int .i64 (sl : Int)) ∧ W.cell? ⟨q2, 2, none⟩ = some (.int .i64 3) ∧ W.cell? ⟨q2, 3, none⟩ = some (.int .i64 7) ∧ W.cell? ⟨q2, 4, none⟩ = some (.int .i64 3) ∧ W.cell? ⟨q2, 5, none⟩ = some (.int .i64 9)) ∧ W.cell? ⟨rh, 7, none⟩ = some (.pointer (some ⟨gq, 0, none⟩)) ∧ W.cell? ⟨gq, 6, none⟩ = some (.slice A' st.length cp')) := fun W hW =>
            ⟨four_cells (HBT.out.lay.new hW).1, six_cells (HBT.out.hdr.new hW).1, (rg8 (HBT.out.new hW).h.box).2.2.2.2.2.2.2, (pk8 ((hW.block gq (Array.getElem?_eq_some_iff.1 HPB.out).1).trans HPB.out)).2.2.2.2.2.2.1⟩
          have HBD : Hid (Below wr.heap.size wr wr.drew) := below_drewN wr 1
          have HUP := Lib.hid HBT.out.g.up
          have HAW : Hid (∀ W, Below wr.heap.size wr W → Calls Tryd.prog 32 #[] W fun e w' => e = .returned (.bool true) ∧ Below W.heap.size W w') := fun W hW => HA.out W (HUP.out.trans (hW.mono HUP.out.size))
          have CH : Hid (∀ W, Below wr.heap.size wr W → Calls Tryd.prog 38 #[.pointer (some ⟨r, 0, none⟩)] W fun e w' => e = .returned (.agg #[.int .i64 ver, .int .i64 (sl : Int), .int .i64 3, .int .i64 7, .int .i64 3, .int .i64 9]) ∧ Below W.heap.size W w') := fun W hW => rghead_any (Lib.hid (HBT.out.new hW).g)
          have CC : Hid (∀ W, Calls Tryd.prog 23 #[.agg #[.int .i64 3, .int .i64 ver, .int .i64 (rs : Int), .int .i64 4]] W fun r w' => r = .returned (.int .i64 (Pk.cap ⟨3, ver, (rs : Int), 4⟩ : Int)) ∧ Below W.heap.size W w') := fun W => by
            rw [HSM.out.cap.1]
            exact refpkcap_any 3 ver (rs : Int) 4 (by omega) (by have := HNN.out; omega) W
          have CR : Hid (∀ W, Below wr.heap.size wr W → Calls Tryd.prog 39 #[.pointer (some ⟨r, 0, none⟩)] W fun e w' => e = .returned (.int .i64 ((Pk.cap ⟨3, ver, (rs : Int), 4⟩ : Int) - (st.length : Int))) ∧ Below W.heap.size W w') := fun W hW => rgroom_any (Lib.hid (HBT.out.new hW).g) HFIT.out
          have a1 : IntKind.i64.wrap ((Pk.cap ⟨3, ver, (rs : Int), 4⟩ : Int) - (st.length : Int)) = (Pk.cap ⟨3, ver, (rs : Int), 4⟩ : Int) - (st.length : Int) := by
            have h1 := HSM.out.cap.2
            have h2 := HFIT.out.le
            rw [IntKind.wrap_i64]; omega
          have kq : ∀ W : World, (Op.equalIn 10000 60 (.agg #[.int .i64 ver, .int .i64 (sl : Int), .int .i64 3, .int .i64 7, .int .i64 3, .int .i64 9]) (.agg #[.int .i64 ver, .int .i64 (sl : Int), .int .i64 3, .int .i64 7, .int .i64 3, .int .i64 9])).run Tryd.prog W = .ok true W := fun W => (hdr_eq W ⟨ver, (sl : Int), 3, 7, 3, 9⟩ ⟨ver, (sl : Int), 3, 7, 3, 9⟩).trans (by rw [Hd.same_self])
          have b1 : (((Pk.cap ⟨3, ver, (rs : Int), 4⟩ : Int) - (st.length : Int)) == ((Pk.cap ⟨3, ver, (rs : Int), 4⟩ : Int) - (st.length : Int))) = true := by simp
          clear HBT HFIT HST HPB
          generalize st.length = sn at *
          generalize Pk.cap ⟨3, ver, (rs : Int), 4⟩ = C at *
          go_wp2_with fail
          go_region_held3 (fun W => (W.cell? ⟨q, 0, none⟩ = some (.int .i64 3) ∧ W.cell? ⟨q, 1, none⟩ = some (.int .i64 ver) ∧ W.cell? ⟨q, 2, none⟩ = some (.int .i64 (rs : Int)) ∧ W.cell? ⟨q, 3, none⟩ = some (.int .i64 4)) ∧ (W.cell? ⟨q2, 0, none⟩ = some (.int .i64 ver) ∧ W.cell? ⟨q2, 1, none⟩ = some (.int .i64 (sl : Int)) ∧ W.cell? ⟨q2, 2, none⟩ = some (.int .i64 3) ∧ W.cell? ⟨q2, 3, none⟩ = some (.int .i64 7) ∧ W.cell? ⟨q2, 4, none⟩ = some (.int .i64 3) ∧ W.cell? ⟨q2, 5, none⟩ = some (.int .i64 9)) ∧ W.cell? ⟨rh, 7, none⟩ = some (.pointer (some ⟨gq, 0, none⟩)) ∧ W.cell? ⟨gq, 6, none⟩ = some (.slice A' sn cp'))
            (first
              | (revert HB8; intro HB8; exact HS.out _ HB8.out)
              | (revert HB7; intro HB7; exact HS.out _ HB7.out)
              | (revert HB6; intro HB6; exact HS.out _ HB6.out)
              | (revert HB5; intro HB5; exact HS.out _ HB5.out)
              | exact HS.out _ HBD.out)
            (first
              | (go_at_call 32; refine (HAW.out _ HBD.out).mono ?_; rintro e w5 ⟨rfl, hb5⟩; have HB5 : Hid (Below wr.heap.size wr w5) := HBD.out.trans (hb5.mono HBD.out.size); clear hb5)
              | (go_at_call 38; refine (CH.out _ HB5.out).mono ?_; rintro e w6 ⟨rfl, hb6⟩; have HB6 : Hid (Below wr.heap.size wr w6) := HB5.out.trans (hb6.mono HB5.out.size); clear hb6)
              | (go_at_call 39; refine (CR.out _ HB6.out).mono ?_; rintro e w7 ⟨rfl, hb7⟩; have HB7 : Hid (Below wr.heap.size wr w7) := HB6.out.trans (hb7.mono HB6.out.size); clear hb7)
              | (go_at_call 23; refine (CC.out _).mono ?_; rintro e w8 ⟨rfl, hb8⟩; have HB8 : Hid (Below wr.heap.size wr w8) := HB7.out.trans (hb8.mono HB7.out.size); clear hb8))
          all_goals
            have HZ := Lib.hid (HUP.out.trans (HB8.out.mono HUP.out.size))
            go_wp2
            go_ret
            exact ⟨rfl, HZ.out⟩
        · obtain ⟨ad, hA⟩ := hb.out.1.some (k := i) (by rw [hl.out]; exact hin)
          subst hA
          have hca := hb.out.below HBT.out.g.up (Nat.le_refl _)
          obtain ⟨o, ho⟩ : ∃ o, l.getD i Cl0 = o := ⟨_, rfl⟩
          obtain ⟨e0, e1, e2, e3, e4, e5, e6⟩ := cls_at hca.1 i (by rw [hl.out]; exact hin) o ho
          have HR0 := Lib.hid (hca.2 i (by rw [hl.out]; exact hin))
          rw [ho] at HR0
          have hib : (i : Int) < 16 := by omega
          have hib2 : (i : Int) < (no : Int) := by omega
          clear hca ho
          go_upto_region 18 with fail
          have HBT5 := Lib.hid (HBT.out.new ((Below.refl _ wr).alloc (Nat.le_refl _) (.cells #[.int .i64 o.kd, .int .i64 o.r.kd, .slice o.r.A1 o.r.n1 o.r.c1, .slice o.r.A2 o.r.n2 o.r.c2, .int .i64 o.r.x, .int .i64 o.off, .int .i64 o.n] 73)))
          have HOB5 := Lib.hid (FreeB.made HBT.out.g.colr HBT.out.h.colr (.cells #[.int .i64 o.kd, .int .i64 o.r.kd, .slice o.r.A1 o.r.n1 o.r.c1, .slice o.r.A2 o.r.n2 o.r.c2, .int .i64 o.r.x, .int .i64 o.off, .int .i64 o.n] 73))
          have HR5 := Lib.hid (HR0.out.below ((Below.refl _ wr).alloc (Nat.le_refl _) (.cells #[.int .i64 o.kd, .int .i64 o.r.kd, .slice o.r.A1 o.r.n1 o.r.c1, .slice o.r.A2 o.r.n2 o.r.c2, .int .i64 o.r.x, .int .i64 o.off, .int .i64 o.n] 73)) HBT.out.g.up.size)
          have HBN : Hid (w.heap.size ≤ wr.heap.size ∧ q < wr.heap.size ∧ q2 < wr.heap.size) := ⟨HBT.out.g.up.size, HBT.out.lay.lt, HBT.out.hdr.lt⟩
          clear HBT e0 e1 e2 e3 e4 e5 e6 HR0
          generalize wr.alloc (.cells #[.int .i64 o.kd, .int .i64 o.r.kd, .slice o.r.A1 o.r.n1 o.r.c1, .slice o.r.A2 o.r.n2 o.r.c2, .int .i64 o.r.x, .int .i64 o.off, .int .i64 o.n] 73) = w5 at *
          generalize wr.heap.size = b at *
          obtain ⟨⟨x0, x1, x2, x3, x4, x5, x6⟩, -⟩ := op_cells HOB5.out.1
          go_wp2_with fail
          refine (shortrec_any o.r _ ⟨HR5.out.1.1, HR5.out.2.1⟩).mono ?_
          rintro e w6 ⟨rfl, hb6⟩
          have HBT6 := Lib.hid (HBT5.out.new hb6)
          have HOB6 := Lib.hid (HOB5.out.new hb6)
          have HR6 := Lib.hid ((HR5.out.below hb6 HBT5.out.g.up.size).short)
          clear hb6 HBT5 HOB5 HR5 x0 x1 x2 x3 x4 x5 x6
          obtain ⟨⟨x0, x1, x2, x3, x4, x5, x6⟩, f1, f2, f3, f4⟩ := op_cells HOB6.out.1
          go_upto_region 19 with fail
          have HP7 := Lib.hid (op_put (b' := .int .i64 o.r.short.kd) (c' := .slice o.r.short.A1 o.r.short.n1 o.r.short.c1) (d' := .slice o.r.short.A2 o.r.short.n2 o.r.short.c2) (e' := .int .i64 o.r.short.x) HOB6.out.1)
          generalize (((w6.setCell ⟨b, 1, none⟩ (.int .i64 o.r.short.kd)).setCell ⟨b, 2, none⟩ (.slice o.r.short.A1 o.r.short.n1 o.r.short.c1)).setCell ⟨b, 3, none⟩ (.slice o.r.short.A2 o.r.short.n2 o.r.short.c2)).setCell ⟨b, 4, none⟩ (.int .i64 o.r.short.x) = w7 at *
          have HBT7 := Lib.hid (HBT6.out.far HP7.out.2 (fun j e => by rw [e]; exact HOB6.out.2) (fun j e => by rw [e]; exact HBN.out.1) (fun e => by have := HBN.out.2.1; omega) (fun e => by have := HBN.out.2.2; omega))
          have HOB7 : Hid (FreeB c c2 w7 b (.cells #[.int .i64 o.kd, .int .i64 o.r.short.kd, .slice o.r.short.A1 o.r.short.n1 o.r.short.c1, .slice o.r.short.A2 o.r.short.n2 o.r.short.c2, .int .i64 o.r.short.x, .int .i64 o.off, .int .i64 o.n] 73 (0, 0))) := ⟨HP7.out.1, HOB6.out.2⟩
          have HR7 := Lib.hid (HR6.out.below (HP7.out.2.below HBT6.out.g.up.size fun j e => by rw [e]; exact HBN.out.1) (Nat.le_refl _))
          have hwr : f.wr < 4000000000000000000 := by have := HST.out.2.1; omega
          have hlo : lo ≤ 700 := by have := HST.out.2.2; omega
          have HFO := Lib.hid HBT7.out.g.d.ok
          clear HP7 HBT6 HOB6 HR6 x0 x1 x2 x3 x4 x5 x6 f1 f2 f3 f4
          obtain ⟨⟨x0, x1, x2, x3, x4, x5, x6⟩, -⟩ := op_cells HOB7.out.1
          go_upto_block 2 with fail
          go_cut [] (fun wx => ∃ (st' : List Nat) (f' : Flash) (c' c2' : Nat → Nat) (lo' : Nat), Hid (RgBoth w wx c' c2' r gd cd md rh hd od vd td n lo' f' ver (rs : Int) (sl : Int) gp gq st' q q2) ∧ Hid (Pk.Fit ⟨3, ver, (rs : Int), 4⟩ (sl : Int) 7 st' (Pk.full st')) ∧ Hid (f'.wr ≤ f.wr + 20 ∧ lo' ≤ lo + 20))
          case first =>
            rcases rk_ways o.kd with t0 | ⟨t0, t1⟩ | ⟨t0, t1⟩
            · have HF2 : Hid (Pk.Fit ⟨3, ver, (rs : Int), 4⟩ (sl : Int) 7 (Pk.put ⟨3, ver, (rs : Int), 4⟩ 7 st o.r.short.r) (Pk.full st)) := HFIT.out.put _ HR7.out.lt.1 HR7.out.lt.2
              have HFF := Lib.hid (HF2.out.take (Nat.le_refl _))
              have hf15 := HSM.out.full HFF.out
              have haw := Rg.after_wr ⟨3, ver, (rs : Int), 4⟩ (sl : Int) 7 f n st (Pk.put ⟨3, ver, (rs : Int), 4⟩ 7 st o.r.short.r)
              have HS62 : Hid (o.r.short.n1 ≤ 140737488355328 ∧ o.r.short.n2 ≤ 140737488355328) := by show min _ _ ≤ _ ∧ min _ _ ≤ _; omega
              have HUPS : Hid (w.heap.size ≤ w7.heap.size) := HBT7.out.g.up.size
              go_wp2_with fail
              refine (rgappend_any o.r.short.kd o.r.short.x o.r.short.key o.r.short.val o.r.short.A1 o.r.short.A2 w.heap.size o.r.short.n1 o.r.short.c1 o.r.short.n2 o.r.short.c2 HUPS.out HR7 (Lib.hid HBT7.out.g) HFIT.out ht hz hwr).mono ?_
              rintro e w8 ⟨rfl, c', hg8, hw8⟩
              have HH8 := Lib.hid (HBT7.out.mid hw8)
              have HOB8 := Lib.hid (HOB7.out.went hw8)
              have HR8 := Lib.hid (HR7.out.below (hw8.1.below HUPS.out fun k e => HBT7.out.g.colr.2 k e) (Nat.le_refl _))
              have HUPS8 : Hid (w.heap.size ≤ w8.heap.size) := Nat.le_trans HUPS.out hw8.1.size
              have HG8 := Lib.hid hg8
              have HW8 := Lib.hid hw8
              clear hg8 hw8 x0 x1 x2 x3 x4 x5 x6
              obtain ⟨⟨x0, x1, x2, x3, x4, x5, x6⟩, -⟩ := op_cells HOB8.out.1
              go_wp2_with fail
              refine (refrgappend_any o.r.short.kd o.r.short.x o.r.short.key o.r.short.val o.r.short.A1 o.r.short.A2 w.heap.size o.r.short.n1 o.r.short.c1 o.r.short.n2 o.r.short.c2 HUPS8.out HR8 HH8 HFIT.out HS62.out hwr (by show lo + (Pk.full (Pk.put ⟨3, ver, (rs : Int), 4⟩ 7 st o.r.short.r) - _) ≤ _; omega) HFO).mono ?_
              rintro e w9 ⟨rfl, c2', hh9, hw9⟩
              have HBT9 := Lib.hid (HBT7.out.step HW8.out HG8.out hw9 hh9)
              have HEND : Hid ((Rg.after ⟨3, ver, (rs : Int), 4⟩ (sl : Int) 7 f n st (Pk.put ⟨3, ver, (rs : Int), 4⟩ 7 st o.r.short.r)).1.wr ≤ f.wr + 20 ∧ lo + (Pk.full (Pk.put ⟨3, ver, (rs : Int), 4⟩ 7 st o.r.short.r) - Pk.full st) ≤ lo + 20) := by show _ ∧ _; omega
              clear hh9 hw9 HW8 HG8 HH8 HOB8 HR8 x0 x1 x2 x3 x4 x5 x6 haw hf15
              generalize Rg.pos (Pk.err ⟨3, ver, (rs : Int), 4⟩ st ⟨o.r.short.kd, o.r.short.key, o.r.short.val, o.r.short.x⟩) _ (st.length : Int) = v1
              generalize Rg.pos (Pk.err ⟨3, ver, (rs : Int), 4⟩ st ⟨o.r.short.kd, o.r.short.key, o.r.short.val, o.r.short.x⟩) _ (Rc.len ⟨o.r.short.kd, o.r.short.key, o.r.short.val, o.r.short.x⟩ : Int) = v2
              generalize Rg.worst (Pk.err ⟨3, ver, (rs : Int), 4⟩ st ⟨o.r.short.kd, o.r.short.key, o.r.short.val, o.r.short.x⟩) _ = v3
              have g1 : (v1 != v1) = false := by simp
              have g2 : (v2 != v2) = false := by simp
              have g3 : (v3 != v3) = false := by simp
              (try go_wp2_with fail)
              go_meet
              exact ⟨_, _, _, _, _, HBT9.out, HFF.out, HEND.out⟩
            · have HFF := Lib.hid (HFIT.out.pad.take (Nat.le_refl _))
              have hf15 := HSM.out.full HFF.out
              have haw := Rg.after_wr ⟨3, ver, (rs : Int), 4⟩ (sl : Int) 7 f n st (Pk.pad st)
              have hsw := Rg.sync_wr (Rg.after ⟨3, ver, (rs : Int), 4⟩ (sl : Int) 7 f n st (Pk.pad st))
              have HFO2 := Lib.hid (HFO.out.after (st := st) HFIT.out.pad)
              go_wp2_with fail
              refine (rgsync_any (Lib.hid HBT7.out.g) HFIT.out ht hz hwr).mono ?_
              rintro e w8 ⟨rfl, c', hg8, hw8⟩
              have HH8 := Lib.hid (HBT7.out.mid hw8)
              have HG8 := Lib.hid hg8
              have HW8 := Lib.hid hw8
              clear hg8 hw8 x0 x1 x2 x3 x4 x5 x6
              go_wp2_with fail
              refine (refrgsync_any HH8 HFIT.out hwr (by omega) HFO HFO2).mono ?_
              rintro e w9 ⟨rfl, c2', hh9, hw9⟩
              have HBT9 := Lib.hid (HBT7.out.step HW8.out HG8.out hw9 hh9)
              have HEND : Hid ((Rg.syncFs (Rg.after ⟨3, ver, (rs : Int), 4⟩ (sl : Int) 7 f n st (Pk.pad st))).wr ≤ f.wr + 20 ∧ lo + (Pk.full (Pk.pad st) - Pk.full st) + 1 ≤ lo + 20) := by show _ ∧ _; omega
              clear hh9 hw9 HW8 HG8 HH8 haw hsw hf15
              generalize Rg.syncErr (Rg.after ⟨3, ver, (rs : Int), 4⟩ (sl : Int) 7 f n st (Pk.pad st)) = v1
              have g1 : (v1 != v1) = false := by simp
              (try go_wp2_with fail)
              go_meet
              exact ⟨_, _, _, _, _, HBT9.out, HFF.out, HEND.out⟩
            · obtain ⟨A', cp', hh, hSA, hrow, -⟩ := HBT7.out.h.p
              have HPB := Lib.hid hh
              have HROW := Lib.hid hrow
              have k7 := (rg8 HBT7.out.h.box).2.2.2.2.2.2.2
              have k6 := (pk8 hh).2.2.2.2.2.2.1
              have k5 := HBT7.out.h.d.gone
              rw [HST.out.1] at k5
              have HLTS : Hid (∀ x ∈ st, x < 256) := HFIT.out.lt
              have HSHORT : Hid (st.length ≤ 120773) := HFIT.out.short
              have HENDR : Hid (f.wr ≤ f.wr + 20 ∧ lo ≤ lo + 20) := ⟨Nat.le_add_right _ _, Nat.le_add_right _ _⟩
              clear hh hSA hrow HR7
              obtain ⟨off, hoff⟩ : ∃ off, o.off = off := ⟨_, rfl⟩
              obtain ⟨m, hm⟩ : ∃ m, o.n = m := ⟨_, rfl⟩
              rw [hoff, hm] at HOB7
              rw [hoff] at x5
              rw [hm] at x6
              clear hoff hm
              have HC20 : Hid (∀ W, Below w7.heap.size w7 W → (W.cell? ⟨b, 5, none⟩ = some (.int .i64 off) ∧ W.cell? ⟨b, 6, none⟩ = some (.int .i64 m)) ∧ W.cell? ⟨rh, 7, none⟩ = some (.pointer (some ⟨gq, 0, none⟩)) ∧ W.cell? ⟨gq, 6, none⟩ = some (.slice A' st.length cp') ∧ W.cell? ⟨hd, 5, none⟩ = some (.bool false)) := fun W hW => by
                obtain ⟨⟨_, _, _, _, _, a5, a6⟩, -⟩ := op_cells (HOB7.out.new hW).1
                exact ⟨⟨a5, a6⟩, (rg8 (HBT7.out.new hW).h.box).2.2.2.2.2.2.2, (pk8 ((hW.block gq (Array.getElem?_eq_some_iff.1 HPB.out).1).trans HPB.out)).2.2.2.2.2.2.1, by have h5 := (HBT7.out.new hW).h.d.gone; rwa [HST.out.1] at h5⟩
              have HBD20 : Hid (Below w7.heap.size w7 w7.drew) := below_drewN w7 1
              clear x0 x1 x2 x3 x4 x5 x6 k7 k6 k5
              rcases read_ways off m st.length HSHORT.out with hno | ⟨p1, p2, p3, p4, w1x, w2x, p, k, hop, hmk, hpk⟩
              · go_upto_region 20 with fail
                refine read_no (by intro c a a' w e h; obtain ⟨t, df⟩ := a; obtain ⟨t', df'⟩ := a'; simp only at e; subst e; exact h) _ w7 b rh gq hd r off m A' st.length cp' rfl rfl rfl rfl rfl rfl HC20 hno (fun a' W hsz hdf h175 hO hbW => ?_)
                have HBTe := Lib.hid (HBT7.out.new hbW)
                clear hbW
                obtain ⟨ms, hml, hme, rfl⟩ := frame_at _ a' 107 69 246 hsz hdf hO rfl (by decide)
                have h175 := (hme 68 (by decide)).trans h175
                clear hsz hdf hO hme
                obtain ⟨x107, x108, x109, x110, x111, x112, x113, x114, x115, x116, x117, x118, x119, x120, x121, x122, x123, x124, x125, x126, x127, x128, x129, x130, x131, x132, x133, x134, x135, x136, x137, x138, x139, x140, x141, x142, x143, x144, x145, x146, x147, x148, x149, x150, x151, x152, x153, x154, x155, x156, x157, x158, x159, x160, x161, x162, x163, x164, x165, x166, x167, x168, x169, x170, x171, x172, x173, x174, eml⟩ := list_69 _ _ hml h175
                subst eml
                clear hml h175
                simp only [List.take_succ_cons, List.take_zero, List.drop_succ_cons, List.drop_zero, List.cons_append, List.nil_append]
                (try go_wp2_with fail)
                go_meet
                exact ⟨_, _, _, _, _, HBTe.out, HFIT.out, HENDR.out⟩
              · have HL := Lib.hid (Rc.sub_length st p k hpk)
                have HK62 : Hid (k ≤ 140737488355328) := by have := HSHORT.out; show _ ≤ _; omega
                have HREAD : Hid (∀ W, Below w7.heap.size w7 W → Calls Tryd.prog 37 #[.pointer (some ⟨r, 0, none⟩), .int .i64 off, .int .i64 m] W (Cloned W k (Rc.sub st p k))) := fun W hW => by
                  rw [hop, hmk]
                  have h := rgread_any (p : Int) (k : Int) (Lib.hid (HBT7.out.new hW).g) HFIT.out (by have := HSHORT.out; omega)
                  have e : Pk.part st (p : Int) (k : Int) = Rc.sub st p k := by
                    unfold Pk.part
                    rw [if_pos (by omega), Int.toNat_natCast, Int.toNat_natCast]
                  rw [e, HL.out] at h
                  exact h
                have HSUBLT : Hid (∀ x ∈ Rc.sub st p k, x < 256) := fun x hx => HLTS.out x (by unfold Rc.sub at hx; exact List.mem_of_mem_drop (List.mem_of_mem_take hx))
                have HFORM : Hid ((A' = none ∧ st.length = 0 ∨ ∃ g, A' = some ⟨g, 0, none⟩) ∧ st.length ≤ cp' ∧ p + k ≤ cp') := by
                  rcases HROW.out.1.2 with ⟨e, e2⟩ | ⟨gs, cap', cur, e, _, _, hc1, _, _, _⟩
                  · injection e with e0 e1 e3
                    exact ⟨.inl ⟨e0, e1⟩, by omega, by omega⟩
                  · injection e with e0 e1 e3
                    subst e3
                    exact ⟨.inr ⟨gs, e0⟩, hc1, by omega⟩
                have HEQ : Hid (∀ W A8 c8, Bs W W.heap.size A8 (Rc.sub st p k) → Below w7.heap.size w7 W → Calls Tryd.prog 19 #[.slice A8 k c8, .slice (cutTo A' cp' p) k (cp' - p)] W (SaysQuiet true W)) := fun W A8 c8 h1 h2 => by
                  have h := refeq_any A8 (cutTo A' cp' p) W.heap.size W.heap.size k k c8 (cp' - p) (Rc.sub st p k) (Rc.sub st p k) W HL HL HK62.out HK62.out (Lib.hid h1) (Lib.hid (bs_cut ((HROW.out.new h2).bs HLTS.out) HFORM.out.1 hpk HFORM.out.2.1))
                  rwa [decide_eq_true rfl] at h
                have HCUT := Lib.hid HFORM.out.2.2
                have HPC : Hid (off + m = ((p + k : Nat) : Int)) := by show _ = _; rw [hop, hmk]; omega
                have HOP := Lib.hid hop
                clear hop hmk hpk HFORM HK62 HL
                go_upto_region 20 with fail
                refine read_yes (by intro c a a' w e h; obtain ⟨t, df⟩ := a; obtain ⟨t', df'⟩ := a'; simp only at e; subst e; exact h) _ w7 b rh gq hd r off m A' st.length cp' rfl rfl rfl rfl rfl rfl HC20 p k (Rc.sub st p k) HREAD HSUBLT HEQ HCUT HPC HOP p1 p2 p3 p4 w1x w2x (fun a' W hsz hdf h175 hO hbW => ?_)
                have HBTe := Lib.hid (HBT7.out.new hbW)
                clear hbW
                obtain ⟨ms, hml, hme, rfl⟩ := frame_at _ a' 107 69 246 hsz hdf hO rfl (by decide)
                have h175 := (hme 68 (by decide)).trans h175
                clear hsz hdf hO hme
                obtain ⟨x107, x108, x109, x110, x111, x112, x113, x114, x115, x116, x117, x118, x119, x120, x121, x122, x123, x124, x125, x126, x127, x128, x129, x130, x131, x132, x133, x134, x135, x136, x137, x138, x139, x140, x141, x142, x143, x144, x145, x146, x147, x148, x149, x150, x151, x152, x153, x154, x155, x156, x157, x158, x159, x160, x161, x162, x163, x164, x165, x166, x167, x168, x169, x170, x171, x172, x173, x174, eml⟩ := list_69 _ _ hml h175
                subst eml
                clear hml h175
                simp only [List.take_succ_cons, List.take_zero, List.drop_succ_cons, List.drop_zero, List.cons_append, List.nil_append]
                (try go_wp2_with fail)
                go_meet
                exact ⟨_, _, _, _, _, HBTe.out, HFIT.out, HENDR.out⟩
          case rest =>
            obtain ⟨st', f', c', c2', lo', HBT8, HFIT8, HEND⟩ := hcut
            generalize wc = w8 at *
            clear HBT7 HOB7 HR7 HFO HFIT x0 x1 x2 x3 x4 x5 x6
            go_wp2_with fail
            refine (same_any (Lib.hid HBT8.out.g.d) (Lib.hid HBT8.out.h.d)).mono ?_
            rintro e w9 ⟨rfl, hb9⟩
            have HBT9 := Lib.hid (HBT8.out.new hb9)
            have hgone := HBT9.out.h.d.gone
            clear hb9 HBT8
            cases hdd : f'.dead
            · rw [hdd] at hgone
              go_wp2
              go_roundw
              case rel => exact ⟨i + 1, st', f', c', c2', lo', by go_num, by omega, HBT9.out, HFIT8.out, hdd, by have := HEND.out.1; have := HST.out.2.1; omega, by have := HEND.out.2; have := HST.out.2.2; omega⟩
              case measure => simp [Go.RowKit.intOf]; omega
            · rw [hdd] at hgone
              go_wp2_with fail
              refine (HA.out _ HBT9.out.g.up).mono ?_
              rintro e w10 ⟨rfl, hb10⟩
              have HZ := Lib.hid (HBT9.out.g.up.trans (hb10.mono HBT9.out.g.up.size))
              go_wp2
              go_ret
              exact ⟨rfl, HZ.out⟩
end Go.Proofs.YtepbdicglgjcjaaDoor
