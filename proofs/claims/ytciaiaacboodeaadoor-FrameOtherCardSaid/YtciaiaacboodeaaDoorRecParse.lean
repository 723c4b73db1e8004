/-
  The walks of record's parseHead and parse: what a record at the beginning of the bytes would be.
-/
import Derived.Test.YtciaiaacboodeaaDoorRecConcat
import Derived.Laws.ResultCell
namespace Go.Proofs.YtciaiaacboodeaaDoor
open Go.RowKit

/-- In parseHead: the result's variable, the reader's variable, the reader. -/
structure Ph (w0 : World) (r p g lo : Nat) (kd x : Int) (l : List Nat) (w : World) : Prop where
  res : w.heap[r]? = some (.cells #[.int .i64 kd, .slice none 0 0, .slice none 0 0, .int .i64 x] 26 (0, 0))
  var : w.heap[p]? = some (.cells #[.pointer (some ⟨g, 0, none⟩)] 73 (0, 0))
  rdr : Rdr w lo g false l
  below : Below w0.heap.size w0 w
  r_lo : r < lo
  g_p : g < p
  w_r : w0.heap.size ≤ r
theorem Ph.grown {w0 w w' : World} {r p g lo : Nat} {kd x : Int} {l l' : List Nat} (h : Ph w0 r p g lo kd x l w) (hr : Rdr w' lo g false l') (hg : w.grownBy w' (some g)) : Ph w0 r p g lo kd x l' w' where
  res := (hg.block r (Array.getElem?_eq_some_iff.1 h.res).1 (fun e => by injection e with e; have := h.r_lo; have := h.rdr.lo_le; omega)).trans h.res
  var := (hg.block p (Array.getElem?_eq_some_iff.1 h.var).1 (fun e => by injection e with e; have := h.g_p; omega)).trans h.var
  rdr := hr
  below := h.below.trans (below_of_grown hg (by have := h.r_lo; have := h.rdr.lo_le; have := h.w_r; omega) h.below.size)
  r_lo := h.r_lo
  g_p := h.g_p
  w_r := h.w_r
theorem num_small (l : List Nat) (h : ∀ x ∈ l, x < 256) (hl : l.length ≤ 7) : Wire.num l < 72057594037927936 := by
  have h1 := Wire.num_lt l h
  have h2 := Wire.pow_le7 l.length hl
  omega
/-- One number more: what is read, and what is left. -/
def Step (l : List Nat) (n : Nat) (q : Nat) (l' : List Nat) (m : Nat) : Prop := q = Wire.num (l.take n) ∧ l' = l.drop n ∧ n ≤ l.length ∧ l'.length = m
theorem step_at (l : List Nat) (n m : Nat) (h : l.length = n + m) : ∃ q l', Hid (Step l n q l' m) := ⟨_, _, rfl, rfl, by omega, by rw [List.length_drop]; omega⟩
theorem next_any (w0 : World) (r p g lo n : Nat) (ni : Int) (hni : ni = (n : Int)) (kd x : Int) (l l' : List Nat) (q m : Nat) (w : World) (h : Hid (Ph w0 r p g lo kd x l w)) (hst : Hid (Step l n q l' m)) (h1 : 1 ≤ n) (h7 : n ≤ 7) :
    Calls Tryd.prog 44 #[.int .i64 ni, .pointer (some ⟨p, 0, none⟩)] w fun e w' => e = .returned (.int .i64 (q : Int)) ∧ Ph w0 r p g lo kd x l' w' := by
  obtain ⟨rfl, rfl, hn, _⟩ := hst.out
  subst hni
  have c0 : w.cell? ⟨p, 0, none⟩ = some (.pointer (some ⟨g, 0, none⟩)) := by
    rw [cell_of_row w p 0 _ _ (0, 0) h.out.var]; rfl
  have hs := num_small (l.take n) (fun y hy => h.out.rdr.bytes y (List.mem_of_mem_take hy)) (by rw [List.length_take]; omega)
  generalize hq : Wire.num (l.take n) = q at hs
  have HQ := Lib.hid hq; clear hq
  go_enter Tryd.func44, Tryd.ntmps44
  go_wp2_with fail
  refine (num_ok lo g l n n rfl h1 (by omega) hn _ (Lib.hid h.out.rdr)).mono ?_
  rintro e w1 ⟨rfl, hr1, hg1⟩
  rw [HQ.out]
  have HP := Lib.hid (h.out.grown hr1 hg1); clear hr1 hg1
  go_wp2
  go_ret
  exact ⟨rfl, HP.out⟩
theorem num_at (l : List Nat) (i : Nat) (h : i < l.length) : Wire.num ((l.drop i).take 1) = l.getD i 0 := by
  have e : (l.drop i).take 1 = [l.getD i 0] := by
    rw [List.take_one, List.head?_drop, List.getD_eq_getElem?_getD, List.getElem?_eq_getElem h]; rfl
  rw [e]
  simp [Wire.num]
theorem stored4 {w : World} {r : Nat} {a b c d a' b' c' d' x : Value} {t : TypeId} (h : w.heap[r]? = some (.cells #[a, b, c, d] t (0, 0))) :
    (((((w.setCell ⟨r, 3, none⟩ x).setCell ⟨r, 0, none⟩ a').setCell ⟨r, 1, none⟩ b').setCell ⟨r, 2, none⟩ c').setCell ⟨r, 3, none⟩ d').heap[r]? = some (.cells #[a', b', c', d'] t (0, 0)) := by
  simp [World.setCell, Array.getElem?_modify, h]
theorem stored4_grown (w : World) (r : Nat) (a' b' c' d' x : Value) :
    w.grownBy (((((w.setCell ⟨r, 3, none⟩ x).setCell ⟨r, 0, none⟩ a').setCell ⟨r, 1, none⟩ b').setCell ⟨r, 2, none⟩ c').setCell ⟨r, 3, none⟩ d') (some r) :=
  grown_trans' (grown_trans' (grown_trans' (grown_trans' (grown_set _ _ _ _) (grown_set _ _ _ _)) (grown_set _ _ _ _)) (grown_set _ _ _ _)) (grown_set _ _ _ _)
theorem results_row3 {P : Program} {fn : Func} {p u v : Tmp} {ty : TypeId} (h : fn.results = #[.cell p ty, .tmp u, .tmp v]) (tmps : Array Value) (w : World) (g : Nat) (t : TypeId) (cs : Array Value) (fr : Nat × Nat) (d : TypeDesc)
    (hp : tmps.getD p undef = .pointer (some ⟨g, 0, none⟩)) (hg : w.heap[g]? = some (.cells cs t fr))
    (hu : P.underlying ty = some d) (hd : (match d with | .struct _ | .array _ _ => true | _ => false) = true) (hi : (P.info? ty).map (·.size) = some cs.size) :
    (results fn tmps).run P w = .ok (.tuple #[.agg cs, tmps.getD u undef, tmps.getD v undef]) w := by
  have hp' : tmps[p]?.getD undef = .pointer (some ⟨g, 0, none⟩) := by simpa using hp
  simp [results, h, hp', asAddr, run_loadVar_row w g t ty cs fr d hg hu hd hi, Result.andThen]
theorem results_row2 {P : Program} {fn : Func} {p u : Tmp} {ty : TypeId} (h : fn.results = #[.cell p ty, .tmp u]) (tmps : Array Value) (w : World) (g : Nat) (t : TypeId) (cs : Array Value) (fr : Nat × Nat) (d : TypeDesc)
    (hp : tmps.getD p undef = .pointer (some ⟨g, 0, none⟩)) (hg : w.heap[g]? = some (.cells cs t fr))
    (hu : P.underlying ty = some d) (hd : (match d with | .struct _ | .array _ _ => true | _ => false) = true) (hi : (P.info? ty).map (·.size) = some cs.size) :
    (results fn tmps).run P w = .ok (.tuple #[.agg cs, tmps.getD u undef]) w := by
  have hp' : tmps[p]?.getD undef = .pointer (some ⟨g, 0, none⟩) := by simpa using hp
  simp [results, h, hp', asAddr, run_loadVar_row w g t ty cs fr d hg hu hd hi, Result.andThen]
theorem four_frozen {w : World} {g : Nat} {a b c d : Value} {t : TypeId} (h : w.heap[g]? = some (.cells #[a, b, c, d] t (0, 0))) :
    w.frozen? ⟨g, 0, none⟩ = false ∧ w.frozen? ⟨g, 1, none⟩ = false ∧ w.frozen? ⟨g, 2, none⟩ = false ∧ w.frozen? ⟨g, 3, none⟩ = false :=
  ⟨frozen_of_row w g 0 _ t h, frozen_of_row w g 1 _ t h, frozen_of_row w g 2 _ t h, frozen_of_row w g 3 _ t h⟩
theorem Ph.put {w0 w w' : World} {r p g lo : Nat} {kd x kd' x' : Int} {l : List Nat} (h : Ph w0 r p g lo kd x l w) (hg : w.grownBy w' (some r)) (hr : w'.heap[r]? = some (.cells #[.int .i64 kd', .slice none 0 0, .slice none 0 0, .int .i64 x'] 26 (0, 0))) : Ph w0 r p g lo kd' x' l w' where
  res := hr
  var := (hg.block p (Array.getElem?_eq_some_iff.1 h.var).1 (fun e => by injection e with e; have := h.g_p; have := h.r_lo; have := h.rdr.lo_le; omega)).trans h.var
  rdr := h.rdr.grown hg (fun b e => by injection e with e; have := h.r_lo; omega)
  below := h.below.trans (below_of_grown hg h.w_r h.below.size)
  r_lo := h.r_lo
  g_p := h.g_p
  w_r := h.w_r
theorem Ph.set0 {w0 w : World} {r p g lo : Nat} {kd x : Int} {l : List Nat} (h : Ph w0 r p g lo kd x l w) (kd' : Int) : Ph w0 r p g lo kd' x l (w.setCell ⟨r, 0, none⟩ (.int .i64 kd')) :=
  h.put (grown_set _ _ _ _) (by simp [World.setCell, Array.getElem?_modify, h.res])
theorem Ph.set3 {w0 w : World} {r p g lo : Nat} {kd x : Int} {l : List Nat} (h : Ph w0 r p g lo kd x l w) (x' : Int) : Ph w0 r p g lo kd x' l (w.setCell ⟨r, 3, none⟩ (.int .i64 x')) :=
  h.put (grown_set _ _ _ _) (by simp [World.setCell, Array.getElem?_modify, h.res])
set_option maxHeartbeats 1000000 in
theorem parsehead_any (v : Int) (A : Option Addr) (B c : Nat) (l : List Nat) (w : World) (hA : A = none → c = 0 ∧ (16 : Nat) = 0) (hl : Hid (l.length = 16)) (hb : Hid (Bs w B A l)) :
    Calls Tryd.prog 33 #[.int .i64 v, .slice A 16 c] w fun e w' => e = .returned (.tuple #[.agg #[.int .i64 (Rc.kd v l : Int), .slice none 0 0, .slice none 0 0, .int .i64 (Rc.xp v l : Int)], .int .i64 (Rc.kl v l : Int), .int .i64 (Rc.vl v l : Int)]) ∧ Below w.heap.size w w' := by
  have hb0 : Hid (∀ o, Bs (w.alloc o) (w.alloc o).heap.size A l) := fun o => by
    have h1 : Bs w w.heap.size A l := fun k hk => by
      obtain ⟨a1, ad', e, _, h⟩ := hb.out k hk
      refine ⟨a1, ad', e, ?_, h⟩
      have := World.block_lt_of_cell? w _ h
      rwa [add_block] at this
    exact (h1.below ((Below.refl _ w).alloc (Nat.le_refl _) o) (Nat.le_refl _)).more ((Below.refl _ w).alloc (Nat.le_refl _) o).size
  have HINIT : Hid (∀ (o o' : Obj) (w1 : World) (g : Nat), o = .cells #[.int .i64 0, .slice none 0 0, .slice none 0 0, .int .i64 0] 26 → o' = .cells #[.pointer (some ⟨g, 0, none⟩)] 73 → Rdr w1 (w.alloc o).heap.size g false l → Below (w.alloc o).heap.size (w.alloc o) w1 →
      Ph w w.heap.size w1.heap.size g (w.heap.size + 1) 0 0 l (w1.alloc o')) := fun o o' w1 g e1 e2 hr hb1 => by
    subst e1 e2
    have hr' : Rdr w1 (w.heap.size + 1) g false l := by
      have e : (w.alloc (.cells #[.int .i64 0, .slice none 0 0, .slice none 0 0, .int .i64 0] 26)).heap.size = w.heap.size + 1 := by simp
      rw [e] at hr; exact hr
    have hB : Below w1.heap.size w1 (w1.alloc (.cells #[.pointer (some ⟨g, 0, none⟩)] 73)) := (Below.refl _ _).alloc (Nat.le_refl _) _
    have hw1 : Below w.heap.size w w1 := ((Below.refl _ w).alloc (Nat.le_refl _) _).trans (hb1.mono (by simp))
    exact ⟨(hB.block _ (Array.getElem?_eq_some_iff.1 (boxed hb1)).1).trans (boxed hb1), heap_alloc_new _ _, hr'.below hB hr.lt, hw1.trans (hB.mono hw1.size), Nat.lt_succ_self _, hr.lt, Nat.le_refl _⟩
  by_cases hv : v = 1
  · subst hv
    obtain ⟨q1, l1, S1⟩ := step_at l 1 15 (by rw [hl.out])
    obtain ⟨q2, l2, S2⟩ := step_at l1 1 14 (by rw [S1.out.2.2.2])
    obtain ⟨q3, l3, S3⟩ := step_at l2 1 13 (by rw [S2.out.2.2.2])
    obtain ⟨q4, l4, S4⟩ := step_at l3 1 12 (by rw [S3.out.2.2.2])
    obtain ⟨q5, l5, S5⟩ := step_at l4 4 8 (by rw [S4.out.2.2.2])
    obtain ⟨q6, l6, S6⟩ := step_at l5 4 4 (by rw [S5.out.2.2.2])
    go_enter Tryd.func33, Tryd.ntmps33
    go_wp2_with fail
    refine (newreader_any A _ 16 c l _ hA hl (by omega) (Lib.hid (hb0.out _))).mono ?_
    rintro e w1 ⟨g, rfl, hr, hb1⟩
    have HP1 := Lib.hid (HINIT.out _ _ w1 g rfl rfl hr hb1)
    clear hr hb1
    generalize hp : w1.heap.size = p at HP1
    go_wp2_with fail
    clear hp
    refine (next_any w w.heap.size p g _ 1 1 rfl 0 0 l l1 q1 _ _ HP1 S1 (by omega) (by omega)).mono ?_
    rintro e w2 ⟨rfl, h2⟩
    have HP2 := Lib.hid h2; clear h2
    go_wp2_with fail
    refine (next_any w w.heap.size p g _ 1 1 rfl 0 0 l1 l2 q2 _ _ HP2 S2 (by omega) (by omega)).mono ?_
    rintro e w3 ⟨rfl, h3⟩
    have HP3 := Lib.hid h3; clear h3
    go_wp2_with fail
    refine (next_any w w.heap.size p g _ 1 1 rfl 0 0 l2 l3 q3 _ _ HP3 S3 (by omega) (by omega)).mono ?_
    rintro e w4 ⟨rfl, h4⟩
    obtain ⟨c0, c1, c2, c3⟩ := four_cells h4.res
    obtain ⟨f0, f1, f2, f3⟩ := four_frozen h4.res
    have HP4 := Lib.hid (h4.set0 ((q2 : Int))); clear h4
    go_wp2_with fail
    refine (next_any w w.heap.size p g _ 1 1 rfl ((q2 : Int)) 0 l3 l4 q4 _ _ HP4 S4 (by omega) (by omega)).mono ?_
    rintro e w5 ⟨rfl, h5⟩
    have HP5 := Lib.hid h5; clear h5
    go_wp2_with fail
    refine (next_any w w.heap.size p g _ 4 4 rfl ((q2 : Int)) 0 l4 l5 q5 _ _ HP5 S5 (by omega) (by omega)).mono ?_
    rintro e w6 ⟨rfl, h6⟩
    have HP6 := Lib.hid h6; clear h6
    go_wp2_with fail
    refine (next_any w w.heap.size p g _ 4 4 rfl ((q2 : Int)) 0 l5 l6 q6 _ _ HP6 S6 (by omega) (by omega)).mono ?_
    rintro e w7 ⟨rfl, h7⟩
    obtain ⟨c0, c1, c2, c3⟩ := four_cells h7.res
    obtain ⟨f0, f1, f2, f3⟩ := four_frozen h7.res
    have HP7 := Lib.hid h7; clear h7
    go_wp2_with fail
    (try simp only [Exit.inBlock, Exit.then])
    refine bodyPost_ret (results_row3 rfl _ _ w.heap.size _ _ (0, 0) _ rfl (stored4 HP7.out.res) Tryd.underlying26 rfl (by kernel_rfl)) rfl ?_
    have HBF : Below w.heap.size w _ := HP7.out.below.trans (below_of_grown (stored4_grown w7 w.heap.size (.int .i64 (q2 : Int)) (.slice none 0 0) (.slice none 0 0) (.int .i64 (q6 : Int)) (.int .i64 (q6 : Int))) (Nat.le_refl _) HP7.out.below.size)
    refine ⟨?_, HBF⟩
    obtain ⟨e1, m1, -, -⟩ := S1.out
    obtain ⟨e2, m2, -, -⟩ := S2.out
    obtain ⟨e3, m3, -, -⟩ := S3.out
    obtain ⟨e4, m4, -, -⟩ := S4.out
    obtain ⟨e5, m5, -, -⟩ := S5.out
    obtain ⟨e6, -, -, -⟩ := S6.out
    have M1 : l1 = l.drop 1 := m1
    have M2 : l2 = l.drop 2 := by rw [m2, M1]; exact List.drop_drop
    have M3 : l3 = l.drop 3 := by rw [m3, M2]; exact List.drop_drop
    have M4 : l4 = l.drop 4 := by rw [m4, M3]; exact List.drop_drop
    have M5 : l5 = l.drop 8 := by rw [m5, M4]; exact List.drop_drop
    have hl16 := hl.out
    have a1 : q2 = Rc.kd 1 l := by rw [e2, M1, num_at _ _ (by omega)]; rfl
    have a2 : q3 = Rc.kl 1 l := by rw [e3, M2, num_at _ _ (by omega)]; rfl
    have a3 : q5 = Rc.vl 1 l := by rw [e5, M4]; rfl
    have a4 : q6 = Rc.xp 1 l := by rw [e6, M5]; rfl
    rw [← a1, ← a2, ← a3, ← a4]
    rfl
  · have hv1 : (v == 1) = false := by simp; omega
    have hkd : Rc.kd v l = l.getD 2 0 / 16 := if_neg hv
    have hkl : Rc.kl v l = l.getD 1 0 := if_neg hv
    have hvl : Rc.vl v l = Wire.num (Rc.sub l 3 3) := if_neg hv
    have hxp : Rc.xp v l = Wire.num (Rc.sub l 7 5) := if_neg hv
    have HEQ := Lib.hid (And.intro hkd (And.intro hkl (And.intro hvl hxp)))
    clear hkd hkl hvl hxp hv
    obtain ⟨q1, l1, S1⟩ := step_at l 1 15 (by rw [hl.out])
    obtain ⟨q2, l2, S2⟩ := step_at l1 1 14 (by rw [S1.out.2.2.2])
    obtain ⟨q3, l3, S3⟩ := step_at l2 1 13 (by rw [S2.out.2.2.2])
    have h3 : q3 < 256 := by
      obtain ⟨e3, -, e4, -⟩ := S3.out
      have h2 := S2.out.2.1
      have h1 := S1.out.2.1
      have := Wire.num_lt (l2.take 1) (fun y hy => hb.out.lt y (by rw [h2, h1] at hy; exact List.mem_of_mem_drop (List.mem_of_mem_drop (List.mem_of_mem_take hy))))
      rw [List.length_take, Nat.min_eq_left e4] at this
      rw [e3]; exact this
    obtain ⟨q4, l4, S4⟩ := step_at l3 3 10 (by rw [S3.out.2.2.2])
    obtain ⟨q5, l5, S5⟩ := step_at l4 1 9 (by rw [S4.out.2.2.2])
    obtain ⟨q6, l6, S6⟩ := step_at l5 5 4 (by rw [S5.out.2.2.2])
    go_enter Tryd.func33, Tryd.ntmps33
    go_wp2_with fail
    refine (newreader_any A _ 16 c l _ hA hl (by omega) (Lib.hid (hb0.out _))).mono ?_
    rintro e w1 ⟨g, rfl, hr, hb1⟩
    have HP1 := Lib.hid (HINIT.out _ _ w1 g rfl rfl hr hb1)
    clear hr hb1
    generalize hp : w1.heap.size = p at HP1
    go_wp2_with fail
    clear hp
    refine (next_any w w.heap.size p g _ 1 1 rfl 0 0 l l1 q1 _ _ HP1 S1 (by omega) (by omega)).mono ?_
    rintro e w2 ⟨rfl, h2⟩
    have HP2 := Lib.hid h2; clear h2
    go_wp2_with fail
    refine (next_any w w.heap.size p g _ 1 1 rfl 0 0 l1 l2 q2 _ _ HP2 S2 (by omega) (by omega)).mono ?_
    rintro e w3 ⟨rfl, h3⟩
    have HP3 := Lib.hid h3; clear h3
    go_wp2_with fail
    refine (next_any w w.heap.size p g _ 1 1 rfl 0 0 l2 l3 q3 _ _ HP3 S3 (by omega) (by omega)).mono ?_
    rintro e w4 ⟨rfl, h4⟩
    have HP4 := Lib.hid h4; clear h4
    go_wp2_with fail
    refine (next_any w w.heap.size p g _ 3 3 rfl 0 0 l3 l4 q4 _ _ HP4 S4 (by omega) (by omega)).mono ?_
    rintro e w5 ⟨rfl, h5⟩
    obtain ⟨c0, c1, c2, c3⟩ := four_cells h5.res
    obtain ⟨f0, f1, f2, f3⟩ := four_frozen h5.res
    have HP5 := Lib.hid (h5.set0 ((q3 : Int) / 16)); clear h5
    go_wp2_with fail
    refine (next_any w w.heap.size p g _ 1 1 rfl ((q3 : Int) / 16) 0 l4 l5 q5 _ _ HP5 S5 (by omega) (by omega)).mono ?_
    rintro e w6 ⟨rfl, h6⟩
    have HP6 := Lib.hid h6; clear h6
    go_wp2_with fail
    refine (next_any w w.heap.size p g _ 5 5 rfl ((q3 : Int) / 16) 0 l5 l6 q6 _ _ HP6 S6 (by omega) (by omega)).mono ?_
    rintro e w7 ⟨rfl, h7⟩
    obtain ⟨c0, c1, c2, c3⟩ := four_cells h7.res
    obtain ⟨f0, f1, f2, f3⟩ := four_frozen h7.res
    have HP7 := Lib.hid h7; clear h7
    go_wp2_with fail
    (try simp only [Exit.inBlock, Exit.then])
    refine bodyPost_ret (results_row3 rfl _ _ w.heap.size _ _ (0, 0) _ rfl (stored4 HP7.out.res) Tryd.underlying26 rfl (by kernel_rfl)) rfl ?_
    have HBF : Below w.heap.size w _ := HP7.out.below.trans (below_of_grown (stored4_grown w7 w.heap.size (.int .i64 ((q3 : Int) / 16)) (.slice none 0 0) (.slice none 0 0) (.int .i64 (q6 : Int)) (.int .i64 (q6 : Int))) (Nat.le_refl _) HP7.out.below.size)
    refine ⟨?_, HBF⟩
    obtain ⟨e1, m1, -, -⟩ := S1.out
    obtain ⟨e2, m2, -, -⟩ := S2.out
    obtain ⟨e3, m3, -, -⟩ := S3.out
    obtain ⟨e4, m4, -, -⟩ := S4.out
    obtain ⟨e5, m5, -, -⟩ := S5.out
    obtain ⟨e6, -, -, -⟩ := S6.out
    have M1 : l1 = l.drop 1 := m1
    have M2 : l2 = l.drop 2 := by rw [m2, M1]; exact List.drop_drop
    have M3 : l3 = l.drop 3 := by rw [m3, M2]; exact List.drop_drop
    have M4 : l4 = l.drop 6 := by rw [m4, M3]; exact List.drop_drop
    have M5 : l5 = l.drop 7 := by rw [m5, M4]; exact List.drop_drop
    have hl16 := hl.out
    obtain ⟨hkd, hkl, hvl, hxp⟩ := HEQ.out
    have a1 : ((q3 : Int) / 16) = (Rc.kd v l : Int) := by rw [hkd, e3, M2, num_at _ _ (by omega)]; omega
    have a2 : q2 = Rc.kl v l := by rw [hkl, e2, M1, num_at _ _ (by omega)]
    have a3 : q4 = Rc.vl v l := by rw [hvl, e4, M3]; rfl
    have a4 : q6 = Rc.xp v l := by rw [hxp, e6, M5]; rfl
    rw [← a1, ← a2, ← a3, ← a4]
    rfl
end Go.Proofs.YtciaiaacboodeaaDoor
