/-
  The walk of record's parse.
-/
import Derived.Test.YtciaiaacboodeaaDoorRecParse
import Derived.Test.YtciaiaacboodeaaDoorRecEncode
import Derived.BigRegion
import Derived.RegionTactic
namespace Go.Proofs.YtciaiaacboodeaaDoor
open Go.RowKit

theorem head16 (v : Int) (l : List Nat) : Rc.kl v (l.take 16) = Rc.kl v l ∧ Rc.vl v (l.take 16) = Rc.vl v l ∧ Rc.kd v (l.take 16) = Rc.kd v l ∧ Rc.xp v (l.take 16) = Rc.xp v l := by
  obtain ⟨h1, h2⟩ := Rc.lengths_take v l 16 (Nat.le_refl _)
  refine ⟨h1, h2, ?_, ?_⟩
  · unfold Rc.kd
    rw [Rc.getD_take' _ _ _ (by omega), Rc.getD_take' _ _ _ (by omega)]
  · unfold Rc.xp
    rw [Rc.sub_take _ _ _ _ (by omega), Rc.sub_take _ _ _ _ (by omega)]
theorem kl_lt (v : Int) {l : List Nat} (h : ∀ x ∈ l, x < 256) : Rc.kl v l < 256 := by
  unfold Rc.kl
  split <;> exact getD_lt h _
theorem sub_lt {l : List Nat} (h : ∀ x ∈ l, x < 256) (i n : Nat) : ∀ x ∈ Rc.sub l i n, x < 256 := fun x hx => h x (List.mem_of_mem_drop (List.mem_of_mem_take hx))
theorem sub_le (l : List Nat) (i n : Nat) : (Rc.sub l i n).length ≤ n := by unfold Rc.sub; rw [List.length_take]; omega
theorem pow4 : (256 : Nat) ^ 4 = 4294967296 := rfl
theorem vl_lt (v : Int) {l : List Nat} (h : ∀ x ∈ l, x < 256) : Rc.vl v l < 4294967296 := by
  unfold Rc.vl
  split
  · have h1 := Wire.num_lt _ (sub_lt h 4 4)
    have h2 : (256 : Nat) ^ (Rc.sub l 4 4).length ≤ 256 ^ 4 := Nat.pow_le_pow_right (by decide) (sub_le l 4 4)
    rw [pow4] at h2; omega
  · have h1 := Wire.num_lt _ (sub_lt h 3 3)
    have h2 : (256 : Nat) ^ (Rc.sub l 3 3).length ≤ 256 ^ 4 := Nat.pow_le_pow_right (by decide) (by have := sub_le l 3 3; omega)
    rw [pow4] at h2; omega
/-- Is there room for what the head says? -/
def Fits (v : Int) (l : List Nat) : Prop := 16 ≤ l.length ∧ 16 + Rc.kl v l + Rc.vl v l ≤ l.length
theorem stored {w : World} {r : Nat} {a b c d a' b' c' d' : Value} {t : TypeId} (h : w.heap[r]? = some (.cells #[a, b, c, d] t (0, 0))) :
    ((((w.setCell ⟨r, 0, none⟩ a').setCell ⟨r, 1, none⟩ b').setCell ⟨r, 2, none⟩ c').setCell ⟨r, 3, none⟩ d').heap[r]? = some (.cells #[a', b', c', d'] t (0, 0)) := by
  simp [World.setCell, Array.getElem?_modify, h]
theorem stored_grown (w : World) (r : Nat) (a' b' c' d' : Value) : w.grownBy ((((w.setCell ⟨r, 0, none⟩ a').setCell ⟨r, 1, none⟩ b').setCell ⟨r, 2, none⟩ c').setCell ⟨r, 3, none⟩ d') (some r) :=
  grown_trans' (grown_trans' (grown_trans' (grown_set _ _ _ _) (grown_set _ _ _ _)) (grown_set _ _ _ _)) (grown_set _ _ _ _)
theorem parse_short (v : Int) (A : Option Addr) (n c : Nat) (w : World) (hn : n < 16) :
    Calls Tryd.prog 19 #[.int .i64 v, .slice A n c] w fun e w' => e = .returned (.tuple #[.agg #[.int .i64 0, .slice none 0 0, .slice none 0 0, .int .i64 0], .bool false]) ∧ Below w.heap.size w w' := by
  have hd : decide ((n : Int) < 16) = true := by simp; omega
  go_enter Tryd.func19, Tryd.ntmps19
  go_wp2
  (try simp only [Exit.inBlock, Exit.then])
  refine bodyPost_ret (results_row2 rfl _ _ w.heap.size _ _ (0, 0) _ rfl (heap_alloc_new _ _) Tryd.underlying26 rfl (by kernel_rfl)) rfl ?_
  exact ⟨rfl, (Below.refl _ _).alloc (Nat.le_refl _) _⟩
/-- What parseHead hands to parse. -/
theorem parse_head (v : Int) (A : Option Addr) (B n c : Nat) (l : List Nat) (w : World) (hA : A = none → c = 0 ∧ n = 0) (hl : Hid (l.length = n)) (hb : Hid (Bs w B A l)) (hn : 16 ≤ n) (o : Obj) :
    Calls Tryd.prog 33 #[.int .i64 v, .slice A 16 c] (w.alloc o) fun e w' => e = .returned (.tuple #[.agg #[.int .i64 (Rc.kd v l : Int), .slice none 0 0, .slice none 0 0, .int .i64 (Rc.xp v l : Int)], .int .i64 (Rc.kl v l : Int), .int .i64 (Rc.vl v l : Int)]) ∧ Below (w.alloc o).heap.size (w.alloc o) w' := by
  obtain ⟨e1, e2, e3, e4⟩ := head16 v l
  rw [← e1, ← e2, ← e3, ← e4]
  have hb1 : Bs w w.heap.size A l := fun k hk => by
    obtain ⟨a1, ad', e, _, h⟩ := hb.out k hk
    refine ⟨a1, ad', e, ?_, h⟩
    have := World.block_lt_of_cell? w _ h
    rwa [add_block] at this
  exact parsehead_any v A w.heap.size c (l.take 16) (w.alloc o) (fun e => by have := hA e; omega) (by show _ = _; rw [List.length_take, hl.out]; omega) ((hb1.take 16).below ((Below.refl _ w).alloc (Nat.le_refl _) o) (Nat.le_refl _))
/-- The result's block behind parseHead and one more block. -/
theorem after_head {w w1 : World} {a b c d : Value} {t : TypeId} (hb : Below (w.alloc (.cells #[a, b, c, d] t)).heap.size (w.alloc (.cells #[a, b, c, d] t)) w1) (o : Obj) :
    (w1.alloc o).heap[w.heap.size]? = some (.cells #[a, b, c, d] t (0, 0)) ∧ Below w.heap.size w (w1.alloc o) ∧ w.heap.size < w1.heap.size := by
  have hB : Below w1.heap.size w1 (w1.alloc o) := (Below.refl _ _).alloc (Nat.le_refl _) _
  have hw1 : Below w.heap.size w w1 := ((Below.refl _ w).alloc (Nat.le_refl _) _).trans (hb.mono (by simp))
  have hlt := (Array.getElem?_eq_some_iff.1 (boxed hb)).1
  exact ⟨(hB.block _ hlt).trans (boxed hb), hw1.trans (hB.mono hw1.size), hlt⟩
theorem parse_no (v : Int) (A : Option Addr) (B n c : Nat) (l : List Nat) (w : World) (hA : A = none → c = 0 ∧ n = 0) (hnc : n ≤ c) (hc : c ≤ 9223372036854775807) (hl : Hid (l.length = n)) (hb : Hid (Bs w B A l)) (hn : 16 ≤ n) (hf : n < 16 + Rc.kl v l + Rc.vl v l) :
    Calls Tryd.prog 19 #[.int .i64 v, .slice A n c] w fun e w' => e = .returned (.tuple #[.agg #[.int .i64 0, .slice none 0 0, .slice none 0 0, .int .i64 0], .bool false]) ∧ Below w.heap.size w w' := by
  have hd : decide ((n : Int) < 16) = false := by simp; omega
  have hk := kl_lt v hb.out.lt
  have hv := vl_lt v hb.out.lt
  have HH := Lib.hid (parse_head v A B n c l w hA hl hb hn)
  generalize Rc.kl v l = kl at *
  generalize Rc.vl v l = vl at *
  generalize Rc.kd v l = kd at *
  generalize Rc.xp v l = xp at *
  by_cases hc16 : c = 16
  · subst hc16
    obtain rfl : n = 16 := by omega
    have hd2 : decide ((0 : Int) < (kl : Int) + (vl : Int)) = true := by simp; omega
    go_enter Tryd.func19, Tryd.ntmps19
    go_wp2_with fail
    refine (HH.out _).mono ?_
    rintro e w1 ⟨rfl, hb1⟩
    obtain ⟨hr, hbb, -⟩ := after_head hb1 (.cells #[.int .i64 (kd : Int), .slice none 0 0, .slice none 0 0, .int .i64 (xp : Int)] 26)
    obtain ⟨c0, c1, c2, c3⟩ := four_cells hr
    obtain ⟨f0, f1, f2, f3⟩ := four_frozen hr
    have HR := Lib.hid hr
    have HBB := Lib.hid hbb
    clear hr hbb hb1
    go_wp2_with fail
    (try simp only [Exit.inBlock, Exit.then])
    refine bodyPost_ret (results_row2 rfl _ _ w.heap.size _ _ (0, 0) _ rfl (stored HR.out) Tryd.underlying26 rfl (by kernel_rfl)) rfl ?_
    exact ⟨rfl, HBB.out.trans (below_of_grown (stored_grown _ _ _ _ _ _) (Nat.le_refl _) HBB.out.size)⟩
  · have hd2 : decide ((n : Int) - 16 < (kl : Int) + (vl : Int)) = true := by simp; omega
    go_enter Tryd.func19, Tryd.ntmps19
    go_wp2_with fail
    refine (HH.out _).mono ?_
    rintro e w1 ⟨rfl, hb1⟩
    obtain ⟨hr, hbb, -⟩ := after_head hb1 (.cells #[.int .i64 (kd : Int), .slice none 0 0, .slice none 0 0, .int .i64 (xp : Int)] 26)
    obtain ⟨c0, c1, c2, c3⟩ := four_cells hr
    obtain ⟨f0, f1, f2, f3⟩ := four_frozen hr
    have HR := Lib.hid hr
    have HBB := Lib.hid hbb
    clear hr hbb hb1
    go_wp2_with fail
    (try simp only [Exit.inBlock, Exit.then])
    refine bodyPost_ret (results_row2 rfl _ _ w.heap.size _ _ (0, 0) _ rfl (stored HR.out) Tryd.underlying26 rfl (by kernel_rfl)) rfl ?_
    exact ⟨rfl, HBB.out.trans (below_of_grown (stored_grown _ _ _ _ _ _) (Nat.le_refl _) HBB.out.size)⟩
/-- What parse hands back of bytes that are long enough. -/
def Parsed (w : World) (B : Nat) (v : Int) (l : List Nat) (e : Ending) (w' : World) : Prop :=
  ∃ A1 c1 A2 c2, e = .returned (.tuple #[.agg #[.int .i64 (Rc.kd v l : Int), .slice A1 (Rc.kl v l) c1, .slice A2 (Rc.vl v l) c2, .int .i64 (Rc.xp v l : Int)], .bool true]) ∧ SlIs A1 (Rc.kl v l) c1 ∧ SlIs A2 (Rc.vl v l) c2 ∧ Bs w' B A1 (Rc.sub l 16 (Rc.kl v l)) ∧ Bs w' B A2 (Rc.sub l (16 + Rc.kl v l) (Rc.vl v l)) ∧ Below w.heap.size w w'
set_option maxHeartbeats 1000000 in
theorem parse_ok (v : Int) (A : Option Addr) (B n c : Nat) (l : List Nat) (w : World) (hB : B ≤ w.heap.size) (hA : A = none → c = 0 ∧ n = 0) (hnc : n ≤ c) (hc : c ≤ 9223372036854775807) (hl : Hid (l.length = n)) (hb : Hid (Bs w B A l)) (hn : 16 ≤ n) (hf : 16 + Rc.kl v l + Rc.vl v l ≤ n) :
    Calls Tryd.prog 19 #[.int .i64 v, .slice A n c] w (Parsed w B v l) := by
  have hd : decide ((n : Int) < 16) = false := by simp; omega
  have hk := kl_lt v hb.out.lt
  have hv := vl_lt v hb.out.lt
  have HH := Lib.hid (parse_head v A B n c l w hA hl hb hn)
  unfold Parsed
  generalize Rc.kl v l = kl at *
  generalize Rc.vl v l = vl at *
  generalize Rc.kd v l = kd at *
  generalize Rc.xp v l = xp at *
  by_cases hc16 : c = 16
  · subst hc16
    obtain rfl : n = 16 := by omega
    obtain rfl : kl = 0 := by omega
    obtain rfl : vl = 0 := by omega
    go_enter Tryd.func19, Tryd.ntmps19
    go_wp2_with fail
    refine (HH.out _).mono ?_
    rintro e w1 ⟨rfl, hb1⟩
    have HB1 := Lib.hid hb1
    clear hb1
    go_wp2_with fail
    go_region
    obtain ⟨hr, hbb, -⟩ := after_head HB1.out (.cells #[.int .i64 (kd : Int), .slice A 0 0, .slice A 0 0, .int .i64 (xp : Int)] 26)
    obtain ⟨c0, c1, c2, c3⟩ := four_cells hr
    obtain ⟨f0, f1, f2, f3⟩ := four_frozen hr
    have HR := Lib.hid hr
    have HBB := Lib.hid hbb
    clear hr hbb
    go_wp2_with fail
    (try simp only [Exit.inBlock, Exit.then])
    refine bodyPost_ret (results_row2 rfl _ _ w.heap.size _ _ (0, 0) _ rfl (stored HR.out) Tryd.underlying26 rfl (by kernel_rfl)) rfl ?_
    have HF : Below w.heap.size w _ := HBB.out.trans (below_of_grown (stored_grown (w1.alloc (.cells #[.int .i64 (kd : Int), .slice A 0 0, .slice A 0 0, .int .i64 (xp : Int)] 26)) w.heap.size (.int .i64 (kd : Int)) (.slice A 0 0) (.slice A 0 0) (.int .i64 (xp : Int))) (Nat.le_refl _) HBB.out.size)
    exact ⟨_, _, _, _, rfl, ⟨fun _ => ⟨rfl, rfl⟩, Nat.le_refl _, by omega⟩, ⟨fun _ => ⟨rfl, rfl⟩, Nat.le_refl _, by omega⟩, fun k hk => absurd hk (by simp [Rc.sub]), fun k hk => absurd hk (by simp [Rc.sub]), below_drawn HF 1⟩
  · have hd2 : decide ((n : Int) - 16 < (kl : Int) + (vl : Int)) = false := by simp; omega
    go_enter Tryd.func19, Tryd.ntmps19
    go_wp2_with fail
    refine (HH.out _).mono ?_
    rintro e w1 ⟨rfl, hb1⟩
    have HB1 := Lib.hid hb1
    clear hb1
    have i1 : (kl : Int) ≤ (kl : Int) + (vl : Int) := by omega
    have i2 : (0 : Int) ≤ (kl : Int) := by omega
    have i3 : (kl : Int) + (vl : Int) ≤ ((c - 16 : Nat) : Int) := by omega
    have i4 : (kl : Int) ≤ ((c - 16 : Nat) : Int) := by omega
    go_wp2_with fail
    go_region
    have hadd : (fun x : Addr => (⟨x.block, x.off + 16, none⟩ : Addr)) = fun x => x.add 16 := by
      funext x
      unfold Addr.add
      rw [if_neg (by omega)]
    generalize hA1 : Option.map ((fun x => x) ∘ fun x : Addr => (⟨x.block, x.off + 16, none⟩ : Addr)) A = A1
    generalize hA2 : (if c - 16 = kl then Option.map (fun x : Addr => (⟨x.block, x.off + 16, none⟩ : Addr)) A else Option.map ((fun x => x.add kl) ∘ fun x : Addr => (⟨x.block, x.off + 16, none⟩ : Addr)) A) = A2
    have HA1 : Hid (A1 = A.map (fun x => x.add 16)) := by
      rw [← hA1, hadd]; rfl
    have HA2 : Hid (c - 16 ≠ kl → A2 = (A.map (fun x => x.add 16)).map (fun x => x.add kl)) := fun h => by
      rw [← hA2, if_neg h, hadd, Option.map_map]
    clear hA1 hA2 hadd
    have hS : A = none → False := fun e => by have := hA e; omega
    have hb16 : Bs w B (A.map (fun x => x.add 16)) (l.drop 16) := (hb.out.bsIn.drop 16).bs
    have HS1 : Hid (SlIs A1 kl (c - 16)) := by
      refine ⟨fun e => ?_, by omega, by omega⟩
      rw [HA1.out] at e
      cases A with
      | none => exact (hS rfl).elim
      | some a => cases e
    have HS2 : Hid (SlIs A2 vl (c - 16 - kl)) := by
      refine ⟨fun e => ?_, by omega, by omega⟩
      by_cases h : c - 16 = kl
      · omega
      · rw [HA2.out h] at e
        cases A with
        | none => exact (hS rfl).elim
        | some a => cases e
    have HW1 : Hid (Bs w B A1 (Rc.sub l 16 kl)) := by
      rw [HA1.out]
      exact hb16.take kl
    have HW2 : Hid (Bs w B A2 (Rc.sub l (16 + kl) vl)) := by
      by_cases h : c - 16 = kl
      · obtain rfl : vl = 0 := by omega
        exact fun k hk => absurd hk (by simp [Rc.sub])
      · rw [HA2.out h]
        have h2 := (hb16.bsIn.drop kl).bs.take vl
        rw [List.drop_drop] at h2
        exact h2
    clear hS hb16 HA1 HA2
    obtain ⟨hr, hbb, -⟩ := after_head HB1.out (.cells #[.int .i64 (kd : Int), .slice A1 kl (c - 16), .slice A2 vl (c - 16 - kl), .int .i64 (xp : Int)] 26)
    obtain ⟨c0, c1, c2, c3⟩ := four_cells hr
    obtain ⟨f0, f1, f2, f3⟩ := four_frozen hr
    have HR := Lib.hid hr
    have HBB := Lib.hid hbb
    clear hr hbb
    go_wp2_with fail
    (try simp only [Exit.inBlock, Exit.then])
    refine bodyPost_ret (results_row2 rfl _ _ w.heap.size _ _ (0, 0) _ rfl (stored HR.out) Tryd.underlying26 rfl (by kernel_rfl)) rfl ?_
    have HF : Below w.heap.size w _ := HBB.out.trans (below_of_grown (stored_grown (w1.alloc (.cells #[.int .i64 (kd : Int), .slice A1 kl (c - 16), .slice A2 vl (c - 16 - kl), .int .i64 (xp : Int)] 26)) w.heap.size (.int .i64 (kd : Int)) (.slice A1 kl (c - 16)) (.slice A2 vl (c - 16 - kl)) (.int .i64 (xp : Int))) (Nat.le_refl _) HBB.out.size)
    have HFD := below_drawn HF 1
    exact ⟨_, _, _, _, rfl, HS1.out, HS2.out, HW1.out.below HFD hB, HW2.out.below HFD hB, HFD⟩
end Go.Proofs.YtciaiaacboodeaaDoor
