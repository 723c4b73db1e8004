/-
  The texts RecWords, RecPut, RecConcat, RecEncode, RecParse, RecParse2, BytesEq, RecDecode, RecUse, RecAwake of this proof, one behind the other.
-/
import Derived.Test.YtgnbmmceffolmaaGreatDoorRows
import Derived.Test.YtgnbmmceffolmaaGreatDoorFoldA
import Derived.Deep.RegionHeld3
import Derived.BigQuiet
import Derived.Lib.AppendZerosOnto
import Derived.Deep.AppendLies
import Derived.Laws.ResultCell
import Derived.BigRegion
import Derived.RegionTactic
import Derived.Laws.BytesArg
import Derived.Laws.BytesString
import Derived.Lib.Bytes
import Derived.WalkKit
import Derived.WalkSpells
import Derived.WalkLawsBesides
import Derived.Lib.Hide
import Derived.Laws.Rows
import Derived.ArgAppend
import Derived.Laws.OwnMore
import Derived.Lib.SlBytesConst
section
namespace Go.Proofs.YtgnbmmceffolmaaGreatDoor
open Go.RowKit

theorem well_any (kd : Int) (A : Option Addr) (n c : Nat) (A' : Option Addr) (n' c' : Nat) (x : Int) (w : World) :
    Calls Tryz.prog 116 #[.agg #[.int .i64 kd, .slice A n c, .slice A' n' c', .int .i64 x]] w fun e w' => e = .returned (.bool (decide (Rc.well kd n n' x))) ∧ Below w.heap.size w w' := by
  go_enter Tryz.func116, Tryz.ntmps116
  go_wp2
  all_goals
    go_ret
    refine ⟨ret_bool ?_, (Below.refl _ _).alloc (Nat.le_refl _) _⟩
    simp only [beq_iff_eq, beq_eq_false_iff_ne] at *
    rw [Bool.eq_iff_iff, decide_eq_true_iff]
    unfold Rc.well
    try simp only [beq_iff_eq, true_iff, Bool.false_eq_true, false_iff]
    omega
theorem maxexp_any (v : Int) (w : World) :
    Calls Tryz.prog 117 #[.int .i64 v] w fun e w' => e = .returned (.int .i64 (Rc.most v)) ∧ w = w' := by
  by_cases h : v = 1
  · subst h
    go_enter Tryz.func117, Tryz.ntmps117
    go_wp2
    go_ret
    exact ⟨rfl, rfl⟩
  · have e : Hid (Rc.most v = 1099511627775) := if_neg h
    have h1 : (v == 1) = false := by simp; omega
    rw [e.out]
    clear h
    go_enter Tryz.func117, Tryz.ntmps117
    go_wp2
    go_ret
    exact ⟨rfl, rfl⟩
set_option maxHeartbeats 400000 in
theorem check_any (v kd : Int) (A : Option Addr) (n c : Nat) (A' : Option Addr) (n' c' : Nat) (x : Int) (w : World) :
    Calls Tryz.prog 99 #[.int .i64 v, .agg #[.int .i64 kd, .slice A n c, .slice A' n' c', .int .i64 x]] w fun e w' => e = .returned (.int .i64 (Rc.chk v kd n n' x)) ∧ Below w.heap.size w w' := by
  have HB : Hid (∀ o, Below w.heap.size w (w.alloc o)) := fun o => (Below.refl _ _).alloc (Nat.le_refl _) o
  by_cases hv : v = 1 ∨ v = 2
  · by_cases hw : Rc.well kd n n' x
    · have HW : Hid (∀ W, Calls Tryz.prog 116 #[.agg #[.int .i64 kd, .slice A n c, .slice A' n' c', .int .i64 x]] W fun e w' => e = .returned (.bool true) ∧ Below W.heap.size W w') := fun W => by
        have h := well_any kd A n c A' n' c' x W
        rwa [decide_eq_true hw] at h
      by_cases hk : kd ≠ 3 ∧ (n = 0 ∨ 255 < n)
      · have e : Hid (Rc.chk v kd n n' x = 5) := by
          show _ = _
          unfold Rc.chk
          rw [if_neg (by omega), if_neg (Decidable.not_not.2 hw), if_pos hk]
        rw [e.out]
        have hk3 : (kd != 3) = true := by rw [bne_iff_ne]; exact hk.1
        rcases hk.2 with rfl | h255
        all_goals
          clear hk hw
          rcases hv with rfl | rfl
        all_goals
          go_enter Tryz.func99, Tryz.ntmps99
          go_wp2_with fail
          refine (HW.out _).mono ?_
          rintro e w1 ⟨rfl, hb⟩
          obtain ⟨c0, c1, c2, c3⟩ := four_cells (boxed hb)
          have HB1 := Lib.hid hb; clear hb
          go_wp2
          go_ret
          exact ⟨rfl, (HB.out _).trans (HB1.out.mono (HB.out _).size)⟩
      · have hk' : (kd = 3) ∨ ((kd != 3) = true ∧ ((n : Int) == 0) = false ∧ decide ((255 : Int) < (n : Int)) = false) := by
          by_cases h3 : kd = 3
          · exact .inl h3
          · exact .inr ⟨by rw [bne_iff_ne]; exact h3, by simp; omega, by simp; omega⟩
        have e : Rc.chk v kd n n' x = if 65536 < n' then 6 else if x < 0 ∨ Rc.most v < x then 7 else 0 := by
          unfold Rc.chk
          rw [if_neg (by omega), if_neg (Decidable.not_not.2 hw), if_neg hk]
        have he : (65536 < n' ∧ Hid (Rc.chk v kd n n' x = 6)) ∨ (n' ≤ 65536 ∧ ((decide (x < 0) = true ∧ Hid (Rc.chk v kd n n' x = 7)) ∨ (decide (x < 0) = false ∧ decide (Rc.most v < x) = true ∧ Hid (Rc.chk v kd n n' x = 7)) ∨ (decide (x < 0) = false ∧ decide (Rc.most v < x) = false ∧ Hid (Rc.chk v kd n n' x = 0)))) := by
          by_cases h1 : 65536 < n'
          · exact .inl ⟨h1, by show _ = _; rw [e, if_pos h1]⟩
          · refine .inr ⟨by omega, ?_⟩
            by_cases h2 : x < 0
            · exact .inl ⟨by simpa using h2, by show _ = _; rw [e, if_neg h1, if_pos (.inl h2)]⟩
            · by_cases h3 : Rc.most v < x
              · exact .inr (.inl ⟨by simp; omega, by simpa using h3, by show _ = _; rw [e, if_neg h1, if_pos (.inr h3)]⟩)
              · exact .inr (.inr ⟨by simp; omega, by simp; omega, by show _ = _; rw [e, if_neg h1, if_neg (by omega)]⟩)
        clear e hk hw
        rcases he with ⟨h1, e⟩ | ⟨h1, ⟨h2, e⟩ | ⟨h2, h3, e⟩ | ⟨h2, h3, e⟩⟩
        all_goals
          rw [e.out]
          rcases hk' with rfl | ⟨k1, k2, k3⟩
        all_goals
          rcases hv with rfl | rfl
        all_goals
          go_enter Tryz.func99, Tryz.ntmps99
          go_wp2_with fail
          refine (HW.out _).mono ?_
          rintro e w1 ⟨rfl, hb⟩
          obtain ⟨c0, c1, c2, c3⟩ := four_cells (boxed hb)
          have HB1 := Lib.hid hb; clear hb
          try go_wp2_with fail
          try (go_quiet (first | (go_at_call 117; refine Calls.quiet_of_same ((maxexp_any _ _).mono fun _ _ h => ⟨h.1, h.2.symm⟩))); go_wp2)
          go_ret
          first
            | exact ⟨rfl, (HB.out _).trans (HB1.out.mono (HB.out _).size)⟩
            | exact ⟨rfl, below_drawn ((HB.out _).trans (HB1.out.mono (HB.out _).size)) _⟩
    · have e : Hid (Rc.chk v kd n n' x = 4) := by
        show _ = _
        unfold Rc.chk
        rw [if_neg (by omega), if_pos hw]
      have hd : decide (Rc.well kd n n' x) = false := decide_eq_false hw
      rw [e.out]
      have HW := fun W => Lib.hid (well_any kd A n c A' n' c' x W)
      rw [hd] at HW
      rcases hv with rfl | rfl
      all_goals
        go_enter Tryz.func99, Tryz.ntmps99
        go_wp2_with fail
        refine (HW _).out.mono ?_
        rintro e w1 ⟨rfl, hb⟩
        go_wp2
        go_ret
        exact ⟨rfl, (HB.out _).trans (hb.mono (HB.out _).size)⟩
  · have h1 : (v != 1) = true := by rw [bne_iff_ne]; omega
    have h2 : (v != 2) = true := by rw [bne_iff_ne]; omega
    have e : Hid (Rc.chk v kd n n' x = 2) := by
      show _ = _
      unfold Rc.chk
      rw [if_pos (by omega)]
    rw [e.out]
    clear hv
    go_enter Tryz.func99, Tryz.ntmps99
    go_wp2
    go_ret
    exact ⟨rfl, HB.out _⟩
end Go.Proofs.YtgnbmmceffolmaaGreatDoor
end
section
namespace Go.Proofs.YtgnbmmceffolmaaGreatDoor
open Go.RowKit

/-- Fields as cells: two numbers each. -/
def fcells (fs : List (Nat × Nat)) : List Value := fs.flatMap fun f => [.int .i64 (f.1 : Int), .int .i64 (f.2 : Int)]
/-- A block of fields. -/
def Fds (w : World) (g : Nat) (fs : List (Nat × Nat)) : Prop := w.heap[g]? = some (.cells (fcells fs).toArray 145 (0, 0))
theorem fcells_at (fs : List (Nat × Nat)) (k : Nat) (hk : k < fs.length) : (fcells fs)[2 * k]? = some (.int .i64 ((fs.getD k (0, 0)).1 : Int)) ∧ (fcells fs)[2 * k + 1]? = some (.int .i64 ((fs.getD k (0, 0)).2 : Int)) := by
  induction fs generalizing k with
  | nil => simp at hk
  | cons f fs ih =>
    have e : fcells (f :: fs) = .int .i64 (f.1 : Int) :: .int .i64 (f.2 : Int) :: fcells fs := by unfold fcells; rw [List.flatMap_cons]; rfl
    rw [e]
    cases k with
    | zero => exact ⟨rfl, rfl⟩
    | succ k =>
      have h := ih k (by simpa using hk)
      rw [show 2 * (k + 1) = 2 * k + 1 + 1 by omega]
      exact h
theorem Fds.cells {w : World} {g : Nat} {fs : List (Nat × Nat)} (h : Fds w g fs) (k : Nat) (hk : k < fs.length) :
    w.cell? ⟨g, k * 2, none⟩ = some (.int .i64 ((fs.getD k (0, 0)).1 : Int)) ∧ w.cell? ⟨g, k * 2 + 1, none⟩ = some (.int .i64 ((fs.getD k (0, 0)).2 : Int)) := by
  obtain ⟨h1, h2⟩ := fcells_at fs k hk
  refine ⟨?_, ?_⟩
  · rw [cell_of_row w g _ _ _ (0, 0) h]
    rw [List.getElem?_toArray, Nat.mul_comm]; exact h1
  · rw [cell_of_row w g _ _ _ (0, 0) h]
    rw [List.getElem?_toArray, Nat.mul_comm]; exact h2
theorem fields1_any (kd xp : Nat) (A : Option Addr) (n c : Nat) (A' : Option Addr) (n' c' : Nat) (w : World) :
    Calls Tryz.prog 101 #[.int .i64 1, .agg #[.int .i64 (kd : Int), .slice A n c, .slice A' n' c', .int .i64 (xp : Int)]] w fun e w' => ∃ g, e = .returned (.slice (some ⟨g, 0, none⟩) 6 6) ∧ Fds w' g [(161, 1), (kd, 1), (n, 1), (0, 1), (n', 4), (xp, 4)] ∧ w.heap.size ≤ g ∧ g < w'.heap.size ∧ Below w.heap.size w w' := by
  go_enter Tryz.func101, Tryz.ntmps101
  go_wp2
  go_quiet (fail)
  go_wp2
  go_ret
  refine ⟨_, rfl, ?_, ?_, ?_, ?_⟩
  · show _ = _
    refine (alloc_at (by simp)).trans ?_
    rfl
  · simp
  · simp
  · exact (below_drawn ((Below.refl _ _).alloc (Nat.le_refl _) _) _).alloc (by simp) _
theorem fields2_any (kd xp : Nat) (hk : kd ≤ 3) (A : Option Addr) (n c : Nat) (A' : Option Addr) (n' c' : Nat) (w : World) :
    Calls Tryz.prog 101 #[.int .i64 2, .agg #[.int .i64 (kd : Int), .slice A n c, .slice A' n' c', .int .i64 (xp : Int)]] w fun e w' => ∃ g, e = .returned (.slice (some ⟨g, 0, none⟩) 6 6) ∧ Fds w' g [(162, 1), (n, 1), (16 * kd, 1), (n', 3), (0, 1), (xp, 5)] ∧ w.heap.size ≤ g ∧ g < w'.heap.size ∧ Below w.heap.size w w' := by
  go_enter Tryz.func101, Tryz.ntmps101
  go_wp2
  go_quiet (fail)
  go_wp2
  go_ret
  refine ⟨_, rfl, ?_, ?_, ?_, ?_⟩
  · show _ = _
    refine (alloc_at (by simp)).trans ?_
    simp [fcells]
  · simp
  · simp
  · exact (below_drawn ((Below.refl _ _).alloc (Nat.le_refl _) _) _).alloc (by simp) _
theorem flat_snoc (fs : List (Nat × Nat)) (k : Nat) (hk : k < fs.length) : Rc.flat (fs.take (k + 1)) = Rc.flat (fs.take k) ++ Wire.be (fs.getD k (0, 0)).2 (fs.getD k (0, 0)).1 := by
  rw [List.take_succ_eq_append_getElem hk, Rc.flat_append, Rc.flat_cons, Rc.flat_nil, List.append_nil, List.getD_eq_getElem?_getD, List.getElem?_eq_getElem hk]; rfl
theorem flat_short (fs : List (Nat × Nat)) (h : ∀ f ∈ fs, f.2 ≤ 8) : (Rc.flat fs).length ≤ 8 * fs.length := by
  induction fs with
  | nil => simp [Rc.flat]
  | cons f fs ih =>
    rw [Rc.flat_cons, List.length_append, Wire.be_length, List.length_cons]
    have h1 := ih fun x hx => h x (List.mem_cons_of_mem _ hx)
    have h2 := h f (List.mem_cons_self ..)
    omega
theorem put_any (g : Nat) (fs : List (Nat × Nat)) (n c : Nat) (w : World) (hf : Hid (Fds w g fs)) (hn : Hid (fs.length = n)) (hg : g < w.heap.size) (hw : Hid (∀ f ∈ fs, 1 ≤ f.2 ∧ f.2 ≤ 8 ∧ f.1 < 9223372036854775808)) (h100 : n ≤ 100) (hc : n ≤ c) (hcm : c ≤ 9223372036854775807) :
    Calls Tryz.prog 100 #[.slice (some ⟨g, 0, none⟩) n c] w (DidPut w (Rc.flat fs)) := by
  go_enter Tryz.func100, Tryz.ntmps100
  go_wp2
  go_loopw [3, 5, 8] (fun bv _ iv wr => ∃ k : Nat, k ≤ n ∧ iv = .int .i64 (k : Int) ∧ Hid (wr.ownsRow w.heap.size 5 1 bv (Rc.flat (fs.take k)).length (vals (Rc.flat (fs.take k)))) ∧ Hid (Below w.heap.size w wr)) (fun _ _ i _ => n - (intOf i).toNat)
  case atStart => exact ⟨0, Nat.zero_le _, rfl, World.ownsRow_nil _ _ _ _, Below.refl _ _⟩
  case round =>
    obtain ⟨k, hk, rfl, hown, hbel⟩ := hrel
    by_cases hlt : k < n
    · obtain ⟨A1, c1, rfl, hbs, hlen, hnc, hcm1, hA1⟩ := own_bytes hown.out (Rc.flat_lt _)
      have hfr : Fds wr g fs := (hbel.out.block g hg).trans hf.out
      obtain ⟨z0, z1⟩ := hfr.cells k (by rw [hn.out]; exact hlt)
      have hmem : fs.getD k (0, 0) ∈ fs := by
        rw [List.getD_eq_getElem?_getD, List.getElem?_eq_getElem (by rw [hn.out]; exact hlt)]
        exact List.getElem_mem _
      obtain ⟨hm1, hm8, hN⟩ := hw.out _ hmem
      have HS := Lib.hid (flat_snoc fs k (by rw [hn.out]; exact hlt))
      generalize (fs.getD k (0, 0)).1 = N at *
      generalize (fs.getD k (0, 0)).2 = m at *
      have HR : Hid (∀ o, Bs (wr.alloc o) (wr.alloc o).heap.size A1 (Rc.flat (fs.take k)) ∧ Below w.heap.size w (wr.alloc o)) := fun o =>
        ⟨(hbs.below ((Below.refl _ wr).alloc (Nat.le_refl _) o) (Nat.le_refl _)).more ((Below.refl _ wr).alloc (Nat.le_refl _) o).size, hbel.out.alloc hbel.out.size o⟩
      have HA : Hid (A1 = none → c1 = 0 ∧ (Rc.flat (fs.take k)).length = 0) := fun e => by
        rcases hA1 with ⟨_, h1, h2⟩ | ⟨g1, h1, _⟩
        · exact ⟨h2, h1⟩
        · rw [h1] at e; cases e
      have HLn : Hid ((Rc.flat (fs.take k)).length ≤ 70368744177664) := by
        have := flat_short (fs.take k) (fun f hf => (hw.out f (List.mem_of_mem_take hf)).2.1)
        rw [List.length_take] at this
        show _ ≤ _
        omega
      generalize hp : Rc.flat (fs.take k) = p at *
      have HP := Lib.hid hp
      clear hp hbs hown hA1 hlen hnc hcm1 hmem
      go_wp2_with fail
      refine (put_ok A1 _ _ c1 p N m _ rfl _ HA.out rfl HLn.out (Lib.hid (HR.out _).1) hm1 hm8).mono ?_
      rintro e w2 ⟨v, rfl, hown2, hb2⟩
      have HB2 : Hid (Below w.heap.size w w2) := (HR.out _).2.trans (hb2.mono (HR.out _).2.size)
      have HO2 := Lib.hid (ownsRow_mono hown2 (HR.out _).2.size)
      clear hown2 hb2
      go_wp2
      go_roundw
      case rel =>
        refine ⟨k + 1, by omega, by go_num, ?_, HB2⟩
        rw [HS.out]
        exact HO2
      case measure => simp [intOf]; omega
    · go_wp2
      go_ret
      rw [List.take_of_length_le (by rw [hn.out]; omega)] at hown
      exact ⟨_, rfl, hown.out, hbel.out⟩
/-- Parts in memory: slices of bytes, each of which is read below block B. -/
def Parts (w : World) (B g : Nat) (ps : List (List Nat)) : Prop := ∀ k, k < ps.length → ∃ A n c, w.cell? ⟨g, k, none⟩ = some (.slice A n c) ∧ SlIs A n c ∧ (ps.getD k []).length = n ∧ Bs w B A (ps.getD k [])
theorem Parts.below {w w' : World} {B C g : Nat} {ps : List (List Nat)} (h : Parts w B g ps) (hb : Below C w w') (hB : B ≤ C) (hg : g < C) : Parts w' B g ps := fun k hk => by
  obtain ⟨A, n, c, h1, h2, h3, h4⟩ := h k hk
  exact ⟨A, n, c, (hb.cell (p := ⟨g, k, none⟩) hg).trans h1, h2, h3, h4.below hb hB⟩
theorem upd_snoc (ps : List (List Nat)) (k : Nat) (hk : k < ps.length) : Crc.upd 0#32 (ps.take (k + 1)).flatten = Crc.upd (Crc.upd 0#32 (ps.take k).flatten) (ps.getD k []) := by
  rw [List.take_succ_eq_append_getElem hk, List.flatten_append, Crc.upd_append, List.getD_eq_getElem?_getD, List.getElem?_eq_getElem hk]
  simp
theorem checksum_any (g B : Nat) (ps : List (List Nat)) (n c : Nat) (w : World) (hp : Hid (Parts w B g ps)) (hn : Hid (ps.length = n)) (hc : n ≤ c) (hcm : c ≤ 9223372036854775807) (ht : Hid (TabW w)) :
    Calls Tryz.prog 102 #[.slice (some ⟨g, 0, none⟩) n c] w fun e w' => e = .returned (.int .u32 (Crc.U (Crc.upd 0#32 ps.flatten) : Int)) ∧ w = w' := by
  have h0 : Hid (((Crc.U (Crc.upd 0#32 ([] : List Nat)) : Nat) : Int) = 0) := by
    show _ = _
    rw [Crc.upd_nil]; rfl
  go_enter Tryz.func102, Tryz.ntmps102
  go_wp2
  go_loop [3, 5, 8] (fun sv _ iv => ∃ k : Nat, k ≤ n ∧ iv = .int .i64 (k : Int) ∧ sv = .int .u32 (Crc.U (Crc.upd 0#32 (ps.take k).flatten) : Int)) (fun _ _ i => n - (intOf i).toNat)
  case atStart => exact ⟨0, Nat.zero_le _, rfl, congrArg (Value.int IntKind.u32) h0.out.symm⟩
  case round =>
    obtain ⟨k, hk, rfl, rfl⟩ := hrel
    by_cases hlt : k < n
    · obtain ⟨A, m, c', z, hs, hl, hb⟩ := hp.out k (by rw [hn.out]; exact hlt)
      have HS := Lib.hid (upd_snoc ps k (by rw [hn.out]; exact hlt))
      generalize ps.getD k [] = p at hl hb HS
      have HL := Lib.hid hl
      have HB := Lib.hid hb
      have HM : m ≤ 9223372036854775807 := by have := hs.2; omega
      clear hl hb hs
      generalize hq : Crc.upd 0#32 (ps.take k).flatten = q at HS
      have HQ := Lib.hid hq; clear hq
      go_wp2_with fail
      refine (update_any _ q rfl A B c' m p _ HL HM HB ht).mono ?_
      rintro e w' ⟨rfl, rfl⟩
      go_wp2
      go_round
      case rel => exact ⟨k + 1, by omega, by go_num, by rw [HS.out]⟩
      case measure => simp [intOf]; omega
    · go_wp2
      go_ret
      refine ⟨?_, rfl⟩
      rw [List.take_of_length_le (by rw [hn.out]; omega)]
      rfl
end Go.Proofs.YtgnbmmceffolmaaGreatDoor
end
section
namespace Go.Proofs.YtgnbmmceffolmaaGreatDoor
open Go.RowKit

theorem grow_nil (n : Nat) (w : World) (hn : n ≤ 70368744177664) :
    Calls Tryz.prog 119 #[.slice none 0 0, .int .i64 (n : Int)] w fun e w' => ∃ v, e = .returned v ∧ w'.ownsRow w.heap.size 5 1 v 0 [] ∧ Below w.heap.size w w' := by
  by_cases h0 : n = 0
  · subst h0
    go_enter Tryz.func119, Tryz.ntmps119
    go_wp2
    go_ret
    exact ⟨_, rfl, World.ownsRow_nil _ _ _ _, Below.refl _ _⟩
  · obtain ⟨i0, hi0, hz0, hz1, hz2⟩ := info_parts info_u8
    have hrz : ∀ ty, (Builtin.append_ #[27, 3] ty #[.slice none 0 0, .int .i64 (n : Int)]).run Tryz.prog w =
        .ok (.slice (some ⟨w.heap.size, 0, none⟩) n (grownCap w n 0 5)) (w.drew.alloc (.cells (#[] ++ Builtin.zeroCells #[.int .u8 0] n ++ Builtin.zeroCells #[.int .u8 0] (grownCap w n 0 5 - n)) 5)) := fun ty => by
      have h := Lib.run_append_grow_zeros w 27 3 ty 5 i0 (.int .u8 0) .i64 .i64 Tryz.underlying27 Tryz.underlying3 hi0 hz0 none 0 0 [] (run_firstCells_none w.drew i0.size 0 0 0) n (by omega) (by omega) (by omega) (by omega) (by rw [hz2]; omega)
        (growslice_fits (by omega) (by rw [hz2]; omega))
      simp only [Nat.zero_add] at h
      exact h
    have hGn : n ≤ grownCap w n 0 5 := grownCap_ge w _ _ _
    have hG63 : grownCap w n 0 5 ≤ maxLen := grownCap_le_maxLen w n 0 5 (by unfold maxLen; omega)
    generalize grownCap w n 0 5 = G at hrz hGn hG63
    have hown : Hid ((w.alloc (.cells (Builtin.zeroCells #[.int .u8 0] n ++ Builtin.zeroCells #[.int .u8 0] (G - n)) 5)).drew.ownsRow w.heap.size 5 1 (.slice (some ⟨w.heap.size, 0, none⟩) 0 G) 0 []) := by
      refine ⟨rfl, .inr ⟨w.heap.size, G, _, rfl, Nat.le_refl _, (heap_alloc_new w (.cells (Builtin.zeroCells #[.int .u8 0] n ++ Builtin.zeroCells #[.int .u8 0] (G - n)) 5) :), Nat.zero_le _, hG63, ?_, rfl⟩⟩
      rw [Array.size_append, size_zeroCells, size_zeroCells]
      simp
      omega
    have HG : Hid (G ≤ 9223372036854775807) := hG63
    have hGm := HG.out
    clear hi0 hz0 hz1 hz2 hG63
    go_enter Tryz.func119, Tryz.ntmps119
    go_wp2_with (at_builtin; refine Lib.wpList_append_run _ rfl _ _ _ _ rfl _ _ rfl rfl _ _ (hrz _) ?_)
    all_goals
      go_ret
      exact ⟨_, rfl, hown.out, below_drawn ((Below.refl _ _).alloc (Nat.le_refl _) _) 1⟩
theorem flatten_snoc (ps : List (List Nat)) (k : Nat) (hk : k < ps.length) : (ps.take (k + 1)).flatten = (ps.take k).flatten ++ ps.getD k [] := by
  rw [List.take_succ_eq_append_getElem hk, List.flatten_append, List.getD_eq_getElem?_getD, List.getElem?_eq_getElem hk]
  simp
theorem flatten_take_le (ps : List (List Nat)) (k : Nat) : (ps.take k).flatten.length ≤ ps.flatten.length := by
  have e : ps.flatten = (ps.take k).flatten ++ (ps.drop k).flatten := by rw [← List.flatten_append, List.take_append_drop]
  rw [e, List.length_append]; omega
set_option maxHeartbeats 1000000 in
theorem concat_any (g B : Nat) (ps : List (List Nat)) (n c : Nat) (w : World) (hp : Hid (Parts w B g ps)) (hg : g < w.heap.size) (hB : B ≤ w.heap.size) (hn : Hid (ps.length = n)) (h100 : n ≤ 100) (hc : n ≤ c) (hcm : c ≤ 9223372036854775807) (hs : Hid (ps.flatten.length ≤ 70368744177664)) :
    Calls Tryz.prog 103 #[.slice (some ⟨g, 0, none⟩) n c] w fun e w' => ∃ v, e = .returned v ∧ w'.ownsRow w.heap.size 5 1 v ps.flatten.length (vals ps.flatten) ∧ Below w.heap.size w w' := by
  obtain ⟨i0, hi0, hz0, hz1, hz2⟩ := info_parts info_u8
  have I0 := Lib.hid (And.intro hi0 (And.intro hz0 (And.intro hz1 hz2))); clear hi0 hz0 hz1 hz2
  have hlt : Hid (∀ k, k < n → ∀ x ∈ ps.getD k [], x < 256) := fun k hk => by
    obtain ⟨A, m, c', _, _, _, hb⟩ := hp.out k (by rw [hn.out]; exact hk)
    exact hb.lt
  go_enter Tryz.func103, Tryz.ntmps103
  go_wp2
  go_loop [3, 5, 11] (fun sv _ iv => ∃ k : Nat, k ≤ n ∧ iv = .int .i64 (k : Int) ∧ sv = .int .i64 (((ps.take k).flatten.length : Nat) : Int)) (fun _ _ i => n - (intOf i).toNat)
  case atStart => exact ⟨0, Nat.zero_le _, rfl, rfl⟩
  case round =>
    obtain ⟨k, hk, rfl, rfl⟩ := hrel
    by_cases hlt : k < n
    · obtain ⟨A, m, c', z, hs', hl, hb⟩ := hp.out k (by rw [hn.out]; exact hlt)
      have e1 := congrArg List.length (flatten_snoc ps k (by rw [hn.out]; exact hlt))
      rw [List.length_append, hl] at e1
      have e2 := flatten_take_le ps (k + 1)
      have e3 := hs.out
      have HE := Lib.hid e1
      clear hl hb hs'
      generalize (ps.take k).flatten.length = q at e1 HE
      have hq : q + m ≤ 70368744177664 := by omega
      clear e1 e2 e3
      have hd : decide (((q : Int) + (m : Int)) < 0) = false := by simp; omega
      go_wp2
      go_round
      case rel => exact ⟨k + 1, by omega, by go_num, by rw [HE.out]; rfl⟩
      case measure => simp [intOf]; omega
    · rw [List.take_of_length_le (by rw [hn.out]; omega)]
      have hs2 := hs.out
      have HX := Lib.hid (Eq.refl ps.flatten.length)
      generalize hq : ps.flatten.length = q at hs2
      have HQ := Lib.hid hq; clear hq HX
      go_wp2_with fail
      refine (grow_nil q _ hs2).mono ?_
      rintro e w1 ⟨v1, rfl, hown1, hb1⟩
      have HB1 := Lib.hid hb1
      have HO1 := Lib.hid hown1
      have HP1 := Lib.hid (hp.out.below hb1 hB hg)
      clear hown1 hb1
      go_wp2
      go_loopw [6, 8, 27] (fun bv _ iv wr => ∃ k : Nat, k ≤ n ∧ iv = .int .i64 (k : Int) ∧ Hid (wr.ownsRow w.heap.size 5 1 bv (ps.take k).flatten.length (vals (ps.take k).flatten)) ∧ Hid (Below w.heap.size w wr)) (fun _ _ i _ => n - (intOf i).toNat)
      case atStart => exact ⟨0, Nat.zero_le _, rfl, HO1, HB1⟩
      case round =>
        obtain ⟨k, hk, rfl, hown, hbel⟩ := hrel
        by_cases hlt : k < n
        · obtain ⟨A, m, c', z, hs', hl, hb⟩ := (hp.out.below hbel.out hB hg) k (by rw [hn.out]; exact hlt)
          have HFS := Lib.hid (flatten_snoc ps k (by rw [hn.out]; exact hlt))
          have e1 := congrArg List.length HFS.out
          rw [List.length_append, hl] at e1
          have e2 := flatten_take_le ps (k + 1)
          have e3 := hs.out
          have HL := Lib.hid hl
          have HBs := Lib.hid hb
          have HA : Hid (A = none → m = 0 ∧ c' = 0) := fun e => ⟨(hs'.1 e).2, (hs'.1 e).1⟩
          clear hl hb hs'
          generalize hp1 : ps.getD k [] = p at *
          generalize hf1 : (ps.take k).flatten = f at *
          have HP1 := Lib.hid hp1
          have HF1 := Lib.hid hf1
          clear hp1 hf1
          have b1 : Hid (f.length + m ≤ maxLen ∧ (f.length + m) * 1 ≤ 140737488355328 ∧ (vals p).length = m * 1) := ⟨by unfold maxLen; omega, by omega, by rw [vals_length, HL.out]; omega⟩
          clear e1 e2 e3
          go_wp2_with (at_builtin; refine append_onto rfl (.tmp 31) (.tmp 32) 27 rfl w.heap.size 5 i0 (.int .u8 0) 1 1 Tryz.underlying27 I0.out.1 I0.out.2.1 I0.out.2.2.1 I0.out.2.2.2 rfl (by decide) _ f.length (vals f) rfl hown.out A m c' (vals p) rfl HA.out b1.out.2.2 (fun ad e => by have h := HBs.out; rw [e] at h; exact h.cells) (vals_one _) b1.out.1 b1.out.2.1 hbel.out.size ?_; intro v2 w2 hown2 hg2; rw [← vals_append] at hown2)
          go_roundw
          case rel =>
            refine ⟨k + 1, by omega, by go_num, ?_, ?_⟩
            · show World.ownsRow _ _ _ _ _ _ _
              rw [HFS.out, List.length_append, HL.out]
              exact hown2
            · exact hbel.out.grown hg2 hbel.out.size (fun g e => (hown.out.lt g e).1)
          case measure => simp [intOf]; omega
        · go_wp2
          go_ret
          rw [List.take_of_length_le (by rw [hn.out]; omega)] at hown
          exact ⟨_, rfl, hown.out, hbel.out⟩
end Go.Proofs.YtgnbmmceffolmaaGreatDoor
end
section
namespace Go.Proofs.YtgnbmmceffolmaaGreatDoor
open Go.RowKit

theorem fields_any (v kd x : Int) (key val : List Nat) (A : Option Addr) (n c : Nat) (A' : Option Addr) (n' c' : Nat) (w : World) (h : Rc.check v ⟨kd, key, val, x⟩ = 0) (hn : key.length = n) (hn' : val.length = n') :
    Calls Tryz.prog 101 #[.int .i64 v, .agg #[.int .i64 kd, .slice A n c, .slice A' n' c', .int .i64 x]] w fun e w' => ∃ g, e = .returned (.slice (some ⟨g, 0, none⟩) 6 6) ∧ Fds w' g (Rc.fields v ⟨kd, key, val, x⟩) ∧ w.heap.size ≤ g ∧ g < w'.heap.size ∧ Below w.heap.size w w' := by
  obtain ⟨hv, _, h255, hm, hx, hxm, hk1, hk3⟩ := Rc.chk_ok h
  subst hn hn'
  obtain ⟨k, rfl⟩ : ∃ k : Nat, kd = (k : Int) := ⟨kd.toNat, by show kd = _; simp only at hk1; omega⟩
  obtain ⟨y, rfl⟩ : ∃ y : Nat, x = (y : Int) := ⟨x.toNat, by show x = _; simp only at hx; omega⟩
  rcases hv with rfl | rfl
  · exact fields1_any k y A _ c A' _ c' w
  · exact fields2_any k y (by simp only at hk3; omega) A _ c A' _ c' w
theorem fields_len (v : Int) (r : Rc.Rec) : (Rc.fields v r).length = 6 := by unfold Rc.fields; split <;> rfl
theorem fields_fit (v : Int) (r : Rc.Rec) (h : Rc.check v r = 0) : ∀ f ∈ Rc.fields v r, 1 ≤ f.2 ∧ f.2 ≤ 8 ∧ f.1 < 9223372036854775808 := by
  obtain ⟨hv, _, h255, hm, hx, hxm, hk1, hk3⟩ := Rc.chk_ok h
  have hml := Rc.most_le v
  intro f hf
  unfold Rc.fields at hf
  rcases hv with rfl | rfl
  · rw [if_pos rfl] at hf
    simp only [List.mem_cons, List.not_mem_nil, or_false] at hf
    rcases hf with rfl | rfl | rfl | rfl | rfl | rfl <;> simp only <;> omega
  · rw [if_neg (by decide)] at hf
    simp only [List.mem_cons, List.not_mem_nil, or_false] at hf
    rcases hf with rfl | rfl | rfl | rfl | rfl | rfl <;> simp only <;> omega
/-- Four slices laid as a row of parts. -/
theorem parts4 {w : World} {B : Nat} {t : TypeId} {A1 A2 A3 A4 : Option Addr} {n1 n2 n3 n4 c1 c2 c3 c4 : Nat} {p1 p2 p3 p4 : List Nat} (hB : B ≤ w.heap.size)
    (h1 : SlIs A1 n1 c1 ∧ p1.length = n1 ∧ Bs w B A1 p1) (h2 : SlIs A2 n2 c2 ∧ p2.length = n2 ∧ Bs w B A2 p2) (h3 : SlIs A3 n3 c3 ∧ p3.length = n3 ∧ Bs w B A3 p3) (h4 : SlIs A4 n4 c4 ∧ p4.length = n4 ∧ Bs w B A4 p4) :
    Parts (w.alloc (.cells #[.slice A1 n1 c1, .slice A2 n2 c2, .slice A3 n3 c3, .slice A4 n4 c4] t)) B w.heap.size [p1, p2, p3, p4] := by
  have hb : Below B w (w.alloc (.cells #[.slice A1 n1 c1, .slice A2 n2 c2, .slice A3 n3 c3, .slice A4 n4 c4] t)) := ((Below.refl _ w).alloc (Nat.le_refl _) _).mono hB
  obtain ⟨z0, z1, z2, z3⟩ := four_cells (heap_alloc_new w (.cells #[.slice A1 n1 c1, .slice A2 n2 c2, .slice A3 n3 c3, .slice A4 n4 c4] t))
  intro k hk
  have hk4 : k < 4 := hk
  obtain rfl | rfl | rfl | rfl : k = 0 ∨ k = 1 ∨ k = 2 ∨ k = 3 := by omega
  · exact ⟨A1, n1, c1, z0, h1.1, h1.2.1, h1.2.2.below hb (Nat.le_refl _)⟩
  · exact ⟨A2, n2, c2, z1, h2.1, h2.2.1, h2.2.2.below hb (Nat.le_refl _)⟩
  · exact ⟨A3, n3, c3, z2, h3.1, h3.2.1, h3.2.2.below hb (Nat.le_refl _)⟩
  · exact ⟨A4, n4, c4, z3, h4.1, h4.2.1, h4.2.2.below hb (Nat.le_refl _)⟩
theorem encode_bad (v seq off kd x : Int) (A : Option Addr) (n c : Nat) (A' : Option Addr) (n' c' : Nat) (w : World) (h : Rc.chk v kd n n' x ≠ 0 ∨ ¬ Rc.place seq off) :
    Calls Tryz.prog 68 #[.int .i64 v, .int .i64 seq, .int .i64 off, .agg #[.int .i64 kd, .slice A n c, .slice A' n' c', .int .i64 x]] w fun e w' => e = .returned (.tuple #[.slice none 0 0, .int .i64 (if Rc.chk v kd n n' x ≠ 0 then Rc.chk v kd n n' x else 2)]) ∧ Below w.heap.size w w' := by
  have HB : Hid (∀ o, Below w.heap.size w (w.alloc o)) := fun o => (Below.refl _ _).alloc (Nat.le_refl _) o
  have HC := fun W => Lib.hid (check_any v kd A n c A' n' c' x W)
  by_cases he : Rc.chk v kd n n' x = 0
  · rw [if_neg (by rw [he]; decide)]
    rw [he] at HC
    have hp : ¬ Rc.place seq off := by
      rcases h with h | h
      · exact absurd he h
      · exact h
    have hp' : decide (seq < 0) = true ∨ (decide (seq < 0) = false ∧ (decide (off < 0) = true ∨ (decide (off < 0) = false ∧ decide (2147483647 < off) = true))) := by
      unfold Rc.place at hp
      simp
      omega
    clear he h hp
    rcases hp' with f1 | ⟨f1, f2 | ⟨f2, f3⟩⟩
    all_goals
      go_enter Tryz.func68, Tryz.ntmps68
      go_wp2_with fail
      refine (HC _).out.mono ?_
      rintro e w1 ⟨rfl, hb⟩
      have HB1 := Lib.hid hb; clear hb
      go_wp2
      go_ret2
      exact ⟨rfl, (HB.out _).trans (HB1.out.mono (HB.out _).size)⟩
  · rw [if_pos he]
    have f1 : (Rc.chk v kd n n' x != 0) = true := by rw [bne_iff_ne]; exact he
    generalize Rc.chk v kd n n' x = q at HC f1
    clear he h
    go_enter Tryz.func68, Tryz.ntmps68
    go_wp2_with fail
    refine (HC _).out.mono ?_
    rintro e w1 ⟨rfl, hb⟩
    have HB1 := Lib.hid hb; clear hb
    go_wp2
    go_ret2
    exact ⟨rfl, (HB.out _).trans (HB1.out.mono (HB.out _).size)⟩
/-- What Encode leaves: the record's bytes, in a row of its own. -/
def Encoded (w : World) (l : List Nat) (e : Ending) (w' : World) : Prop :=
  ∃ v, e = .returned (.tuple #[v, .int .i64 0]) ∧ w'.ownsRow w.heap.size 5 1 v l.length (vals l) ∧ Below w.heap.size w w'
/-- A call behind a new block, in a world that has the memory of another. -/
theorem step_alloc {w3 W W5 : World} {o : Obj} (e1 : W.heap = (w3.alloc o).heap) (e2 : W.os = w3.os) (e3 : W.tape = w3.tape) (e4 : W.output = w3.output) (hb : Below W.heap.size W W5) : Below w3.heap.size w3 W5 := by
  have hs : W.heap.size = w3.heap.size + 1 := by
    rw [e1]
    show (w3.heap.push o).size = _
    rw [Array.size_push]
  refine ⟨hb.os.trans e2, hb.tape.trans e3, hb.output.trans e4, by have := hb.size; omega, fun b hlt => ?_⟩
  rw [hb.block b (by omega), e1, heap_alloc_old w3 o hlt]
theorem put_at (w3 : World) (fs : List (Nat × Nat)) (n : Nat) (cs : Array Value) (hcs : cs = (fcells fs).toArray) (hn : fs.length = n) (hfit : ∀ f ∈ fs, 1 ≤ f.2 ∧ f.2 ≤ 8 ∧ f.1 < 9223372036854775808) (h100 : n ≤ 100) (W : World)
    (e1 : W.heap = (w3.alloc (.cells cs 145)).heap) (e2 : W.os = w3.os) (e3 : W.tape = w3.tape) (e4 : W.output = w3.output) :
    Calls Tryz.prog 100 #[.slice (some ⟨w3.heap.size, 0, none⟩) n n] W fun e w5 => ∃ A5 k5, e = .returned (.slice A5 (Rc.flat fs).length k5) ∧ (SlIs A5 (Rc.flat fs).length k5 ∧ (Rc.flat fs).length = (Rc.flat fs).length ∧ Bs w5 w5.heap.size A5 (Rc.flat fs)) ∧ Below w3.heap.size w3 w5 := by
  have hf : Fds W w3.heap.size fs := by
    show _ = _
    rw [e1, heap_alloc_new w3 _, hcs]
  refine (put_any w3.heap.size fs n n W hf hn (Array.getElem?_eq_some_iff.1 hf).1 hfit h100 (Nat.le_refl _) (by omega)).mono ?_
  rintro e w5 ⟨v, rfl, hown, hb⟩
  obtain ⟨A5, k5, rfl, hbs, hl, hn5, hm5, ho5⟩ := own_bytes hown (Rc.flat_lt _)
  exact ⟨A5, k5, rfl, ⟨sl_own hn5 hm5 ho5, rfl, hbs⟩, step_alloc e1 e2 e3 e4 hb⟩
theorem Parts.heap {w w' : World} {B g : Nat} {ps : List (List Nat)} (h : Parts w B g ps) (e : w'.heap = w.heap) : Parts w' B g ps := fun k hk => by
  obtain ⟨A, n, c, h1, h2, h3, h4⟩ := h k hk
  refine ⟨A, n, c, (World.cell?_of_block (by rw [e])).trans h1, h2, h3, fun j hj => ?_⟩
  obtain ⟨a1, ad, a2, a3, a4⟩ := h4 j hj
  exact ⟨a1, ad, a2, a3, (World.cell?_of_block (by rw [e])).trans a4⟩
theorem checksum_at (w5 : World) (B : Nat) (ps : List (List Nat)) (n : Nat) (o : Obj) (hp : Parts (w5.alloc o) B w5.heap.size ps) (hn : ps.length = n) (h100 : n ≤ 100) (ht : TabW w5) (hz : 0 < w5.heap.size) (W : World)
    (e1 : W.heap = (w5.alloc o).heap) (e2 : W.os = w5.os) (e3 : W.tape = w5.tape) (e4 : W.output = w5.output) :
    Calls Tryz.prog 102 #[.slice (some ⟨w5.heap.size, 0, none⟩) n n] W fun e w6 => e = .returned (.int .u32 (Crc.U (Crc.upd 0#32 ps.flatten) : Int)) ∧ Below w5.heap.size w5 w6 := by
  have ht' : TabW W := fun k hk => (World.cell?_of_block (by rw [e1])).trans (tab_alloc ht hz o k hk)
  refine (checksum_any w5.heap.size B ps n n W (hp.heap e1) hn (Nat.le_refl _) (by omega) ht').mono ?_
  rintro e w6 ⟨rfl, rfl⟩
  exact ⟨rfl, step_alloc e1 e2 e3 e4 (Below.refl _ _)⟩
theorem concat_at (w5 : World) (B : Nat) (ps : List (List Nat)) (n : Nat) (o : Obj) (hp : Parts (w5.alloc o) B w5.heap.size ps) (hB : B ≤ w5.heap.size) (hn : ps.length = n) (h100 : n ≤ 100) (hs : ps.flatten.length ≤ 70368744177664) (W : World)
    (e1 : W.heap = (w5.alloc o).heap) (e2 : W.os = w5.os) (e3 : W.tape = w5.tape) (e4 : W.output = w5.output) :
    Calls Tryz.prog 103 #[.slice (some ⟨w5.heap.size, 0, none⟩) n n] W fun e w6 => ∃ v, e = .returned v ∧ w6.ownsRow w5.heap.size 5 1 v ps.flatten.length (vals ps.flatten) ∧ Below w5.heap.size w5 w6 := by
  have hsz : W.heap.size = w5.heap.size + 1 := by
    rw [e1]
    show (w5.heap.push o).size = _
    rw [Array.size_push]
  refine (concat_any w5.heap.size B ps n n W (hp.heap e1) (by omega) (by omega) hn h100 (Nat.le_refl _) (by omega) hs).mono ?_
  rintro e w6 ⟨v, rfl, hown, hb⟩
  exact ⟨v, rfl, ownsRow_mono hown (by omega), step_alloc e1 e2 e3 e4 hb⟩
set_option maxHeartbeats 1000000 in
theorem encode_ok (v seq off kd x : Int) (key val : List Nat) (A : Option Addr) (B n c : Nat) (A' : Option Addr) (n' c' : Nat) (w : World) (h : Rc.check v ⟨kd, key, val, x⟩ = 0) (hp : Rc.place seq off) (hB : B ≤ w.heap.size) (hsq : seq ≤ 9223372036854775807)
    (hk : Hid (SlIs A n c ∧ key.length = n ∧ Bs w B A key)) (hv : Hid (SlIs A' n' c' ∧ val.length = n' ∧ Bs w B A' val)) (ht : Hid (TabW w)) (hz : 0 < w.heap.size) :
    Calls Tryz.prog 68 #[.int .i64 v, .int .i64 seq, .int .i64 off, .agg #[.int .i64 kd, .slice A n c, .slice A' n' c', .int .i64 x]] w (Encoded w (Rc.enc v seq off ⟨kd, key, val, x⟩)) := by
  have HB : Hid (∀ o, Below w.heap.size w (w.alloc o)) := fun o => (Below.refl _ _).alloc (Nat.le_refl _) o
  have HC : Hid (∀ W, Calls Tryz.prog 99 #[.int .i64 v, .agg #[.int .i64 kd, .slice A n c, .slice A' n' c', .int .i64 x]] W fun e w' => e = .returned (.int .i64 0) ∧ Below W.heap.size W w') := fun W => by
    have h1 := check_any v kd A n c A' n' c' x W
    have h2 : Rc.chk v kd n n' x = 0 := by have := h; unfold Rc.check at this; rw [hk.out.2.1, hv.out.2.1] at this; exact this
    rwa [h2] at h1
  have HF : Hid (∀ W, Calls Tryz.prog 101 #[.int .i64 v, .agg #[.int .i64 kd, .slice A n c, .slice A' n' c', .int .i64 x]] W fun e w' => ∃ g, e = .returned (.slice (some ⟨g, 0, none⟩) 6 6) ∧ Fds w' g (Rc.fields v ⟨kd, key, val, x⟩) ∧ W.heap.size ≤ g ∧ g < w'.heap.size ∧ Below W.heap.size W w') := fun W => fields_any v kd x key val A n c A' n' c' W h hk.out.2.1 hv.out.2.1
  have HFIT := Lib.hid (fields_fit v ⟨kd, key, val, x⟩ h)
  have HFL := Lib.hid (fields_len v ⟨kd, key, val, x⟩)
  obtain ⟨hv12, -, hk255, hv65, -, -, -, -⟩ := Rc.chk_ok h
  have HLEN : Hid (n ≤ 255 ∧ n' ≤ 65536) := ⟨by rw [← hk.out.2.1]; exact hk255, by rw [← hv.out.2.1]; exact hv65⟩
  obtain ⟨p1, p2, p3⟩ := hp
  obtain ⟨sq, rfl⟩ : ∃ k : Nat, seq = (k : Int) := ⟨seq.toNat, by omega⟩
  obtain ⟨of, rfl⟩ : ∃ k : Nat, off = (k : Int) := ⟨off.toNat, by omega⟩
  have f1 : decide ((sq : Int) < 0) = false := by simp
  have f2 : decide ((of : Int) < 0) = false := by simp
  have f3 : decide ((2147483647 : Int) < (of : Int)) = false := by simp; omega
  have HSPOT : Hid (Rc.spot (sq : Int) (of : Int) = Rc.flat [(sq, 8), (of, 4)]) := rfl
  clear p1 p2 hv12 hk255 hv65 h
  go_enter Tryz.func68, Tryz.ntmps68
  go_wp2_with fail
  refine (HC.out _).mono ?_
  rintro e w1 ⟨rfl, hb⟩
  have HX1 := Lib.hid (boxed hb)
  obtain ⟨c0, c1, c2, c3⟩ := four_cells HX1.out
  have HB1 : Hid (Below w.heap.size w w1) := (HB.out _).trans (hb.mono (HB.out _).size)
  have HZ1 : Hid (w.heap.size < w1.heap.size) := (Array.getElem?_eq_some_iff.1 HX1.out).1
  clear hb
  go_wp2_with fail
  refine (HF.out _).mono ?_
  rintro e w2 ⟨g, rfl, hf, hg1, hg2, hb⟩
  have HX2 : Hid (w2.heap[w.heap.size]? = _) := (hb.block _ HZ1.out).trans HX1.out
  have HB2 : Hid (Below w.heap.size w w2) := HB1.out.trans (hb.mono HB1.out.size)
  have HFD := Lib.hid hf
  clear hb hf
  go_wp2_with fail
  refine (put_any g _ 6 6 w2 HFD HFL hg2 HFIT (by omega) (by omega) (by omega)).mono ?_
  rintro e w3 ⟨v3, rfl, hown3, hb⟩
  obtain ⟨A3, k3, rfl, hbs3, hl3, hn3, hm3, ho3⟩ := own_bytes hown3 (Rc.flat_lt _)
  have HX3 : Hid (w3.heap[w.heap.size]? = _) := (hb.block _ (Array.getElem?_eq_some_iff.1 HX2.out).1).trans HX2.out
  have HB3 : Hid (Below w.heap.size w w3) := HB2.out.trans (hb.mono HB2.out.size)
  have HHD : Hid (SlIs A3 (Rc.head v ⟨kd, key, val, x⟩).length k3 ∧ (Rc.head v ⟨kd, key, val, x⟩).length = (Rc.head v ⟨kd, key, val, x⟩).length ∧ Bs w3 w3.heap.size A3 (Rc.head v ⟨kd, key, val, x⟩)) := ⟨sl_own hn3 hm3 ho3, rfl, hbs3⟩
  clear hb hbs3 hl3 hn3 hm3 ho3 hown3 c0 c1 c2 c3 hg1 hg2 HFD
  obtain ⟨c0, c1, c2, c3⟩ := four_cells HX3.out
  have ht3 : Hid (TabW w3) := ht.out.below HB3.out hz
  have HK3 : Hid (SlIs A n c ∧ key.length = n ∧ Bs w3 w3.heap.size A key) := ⟨hk.out.1, hk.out.2.1, (hk.out.2.2.below HB3.out hB).more (Nat.le_trans hB HB3.out.size)⟩
  have HV3 : Hid (SlIs A' n' c' ∧ val.length = n' ∧ Bs w3 w3.heap.size A' val) := ⟨hv.out.1, hv.out.2.1, (hv.out.2.2.below HB3.out hB).more (Nat.le_trans hB HB3.out.size)⟩
  have HZ3 : Hid (0 < w3.heap.size ∧ w.heap.size < w3.heap.size) := ⟨Nat.lt_of_lt_of_le hz HB3.out.size, (Array.getElem?_eq_some_iff.1 HX3.out).1⟩
  have HHL : Hid ((Rc.flat (Rc.fields v ⟨kd, key, val, x⟩)).length = 12) := Rc.head_length v ⟨kd, key, val, x⟩
  have PUT2 := Lib.hid (put_at w3 [(sq, 8), (of, 4)] 2 #[.int .i64 (sq : Int), .int .i64 8, .int .i64 (of : Int), .int .i64 4] rfl rfl (fun f hf => by simp only [List.mem_cons, List.not_mem_nil, or_false] at hf; rcases hf with rfl | rfl <;> simp only <;> omega) (by omega))
  have HSL : Hid ((Rc.flat [(sq, 8), (of, 4)]).length = 12) := Rc.spot_length (sq : Int) (of : Int)
  have CS : Hid (∀ (w5 : World) (A5 : Option Addr) (k5 : Nat), Below w3.heap.size w3 w5 → SlIs A5 (Rc.flat [(sq, 8), (of, 4)]).length k5 ∧ (Rc.flat [(sq, 8), (of, 4)]).length = (Rc.flat [(sq, 8), (of, 4)]).length ∧ Bs w5 w5.heap.size A5 (Rc.flat [(sq, 8), (of, 4)]) → ∀ (W : World),
      W.heap = (w5.alloc (.cells #[.slice A5 (Rc.flat [(sq, 8), (of, 4)]).length k5, .slice A3 (Rc.flat (Rc.fields v ⟨kd, key, val, x⟩)).length k3, .slice A n c, .slice A' n' c'] 27)).heap → W.os = w5.os → W.tape = w5.tape → W.output = w5.output →
      Calls Tryz.prog 102 #[.slice (some ⟨w5.heap.size, 0, none⟩) 4 4] W fun e w6 => e = .returned (.int .u32 (Rc.sum v (sq : Int) (of : Int) ⟨kd, key, val, x⟩ : Int)) ∧ Below w5.heap.size w5 w6) := fun w5 A5 k5 hb hs W e1 e2 e3 e4 => by
    have h := checksum_at w5 w5.heap.size [Rc.flat [(sq, 8), (of, 4)], Rc.flat (Rc.fields v ⟨kd, key, val, x⟩), key, val] 4 _ (parts4 (Nat.le_refl _) hs ⟨HHD.out.1, rfl, (HHD.out.2.2.below hb (Nat.le_refl _)).more hb.size⟩ ⟨HK3.out.1, HK3.out.2.1, (HK3.out.2.2.below hb (Nat.le_refl _)).more hb.size⟩ ⟨HV3.out.1, HV3.out.2.1, (HV3.out.2.2.below hb (Nat.le_refl _)).more hb.size⟩) rfl (by omega) (ht3.out.below hb HZ3.out.1) (Nat.lt_of_lt_of_le HZ3.out.1 hb.size) W e1 e2 e3 e4
    have e : Crc.U (Crc.upd 0#32 [Rc.flat [(sq, 8), (of, 4)], Rc.flat (Rc.fields v ⟨kd, key, val, x⟩), key, val].flatten) = Rc.sum v (sq : Int) (of : Int) ⟨kd, key, val, x⟩ := by
      unfold Rc.sum Rc.spot Rc.head
      simp
    rwa [e] at h
  have HSUM : Hid (Rc.sum v (sq : Int) (of : Int) ⟨kd, key, val, x⟩ < 4294967296) := Crc.U_lt _
  generalize hsum : Rc.sum v (sq : Int) (of : Int) ⟨kd, key, val, x⟩ = sm at CS HSUM
  have HSM := Lib.hid hsum; clear hsum
  go_wp2_with fail
  go_region_held3 (fun W => W.cell? ⟨w.heap.size, 1, none⟩ = some (.slice A n c) ∧ W.cell? ⟨w.heap.size, 2, none⟩ = some (.slice A' n' c'))
    (first
      | go_keep
      | exact cells_12 HX5.out
      | exact cells_12 HX6.out)
    (first
      | (go_at_call 100; refine (PUT2.out _ (by rfl) (by rfl) (by rfl) (by rfl)).mono ?_; rintro e w5 ⟨A5, k5, rfl, hs5, hb5⟩; have HB5 := Lib.hid hb5; have HS5 := Lib.hid hs5; have HX5 : Hid (w5.heap[w.heap.size]? = _) := (hb5.block _ HZ3.out.2).trans HX3.out; clear hs5 hb5)
      | (go_at_call 102; refine (CS.out w5 A5 k5 HB5.out HS5.out _ (by rfl) (by rfl) (by rfl) (by rfl)).mono ?_; rintro e w6 ⟨rfl, hb6⟩; have HB6 : Hid (Below w3.heap.size w3 w6) := HB5.out.trans (hb6.mono HB5.out.size); have HX6 : Hid (w6.heap[w.heap.size]? = _) := (HB6.out.block _ HZ3.out.2).trans HX3.out; clear hb6))
  all_goals
    have HK6 : Hid (SlIs A n c ∧ key.length = n ∧ Bs w6 w6.heap.size A key) := ⟨HK3.out.1, HK3.out.2.1, (HK3.out.2.2.below HB6.out (Nat.le_refl _)).more HB6.out.size⟩
    have HV6 : Hid (SlIs A' n' c' ∧ val.length = n' ∧ Bs w6 w6.heap.size A' val) := ⟨HV3.out.1, HV3.out.2.1, (HV3.out.2.2.below HB6.out (Nat.le_refl _)).more HB6.out.size⟩
    have HHD6 : Hid (SlIs A3 (Rc.flat (Rc.fields v ⟨kd, key, val, x⟩)).length k3 ∧ (Rc.flat (Rc.fields v ⟨kd, key, val, x⟩)).length = (Rc.flat (Rc.fields v ⟨kd, key, val, x⟩)).length ∧ Bs w6 w6.heap.size A3 (Rc.flat (Rc.fields v ⟨kd, key, val, x⟩))) := ⟨HHD.out.1, rfl, (HHD.out.2.2.below HB6.out (Nat.le_refl _)).more HB6.out.size⟩
    have HBW : Hid (Below w.heap.size w w6) := HB3.out.trans (HB6.out.mono HB3.out.size)
    have HZ6 : Hid (w.heap.size < w6.heap.size) := Nat.lt_of_lt_of_le HZ3.out.2 HB6.out.size
    have PUT1 := Lib.hid (put_at w6 [(sm, 4)] 1 #[.int .i64 (IntKind.i64.wrap (sm : Int)), .int .i64 4] (by have := HSUM.out; rw [show IntKind.i64.wrap (sm : Int) = (sm : Int) by rw [IntKind.wrap_i64]; omega]; rfl) rfl (fun f hf => by have := HSUM.out; simp only [List.mem_cons, List.not_mem_nil, or_false] at hf; rcases hf with rfl; simp only; omega) (by omega))
    have CC : Hid (∀ (w7 : World) (A5 : Option Addr) (k5 : Nat), Below w6.heap.size w6 w7 → SlIs A5 (Rc.flat [(sm, 4)]).length k5 ∧ (Rc.flat [(sm, 4)]).length = (Rc.flat [(sm, 4)]).length ∧ Bs w7 w7.heap.size A5 (Rc.flat [(sm, 4)]) → ∀ (W : World),
        W.heap = (w7.alloc (.cells #[.slice A3 (Rc.flat (Rc.fields v ⟨kd, key, val, x⟩)).length k3, .slice A5 (Rc.flat [(sm, 4)]).length k5, .slice A n c, .slice A' n' c'] 27)).heap → W.os = w7.os → W.tape = w7.tape → W.output = w7.output →
        Calls Tryz.prog 103 #[.slice (some ⟨w7.heap.size, 0, none⟩) 4 4] W fun e w8 => ∃ u, e = .returned u ∧ w8.ownsRow w.heap.size 5 1 u (Rc.enc v (sq : Int) (of : Int) ⟨kd, key, val, x⟩).length (vals (Rc.enc v (sq : Int) (of : Int) ⟨kd, key, val, x⟩)) ∧ Below w6.heap.size w6 w8) := fun w7 A5 k5 hb hs W e1 e2 e3 e4 => by
      have e : [Rc.flat (Rc.fields v ⟨kd, key, val, x⟩), Rc.flat [(sm, 4)], key, val].flatten = Rc.enc v (sq : Int) (of : Int) ⟨kd, key, val, x⟩ := by
        unfold Rc.enc Rc.head
        rw [HSM.out]
        simp [Rc.flat]
      have h := concat_at w7 w7.heap.size [Rc.flat (Rc.fields v ⟨kd, key, val, x⟩), Rc.flat [(sm, 4)], key, val] 4 _ (parts4 (Nat.le_refl _) ⟨HHD6.out.1, rfl, (HHD6.out.2.2.below hb (Nat.le_refl _)).more hb.size⟩ hs ⟨HK6.out.1, HK6.out.2.1, (HK6.out.2.2.below hb (Nat.le_refl _)).more hb.size⟩ ⟨HV6.out.1, HV6.out.2.1, (HV6.out.2.2.below hb (Nat.le_refl _)).more hb.size⟩) (Nat.le_refl _) rfl (by omega)
        (by rw [e, Rc.enc_length]; unfold Rc.len; have := HLEN.out; rw [HK6.out.2.1, HV6.out.2.1]; omega) W e1 e2 e3 e4
      rw [e] at h
      refine h.mono ?_
      rintro e' w8 ⟨u, rfl, hown, hb8⟩
      exact ⟨u, rfl, ownsRow_mono hown (Nat.le_trans HBW.out.size hb.size), hb.trans (hb8.mono hb.size)⟩
    go_wp2_with fail
    go_region_held3 (fun W => W.cell? ⟨w.heap.size, 1, none⟩ = some (.slice A n c) ∧ W.cell? ⟨w.heap.size, 2, none⟩ = some (.slice A' n' c'))
      (first
        | go_keep
        | exact cells_12 HX6.out
        | exact cells_12 HX7.out
        | exact cells_12 HX8.out)
      (first
        | (go_at_call 100; refine (PUT1.out _ (by rfl) (by rfl) (by rfl) (by rfl)).mono ?_; rintro e w7 ⟨A7, k7, rfl, hs7, hb7⟩; have HB7 := Lib.hid hb7; have HS7 := Lib.hid hs7; have HX7 : Hid (w7.heap[w.heap.size]? = _) := (hb7.block _ HZ6.out).trans HX6.out; clear hs7 hb7)
        | (go_at_call 103; refine (CC.out w7 A7 k7 HB7.out HS7.out _ (by rfl) (by rfl) (by rfl) (by rfl)).mono ?_; rintro e w8 ⟨v8, rfl, hown8, hb8⟩; have HO8 := Lib.hid hown8; have HX8 : Hid (w8.heap[w.heap.size]? = _) := (hb8.block _ HZ6.out).trans HX6.out; have HB8 : Hid (Below w.heap.size w w8) := HBW.out.trans (hb8.mono HBW.out.size); clear hown8 hb8))
    all_goals
      go_wp2
      go_ret2
      exact ⟨_, rfl, HO8.out, HB8.out⟩
end Go.Proofs.YtgnbmmceffolmaaGreatDoor
end
section
namespace Go.Proofs.YtgnbmmceffolmaaGreatDoor
open Go.RowKit

/-- In parseHead: the result's variable, the reader's variable, the reader. -/
structure Ph (w0 : World) (r p g lo : Nat) (kd x : Int) (l : List Nat) (w : World) : Prop where
  res : w.heap[r]? = some (.cells #[.int .i64 kd, .slice none 0 0, .slice none 0 0, .int .i64 x] 55 (0, 0))
  var : w.heap[p]? = some (.cells #[.pointer (some ⟨g, 0, none⟩)] 128 (0, 0))
  rdr : Rdr w lo g false l
  below : Below w0.heap.size w0 w
  r_lo : r < lo
  g_p : g < p
  w_r : w0.heap.size ≤ r
theorem Ph.grown {w0 w w' : World} {r p g lo : Nat} {kd x : Int} {l l' : List Nat} (h : Ph w0 r p g lo kd x l w) (hr : Rdr w' lo g false l') (hg : w.grownBy w' (some g)) : Ph w0 r p g lo kd x l' w' where
  res := (hg.block r (Array.getElem?_eq_some_iff.1 h.res).1 (fun e => by injection e with e; have := h.r_lo; have := h.rdr.lo_le; omega)).trans h.res
  var := (hg.block p (Array.getElem?_eq_some_iff.1 h.var).1 (fun e => by injection e with e; have := h.g_p; omega)).trans h.var
  rdr := hr
  below := h.below.trans (below_of_grown hg (by have := h.r_lo; have := h.rdr.lo_le; have := h.w_r; omega) h.below.size)
  r_lo := h.r_lo
  g_p := h.g_p
  w_r := h.w_r
theorem num_small (l : List Nat) (h : ∀ x ∈ l, x < 256) (hl : l.length ≤ 7) : Wire.num l < 72057594037927936 := by
  have h1 := Wire.num_lt l h
  have h2 := Wire.pow_le7 l.length hl
  omega
/-- One number more: what is read, and what is left. -/
def Step (l : List Nat) (n : Nat) (q : Nat) (l' : List Nat) (m : Nat) : Prop := q = Wire.num (l.take n) ∧ l' = l.drop n ∧ n ≤ l.length ∧ l'.length = m
theorem step_at (l : List Nat) (n m : Nat) (h : l.length = n + m) : ∃ q l', Hid (Step l n q l' m) := ⟨_, _, rfl, rfl, by omega, by rw [List.length_drop]; omega⟩
theorem next_any (w0 : World) (r p g lo n : Nat) (ni : Int) (hni : ni = (n : Int)) (kd x : Int) (l l' : List Nat) (q m : Nat) (w : World) (h : Hid (Ph w0 r p g lo kd x l w)) (hst : Hid (Step l n q l' m)) (h1 : 1 ≤ n) (h7 : n ≤ 7) :
    Calls Tryz.prog 115 #[.int .i64 ni, .pointer (some ⟨p, 0, none⟩)] w fun e w' => e = .returned (.int .i64 (q : Int)) ∧ Ph w0 r p g lo kd x l' w' := by
  obtain ⟨rfl, rfl, hn, _⟩ := hst.out
  subst hni
  have c0 : w.cell? ⟨p, 0, none⟩ = some (.pointer (some ⟨g, 0, none⟩)) := by
    rw [cell_of_row w p 0 _ _ (0, 0) h.out.var]; rfl
  have hs := num_small (l.take n) (fun y hy => h.out.rdr.bytes y (List.mem_of_mem_take hy)) (by rw [List.length_take]; omega)
  generalize hq : Wire.num (l.take n) = q at hs
  have HQ := Lib.hid hq; clear hq
  go_enter Tryz.func115, Tryz.ntmps115
  go_wp2_with fail
  refine (num_ok lo g l n n rfl h1 (by omega) hn _ (Lib.hid h.out.rdr)).mono ?_
  rintro e w1 ⟨rfl, hr1, hg1⟩
  rw [HQ.out]
  have HP := Lib.hid (h.out.grown hr1 hg1); clear hr1 hg1
  go_wp2
  go_ret
  exact ⟨rfl, HP.out⟩
theorem num_at (l : List Nat) (i : Nat) (h : i < l.length) : Wire.num ((l.drop i).take 1) = l.getD i 0 := by
  have e : (l.drop i).take 1 = [l.getD i 0] := by
    rw [List.take_one, List.head?_drop, List.getD_eq_getElem?_getD, List.getElem?_eq_getElem h]; rfl
  rw [e]
  simp [Wire.num]
theorem stored4 {w : World} {r : Nat} {a b c d a' b' c' d' x : Value} {t : TypeId} (h : w.heap[r]? = some (.cells #[a, b, c, d] t (0, 0))) :
    (((((w.setCell ⟨r, 3, none⟩ x).setCell ⟨r, 0, none⟩ a').setCell ⟨r, 1, none⟩ b').setCell ⟨r, 2, none⟩ c').setCell ⟨r, 3, none⟩ d').heap[r]? = some (.cells #[a', b', c', d'] t (0, 0)) := by
  simp [World.setCell, Array.getElem?_modify, h]
theorem stored4_grown (w : World) (r : Nat) (a' b' c' d' x : Value) :
    w.grownBy (((((w.setCell ⟨r, 3, none⟩ x).setCell ⟨r, 0, none⟩ a').setCell ⟨r, 1, none⟩ b').setCell ⟨r, 2, none⟩ c').setCell ⟨r, 3, none⟩ d') (some r) :=
  grown_trans' (grown_trans' (grown_trans' (grown_trans' (grown_set _ _ _ _) (grown_set _ _ _ _)) (grown_set _ _ _ _)) (grown_set _ _ _ _)) (grown_set _ _ _ _)
theorem Ph.put {w0 w w' : World} {r p g lo : Nat} {kd x kd' x' : Int} {l : List Nat} (h : Ph w0 r p g lo kd x l w) (hg : w.grownBy w' (some r)) (hr : w'.heap[r]? = some (.cells #[.int .i64 kd', .slice none 0 0, .slice none 0 0, .int .i64 x'] 55 (0, 0))) : Ph w0 r p g lo kd' x' l w' where
  res := hr
  var := (hg.block p (Array.getElem?_eq_some_iff.1 h.var).1 (fun e => by injection e with e; have := h.g_p; have := h.r_lo; have := h.rdr.lo_le; omega)).trans h.var
  rdr := h.rdr.grown hg (fun b e => by injection e with e; have := h.r_lo; omega)
  below := h.below.trans (below_of_grown hg h.w_r h.below.size)
  r_lo := h.r_lo
  g_p := h.g_p
  w_r := h.w_r
theorem Ph.set0 {w0 w : World} {r p g lo : Nat} {kd x : Int} {l : List Nat} (h : Ph w0 r p g lo kd x l w) (kd' : Int) : Ph w0 r p g lo kd' x l (w.setCell ⟨r, 0, none⟩ (.int .i64 kd')) :=
  h.put (grown_set _ _ _ _) (by simp [World.setCell, Array.getElem?_modify, h.res])
set_option maxHeartbeats 1000000 in
theorem parsehead_any (v : Int) (A : Option Addr) (B c : Nat) (l : List Nat) (w : World) (hA : A = none → c = 0 ∧ (16 : Nat) = 0) (hl : Hid (l.length = 16)) (hb : Hid (Bs w B A l)) :
    Calls Tryz.prog 98 #[.int .i64 v, .slice A 16 c] w fun e w' => e = .returned (.tuple #[.agg #[.int .i64 (Rc.kd v l : Int), .slice none 0 0, .slice none 0 0, .int .i64 (Rc.xp v l : Int)], .int .i64 (Rc.kl v l : Int), .int .i64 (Rc.vl v l : Int)]) ∧ Below w.heap.size w w' := by
  have hb0 : Hid (∀ o, Bs (w.alloc o) (w.alloc o).heap.size A l) := fun o => by
    have h1 : Bs w w.heap.size A l := fun k hk => by
      obtain ⟨a1, ad', e, _, h⟩ := hb.out k hk
      refine ⟨a1, ad', e, ?_, h⟩
      have := World.block_lt_of_cell? w _ h
      rwa [add_block] at this
    exact (h1.below ((Below.refl _ w).alloc (Nat.le_refl _) o) (Nat.le_refl _)).more ((Below.refl _ w).alloc (Nat.le_refl _) o).size
  have HINIT : Hid (∀ (o o' : Obj) (w1 : World) (g : Nat), o = .cells #[.int .i64 0, .slice none 0 0, .slice none 0 0, .int .i64 0] 55 → o' = .cells #[.pointer (some ⟨g, 0, none⟩)] 128 → Rdr w1 (w.alloc o).heap.size g false l → Below (w.alloc o).heap.size (w.alloc o) w1 →
      Ph w w.heap.size w1.heap.size g (w.heap.size + 1) 0 0 l (w1.alloc o')) := fun o o' w1 g e1 e2 hr hb1 => by
    subst e1 e2
    have hr' : Rdr w1 (w.heap.size + 1) g false l := by
      have e : (w.alloc (.cells #[.int .i64 0, .slice none 0 0, .slice none 0 0, .int .i64 0] 55)).heap.size = w.heap.size + 1 := by simp
      rw [e] at hr; exact hr
    have hB : Below w1.heap.size w1 (w1.alloc (.cells #[.pointer (some ⟨g, 0, none⟩)] 128)) := (Below.refl _ _).alloc (Nat.le_refl _) _
    have hw1 : Below w.heap.size w w1 := ((Below.refl _ w).alloc (Nat.le_refl _) _).trans (hb1.mono (by simp))
    exact ⟨(hB.block _ (Array.getElem?_eq_some_iff.1 (boxed hb1)).1).trans (boxed hb1), heap_alloc_new _ _, hr'.below hB hr.lt, hw1.trans (hB.mono hw1.size), Nat.lt_succ_self _, hr.lt, Nat.le_refl _⟩
  by_cases hv : v = 1
  · subst hv
    obtain ⟨q1, l1, S1⟩ := step_at l 1 15 (by rw [hl.out])
    obtain ⟨q2, l2, S2⟩ := step_at l1 1 14 (by rw [S1.out.2.2.2])
    obtain ⟨q3, l3, S3⟩ := step_at l2 1 13 (by rw [S2.out.2.2.2])
    obtain ⟨q4, l4, S4⟩ := step_at l3 1 12 (by rw [S3.out.2.2.2])
    obtain ⟨q5, l5, S5⟩ := step_at l4 4 8 (by rw [S4.out.2.2.2])
    obtain ⟨q6, l6, S6⟩ := step_at l5 4 4 (by rw [S5.out.2.2.2])
    go_enter Tryz.func98, Tryz.ntmps98
    go_wp2_with fail
    refine (newreader_any A _ 16 c l _ hA hl (by omega) (Lib.hid (hb0.out _))).mono ?_
    rintro e w1 ⟨g, rfl, hr, hb1⟩
    have HP1 := Lib.hid (HINIT.out _ _ w1 g rfl rfl hr hb1)
    clear hr hb1
    generalize hp : w1.heap.size = p at HP1
    go_wp2_with fail
    clear hp
    refine (next_any w w.heap.size p g _ 1 1 rfl 0 0 l l1 q1 _ _ HP1 S1 (by omega) (by omega)).mono ?_
    rintro e w2 ⟨rfl, h2⟩
    have HP2 := Lib.hid h2; clear h2
    go_wp2_with fail
    refine (next_any w w.heap.size p g _ 1 1 rfl 0 0 l1 l2 q2 _ _ HP2 S2 (by omega) (by omega)).mono ?_
    rintro e w3 ⟨rfl, h3⟩
    have HP3 := Lib.hid h3; clear h3
    go_wp2_with fail
    refine (next_any w w.heap.size p g _ 1 1 rfl 0 0 l2 l3 q3 _ _ HP3 S3 (by omega) (by omega)).mono ?_
    rintro e w4 ⟨rfl, h4⟩
    obtain ⟨c0, c1, c2, c3⟩ := four_cells h4.res
    obtain ⟨f0, f1, f2, f3⟩ := four_frozen h4.res
    have HP4 := Lib.hid (h4.set0 ((q2 : Int))); clear h4
    go_wp2_with fail
    refine (next_any w w.heap.size p g _ 1 1 rfl ((q2 : Int)) 0 l3 l4 q4 _ _ HP4 S4 (by omega) (by omega)).mono ?_
    rintro e w5 ⟨rfl, h5⟩
    have HP5 := Lib.hid h5; clear h5
    go_wp2_with fail
    refine (next_any w w.heap.size p g _ 4 4 rfl ((q2 : Int)) 0 l4 l5 q5 _ _ HP5 S5 (by omega) (by omega)).mono ?_
    rintro e w6 ⟨rfl, h6⟩
    have HP6 := Lib.hid h6; clear h6
    go_wp2_with fail
    refine (next_any w w.heap.size p g _ 4 4 rfl ((q2 : Int)) 0 l5 l6 q6 _ _ HP6 S6 (by omega) (by omega)).mono ?_
    rintro e w7 ⟨rfl, h7⟩
    obtain ⟨c0, c1, c2, c3⟩ := four_cells h7.res
    obtain ⟨f0, f1, f2, f3⟩ := four_frozen h7.res
    have HP7 := Lib.hid h7; clear h7
    go_wp2_with fail
    (try simp only [Exit.inBlock, Exit.then])
    refine bodyPost_ret (results_row3 rfl _ _ w.heap.size _ _ (0, 0) _ rfl (stored4 HP7.out.res) Tryz.underlying55 rfl (by kernel_rfl)) rfl ?_
    have HBF : Below w.heap.size w _ := HP7.out.below.trans (below_of_grown (stored4_grown w7 w.heap.size (.int .i64 (q2 : Int)) (.slice none 0 0) (.slice none 0 0) (.int .i64 (q6 : Int)) (.int .i64 (q6 : Int))) (Nat.le_refl _) HP7.out.below.size)
    refine ⟨?_, HBF⟩
    obtain ⟨e1, m1, -, -⟩ := S1.out
    obtain ⟨e2, m2, -, -⟩ := S2.out
    obtain ⟨e3, m3, -, -⟩ := S3.out
    obtain ⟨e4, m4, -, -⟩ := S4.out
    obtain ⟨e5, m5, -, -⟩ := S5.out
    obtain ⟨e6, -, -, -⟩ := S6.out
    have M1 : l1 = l.drop 1 := m1
    have M2 : l2 = l.drop 2 := by rw [m2, M1]; exact List.drop_drop
    have M3 : l3 = l.drop 3 := by rw [m3, M2]; exact List.drop_drop
    have M4 : l4 = l.drop 4 := by rw [m4, M3]; exact List.drop_drop
    have M5 : l5 = l.drop 8 := by rw [m5, M4]; exact List.drop_drop
    have hl16 := hl.out
    have a1 : q2 = Rc.kd 1 l := by rw [e2, M1, num_at _ _ (by omega)]; rfl
    have a2 : q3 = Rc.kl 1 l := by rw [e3, M2, num_at _ _ (by omega)]; rfl
    have a3 : q5 = Rc.vl 1 l := by rw [e5, M4]; rfl
    have a4 : q6 = Rc.xp 1 l := by rw [e6, M5]; rfl
    rw [← a1, ← a2, ← a3, ← a4]
    rfl
  · have hv1 : (v == 1) = false := by simp; omega
    have hkd : Rc.kd v l = l.getD 2 0 / 16 := if_neg hv
    have hkl : Rc.kl v l = l.getD 1 0 := if_neg hv
    have hvl : Rc.vl v l = Wire.num (Rc.sub l 3 3) := if_neg hv
    have hxp : Rc.xp v l = Wire.num (Rc.sub l 7 5) := if_neg hv
    have HEQ := Lib.hid (And.intro hkd (And.intro hkl (And.intro hvl hxp)))
    clear hkd hkl hvl hxp hv
    obtain ⟨q1, l1, S1⟩ := step_at l 1 15 (by rw [hl.out])
    obtain ⟨q2, l2, S2⟩ := step_at l1 1 14 (by rw [S1.out.2.2.2])
    obtain ⟨q3, l3, S3⟩ := step_at l2 1 13 (by rw [S2.out.2.2.2])
    have h3 : q3 < 256 := by
      obtain ⟨e3, -, e4, -⟩ := S3.out
      have h2 := S2.out.2.1
      have h1 := S1.out.2.1
      have := Wire.num_lt (l2.take 1) (fun y hy => hb.out.lt y (by rw [h2, h1] at hy; exact List.mem_of_mem_drop (List.mem_of_mem_drop (List.mem_of_mem_take hy))))
      rw [List.length_take, Nat.min_eq_left e4] at this
      rw [e3]; exact this
    obtain ⟨q4, l4, S4⟩ := step_at l3 3 10 (by rw [S3.out.2.2.2])
    obtain ⟨q5, l5, S5⟩ := step_at l4 1 9 (by rw [S4.out.2.2.2])
    obtain ⟨q6, l6, S6⟩ := step_at l5 5 4 (by rw [S5.out.2.2.2])
    go_enter Tryz.func98, Tryz.ntmps98
    go_wp2_with fail
    refine (newreader_any A _ 16 c l _ hA hl (by omega) (Lib.hid (hb0.out _))).mono ?_
    rintro e w1 ⟨g, rfl, hr, hb1⟩
    have HP1 := Lib.hid (HINIT.out _ _ w1 g rfl rfl hr hb1)
    clear hr hb1
    generalize hp : w1.heap.size = p at HP1
    go_wp2_with fail
    clear hp
    refine (next_any w w.heap.size p g _ 1 1 rfl 0 0 l l1 q1 _ _ HP1 S1 (by omega) (by omega)).mono ?_
    rintro e w2 ⟨rfl, h2⟩
    have HP2 := Lib.hid h2; clear h2
    go_wp2_with fail
    refine (next_any w w.heap.size p g _ 1 1 rfl 0 0 l1 l2 q2 _ _ HP2 S2 (by omega) (by omega)).mono ?_
    rintro e w3 ⟨rfl, h3⟩
    have HP3 := Lib.hid h3; clear h3
    go_wp2_with fail
    refine (next_any w w.heap.size p g _ 1 1 rfl 0 0 l2 l3 q3 _ _ HP3 S3 (by omega) (by omega)).mono ?_
    rintro e w4 ⟨rfl, h4⟩
    have HP4 := Lib.hid h4; clear h4
    go_wp2_with fail
    refine (next_any w w.heap.size p g _ 3 3 rfl 0 0 l3 l4 q4 _ _ HP4 S4 (by omega) (by omega)).mono ?_
    rintro e w5 ⟨rfl, h5⟩
    obtain ⟨c0, c1, c2, c3⟩ := four_cells h5.res
    obtain ⟨f0, f1, f2, f3⟩ := four_frozen h5.res
    have HP5 := Lib.hid (h5.set0 ((q3 : Int) / 16)); clear h5
    go_wp2_with fail
    refine (next_any w w.heap.size p g _ 1 1 rfl ((q3 : Int) / 16) 0 l4 l5 q5 _ _ HP5 S5 (by omega) (by omega)).mono ?_
    rintro e w6 ⟨rfl, h6⟩
    have HP6 := Lib.hid h6; clear h6
    go_wp2_with fail
    refine (next_any w w.heap.size p g _ 5 5 rfl ((q3 : Int) / 16) 0 l5 l6 q6 _ _ HP6 S6 (by omega) (by omega)).mono ?_
    rintro e w7 ⟨rfl, h7⟩
    obtain ⟨c0, c1, c2, c3⟩ := four_cells h7.res
    obtain ⟨f0, f1, f2, f3⟩ := four_frozen h7.res
    have HP7 := Lib.hid h7; clear h7
    go_wp2_with fail
    (try simp only [Exit.inBlock, Exit.then])
    refine bodyPost_ret (results_row3 rfl _ _ w.heap.size _ _ (0, 0) _ rfl (stored4 HP7.out.res) Tryz.underlying55 rfl (by kernel_rfl)) rfl ?_
    have HBF : Below w.heap.size w _ := HP7.out.below.trans (below_of_grown (stored4_grown w7 w.heap.size (.int .i64 ((q3 : Int) / 16)) (.slice none 0 0) (.slice none 0 0) (.int .i64 (q6 : Int)) (.int .i64 (q6 : Int))) (Nat.le_refl _) HP7.out.below.size)
    refine ⟨?_, HBF⟩
    obtain ⟨e1, m1, -, -⟩ := S1.out
    obtain ⟨e2, m2, -, -⟩ := S2.out
    obtain ⟨e3, m3, -, -⟩ := S3.out
    obtain ⟨e4, m4, -, -⟩ := S4.out
    obtain ⟨e5, m5, -, -⟩ := S5.out
    obtain ⟨e6, -, -, -⟩ := S6.out
    have M1 : l1 = l.drop 1 := m1
    have M2 : l2 = l.drop 2 := by rw [m2, M1]; exact List.drop_drop
    have M3 : l3 = l.drop 3 := by rw [m3, M2]; exact List.drop_drop
    have M4 : l4 = l.drop 6 := by rw [m4, M3]; exact List.drop_drop
    have M5 : l5 = l.drop 7 := by rw [m5, M4]; exact List.drop_drop
    have hl16 := hl.out
    obtain ⟨hkd, hkl, hvl, hxp⟩ := HEQ.out
    have a1 : ((q3 : Int) / 16) = (Rc.kd v l : Int) := by rw [hkd, e3, M2, num_at _ _ (by omega)]; omega
    have a2 : q2 = Rc.kl v l := by rw [hkl, e2, M1, num_at _ _ (by omega)]
    have a3 : q4 = Rc.vl v l := by rw [hvl, e4, M3]; rfl
    have a4 : q6 = Rc.xp v l := by rw [hxp, e6, M5]; rfl
    rw [← a1, ← a2, ← a3, ← a4]
    rfl
end Go.Proofs.YtgnbmmceffolmaaGreatDoor
end
section
namespace Go.Proofs.YtgnbmmceffolmaaGreatDoor
open Go.RowKit

theorem head16 (v : Int) (l : List Nat) : Rc.kl v (l.take 16) = Rc.kl v l ∧ Rc.vl v (l.take 16) = Rc.vl v l ∧ Rc.kd v (l.take 16) = Rc.kd v l ∧ Rc.xp v (l.take 16) = Rc.xp v l := by
  obtain ⟨h1, h2⟩ := Rc.lengths_take v l 16 (Nat.le_refl _)
  refine ⟨h1, h2, ?_, ?_⟩
  · unfold Rc.kd
    rw [Rc.getD_take' _ _ _ (by omega), Rc.getD_take' _ _ _ (by omega)]
  · unfold Rc.xp
    rw [Rc.sub_take _ _ _ _ (by omega), Rc.sub_take _ _ _ _ (by omega)]
theorem kl_lt (v : Int) {l : List Nat} (h : ∀ x ∈ l, x < 256) : Rc.kl v l < 256 := by
  unfold Rc.kl
  split <;> exact getD_lt h _
theorem sub_le (l : List Nat) (i n : Nat) : (Rc.sub l i n).length ≤ n := by unfold Rc.sub; rw [List.length_take]; omega
theorem pow4 : (256 : Nat) ^ 4 = 4294967296 := rfl
theorem vl_lt (v : Int) {l : List Nat} (h : ∀ x ∈ l, x < 256) : Rc.vl v l < 4294967296 := by
  unfold Rc.vl
  split
  · have h1 := Wire.num_lt _ (sub_lt h 4 4)
    have h2 : (256 : Nat) ^ (Rc.sub l 4 4).length ≤ 256 ^ 4 := Nat.pow_le_pow_right (by decide) (sub_le l 4 4)
    rw [pow4] at h2; omega
  · have h1 := Wire.num_lt _ (sub_lt h 3 3)
    have h2 : (256 : Nat) ^ (Rc.sub l 3 3).length ≤ 256 ^ 4 := Nat.pow_le_pow_right (by decide) (by have := sub_le l 3 3; omega)
    rw [pow4] at h2; omega
/-- Is there room for what the head says? -/
def Fits (v : Int) (l : List Nat) : Prop := 16 ≤ l.length ∧ 16 + Rc.kl v l + Rc.vl v l ≤ l.length
theorem parse_short (v : Int) (A : Option Addr) (n c : Nat) (w : World) (hn : n < 16) :
    Calls Tryz.prog 67 #[.int .i64 v, .slice A n c] w fun e w' => e = .returned (.tuple #[.agg #[.int .i64 0, .slice none 0 0, .slice none 0 0, .int .i64 0], .bool false]) ∧ Below w.heap.size w w' := by
  have hd : decide ((n : Int) < 16) = true := by simp; omega
  go_enter Tryz.func67, Tryz.ntmps67
  go_wp2
  (try simp only [Exit.inBlock, Exit.then])
  refine bodyPost_ret (results_row2 rfl _ _ w.heap.size _ _ (0, 0) _ rfl (heap_alloc_new _ _) Tryz.underlying55 rfl (by kernel_rfl)) rfl ?_
  exact ⟨rfl, (Below.refl _ _).alloc (Nat.le_refl _) _⟩
/-- What parseHead hands to parse. -/
theorem parse_head (v : Int) (A : Option Addr) (B n c : Nat) (l : List Nat) (w : World) (hA : A = none → c = 0 ∧ n = 0) (hl : Hid (l.length = n)) (hb : Hid (Bs w B A l)) (hn : 16 ≤ n) (o : Obj) :
    Calls Tryz.prog 98 #[.int .i64 v, .slice A 16 c] (w.alloc o) fun e w' => e = .returned (.tuple #[.agg #[.int .i64 (Rc.kd v l : Int), .slice none 0 0, .slice none 0 0, .int .i64 (Rc.xp v l : Int)], .int .i64 (Rc.kl v l : Int), .int .i64 (Rc.vl v l : Int)]) ∧ Below (w.alloc o).heap.size (w.alloc o) w' := by
  obtain ⟨e1, e2, e3, e4⟩ := head16 v l
  rw [← e1, ← e2, ← e3, ← e4]
  have hb1 : Bs w w.heap.size A l := fun k hk => by
    obtain ⟨a1, ad', e, _, h⟩ := hb.out k hk
    refine ⟨a1, ad', e, ?_, h⟩
    have := World.block_lt_of_cell? w _ h
    rwa [add_block] at this
  exact parsehead_any v A w.heap.size c (l.take 16) (w.alloc o) (fun e => by have := hA e; omega) (by show _ = _; rw [List.length_take, hl.out]; omega) ((hb1.take 16).below ((Below.refl _ w).alloc (Nat.le_refl _) o) (Nat.le_refl _))
theorem parse_no (v : Int) (A : Option Addr) (B n c : Nat) (l : List Nat) (w : World) (hA : A = none → c = 0 ∧ n = 0) (hnc : n ≤ c) (hc : c ≤ 9223372036854775807) (hl : Hid (l.length = n)) (hb : Hid (Bs w B A l)) (hn : 16 ≤ n) (hf : n < 16 + Rc.kl v l + Rc.vl v l) :
    Calls Tryz.prog 67 #[.int .i64 v, .slice A n c] w fun e w' => e = .returned (.tuple #[.agg #[.int .i64 0, .slice none 0 0, .slice none 0 0, .int .i64 0], .bool false]) ∧ Below w.heap.size w w' := by
  have hd : decide ((n : Int) < 16) = false := by simp; omega
  have hk := kl_lt v hb.out.lt
  have hv := vl_lt v hb.out.lt
  have HH := Lib.hid (parse_head v A B n c l w hA hl hb hn)
  generalize Rc.kl v l = kl at *
  generalize Rc.vl v l = vl at *
  generalize Rc.kd v l = kd at *
  generalize Rc.xp v l = xp at *
  by_cases hc16 : c = 16
  · subst hc16
    obtain rfl : n = 16 := by omega
    have hd2 : decide ((0 : Int) < (kl : Int) + (vl : Int)) = true := by simp; omega
    go_enter Tryz.func67, Tryz.ntmps67
    go_wp2_with fail
    refine (HH.out _).mono ?_
    rintro e w1 ⟨rfl, hb1⟩
    obtain ⟨hr, hbb, -⟩ := after_head hb1 (.cells #[.int .i64 (kd : Int), .slice none 0 0, .slice none 0 0, .int .i64 (xp : Int)] 55)
    obtain ⟨c0, c1, c2, c3⟩ := four_cells hr
    obtain ⟨f0, f1, f2, f3⟩ := four_frozen hr
    have HR := Lib.hid hr
    have HBB := Lib.hid hbb
    clear hr hbb hb1
    go_wp2_with fail
    (try simp only [Exit.inBlock, Exit.then])
    refine bodyPost_ret (results_row2 rfl _ _ w.heap.size _ _ (0, 0) _ rfl (stored HR.out) Tryz.underlying55 rfl (by kernel_rfl)) rfl ?_
    exact ⟨rfl, HBB.out.trans (below_of_grown (stored_grown _ _ _ _ _ _) (Nat.le_refl _) HBB.out.size)⟩
  · have hd2 : decide ((n : Int) - 16 < (kl : Int) + (vl : Int)) = true := by simp; omega
    go_enter Tryz.func67, Tryz.ntmps67
    go_wp2_with fail
    refine (HH.out _).mono ?_
    rintro e w1 ⟨rfl, hb1⟩
    obtain ⟨hr, hbb, -⟩ := after_head hb1 (.cells #[.int .i64 (kd : Int), .slice none 0 0, .slice none 0 0, .int .i64 (xp : Int)] 55)
    obtain ⟨c0, c1, c2, c3⟩ := four_cells hr
    obtain ⟨f0, f1, f2, f3⟩ := four_frozen hr
    have HR := Lib.hid hr
    have HBB := Lib.hid hbb
    clear hr hbb hb1
    go_wp2_with fail
    (try simp only [Exit.inBlock, Exit.then])
    refine bodyPost_ret (results_row2 rfl _ _ w.heap.size _ _ (0, 0) _ rfl (stored HR.out) Tryz.underlying55 rfl (by kernel_rfl)) rfl ?_
    exact ⟨rfl, HBB.out.trans (below_of_grown (stored_grown _ _ _ _ _ _) (Nat.le_refl _) HBB.out.size)⟩
/-- What parse hands back of bytes that are long enough. -/
def Parsed (w : World) (B : Nat) (v : Int) (l : List Nat) (e : Ending) (w' : World) : Prop :=
  ∃ A1 c1 A2 c2, e = .returned (.tuple #[.agg #[.int .i64 (Rc.kd v l : Int), .slice A1 (Rc.kl v l) c1, .slice A2 (Rc.vl v l) c2, .int .i64 (Rc.xp v l : Int)], .bool true]) ∧ SlIs A1 (Rc.kl v l) c1 ∧ SlIs A2 (Rc.vl v l) c2 ∧ Bs w' B A1 (Rc.sub l 16 (Rc.kl v l)) ∧ Bs w' B A2 (Rc.sub l (16 + Rc.kl v l) (Rc.vl v l)) ∧ Below w.heap.size w w'
set_option maxHeartbeats 1000000 in
theorem parse_ok (v : Int) (A : Option Addr) (B n c : Nat) (l : List Nat) (w : World) (hB : B ≤ w.heap.size) (hA : A = none → c = 0 ∧ n = 0) (hnc : n ≤ c) (hc : c ≤ 9223372036854775807) (hl : Hid (l.length = n)) (hb : Hid (Bs w B A l)) (hn : 16 ≤ n) (hf : 16 + Rc.kl v l + Rc.vl v l ≤ n) :
    Calls Tryz.prog 67 #[.int .i64 v, .slice A n c] w (Parsed w B v l) := by
  have hd : decide ((n : Int) < 16) = false := by simp; omega
  have hk := kl_lt v hb.out.lt
  have hv := vl_lt v hb.out.lt
  have HH := Lib.hid (parse_head v A B n c l w hA hl hb hn)
  unfold Parsed
  generalize Rc.kl v l = kl at *
  generalize Rc.vl v l = vl at *
  generalize Rc.kd v l = kd at *
  generalize Rc.xp v l = xp at *
  by_cases hc16 : c = 16
  · subst hc16
    obtain rfl : n = 16 := by omega
    obtain rfl : kl = 0 := by omega
    obtain rfl : vl = 0 := by omega
    go_enter Tryz.func67, Tryz.ntmps67
    go_wp2_with fail
    refine (HH.out _).mono ?_
    rintro e w1 ⟨rfl, hb1⟩
    have HB1 := Lib.hid hb1
    clear hb1
    go_wp2_with fail
    go_region
    obtain ⟨hr, hbb, -⟩ := after_head HB1.out (.cells #[.int .i64 (kd : Int), .slice A 0 0, .slice A 0 0, .int .i64 (xp : Int)] 55)
    obtain ⟨c0, c1, c2, c3⟩ := four_cells hr
    obtain ⟨f0, f1, f2, f3⟩ := four_frozen hr
    have HR := Lib.hid hr
    have HBB := Lib.hid hbb
    clear hr hbb
    go_wp2_with fail
    (try simp only [Exit.inBlock, Exit.then])
    refine bodyPost_ret (results_row2 rfl _ _ w.heap.size _ _ (0, 0) _ rfl (stored HR.out) Tryz.underlying55 rfl (by kernel_rfl)) rfl ?_
    have HF : Below w.heap.size w _ := HBB.out.trans (below_of_grown (stored_grown (w1.alloc (.cells #[.int .i64 (kd : Int), .slice A 0 0, .slice A 0 0, .int .i64 (xp : Int)] 55)) w.heap.size (.int .i64 (kd : Int)) (.slice A 0 0) (.slice A 0 0) (.int .i64 (xp : Int))) (Nat.le_refl _) HBB.out.size)
    exact ⟨_, _, _, _, rfl, ⟨fun _ => ⟨rfl, rfl⟩, Nat.le_refl _, by omega⟩, ⟨fun _ => ⟨rfl, rfl⟩, Nat.le_refl _, by omega⟩, fun k hk => absurd hk (by simp [Rc.sub]), fun k hk => absurd hk (by simp [Rc.sub]), below_drawn HF 1⟩
  · have hd2 : decide ((n : Int) - 16 < (kl : Int) + (vl : Int)) = false := by simp; omega
    go_enter Tryz.func67, Tryz.ntmps67
    go_wp2_with fail
    refine (HH.out _).mono ?_
    rintro e w1 ⟨rfl, hb1⟩
    have HB1 := Lib.hid hb1
    clear hb1
    have i1 : (kl : Int) ≤ (kl : Int) + (vl : Int) := by omega
    have i2 : (0 : Int) ≤ (kl : Int) := by omega
    have i3 : (kl : Int) + (vl : Int) ≤ ((c - 16 : Nat) : Int) := by omega
    have i4 : (kl : Int) ≤ ((c - 16 : Nat) : Int) := by omega
    go_wp2_with fail
    go_region
    have hadd : (fun x : Addr => (⟨x.block, x.off + 16, none⟩ : Addr)) = fun x => x.add 16 := by
      funext x
      unfold Addr.add
      rw [if_neg (by omega)]
    generalize hA1 : Option.map ((fun x => x) ∘ fun x : Addr => (⟨x.block, x.off + 16, none⟩ : Addr)) A = A1
    generalize hA2 : (if c - 16 = kl then Option.map (fun x : Addr => (⟨x.block, x.off + 16, none⟩ : Addr)) A else Option.map ((fun x => x.add kl) ∘ fun x : Addr => (⟨x.block, x.off + 16, none⟩ : Addr)) A) = A2
    have HA1 : Hid (A1 = A.map (fun x => x.add 16)) := by
      rw [← hA1, hadd]; rfl
    have HA2 : Hid (c - 16 ≠ kl → A2 = (A.map (fun x => x.add 16)).map (fun x => x.add kl)) := fun h => by
      rw [← hA2, if_neg h, hadd, Option.map_map]
    clear hA1 hA2 hadd
    have hS : A = none → False := fun e => by have := hA e; omega
    have hb16 : Bs w B (A.map (fun x => x.add 16)) (l.drop 16) := (hb.out.bsIn.drop 16).bs
    have HS1 : Hid (SlIs A1 kl (c - 16)) := by
      refine ⟨fun e => ?_, by omega, by omega⟩
      rw [HA1.out] at e
      cases A with
      | none => exact (hS rfl).elim
      | some a => cases e
    have HS2 : Hid (SlIs A2 vl (c - 16 - kl)) := by
      refine ⟨fun e => ?_, by omega, by omega⟩
      by_cases h : c - 16 = kl
      · omega
      · rw [HA2.out h] at e
        cases A with
        | none => exact (hS rfl).elim
        | some a => cases e
    have HW1 : Hid (Bs w B A1 (Rc.sub l 16 kl)) := by
      rw [HA1.out]
      exact hb16.take kl
    have HW2 : Hid (Bs w B A2 (Rc.sub l (16 + kl) vl)) := by
      by_cases h : c - 16 = kl
      · obtain rfl : vl = 0 := by omega
        exact fun k hk => absurd hk (by simp [Rc.sub])
      · rw [HA2.out h]
        have h2 := (hb16.bsIn.drop kl).bs.take vl
        rw [List.drop_drop] at h2
        exact h2
    clear hS hb16 HA1 HA2
    obtain ⟨hr, hbb, -⟩ := after_head HB1.out (.cells #[.int .i64 (kd : Int), .slice A1 kl (c - 16), .slice A2 vl (c - 16 - kl), .int .i64 (xp : Int)] 55)
    obtain ⟨c0, c1, c2, c3⟩ := four_cells hr
    obtain ⟨f0, f1, f2, f3⟩ := four_frozen hr
    have HR := Lib.hid hr
    have HBB := Lib.hid hbb
    clear hr hbb
    go_wp2_with fail
    (try simp only [Exit.inBlock, Exit.then])
    refine bodyPost_ret (results_row2 rfl _ _ w.heap.size _ _ (0, 0) _ rfl (stored HR.out) Tryz.underlying55 rfl (by kernel_rfl)) rfl ?_
    have HF : Below w.heap.size w _ := HBB.out.trans (below_of_grown (stored_grown (w1.alloc (.cells #[.int .i64 (kd : Int), .slice A1 kl (c - 16), .slice A2 vl (c - 16 - kl), .int .i64 (xp : Int)] 55)) w.heap.size (.int .i64 (kd : Int)) (.slice A1 kl (c - 16)) (.slice A2 vl (c - 16 - kl)) (.int .i64 (xp : Int))) (Nat.le_refl _) HBB.out.size)
    have HFD := below_drawn HF 1
    exact ⟨_, _, _, _, rfl, HS1.out, HS2.out, HW1.out.below HFD hB, HW2.out.below HFD hB, HFD⟩
end Go.Proofs.YtgnbmmceffolmaaGreatDoor
end
section
namespace Go.Proofs.YtgnbmmceffolmaaGreatDoor
open Go.RowKit

end Go.Proofs.YtgnbmmceffolmaaGreatDoor
end
section
namespace Go.Proofs.YtgnbmmceffolmaaGreatDoor
open Go.RowKit

/-- Nothing was decoded. -/
def NoRec (w : World) (e : Ending) (w' : World) : Prop := e = .returned (.tuple #[.agg #[.int .i64 0, .slice none 0 0, .slice none 0 0, .int .i64 0], .int .i64 0, .bool false]) ∧ Below w.heap.size w w'
theorem decode_early (v seq off : Int) (A : Option Addr) (B n c : Nat) (l : List Nat) (w : World) (hA : A = none → c = 0 ∧ n = 0) (hnc : n ≤ c) (hc : c ≤ 9223372036854775807) (hl : Hid (l.length = n)) (hb : Hid (Bs w B A l)) (hf : ¬ Fits v l) :
    Calls Tryz.prog 36 #[.int .i64 v, .int .i64 seq, .int .i64 off, .slice A n c] w (NoRec w) := by
  have HP : Hid (∀ o : Obj, Calls Tryz.prog 67 #[.int .i64 v, .slice A n c] (w.alloc o) fun e w' => e = .returned (.tuple #[.agg #[.int .i64 0, .slice none 0 0, .slice none 0 0, .int .i64 0], .bool false]) ∧ Below (w.alloc o).heap.size (w.alloc o) w') := fun o => by
    unfold Fits at hf
    rw [hl.out] at hf
    by_cases h : n < 16
    · exact parse_short v A n c _ h
    · exact parse_no v A w.heap.size n c l _ hA hnc hc hl ((bs_own hb.out).below ((Below.refl _ w).alloc (Nat.le_refl _) o) (Nat.le_refl _)) (by omega) (by omega)
  clear hf
  go_enter Tryz.func36, Tryz.ntmps36
  go_wp2_with fail
  refine (HP.out _).mono ?_
  rintro e w1 ⟨rfl, hb1⟩
  obtain ⟨hr, hbb, -⟩ := after_head hb1 (.cells #[.int .i64 0, .slice none 0 0, .slice none 0 0, .int .i64 0] 55)
  obtain ⟨c0, c1, c2, c3⟩ := four_cells hr
  obtain ⟨f0, f1, f2, f3⟩ := four_frozen hr
  have HR := Lib.hid hr
  have HBB := Lib.hid hbb
  clear hr hbb hb1
  go_wp2_with fail
  (try simp only [Exit.inBlock, Exit.then])
  refine bodyPost_ret (results_row3 rfl _ _ w.heap.size _ _ (0, 0) _ rfl (stored HR.out) Tryz.underlying55 rfl (by kernel_rfl)) rfl ?_
  exact ⟨rfl, HBB.out.trans (below_of_grown (stored_grown _ _ _ _ _ _) (Nat.le_refl _) HBB.out.size)⟩
/-- The record that the head tells, checked by its parts' lengths. -/
theorem rec_check (v : Int) (l : List Nat) (h : Fits v l) : Rc.check v (Rc.rec v l) = Rc.chk v (Rc.kd v l : Int) (Rc.kl v l) (Rc.vl v l) (Rc.xp v l : Int) := by
  unfold Rc.check Rc.rec
  simp only
  rw [Rc.sub_length _ _ _ (by have := h.2; omega), Rc.sub_length _ _ _ (by have := h.2; omega)]
set_option maxHeartbeats 1000000 in
theorem decode_bad (v seq off : Int) (A : Option Addr) (B n c : Nat) (l : List Nat) (w : World) (hB : B ≤ w.heap.size) (hA : A = none → c = 0 ∧ n = 0) (hnc : n ≤ c) (hc : c ≤ 9223372036854775807) (hl : Hid (l.length = n)) (hb : Hid (Bs w B A l)) (hf : Fits v l) (hbad : Rc.check v (Rc.rec v l) ≠ 0 ∨ ¬ Rc.place seq off) :
    Calls Tryz.prog 36 #[.int .i64 v, .int .i64 seq, .int .i64 off, .slice A n c] w (NoRec w) := by
  have HP : Hid (∀ o : Obj, Calls Tryz.prog 67 #[.int .i64 v, .slice A n c] (w.alloc o) (Parsed (w.alloc o) B v l)) := fun o => by
    unfold Fits at hf
    rw [hl.out] at hf
    exact parse_ok v A B n c l _ (Nat.le_trans hB ((Below.refl _ w).alloc (Nat.le_refl _) o).size) hA hnc hc hl (hb.out.below ((Below.refl _ w).alloc (Nat.le_refl _) o) hB) hf.1 hf.2
  have HE : Hid (∀ (A1 : Option Addr) (c1 : Nat) (A2 : Option Addr) (c2 : Nat) (W : World), ∃ q : Int, (q != 0) = true ∧ Calls Tryz.prog 68 #[.int .i64 v, .int .i64 seq, .int .i64 off, .agg #[.int .i64 (Rc.kd v l : Int), .slice A1 (Rc.kl v l) c1, .slice A2 (Rc.vl v l) c2, .int .i64 (Rc.xp v l : Int)]] W fun e w' => e = .returned (.tuple #[.slice none 0 0, .int .i64 q]) ∧ Below W.heap.size W w') := fun A1 c1 A2 c2 W => by
    rw [rec_check v l hf] at hbad
    refine ⟨_, ?_, encode_bad v seq off (Rc.kd v l : Int) (Rc.xp v l : Int) A1 (Rc.kl v l) c1 A2 (Rc.vl v l) c2 W hbad⟩
    rw [bne_iff_ne]
    split
    · assumption
    · decide
  go_enter Tryz.func36, Tryz.ntmps36
  go_wp2_with fail
  refine (HP.out _).mono ?_
  rintro e w1 ⟨A1, c1, A2, c2, rfl, hs1, hs2, hw1, hw2, hb1⟩
  obtain ⟨q, hq, HEQ⟩ := HE.out A1 c1 A2 c2 (w1.alloc (.cells #[.int .i64 (Rc.kd v l : Int), .slice A1 (Rc.kl v l) c1, .slice A2 (Rc.vl v l) c2, .int .i64 (Rc.xp v l : Int)] 55))
  have HEQ := Lib.hid HEQ
  obtain ⟨hr, hbb, -⟩ := after_head hb1 (.cells #[.int .i64 (Rc.kd v l : Int), .slice A1 (Rc.kl v l) c1, .slice A2 (Rc.vl v l) c2, .int .i64 (Rc.xp v l : Int)] 55)
  have HR := Lib.hid hr
  have HBB := Lib.hid hbb
  clear hr hbb hb1 hs1 hs2 hw1 hw2
  go_wp2_with fail
  refine HEQ.out.mono ?_
  rintro e w2 ⟨rfl, hb2⟩
  have HR2 : Hid (w2.heap[w.heap.size]? = some (.cells #[.int .i64 0, .slice none 0 0, .slice none 0 0, .int .i64 0] 55 (0, 0))) := (hb2.block _ (Array.getElem?_eq_some_iff.1 HR.out).1).trans HR.out
  have HB2 : Hid (Below w.heap.size w w2) := HBB.out.trans (hb2.mono HBB.out.size)
  obtain ⟨d0, d1, d2, d3⟩ := four_cells HR2.out
  obtain ⟨f0, f1, f2, f3⟩ := four_frozen HR2.out
  clear hb2
  go_wp2_with fail
  (try simp only [Exit.inBlock, Exit.then])
  refine bodyPost_ret (results_row3 rfl _ _ w.heap.size _ _ (0, 0) _ rfl (stored HR2.out) Tryz.underlying55 rfl (by kernel_rfl)) rfl ?_
  exact ⟨rfl, HB2.out.trans (below_of_grown (stored_grown _ _ _ _ _ _) (Nat.le_refl _) HB2.out.size)⟩
set_option maxHeartbeats 1000000 in
theorem decode_other (v seq off : Int) (A : Option Addr) (B n c : Nat) (l : List Nat) (w : World) (hB : B ≤ w.heap.size) (hsq : seq ≤ 9223372036854775807) (hA : A = none → c = 0 ∧ n = 0) (hnc : n ≤ c) (hc : c ≤ 9223372036854775807) (hl : Hid (l.length = n)) (hb : Hid (Bs w B A l)) (ht : Hid (TabW w)) (hz : 0 < w.heap.size) (hf : Fits v l) (hck : Rc.check v (Rc.rec v l) = 0) (hpl : Rc.place seq off)
    (hp : Rc.enc v seq off (Rc.rec v l) ≠ l.take (Rc.len (Rc.rec v l))) :
    Calls Tryz.prog 36 #[.int .i64 v, .int .i64 seq, .int .i64 off, .slice A n c] w (NoRec w) := by
  have HP : Hid (∀ o : Obj, Calls Tryz.prog 67 #[.int .i64 v, .slice A n c] (w.alloc o) (Parsed (w.alloc o) B v l)) := fun o => by
    unfold Fits at hf
    rw [hl.out] at hf
    exact parse_ok v A B n c l _ (Nat.le_trans hB ((Below.refl _ w).alloc (Nat.le_refl _) o).size) hA hnc hc hl (hb.out.below ((Below.refl _ w).alloc (Nat.le_refl _) o) hB) hf.1 hf.2
  have HE : Hid (∀ (A1 : Option Addr) (c1 : Nat) (A2 : Option Addr) (c2 : Nat) (W : World), Below w.heap.size w W → SlIs A1 (Rc.kl v l) c1 → SlIs A2 (Rc.vl v l) c2 → Bs W B A1 (Rc.sub l 16 (Rc.kl v l)) → Bs W B A2 (Rc.sub l (16 + Rc.kl v l) (Rc.vl v l)) →
      Calls Tryz.prog 68 #[.int .i64 v, .int .i64 seq, .int .i64 off, .agg #[.int .i64 (Rc.kd v l : Int), .slice A1 (Rc.kl v l) c1, .slice A2 (Rc.vl v l) c2, .int .i64 (Rc.xp v l : Int)]] W (Encoded W (Rc.enc v seq off (Rc.rec v l)))) := fun A1 c1 A2 c2 W hW h1 h2 h3 h4 =>
    encode_ok v seq off (Rc.kd v l : Int) (Rc.xp v l : Int) _ _ A1 B (Rc.kl v l) c1 A2 (Rc.vl v l) c2 W hck hpl (Nat.le_trans hB hW.size) hsq (Lib.hid ⟨h1, Rc.sub_length _ _ _ (by have := hf.2; omega), h3⟩) (Lib.hid ⟨h2, Rc.sub_length _ _ _ (by have := hf.2; omega), h4⟩) (ht.out.below hW hz) (Nat.lt_of_lt_of_le hz hW.size)
  have HLEN := Lib.hid (Rc.enc_length v seq off (Rc.rec v l))
  have HLT : Hid (∀ x ∈ Rc.enc v seq off (Rc.rec v l), x < 256) := Rc.enc_lt _ _ _ _ (sub_lt hb.out.lt _ _) (sub_lt hb.out.lt _ _)
  have HKL : Hid ((Rc.sub l 16 (Rc.kl v l)).length = Rc.kl v l ∧ (Rc.sub l (16 + Rc.kl v l) (Rc.vl v l)).length = Rc.vl v l) := ⟨Rc.sub_length _ _ _ (by have := hf.2; omega), Rc.sub_length _ _ _ (by have := hf.2; omega)⟩
  have HSM : Hid (Rc.kl v l ≤ 255 ∧ Rc.vl v l ≤ 65536) := by
    have h := Rc.chk_ok hck
    unfold Rc.rec at h
    simp only at h
    rw [HKL.out.1, HKL.out.2] at h
    exact ⟨h.2.2.1, h.2.2.2.1⟩
  have HN : Hid ((Rc.enc v seq off (Rc.rec v l)).length = 16 + Rc.kl v l + Rc.vl v l) := by
    show _ = _
    rw [HLEN.out]
    unfold Rc.len Rc.rec
    simp only
    rw [HKL.out.1, HKL.out.2]
  have HKLT : Hid (∀ x ∈ Rc.sub l 16 (Rc.kl v l), x < 256) := sub_lt hb.out.lt _ _
  have HVLT : Hid (∀ x ∈ Rc.sub l (16 + Rc.kl v l) (Rc.vl v l), x < 256) := sub_lt hb.out.lt _ _
  generalize Rc.enc v seq off (Rc.rec v l) = en at HE HLEN HLT HN hp
  have HPFX := Lib.hid hp
  clear hp hck hpl hf
  unfold Parsed at HP
  generalize Rc.sub l 16 (Rc.kl v l) = key at *
  generalize Rc.sub l (16 + Rc.kl v l) (Rc.vl v l) = val at *
  generalize Rc.kl v l = kl at *
  generalize Rc.vl v l = vl at *
  generalize Rc.kd v l = kd at *
  generalize Rc.xp v l = xp at *
  go_enter Tryz.func36, Tryz.ntmps36
  go_wp2_with fail
  refine (HP.out _).mono ?_
  rintro e w1 ⟨A1, c1, A2, c2, rfl, hs1, hs2, hw1, hw2, hb1⟩
  have HW1 : Hid (Below w1.heap.size w1 (w1.alloc (.cells #[.int .i64 (kd : Int), .slice A1 kl c1, .slice A2 vl c2, .int .i64 (xp : Int)] 55))) := (Below.refl _ _).alloc (Nat.le_refl _) _
  obtain ⟨hr, hbb, hlt1⟩ := after_head hb1 (.cells #[.int .i64 (kd : Int), .slice A1 kl c1, .slice A2 vl c2, .int .i64 (xp : Int)] 55)
  have hB1 : B ≤ w1.heap.size := Nat.le_trans hB (Nat.le_of_lt hlt1)
  have HEQ := Lib.hid (HE.out A1 c1 A2 c2 _ hbb hs1 hs2 (hw1.below HW1.out hB1) (hw2.below HW1.out hB1))
  have HS1 : Hid (SlIs A1 kl c1 ∧ Bs w1 B A1 key) := ⟨hs1, hw1⟩
  have HS2 : Hid (SlIs A2 vl c2 ∧ Bs w1 B A2 val) := ⟨hs2, hw2⟩
  have HR := Lib.hid hr
  have HQ : Hid ((w1.alloc (.cells #[.int .i64 (kd : Int), .slice A1 kl c1, .slice A2 vl c2, .int .i64 (xp : Int)] 55)).heap[w1.heap.size]? = some (.cells #[.int .i64 (kd : Int), .slice A1 kl c1, .slice A2 vl c2, .int .i64 (xp : Int)] 55 (0, 0))) := heap_alloc_new _ _
  have HBB := Lib.hid hbb
  have HLT1 := Lib.hid hlt1
  have HB1 := Lib.hid hB1
  clear hr hbb hb1 hs1 hs2 hw1 hw2 hlt1 hB1
  go_wp2_with fail
  refine HEQ.out.mono ?_
  rintro e w2 ⟨v2, rfl, hown2, hb2⟩
  obtain ⟨A3, c3, rfl, hbs3, hl3, hn3, hm3, ho3⟩ := own_bytes hown2 HLT.out
  have HS3 : Hid (SlIs A3 en.length c3 ∧ Bs w2 w2.heap.size A3 en) := ⟨sl_own hn3 hm3 ho3, hbs3⟩
  have HR2 : Hid (w2.heap[w.heap.size]? = some (.cells #[.int .i64 0, .slice none 0 0, .slice none 0 0, .int .i64 0] 55 (0, 0))) := (hb2.block _ (Array.getElem?_eq_some_iff.1 HR.out).1).trans HR.out
  have HQ2 : Hid (w2.heap[w1.heap.size]? = some (.cells #[.int .i64 (kd : Int), .slice A1 kl c1, .slice A2 vl c2, .int .i64 (xp : Int)] 55 (0, 0))) := (hb2.block _ (Array.getElem?_eq_some_iff.1 HQ.out).1).trans HQ.out
  have HB2 : Hid (Below w.heap.size w w2) := HBB.out.trans (hb2.mono HBB.out.size)
  have HX2 : Hid (Below w1.heap.size w1 w2) := HW1.out.trans (hb2.mono HW1.out.size)
  clear hb2 hbs3 hl3 hn3 hm3 ho3 hown2
  have HPX : Hid (∀ W, W.heap = w2.heap → Calls Tryz.prog 69 #[.slice A n c, .slice A3 en.length c3] W fun e w' => e = .returned (.bool false) ∧ W = w') := fun W e => by
    have h := hasprefix_any A A3 B w2.heap.size n c en.length c3 l en W hA hnc (fun e => (HS3.out.1.1 e).2) hl.out rfl (Lib.hid ((hb.out.below HB2.out hB).heap e)) (Lib.hid (HS3.out.2.heap e))
    refine h.mono ?_
    rintro e' w' ⟨rfl, rfl⟩
    exact ⟨by rw [decide_eq_false (by rw [HLEN.out]; exact HPFX.out)], rfl⟩
  obtain ⟨d0, d1, d2, d3⟩ := four_cells HR2.out
  obtain ⟨f0, f1, f2, f3⟩ := four_frozen HR2.out
  go_wp2_with fail
  refine (HPX.out _ (by rfl)).mono ?_
  rintro e w3 ⟨rfl, rfl⟩
  go_wp2_with fail
  (try simp only [Exit.inBlock, Exit.then])
  refine bodyPost_ret (results_row3 rfl _ _ w.heap.size _ _ (0, 0) _ rfl (stored HR2.out) Tryz.underlying55 rfl (by kernel_rfl)) rfl ?_
  exact ⟨rfl, HB2.out.trans (below_of_grown (stored_grown _ _ _ _ _ _) (Nat.le_refl _) HB2.out.size)⟩
/-- What a decoded record leaves: its key and its value in rows of their own. -/
def GotRec (w : World) (v : Int) (l : List Nat) (e : Ending) (w' : World) : Prop :=
  ∃ A1 c1 A2 c2, e = .returned (.tuple #[.agg #[.int .i64 (Rc.kd v l : Int), .slice A1 (Rc.kl v l) c1, .slice A2 (Rc.vl v l) c2, .int .i64 (Rc.xp v l : Int)], .int .i64 ((16 + Rc.kl v l + Rc.vl v l : Nat) : Int), .bool true]) ∧ SlIs A1 (Rc.kl v l) c1 ∧ SlIs A2 (Rc.vl v l) c2 ∧
    BsIn w' w.heap.size w'.heap.size A1 (Rc.sub l 16 (Rc.kl v l)) ∧ BsIn w' w.heap.size w'.heap.size A2 (Rc.sub l (16 + Rc.kl v l) (Rc.vl v l)) ∧ Below w.heap.size w w'
set_option maxHeartbeats 1000000 in
theorem decode_ok (v seq off : Int) (A : Option Addr) (B n c : Nat) (l : List Nat) (w : World) (hB : B ≤ w.heap.size) (hsq : seq ≤ 9223372036854775807) (hA : A = none → c = 0 ∧ n = 0) (hnc : n ≤ c) (hc : c ≤ 9223372036854775807) (hl : Hid (l.length = n)) (hb : Hid (Bs w B A l)) (ht : Hid (TabW w)) (hz : 0 < w.heap.size) (hf : Fits v l) (hck : Rc.check v (Rc.rec v l) = 0) (hpl : Rc.place seq off)
    (hp : Rc.enc v seq off (Rc.rec v l) = l.take (Rc.len (Rc.rec v l))) :
    Calls Tryz.prog 36 #[.int .i64 v, .int .i64 seq, .int .i64 off, .slice A n c] w (GotRec w v l) := by
  have HP : Hid (∀ o : Obj, Calls Tryz.prog 67 #[.int .i64 v, .slice A n c] (w.alloc o) (Parsed (w.alloc o) B v l)) := fun o => by
    unfold Fits at hf
    rw [hl.out] at hf
    exact parse_ok v A B n c l _ (Nat.le_trans hB ((Below.refl _ w).alloc (Nat.le_refl _) o).size) hA hnc hc hl (hb.out.below ((Below.refl _ w).alloc (Nat.le_refl _) o) hB) hf.1 hf.2
  have HE : Hid (∀ (A1 : Option Addr) (c1 : Nat) (A2 : Option Addr) (c2 : Nat) (W : World), Below w.heap.size w W → SlIs A1 (Rc.kl v l) c1 → SlIs A2 (Rc.vl v l) c2 → Bs W B A1 (Rc.sub l 16 (Rc.kl v l)) → Bs W B A2 (Rc.sub l (16 + Rc.kl v l) (Rc.vl v l)) →
      Calls Tryz.prog 68 #[.int .i64 v, .int .i64 seq, .int .i64 off, .agg #[.int .i64 (Rc.kd v l : Int), .slice A1 (Rc.kl v l) c1, .slice A2 (Rc.vl v l) c2, .int .i64 (Rc.xp v l : Int)]] W (Encoded W (Rc.enc v seq off (Rc.rec v l)))) := fun A1 c1 A2 c2 W hW h1 h2 h3 h4 =>
    encode_ok v seq off (Rc.kd v l : Int) (Rc.xp v l : Int) _ _ A1 B (Rc.kl v l) c1 A2 (Rc.vl v l) c2 W hck hpl (Nat.le_trans hB hW.size) hsq (Lib.hid ⟨h1, Rc.sub_length _ _ _ (by have := hf.2; omega), h3⟩) (Lib.hid ⟨h2, Rc.sub_length _ _ _ (by have := hf.2; omega), h4⟩) (ht.out.below hW hz) (Nat.lt_of_lt_of_le hz hW.size)
  have HLEN := Lib.hid (Rc.enc_length v seq off (Rc.rec v l))
  have HLT : Hid (∀ x ∈ Rc.enc v seq off (Rc.rec v l), x < 256) := Rc.enc_lt _ _ _ _ (sub_lt hb.out.lt _ _) (sub_lt hb.out.lt _ _)
  have HKL : Hid ((Rc.sub l 16 (Rc.kl v l)).length = Rc.kl v l ∧ (Rc.sub l (16 + Rc.kl v l) (Rc.vl v l)).length = Rc.vl v l) := ⟨Rc.sub_length _ _ _ (by have := hf.2; omega), Rc.sub_length _ _ _ (by have := hf.2; omega)⟩
  have HSM : Hid (Rc.kl v l ≤ 255 ∧ Rc.vl v l ≤ 65536) := by
    have h := Rc.chk_ok hck
    unfold Rc.rec at h
    simp only at h
    rw [HKL.out.1, HKL.out.2] at h
    exact ⟨h.2.2.1, h.2.2.2.1⟩
  have HN : Hid ((Rc.enc v seq off (Rc.rec v l)).length = 16 + Rc.kl v l + Rc.vl v l) := by
    show _ = _
    rw [HLEN.out]
    unfold Rc.len Rc.rec
    simp only
    rw [HKL.out.1, HKL.out.2]
  have HKLT : Hid (∀ x ∈ Rc.sub l 16 (Rc.kl v l), x < 256) := sub_lt hb.out.lt _ _
  have HVLT : Hid (∀ x ∈ Rc.sub l (16 + Rc.kl v l) (Rc.vl v l), x < 256) := sub_lt hb.out.lt _ _
  generalize Rc.enc v seq off (Rc.rec v l) = en at HE HLEN HLT HN hp
  have HPFX := Lib.hid hp
  clear hp hck hpl hf
  unfold Parsed at HP
  unfold GotRec
  generalize Rc.sub l 16 (Rc.kl v l) = key at *
  generalize Rc.sub l (16 + Rc.kl v l) (Rc.vl v l) = val at *
  generalize Rc.kl v l = kl at *
  generalize Rc.vl v l = vl at *
  generalize Rc.kd v l = kd at *
  generalize Rc.xp v l = xp at *
  go_enter Tryz.func36, Tryz.ntmps36
  go_wp2_with fail
  refine (HP.out _).mono ?_
  rintro e w1 ⟨A1, c1, A2, c2, rfl, hs1, hs2, hw1, hw2, hb1⟩
  have HW1 : Hid (Below w1.heap.size w1 (w1.alloc (.cells #[.int .i64 (kd : Int), .slice A1 kl c1, .slice A2 vl c2, .int .i64 (xp : Int)] 55))) := (Below.refl _ _).alloc (Nat.le_refl _) _
  obtain ⟨hr, hbb, hlt1⟩ := after_head hb1 (.cells #[.int .i64 (kd : Int), .slice A1 kl c1, .slice A2 vl c2, .int .i64 (xp : Int)] 55)
  have hB1 : B ≤ w1.heap.size := Nat.le_trans hB (Nat.le_of_lt hlt1)
  have HEQ := Lib.hid (HE.out A1 c1 A2 c2 _ hbb hs1 hs2 (hw1.below HW1.out hB1) (hw2.below HW1.out hB1))
  have HS1 : Hid (SlIs A1 kl c1 ∧ Bs w1 B A1 key) := ⟨hs1, hw1⟩
  have HS2 : Hid (SlIs A2 vl c2 ∧ Bs w1 B A2 val) := ⟨hs2, hw2⟩
  have HR := Lib.hid hr
  have HQ : Hid ((w1.alloc (.cells #[.int .i64 (kd : Int), .slice A1 kl c1, .slice A2 vl c2, .int .i64 (xp : Int)] 55)).heap[w1.heap.size]? = some (.cells #[.int .i64 (kd : Int), .slice A1 kl c1, .slice A2 vl c2, .int .i64 (xp : Int)] 55 (0, 0))) := heap_alloc_new _ _
  have HBB := Lib.hid hbb
  have HLT1 := Lib.hid hlt1
  have HB1 := Lib.hid hB1
  clear hr hbb hb1 hs1 hs2 hw1 hw2 hlt1 hB1
  go_wp2_with fail
  refine HEQ.out.mono ?_
  rintro e w2 ⟨v2, rfl, hown2, hb2⟩
  obtain ⟨A3, c3, rfl, hbs3, hl3, hn3, hm3, ho3⟩ := own_bytes hown2 HLT.out
  have HS3 : Hid (SlIs A3 en.length c3 ∧ Bs w2 w2.heap.size A3 en) := ⟨sl_own hn3 hm3 ho3, hbs3⟩
  have HR2 : Hid (w2.heap[w.heap.size]? = some (.cells #[.int .i64 0, .slice none 0 0, .slice none 0 0, .int .i64 0] 55 (0, 0))) := (hb2.block _ (Array.getElem?_eq_some_iff.1 HR.out).1).trans HR.out
  have HQ2 : Hid (w2.heap[w1.heap.size]? = some (.cells #[.int .i64 (kd : Int), .slice A1 kl c1, .slice A2 vl c2, .int .i64 (xp : Int)] 55 (0, 0))) := (hb2.block _ (Array.getElem?_eq_some_iff.1 HQ.out).1).trans HQ.out
  have HB2 : Hid (Below w.heap.size w w2) := HBB.out.trans (hb2.mono HBB.out.size)
  have HX2 : Hid (Below w1.heap.size w1 w2) := HW1.out.trans (hb2.mono HW1.out.size)
  clear hb2 hbs3 hl3 hn3 hm3 ho3 hown2
  have HPX : Hid (∀ W, W.heap = w2.heap → Calls Tryz.prog 69 #[.slice A n c, .slice A3 en.length c3] W fun e w' => e = .returned (.bool true) ∧ W = w') := fun W e => by
    have h := hasprefix_any A A3 B w2.heap.size n c en.length c3 l en W hA hnc (fun e => (HS3.out.1.1 e).2) hl.out rfl (Lib.hid ((hb.out.below HB2.out hB).heap e)) (Lib.hid (HS3.out.2.heap e))
    refine h.mono ?_
    rintro e' w' ⟨rfl, rfl⟩
    exact ⟨by rw [decide_eq_true (by rw [HLEN.out]; exact HPFX.out)], rfl⟩
  go_wp2_with fail
  refine (HPX.out _ (by rfl)).mono ?_
  rintro e w3 ⟨rfl, rfl⟩
  have HK2 : Hid (Bs w2 B A1 key ∧ Bs w2 B A2 val) := ⟨HS1.out.2.below HX2.out HB1.out, HS2.out.2.below HX2.out HB1.out⟩
  have HZ : Hid (w.heap.size < w2.heap.size ∧ w1.heap.size < w2.heap.size) := ⟨(Array.getElem?_eq_some_iff.1 HR2.out).1, (Array.getElem?_eq_some_iff.1 HQ2.out).1⟩
  have CL1 := Lib.hid (clone_at w2 w2.heap.size (Nat.le_refl _) A1 B kl c1 key HS1.out.1 HKL.out.1 (by have := HSM.out; omega) HK2.out.1 HKLT.out)
  have CL2 : Hid (∀ w5, Below w2.heap.size w2 w5 → ∀ (W : World), W.heap = w5.heap → W.os = w5.os → W.tape = w5.tape → W.output = w5.output → Calls Tryz.prog 20 #[.slice A2 vl c2] W fun e w6 => ∃ A6 c6, e = .returned (.slice A6 vl c6) ∧ SlIs A6 vl c6 ∧ BsIn w6 w2.heap.size w6.heap.size A6 val ∧ Below w5.heap.size w5 w6) := fun w5 hb =>
    clone_at w5 w2.heap.size hb.size A2 B vl c2 val HS2.out.1 HKL.out.2 (by have := HSM.out; omega) (HK2.out.2.below hb (Nat.le_trans hB HB2.out.size)) HVLT.out
  obtain ⟨d0, d1, d2, d3⟩ := four_cells HQ2.out
  go_wp2_with fail
  go_region_with (first
    | (go_at_call_of 20 (Value.slice A1 kl c1); refine (CL1.out _ (by rfl) (by rfl) (by rfl) (by rfl)).mono ?_; rintro e w5 ⟨A5, c5, rfl, hs5, hbs5, hb5⟩; have HS5 := Lib.hid (And.intro hs5 hbs5); have HB5 := Lib.hid hb5; obtain ⟨m0, m1, m2, m3⟩ := four_cells ((hb5.block _ HZ.out.2).trans HQ2.out); clear hs5 hbs5 hb5)
    | (go_at_call_of 20 (Value.slice A2 vl c2); refine (CL2.out w5 HB5.out _ (by rfl) (by rfl) (by rfl) (by rfl)).mono ?_; rintro e w6 ⟨A6, c6, rfl, hs6, hbs6, hb6⟩; have HS6 := Lib.hid (And.intro hs6 hbs6); have HB6 : Hid (Below w2.heap.size w2 w6) := HB5.out.trans (hb6.mono HB5.out.size); have HB56 := Lib.hid hb6; obtain ⟨n0, n1, n2, n3⟩ := four_cells ((HB6.out.block _ HZ.out.2).trans HQ2.out); obtain ⟨k0, k1, k2, k3⟩ := four_frozen ((HB6.out.block _ HZ.out.2).trans HQ2.out); clear hs6 hbs6 hb6))
  all_goals
    have hq6 := (HB6.out.block _ HZ.out.2).trans HQ2.out
    have hr6 := (HB6.out.block _ HZ.out.1).trans HR2.out
    have hg7 : w6.grownBy ((w6.setCell ⟨w1.heap.size, 1, none⟩ (.slice A5 kl c5)).setCell ⟨w1.heap.size, 2, none⟩ (.slice A6 vl c6)) (some w1.heap.size) := grown_trans' (grown_set _ _ _ _) (grown_set _ _ _ _)
    have hne : w.heap.size < w1.heap.size := HLT1.out
    have HQ7 : Hid (((w6.setCell ⟨w1.heap.size, 1, none⟩ (.slice A5 kl c5)).setCell ⟨w1.heap.size, 2, none⟩ (.slice A6 vl c6)).heap[w1.heap.size]? = some (.cells #[.int .i64 (kd : Int), .slice A5 kl c5, .slice A6 vl c6, .int .i64 (xp : Int)] 55 (0, 0))) := by
      show _ = _
      simp [World.setCell, Array.getElem?_modify, hq6]
    have HR7 : Hid (((w6.setCell ⟨w1.heap.size, 1, none⟩ (.slice A5 kl c5)).setCell ⟨w1.heap.size, 2, none⟩ (.slice A6 vl c6)).heap[w.heap.size]? = some (.cells #[.int .i64 0, .slice none 0 0, .slice none 0 0, .int .i64 0] 55 (0, 0))) :=
      (hg7.block _ (Array.getElem?_eq_some_iff.1 hr6).1 (fun e => by injection e with e; omega)).trans hr6
    have HB7 : Hid (Below w.heap.size w ((w6.setCell ⟨w1.heap.size, 1, none⟩ (.slice A5 kl c5)).setCell ⟨w1.heap.size, 2, none⟩ (.slice A6 vl c6))) := (HB2.out.trans (HB6.out.mono HB2.out.size)).trans (below_of_grown hg7 (Nat.le_of_lt hne) (HB2.out.trans (HB6.out.mono HB2.out.size)).size)
    have HS7 : Hid (BsIn ((w6.setCell ⟨w1.heap.size, 1, none⟩ (.slice A5 kl c5)).setCell ⟨w1.heap.size, 2, none⟩ (.slice A6 vl c6)) w2.heap.size ((w6.setCell ⟨w1.heap.size, 1, none⟩ (.slice A5 kl c5)).setCell ⟨w1.heap.size, 2, none⟩ (.slice A6 vl c6)).heap.size A5 key ∧
        BsIn ((w6.setCell ⟨w1.heap.size, 1, none⟩ (.slice A5 kl c5)).setCell ⟨w1.heap.size, 2, none⟩ (.slice A6 vl c6)) w2.heap.size ((w6.setCell ⟨w1.heap.size, 1, none⟩ (.slice A5 kl c5)).setCell ⟨w1.heap.size, 2, none⟩ (.slice A6 vl c6)).heap.size A6 val) :=
      ⟨(((HS5.out.2.keep fun b _ h => HB56.out.block b h).wider (Nat.le_refl _) HB56.out.size).keep fun b h1 h2 => hg7.block b h2 (fun e => by injection e with e; have := HZ.out.2; omega)).wider (Nat.le_refl _) hg7.size, (HS6.out.2.keep fun b h1 h2 => hg7.block b h2 (fun e => by injection e with e; have := HZ.out.2; omega)).wider (Nat.le_refl _) hg7.size⟩
    clear hq6 hr6 hg7 hne m0 m1 m2 m3 n0 n1 n2 n3 k0 k1 k2 k3
    generalize (w6.setCell ⟨w1.heap.size, 1, none⟩ (.slice A5 kl c5)).setCell ⟨w1.heap.size, 2, none⟩ (.slice A6 vl c6) = w7 at *
    obtain ⟨m0, m1, m2, m3⟩ := four_cells HQ7.out
    obtain ⟨n0, n1, n2, n3⟩ := four_cells HR7.out
    obtain ⟨k0, k1, k2, k3⟩ := four_frozen HR7.out
    go_wp2_with fail
    (try simp only [Exit.inBlock, Exit.then])
    refine bodyPost_ret (results_row3 rfl _ _ w.heap.size _ _ (0, 0) _ rfl (stored HR7.out) Tryz.underlying55 rfl (by kernel_rfl)) rfl ?_
    have HG8 := stored_grown w7 w.heap.size (.int .i64 (kd : Int)) (.slice A5 kl c5) (.slice A6 vl c6) (.int .i64 (xp : Int))
    have HB8 := HB7.out.trans (below_of_grown HG8 (Nat.le_refl _) HB7.out.size)
    refine ⟨A5, c5, A6, c6, ?_, HS5.out.1, HS6.out.1, ((HS7.out.1.keep fun b h1 h2 => HG8.block b h2 (fun e => by injection e with e; have := HZ.out.1; omega)).wider (Nat.le_of_lt HZ.out.1) HG8.size), ((HS7.out.2.keep fun b h1 h2 => HG8.block b h2 (fun e => by injection e with e; have := HZ.out.1; omega)).wider (Nat.le_of_lt HZ.out.1) HG8.size), HB8⟩
    rw [← HN.out]
    rfl
end Go.Proofs.YtgnbmmceffolmaaGreatDoor
end
section
namespace Go.Proofs.YtgnbmmceffolmaaGreatDoor
open Go.RowKit

theorem rec_len (v : Int) (l : List Nat) (h : Fits v l) : Rc.len (Rc.rec v l) = 16 + Rc.kl v l + Rc.vl v l := by
  unfold Rc.len Rc.rec
  simp only
  rw [Rc.sub_length _ _ _ (by have := h.2; omega), Rc.sub_length _ _ _ (by have := h.2; omega)]
theorem decode_good (v seq off : Int) (A : Option Addr) (B n c : Nat) (l : List Nat) (w : World) (hB : B ≤ w.heap.size) (hsq : seq ≤ 9223372036854775807) (hA : A = none → c = 0 ∧ n = 0) (hnc : n ≤ c) (hc : c ≤ 9223372036854775807) (hl : Hid (l.length = n)) (hb : Hid (Bs w B A l)) (ht : Hid (TabW w)) (hz : 0 < w.heap.size) (hg : Rc.good v seq off l) :
    Calls Tryz.prog 36 #[.int .i64 v, .int .i64 seq, .int .i64 off, .slice A n c] w (GotRec w v l) := by
  obtain ⟨h1, h2, h3, h4, h5⟩ := hg
  exact decode_ok v seq off A B n c l w hB hsq hA hnc hc hl hb ht hz ⟨h1, h2⟩ h3 h4 (by rw [rec_len v l ⟨h1, h2⟩]; exact h5)
theorem decode_not (v seq off : Int) (A : Option Addr) (B n c : Nat) (l : List Nat) (w : World) (hB : B ≤ w.heap.size) (hsq : seq ≤ 9223372036854775807) (hA : A = none → c = 0 ∧ n = 0) (hnc : n ≤ c) (hc : c ≤ 9223372036854775807) (hl : Hid (l.length = n)) (hb : Hid (Bs w B A l)) (ht : Hid (TabW w)) (hz : 0 < w.heap.size) (hg : ¬ Rc.good v seq off l) :
    Calls Tryz.prog 36 #[.int .i64 v, .int .i64 seq, .int .i64 off, .slice A n c] w (NoRec w) := by
  by_cases hf : Fits v l
  · by_cases hc0 : Rc.check v (Rc.rec v l) ≠ 0 ∨ ¬ Rc.place seq off
    · exact decode_bad v seq off A B n c l w hB hA hnc hc hl hb hf hc0
    · have h3 : Rc.check v (Rc.rec v l) = 0 := Decidable.not_not.1 fun h => hc0 (.inl h)
      have h4 : Rc.place seq off := Decidable.not_not.1 fun h => hc0 (.inr h)
      exact decode_other v seq off A B n c l w hB hsq hA hnc hc hl hb ht hz hf h3 h4 (by rw [rec_len v l hf]; exact fun h => hg ⟨hf.1, hf.2, h3, h4, h⟩)
  · exact decode_early v seq off A B n c l w hA hnc hc hl hb hf
/-- Two records in memory, compared by the reference. -/
theorem receq_any (kd x kd' x' : Int) (A1 A2 A3 A4 : Option Addr) (B B' n1 n2 n3 n4 c1 c2 c3 c4 : Nat) (k v k' v' : List Nat) (w : World) (hB : B ≤ w.heap.size) (hB' : B' ≤ w.heap.size)
    (h1 : Hid (k.length = n1 ∧ Bs w B A1 k)) (h2 : Hid (v.length = n2 ∧ Bs w B A2 v)) (h3 : Hid (k'.length = n3 ∧ Bs w B' A3 k')) (h4 : Hid (v'.length = n4 ∧ Bs w B' A4 v'))
    (hn : Hid (n1 ≤ 140737488355328 ∧ n2 ≤ 140737488355328 ∧ n3 ≤ 140737488355328 ∧ n4 ≤ 140737488355328)) :
    Calls Tryz.prog 31 #[.agg #[.int .i64 kd, .slice A1 n1 c1, .slice A2 n2 c2, .int .i64 x], .agg #[.int .i64 kd', .slice A3 n3 c3, .slice A4 n4 c4, .int .i64 x']] w fun e w' => e = .returned (.bool (Rc.same ⟨kd, k, v, x⟩ ⟨kd', k', v', x'⟩)) ∧ Below w.heap.size w w' := by
  have HB : Hid (∀ o o', Below w.heap.size w ((w.alloc o).alloc o')) := fun o o' => ((Below.refl _ _).alloc (Nat.le_refl _) o).alloc (by simp) o'
  have HK : Hid (∀ W, Below w.heap.size w W → Calls Tryz.prog 58 #[.slice A1 n1 c1, .slice A3 n3 c3] W (SaysQuiet (decide (k = k')) W)) := fun W hW =>
    refeq_any A1 A3 B B' n1 n3 c1 c3 k k' W h1.out.1 h3.out.1 hn.out.1 hn.out.2.2.1 (h1.out.2.below hW hB) (h3.out.2.below hW hB')
  have HV : Hid (∀ W, Below w.heap.size w W → Calls Tryz.prog 58 #[.slice A2 n2 c2, .slice A4 n4 c4] W (SaysQuiet (decide (v = v')) W)) := fun W hW =>
    refeq_any A2 A4 B B' n2 n4 c2 c4 v v' W h2.out.1 h4.out.1 hn.out.2.1 hn.out.2.2.2 (h2.out.2.below hW hB) (h4.out.2.below hW hB')
  have hsame : Rc.same ⟨kd, k, v, x⟩ ⟨kd', k', v', x'⟩ = ((kd == kd') && ((x == x') && (decide (k = k') && decide (v = v')))) := by
    unfold Rc.same
    simp only
    congr 1
  rw [hsame]
  clear hsame
  generalize decide (k = k') = bk at HK ⊢
  generalize decide (v = v') = bv at HV ⊢
  by_cases e1 : (kd == kd') = true
  · by_cases e2 : (x == x') = true
    · rw [e1, e2]
      cases bk with
      | true =>
        go_enter Tryz.func31, Tryz.ntmps31
        go_wp2_with fail
        refine (HK.out _ (HB.out _ _)).mono ?_
        rintro e w1 ⟨rfl, q1, rfl⟩
        go_wp2_with fail
        refine (HV.out _ (below_drawn (HB.out _ _) _)).mono ?_
        rintro e w2 ⟨rfl, q2, rfl⟩
        go_wp2
        go_ret
        exact ⟨by simp, below_drawn (HB.out _ _) _⟩
      | false =>
        go_enter Tryz.func31, Tryz.ntmps31
        go_wp2_with fail
        refine (HK.out _ (HB.out _ _)).mono ?_
        rintro e w1 ⟨rfl, q1, rfl⟩
        go_wp2
        go_ret
        exact ⟨by simp, below_drawn (HB.out _ _) _⟩
    · have e2' : (x == x') = false := by simpa using e2
      rw [e1, e2']
      clear e2
      go_enter Tryz.func31, Tryz.ntmps31
      go_wp2
      go_ret
      exact ⟨by simp, HB.out _ _⟩
  · have e1' : (kd == kd') = false := by simpa using e1
    rw [e1']
    clear e1
    go_enter Tryz.func31, Tryz.ntmps31
    go_wp2
    go_ret
    exact ⟨by simp, HB.out _ _⟩
set_option maxHeartbeats 1000000 in
theorem short_any (kd x : Int) (A1 A2 : Option Addr) (n1 n2 c1 c2 m1 m2 : Nat) (w : World) (hs1 : SlIs A1 n1 c1) (hs2 : SlIs A2 n2 c2) (h1 : MinIs n1 260 m1) (h2 : MinIs n2 200 m2) :
    Calls Tryz.prog 16 #[.agg #[.int .i64 kd, .slice A1 n1 c1, .slice A2 n2 c2, .int .i64 x]] w fun e w' => e = .returned (.agg #[.int .i64 kd, .slice A1 m1 c1, .slice A2 m2 c2, .int .i64 x]) ∧ Below w.heap.size w w' := by
  obtain ⟨-, b1, b2⟩ := hs1
  obtain ⟨-, b3, b4⟩ := hs2
  rcases h1 with ⟨i1, rfl⟩ | ⟨i1, rfl⟩
  all_goals
    rcases h2 with ⟨i2, rfl⟩ | ⟨i2, rfl⟩
  all_goals
    go_enter Tryz.func16, Tryz.ntmps16
    go_wp2
    go_region
    go_wp2
    (try simp only [Exit.inBlock, Exit.then])
    refine bodyPost_ret (results_cell_row rfl _ _ (w.heap.size + 1) _ _ (0, 0) _ rfl (alloc_at (w := w.alloc _) (by simp)) Tryz.underlying55 rfl (by kernel_rfl)) rfl ?_
    exact ⟨rfl, below_drawn (((Below.refl _ _).alloc (Nat.le_refl _) _).alloc (by simp) _) 1⟩
end Go.Proofs.YtgnbmmceffolmaaGreatDoor
end
section
namespace Go.Proofs.YtgnbmmceffolmaaGreatDoor
open Go.RowKit
end Go.Proofs.YtgnbmmceffolmaaGreatDoor
end
