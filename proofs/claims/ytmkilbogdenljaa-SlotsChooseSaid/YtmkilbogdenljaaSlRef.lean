/-
  The reference's Order, and what it is made of.
-/
import Derived.Test.YtmkilbogdenljaaSlMath
import Derived.Test.YtmkilbogdenljaaGmTaken
import Derived.Test.YtmkilbogdenljaaSetAt
import Derived.Test.YtmkilbogdenljaaKept
import Derived.BigQuiet
import Derived.OwnWalk
set_option maxRecDepth 100000
namespace Go.Proofs.Ytmkilbogdenljaa
open Go.RowKit
/-- A list of flags in a block. -/
def bls (u : List Bool) : List Value := u.map .bool
theorem bls_at {w : World} {g : Nat} {u : List Bool} {t : TypeId} (h : w.heap[g]? = some (.cells (bls u).toArray t (0, 0))) (k : Nat) (hk : k < u.length) : w.cell? ⟨g, k, none⟩ = some (.bool (u.getD k true)) := by
  rw [cell_of_row _ _ _ _ _ _ h, List.getElem?_toArray]
  unfold bls
  rw [List.getElem?_map, List.getD_eq_getElem?_getD, List.getElem?_eq_getElem hk]
  rfl
theorem bls_set {w : World} {g : Nat} {u : List Bool} {t : TypeId} (h : w.heap[g]? = some (.cells (bls u).toArray t (0, 0))) (k : Nat) : (w.setCell ⟨g, k, none⟩ (.bool true)).heap[g]? = some (.cells (bls (u.set k true)).toArray t (0, 0)) := by
  have := set_at h k (.bool true)
  rwa [show (bls u).set k (.bool true) = bls (u.set k true) from (List.map_set ..).symm] at this
theorem info_flag : (Try.prog.info? 4).map (fun i => (i.zero, i.size, i.bytes)) = some (some (.bool false), 1, 1) := by kernel_rfl
theorem info_reg : (Try.prog.info? 40).map (fun i => (i.zero, i.size, i.bytes)) = some (some (.agg (rcs Gm.R0).toArray), regS.m, 80) := by kernel_rfl
theorem made_flags (n : Nat) (hn : n ≤ 1000000) (W : World) : (Instr.makeSlice 36 (.int .i64 (n : Int)) (.int .i64 (n : Int))).run Try.prog W = .ok (.slice (some ⟨W.heap.size, 0, none⟩) n n) (W.alloc (.cells (bls (List.replicate n false)).toArray 4)) := by
  obtain ⟨i0, hi0, hz0, hz1, hz2⟩ := info_parts info_flag
  have h := run_make (P := Try.prog) W 36 4 i0 (.bool false) Try.underlying36 hi0 hz0 .i64 .i64 (n : Int) (n : Int) (by omega) (by omega) (by rw [hz2]; omega) (by omega)
  rw [hz1, Int.toNat_natCast, Nat.mul_one] at h
  rw [h]
  have e := toList_madeCells_one (.bool false) n
  rw [show madeCells (Value.cells (.bool false)) n = (bls (List.replicate n false)).toArray from by
    rw [← Array.toArray_toList (xs := madeCells (Value.cells (.bool false)) n), show Value.cells (.bool false) = #[.bool false] from rfl, e]
    unfold bls
    rw [List.map_replicate]]
/-- What a function returns that gives a list of regions. -/
def OrdIs (w : World) (l : List Gm.R) (r : Ending) (w' : World) : Prop := ∃ v, r = .returned v ∧ ARow regS 40 w' w.heap.size v l.length l ∧ Below w.heap.size w w'
theorem ord_mono {t : TypeId} {w : World} {b b' n : Nat} {v : Value} {l : List Gm.R} (h : ARow regS t w b v n l) (hb : b' ≤ b) : ARow regS t w b' v n l := ownsRow_mono h hb
theorem sd_run {w w1 : World} {r : Nat} {o : Obj} (h : Sd w r o w1) (k : Nat) : Sd w r o (w1.drewN k) := ⟨h.1, below_drawn h.2 k⟩
/-- A flag set: the row of regions stays, it lies elsewhere. -/
theorem sd_flag {w w1 : World} {u : List Bool} {t : TypeId} (h : Sd w w.heap.size (.cells (bls u).toArray t (0, 0)) w1) (k : Nat) : Sd w w.heap.size (.cells (bls (u.set k true)).toArray t (0, 0)) (w1.setCell ⟨w.heap.size, k, none⟩ (.bool true)) :=
  ⟨bls_set h.1 k, h.2.setCell (Nat.le_refl _) _⟩
theorem ord_past {t : TypeId} {w : World} {b n g : Nat} {v : Value} {l : List Gm.R} (h : ARow regS t w b v n l) (hg : g < b) (o : Nat) (x : Value) : ARow regS t (w.setCell ⟨g, o, none⟩ x) b v n l := by
  refine ⟨h.1, ?_⟩
  rcases h.2 with h0 | ⟨m, cap, cur, h1, h2, h3, h4⟩
  · exact .inl h0
  · exact .inr ⟨m, cap, cur, h1, h2, set_past h3 (by omega) o x, h4⟩
set_option maxHeartbeats 4000000 in
theorem refslorder_any (A : Option Addr) (lo B n cap : Nat) (live : List Gm.R) (w : World) (hB : B ≤ w.heap.size) (hn : Hid (live.length = n)) (hn2 : n ≤ 100000) (hb : Hid (Arr regS w lo B A live)) :
    Calls Try.prog 11 #[.slice A n cap] w (OrdIs w (Sl.order live)) := by
  have hmk := made_flags n (by omega) w
  have HS0 := Lib.hid (sd_new w (bls (List.replicate n false)).toArray 4)
  have HA0 : Hid (Sl.At live (List.replicate n false) 0) := by rw [← hn.out]; exact Sl.at_zero live
  have HNX : Hid (∀ u j b, Sl.At live u j → j < n → Sl.Best u live n b → ∃ k : Nat, b = (k : Int) ∧ k < n ∧ u.getD k true = false ∧ Sl.At live (u.set k true) (j + 1) ∧ (Sl.order live).take (j + 1) = (Sl.order live).take j ++ [live.getD k Gm.R0]) := fun u j b h1 h2 h3 => by
    have := hn.out
    subst this
    exact Sl.at_next h1 h2 h3
  have HEND : Hid ((Sl.order live).take n = Sl.order live ∧ (Sl.order live).length = n) := by
    have := Sl.order_length live
    rw [hn.out] at this
    exact ⟨List.take_of_length_le (by omega), this⟩
  have HTL : Hid (∀ j, j ≤ n → ((Sl.order live).take j).length = j) := fun j hj => by rw [List.length_take, HEND.out.2]; omega
  unfold OrdIs
  rw [← HEND.out.1]
  generalize Sl.order live = L at *
  go_enter Try.func11, Try.ntmps11
  go_upto_region 3 with fail
  generalize w.alloc (.cells (bls (List.replicate n false)).toArray 4) = w0 at *
  clear hmk
  go_wp2_with fail
  go_loopw [3, 12] (fun ov iv wr => ∃ (j : Nat) (u : List Bool), j ≤ n ∧ iv = .int .i64 (j : Int) ∧ Hid (Sl.At live u j) ∧ Hid (ARow regS 40 wr (w.heap.size + 1) ov j (L.take j)) ∧ Hid (Sd w w.heap.size (.cells (bls u).toArray 4 (0, 0)) wr)) (fun _ i _ => n - (intOf i).toNat)
  case atStart => exact ⟨0, _, Nat.zero_le _, rfl, HA0, ARow.nil _ _, HS0⟩
  case round =>
    clear HS0 HA0
    obtain ⟨j, u, hj, rfl, HA, HR, HS⟩ := hrel
    generalize wr = wo at *
    by_cases hlt : j < n
    · have hltd : decide ((j : Int) < (n : Int)) = true := decide_eq_true (by omega)
      go_wp2_with fail
      go_loopw [5, 16] (fun bv iv wx => ∃ (i : Nat) (b : Int), i ≤ n ∧ iv = .int .i64 (i : Int) ∧ bv = .int .i64 b ∧ Hid (Sl.Best u live i b) ∧ Hid (∃ m, wx = wo.drewN m)) (fun _ i _ => n - (intOf i).toNat)
      case atStart => exact ⟨0, -1, Nat.zero_le _, rfl, rfl, Sl.best_zero u live, 0, rfl⟩
      case round =>
        obtain ⟨i, b, hi, rfl, rfl, HBE, HW⟩ := hrel
        generalize wr = wq at *
        obtain ⟨m, hw⟩ := HW.out
        have HSX : Hid (Sd w w.heap.size (.cells (bls u).toArray 4 (0, 0)) wq) := by rw [hw]; exact sd_run HS.out m
        have HRX : Hid (ARow regS 40 wq (w.heap.size + 1) u3 j (L.take j)) := by rw [hw]; exact HR.out.heap rfl
        have HBX : Hid (Arr regS wq lo B A live) := hb.out.below HSX.out.2 hB
        have HWN : Hid (∀ q, ∃ m, wq.drewN q = wo.drewN m) := fun q => ⟨m + q, by rw [hw, World.drewN_drewN]⟩
        have HUL : Hid (u.length = n) := HA.out.len.trans hn.out
        by_cases hlt2 : i < n
        · obtain ⟨t, ht⟩ : ∃ t, u.getD i true = t := ⟨_, rfl⟩
          have z0 := bls_at HSX.out.1 i (by rw [HUL.out]; exact hlt2)
          rw [ht] at z0
          have HT := Lib.hid ht
          clear hw ht
          cases t with
          | true =>
            have HBN := Lib.hid (Sl.best_used HBE.out HT.out)
            clear HBE HT
            go_wp2_with fail
            go_quiet (fail)
            go_wp2_with fail
            exact ⟨⟨i + 1, b, by omega, by go_num, rfl, HBN, HWN.out _⟩, by simp [intOf]; omega⟩
          | false =>
            rcases Sl.best_num HBE.out with hb1 | ⟨k, rfl, hk⟩
            · have HBN : Hid (Sl.Best u live (i + 1) (i : Int)) := Sl.best_first (hb1 ▸ HBE.out) HT.out
              have hneg : decide (b < 0) = true := decide_eq_true (by omega)
              clear HBE HT hb1
              go_wp2_with fail
              go_quiet (fail)
              go_wp2_with fail
              exact ⟨⟨i + 1, (i : Int), by omega, by go_num, rfl, HBN, HWN.out _⟩, by simp [intOf]; omega⟩
            · obtain ⟨ad, rfl⟩ := HBX.out.some (k := i) (by rw [hn.out]; exact hlt2)
              have hneg : decide ((k : Int) < 0) = false := decide_eq_false (by omega)
              obtain ⟨p, hp⟩ : ∃ p, live.getD i Gm.R0 = p := ⟨_, rfl⟩
              obtain ⟨q, hq⟩ : ∃ q, live.getD k Gm.R0 = q := ⟨_, rfl⟩
              obtain ⟨-, -, -, m0, -⟩ := regs_at HBX.out i (by rw [hn.out]; exact hlt2) p hp
              obtain ⟨-, -, -, m1, -⟩ := regs_at HBX.out k (by rw [hn.out]; omega) q hq
              have hkn : k < n := by omega
              cases hc : decide (p.seq < q.seq) with
              | true =>
                have HBN : Hid (Sl.Best u live (i + 1) (i : Int)) := Sl.best_less HBE.out HT.out (by rw [hp, hq]; exact of_decide_eq_true hc)
                clear HBE HT hp hq
                go_wp2_with fail
                go_quiet (fail)
                go_wp2_with fail
                exact ⟨⟨i + 1, (i : Int), by omega, by go_num, rfl, HBN, HWN.out _⟩, by simp [intOf]; omega⟩
              | false =>
                have HBN : Hid (Sl.Best u live (i + 1) (k : Int)) := Sl.best_more HBE.out (by rw [hp, hq]; have := of_decide_eq_false hc; omega)
                clear HBE HT hp hq
                go_wp2_with fail
                go_quiet (fail)
                go_wp2_with fail
                exact ⟨⟨i + 1, (k : Int), by omega, by go_num, rfl, HBN, HWN.out _⟩, by simp [intOf]; omega⟩
        · obtain rfl : i = n := by omega
          clear hw
          obtain ⟨k, rfl, hk, -, hA2, hT2⟩ := HNX.out u j b HA.out hlt HBE.out
          have HA2 := Lib.hid hA2
          have HT2 := Lib.hid hT2
          have HS2 := Lib.hid (sd_flag HSX.out k)
          have HR2 := Lib.hid (ord_past HRX.out (g := w.heap.size) (Nat.lt_succ_self _) k (.bool true))
          have f0 : wq.frozen? ⟨w.heap.size, k, none⟩ = false := frozen_of_row _ _ _ _ _ HSX.out.1
          have z0 := bls_at HSX.out.1 k (by rw [HUL.out]; exact hk)
          clear hA2 hT2 HNX HBE HWN HRX HW HR HS HA
          go_upto_region 13 with fail
          have HBX2 : Hid (Arr regS (wq.setCell ⟨w.heap.size, k, none⟩ (.bool true)) lo B A live) := hb.out.below HS2.out.2 hB
          clear HSX HBX f0 z0
          generalize wq.setCell ⟨w.heap.size, k, none⟩ (.bool true) = ws at *
          obtain ⟨ad, rfl⟩ := HBX2.out.some (k := k) (by rw [hn.out]; exact hk)
          obtain ⟨p, hp⟩ : ∃ p, live.getD k Gm.R0 = p := ⟨_, rfl⟩
          obtain ⟨m0, m1, m2, m3, m4, m5, m6, m7, m8, m9⟩ := regs_at HBX2.out k (by rw [hn.out]; exact hk) p hp
          rw [hp] at HT2
          have HSB : Hid (Sd w w.heap.size _ (ws.alloc (.cells (rcs p).toArray 40))) := HS2.out.next ((Below.refl _ ws).alloc (Nat.le_refl _) _) rfl rfl rfl rfl
          have HRB := Lib.hid (HR2.out.made (.cells (rcs p).toArray 40))
          have HGB : Hid ((ws.alloc (.cells (rcs p).toArray 40)).heap[ws.heap.size]? = some (.cells (regS.cs p).toArray 40 (0, 0))) := heap_alloc_new _ _
          clear hp HBX2 HS2 HR2
          go_wp2_with (at_builtin; refine wpList_append_arr (S := regS) 24 Try.underlying24 info_reg rfl rfl (.tmp 48) (.tmp 53) rfl ws.heap.size 1 p rfl HRB.out rfl HGB.out (by unfold maxLen; omega) (by omega) HSB.out.lt ?_; intro v4 w4 hr4 hb4 hx4)
          have HR4 := Lib.hid hr4
          have HS4 : Hid (Sd w w.heap.size _ w4) := ⟨block_next HSB.out.1 hb4 (Nat.lt_succ_self _), HSB.out.2.trans (hb4.mono (Nat.le_succ _))⟩
          clear hr4 hb4 hx4 HRB HGB HSB
          go_wp2_with fail
          exact ⟨⟨j + 1, u.set k true, by omega, by go_num, HA2, by rw [HT2.out]; exact HR4, HS4⟩, by simp [intOf]; omega⟩
    · obtain rfl : j = n := by omega
      go_wp2_with fail
      go_ret
      exact ⟨_, rfl, by rw [HTL.out _ (Nat.le_refl _)]; exact ord_mono HR.out (Nat.le_succ _), HS.out.2⟩
end Go.Proofs.Ytmkilbogdenljaa
