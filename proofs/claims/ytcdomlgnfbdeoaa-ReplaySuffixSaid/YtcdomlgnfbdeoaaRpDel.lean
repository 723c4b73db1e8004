/-
  The program's last step: slices.DeleteFunc at pairs, and its closure on the time.
-/
import Derived.Test.YtcdomlgnfbdeoaaTbList
import Derived.Test.YtcdomlgnfbdeoaaRpMath
import Derived.Lib.SlKept
import Derived.Lib.SliceRun
set_option maxRecDepth 100000
namespace Go.Proofs.Ytcdomlgnfbdeoaa
open Go.RowKit
/-- Is a pair to go? -/
def rpx (now : Int) (p : Tb.Pr) : Bool := !Rp.alive now p.2
theorem rpx_zero {now e3 : Int} (k : ByteArray) (e0 e1 e2 : Int) (e4 : Bool) (h : e3 = 0) : rpx now (k, ⟨e0, e1, e2, e3, e4⟩) = false := by
  unfold rpx Rp.alive
  rw [decide_eq_true h]
  rfl
theorem rpx_else {now e3 : Int} (k : ByteArray) (e0 e1 e2 : Int) (e4 : Bool) (h : e3 ≠ 0) : rpx now (k, ⟨e0, e1, e2, e3, e4⟩) = decide (e3 ≤ now) := by
  show (!(decide (e3 = 0) || decide (now < e3))) = decide (e3 ≤ now)
  rw [decide_eq_false h, Bool.false_or]
  by_cases h2 : e3 ≤ now
  · rw [decide_eq_true h2, decide_eq_false (by omega)]; rfl
  · rw [decide_eq_false h2, decide_eq_true (by omega)]; rfl
set_option maxHeartbeats 1000000 in
theorem rphas_any (k : ByteArray) (e0 e1 e2 e3 now : Int) (e4 : Bool) (w : World) :
    Calls Try.prog 18 #[.agg #[.int .i64 e0, .int .i64 e1, .int .i64 e2, .int .i64 e3, .bool e4], .int .i64 now] w
      fun r w' => r = .returned (.bool (rpx now (k, ⟨e0, e1, e2, e3, e4⟩))) ∧ Below w.heap.size w w' := by
  have HS0 := Lib.hid (sd_new w #[.int .i64 e0, .int .i64 e1, .int .i64 e2, .int .i64 e3, .bool e4] 36)
  by_cases h : e3 = 0
  · rw [rpx_zero k e0 e1 e2 e4 h]
    have h2 : (e3 != 0) = false := by rw [h]; rfl
    clear h
    go_enter Try.func18, Try.ntmps18
    go_upto_region 1 with fail
    generalize w.alloc (.cells #[.int .i64 e0, .int .i64 e1, .int .i64 e2, .int .i64 e3, .bool e4] 36) = w0 at *
    obtain ⟨x0, x1, x2, x3, x4⟩ := five_cells HS0.out.1
    go_wp2_with fail
    go_ret
    exact ⟨rfl, HS0.out.2⟩
  · rw [rpx_else k e0 e1 e2 e4 h]
    have h2 : (e3 != 0) = true := bne_iff_ne.2 h
    clear h
    go_enter Try.func18, Try.ntmps18
    go_upto_region 1 with fail
    generalize w.alloc (.cells #[.int .i64 e0, .int .i64 e1, .int .i64 e2, .int .i64 e3, .bool e4] 36) = w0 at *
    obtain ⟨x0, x1, x2, x3, x4⟩ := five_cells HS0.out.1
    go_wp2_with fail
    go_ret
    exact ⟨rfl, HS0.out.2⟩
/-- The box of the time, which the closure holds. -/
def NowAt (w : World) (gn : Nat) (now : Int) : Prop := w.heap[gn]? = some (.cells #[.int .i64 now] 3 (0, 0))
theorem NowAt.next {w w' : World} {gn C : Nat} {now : Int} (h : NowAt w gn now) (hb : Below C w w') (hg : gn < C) : NowAt w' gn now := (hb.block gn hg).trans h
theorem NowAt.lt {w : World} {gn : Nat} {now : Int} (h : NowAt w gn now) : gn < w.heap.size := (Array.getElem?_eq_some_iff.1 h).1
theorem now_cell {w : World} {gn : Nat} {now : Int} (h : NowAt w gn now) : w.cell? ⟨gn, 0, none⟩ = some (.int .i64 now) := by
  rw [cell_of_row _ _ _ _ _ _ h]; rfl
set_option maxHeartbeats 1000000 in
theorem rpclo_any (now : Int) (gn : Nat) (k : ByteArray) (e0 e1 e2 e3 : Int) (e4 : Bool) (w : World) (hl : Hid (NowAt w gn now)) :
    Calls Try.prog 17 #[.agg #[.string k, .int .i64 e0, .int .i64 e1, .int .i64 e2, .int .i64 e3, .bool e4], .pointer (some ⟨gn, 0, none⟩)] w
      fun r w' => r = .returned (.bool (rpx now (k, ⟨e0, e1, e2, e3, e4⟩))) ∧ Below w.heap.size w w' := by
  have HS0 := Lib.hid (sd_new w #[.string k, .int .i64 e0, .int .i64 e1, .int .i64 e2, .int .i64 e3, .bool e4] 38)
  have HL0 : Hid (NowAt (w.alloc (.cells #[.string k, .int .i64 e0, .int .i64 e1, .int .i64 e2, .int .i64 e3, .bool e4] 38)) gn now) := hl.out.next HS0.out.2 hl.out.lt
  have CH := Lib.hid (fun W => rphas_any k e0 e1 e2 e3 now e4 W)
  generalize rpx now (k, ⟨e0, e1, e2, e3, e4⟩) = y at *
  go_enter Try.func17, Try.ntmps17
  go_upto_region 1 with fail
  generalize w.alloc (.cells #[.string k, .int .i64 e0, .int .i64 e1, .int .i64 e2, .int .i64 e3, .bool e4] 38) = w0 at *
  obtain ⟨x0, x1, x2, x3, x4, x5⟩ := six_cells HS0.out.1
  have x6 := now_cell HL0.out
  go_wp2_with fail
  refine (CH.out _).mono ?_
  rintro e w1 ⟨rfl, hb1⟩
  have HB1 : Hid (Below w.heap.size w w1) := HS0.out.2.trans (hb1.mono HS0.out.2.size)
  clear x0 x1 x2 x3 x4 x5 x6 hb1
  go_wp2_with fail
  go_ret
  exact ⟨rfl, HB1.out⟩
set_option maxHeartbeats 2000000 in
theorem rpindex_any (now : Int) (gn g n cap : Nat) (L : List Tb.Pr) (w : World) (hg : g < w.heap.size) (hn : Hid (L.length = n)) (hn2 : n ≤ 100000) (hb : Hid (Arr prS w g (g + 1) (some ⟨g, 0, none⟩) L)) (hl : Hid (NowAt w gn now)) :
    Calls Try.prog 23 #[.slice (some ⟨g, 0, none⟩) n cap, .func (.func 17) #[] #[.pointer (some ⟨gn, 0, none⟩)]] w
      fun r w' => (∃ k : Int, r = .returned (.int .i64 k) ∧ Hid ((k = -1 ∧ ∀ j, j < n → rpx now (L.getD j Tb.Pr0) = false) ∨ ∃ m : Nat, k = (m : Int) ∧ m < n ∧ rpx now (L.getD m Tb.Pr0) = true ∧ ∀ j, j < m → rpx now (L.getD j Tb.Pr0) = false)) ∧ Below w.heap.size w w' := by
  have hgl := Lib.hid hl.out.lt
  go_enter Try.func23, Try.ntmps23
  go_wp2_with fail
  go_loopw [5, 8] (fun _ iv wr => ∃ k : Nat, k ≤ n ∧ iv = .int .i64 (k : Int) ∧ Hid (∀ j, j < k → rpx now (L.getD j Tb.Pr0) = false) ∧ Hid (Below w.heap.size w wr)) (fun _ i _ => n - (Go.RowKit.intOf i).toNat)
  case atStart => exact ⟨0, Nat.zero_le _, rfl, fun j h => absurd h (Nat.not_lt_zero _), Below.refl _ _⟩
  case round =>
    obtain ⟨k, hk, rfl, HK, hbel⟩ := hrel
    by_cases hlt : k < n
    · obtain ⟨⟨kk, ⟨e0, e1, e2, e3, e4⟩⟩, HX⟩ : ∃ p, Hid (L.getD k Tb.Pr0 = p) := ⟨_, rfl⟩
      obtain ⟨m0, m1, m2, m3, m4, m5⟩ := prs_at (hb.out.below hbel.out hg) k (by rw [hn.out]; exact hlt) kk e0 e1 e2 e3 e4 HX.out
      have CC := Lib.hid (rpclo_any now gn kk e0 e1 e2 e3 e4 wr (Lib.hid (hl.out.next hbel.out hgl.out)))
      have HD : Hid (rpx now (L.getD k Tb.Pr0) = rpx now (kk, ⟨e0, e1, e2, e3, e4⟩)) := by show _ = _; rw [HX.out]
      generalize rpx now (kk, ⟨e0, e1, e2, e3, e4⟩) = u at *
      cases u with
      | true =>
        go_wp2_with fail
        refine CC.out.mono ?_
        rintro r w1 ⟨rfl, hb1⟩
        have HB1 : Hid (Below w.heap.size w w1) := hbel.out.trans (hb1.mono hbel.out.size)
        go_wp2_with fail
        go_ret
        exact ⟨⟨_, rfl, .inr ⟨k, rfl, hlt, HD.out, HK.out⟩⟩, HB1.out⟩
      | false =>
        have HK2 : Hid (∀ j, j < k + 1 → rpx now (L.getD j Tb.Pr0) = false) := fun j hj => by
          rcases Nat.lt_or_ge j k with h | h
          · exact HK.out j h
          · rw [show j = k by omega]; exact HD.out
        go_wp2_with fail
        refine CC.out.mono ?_
        rintro r w1 ⟨rfl, hb1⟩
        have HB1 : Hid (Below w.heap.size w w1) := hbel.out.trans (hb1.mono hbel.out.size)
        go_wp2_with fail
        go_roundw
        case rel => exact ⟨k + 1, by omega, by go_num, HK2, HB1⟩
        case measure => simp [Go.RowKit.intOf]; omega
    · obtain rfl : k = n := by omega
      go_wp2_with fail
      go_ret
      exact ⟨⟨_, rfl, .inl ⟨rfl, HK.out⟩⟩, hbel.out⟩
theorem pr_holds_arr {w : World} {g : Nat} {d : Array Tb.Pr} (h : Go.Sort.HoldsK prc 6 w g 0 d) : Arr prS w g (g + 1) (some ⟨g, 0, none⟩) d.toList := fun k hk => by
  rw [Array.length_toList] at hk
  refine ⟨_, rfl, Nat.le_refl _, Nat.lt_succ_self _, fun j v e => ?_⟩
  have hj : j < 6 := by
    rcases Nat.lt_or_ge j 6 with h3 | h3
    · exact h3
    · rw [List.getElem?_eq_none (show (prS.cs (d.toList.getD k prS.z)).length ≤ j from h3)] at e; cases e
  have hc := (h.cell (i := k) (c := j) hk hj).1
  have e4 : d.toList.getD k prS.z = d[k]! := by
    rw [List.getD_eq_getElem?_getD, List.getElem?_eq_getElem (by rw [Array.length_toList]; exact hk), getElem!_pos d k hk]; rfl
  rw [e4] at e
  have e5 : (prc d[k]!)[j]! = v := by
    have h6 : (prc d[k]!)[j]? = some v := e
    rw [getElem!_pos (prc d[k]!) j hj]
    exact (List.getElem?_eq_some_iff.1 h6).2
  rw [e5, Nat.zero_add] at hc
  rw [arr_flat, Nat.zero_add]
  exact hc
theorem pr_froz {w : World} {g : Nat} {d : Array Tb.Pr} (h : Go.Sort.HoldsK prc 6 w g 0 d) (j : Nat) (hj : j < d.size * 6) : w.frozen? ⟨g, j, none⟩ = false := by
  have := (h j (by rw [Go.Sort.size_flatK]; exact hj)).2
  rwa [Nat.zero_add] at this
theorem pr_below {w w' : World} {g C : Nat} {d : Array Tb.Pr} (h : Go.Sort.HoldsK prc 6 w g 0 d) (hb : Below C w w') (hg : g < C) : Go.Sort.HoldsK prc 6 w' g 0 d := fun j hj =>
  ⟨(hb.cell (p := ⟨g, 0 + j, none⟩) hg).trans (h j hj).1, (World.frozen?_of_block (hb.block g hg)).trans (h j hj).2⟩
theorem pr_flat (d : Array Tb.Pr) (i : Nat) (x : Tb.Pr) (hi : i < d.size) : Go.Sort.setMany (Go.Sort.flatK prc 6 d) (i * 6) (prc x) = Go.Sort.flatK prc 6 (d.setIfInBounds i x) := by
  refine Go.Sort.ext_get! (by simp) fun t ht => ?_
  have ht' : t < d.size * 6 := by simpa using ht
  rw [Go.Sort.get_setMany _ _ _ t (by simpa using ht'), Go.Sort.get_flatK _ _ _ t ht', Go.Sort.get_flatK _ _ _ t (by rw [Array.size_setIfInBounds]; exact ht')]
  have hl : (prc x).length = 6 := rfl
  rw [hl]
  by_cases b : t / 6 = i
  · rw [if_pos ((Go.Sort.blk_iff 6 i t (by decide)).2 b), b, Go.Sort.getElem!_set_same d i x hi, show t - i * 6 = t % 6 by omega]
  · rw [if_neg (fun h => b ((Go.Sort.blk_iff 6 i t (by decide)).1 h)), Go.Sort.getElem!_set_other d i (t / 6) x b]
theorem pr_set {w : World} {g : Nat} {d : Array Tb.Pr} (h : Go.Sort.HoldsK prc 6 w g 0 d) (i : Nat) (hi : i < d.size) (x : Tb.Pr) : Go.Sort.HoldsK prc 6 (w.setCells g (i * 6) (prc x)) g 0 (d.setIfInBounds i x) := by
  have hl : (prc x).length = 6 := rfl
  have := holds_setCells_c (W := w) (blk := g) (off := 0) h (i * 6) (prc x) (by rw [hl, Go.Sort.size_flatK]; omega)
  rw [pr_flat d i x hi, Nat.zero_add] at this
  exact this
/-- What DeleteFunc's loop leaves behind j of n pairs. -/
def PDel (t : Int) (L : List Tb.Pr) (g j i : Nat) (dk : Array Tb.Pr) (w : World) : Prop :=
  Go.Lib.KeptInv (fun k => !rpx t L.toArray[k]!) L.toArray j i dk ∧ Go.Sort.HoldsK prc 6 w g 0 dk
theorem pr_arr_get (L : List Tb.Pr) (j : Nat) (hj : j < L.length) : L.toArray[j]! = L.getD j Tb.Pr0 := by
  rw [getElem!_pos L.toArray j (by rw [List.size_toArray]; exact hj), List.getD_eq_getElem?_getD, List.getElem?_eq_getElem hj]
  rfl
theorem pr_list_get (d : Array Tb.Pr) (j : Nat) (hj : j < d.size) : d.toList.getD j Tb.Pr0 = d[j]! := by
  rw [getElem!_pos d j hj, List.getD_eq_getElem?_getD, List.getElem?_eq_getElem (by rw [Array.length_toList]; exact hj)]
  rfl
theorem pdel_start {t : Int} {L : List Tb.Pr} {g m : Nat} {w : World} (hm : m < L.length) (hyes : rpx t (L.getD m Tb.Pr0) = true) (hno : ∀ j, j < m → rpx t (L.getD j Tb.Pr0) = false) (hh : Go.Sort.HoldsK prc 6 w g 0 L.toArray) : PDel t L g (m + 1) m L.toArray w :=
  ⟨Go.Lib.KeptInv.start (fun j hj => by show (!rpx t L.toArray[j]!) = true; rw [pr_arr_get L j (by omega), hno j hj]; rfl) (by show (!rpx t L.toArray[m]!) = false; rw [pr_arr_get L m hm, hyes]; rfl), hh⟩
theorem pdel_skip {t : Int} {L : List Tb.Pr} {g i j : Nat} {dk : Array Tb.Pr} {w w' : World} {C : Nat} (h : PDel t L g j i dk w) (hq : rpx t L.toArray[j]! = true) (hb : Below C w w') (hg : g < C) : PDel t L g (j + 1) i dk w' :=
  ⟨h.1.skip (by show (!rpx t L.toArray[j]!) = false; rw [hq]; rfl), pr_below h.2 hb hg⟩
theorem pdel_keep {t : Int} {L : List Tb.Pr} {g i j : Nat} {dk : Array Tb.Pr} {w w' : World} {C : Nat} (h : PDel t L g j i dk w) (hj : j < L.length) (hq : rpx t L.toArray[j]! = false) (hb : Below C w w') (hg : g < C) :
    PDel t L g (j + 1) (i + 1) (dk.setIfInBounds i L.toArray[j]!) (w'.setCells g (i * 6) (prc L.toArray[j]!)) :=
  ⟨h.1.keep (by rw [List.size_toArray]; exact hj) (by show (!rpx t L.toArray[j]!) = true; rw [hq]; rfl), pr_set (pr_below h.2 hb hg) i (by have h1 := h.1.lt; have h2 : dk.size = L.length := h.1.size.trans (List.size_toArray ..); omega) _⟩
theorem pr_below_cells (g : Nat) : ∀ (vs : List Value) (o : Nat) (w : World), Below g w (w.setCells g o vs)
  | [], _, w => Below.refl _ w
  | v :: r, o, w => ((Below.refl g w).setCell (show g ≤ (⟨g, o, none⟩ : Addr).block from Nat.le_refl _) v).trans (pr_below_cells g r (o + 1) _)
theorem pr_six_froz {w : World} {g : Nat} {d : Array Tb.Pr} (h : Go.Sort.HoldsK prc 6 w g 0 d) (i : Nat) (hi : i < d.size) :
    w.frozen? ⟨g, i * 6, none⟩ = false ∧ w.frozen? ⟨g, i * 6 + 1, none⟩ = false ∧ w.frozen? ⟨g, i * 6 + 2, none⟩ = false ∧ w.frozen? ⟨g, i * 6 + 3, none⟩ = false ∧ w.frozen? ⟨g, i * 6 + 4, none⟩ = false ∧ w.frozen? ⟨g, i * 6 + 5, none⟩ = false :=
  ⟨pr_froz h _ (by omega), pr_froz h _ (by omega), pr_froz h _ (by omega), pr_froz h _ (by omega), pr_froz h _ (by omega), pr_froz h _ (by omega)⟩
theorem pdel_done {t : Int} {L : List Tb.Pr} {g i n : Nat} {dk : Array Tb.Pr} {w : World} (h : PDel t L g n i dk w) (hn : L.length = n) (zs : List Value) :
    (L.filter fun r => !rpx t r).length = i ∧ Arr prS (w.setCells g (i * 6) zs) g (g + 1) (some ⟨g, 0, none⟩) (L.filter fun r => !rpx t r) := by
  have e := Go.Lib.keptUpTo_filter (fun r => !rpx t r) L.toArray
  rw [List.size_toArray, hn, show L.toArray.toList = L from rfl] at e
  have hlen := h.1.len
  have hlow := h.1.low
  have hsz : dk.size = n := h.1.size.trans ((List.size_toArray ..).trans hn)
  have hlt := h.1.lt
  rw [e] at hlen hlow
  refine ⟨hlen, fun k hk => ?_⟩
  rw [hlen] at hk
  refine ⟨_, rfl, Nat.le_refl _, Nat.lt_succ_self _, fun j v hv => ?_⟩
  have hj : j < 6 := by
    rcases Nat.lt_or_ge j 6 with h3 | h3
    · exact h3
    · rw [List.getElem?_eq_none (show (prS.cs _).length ≤ j from h3)] at hv; cases hv
  have e2 : (L.filter fun r => !rpx t r).getD k prS.z = dk.toList.getD k prS.z := by
    rw [List.getD_eq_getElem?_getD, hlow k hk, show prS.z = Tb.Pr0 from rfl, pr_list_get dk k (by omega)]; rfl
  rw [e2] at hv
  obtain ⟨ad, e3, -, -, h4⟩ := pr_holds_arr h.2 k (by rw [Array.length_toList]; omega)
  injection e3 with e3
  subst e3
  have := h4 j v hv
  rw [arr_flat, Nat.zero_add] at this ⊢
  rw [World.cell?_setCells_out g _ _ _ _ (fun _ hge => ?_)]
  · exact this
  · exact Or.inl (show k * 6 + j < i * 6 by omega)
theorem run_clear_pairs {w : World} {g : Nat} {d : Array Tb.Pr} (h : Go.Sort.HoldsK prc 6 w g 0 d) (i n c : Nat) (hn : 0 < n) (hi : i + n ≤ d.size) : ∃ zs, ∀ ty, (Builtin.clear_ #[28] ty #[.slice (some ⟨g, i * 6, none⟩) n c]).run Try.prog w = .ok (.tuple #[]) (w.setCells g (i * 6) zs) := by
  have hv := Try.zeroValue38
  obtain ⟨m, rfl⟩ : ∃ m, n = m + 1 := ⟨n - 1, by omega⟩
  refine ⟨(Builtin.zeroCells (Value.cells (.agg (prc Tb.Pr0).toArray)) (m + 1)).toList, fun ty => ?_⟩
  have hz : (Builtin.zeroCells (Value.cells (.agg (prc Tb.Pr0).toArray)) (m + 1)).toList.length = (m + 1) * 6 := by
    rw [Array.length_toList]
    unfold Builtin.zeroCells
    rw [Array.size_map, Array.size_range]
    rfl
  have h1 : ∀ v ∈ (Builtin.zeroCells (Value.cells (.agg (prc Tb.Pr0).toArray)) (m + 1)).toList, v.oneCell' = true := fun v hvm => by
    unfold Builtin.zeroCells at hvm
    rw [Array.toList_map, List.mem_map] at hvm
    obtain ⟨q, -, rfl⟩ := hvm
    have hq : q % (Value.cells (.agg (prc Tb.Pr0).toArray)).size < (prc Tb.Pr0).length := Nat.mod_lt _ (by decide)
    rw [show (Value.cells (.agg (prc Tb.Pr0).toArray)) = (prc Tb.Pr0).toArray from rfl] at hq ⊢
    rw [getElem!_pos (prc Tb.Pr0).toArray _ (by rw [List.size_toArray]; exact hq)]
    exact prS.one Tb.Pr0 _ (List.getElem_mem _)
  have hst := run_storeCells_cells (P := Try.prog) g (i * 6) (Builtin.zeroCells (Value.cells (.agg (prc Tb.Pr0).toArray)) (m + 1)).toList 0 w
    (fun j hj => by
      have := (h (i * 6 + j) (by rw [Go.Sort.size_flatK]; omega)).1
      rw [Nat.zero_add] at this
      rw [Nat.add_zero, this]; rfl)
    (fun j hj => by
      have := pr_froz h (i * 6 + j) (by omega)
      rwa [Nat.add_zero]) h1
  rw [Nat.add_zero] at hst
  have hv2 : ∀ W, (zeroValue 38).run Try.prog W = .ok (.agg (prc Tb.Pr0).toArray) W := fun W => hv W
  have hu := run_underlying (P := Try.prog) Try.underlying28
  simp [Builtin.clear_, hu, hv2]
  rw [hst]
  rfl
set_option maxHeartbeats 4000000 in
theorem rpdelete_any (now : Int) (gn g n cap : Nat) (L : List Tb.Pr) (w : World) (hn : Hid (L.length = n)) (hn2 : n ≤ 100000) (hcap : n ≤ cap) (hg : g < w.heap.size) (hh : Hid (Go.Sort.HoldsK prc 6 w g 0 L.toArray)) (hlt : gn < g) (hl : Hid (NowAt w gn now)) :
    Calls Try.prog 15 #[.slice (some ⟨g, 0, none⟩) n cap, .func (.func 17) #[] #[.pointer (some ⟨gn, 0, none⟩)]] w
      fun r w' => ∃ m, m = (L.filter fun r => !rpx now r).length ∧ m ≤ n ∧ r = .returned (.slice (some ⟨g, 0, none⟩) m cap) ∧ Arr prS w' g (g + 1) (some ⟨g, 0, none⟩) (L.filter fun r => !rpx now r) ∧ g < w'.heap.size ∧ Below g w w' := by
  have hA : Arr prS w g (g + 1) (some ⟨g, 0, none⟩) L := by
    have := pr_holds_arr hh.out
    rwa [show L.toArray.toList = L from rfl] at this
  have CI := Lib.hid (rpindex_any now gn g n cap L w hg hn hn2 hA hl)
  have HH := Lib.hid hh.out
  have HA := Lib.hid hA
  have HLEN := Lib.hid hn.out
  have HGW := Lib.hid hg
  clear hh hA hn hg
  go_enter Try.func15, Try.ntmps15
  go_wp2_with fail
  refine CI.out.mono ?_
  rintro e w1 ⟨⟨k, rfl, hk⟩, hb1⟩
  have HB1 := Lib.hid hb1
  rcases hk.out with ⟨rfl, hall⟩ | ⟨m, rfl, hm, hyes, hno⟩
  · have HF : Hid ((L.filter fun r => !rpx now r) = L) := List.filter_eq_self.2 fun r hr => by
      obtain ⟨j, hj, rfl⟩ := List.getElem_of_mem hr
      have := hall j (by rw [← HLEN.out]; exact hj)
      rw [List.getD_eq_getElem?_getD, List.getElem?_eq_getElem hj] at this
      rw [show rpx now L[j] = false from this]
      rfl
    clear hk hall
    go_wp2_with fail
    go_ret
    refine ⟨n, by rw [HF.out, HLEN.out], Nat.le_refl _, rfl, by rw [HF.out]; exact HA.out.below HB1.out HGW.out, Nat.lt_of_lt_of_le HGW.out HB1.out.size, HB1.out.mono (Nat.le_of_lt HGW.out)⟩
  · have hm1 : ((m : Int) == -1) = false := by rw [beq_eq_false_iff_ne]; omega
    have HST : Hid (PDel now L g (m + 1) m L.toArray w1) := pdel_start (by rw [HLEN.out]; exact hm) hyes hno (pr_below HH.out HB1.out HGW.out)
    have HB0 : Hid (Below g w w1) := HB1.out.mono (Nat.le_of_lt HGW.out)
    have HG1 : Hid (g < w1.heap.size) := Nat.lt_of_lt_of_le HGW.out HB1.out.size
    clear hk hyes hno HB1 HA HH
    go_wp2_with fail
    go_loopw [5, 6, 7] (fun iv jv _ wr => ∃ (i j : Nat) (dk : Array Tb.Pr), iv = .int .i64 (i : Int) ∧ jv = .int .i64 (j : Int) ∧ j ≤ n ∧ Hid (PDel now L g j i dk wr) ∧ Hid (Below g w wr) ∧ Hid (g < wr.heap.size)) (fun _ j _ _ => n - (intOf j).toNat)
    case atStart => exact ⟨m, m + 1, L.toArray, rfl, by go_num, by omega, HST.out, HB0.out, HG1.out⟩
    case round =>
      clear HST HB0 HG1 HGW
      obtain ⟨i, j, dk, rfl, rfl, hj, HD, HB, HG⟩ := hrel
      generalize wr = wo at *
      have hij := HD.out.1.lt
      have hds : dk.size = n := by rw [HD.out.1.size, List.size_toArray]; exact HLEN.out
      by_cases hlt2 : j < n
      · obtain ⟨⟨kk, ⟨e0, e1, e2, e3, e4⟩⟩, HX⟩ : ∃ p, Hid (L.toArray[j]! = p) := ⟨_, rfl⟩
        obtain ⟨m0, m1, m2, m3, m4, m5⟩ := prs_at (pr_holds_arr HD.out.2) j (by rw [Array.length_toList]; omega) kk e0 e1 e2 e3 e4 (by show dk.toList.getD j Tb.Pr0 = _; rw [pr_list_get dk j (by omega), HD.out.1.high j (by omega)]; exact HX.out)
        go_upto_region 8 with fail
        clear m0 m1 m2 m3 m4 m5
        have HAO : Hid (Below wo.heap.size wo (wo.alloc (.cells #[.string kk, .int .i64 e0, .int .i64 e1, .int .i64 e2, .int .i64 e3, .bool e4] 38))) := (Below.refl _ wo).alloc (Nat.le_refl _) _
        have HBX := Lib.hid (heap_alloc_new wo (.cells #[.string kk, .int .i64 e0, .int .i64 e1, .int .i64 e2, .int .i64 e3, .bool e4] 38))
        generalize wo.alloc (.cells #[.string kk, .int .i64 e0, .int .i64 e1, .int .i64 e2, .int .i64 e3, .bool e4] 38) = wa at *
        obtain ⟨m0, m1, m2, m3, m4, m5⟩ := six_cells HBX.out
        have CC := Lib.hid (rpclo_any now gn kk e0 e1 e2 e3 e4 wa (Lib.hid ((hl.out.next HB.out hlt).next HAO.out (Nat.lt_trans hlt HG.out))))
        cases hq : rpx now (kk, ⟨e0, e1, e2, e3, e4⟩) with
        | true =>
          rw [hq] at CC
          go_wp2_with fail
          refine CC.out.mono ?_
          rintro e w3 ⟨rfl, hb3⟩
          clear m0 m1 m2 m3 m4 m5
          have HB3 : Hid (Below wo.heap.size wo w3) := HAO.out.trans (hb3.mono HAO.out.size)
          have HD3 : Hid (PDel now L g (j + 1) i dk w3) := pdel_skip HD.out (by rw [HX.out]; exact hq) HB3.out HG.out
          go_wp2_with fail
          go_roundw
          case rel => exact ⟨i, j + 1, dk, rfl, by go_num, by omega, HD3.out, HB.out.trans (HB3.out.mono (Nat.le_of_lt HG.out)), Nat.lt_of_lt_of_le HG.out HB3.out.size⟩
          case measure => simp [intOf]; omega
        | false =>
          rw [hq] at CC
          go_wp2_with fail
          refine CC.out.mono ?_
          rintro e w3 ⟨rfl, hb3⟩
          clear m0 m1 m2 m3 m4 m5
          have HB3 : Hid (Below wo.heap.size wo w3) := HAO.out.trans (hb3.mono HAO.out.size)
          have HBX3 := Lib.hid ((hb3.block _ (Array.getElem?_eq_some_iff.1 HBX.out).1).trans HBX.out)
          obtain ⟨m0, m1, m2, m3, m4, m5⟩ := six_cells HBX3.out
          have HH3 : Hid (Go.Sort.HoldsK prc 6 w3 g 0 dk) := pr_below HD.out.2 HB3.out HG.out
          have HDK := Lib.hid (pdel_keep (C := wo.heap.size) HD.out (by rw [HLEN.out]; exact hlt2) (by rw [HX.out]; exact hq) HB3.out HG.out)
          rw [HX.out] at HDK
          have HBS : Hid (Below g w (w3.setCells g (i * 6) (prc (kk, ⟨e0, e1, e2, e3, e4⟩)))) := (HB.out.trans (HB3.out.mono (Nat.le_of_lt HG.out))).trans (pr_below_cells g (prc (kk, ⟨e0, e1, e2, e3, e4⟩)) (i * 6) w3)
          have HZ3 : Hid (g < (w3.setCells g (i * 6) (prc (kk, ⟨e0, e1, e2, e3, e4⟩))).heap.size) := by
            show _ < _
            rw [Go.Sort.size_setCells]
            exact Nat.lt_of_lt_of_le HG.out HB3.out.size
          obtain ⟨⟨qk, ⟨q0, q1, q2, q3, q4⟩⟩, hq0⟩ : ∃ q, dk.toList.getD i Tb.Pr0 = q := ⟨_, rfl⟩
          obtain ⟨n0, n1, n2, n3, n4, n5⟩ := prs_at (pr_holds_arr HH3.out) i (by rw [Array.length_toList]; omega) qk q0 q1 q2 q3 q4 hq0
          obtain ⟨f0, f1, f2, f3, f4, f5⟩ := pr_six_froz HH3.out i (by omega)
          clear hq0 HH3
          go_wp2_with fail
          go_roundw
          case rel => exact ⟨i + 1, j + 1, _, by go_num, by go_num, by omega, HDK, HBS, HZ3⟩
          case measure => simp [intOf]; omega
      · obtain rfl : j = n := by omega
        obtain ⟨zs, hcl⟩ := run_clear_pairs HD.out.2 i (j - i) (cap - i) (by omega) (by omega)
        obtain ⟨hl1, ha1⟩ := pdel_done HD.out HLEN.out zs
        have HA1 := Lib.hid ha1
        have HL1 := Lib.hid hl1
        have HBS : Hid (Below g w (wo.setCells g (i * 6) zs)) := HB.out.trans (pr_below_cells g zs (i * 6) wo)
        have HZ3 : Hid (g < (wo.setCells g (i * 6) zs).heap.size) := by
          show _ < _
          rw [Go.Sort.size_setCells]
          exact HG.out
        have hci : ¬ cap = i := by omega
        clear hl1 ha1 HD HB HG
        go_wp2_with fail
        go_ret
        exact ⟨_, HL1.out.symm, by omega, rfl, HA1.out, HZ3.out, HBS.out⟩
end Go.Proofs.Ytcdomlgnfbdeoaa
