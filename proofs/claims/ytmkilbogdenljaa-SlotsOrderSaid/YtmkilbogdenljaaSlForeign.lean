/-
  The program's Foreign: its closure, slices.IndexFunc and slices.DeleteFunc at regions.
-/
import Derived.Test.YtmkilbogdenljaaSlProg
import Derived.Test.YtmkilbogdenljaaSlCut
import Derived.Lib.SlKept
import Derived.Lib.SliceRun
set_option maxRecDepth 100000
namespace Go.Proofs.Ytmkilbogdenljaa
open Go.RowKit
set_option maxHeartbeats 1000000 in
theorem fgclo_any (t r0 r1 r2 r3 r4 r5 l0 l1 l2 l3 b c d : Int) (gl : Nat) (w : World) (hl : Hid (w.heap[gl]? = some (.cells #[.int .i64 t, .int .i64 b, .int .i64 c, .int .i64 d] 23 (0, 0)))) :
    Calls Try.prog 29 #[.agg #[.int .i64 r0, .int .i64 r1, .int .i64 r2, .int .i64 r3, .int .i64 r4, .int .i64 r5, .int .i64 l0, .int .i64 l1, .int .i64 l2, .int .i64 l3], .pointer (some ⟨gl, 0, none⟩)] w
      fun r w' => r = .returned (.bool (l0 == t)) ∧ Below w.heap.size w w' := by
  have HS0 := Lib.hid (sd_new w #[.int .i64 r0, .int .i64 r1, .int .i64 r2, .int .i64 r3, .int .i64 r4, .int .i64 r5, .int .i64 l0, .int .i64 l1, .int .i64 l2, .int .i64 l3] 40)
  have HL0 : Hid ((w.alloc (.cells #[.int .i64 r0, .int .i64 r1, .int .i64 r2, .int .i64 r3, .int .i64 r4, .int .i64 r5, .int .i64 l0, .int .i64 l1, .int .i64 l2, .int .i64 l3] 40)).heap[gl]? = _) := (heap_alloc_old _ _ (Array.getElem?_eq_some_iff.1 hl.out).1).trans hl.out
  go_enter Try.func29, Try.ntmps29
  go_upto_region 1 with fail
  generalize w.alloc (.cells #[.int .i64 r0, .int .i64 r1, .int .i64 r2, .int .i64 r3, .int .i64 r4, .int .i64 r5, .int .i64 l0, .int .i64 l1, .int .i64 l2, .int .i64 l3] 40) = w0 at *
  obtain ⟨x0, x1, x2, x3, x4, x5, x6, x7, x8, x9⟩ := ten_cells HS0.out.1
  obtain ⟨y0, y1, y2, y3⟩ := four_cells HL0.out
  go_wp2_with fail
  go_ret
  exact ⟨rfl, HS0.out.2⟩
/-- Is a region to go? -/
def dl (t : Int) (r : Gm.R) : Bool := r.l.id == t
theorem foreign_is (t : Sb.L) (live : List Gm.R) : Sl.foreign t live = (Sl.order live).filter fun r => !dl t.id r := by
  unfold Sl.foreign dl
  refine List.filter_congr fun r _ => ?_
  by_cases h : r.l.id = t.id
  · rw [decide_eq_false (fun e => e h)]
    simp [h]
  · rw [decide_eq_true h]
    simp [h]
set_option maxHeartbeats 2000000 in
theorem fgindex_any (t b c d : Int) (gl : Nat) (A : Option Addr) (lo B n cap : Nat) (L : List Gm.R) (w : World) (hB : B ≤ w.heap.size) (hn : Hid (L.length = n)) (hn2 : n ≤ 100000) (hb : Hid (Arr regS w lo B A L)) (hl : Hid (w.heap[gl]? = some (.cells #[.int .i64 t, .int .i64 b, .int .i64 c, .int .i64 d] 23 (0, 0)))) :
    Calls Try.prog 43 #[.slice A n cap, .func (.func 29) #[] #[.pointer (some ⟨gl, 0, none⟩)]] w
      fun r w' => (∃ k : Int, r = .returned (.int .i64 k) ∧ Hid ((k = -1 ∧ ∀ j, j < n → dl t (L.getD j Gm.R0) = false) ∨ ∃ m : Nat, k = (m : Int) ∧ m < n ∧ dl t (L.getD m Gm.R0) = true ∧ ∀ j, j < m → dl t (L.getD j Gm.R0) = false)) ∧ Below w.heap.size w w' := by
  have hgl := Lib.hid (Array.getElem?_eq_some_iff.1 hl.out).1
  go_enter Try.func43, Try.ntmps43
  go_wp2_with fail
  go_loopw [5, 8] (fun _ iv wr => ∃ k : Nat, k ≤ n ∧ iv = .int .i64 (k : Int) ∧ Hid (∀ j, j < k → dl t (L.getD j Gm.R0) = false) ∧ Hid (Below w.heap.size w wr)) (fun _ i _ => n - (Go.RowKit.intOf i).toNat)
  case atStart => exact ⟨0, Nat.zero_le _, rfl, fun j h => absurd h (Nat.not_lt_zero _), Below.refl _ _⟩
  case round =>
    obtain ⟨k, hk, rfl, HK, hbel⟩ := hrel
    by_cases hlt : k < n
    · obtain ⟨ad, rfl⟩ := hb.out.some (k := k) (by rw [hn.out]; exact hlt)
      obtain ⟨⟨r0, r1, r2, r3, r4, r5, ⟨l0, l1, l2, l3⟩⟩, HX⟩ : ∃ p, Hid (L.getD k Gm.R0 = p) := ⟨_, rfl⟩
      obtain ⟨m0, m1, m2, m3, m4, m5, m6, m7, m8, m9⟩ := regs_at (hb.out.below hbel.out hB) k (by rw [hn.out]; exact hlt) _ HX.out
      simp only at m0 m1 m2 m3 m4 m5 m6 m7 m8 m9
      have CC := Lib.hid (fgclo_any t r0 r1 r2 r3 r4 r5 l0 l1 l2 l3 b c d gl wr (Lib.hid (block_next hl.out hbel.out hgl.out)))
      have HD : Hid (dl t (L.getD k Gm.R0) = (l0 == t)) := by show _ = _; rw [HX.out]; rfl
      generalize (l0 == t) = u at *
      cases u with
      | true =>
        go_wp2_with fail
        refine CC.out.mono ?_
        rintro r w1 ⟨rfl, hb1⟩
        have HB1 : Hid (Below w.heap.size w w1) := hbel.out.trans (hb1.mono hbel.out.size)
        go_wp2_with fail
        go_ret
        exact ⟨⟨_, rfl, .inr ⟨k, rfl, hlt, HD.out, HK.out⟩⟩, HB1.out⟩
      | false =>
        have HK2 : Hid (∀ j, j < k + 1 → dl t (L.getD j Gm.R0) = false) := fun j hj => by
          rcases Nat.lt_or_ge j k with h | h
          · exact HK.out j h
          · rw [show j = k by omega]; exact HD.out
        go_wp2_with fail
        refine CC.out.mono ?_
        rintro r w1 ⟨rfl, hb1⟩
        have HB1 : Hid (Below w.heap.size w w1) := hbel.out.trans (hb1.mono hbel.out.size)
        go_wp2_with fail
        go_roundw
        case rel => exact ⟨k + 1, by omega, by go_num, HK2, HB1⟩
        case measure => simp [Go.RowKit.intOf]; omega
    · obtain rfl : k = n := by omega
      go_wp2_with fail
      go_ret
      exact ⟨⟨_, rfl, .inl ⟨rfl, HK.out⟩⟩, hbel.out⟩
theorem holds_arr {w : World} {g : Nat} {d : Array Gm.R} (h : Go.Sort.HoldsK rcs 10 w g 0 d) : Arr regS w g (g + 1) (some ⟨g, 0, none⟩) d.toList := fun k hk => by
  rw [Array.length_toList] at hk
  refine ⟨_, rfl, Nat.le_refl _, Nat.lt_succ_self _, fun j v e => ?_⟩
  have hj : j < 10 := by
    rcases Nat.lt_or_ge j 10 with h3 | h3
    · exact h3
    · rw [List.getElem?_eq_none (show (regS.cs (d.toList.getD k regS.z)).length ≤ j from h3)] at e; cases e
  have hc := (h.cell (i := k) (c := j) hk hj).1
  have e4 : d.toList.getD k regS.z = d[k]! := by
    rw [List.getD_eq_getElem?_getD, List.getElem?_eq_getElem (by rw [Array.length_toList]; exact hk), getElem!_pos d k hk]; rfl
  rw [e4] at e
  have e5 : (rcs d[k]!)[j]! = v := by
    have h6 : (rcs d[k]!)[j]? = some v := e
    rw [getElem!_pos (rcs d[k]!) j hj]
    exact (List.getElem?_eq_some_iff.1 h6).2
  rw [e5, Nat.zero_add] at hc
  rw [arr_flat, Nat.zero_add]
  exact hc
theorem holds_froz {w : World} {g : Nat} {d : Array Gm.R} (h : Go.Sort.HoldsK rcs 10 w g 0 d) (j : Nat) (hj : j < d.size * 10) : w.frozen? ⟨g, j, none⟩ = false := by
  have := (h j (by rw [Go.Sort.size_flatK]; exact hj)).2
  rwa [Nat.zero_add] at this
theorem holds_below {w w' : World} {g C : Nat} {d : Array Gm.R} (h : Go.Sort.HoldsK rcs 10 w g 0 d) (hb : Below C w w') (hg : g < C) : Go.Sort.HoldsK rcs 10 w' g 0 d := fun j hj =>
  ⟨(hb.cell (p := ⟨g, 0 + j, none⟩) hg).trans (h j hj).1, (World.frozen?_of_block (hb.block g hg)).trans (h j hj).2⟩
theorem set_flat (d : Array Gm.R) (i : Nat) (x : Gm.R) (hi : i < d.size) : Go.Sort.setMany (Go.Sort.flatK rcs 10 d) (i * 10) (rcs x) = Go.Sort.flatK rcs 10 (d.setIfInBounds i x) := by
  refine Go.Sort.ext_get! (by simp) fun t ht => ?_
  have ht' : t < d.size * 10 := by simpa using ht
  rw [Go.Sort.get_setMany _ _ _ t (by simpa using ht'), Go.Sort.get_flatK _ _ _ t ht', Go.Sort.get_flatK _ _ _ t (by rw [Array.size_setIfInBounds]; exact ht')]
  have hl : (rcs x).length = 10 := rfl
  rw [hl]
  by_cases b : t / 10 = i
  · rw [if_pos ((Go.Sort.blk_iff 10 i t (by decide)).2 b), b, Go.Sort.getElem!_set_same d i x hi, show t - i * 10 = t % 10 by omega]
  · rw [if_neg (fun h => b ((Go.Sort.blk_iff 10 i t (by decide)).1 h)), Go.Sort.getElem!_set_other d i (t / 10) x b]
theorem holds_set {w : World} {g : Nat} {d : Array Gm.R} (h : Go.Sort.HoldsK rcs 10 w g 0 d) (i : Nat) (hi : i < d.size) (x : Gm.R) : Go.Sort.HoldsK rcs 10 (w.setCells g (i * 10) (rcs x)) g 0 (d.setIfInBounds i x) := by
  have hl : (rcs x).length = 10 := rfl
  have := holds_setCells_c (W := w) (blk := g) (off := 0) h (i * 10) (rcs x) (by rw [hl, Go.Sort.size_flatK]; omega)
  rw [set_flat d i x hi, Nat.zero_add] at this
  exact this
/-- What DeleteFunc's loop leaves behind j of n regions. -/
def Del (t : Int) (L : List Gm.R) (g j i : Nat) (dk : Array Gm.R) (w : World) : Prop :=
  Go.Lib.KeptInv (fun k => !dl t L.toArray[k]!) L.toArray j i dk ∧ Go.Sort.HoldsK rcs 10 w g 0 dk
theorem arr_get (L : List Gm.R) (j : Nat) (hj : j < L.length) : L.toArray[j]! = L.getD j Gm.R0 := by
  rw [getElem!_pos L.toArray j (by rw [List.size_toArray]; exact hj), List.getD_eq_getElem?_getD, List.getElem?_eq_getElem hj]
  rfl
theorem list_get (d : Array Gm.R) (j : Nat) (hj : j < d.size) : d.toList.getD j Gm.R0 = d[j]! := by
  rw [getElem!_pos d j hj, List.getD_eq_getElem?_getD, List.getElem?_eq_getElem (by rw [Array.length_toList]; exact hj)]
  rfl
theorem del_start {t : Int} {L : List Gm.R} {g m : Nat} {w : World} (hm : m < L.length) (hyes : dl t (L.getD m Gm.R0) = true) (hno : ∀ j, j < m → dl t (L.getD j Gm.R0) = false) (hh : Go.Sort.HoldsK rcs 10 w g 0 L.toArray) : Del t L g (m + 1) m L.toArray w :=
  ⟨Go.Lib.KeptInv.start (fun j hj => by show (!dl t L.toArray[j]!) = true; rw [arr_get L j (by omega), hno j hj]; rfl) (by show (!dl t L.toArray[m]!) = false; rw [arr_get L m hm, hyes]; rfl), hh⟩
theorem del_skip {t : Int} {L : List Gm.R} {g i j : Nat} {dk : Array Gm.R} {w w' : World} {C : Nat} (h : Del t L g j i dk w) (hq : dl t L.toArray[j]! = true) (hb : Below C w w') (hg : g < C) : Del t L g (j + 1) i dk w' :=
  ⟨h.1.skip (by show (!dl t L.toArray[j]!) = false; rw [hq]; rfl), holds_below h.2 hb hg⟩
theorem del_keep {t : Int} {L : List Gm.R} {g i j : Nat} {dk : Array Gm.R} {w w' : World} {C : Nat} (h : Del t L g j i dk w) (hj : j < L.length) (hq : dl t L.toArray[j]! = false) (hb : Below C w w') (hg : g < C) :
    Del t L g (j + 1) (i + 1) (dk.setIfInBounds i L.toArray[j]!) (w'.setCells g (i * 10) (rcs L.toArray[j]!)) :=
  ⟨h.1.keep (by rw [List.size_toArray]; exact hj) (by show (!dl t L.toArray[j]!) = true; rw [hq]; rfl), holds_set (holds_below h.2 hb hg) i (by have h1 := h.1.lt; have h2 : dk.size = L.length := h.1.size.trans (List.size_toArray ..); omega) _⟩
theorem below_cells (g : Nat) : ∀ (vs : List Value) (o : Nat) (w : World), Below g w (w.setCells g o vs)
  | [], _, w => Below.refl _ w
  | v :: r, o, w => ((Below.refl g w).setCell (show g ≤ (⟨g, o, none⟩ : Addr).block from Nat.le_refl _) v).trans (below_cells g r (o + 1) _)
theorem ten_froz {w : World} {g : Nat} {d : Array Gm.R} (h : Go.Sort.HoldsK rcs 10 w g 0 d) (i : Nat) (hi : i < d.size) :
    w.frozen? ⟨g, i * 10, none⟩ = false ∧ w.frozen? ⟨g, i * 10 + 1, none⟩ = false ∧ w.frozen? ⟨g, i * 10 + 2, none⟩ = false ∧ w.frozen? ⟨g, i * 10 + 3, none⟩ = false ∧ w.frozen? ⟨g, i * 10 + 4, none⟩ = false ∧ w.frozen? ⟨g, i * 10 + 5, none⟩ = false ∧ w.frozen? ⟨g, i * 10 + 6, none⟩ = false ∧ w.frozen? ⟨g, i * 10 + 7, none⟩ = false ∧ w.frozen? ⟨g, i * 10 + 8, none⟩ = false ∧ w.frozen? ⟨g, i * 10 + 9, none⟩ = false :=
  ⟨holds_froz h _ (by omega), holds_froz h _ (by omega), holds_froz h _ (by omega), holds_froz h _ (by omega), holds_froz h _ (by omega), holds_froz h _ (by omega), holds_froz h _ (by omega), holds_froz h _ (by omega), holds_froz h _ (by omega), holds_froz h _ (by omega)⟩
theorem del_done {t : Int} {L : List Gm.R} {g i n : Nat} {dk : Array Gm.R} {w : World} (h : Del t L g n i dk w) (hn : L.length = n) (zs : List Value) :
    (L.filter fun r => !dl t r).length = i ∧ Arr regS (w.setCells g (i * 10) zs) g (g + 1) (some ⟨g, 0, none⟩) (L.filter fun r => !dl t r) := by
  have e := Go.Lib.keptUpTo_filter (fun r => !dl t r) L.toArray
  rw [List.size_toArray, hn, show L.toArray.toList = L from rfl] at e
  have hlen := h.1.len
  have hlow := h.1.low
  have hsz : dk.size = n := h.1.size.trans ((List.size_toArray ..).trans hn)
  have hlt := h.1.lt
  rw [e] at hlen hlow
  refine ⟨hlen, fun k hk => ?_⟩
  rw [hlen] at hk
  refine ⟨_, rfl, Nat.le_refl _, Nat.lt_succ_self _, fun j v hv => ?_⟩
  have hj : j < 10 := by
    rcases Nat.lt_or_ge j 10 with h3 | h3
    · exact h3
    · rw [List.getElem?_eq_none (show (regS.cs _).length ≤ j from h3)] at hv; cases hv
  have e2 : (L.filter fun r => !dl t r).getD k regS.z = dk.toList.getD k regS.z := by
    rw [List.getD_eq_getElem?_getD, hlow k hk, show regS.z = Gm.R0 from rfl, list_get dk k (by omega)]; rfl
  rw [e2] at hv
  obtain ⟨ad, e3, -, -, h4⟩ := holds_arr h.2 k (by rw [Array.length_toList]; omega)
  injection e3 with e3
  subst e3
  have := h4 j v hv
  rw [arr_flat, Nat.zero_add] at this ⊢
  rw [World.cell?_setCells_out g _ _ _ _ (fun _ hge => ?_)]
  · exact this
  · exact Or.inl (show k * 10 + j < i * 10 by omega)
theorem run_clear_regs {w : World} {g : Nat} {d : Array Gm.R} (h : Go.Sort.HoldsK rcs 10 w g 0 d) (i n c : Nat) (hn : 0 < n) (hi : i + n ≤ d.size) : ∃ zs, ∀ ty, (Builtin.clear_ #[24] ty #[.slice (some ⟨g, i * 10, none⟩) n c]).run Try.prog w = .ok (.tuple #[]) (w.setCells g (i * 10) zs) := by
  have hv := Try.zeroValue40
  obtain ⟨m, rfl⟩ : ∃ m, n = m + 1 := ⟨n - 1, by omega⟩
  refine ⟨(Builtin.zeroCells (Value.cells (.agg (rcs Gm.R0).toArray)) (m + 1)).toList, fun ty => ?_⟩
  have hz : (Builtin.zeroCells (Value.cells (.agg (rcs Gm.R0).toArray)) (m + 1)).toList.length = (m + 1) * 10 := by
    rw [Array.length_toList]
    unfold Builtin.zeroCells
    rw [Array.size_map, Array.size_range]
    rfl
  have h1 : ∀ v ∈ (Builtin.zeroCells (Value.cells (.agg (rcs Gm.R0).toArray)) (m + 1)).toList, v.oneCell' = true := fun v hvm => by
    unfold Builtin.zeroCells at hvm
    rw [Array.toList_map, List.mem_map] at hvm
    obtain ⟨q, -, rfl⟩ := hvm
    have hq : q % (Value.cells (.agg (rcs Gm.R0).toArray)).size < (rcs Gm.R0).length := Nat.mod_lt _ (by decide)
    rw [show (Value.cells (.agg (rcs Gm.R0).toArray)) = (rcs Gm.R0).toArray from rfl] at hq ⊢
    rw [getElem!_pos (rcs Gm.R0).toArray _ (by rw [List.size_toArray]; exact hq)]
    exact regS.one Gm.R0 _ (List.getElem_mem _)
  have hst := run_storeCells_cells (P := Try.prog) g (i * 10) (Builtin.zeroCells (Value.cells (.agg (rcs Gm.R0).toArray)) (m + 1)).toList 0 w
    (fun j hj => by
      have := (h (i * 10 + j) (by rw [Go.Sort.size_flatK]; omega)).1
      rw [Nat.zero_add] at this
      rw [Nat.add_zero, this]; rfl)
    (fun j hj => by
      have := holds_froz h (i * 10 + j) (by omega)
      rwa [Nat.add_zero]) h1
  rw [Nat.add_zero] at hst
  have hv2 : ∀ W, (zeroValue 40).run Try.prog W = .ok (.agg (rcs Gm.R0).toArray) W := fun W => hv W
  have hu := run_underlying (P := Try.prog) Try.underlying24
  simp [Builtin.clear_, hu, hv2]
  rw [hst]
  rfl
set_option maxHeartbeats 4000000 in
theorem fgdelete_any (t b c d : Int) (gl g B n cap : Nat) (L : List Gm.R) (w : World) (hn2 : n ≤ 100000) (hr : ARow regS 40 w B (.slice (some ⟨g, 0, none⟩) n cap) n L) (hlt : gl < g) (hl : Hid (w.heap[gl]? = some (.cells #[.int .i64 t, .int .i64 b, .int .i64 c, .int .i64 d] 23 (0, 0)))) :
    Calls Try.prog 28 #[.slice (some ⟨g, 0, none⟩) n cap, .func (.func 29) #[] #[.pointer (some ⟨gl, 0, none⟩)]] w
      fun r w' => ∃ m c', m = (L.filter fun r => !dl t r).length ∧ r = .returned (.slice (some ⟨g, 0, none⟩) m c') ∧ Arr regS w' g (g + 1) (some ⟨g, 0, none⟩) (L.filter fun r => !dl t r) ∧ g < w'.heap.size ∧ Below g w w' := by
  have hlen := hr.length
  obtain ⟨hh, hg, hB⟩ := reg_holds hr
  have hcap : n ≤ cap := by
    obtain ⟨A1, c1, e, hs, -⟩ := hr.open_
    injection e with _ _ e3
    subst e3
    exact hs.2.1
  have hA : Arr regS w g (g + 1) (some ⟨g, 0, none⟩) L := by
    have := holds_arr hh
    rwa [show L.toArray.toList = L from rfl] at this
  have CI := Lib.hid (fgindex_any t b c d gl (some ⟨g, 0, none⟩) g (g + 1) n cap L w hg hlen hn2 hA hl)
  have HH := Lib.hid hh
  have HA := Lib.hid hA
  have HLEN := Lib.hid hlen
  have HGW := Lib.hid hg
  clear hh hA hr hg hlen
  go_enter Try.func28, Try.ntmps28
  go_wp2_with fail
  refine CI.out.mono ?_
  rintro e w1 ⟨⟨k, rfl, hk⟩, hb1⟩
  have HB1 := Lib.hid hb1
  rcases hk.out with ⟨rfl, hall⟩ | ⟨m, rfl, hm, hyes, hno⟩
  · have HF : Hid ((L.filter fun r => !dl t r) = L) := List.filter_eq_self.2 fun r hr => by
      obtain ⟨j, hj, rfl⟩ := List.getElem_of_mem hr
      have := hall j (by rw [← HLEN.out]; exact hj)
      rw [List.getD_eq_getElem?_getD, List.getElem?_eq_getElem hj] at this
      rw [show dl t L[j] = false from this]
      rfl
    clear hk hall
    go_wp2_with fail
    go_ret
    refine ⟨n, cap, by rw [HF.out, HLEN.out], rfl, by rw [HF.out]; exact HA.out.below HB1.out HGW.out, Nat.lt_of_lt_of_le HGW.out HB1.out.size, HB1.out.mono (Nat.le_of_lt HGW.out)⟩
  · have hm1 : ((m : Int) == -1) = false := by rw [beq_eq_false_iff_ne]; omega
    have HST : Hid (Del t L g (m + 1) m L.toArray w1) := del_start (by rw [HLEN.out]; exact hm) hyes hno (holds_below HH.out HB1.out HGW.out)
    have HB0 : Hid (Below g w w1) := HB1.out.mono (Nat.le_of_lt HGW.out)
    have HG1 : Hid (g < w1.heap.size) := Nat.lt_of_lt_of_le HGW.out HB1.out.size
    clear hk hyes hno HB1 HA HH
    go_wp2_with fail
    go_loopw [5, 6, 7] (fun iv jv _ wr => ∃ (i j : Nat) (dk : Array Gm.R), iv = .int .i64 (i : Int) ∧ jv = .int .i64 (j : Int) ∧ j ≤ n ∧ Hid (Del t L g j i dk wr) ∧ Hid (Below g w wr) ∧ Hid (g < wr.heap.size)) (fun _ j _ _ => n - (intOf j).toNat)
    case atStart => exact ⟨m, m + 1, L.toArray, rfl, by go_num, by omega, HST.out, HB0.out, HG1.out⟩
    case round =>
      clear HST HB0 HG1 HGW
      obtain ⟨i, j, dk, rfl, rfl, hj, HD, HB, HG⟩ := hrel
      generalize wr = wo at *
      have hij := HD.out.1.lt
      have hds : dk.size = n := by rw [HD.out.1.size, List.size_toArray]; exact HLEN.out
      by_cases hlt2 : j < n
      · obtain ⟨⟨r0, r1, r2, r3, r4, r5, ⟨l0, l1, l2, l3⟩⟩, HX⟩ : ∃ p, Hid (L.toArray[j]! = p) := ⟨_, rfl⟩
        obtain ⟨m0, m1, m2, m3, m4, m5, m6, m7, m8, m9⟩ := regs_at (holds_arr HD.out.2) j (by rw [Array.length_toList]; omega) ⟨r0, r1, r2, r3, r4, r5, ⟨l0, l1, l2, l3⟩⟩ (by rw [list_get dk j (by omega), HD.out.1.high j (by omega)]; exact HX.out)
        simp only [arr_flat, Nat.zero_add] at m0 m1 m2 m3 m4 m5 m6 m7 m8 m9
        go_upto_region 8 with fail
        clear m0 m1 m2 m3 m4 m5 m6 m7 m8 m9
        have HAO : Hid (Below wo.heap.size wo (wo.alloc (.cells #[.int .i64 r0, .int .i64 r1, .int .i64 r2, .int .i64 r3, .int .i64 r4, .int .i64 r5, .int .i64 l0, .int .i64 l1, .int .i64 l2, .int .i64 l3] 40))) := (Below.refl _ wo).alloc (Nat.le_refl _) _
        have HBX := Lib.hid (heap_alloc_new wo (.cells #[.int .i64 r0, .int .i64 r1, .int .i64 r2, .int .i64 r3, .int .i64 r4, .int .i64 r5, .int .i64 l0, .int .i64 l1, .int .i64 l2, .int .i64 l3] 40))
        generalize wo.alloc (.cells #[.int .i64 r0, .int .i64 r1, .int .i64 r2, .int .i64 r3, .int .i64 r4, .int .i64 r5, .int .i64 l0, .int .i64 l1, .int .i64 l2, .int .i64 l3] 40) = wa at *
        obtain ⟨m0, m1, m2, m3, m4, m5, m6, m7, m8, m9⟩ := ten_cells HBX.out
        have CC := Lib.hid (fgclo_any t r0 r1 r2 r3 r4 r5 l0 l1 l2 l3 b c d gl wa (Lib.hid (block_next (block_next hl.out HB.out hlt) HAO.out (Nat.lt_trans hlt HG.out))))
        cases hq : (l0 == t) with
        | true =>
          rw [hq] at CC
          go_wp2_with fail
          refine CC.out.mono ?_
          rintro e w3 ⟨rfl, hb3⟩
          clear m0 m1 m2 m3 m4 m5 m6 m7 m8 m9
          have HB3 : Hid (Below wo.heap.size wo w3) := HAO.out.trans (hb3.mono HAO.out.size)
          have HD3 : Hid (Del t L g (j + 1) i dk w3) := del_skip HD.out (by rw [HX.out]; exact hq) HB3.out HG.out
          go_wp2_with fail
          go_roundw
          case rel => exact ⟨i, j + 1, dk, rfl, by go_num, by omega, HD3.out, HB.out.trans (HB3.out.mono (Nat.le_of_lt HG.out)), Nat.lt_of_lt_of_le HG.out HB3.out.size⟩
          case measure => simp [intOf]; omega
        | false =>
          rw [hq] at CC
          go_wp2_with fail
          refine CC.out.mono ?_
          rintro e w3 ⟨rfl, hb3⟩
          clear m0 m1 m2 m3 m4 m5 m6 m7 m8 m9
          have HB3 : Hid (Below wo.heap.size wo w3) := HAO.out.trans (hb3.mono HAO.out.size)
          have HBX3 := Lib.hid (block_next HBX.out hb3 (Array.getElem?_eq_some_iff.1 HBX.out).1)
          obtain ⟨m0, m1, m2, m3, m4, m5, m6, m7, m8, m9⟩ := ten_cells HBX3.out
          have HH3 : Hid (Go.Sort.HoldsK rcs 10 w3 g 0 dk) := holds_below HD.out.2 HB3.out HG.out
          have HDK := Lib.hid (del_keep (C := wo.heap.size) HD.out (by rw [HLEN.out]; exact hlt2) (by rw [HX.out]; exact hq) HB3.out HG.out)
          rw [HX.out] at HDK
          have HBS : Hid (Below g w (w3.setCells g (i * 10) (rcs ⟨r0, r1, r2, r3, r4, r5, ⟨l0, l1, l2, l3⟩⟩))) := (HB.out.trans (HB3.out.mono (Nat.le_of_lt HG.out))).trans (below_cells g (rcs ⟨r0, r1, r2, r3, r4, r5, ⟨l0, l1, l2, l3⟩⟩) (i * 10) w3)
          have HZ3 : Hid (g < (w3.setCells g (i * 10) (rcs ⟨r0, r1, r2, r3, r4, r5, ⟨l0, l1, l2, l3⟩⟩)).heap.size) := by
            show _ < _
            rw [Go.Sort.size_setCells]
            exact Nat.lt_of_lt_of_le HG.out HB3.out.size
          obtain ⟨q, hq0⟩ : ∃ q, dk.toList.getD i Gm.R0 = q := ⟨_, rfl⟩
          obtain ⟨n0, n1, n2, n3, n4, n5, n6, n7, n8, n9⟩ := regs_at (holds_arr HH3.out) i (by rw [Array.length_toList]; omega) q hq0
          simp only [arr_flat, Nat.zero_add] at n0 n1 n2 n3 n4 n5 n6 n7 n8 n9
          obtain ⟨f0, f1, f2, f3, f4, f5, f6, f7, f8, f9⟩ := ten_froz HH3.out i (by omega)
          clear hq0 HH3
          go_wp2_with fail
          go_roundw
          case rel => exact ⟨i + 1, j + 1, _, by go_num, by go_num, by omega, HDK, HBS, HZ3⟩
          case measure => simp [intOf]; omega
      · obtain rfl : j = n := by omega
        obtain ⟨zs, hcl⟩ := run_clear_regs HD.out.2 i (j - i) (cap - i) (by omega) (by omega)
        obtain ⟨hl1, ha1⟩ := del_done HD.out HLEN.out zs
        have HA1 := Lib.hid ha1
        have HL1 := Lib.hid hl1
        have HBS : Hid (Below g w (wo.setCells g (i * 10) zs)) := HB.out.trans (below_cells g zs (i * 10) wo)
        have HZ3 : Hid (g < (wo.setCells g (i * 10) zs).heap.size) := by
          show _ < _
          rw [Go.Sort.size_setCells]
          exact HG.out
        have hci : ¬ cap = i := by omega
        clear hl1 ha1 HD HB HG
        go_wp2_with fail
        go_ret
        exact ⟨_, _, HL1.out.symm, rfl, HA1.out, HZ3.out, HBS.out⟩
set_option maxHeartbeats 1000000 in
/-- An empty row: nothing is deleted. -/
theorem fgnone_any (t b c d : Int) (gl cap : Nat) (A : Option Addr) (w : World) (hl : Hid (w.heap[gl]? = some (.cells #[.int .i64 t, .int .i64 b, .int .i64 c, .int .i64 d] 23 (0, 0)))) :
    Calls Try.prog 28 #[.slice A 0 cap, .func (.func 29) #[] #[.pointer (some ⟨gl, 0, none⟩)]] w
      fun r w' => r = .returned (.slice A 0 cap) ∧ Below w.heap.size w w' := by
  have CI := Lib.hid (fgindex_any t b c d gl A 0 0 0 cap [] w (Nat.zero_le _) rfl (by omega) Arr.nil hl)
  go_enter Try.func28, Try.ntmps28
  go_wp2_with fail
  refine CI.out.mono ?_
  rintro e w1 ⟨⟨k, rfl, hk⟩, hb1⟩
  have HB1 := Lib.hid hb1
  rcases hk.out with ⟨rfl, -⟩ | ⟨m, -, hm, -⟩
  · clear hk
    go_wp2_with fail
    go_ret
    exact ⟨rfl, HB1.out⟩
  · exact absurd hm (Nat.not_lt_zero _)
set_option maxHeartbeats 2000000 in
theorem slforeign_any (a b c d : Int) (A : Option Addr) (lo B n cap : Nat) (live : List Gm.R) (w : World) (hB : B ≤ w.heap.size) (hn : Hid (live.length = n)) (hn2 : n ≤ 15) (hb : Hid (Arr regS w lo B A live)) :
    Calls Try.prog 14 #[.agg #[.int .i64 a, .int .i64 b, .int .i64 c, .int .i64 d], .slice A n cap] w fun e w' => ∃ A' m c', e = .returned (.slice A' m c') ∧ m = (Sl.foreign ⟨a, b, c, d⟩ live).length ∧ Arr regS w' w.heap.size w'.heap.size A' (Sl.foreign ⟨a, b, c, d⟩ live) ∧ Below w.heap.size w w' := by
  rw [foreign_is]
  have CO : Hid (∀ W, Below w.heap.size w W → Calls Try.prog 10 #[.slice A n cap] W (OrdIs W (Sl.order live))) := fun W hW => slorder_any A lo B n cap live W hn hn2 (Lib.hid (hb.out.below hW hB))
  have HS0 := Lib.hid (sd_new w #[.int .i64 a, .int .i64 b, .int .i64 c, .int .i64 d] 23)
  have hmf : ∀ (fn : Fn) (first cap : Array Value) (w : World), (Instr.makeFunc fn first cap).run Try.prog w = .ok (.func fn first cap) w := fun _ _ _ _ => rfl
  have hlen : (Sl.order live).length = n := (Sl.order_length live).trans hn.out
  generalize Sl.order live = L at *
  clear hn hb hB
  go_enter Try.func14, Try.ntmps14
  go_upto_region 1 with fail
  generalize hw0 : w.alloc (.cells #[.int .i64 a, .int .i64 b, .int .i64 c, .int .i64 d] 23) = w0 at *
  have hz0 : w0.heap.size = w.heap.size + 1 := by rw [← hw0]; simp
  have HZ0 := Lib.hid hz0
  clear hw0 hz0
  go_wp2_with fail
  refine (CO.out _ HS0.out.2).mono ?_
  rintro e w1 ⟨v, rfl, hr, hb1⟩
  have HS1 := Lib.hid (HS0.out.next hb1 (by rfl) (by rfl) (by rfl) (by rfl))
  rw [hlen] at hr
  clear hb1 CO HS0
  rcases Nat.eq_zero_or_pos n with h0 | h0
  · subst h0
    obtain ⟨A1, c1, rfl, -⟩ := hr.open_
    obtain rfl : L = [] := List.length_eq_zero_iff.1 hlen
    have CD := Lib.hid (fgnone_any a b c d w.heap.size c1 A1 w1 (Lib.hid HS1.out.1))
    clear hr
    go_wp2_with fail
    refine CD.out.mono ?_
    rintro e w2 ⟨rfl, hb2⟩
    have HB2 : Hid (Below w.heap.size w w2) := HS1.out.2.trans (hb2.mono HS1.out.2.size)
    go_wp2_with fail
    go_ret
    exact ⟨_, _, _, rfl, rfl, Arr.nil, HB2.out⟩
  · obtain ⟨g, c1, rfl, -, -⟩ := hr.box h0
    have hg := (reg_holds hr).2
    have hgl : w.heap.size < g := by have := HZ0.out; omega
    have CD := Lib.hid (fgdelete_any a b c d w.heap.size g w0.heap.size n c1 L w1 (by omega) hr hgl (Lib.hid HS1.out.1))
    clear hr hg
    go_wp2_with fail
    refine CD.out.mono ?_
    rintro e w2 ⟨m, c2, rfl, rfl, ha, hg2, hb2⟩
    have HB2 : Hid (Below w.heap.size w w2) := HS1.out.2.trans (hb2.mono (Nat.le_of_lt hgl))
    have HA2 : Hid (Arr regS w2 w.heap.size w2.heap.size (some ⟨g, 0, none⟩) (L.filter fun r => !dl a r)) := (ha.up (C := w2.heap.size) hg2).down (Nat.le_of_lt hgl)
    clear ha hb2 hg2
    go_wp2_with fail
    go_ret
    exact ⟨_, _, _, rfl, rfl, HA2.out, HB2.out⟩
end Go.Proofs.Ytmkilbogdenljaa
