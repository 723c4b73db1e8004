/-
  FlashKeep: flashdev's survivors: how many bytes of each dirty sector a crash keeps.
  FlashSurv: The walk of flashdev's survivors.
  CrashMath: What a crash leaves of a device's contents: plain lists.
-/
import Derived.Test.YtpidbakjpfngnaaDoorFlashA
import Derived.OwnWalk
section
set_option maxRecDepth 100000
namespace Go.Proofs.YtpidbakjpfngnaaDoor
open Go.RowKit Go.Maps

/-- Bools, and pairs of integers, read through a slice. -/
def Bls (w : World) (B : Nat) (A : Option Addr) (l : List Bool) : Prop := ∀ k, k < l.length → ∃ ad, A = some ad ∧ ad.block < B ∧ w.cell? (ad.add k) = some (.bool (l.getD k false))
def Trs (w : World) (B : Nat) (A : Option Addr) (l : List (Int × Int)) : Prop := ∀ k, k < l.length → ∃ ad, A = some ad ∧ ad.block < B ∧ w.cell? (ad.add (k * 2)) = some (.int .i64 (l.getD k (0, 0)).1) ∧ w.cell? (ad.add (k * 2 + 1)) = some (.int .i64 (l.getD k (0, 0)).2)
theorem Bls.below {B C : Nat} {w w' : World} {A : Option Addr} {l : List Bool} (h : Bls w B A l) (hb : Below C w w') (hB : B ≤ C) : Bls w' B A l := fun k hk => by
  obtain ⟨ad, h2, h3, h4⟩ := h k hk
  exact ⟨ad, h2, h3, (hb.cell (by rw [add_block]; omega)).trans h4⟩
theorem Trs.below {B C : Nat} {w w' : World} {A : Option Addr} {l : List (Int × Int)} (h : Trs w B A l) (hb : Below C w w') (hB : B ≤ C) : Trs w' B A l := fun k hk => by
  obtain ⟨ad, h2, h3, h4, h5⟩ := h k hk
  exact ⟨ad, h2, h3, (hb.cell (by rw [add_block]; omega)).trans h4, (hb.cell (by rw [add_block]; omega)).trans h5⟩
/-- A row of integers in a block of its own. -/
def ivals (L : List Nat) : List Value := L.map fun x => .int .i64 ((x : Nat) : Int)
def IRow (w : World) (G : Nat) (L : List Nat) : Prop := w.heap[G]? = some (.cells (ivals L).toArray 3 (0, 0))
theorem ivals_at {L : List Nat} {j : Nat} (hj : j < L.length) : (ivals L)[j]? = some (.int .i64 ((L.getD j 0 : Nat) : Int)) := by
  unfold ivals
  rw [List.getElem?_map, List.getElem?_eq_getElem hj, List.getD_eq_getElem?_getD, List.getElem?_eq_getElem hj]; rfl
theorem IRow.cell {w : World} {G : Nat} {L : List Nat} (h : IRow w G L) {j : Nat} (hj : j < L.length) : w.cell? ⟨G, j, none⟩ = some (.int .i64 ((L.getD j 0 : Nat) : Int)) ∧ w.frozen? ⟨G, j, none⟩ = false := by
  refine ⟨?_, frozen_of_row w G j _ _ h⟩
  rw [cell_of_row w G j _ _ _ h, List.getElem?_toArray]
  exact ivals_at hj
theorem IRow.set {w : World} {G : Nat} {L : List Nat} (h : IRow w G L) (j x : Nat) : IRow (w.setCell ⟨G, j, none⟩ (.int .i64 (x : Int))) G (L.set j x) := by
  unfold IRow
  rw [heap_setCell_same w G j _ _ _ h]
  simp [ivals, List.map_set]
/-! ### how many bytes are kept -/
def tearHits (j : Nat) (t : Int × Int) : Bool := t.1 == (j : Int) && (decide (1 ≤ t.2) && decide (t.2 < 64))
def keptBy (keep : List Bool) (T : List (Int × Int)) (j : Nat) : Nat :=
  match T.find? (tearHits j) with
  | some t => t.2.toNat
  | none => if keep.getD j false = true then 64 else 0
theorem keptBy_le (keep : List Bool) (T : List (Int × Int)) (j : Nat) : keptBy keep T j ≤ 64 := by
  unfold keptBy
  cases h : T.find? (tearHits j) with
  | none => dsimp only; split <;> omega
  | some t =>
    have := List.find?_some h
    simp [tearHits] at this
    dsimp only
    omega
theorem take_nextT {α : Type} (l : List α) (k : Nat) (hk : k < l.length) : l.take (k + 1) = l.take k ++ [l[k]] := by
  rw [List.take_succ_eq_append_getElem hk]
/-- One tear more. -/
theorem keptBy_next (keep : List Bool) (T : List (Int × Int)) (t : Int × Int) (j : Nat) :
    keptBy keep (T ++ [t]) j = if tearHits j t = true ∧ ¬ (1 ≤ keptBy keep T j ∧ keptBy keep T j < 64) then t.2.toNat else keptBy keep T j := by
  unfold keptBy
  rw [List.find?_append]
  cases h : T.find? (tearHits j) with
  | some t' =>
    have := List.find?_some h
    simp [tearHits] at this
    simp only [Option.some_or]
    rw [if_neg (by omega)]
  | none =>
    simp only [Option.none_or, List.find?_cons, List.find?_nil]
    have hx : ∀ x, x = (if keep.getD j false = true then 64 else 0) → ¬ (1 ≤ x ∧ x < 64) := fun x hx => by split at hx <;> omega
    by_cases h2 : tearHits j t = true
    · simp only [h2]
      rw [if_pos ⟨trivial, hx _ rfl⟩]
    · have h3 : tearHits j t = false := by simpa using h2
      simp only [h3, Bool.false_eq_true, false_and, if_false]
def Survived (w : World) (d : Nat) (keep : List Bool) (T : List (Int × Int)) (e : Ending) (w' : World) : Prop :=
  ∃ (G : Nat) (L : List Nat), e = .returned (.slice (some ⟨G, 0, none⟩) d d) ∧ w.heap.size ≤ G ∧ IRow w' G L ∧ L.length = d ∧ (∀ j, j < d → L.getD j 0 = keptBy keep T j) ∧ Below w.heap.size w w'
theorem info_int : (Tryd.prog.info? 3).map (fun i => (i.zero, i.size, i.bytes)) = some (some (.int .i64 0), 1, 8) := by kernel_rfl
theorem made_ivals (k : Nat) : (madeCells (Value.cells (.int .i64 0)) (k * 1)).toList = ivals (List.replicate k 0) := by
  simp only [madeCells, ivals, Value.cells, List.map_replicate]
  apply List.ext_getElem
  · simp
  · intro i h1 h2
    simp [Nat.mod_one]
theorem getD_set {L : List Nat} {j x k : Nat} (hj : j < L.length) : (L.set j x).getD k 0 = if k = j then x else L.getD k 0 := by
  rw [List.getD_eq_getElem?_getD, List.getD_eq_getElem?_getD, List.getElem?_set]
  by_cases e : j = k
  · subst e; simp [hj]
  · rw [if_neg e, if_neg (fun h => e h.symm)]
/-- What the first loop has laid. -/
def Laid1 (keep : List Bool) (d k : Nat) (L : List Nat) : Prop := L.length = d ∧ ∀ j, j < d → L.getD j 0 = if j < k ∧ keep.getD j false = true then 64 else 0
theorem laid1_start (keep : List Bool) (d : Nat) : Laid1 keep d 0 (List.replicate d 0) := by
  refine ⟨List.length_replicate, fun j hj => ?_⟩
  rw [if_neg (by omega), List.getD_eq_getElem?_getD, List.getElem?_replicate]
  split <;> rfl
theorem laid1_yes {keep : List Bool} {d k : Nat} {L : List Nat} (h : Laid1 keep d k L) (hk : k < d) (hb : keep.getD k false = true) : Laid1 keep d (k + 1) (L.set k 64) := by
  refine ⟨by rw [List.length_set]; exact h.1, fun j hj => ?_⟩
  rw [getD_set (by rw [h.1]; exact hk)]
  by_cases e : j = k
  · subst e; rw [if_pos rfl, if_pos ⟨by omega, hb⟩]
  · rw [if_neg e, h.2 j hj]
    by_cases e2 : j < k ∧ keep.getD j false = true
    · rw [if_pos e2, if_pos ⟨by omega, e2.2⟩]
    · rw [if_neg e2, if_neg (fun h => e2 ⟨by omega, h.2⟩)]
theorem laid1_no {keep : List Bool} {d k : Nat} {L : List Nat} (h : Laid1 keep d k L) (hb : keep.getD k false = false) : Laid1 keep d (k + 1) L := by
  refine ⟨h.1, fun j hj => ?_⟩
  rw [h.2 j hj]
  by_cases e2 : j < k ∧ keep.getD j false = true
  · rw [if_pos e2, if_pos ⟨by omega, e2.2⟩]
  · rw [if_neg e2, if_neg (fun h => ?_)]
    by_cases e : j = k
    · subst e; rw [hb] at h; cases h.2
    · exact e2 ⟨by omega, h.2⟩
/-- .. and the second. -/
def Laid2 (keep : List Bool) (T : List (Int × Int)) (d k : Nat) (L : List Nat) : Prop := L.length = d ∧ ∀ j, j < d → L.getD j 0 = keptBy keep (T.take k) j
theorem laid2_start {keep : List Bool} {T : List (Int × Int)} {d k : Nat} {L : List Nat} (h : Laid1 keep d k L) (hk : k = d ∨ keep.length ≤ k) : Laid2 keep T d 0 L := by
  refine ⟨h.1, fun j hj => ?_⟩
  rw [h.2 j hj]
  show _ = if keep.getD j false = true then 64 else 0
  by_cases e : keep.getD j false = true
  · have hjk : j < k := by
      rcases hk with h | h
      · omega
      · rcases Nat.lt_or_ge j keep.length with h2 | h2
        · omega
        · rw [List.getD_eq_getElem?_getD, List.getElem?_eq_none h2] at e; cases e
    rw [if_pos e, if_pos ⟨hjk, e⟩]
  · rw [if_neg e, if_neg (fun h => e h.2)]
theorem laid2_set {keep : List Bool} {T : List (Int × Int)} {d k K N : Nat} {L : List Nat} {t : Int × Int} (h : Laid2 keep T d k L) (hk : k < T.length) (ht : T.getD k (0, 0) = t) (h1 : t.1 = (K : Int)) (h2 : t.2 = (N : Int)) (hK : K < d) (hN1 : 1 ≤ N) (hN2 : N < 64)
    (hL : ¬ (1 ≤ L.getD K 0 ∧ L.getD K 0 < 64)) : Laid2 keep T d (k + 1) (L.set K N) := by
  have e : T[k] = t := by rw [List.getD_eq_getElem?_getD, List.getElem?_eq_getElem hk] at ht; exact ht
  refine ⟨by rw [List.length_set]; exact h.1, fun j hj => ?_⟩
  rw [getD_set (by rw [h.1]; exact hK), take_nextT T k hk, e, keptBy_next]
  by_cases e3 : j = K
  · subst e3
    rw [if_pos rfl, if_pos ⟨by simp [tearHits, h1, h2]; omega, by rw [← h.2 j hj]; exact hL⟩, h2, Int.toNat_natCast]
  · rw [if_neg e3, if_neg (fun h' => e3 ?_), h.2 j hj]
    have := h'.1
    simp [tearHits, h1] at this
    have := this.1
    omega
theorem laid2_no {keep : List Bool} {T : List (Int × Int)} {d k : Nat} {L : List Nat} {t : Int × Int} (h : Laid2 keep T d k L) (hk : k < T.length) (ht : T.getD k (0, 0) = t)
    (hn : ∀ j, j < d → tearHits j t = true → 1 ≤ L.getD j 0 ∧ L.getD j 0 < 64) : Laid2 keep T d (k + 1) L := by
  have e : T[k] = t := by rw [List.getD_eq_getElem?_getD, List.getElem?_eq_getElem hk] at ht; exact ht
  refine ⟨h.1, fun j hj => ?_⟩
  rw [take_nextT T k hk, e, keptBy_next, if_neg (fun h' => h'.2 (by rw [← h.2 j hj]; exact hn j hj h'.1)), h.2 j hj]
end Go.Proofs.YtpidbakjpfngnaaDoor
end
section
set_option maxRecDepth 100000
namespace Go.Proofs.YtpidbakjpfngnaaDoor
open Go.RowKit Go.Maps
set_option maxHeartbeats 1000000 in
theorem survivors_any (d : Nat) (hd : d ≤ 1048576) (Ak At : Option Addr) (nk ck nt ct : Nat) (keep : List Bool) (T : List (Int × Int)) (w : World)
    (hnt : nt ≤ 9223372036854775807) (hlk : Hid (keep.length = nk)) (hlt : Hid (T.length = nt)) (hbk : Hid (Bls w w.heap.size Ak keep)) (hbt : Hid (Trs w w.heap.size At T)) :
    Calls Tryd.prog 39 #[.int .i64 (d : Int), .slice Ak nk ck, .slice At nt ct] w (Survived w d keep T) := by
  obtain ⟨i0, hi0, hz0, hz1, hz2⟩ := info_parts info_int
  have I0 := Lib.hid (And.intro hi0 (And.intro hz0 (And.intro hz1 hz2))); clear hi0 hz0 hz1 hz2
  have B0 : Hid (i0.bytes * d ≤ 281474976710656 ∧ d ≤ maxLen) := by rw [I0.out.2.2.2]; exact ⟨by omega, by unfold maxLen; omega⟩
  obtain ⟨mn, hmd, hmk, hme, hmin⟩ : ∃ mn : Nat, mn ≤ d ∧ mn ≤ nk ∧ Hid (mn = d ∨ keep.length ≤ mn) ∧ Hid ((if (nk : Int) < (d : Int) then (nk : Int) else (d : Int)) = (mn : Int)) := by
    by_cases h : (nk : Int) < (d : Int)
    · exact ⟨nk, by omega, Nat.le_refl _, .inr (by rw [hlk.out]; exact Nat.le_refl _), if_pos h⟩
    · exact ⟨d, Nat.le_refl _, by omega, .inl rfl, if_neg h⟩
  go_enter Tryd.func39, Tryd.ntmps39
  go_wp2_with (first
    | (with_reducible refine wpList_min2 rfl (.tmp 13) (.tmp 15) _ rfl .i64 _ _ _ rfl rfl hmin.out ?_)
    | (at_make; refine wpList_make_full w rfl _ _ 51 rfl w.heap.size 3 i0 (.int .i64 0) 1 Tryd.underlying51 I0.out.1 I0.out.2.1 I0.out.2.2.1 .i64 .i64 _ _ d rfl rfl rfl rfl B0.out.1 B0.out.2 (Nat.le_refl _) ?_; intro w1 hown hg1))
  have HR1 : Hid (IRow w1 w.heap.size (List.replicate d 0) ∧ Below w.heap.size w w1) := by
    refine ⟨?_, (Below.refl _ w).grown hg1 (Nat.le_refl _) (fun k e => by cases e)⟩
    rw [made_ivals] at hown
    rcases hown.2 with ⟨h, _⟩ | ⟨g, cap, cur, e, _, hgg, _, _, hsz, htk⟩
    · cases h
    · injection e with e1 e2 e3
      injection e1 with e1
      injection e1 with e1
      subst e1
      unfold IRow
      rw [hgg]
      have : cur.toList = ivals (List.replicate d 0) := by rw [← htk, List.take_of_length_le (by rw [Array.length_toList]; omega)]
      rw [← this]
  clear hown hg1
  clear hmin
  go_loopw [17] (fun iv wr => ∃ (k : Nat) (L : List Nat), k ≤ mn ∧ iv = .int .i64 (k : Int) ∧ Hid (IRow wr w.heap.size L) ∧ Hid (Laid1 keep d k L) ∧ Hid (Below w.heap.size w wr)) (fun iv _ => mn - (RowKit.intOf iv).toNat)
  case atStart => exact ⟨0, _, Nat.zero_le _, rfl, HR1.out.1, laid1_start keep d, HR1.out.2⟩
  case round =>
    obtain ⟨k, L, hk, rfl, hrow, hlaid, hbel⟩ := hrel
    by_cases hkm : k < mn
    · obtain ⟨ad, rfl, hadb, hcell⟩ := hbk.out.below hbel.out (Nat.le_refl _) k (by rw [hlk.out]; omega)
      obtain ⟨hc7, hf7⟩ := hrow.out.cell (j := k) (by rw [hlaid.out.1]; omega)
      cases hb : keep.getD k false with
      | true =>
        rw [hb] at hcell
        have HB1 := Lib.hid hb; clear hb
        go_wp2
        go_roundw
        case rel => exact ⟨k + 1, L.set k 64, by omega, by go_num, hrow.out.set k 64, laid1_yes hlaid.out (by omega) HB1.out, hbel.out.setCell (Nat.le_refl _) _⟩
        case measure => simp [RowKit.intOf]; omega
      | false =>
        rw [hb] at hcell
        have HB1 := Lib.hid hb; clear hb
        go_wp2
        go_roundw
        case rel => exact ⟨k + 1, L, by omega, by go_num, hrow, laid1_no hlaid.out HB1.out, hbel⟩
        case measure => simp [RowKit.intOf]; omega
    · go_wp2
      obtain rfl : k = mn := by omega
      have HL2 : Hid (Laid2 keep T d 0 L) := laid2_start hlaid.out hme.out
      clear hkm hlaid
      go_loopw [30] (fun iv wr2 => ∃ (k2 : Nat) (L2 : List Nat), k2 ≤ nt ∧ iv = .int .i64 (k2 : Int) ∧ Hid (IRow wr2 w.heap.size L2) ∧ Hid (Laid2 keep T d k2 L2) ∧ Hid (Below w.heap.size w wr2)) (fun iv _ => nt - (RowKit.intOf iv).toNat)
      case atStart => exact ⟨0, L, Nat.zero_le _, rfl, hrow, HL2, hbel⟩
      case round =>
        clear hrow HL2 hbel
        obtain ⟨k2, L2, hk2, rfl, hrow, hlaid, hbel⟩ := hrel
        by_cases hlt2 : k2 < nt
        · obtain ⟨ad, rfl, hadb, hc0, hc1⟩ := hbt.out.below hbel.out (Nat.le_refl _) k2 (by rw [hlt.out]; omega)
          rw [next_field] at hc1
          generalize ht : T.getD k2 (0, 0) = t at hc0 hc1
          have HT := Lib.hid ht; clear ht
          obtain ⟨K, N⟩ := t
          have hG : w.heap.size < wr.heap.size := (Array.getElem?_eq_some_iff.1 hrow.out).1
          have HAL : Hid (∀ o, IRow (wr.alloc o) w.heap.size L2 ∧ Below w.heap.size w (wr.alloc o)) := fun o => ⟨(Below.heap_alloc wr o _ hG).trans hrow.out, hbel.out.alloc hbel.out.size o⟩
          have HL : Hid (L2.length = d) := hlaid.out.1
          by_cases a1 : 0 ≤ K
          · by_cases a2 : K < (d : Int)
            · obtain ⟨j, rfl⟩ : ∃ j : Nat, K = (j : Int) := ⟨K.toNat, by omega⟩
              have hj : j < d := by omega
              obtain ⟨hc7, hf7⟩ := hrow.out.cell (j := j) (by rw [HL.out]; exact hj)
              by_cases a3 : 1 ≤ N ∧ N < 64
              · obtain ⟨a3, a4⟩ := a3
                obtain ⟨N, rfl⟩ : ∃ n : Nat, N = (n : Int) := ⟨N.toNat, by omega⟩
                generalize hx : L2.getD j 0 = x at hc7
                have HX := Lib.hid hx; clear hx
                by_cases a5 : 1 ≤ x ∧ x < 64
                · obtain ⟨a5, a6⟩ := a5
                  go_wp2_with (go_at_call 57; refine (ispart_yes _ (by omega) (by omega) _).mono ?_; rintro e w' ⟨rfl, rfl⟩)
                  go_roundw
                  case rel =>
                    refine ⟨k2 + 1, L2, by omega, by go_num, (HAL.out _).1, laid2_no hlaid.out (by rw [hlt.out]; omega) HT.out (fun i _ h => ?_), (HAL.out _).2⟩
                    have hi : (j : Int) = (i : Int) := by simp [tearHits] at h; exact h.1
                    obtain rfl : i = j := by omega
                    rw [HX.out]; exact ⟨a5, a6⟩
                  case measure => simp [RowKit.intOf]; omega
                · have a6 : (x : Int) < 1 ∨ 64 ≤ (x : Int) := by omega
                  go_wp2_with (first
                    | (go_at_call 57; refine (ispart_yes (N : Int) (by omega) (by omega) _).mono ?_; rintro e w' ⟨rfl, rfl⟩)
                    | (go_at_call 57; refine (ispart_no (x : Int) a6 _).mono ?_; rintro e w' ⟨rfl, rfl⟩))
                  go_roundw
                  case rel => exact ⟨k2 + 1, L2.set j N, by omega, by go_num, (Below.heap_alloc _ _ _ (by simpa [World.setCell] using hG)).trans (hrow.out.set j N), laid2_set hlaid.out (by rw [hlt.out]; omega) HT.out rfl rfl hj (by omega) (by omega) (by rw [HX.out]; exact a5), (hbel.out.setCell (Nat.le_refl _) _).alloc (by simpa [World.setCell] using Nat.le_of_lt hG) _⟩
                  case measure => simp [RowKit.intOf]; omega
              · have a4 : N < 1 ∨ 64 ≤ N := by omega
                have A3 := Lib.hid a3; clear a3
                go_wp2_with (go_at_call 57; refine (ispart_no _ a4 _).mono ?_; rintro e w' ⟨rfl, rfl⟩)
                go_roundw
                case rel => exact ⟨k2 + 1, L2, by omega, by go_num, (HAL.out _).1, laid2_no hlaid.out (by rw [hlt.out]; omega) HT.out (fun i _ h => absurd h (by simp [tearHits]; omega)), (HAL.out _).2⟩
                case measure => simp [RowKit.intOf]; omega
            · have a3 : decide (K < (d : Int)) = false := by simpa using a2
              go_wp2
              go_roundw
              case rel => exact ⟨k2 + 1, L2, by omega, by go_num, (HAL.out _).1, laid2_no hlaid.out (by rw [hlt.out]; omega) HT.out (fun i _ h => absurd h (by simp [tearHits]; omega)), (HAL.out _).2⟩
              case measure => simp [RowKit.intOf]; omega
          · have a3 : decide (0 ≤ K) = false := by simpa using a1
            go_wp2
            go_roundw
            case rel => exact ⟨k2 + 1, L2, by omega, by go_num, (HAL.out _).1, laid2_no hlaid.out (by rw [hlt.out]; omega) HT.out (fun i _ h => absurd h (by simp [tearHits]; omega)), (HAL.out _).2⟩
            case measure => simp [RowKit.intOf]; omega
        · go_wp2
          go_ret
          obtain rfl : k2 = nt := by omega
          refine ⟨_, L2, rfl, Nat.le_refl _, hrow.out, hlaid.out.1, fun j hj => ?_, hbel.out⟩
          rw [hlaid.out.2 j hj, List.take_of_length_le (by rw [hlt.out]; exact Nat.le_refl _)]
end Go.Proofs.YtpidbakjpfngnaaDoor
end
section
namespace Go.Proofs.YtpidbakjpfngnaaDoor
open Go.RowKit Go.Maps

theorem dirty_succ (n : Nat) (old : Nat → Option (List Nat)) : dirtyList (n + 1) old = dirtyList n old ++ (if (old n).isSome = true then [n] else []) := by
  unfold dirtyList
  rw [List.range_succ, List.filter_append]
  congr 1
  by_cases h : (old n).isSome = true <;> simp [h]
/-- The k-th dirty sector has k dirty sectors before it. -/
theorem dirty_rank (old : Nat → Option (List Nat)) : ∀ (n k : Nat), k < (dirtyList n old).length → (dirtyList n old).getD k 0 < n ∧ (old ((dirtyList n old).getD k 0)).isSome = true ∧ dirtyCount ((dirtyList n old).getD k 0) old = k
  | 0, k, h => by simp [dirtyList] at h
  | n + 1, k, h => by
    rw [dirty_succ] at h ⊢
    by_cases hk : k < (dirtyList n old).length
    · have e : (dirtyList n old ++ (if (old n).isSome = true then [n] else [])).getD k 0 = (dirtyList n old).getD k 0 := by
        rw [List.getD_eq_getElem?_getD, List.getD_eq_getElem?_getD, List.getElem?_append_left hk]
      rw [e]
      obtain ⟨h1, h2, h3⟩ := dirty_rank old n k hk
      exact ⟨by omega, h2, h3⟩
    · by_cases hs : (old n).isSome = true
      · rw [if_pos hs] at h ⊢
        rw [List.length_append, List.length_singleton] at h
        have hk2 : k = (dirtyList n old).length := by omega
        have e : (dirtyList n old ++ [n]).getD k 0 = n := by
          rw [List.getD_eq_getElem?_getD, List.getElem?_append_right (by omega), hk2, Nat.sub_self]; rfl
        rw [e]
        exact ⟨by omega, hs, hk2.symm⟩
      · rw [if_neg hs, List.append_nil] at h
        exact absurd h hk
theorem dirty_has (old : Nat → Option (List Nat)) (n i : Nat) (hi : i < n) (ho : (old i).isSome = true) : dirtyCount i old < (dirtyList n old).length ∧ (dirtyList n old).getD (dirtyCount i old) 0 = i := by
  induction n with
  | zero => omega
  | succ n ih =>
    rw [dirty_succ]
    by_cases e : i = n
    · subst e
      rw [if_pos ho, List.length_append, List.length_singleton]
      refine ⟨by unfold dirtyCount; omega, ?_⟩
      unfold dirtyCount
      rw [List.getD_eq_getElem?_getD, List.getElem?_append_right (Nat.le_refl _), Nat.sub_self]; rfl
    · obtain ⟨h1, h2⟩ := ih (by omega)
      refine ⟨by rw [List.length_append]; omega, ?_⟩
      rw [List.getD_eq_getElem?_getD, List.getElem?_append_left h1, ← List.getD_eq_getElem?_getD]
      exact h2
/-- One byte behind a crash. -/
def crashByte (cur : List Nat) (old : Nat → Option (List Nat)) (keep : List Bool) (T : List (Int × Int)) (p : Nat) : Nat :=
  match old (p / 64) with
  | some l => if p % 64 < keptBy keep T (dirtyCount (p / 64) old) then cur.getD p 0 else l.getD (p % 64) 0
  | none => cur.getD p 0
def crashed (n : Nat) (cur : List Nat) (old : Nat → Option (List Nat)) (keep : List Bool) (T : List (Int × Int)) : List Nat := (List.range (n * 64)).map (crashByte cur old keep T)
/-- A sector behind a crash. -/
def tornSec (cur : List Nat) (i k : Nat) (l : List Nat) : List Nat := (sec cur i).take k ++ l.drop k
theorem putSec_get {l q : List Nat} {n i p : Nat} (hl : l.length = n * 64) (hi : i < n) (hq : q.length = 64) : (putSec l i q).getD p 0 = if p / 64 = i then q.getD (p % 64) 0 else l.getD p 0 := by
  unfold putSec
  rw [List.getD_eq_getElem?_getD]
  by_cases h1 : p < i * 64
  · rw [if_neg (by omega), List.append_assoc, List.getElem?_append_left (by rw [List.length_take]; omega), List.getElem?_take_of_lt h1, ← List.getD_eq_getElem?_getD]
  · by_cases h2 : p < i * 64 + 64
    · rw [if_pos (by omega), List.getElem?_append_left (by rw [List.length_append, List.length_take, hq]; omega), List.getElem?_append_right (by rw [List.length_take]; omega), List.length_take, Nat.min_eq_left (by omega), show p - i * 64 = p % 64 by omega, ← List.getD_eq_getElem?_getD]
    · rw [if_neg (by omega), List.getElem?_append_right (by rw [List.length_append, List.length_take, hq]; omega), List.length_append, List.length_take, hq, Nat.min_eq_left (by omega), List.getElem?_drop, show i * 64 + 64 + (p - (i * 64 + 64)) = p by omega, ← List.getD_eq_getElem?_getD]
theorem torn_len {cur l : List Nat} {n i k : Nat} (hc : cur.length = n * 64) (hi : i < n) (hl : l.length = 64) (hk : k ≤ 64) : (tornSec cur i k l).length = 64 := by
  unfold tornSec; rw [List.length_append, List.length_take, List.length_drop, sec_len hc hi, hl]; omega
theorem torn_get {cur l : List Nat} {n i k x : Nat} (hc : cur.length = n * 64) (hi : i < n) (hk : k ≤ 64) (hx : x < 64) : (tornSec cur i k l).getD x 0 = if x < k then cur.getD (i * 64 + x) 0 else l.getD x 0 := by
  unfold tornSec
  rw [List.getD_eq_getElem?_getD]
  by_cases h : x < k
  · rw [if_pos h, List.getElem?_append_left (by rw [List.length_take, sec_len hc hi]; omega), List.getElem?_take_of_lt h, ← List.getD_eq_getElem?_getD, sec_get hx]
  · rw [if_neg h, List.getElem?_append_right (by rw [List.length_take, sec_len hc hi]; omega), List.length_take, sec_len hc hi, Nat.min_eq_left hk, List.getElem?_drop, show k + (x - k) = x by omega, ← List.getD_eq_getElem?_getD]
theorem torn_lt {cur l : List Nat} {i k : Nat} (hc : ∀ x ∈ cur, x < 256) (hl : ∀ x ∈ l, x < 256) : ∀ x ∈ tornSec cur i k l, x < 256 := fun x hx => by
  unfold tornSec sec at hx
  rcases List.mem_append.1 hx with h | h
  · exact hc x (List.mem_of_mem_drop (List.mem_of_mem_take (List.mem_of_mem_take h)))
  · exact hl x (List.mem_of_mem_drop h)
/-- The contents when k dirty sectors have been done. -/
structure Done (n : Nat) (cur : List Nat) (old : Nat → Option (List Nat)) (keep : List Bool) (T : List (Int × Int)) (k : Nat) (l : List Nat) : Prop where
  len : l.length = n * 64
  lt : ∀ x ∈ l, x < 256
  get : ∀ p, p < n * 64 → l.getD p 0 = if (old (p / 64)).isSome = true ∧ dirtyCount (p / 64) old < k then crashByte cur old keep T p else cur.getD p 0
theorem done_start {n : Nat} {cur : List Nat} {old : Nat → Option (List Nat)} {keep : List Bool} {T : List (Int × Int)} (h1 : cur.length = n * 64) (h2 : ∀ x ∈ cur, x < 256) : Done n cur old keep T 0 cur :=
  ⟨h1, h2, fun p _ => by rw [if_neg (by omega)]⟩
theorem done_next {n : Nat} {cur : List Nat} {old : Nat → Option (List Nat)} {keep : List Bool} {T : List (Int × Int)} {k i : Nat} {l lo : List Nat} (h : Done n cur old keep T k l)
    (hk : k < (dirtyList n old).length) (hi : (dirtyList n old).getD k 0 = i) (ho : old i = some lo) (hlo : lo.length = 64 ∧ ∀ x ∈ lo, x < 256) : Done n cur old keep T (k + 1) (putSec l i (tornSec l i (keptBy keep T k) lo)) := by
  obtain ⟨r1, r2, r3⟩ := dirty_rank old n k hk
  rw [hi] at r1 r3
  have hq := torn_len h.len r1 hlo.1 (keptBy_le keep T k)
  refine ⟨putSec_len h.len r1 hq, putSec_lt h.lt (torn_lt h.lt hlo.2), fun p hp => ?_⟩
  rw [putSec_get h.len r1 hq]
  by_cases e : p / 64 = i
  · have c : (old i).isSome = true ∧ dirtyCount i old < k + 1 := ⟨by rw [ho]; rfl, by omega⟩
    have hm : p % 64 < 64 := Nat.mod_lt _ (by decide)
    have c2 : ¬ ((old i).isSome = true ∧ dirtyCount i old < k) := fun h => by omega
    rw [if_pos e, e, if_pos c, torn_get h.len r1 (keptBy_le keep T k) hm]
    have hpp : i * 64 + p % 64 = p := by omega
    rw [hpp]
    unfold crashByte
    rw [e, ho, r3]
    dsimp only
    rw [h.get p hp, e, if_neg c2]
  · rw [if_neg e, h.get p hp]
    by_cases c : (old (p / 64)).isSome = true ∧ dirtyCount (p / 64) old < k
    · rw [if_pos c, if_pos ⟨c.1, by omega⟩]
    · rw [if_neg c, if_neg (fun c' => ?_)]
      have hne : dirtyCount (p / 64) old = k := by
        rcases Nat.lt_or_ge (dirtyCount (p / 64) old) k with h | h
        · exact absurd ⟨c'.1, h⟩ c
        · omega
      have := (dirty_has old n (p / 64) (by omega) c'.1).2
      rw [hne, hi] at this
      exact e this.symm
theorem done_end {n : Nat} {cur : List Nat} {old : Nat → Option (List Nat)} {keep : List Bool} {T : List (Int × Int)} {k : Nat} {l : List Nat} (h : Done n cur old keep T k l) (hk : k = (dirtyList n old).length) : l = crashed n cur old keep T := by
  apply List.ext_getElem
  · rw [h.len]; unfold crashed; rw [List.length_map, List.length_range]
  · intro p h1 h2
    have hp : p < n * 64 := by rw [← h.len]; exact h1
    have e := h.get p hp
    rw [List.getD_eq_getElem?_getD, List.getElem?_eq_getElem h1] at e
    simp only [Option.getD_some] at e
    rw [e]
    simp only [crashed, List.getElem_map, List.getElem_range]
    by_cases c : (old (p / 64)).isSome = true
    · rw [if_pos ⟨c, by rw [hk]; exact (dirty_has old n (p / 64) (by omega) c).1⟩]
    · rw [if_neg (fun c' => c c'.1)]
      have : old (p / 64) = none := by cases h : old (p / 64) with | none => rfl | some _ => rw [h] at c; exact absurd rfl c
      unfold crashByte
      rw [this]
/-- The store of a crash's round. -/
theorem splice_torn {l lo : List Nat} {n i k : Nat} {rest : List Value} (hl : l.length = n * 64) (hi : i < n) (hk : k ≤ 64) (hlo : lo.length = 64) :
    splice (vals l ++ rest) (i * 64 + k) (vals (lo.drop k)) = vals (putSec l i (tornSec l i k lo)) ++ rest := by
  unfold splice putSec tornSec sec
  rw [vals_length, List.length_drop, hlo, List.take_append_of_le_length (by rw [vals_length]; omega), List.drop_append_of_le_length (by rw [vals_length]; omega), show i * 64 + k + (64 - k) = i * 64 + 64 by omega]
  have e : l.take (i * 64 + k) = l.take (i * 64) ++ ((l.drop (i * 64)).take 64).take k := by
    rw [List.take_take, Nat.min_eq_left hk, List.take_add]
  unfold vals
  rw [← List.map_take, e, ← List.map_drop]
  simp [List.map_append]
end Go.Proofs.YtpidbakjpfngnaaDoor
end
