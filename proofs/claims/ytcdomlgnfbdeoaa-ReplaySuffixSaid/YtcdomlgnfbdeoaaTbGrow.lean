/-
  The walks of Table.move at a table without old places, of newPlaces and Table.grow.
-/
import Derived.Test.YtcdomlgnfbdeoaaTbMove
import Derived.Laws.MakeOwn
set_option maxRecDepth 100000
namespace Go.Proofs.Ytcdomlgnfbdeoaa
open Go.RowKit
/-- What a call of move leaves. -/
def Moved (M : Nat) (S : Nat → Prop) (q : Nat) (v : Value) (l : List Tb.Pl) (b : Nat) (o : List Tb.Pl) (c : Nat) (w : World) (e : Ending) (w' : World) : Prop := e = .returned (.tuple #[]) ∧ Kept S w w' ∧
      ∃ v' l' u' o' bo' uo' nx' wk', Tb.Ok M 32 l' b u' o' bo' uo' nx' c ∧ Alike l o l' o' ∧ wk' ≤ 8 ∧ TbAt w' S q v v' l' b u' o' bo' uo' nx' c wk'
set_option maxHeartbeats 4000000 in
theorem tbmove_nil (M q b u bo uo nx c wk : Nat) (v : Value) (l : List Tb.Pl) (S : Nat → Prop) (w : World) (hO : Hid (Tb.Ok M 0 l b u [] bo uo nx c)) (hT : Hid (TbAt w S q v (.slice none 0 0) l b u [] bo uo nx c wk)) :
    Calls Try.prog 29 #[.pointer (some ⟨q, 0, none⟩)] w (Moved M S q v l b [] c w) := by
  have hnx := hO.out.nxle
  obtain rfl : nx = 0 := by simpa using hnx
  have HT0 : Hid (TbAt (w.setCell ⟨q, 8, none⟩ (.int .i64 0)) S q v (.slice none 0 0) l b u [] bo uo 0 c 0) := hT.out.set 8 _ rfl
  have HK0 : Hid (Kept S w (w.setCell ⟨q, 8, none⟩ (.int .i64 0))) := Kept.setCell _ _ _ hT.out.own
  obtain ⟨-, -, -, -, -, -, -, -, q8⟩ := nine_cells hT.out.box
  obtain ⟨-, -, -, -, -, -, -, -, r8⟩ := nine_frozen hT.out.box
  go_enter Try.func29, Try.ntmps29
  go_upto_region 1 with fail
  clear q8 r8 hnx
  generalize w.setCell ⟨q, 8, none⟩ (.int .i64 0) = w0 at *
  obtain ⟨q0, q1, q2, q3, q4, q5, q6, q7, q8⟩ := nine_cells HT0.out.box
  obtain ⟨r0, r1, r2, r3, r4, r5, r6, r7, r8⟩ := nine_frozen HT0.out.box
  go_region
  have HT1 : Hid (TbAt w0.drew S q v (.slice none 0 0) l b u [] bo uo 0 c 0) := HT0.out.drew
  have HK1 : Hid (Kept S w w0.drew) := kept_drew HK0.out
  clear q0 q1 q2 q3 q4 q5 q6 q7 q8 r0 r1 r2 r3 r4 r5 r6 r7 r8 HT0 HK0
  generalize w0.drew = w1 at *
  have HV := Lib.hid (hO.out.over rfl 32).1
  go_wp2_with fail
  go_loopg [3] 0 (fun _ _ wr => wr = w1)
  case atStart => rfl
  case round =>
    obtain rfl := hrel
    obtain ⟨q0, q1, q2, q3, q4, q5, q6, q7, q8⟩ := nine_cells HT1.out.box
    go_upto_region 9 with fail
    go_quiet (fail)
    have HTq : Hid (TbAt (wr.drewN nq) S q v (.slice none 0 0) l b u [] bo uo 0 c 0) := HT1.out.drewN nq
    have HKq : Hid (Kept S w (wr.drewN nq)) := HK1.out.drewN nq
    clear q0 q1 q2 q3 q4 q5 q6 q7 q8 HT1 HK1
    generalize wr.drewN nq = wq at *
    obtain ⟨q0, q1, q2, q3, q4, q5, q6, q7, q8⟩ := nine_cells HTq.out.box
    obtain ⟨r0, r1, r2, r3, r4, r5, r6, r7, r8⟩ := nine_frozen HTq.out.box
    go_wp2_with fail
    go_end0
    exact tbmove_over HTq.out HKq.out (Alike.refl l []) ⟨HV.out, fun _ _ => Iff.rfl⟩ (by decide)
theorem info_place : (Try.prog.info? 84).map (fun i => (i.zero, i.size, i.bytes)) = some (some (.agg (plc Tb.Pl0).toArray), 8, 72) := by kernel_rfl
theorem under_places : Try.prog.underlying 61 = some (.slice 84) := by kernel_rfl
theorem made_places (n : Nat) : madeCells (Value.agg (plc Tb.Pl0).toArray).cells (n * 8) = (plS.flat (List.replicate n Tb.Pl0)).toArray := by
  apply Array.ext
  · rw [size_madeCells, List.size_toArray, plS.flat_length, List.length_replicate]; rfl
  · intro i h1 h2
    rw [size_madeCells] at h1
    have hk : i / 8 < (List.replicate n Tb.Pl0).length := by rw [List.length_replicate]; omega
    have hj : i % 8 < plS.m := Nat.mod_lt _ (by decide)
    have e := plS.flat_at (List.replicate n Tb.Pl0) (i / 8) (i % 8) hk hj
    rw [show i / 8 * plS.m + i % 8 = i from by show i / 8 * 8 + i % 8 = i; omega] at e
    have e2 : (List.replicate n Tb.Pl0).getD (i / 8) plS.z = Tb.Pl0 := by
      rw [List.getD_eq_getElem?_getD, List.getElem?_eq_getElem hk, List.getElem_replicate]; rfl
    rw [e2] at e
    have e3 : (madeCells (Value.agg (plc Tb.Pl0).toArray).cells (n * 8))[i]'(by rw [size_madeCells]; exact h1) = (plc Tb.Pl0)[i % 8]'(by rw [show (plc Tb.Pl0).length = 8 from rfl]; exact hj) := by
      have h8 : i % 8 < 8 := hj
      unfold madeCells
      rw [Array.getElem_map, Array.getElem_range]
      show ((plc Tb.Pl0).toArray)[i % 8]! = _
      rw [getElem!_pos (plc Tb.Pl0).toArray (i % 8) h8]
      rfl
    rw [e3]
    have e4 : ((plS.flat (List.replicate n Tb.Pl0)).toArray)[i]? = some ((plS.flat (List.replicate n Tb.Pl0)).toArray[i]) := Array.getElem?_eq_getElem h2
    rw [List.getElem?_toArray, e] at e4
    exact (Option.some.inj ((List.getElem?_eq_getElem (l := plc Tb.Pl0) (show i % 8 < (plc Tb.Pl0).length from hj)).symm.trans e4))
theorem run_make_places (n : Nat) (hn : n ≤ 1073741824) (W : World) : (Instr.makeSlice 61 (.int .i64 (n : Int)) (.int .i64 (n : Int))).run Try.prog W = .ok (.slice (some ⟨W.heap.size, 0, none⟩) n n) (W.alloc (.cells (plS.flat (List.replicate n Tb.Pl0)).toArray 84)) := by
  obtain ⟨i0, hi0, hz0, hz1, hz2⟩ := arr_info info_place
  have h := run_make (P := Try.prog) W 61 84 i0 (.agg (plc Tb.Pl0).toArray) under_places hi0 hz0 .i64 .i64 (n : Int) (n : Int) (by omega) (by omega) (by rw [hz2]; omega) (by omega)
  rw [hz1, Int.toNat_natCast, made_places] at h
  exact h
set_option maxHeartbeats 2000000 in
theorem plnew_any (b n : Nat) (hb : b ≤ 30) (hn : n = 2 ^ b) (w : World) :
    Calls Try.prog 42 #[.int .i64 (b : Int)] w fun e w' => ∃ d, e = .returned (.agg #[.slice (some ⟨d, 0, none⟩) n n, .int .i64 (b : Int), .int .i64 0]) ∧ w.heap.size ≤ d ∧ w'.heap[d]? = some (.cells (plS.flat (List.replicate n Tb.Pl0)).toArray 84 (0, 0)) ∧ Below w.heap.size w w' := by
  have hn2 : n ≤ 1073741824 := by
    rw [hn]
    have : (2 : Nat) ^ b ≤ 2 ^ 30 := Nat.pow_le_pow_right (by decide) hb
    omega
  have hmk := run_make_places n hn2
  have hw : wrap64 ((2 : Int) ^ b) = (n : Int) := by
    rw [show ((2 : Int) ^ b) = ((2 ^ b : Nat) : Int) by rw [Int.natCast_pow]; rfl, ← hn]
    exact wrap64_fits _ (by omega)
  clear hn
  go_enter Try.func42, Try.ntmps42
  go_wp2_with fail
  have HG : (((w.alloc (.cells #[.slice (some ⟨w.heap.size + 1, 0, none⟩) n n, .int .i64 (b : Int), .int .i64 0] 63)).alloc (.cells (plS.flat (List.replicate n Tb.Pl0)).toArray 84)).heap[w.heap.size]? = some (.cells #[.slice (some ⟨w.heap.size + 1, 0, none⟩) n n, .int .i64 (b : Int), .int .i64 0] 63 (0, 0))) := (heap_alloc_old _ _ (by simp)).trans (heap_alloc_new w _)
  refine bodyPost_ret (results_cell_row rfl _ _ w.heap.size _ _ (0, 0) _ rfl HG Try.underlying63 rfl (by kernel_rfl)) rfl ?_
  refine ⟨w.heap.size + 1, rfl, Nat.le_succ _, ?_, ((Below.refl _ w).alloc (Nat.le_refl _) _).alloc (by simp) _⟩
  have := heap_alloc_new (w.alloc (.cells #[.slice (some ⟨w.heap.size + 1, 0, none⟩) n n, .int .i64 (b : Int), .int .i64 0] 63)) (.cells (plS.flat (List.replicate n Tb.Pl0)).toArray 84)
  rw [show (w.alloc (.cells #[.slice (some ⟨w.heap.size + 1, 0, none⟩) n n, .int .i64 (b : Int), .int .i64 0] 63)).heap.size = w.heap.size + 1 from by simp] at this
  exact this
theorem PlAt.nil {w : World} {v : Value} (h : PlAt w v []) : v = .slice none 0 0 := by
  rcases h with ⟨_, h⟩ | ⟨d, h, _⟩
  · exact h
  · exact absurd h (Nat.lt_irrefl _)
theorem PlAt.lt {w : World} {v : Value} {l : List Tb.Pl} (h : PlAt w v l) (k : Nat) (e : v.ownBlock = some k) : k < w.heap.size := by
  rcases h with ⟨_, rfl⟩ | ⟨d, _, rfl, h⟩
  · cases e
  · injection e with e
    subst e
    exact (Array.getElem?_eq_some_iff.1 h).1
theorem grow_end {w w1 w4 w5 : World} {S : Nat → Prop} {q d b u bo uo nx c wk gb N : Nat} {v : Value} {l : List Tb.Pl} (hT : TbAt w1 S q v (.slice none 0 0) l b u [] bo uo nx c wk) (hK : Kept S w w5) (hz : w.heap.size ≤ w4.heap.size)
    (hq : w5.heap[q]? = some (.cells (tbc v b u v b u 0 c wk) 65 (0, 0))) (hp : PlAt w5 v l) (hd : w4.heap.size ≤ d) (hr : w5.heap[d]? = some (.cells (plS.flat (List.replicate N Tb.Pl0)).toArray 84 (0, 0)))
    (hq4 : w4.heap[q]? = some (.cells (tbc v b u v b u 0 c wk) 65 (0, 0))) (hN : N = 2 ^ gb) (hown : ∀ k, v.ownBlock = some k → k < w4.heap.size) :
    Ending.returned (.tuple #[]) = .returned (.tuple #[]) ∧ Kept S w (((w5.setCell ⟨q, 0, none⟩ (.slice (some ⟨d, 0, none⟩) N N)).setCell ⟨q, 1, none⟩ (.int .i64 (gb : Int))).setCell ⟨q, 2, none⟩ (.int .i64 0)) ∧
      ∃ d', TbAt (((w5.setCell ⟨q, 0, none⟩ (.slice (some ⟨d, 0, none⟩) N N)).setCell ⟨q, 1, none⟩ (.int .i64 (gb : Int))).setCell ⟨q, 2, none⟩ (.int .i64 0)) (Grow S w) q (.slice (some ⟨d', 0, none⟩) N N) v (List.replicate N Tb.Pl0) gb 0 l b u 0 c wk := by
  have hk : Kept (fun k => k = q) w5 (((w5.setCell ⟨q, 0, none⟩ (.slice (some ⟨d, 0, none⟩) N N)).setCell ⟨q, 1, none⟩ (.int .i64 (gb : Int))).setCell ⟨q, 2, none⟩ (.int .i64 0)) := ((Kept.setCell (S := fun k => k = q) w5 ⟨q, 0, none⟩ _ rfl).trans (Kept.setCell _ ⟨q, 1, none⟩ _ rfl)).trans (Kept.setCell _ ⟨q, 2, none⟩ _ rfl)
  have hqd : d ≠ q := fun e => by have := (Array.getElem?_eq_some_iff.1 hq4).1; omega
  have h1 : 0 < N := by rw [hN]; exact Nat.two_pow_pos _
  refine ⟨rfl, hK.trans (hk.mono fun k _ e => e ▸ hT.own), d, set_at (set_at (tb_set hq 0 _) _ _) _ _, .inr ⟨d, by rw [List.length_replicate]; exact h1, by rw [List.length_replicate], set_past (set_past (set_past hr hqd _ _) hqd _ _) hqd _ _⟩, hp.kept hk fun k e => (hT.sn k e).2, .inl hT.own, fun k e => ?_, fun k e => ⟨.inl (hT.sn k e).1, (hT.sn k e).2, fun e2 => ?_⟩⟩
  · injection e with e
    subst e
    exact ⟨.inr (Nat.le_trans hz hd), hqd⟩
  · have e3 : d = k := Option.some.inj e2
    have := hown k e
    omega
set_option maxHeartbeats 4000000 in
theorem tbgrow_any (q b u bo uo nx c wk n : Nat) (A : Option Addr) (l : List Tb.Pl) (S : Nat → Prop) (w : World) (hn : Hid (l.length = n)) (hn2 : n ≤ 1073741824) (hc : c ≤ 1073741824) (hb : b ≤ 29) (hT : Hid (TbAt w S q (.slice A n n) (.slice none 0 0) l b u [] bo uo nx c wk)) :
    Calls Try.prog 33 #[.pointer (some ⟨q, 0, none⟩)] w fun e w' => e = .returned (.tuple #[]) ∧ Kept S w w' ∧
      ∃ d, TbAt w' (Grow S w) q (.slice (some ⟨d, 0, none⟩) (2 ^ Tb.grown l b c) (2 ^ Tb.grown l b c)) (.slice A n n) (List.replicate (2 ^ Tb.grown l b c) Tb.Pl0) (Tb.grown l b c) 0 l b u 0 c wk := by
  obtain ⟨q0, q1, q2, q3, q4, q5, q6, q7, q8⟩ := nine_cells hT.out.box
  obtain ⟨r0, r1, r2, r3, r4, r5, r6, r7, r8⟩ := nine_frozen hT.out.box
  obtain ⟨b1, hb1, hgr⟩ : ∃ b1, (3 * n < 8 * (c + 1) ∧ b1 = b + 1 ∨ ¬ 3 * n < 8 * (c + 1) ∧ b1 = b) ∧ Tb.grown l b c = if 3 ≤ b1 then b1 else 3 := by
    unfold Tb.grown
    rw [hn.out]
    by_cases h : 3 * n < 8 * (c + 1)
    · exact ⟨b + 1, .inl ⟨h, rfl⟩, by rw [if_pos h]⟩
    · exact ⟨b, .inr ⟨h, rfl⟩, by rw [if_neg h]⟩
  generalize hG : Tb.grown l b c = gb at *
  have HGR := Lib.hid hgr
  have hgb : gb ≤ 30 := by rw [hgr]; split <;> omega
  obtain ⟨N, hN⟩ : ∃ N, N = 2 ^ gb := ⟨_, rfl⟩
  have CN := Lib.hid (fun W => plnew_any gb N hgb hN W)
  rw [← hN]
  have HN := Lib.hid hN
  have hmax : (if (b1 : Int) < 3 then (3 : Int) else (b1 : Int)) = (gb : Int) := by rw [hgr]; split <;> split <;> omega
  have hmax2 : max (b1 : Int) 3 = (gb : Int) := by rw [hgr]; split <;> omega
  clear hN hgr hG
  rcases hb1 with ⟨hd, rfl⟩ | ⟨hd, rfl⟩
  · have hd1 : decide (3 * (n : Int) < 8 * ((c : Int) + 1)) = true := decide_eq_true (by omega)
    clear hd
    have hmax3 : (if (b : Int) + 1 < 3 then (3 : Int) else (b : Int) + 1) = (gb : Int) := by have := hmax; rw [show ((b + 1 : Nat) : Int) = (b : Int) + 1 from by omega] at this; exact this
    go_enter Try.func33, Try.ntmps33
    go_upto_region 1 with fail
    go_quiet (fail)
    have HTq : Hid (TbAt (w.drewN nq) S q (.slice A n n) (.slice none 0 0) l b u [] bo uo nx c wk) := hT.out.drewN nq
    have HKq : Hid (Kept S w (w.drewN nq)) := (Kept.refl S w).drewN nq
    have HSz : Hid ((w.drewN nq).heap.size = w.heap.size) := rfl
    clear q0 q1 q2 q3 q4 q5 q6 q7 q8 r0 r1 r2 r3 r4 r5 r6 r7 r8
    generalize w.drewN nq = w1 at *
    obtain ⟨q0, q1, q2, q3, q4, q5, q6, q7, q8⟩ := nine_cells HTq.out.box
    obtain ⟨r0, r1, r2, r3, r4, r5, r6, r7, r8⟩ := nine_frozen HTq.out.box
    go_wp2_with fail
    have hk4 : Kept (fun k => k = q) w1 ((((w1.setCell ⟨q, 3, none⟩ (.slice A n n)).setCell ⟨q, 4, none⟩ (.int .i64 (b : Int))).setCell ⟨q, 5, none⟩ (.int .i64 (u : Int))).setCell ⟨q, 6, none⟩ (.int .i64 0)) := (((Kept.setCell (S := fun k => k = q) w1 ⟨q, 3, none⟩ _ rfl).trans (Kept.setCell _ ⟨q, 4, none⟩ _ rfl)).trans (Kept.setCell _ ⟨q, 5, none⟩ _ rfl)).trans (Kept.setCell _ ⟨q, 6, none⟩ _ rfl)
    have hq4 : ((((w1.setCell ⟨q, 3, none⟩ (.slice A n n)).setCell ⟨q, 4, none⟩ (.int .i64 (b : Int))).setCell ⟨q, 5, none⟩ (.int .i64 (u : Int))).setCell ⟨q, 6, none⟩ (.int .i64 0)).heap[q]? = some (.cells (tbc (.slice A n n) b u (.slice A n n) b u 0 c wk) 65 (0, 0)) := set_at (set_at (set_at (tb_set HTq.out.box 3 _) _ _) _ _) _ _
    have hp4 := HTq.out.new.kept hk4 fun k e => (HTq.out.sn k e).2
    have HK4 := Lib.hid (HKq.out.trans (hk4.mono fun k _ e => e ▸ HTq.out.own))
    have HZ4 := Lib.hid (HSz.out ▸ hk4.size)
    have HQ4 := Lib.hid hq4
    have HP4 := Lib.hid hp4
    clear hk4 hq4 hp4 q0 q1 q2 q3 q4 q5 q6 q7 q8 r0 r1 r2 r3 r4 r5 r6 r7 r8
    generalize (((w1.setCell ⟨q, 3, none⟩ (.slice A n n)).setCell ⟨q, 4, none⟩ (.int .i64 (b : Int))).setCell ⟨q, 5, none⟩ (.int .i64 (u : Int))).setCell ⟨q, 6, none⟩ (.int .i64 0) = w4 at *
    refine (CN.out w4).mono ?_
    rintro e w5 ⟨d, rfl, hd5, hr5, hb5⟩
    have hq5 := (hb5.block q (Array.getElem?_eq_some_iff.1 HQ4.out).1).trans HQ4.out
    have HP5 := Lib.hid (HP4.out.kept (Kept.of_new (S := fun _ => False) hb5) fun _ _ f => f)
    have HK5 := Lib.hid (HK4.out.trans (Kept.of_new hb5))
    have HQ5 := Lib.hid hq5
    have HD5 := Lib.hid hd5
    have HR5 := Lib.hid hr5
    clear hb5 hq5 hd5 hr5
    obtain ⟨q0, q1, q2, q3, q4, q5, q6, q7, q8⟩ := nine_cells HQ5.out
    obtain ⟨r0, r1, r2, r3, r4, r5, r6, r7, r8⟩ := nine_frozen HQ5.out
    go_wp2_with fail
    go_end0
    exact grow_end HTq.out HK5.out HK4.out.size HQ5.out HP5.out HD5.out HR5.out HQ4.out HN.out (fun k e => HP4.out.lt k e)
  · have hd1 : decide (3 * (n : Int) < 8 * ((c : Int) + 1)) = false := decide_eq_false (by omega)
    clear hd
    go_enter Try.func33, Try.ntmps33
    go_upto_region 1 with fail
    go_quiet (fail)
    have HTq : Hid (TbAt (w.drewN nq) S q (.slice A n n) (.slice none 0 0) l b1 u [] bo uo nx c wk) := hT.out.drewN nq
    have HKq : Hid (Kept S w (w.drewN nq)) := (Kept.refl S w).drewN nq
    have HSz : Hid ((w.drewN nq).heap.size = w.heap.size) := rfl
    clear q0 q1 q2 q3 q4 q5 q6 q7 q8 r0 r1 r2 r3 r4 r5 r6 r7 r8
    generalize w.drewN nq = w1 at *
    obtain ⟨q0, q1, q2, q3, q4, q5, q6, q7, q8⟩ := nine_cells HTq.out.box
    obtain ⟨r0, r1, r2, r3, r4, r5, r6, r7, r8⟩ := nine_frozen HTq.out.box
    go_wp2_with fail
    have hk4 : Kept (fun k => k = q) w1 ((((w1.setCell ⟨q, 3, none⟩ (.slice A n n)).setCell ⟨q, 4, none⟩ (.int .i64 (b1 : Int))).setCell ⟨q, 5, none⟩ (.int .i64 (u : Int))).setCell ⟨q, 6, none⟩ (.int .i64 0)) := (((Kept.setCell (S := fun k => k = q) w1 ⟨q, 3, none⟩ _ rfl).trans (Kept.setCell _ ⟨q, 4, none⟩ _ rfl)).trans (Kept.setCell _ ⟨q, 5, none⟩ _ rfl)).trans (Kept.setCell _ ⟨q, 6, none⟩ _ rfl)
    have hq4 : ((((w1.setCell ⟨q, 3, none⟩ (.slice A n n)).setCell ⟨q, 4, none⟩ (.int .i64 (b1 : Int))).setCell ⟨q, 5, none⟩ (.int .i64 (u : Int))).setCell ⟨q, 6, none⟩ (.int .i64 0)).heap[q]? = some (.cells (tbc (.slice A n n) b1 u (.slice A n n) b1 u 0 c wk) 65 (0, 0)) := set_at (set_at (set_at (tb_set HTq.out.box 3 _) _ _) _ _) _ _
    have hp4 := HTq.out.new.kept hk4 fun k e => (HTq.out.sn k e).2
    have HK4 := Lib.hid (HKq.out.trans (hk4.mono fun k _ e => e ▸ HTq.out.own))
    have HZ4 := Lib.hid (HSz.out ▸ hk4.size)
    have HQ4 := Lib.hid hq4
    have HP4 := Lib.hid hp4
    clear hk4 hq4 hp4 q0 q1 q2 q3 q4 q5 q6 q7 q8 r0 r1 r2 r3 r4 r5 r6 r7 r8
    generalize (((w1.setCell ⟨q, 3, none⟩ (.slice A n n)).setCell ⟨q, 4, none⟩ (.int .i64 (b1 : Int))).setCell ⟨q, 5, none⟩ (.int .i64 (u : Int))).setCell ⟨q, 6, none⟩ (.int .i64 0) = w4 at *
    refine (CN.out w4).mono ?_
    rintro e w5 ⟨d, rfl, hd5, hr5, hb5⟩
    have hq5 := (hb5.block q (Array.getElem?_eq_some_iff.1 HQ4.out).1).trans HQ4.out
    have HP5 := Lib.hid (HP4.out.kept (Kept.of_new (S := fun _ => False) hb5) fun _ _ f => f)
    have HK5 := Lib.hid (HK4.out.trans (Kept.of_new hb5))
    have HQ5 := Lib.hid hq5
    have HD5 := Lib.hid hd5
    have HR5 := Lib.hid hr5
    clear hb5 hq5 hd5 hr5
    obtain ⟨q0, q1, q2, q3, q4, q5, q6, q7, q8⟩ := nine_cells HQ5.out
    obtain ⟨r0, r1, r2, r3, r4, r5, r6, r7, r8⟩ := nine_frozen HQ5.out
    go_wp2_with fail
    go_end0
    exact grow_end HTq.out HK5.out HK4.out.size HQ5.out HP5.out HD5.out HR5.out HQ4.out HN.out (fun k e => HP4.out.lt k e)
end Go.Proofs.Ytcdomlgnfbdeoaa
