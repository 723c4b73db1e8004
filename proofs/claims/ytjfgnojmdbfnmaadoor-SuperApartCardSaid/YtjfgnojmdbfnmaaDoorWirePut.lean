/-
  The walk of wire.Put: a copy of the bytes, and the number's bytes behind them.
-/
import Derived.Test.YtjfgnojmdbfnmaaDoorWireWalk
import Derived.OwnWalk
import Derived.Laws.CopyOwn
namespace Go.Proofs.YtjfgnojmdbfnmaaDoor
open Go.RowKit

theorem made_row (w : World) (n : Nat) : (w.alloc (.cells (madeCells #[.int .u8 0] n) 5)).heap[w.heap.size]? = some (.cells (List.replicate n (Value.int .u8 0)).toArray 5 (0, 0)) := by
  have h := heap_alloc_new w (.cells (madeCells #[.int .u8 0] n) 5)
  have e := toList_madeCells_one (.int .u8 0) n
  rw [h, ← e, Array.toArray_toList]
theorem own_spliced {w : World} {base g n m : Nat} {l : List Nat} (hb : base ≤ g) (hl : l.length = n) (hm : n + m ≤ maxLen)
    (h : w.heap[g]? = some (.cells (splice (List.replicate (n + m) (Value.int .u8 0)) 0 (vals l)).toArray 5 (0, 0))) :
    w.ownsRow base 5 1 (.slice (some ⟨g, 0, none⟩) n (n + m)) n (vals l) := by
  have hv : (vals l).length = n := by rw [vals_length, hl]
  refine ⟨by rw [hv]; omega, .inr ⟨g, n + m, _, rfl, hb, h, by omega, hm, ?_, ?_⟩⟩
  · rw [List.size_toArray, length_splice _ _ _ (by rw [hv, List.length_replicate]; omega), List.length_replicate]; omega
  · unfold splice
    rw [List.take_zero, List.nil_append, Nat.mul_one, List.take_left' hv]
/-- What 'Put' leaves. -/
def DidPut (w : World) (l : List Nat) (e : Ending) (w' : World) : Prop :=
  ∃ v, e = .returned v ∧ w'.ownsRow w.heap.size 5 1 v l.length (vals l) ∧ Below w.heap.size w w'
set_option maxHeartbeats 400000 in
theorem put_ok (A : Option Addr) (B n c : Nat) (l : List Nat) (N m : Nat) (mi : Int) (hmi : mi = (m : Int)) (w : World) (hA : A = none → c = 0 ∧ n = 0) (hl : Hid (l.length = n)) (hn : n ≤ 70368744177664) (hb : Hid (Bs w B A l)) (hm : 1 ≤ m) (hm8 : m ≤ 8) :
    Calls Tryd.prog 42 #[.slice A n c, .int .u64 (N : Int), .int .i64 mi] w (DidPut w (l ++ Wire.be m N)) := by
  subst hmi
  obtain ⟨i0, hi0, hz0, hz1, hz2⟩ := info_parts info_u8
  have hmk := fun (W : World) => run_make (P := Tryd.prog) W 26 5 i0 (.int .u8 0) Tryd.underlying26 hi0 hz0 .i64 .i64 (n : Int) ((n : Int) + (m : Int)) (by omega) (by omega) (by rw [hz2]; omega) (by omega)
  have ec : ((n : Int) + (m : Int)).toNat = n + m := by omega
  rw [ec, hz1] at hmk
  simp only [Int.toNat_natCast, Nat.mul_one, show (Value.int .u8 0).cells = #[.int .u8 0] from rfl] at hmk
  have I0 := Lib.hid (And.intro hi0 (And.intro hz0 (And.intro hz1 hz2))); clear hi0 hz0 hz1 hz2 ec
  have hbs : Hid (Bs (w.alloc (.cells (madeCells #[.int .u8 0] (n + m)) 5)) w.heap.size A l) := by
    have h1 : Bs w w.heap.size A l := fun k hk => by
      obtain ⟨a1, ad', e, _, h⟩ := hb.out k hk
      refine ⟨a1, ad', e, ?_, h⟩
      have := World.block_lt_of_cell? w _ h
      rwa [add_block] at this
    exact h1.below ((Below.refl _ w).alloc (Nat.le_refl _) _) (Nat.le_refl _)
  have hmr := Lib.hid (made_row w (n + m))
  have HV : Hid ((vals l).length = n) := (vals_length l).trans hl.out
  go_enter Tryd.func42, Tryd.ntmps42
  go_wp2_with fail
  refine (iswidth_yes m (by omega) (by omega) _).mono ?_
  rintro e w' ⟨rfl, rfl⟩
  go_wp2_with (refine wpList_copy_splice rfl (.tmp 21) (.tmp 22) 26 26 rfl 5 Tryd.underlying26 (by kernel_rfl) _ _ _ _ _ _ rfl rfl w.heap.size 0 (List.replicate (n + m) (Value.int .u8 0)) 5 hmr.out (vals l) (by rw [HV.out]; exact (Nat.min_self n).symm) (fun h => ⟨rfl, by cases A with | none => (have := hA rfl; rw [HV.out] at h; omega) | some ad => exact ⟨ad, rfl, fun j v hv => hbs.out.cells j v hv⟩⟩) (by rw [HV.out, List.length_replicate]; omega) (vals_one l) w.heap.size w ((Below.refl _ w).alloc (Nat.le_refl _) _) (Nat.le_refl _) ?_; intro w1 hg1 hb1)
  have ho1 : Hid (w1.ownsRow w.heap.size 5 1 (.slice (some ⟨w.heap.size, 0, none⟩) n (n + m)) n (vals l)) := own_spliced (Nat.le_refl _) hl.out (by unfold maxLen; omega) hg1.out
  clear hg1 hmk hA
  go_loopw [7, 8] (fun ov iv wr => ∃ k : Nat, k ≤ m ∧ iv = .int .i64 ((k : Int) - 1) ∧ ∃ p : List Nat, Hid (p ++ Wire.be k N = l ++ Wire.be m N) ∧ Hid (p.length + k = n + m) ∧ Hid (wr.ownsRow w.heap.size 5 1 ov p.length (vals p)) ∧ Hid (Below w.heap.size w wr)) (fun _ iv _ => (intOf iv + 1).toNat)
  case atStart => exact ⟨m, Nat.le_refl _, rfl, l, rfl, by rw [hl.out]; exact rfl, by rw [hl.out]; exact ho1.out, hb1⟩
  case round =>
    obtain ⟨k, hk, rfl, p, hp, hpl, hown, hbel⟩ := hrel
    cases k with
    | zero =>
      have hz : (((0 : Nat) : Int) - 1) = -1 := rfl
      rw [hz]
      go_wp2
      go_ret
      have e := hp.out
      rw [show Wire.be 0 N = [] from rfl, List.append_nil] at e
      subst e
      exact ⟨_, rfl, hown.out, hbel.out⟩
    | succ k =>
      have hz : (((k + 1 : Nat) : Int) - 1) = (k : Int) := by omega
      rw [hz]
      clear hz
      obtain ⟨x, ex, hx, hxe⟩ := Wire.byte_of N k
      have HX := Lib.hid hxe; clear hxe
      have b1 : Hid (p.length + 1 ≤ maxLen ∧ (p.length + 1) * 1 ≤ 140737488355328) := by unfold Hid maxLen; have := hpl.out; omega
      have hsz := hbel.out.size
      go_wp2_with (at_builtin; refine append_onto rfl (.tmp 30) (.tmp 36) 26 rfl w.heap.size 5 i0 (.int .u8 0) 1 1 Tryd.underlying26 I0.out.1 I0.out.2.1 I0.out.2.2.1 I0.out.2.2.2 rfl (by decide) _ p.length (vals p) rfl (hown.out.alloc _) (some ⟨wr.heap.size, 0, none⟩) 1 1 (vals [x]) rfl (fun h => by cases h) rfl (fun ad e => by injection e with e; subst e; exact World.news_of_block (heap_alloc_new wr _)) (vals_one _) b1.out.1 b1.out.2 (by simp; omega) ?_; intro v1 w2 hown2 hg2; rw [← vals_append] at hown2)
      go_roundw
      case rel =>
        refine ⟨k, by omega, rfl, p ++ [x], ?_, ?_, ?_, ?_⟩
        · show _ = _
          rw [List.append_assoc, HX.out]
          exact hp.out
        · show _ = _
          have := hpl.out
          rw [List.length_append, List.length_singleton]
          omega
        · show World.ownsRow _ _ _ _ _ _ _
          rw [List.length_append, List.length_singleton]
          exact hown2
        · exact (hbel.out.alloc hsz _).grown hg2 (by simp; omega) (fun g e => (hown.out.lt g e).1)
      case measure => simp [intOf]
theorem put_no (A : Option Addr) (B n c : Nat) (l : List Nat) (N : Int) (m : Int) (w : World) (hA : A = none → c = 0 ∧ n = 0) (hl : Hid (l.length = n)) (hn : n ≤ 70368744177664) (hb : Hid (Bs w B A l)) (hm : m < 1 ∨ 8 < m) :
    Calls Tryd.prog 42 #[.slice A n c, .int .u64 N, .int .i64 m] w (DidPut w l) := by
  go_enter Tryd.func42, Tryd.ntmps42
  go_wp2_with fail
  refine (iswidth_no m hm _).mono ?_
  rintro e w' ⟨rfl, rfl⟩
  go_wp2_with fail
  refine (clone_any A B n c l w hA hl (by omega) hb).mono ?_
  rintro e w2 ⟨v, rfl, hown, hb2⟩
  go_wp2
  go_ret
  exact ⟨v, rfl, by rw [hl.out]; exact hown, hb2⟩
end Go.Proofs.YtjfgnojmdbfnmaaDoor
