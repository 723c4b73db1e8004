/-
  The walks of slices.Grow of nil and slices.Concat at bytes.
-/
import Derived.Test.YtnadbokhcmbcaaaDoorRecPut
import Derived.Lib.AppendZerosOnto
import Derived.Deep.AppendLies
namespace Go.Proofs.YtnadbokhcmbcaaaDoor
open Go.RowKit

theorem grow_nil (n : Nat) (w : World) (hn : n ≤ 70368744177664) :
    Calls Tryd.prog 33 #[.slice none 0 0, .int .i64 (n : Int)] w fun e w' => ∃ v, e = .returned v ∧ w'.ownsRow w.heap.size 5 1 v 0 [] ∧ Below w.heap.size w w' := by
  by_cases h0 : n = 0
  · subst h0
    go_enter Tryd.func33, Tryd.ntmps33
    go_wp2
    go_ret
    exact ⟨_, rfl, World.ownsRow_nil _ _ _ _, Below.refl _ _⟩
  · obtain ⟨i0, hi0, hz0, hz1, hz2⟩ := info_parts info_u8
    have hrz : ∀ ty, (Builtin.append_ #[24, 3] ty #[.slice none 0 0, .int .i64 (n : Int)]).run Tryd.prog w =
        .ok (.slice (some ⟨w.heap.size, 0, none⟩) n (grownCap w n 0 5)) (w.drew.alloc (.cells (#[] ++ Builtin.zeroCells #[.int .u8 0] n ++ Builtin.zeroCells #[.int .u8 0] (grownCap w n 0 5 - n)) 5)) := fun ty => by
      have h := Lib.run_append_grow_zeros w 24 3 ty 5 i0 (.int .u8 0) .i64 .i64 Tryd.underlying24 Tryd.underlying3 hi0 hz0 none 0 0 [] (run_firstCells_none w.drew i0.size 0 0 0) n (by omega) (by omega) (by omega) (by omega) (by rw [hz2]; omega)
        (growslice_fits (by omega) (by rw [hz2]; omega))
      simp only [Nat.zero_add] at h
      exact h
    have hGn : n ≤ grownCap w n 0 5 := grownCap_ge w _ _ _
    have hG63 : grownCap w n 0 5 ≤ maxLen := grownCap_le_maxLen w n 0 5 (by unfold maxLen; omega)
    generalize grownCap w n 0 5 = G at hrz hGn hG63
    have hown : Hid ((w.alloc (.cells (Builtin.zeroCells #[.int .u8 0] n ++ Builtin.zeroCells #[.int .u8 0] (G - n)) 5)).drew.ownsRow w.heap.size 5 1 (.slice (some ⟨w.heap.size, 0, none⟩) 0 G) 0 []) := by
      refine ⟨rfl, .inr ⟨w.heap.size, G, _, rfl, Nat.le_refl _, (heap_alloc_new w (.cells (Builtin.zeroCells #[.int .u8 0] n ++ Builtin.zeroCells #[.int .u8 0] (G - n)) 5) :), Nat.zero_le _, hG63, ?_, rfl⟩⟩
      rw [Array.size_append, size_zeroCells, size_zeroCells]
      simp
      omega
    have HG : Hid (G ≤ 9223372036854775807) := hG63
    have hGm := HG.out
    clear hi0 hz0 hz1 hz2 hG63
    go_enter Tryd.func33, Tryd.ntmps33
    go_wp2_with (at_builtin; refine Lib.wpList_append_run _ rfl _ _ _ _ rfl _ _ rfl rfl _ _ (hrz _) ?_)
    all_goals
      go_ret
      exact ⟨_, rfl, hown.out, below_drawn ((Below.refl _ _).alloc (Nat.le_refl _) _) 1⟩
theorem flatten_snoc (ps : List (List Nat)) (k : Nat) (hk : k < ps.length) : (ps.take (k + 1)).flatten = (ps.take k).flatten ++ ps.getD k [] := by
  rw [List.take_succ_eq_append_getElem hk, List.flatten_append, List.getD_eq_getElem?_getD, List.getElem?_eq_getElem hk]
  simp
theorem flatten_take_le (ps : List (List Nat)) (k : Nat) : (ps.take k).flatten.length ≤ ps.flatten.length := by
  have e : ps.flatten = (ps.take k).flatten ++ (ps.drop k).flatten := by rw [← List.flatten_append, List.take_append_drop]
  rw [e, List.length_append]; omega
set_option maxHeartbeats 1000000 in
theorem concat_any (g B : Nat) (ps : List (List Nat)) (n c : Nat) (w : World) (hp : Hid (Parts w B g ps)) (hg : g < w.heap.size) (hB : B ≤ w.heap.size) (hn : Hid (ps.length = n)) (h100 : n ≤ 100) (hc : n ≤ c) (hcm : c ≤ 9223372036854775807) (hs : Hid (ps.flatten.length ≤ 70368744177664)) :
    Calls Tryd.prog 28 #[.slice (some ⟨g, 0, none⟩) n c] w fun e w' => ∃ v, e = .returned v ∧ w'.ownsRow w.heap.size 5 1 v ps.flatten.length (vals ps.flatten) ∧ Below w.heap.size w w' := by
  obtain ⟨i0, hi0, hz0, hz1, hz2⟩ := info_parts info_u8
  have I0 := Lib.hid (And.intro hi0 (And.intro hz0 (And.intro hz1 hz2))); clear hi0 hz0 hz1 hz2
  have hlt : Hid (∀ k, k < n → ∀ x ∈ ps.getD k [], x < 256) := fun k hk => by
    obtain ⟨A, m, c', _, _, _, hb⟩ := hp.out k (by rw [hn.out]; exact hk)
    exact hb.lt
  go_enter Tryd.func28, Tryd.ntmps28
  go_wp2
  go_loop [3, 5, 11] (fun sv _ iv => ∃ k : Nat, k ≤ n ∧ iv = .int .i64 (k : Int) ∧ sv = .int .i64 (((ps.take k).flatten.length : Nat) : Int)) (fun _ _ i => n - (intOf i).toNat)
  case atStart => exact ⟨0, Nat.zero_le _, rfl, rfl⟩
  case round =>
    obtain ⟨k, hk, rfl, rfl⟩ := hrel
    by_cases hlt : k < n
    · obtain ⟨A, m, c', z, hs', hl, hb⟩ := hp.out k (by rw [hn.out]; exact hlt)
      have e1 := congrArg List.length (flatten_snoc ps k (by rw [hn.out]; exact hlt))
      rw [List.length_append, hl] at e1
      have e2 := flatten_take_le ps (k + 1)
      have e3 := hs.out
      have HE := Lib.hid e1
      clear hl hb hs'
      generalize (ps.take k).flatten.length = q at e1 HE
      have hq : q + m ≤ 70368744177664 := by omega
      clear e1 e2 e3
      have hd : decide (((q : Int) + (m : Int)) < 0) = false := by simp; omega
      go_wp2
      go_round
      case rel => exact ⟨k + 1, by omega, by go_num, by rw [HE.out]; rfl⟩
      case measure => simp [intOf]; omega
    · rw [List.take_of_length_le (by rw [hn.out]; omega)]
      have hs2 := hs.out
      have HX := Lib.hid (Eq.refl ps.flatten.length)
      generalize hq : ps.flatten.length = q at hs2
      have HQ := Lib.hid hq; clear hq HX
      go_wp2_with fail
      refine (grow_nil q _ hs2).mono ?_
      rintro e w1 ⟨v1, rfl, hown1, hb1⟩
      have HB1 := Lib.hid hb1
      have HO1 := Lib.hid hown1
      have HP1 := Lib.hid (hp.out.below hb1 hB hg)
      clear hown1 hb1
      go_wp2
      go_loopw [6, 8, 27] (fun bv _ iv wr => ∃ k : Nat, k ≤ n ∧ iv = .int .i64 (k : Int) ∧ Hid (wr.ownsRow w.heap.size 5 1 bv (ps.take k).flatten.length (vals (ps.take k).flatten)) ∧ Hid (Below w.heap.size w wr)) (fun _ _ i _ => n - (intOf i).toNat)
      case atStart => exact ⟨0, Nat.zero_le _, rfl, HO1, HB1⟩
      case round =>
        obtain ⟨k, hk, rfl, hown, hbel⟩ := hrel
        by_cases hlt : k < n
        · obtain ⟨A, m, c', z, hs', hl, hb⟩ := (hp.out.below hbel.out hB hg) k (by rw [hn.out]; exact hlt)
          have HFS := Lib.hid (flatten_snoc ps k (by rw [hn.out]; exact hlt))
          have e1 := congrArg List.length HFS.out
          rw [List.length_append, hl] at e1
          have e2 := flatten_take_le ps (k + 1)
          have e3 := hs.out
          have HL := Lib.hid hl
          have HBs := Lib.hid hb
          have HA : Hid (A = none → m = 0 ∧ c' = 0) := fun e => ⟨(hs'.1 e).2, (hs'.1 e).1⟩
          clear hl hb hs'
          generalize hp1 : ps.getD k [] = p at *
          generalize hf1 : (ps.take k).flatten = f at *
          have HP1 := Lib.hid hp1
          have HF1 := Lib.hid hf1
          clear hp1 hf1
          have b1 : Hid (f.length + m ≤ maxLen ∧ (f.length + m) * 1 ≤ 140737488355328 ∧ (vals p).length = m * 1) := ⟨by unfold maxLen; omega, by omega, by rw [vals_length, HL.out]; omega⟩
          clear e1 e2 e3
          go_wp2_with (at_builtin; refine append_onto rfl (.tmp 31) (.tmp 32) 24 rfl w.heap.size 5 i0 (.int .u8 0) 1 1 Tryd.underlying24 I0.out.1 I0.out.2.1 I0.out.2.2.1 I0.out.2.2.2 rfl (by decide) _ f.length (vals f) rfl hown.out A m c' (vals p) rfl HA.out b1.out.2.2 (fun ad e => by have h := HBs.out; rw [e] at h; exact h.cells) (vals_one _) b1.out.1 b1.out.2.1 hbel.out.size ?_; intro v2 w2 hown2 hg2; rw [← vals_append] at hown2)
          go_roundw
          case rel =>
            refine ⟨k + 1, by omega, by go_num, ?_, ?_⟩
            · show World.ownsRow _ _ _ _ _ _ _
              rw [HFS.out, List.length_append, HL.out]
              exact hown2
            · exact hbel.out.grown hg2 hbel.out.size (fun g e => (hown.out.lt g e).1)
          case measure => simp [intOf]; omega
        · go_wp2
          go_ret
          rw [List.take_of_length_le (by rw [hn.out]; omega)] at hown
          exact ⟨_, rfl, hown.out, hbel.out⟩
end Go.Proofs.YtnadbokhcmbcaaaDoor
