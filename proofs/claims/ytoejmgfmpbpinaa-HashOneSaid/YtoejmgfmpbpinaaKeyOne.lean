/-
  The walk of the statement that keys that differ in the last byte alone have different hashes.
-/
import Derived.Test.YtoejmgfmpbpinaaKeyLaws
import Derived.OwnWalk
import Derived.Deep.AppendLies
namespace Go.Proofs.Ytoejmgfmpbpinaa
open Go.RowKit
theorem info_byte : (Try.prog.info? 5).map (fun i => (i.zero, i.size, i.bytes)) = some (some (.int .u8 0), 1, 1) := by kernel_rfl
theorem ret_bool' {a b : Bool} (h : a = b) : Ending.returned (.bool a) = .returned (.bool b) := by rw [h]
/-- Two appends, one behind the other, with a block between: what lay there before is as it was. -/
theorem two_steps {w w1 w2 : World} {o : Obj} {n : Nat} {v : Value} {xs : List Value} {e : TypeId} (h1 : w.grownBy w1 (Value.slice none 0 0).ownBlock) (h2 : (w1.alloc o).grownBy w2 v.ownBlock) (hown : w1.ownsRow w.heap.size e 1 v n xs) : Below w.heap.size w w2 := by
  have a1 : Below w.heap.size w w1 := (Below.refl _ w).grown h1 (Nat.le_refl _) (fun g e => by cases e)
  have a2 : Below w.heap.size w (w1.alloc o) := a1.alloc a1.size o
  exact a2.grown h2 a2.size (fun g e => (hown.lt g e).1)
set_option maxRecDepth 100000 in
set_option maxHeartbeats 400000 in
theorem hashone_any (A : Option Addr) (n cap : Nat) (l : List Nat) (a b : Nat) (w : World) (hA : A = none → cap = 0 ∧ n = 0) (hl : Hid (l.length = n)) (hn : n ≤ cap) (hcap : cap ≤ 9223372036854775807) (hb : Hid (Bs w w.heap.size A l)) (ha : a < 256) (hb2 : b < 256) :
    Calls Try.prog 5 #[.slice A n cap, .int .u8 (a : Int), .int .u8 (b : Int)] w fun e w' => e = .returned (.bool true) ∧ Below w.heap.size w w' := by
  obtain ⟨m, k, hm, hk, hbk, hm3⟩ := cutk hl.out hb.out 40
  have HA : Hid (A = none → m = 0 ∧ cap = 0) := fun e => ⟨by have := hA e; omega, (hA e).1⟩
  clear hA
  have b1 : Hid (0 + m ≤ maxLen ∧ (0 + m) * 1 ≤ 140737488355328 ∧ (vals k).length = m * 1) := ⟨by unfold maxLen; omega, by omega, by rw [vals_length, hk.out]; omega⟩
  have b2 : Hid (m + 1 ≤ maxLen ∧ (m + 1) * 1 ≤ 140737488355328) := ⟨by unfold maxLen; omega, by omega⟩
  have b3 : Hid (m + 1 ≤ 9223372036854775807) := by unfold Hid; omega
  have e9 : Hid ((((Key.V (Key.hash (k ++ [a])) : Nat) : Int) == ((Key.V (Key.hash (k ++ [b])) : Nat) : Int)) = ((a : Int) == (b : Int))) := Key.hash_one k a b ha hb2
  have hlt : ∀ x, x < 256 → ∀ y ∈ k ++ [x], y < 256 := fun x hx y hy => by
    rcases List.mem_append.1 hy with h | h
    · exact hbk.out.lt y h
    · rw [List.mem_singleton.1 h]; exact hx
  have hlta := Lib.hid (hlt a ha)
  have hltb := Lib.hid (hlt b hb2)
  clear hlt
  have ha' : (a : Int) < 256 := by omega
  have hb' : (b : Int) < 256 := by omega
  obtain ⟨i0, hi, hz0, hz1, hz2⟩ := info_parts info_byte
  have I0 := Lib.hid (And.intro hi (And.intro hz0 (And.intro hz1 hz2))); clear hi hz0 hz1 hz2
  rcases hm with ⟨h, rfl⟩ | ⟨h, rfl⟩
  all_goals
    go_enter Try.func5, Try.ntmps5
    go_wp2_with (first | (at_builtin; refine append_onto rfl (.const (.slice none 0 0)) (.tmp 14) 22 rfl w.heap.size 5 i0 (.int .u8 0) 1 1 Try.underlying22 I0.out.1 I0.out.2.1 I0.out.2.2.1 I0.out.2.2.2 rfl (by decide) _ 0 [] rfl (World.ownsRow_nil _ _ _ _) A _ cap (vals k) rfl HA.out b1.out.2.2 (fun ad e => by have h := hbk.out; rw [e] at h; exact h.cells) (vals_one _) b1.out.1 b1.out.2.1 (Nat.le_refl _) ?_; intro v1 w1 hown1 hg1; simp only [Nat.zero_add, List.nil_append] at hown1) | (at_builtin; refine append_onto rfl (.tmp 15) (.tmp 17) 22 rfl w.heap.size 5 i0 (.int .u8 0) 1 1 Try.underlying22 I0.out.1 I0.out.2.1 I0.out.2.2.1 I0.out.2.2.2 rfl (by decide) _ _ (vals k) rfl (hown1.alloc _) (some ⟨w1.heap.size, 0, none⟩) 1 1 (vals [a]) rfl (fun h => by cases h) rfl (fun ad e => by injection e with e; subst e; exact World.news_of_block (heap_alloc_new w1 _)) (vals_one _) b2.out.1 b2.out.2 (Nat.le_trans hg1.size (below_alloc w1 _).size) ?_; intro v2 w2 hown2 hg2; rw [← vals_append] at hown2; have HB2 : Hid (Below w.heap.size w w2) := two_steps hg1 hg2 hown1; have hbk2 : Hid (Bs w2 w.heap.size A k) := hbk.out.below HB2.out (Nat.le_refl _)) | (at_builtin; refine append_onto rfl (.const (.slice none 0 0)) (.tmp 19) 22 rfl w2.heap.size 5 i0 (.int .u8 0) 1 1 Try.underlying22 I0.out.1 I0.out.2.1 I0.out.2.2.1 I0.out.2.2.2 rfl (by decide) _ 0 [] rfl (World.ownsRow_nil _ _ _ _) A _ cap (vals k) rfl HA.out b1.out.2.2 (fun ad e => by have h := hbk2.out; rw [e] at h; exact h.cells) (vals_one _) b1.out.1 b1.out.2.1 (Nat.le_refl _) ?_; intro v3 w3 hown3 hg3; simp only [Nat.zero_add, List.nil_append] at hown3) | (at_builtin; refine append_onto rfl (.tmp 20) (.tmp 22) 22 rfl w2.heap.size 5 i0 (.int .u8 0) 1 1 Try.underlying22 I0.out.1 I0.out.2.1 I0.out.2.2.1 I0.out.2.2.2 rfl (by decide) _ _ (vals k) rfl (hown3.alloc _) (some ⟨w3.heap.size, 0, none⟩) 1 1 (vals [b]) rfl (fun h => by cases h) rfl (fun ad e => by injection e with e; subst e; exact World.news_of_block (heap_alloc_new w3 _)) (vals_one _) b2.out.1 b2.out.2 (Nat.le_trans hg3.size (below_alloc w3 _).size) ?_; intro v4 w4 hown4 hg4; rw [← vals_append] at hown4; have HB4 : Hid (Below w2.heap.size w2 w4) := two_steps hg3 hg4 hown3))
    obtain ⟨A2, c2, rfl, bs2, len2, _, _, _⟩ := own_bytes hown2 hlta.out
    obtain ⟨A4, c4, rfl, bs4, len4, _, _, _⟩ := own_bytes hown4 hltb.out
    have S2 : Hid (Bs w4 w2.heap.size A2 (k ++ [a])) := bs2.below HB4.out (Nat.le_refl _)
    have S4 : Hid (Bs w4 w4.heap.size A4 (k ++ [b])) := bs4
    have L2 := Lib.hid len2
    have L4 := Lib.hid len4
    have HW : Hid (Below w.heap.size w w4) := HB2.out.trans (HB4.out.mono HB2.out.size)
    have HZ : Hid (w2.heap.size ≤ w4.heap.size) := HB4.out.size
    clear bs2 bs4 len2 len4 hown1 hown2 hown3 hown4 hg1 hg2 hg3 hg4 HB2 HB4 hbk2
    refine (awake_any w4).mono ?_
    rintro e w5 ⟨rfl, hb5⟩
    have S2' : Hid (Bs w5 w2.heap.size A2 (k ++ [a])) := S2.out.below hb5 HZ.out
    have S4' : Hid (Bs w5 w4.heap.size A4 (k ++ [b])) := S4.out.below hb5 (Nat.le_refl _)
    have HV : Hid (Below w.heap.size w w5) := HW.out.trans (hb5.mono HW.out.size)
    clear hb5 S2 S4
    go_wp2_with fail
    refine (hash_any A2 w2.heap.size c2 _ (k ++ [a]) w5 L2 (by omega) S2').mono ?_
    rintro e w6 ⟨rfl, rfl⟩
    go_wp2_with fail
    refine (hash_any A4 w4.heap.size c4 _ (k ++ [b]) w5 L4 (by omega) S4').mono ?_
    rintro e w6 ⟨rfl, rfl⟩
    go_wp2
    go_ret
    exact ⟨ret_bool' (by rw [e9.out]; simp), HV.out⟩
end Go.Proofs.Ytoejmgfmpbpinaa
