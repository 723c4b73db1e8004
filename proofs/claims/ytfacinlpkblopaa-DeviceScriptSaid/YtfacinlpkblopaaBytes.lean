/-
  bytes.Clone and the reference's comparison of bytes.
-/
import Derived.Test.YtfacinlpkblopaaRows
import Derived.Test.YtfacinlpkblopaaWords
import Derived.WalkKit
import Derived.WalkSpells
import Derived.WalkLawsBesides
import Derived.Outline
import Derived.Lib.Hide
import Derived.Deep.LoopGhost
import Derived.Deep.QuietTactic
import Derived.BigQuiet
namespace Go.Proofs.Ytfacinlpkblopaa
open Go.RowKit

theorem info_u8 : (Try.prog.info? 5).map (fun i => (i.zero, i.size, i.bytes)) = some (some (.int .u8 0), 1, 1) := by kernel_rfl
/-- What 'bytes.Clone' leaves: a row of its own with the same bytes, or nil where nil came in. -/
def Cloned (w : World) (n : Nat) (l : List Nat) (e : Ending) (w' : World) : Prop :=
  ∃ v, e = .returned v ∧ w'.ownsRow w.heap.size 5 1 v n (vals l) ∧ Below w.heap.size w w'
theorem clone_any (A : Option Addr) (B n c : Nat) (l : List Nat) (w : World) (hA : A = none → c = 0 ∧ n = 0) (hl : Hid (l.length = n)) (hn : n ≤ 140737488355328) (hb : Hid (Bs w B A l)) :
    Calls Try.prog 37 #[.slice A n c] w (Cloned w n l) := by
  obtain ⟨i0, hi0, hz0, hz1, hz2⟩ := info_parts info_u8
  have I0 := Lib.hid (And.intro hi0 (And.intro hz0 (And.intro hz1 hz2))); clear hi0 hz0 hz1 hz2
  cases A with
  | none =>
    obtain ⟨rfl, rfl⟩ := hA rfl
    have q := fun (w : World) => Lib.run_eql_slice_nil (P := Try.prog) w 27 5 none 0 0 0 0 Try.underlying27
    go_enter Try.func37, Try.ntmps37
    go_wp2
    go_ret
    have hnil : l = [] := List.eq_nil_of_length_eq_zero hl.out
    subst hnil
    exact ⟨_, rfl, World.ownsRow_nil _ _ _ _, Below.refl _ _⟩
  | some ad =>
    clear hA
    have hN : Hid (0 + n ≤ maxLen ∧ (0 + n) * 1 ≤ 140737488355328 ∧ (vals l).length = n * 1) := ⟨by unfold maxLen; omega, by omega, by rw [vals_length, hl.out]; omega⟩
    have q := fun (w : World) => Lib.run_eql_slice_nil (P := Try.prog) w 27 5 (some ad) n c 0 0 Try.underlying27
    have HO := Lib.hid (World.ownsRow_made (base := w.heap.size) (e := 5) (size := 1) w #[] 0 (Nat.le_refl _) (by unfold maxLen; omega) rfl)
    have HB : Hid (Below w.heap.size w (w.alloc (.cells #[] 5))) := (Below.refl _ w).alloc (Nat.le_refl _) _
    have HC : Hid (∀ (j : Nat) (u : Value), (vals l)[j]? = some u → (w.alloc (.cells #[] 5)).cell? (ad.add j) = some u) := by
      have h1 : Bs w w.heap.size (some ad) l := fun k hk => by
        obtain ⟨a1, ad', e, _, h⟩ := hb.out k hk
        refine ⟨a1, ad', e, ?_, h⟩
        have := World.block_lt_of_cell? w _ h
        rwa [add_block] at this
      exact (h1.below HB.out (Nat.le_refl _)).cells
    go_enter Try.func37, Try.ntmps37
    go_wp2_with (at_builtin; refine append_onto rfl (.tmp 5) (.tmp 6) 27 rfl w.heap.size 5 i0 (.int .u8 0) 1 1 Try.underlying27 I0.out.1 I0.out.2.1 I0.out.2.2.1 I0.out.2.2.2 rfl (by decide) _ 0 [] rfl HO.out (some ad) n c (vals l) rfl (fun h => by cases h) hN.out.2.2 (fun ad' e => by injection e with e; subst e; exact HC.out) (vals_one l) hN.out.1 hN.out.2.1 HB.out.size ?_; intro v1 w1 hown1 hg1)
    go_ret
    refine ⟨_, rfl, ?_, HB.out.grown hg1 HB.out.size (fun k hk => Nat.le_of_eq (Option.some.inj hk))⟩
    simpa using hown1
/-- What a comparison leaves: nothing but draws. -/
def SaysQuiet (b : Bool) (w : World) (e : Ending) (w' : World) : Prop := e = .returned (.bool b) ∧ ∃ k, w' = w.drewN k
theorem getD_ext {a b : List Nat} (hl : a.length = b.length) (h : ∀ j, j < a.length → a.getD j 0 = b.getD j 0) : a = b := by
  apply List.ext_getElem hl
  intro j h1 h2
  have e := h j h1
  rw [List.getD_eq_getElem?_getD, List.getD_eq_getElem?_getD, List.getElem?_eq_getElem h1, List.getElem?_eq_getElem h2] at e
  exact e
set_option maxHeartbeats 400000 in
theorem refeq_any (A A' : Option Addr) (B B' n n' c c' : Nat) (l l' : List Nat) (w : World) (hl : Hid (l.length = n)) (hl' : Hid (l'.length = n')) (hn : n ≤ 140737488355328) (hn' : n' ≤ 140737488355328) (hb : Hid (Bs w B A l)) (hb' : Hid (Bs w B' A' l')) :
    Calls Try.prog 15 #[.slice A n c, .slice A' n' c'] w (SaysQuiet (decide (l = l')) w) := by
  by_cases he : n = n'
  · subst he
    go_enter Try.func15, Try.ntmps15
    go_wp2
    go_loopw [5, 13] (fun xv iv wr => ∃ k q : Nat, k ≤ n ∧ iv = .int .i64 k ∧ wr = w.drewN q ∧ Hid (∀ j, j < k → l.getD j 0 = l'.getD j 0)) (fun _ i _ => n - (intOf i).toNat)
    case atStart => exact ⟨0, 0, Nat.zero_le _, rfl, rfl, fun j hj => absurd hj (by omega)⟩
    case round =>
      obtain ⟨k, q, hk, rfl, rfl, hz⟩ := hrel
      by_cases hlt : k < n
      · obtain ⟨hx, ad, rfl, _, hc⟩ := hb.out k (by rw [hl.out]; exact hlt)
        obtain ⟨hx', ad', rfl, _, hc'⟩ := hb'.out k (by rw [hl'.out]; exact hlt)
        generalize hX : l.getD k 0 = x at hx hc
        generalize hX' : l'.getD k 0 = x' at hx' hc'
        have HX := Lib.hid hX; clear hX
        have HX' := Lib.hid hX'; clear hX'
        by_cases h0 : x = x'
        · subst h0
          go_wp2
          go_quiet (fail)
          go_wp2
          go_roundw
          case rel =>
            refine ⟨k + 1, _, by omega, by go_num, rfl, fun j hj => ?_⟩
            rcases Nat.lt_or_ge j k with h | h
            · exact hz.out j h
            · obtain rfl : j = k := by omega
              exact HX.out.trans HX'.out.symm
          case measure => simp [intOf]; omega
        · have h1 : ((x : Int) != (x' : Int)) = true := by rw [bne_iff_ne]; omega
          go_wp2
          go_quiet (fail)
          go_wp2
          go_ret
          refine ⟨?_, _, World.drewN_drewN _ _ _⟩
          have hf : decide (l = l') = false := decide_eq_false (fun e => h0 (by rw [← HX.out, ← HX'.out, e]))
          rw [hf]; rfl
      · go_wp2
        go_ret
        refine ⟨?_, _, rfl⟩
        have ht : decide (l = l') = true := decide_eq_true (getD_ext (hl.out.trans hl'.out.symm) (fun j hj => hz.out j (by rw [hl.out] at hj; omega)))
        rw [ht]; rfl
  · have h1 : ((n : Int) != (n' : Int)) = true := by rw [bne_iff_ne]; omega
    have HE := Lib.hid he; clear he
    go_enter Try.func15, Try.ntmps15
    go_wp2
    go_ret
    refine ⟨?_, 0, rfl⟩
    have hf : decide (l = l') = false := decide_eq_false (fun e => HE.out (by rw [← hl.out, ← hl'.out, e]))
    rw [hf]; rfl
end Go.Proofs.Ytfacinlpkblopaa
