/-
  The walk of the statement on a checksum's parts.
-/
import Derived.Test.YtogaoemeiclpjaaDoorCrcLaws
import Derived.OwnWalk
namespace Go.Proofs.YtogaoemeiclpjaaDoor
open Go.RowKit
set_option maxRecDepth 100000 in
set_option maxHeartbeats 400000 in
theorem crcparts_any (A : Option Addr) (n cap : Nat) (l : List Nat) (A' : Option Addr) (n' cap' : Nat) (l' : List Nat) (w : World)
    (hA : A = none → cap = 0 ∧ n = 0) (hl : Hid (l.length = n)) (hn : n ≤ cap) (hcap : cap ≤ 9223372036854775807) (hb : Hid (Bs w w.heap.size A l))
    (hA' : A' = none → cap' = 0 ∧ n' = 0) (hl' : Hid (l'.length = n')) (hn' : n' ≤ cap') (hcap' : cap' ≤ 9223372036854775807) (hb' : Hid (Bs w w.heap.size A' l')) (ht : Hid (TabW w)) (hz : 0 < w.heap.size) :
    Calls Tryd.prog 4 #[.slice A n cap, .slice A' n' cap'] w fun e w' => e = .returned (.bool true) ∧ Below w.heap.size w w' := by
  obtain ⟨m, k, hm, hk, hbk, hm3⟩ := cut300 hl.out hb.out 200
  obtain ⟨m', k', hm', hk', hbk', hm3'⟩ := cut300 hl'.out hb'.out 200
  have HA : Hid (A = none → m = 0 ∧ cap = 0) := fun e => ⟨by have := hA e; omega, (hA e).1⟩
  have HA' : Hid (A' = none → m' = 0 ∧ cap' = 0) := fun e => ⟨by have := hA' e; omega, (hA' e).1⟩
  clear hA hA'
  have b1 : Hid (0 + m ≤ maxLen ∧ (0 + m) * 1 ≤ 140737488355328 ∧ (vals k).length = m * 1) := ⟨by unfold maxLen; omega, by omega, by rw [vals_length, hk.out]; omega⟩
  have b2 : Hid (m + m' ≤ maxLen ∧ (m + m') * 1 ≤ 140737488355328 ∧ (vals k').length = m' * 1) := ⟨by unfold maxLen; omega, by omega, by rw [vals_length, hk'.out]; omega⟩
  have b3 : Hid (m ≤ 9223372036854775807 ∧ m' ≤ 9223372036854775807 ∧ m + m' ≤ 9223372036854775807) := ⟨by omega, by omega, by omega⟩
  have e9 : Hid (Crc.U (Crc.upd 0#32 (k ++ k')) = Crc.U (Crc.upd (Crc.upd 0#32 k) k')) := by
    show Crc.U (Crc.upd 0#32 (k ++ k')) = Crc.U (Crc.upd (Crc.upd 0#32 k) k')
    rw [Crc.upd_append]
  have hlt : Hid (∀ x ∈ k ++ k', x < 256) := fun x hx => by
    rcases List.mem_append.1 hx with h | h
    · exact hbk.out.lt x h
    · exact hbk'.out.lt x h
  obtain ⟨i0, hi, hz0, hz1, hz2⟩ := info_parts info_byte
  have I0 := Lib.hid (And.intro hi (And.intro hz0 (And.intro hz1 hz2))); clear hi hz0 hz1 hz2
  rcases hm with ⟨h, rfl⟩ | ⟨h, rfl⟩ <;> rcases hm' with ⟨h', rfl⟩ | ⟨h', rfl⟩
  all_goals
    go_enter Tryd.func4, Tryd.ntmps4
    go_wp2_with fail
    go_quiet (fail)
    go_wp2_with fail
    refine (awake_any _ (ht.out.drewN _) hz).mono ?_
    rintro e w1 ⟨rfl, hb0⟩
    have hb1 : Hid (Below w.heap.size w w1) := (below_drewN w _).trans hb0
    clear hb0
    have ht1 : Hid (TabW w1) := ht.out.below hb1.out hz
    have hs1 : Hid (Bs w1 w.heap.size A k) := hbk.out.below hb1.out (Nat.le_refl _)
    have hs2 : Hid (Bs w1 w.heap.size A' k') := hbk'.out.below hb1.out (Nat.le_refl _)
    go_wp2_with fail
    refine (sum_any A w.heap.size cap _ k w1 hk b3.out.1 hs1 ht1).mono ?_
    rintro e w2 ⟨rfl, rfl⟩
    go_wp2_with fail
    refine (update_any _ _ rfl A' w.heap.size cap' _ k' w1 hk' b3.out.2.1 hs2 ht1).mono ?_
    rintro e w2 ⟨rfl, rfl⟩
    have hp1 : w.heap.size ≤ w1.heap.size := hb1.out.size
    go_wp2_with (first | (at_builtin; refine append_onto rfl (.const (.slice none 0 0)) (.tmp 21) 23 rfl w1.heap.size 5 i0 (.int .u8 0) 1 1 Tryd.underlying23 I0.out.1 I0.out.2.1 I0.out.2.2.1 I0.out.2.2.2 rfl (by decide) _ 0 [] rfl (World.ownsRow_nil _ _ _ _) A _ cap (vals k) rfl HA.out b1.out.2.2 (fun ad e => by have h := hs1.out; rw [e] at h; exact h.cells) (vals_one _) b1.out.1 b1.out.2.1 (Nat.le_refl _) ?_; intro v1 w2 hown1 hg1; simp only [Nat.zero_add, List.nil_append] at hown1) | (at_builtin; (refine append_onto rfl (.tmp 22) (.tmp 23) 23 rfl w1.heap.size 5 i0 (.int .u8 0) 1 1 Tryd.underlying23 I0.out.1 I0.out.2.1 I0.out.2.2.1 I0.out.2.2.2 rfl (by decide) _ _ (vals k) rfl hown1 A' _ cap' (vals k') rfl HA'.out b2.out.2.2 (fun ad e => by have h := hs2.out.grown hg1 (fun g e => by cases e); rw [e] at h; exact h.cells) (vals_one _) b2.out.1 b2.out.2.1 hg1.size ?_; intro v2 w3 hown2 hg2; rw [← vals_append] at hown2)))
    obtain ⟨B2, c2, hv, hbs, hlen, _, hc2, hB2⟩ := own_bytes hown2 hlt.out
    have hz3 : Hid (Below w.heap.size w w3) := by
      have h2 := hb1.out.grown hg1 hp1 (fun g e => by cases e)
      exact h2.grown hg2 h2.size (fun g e => Nat.le_trans hp1 (hown1.lt g e).1)
    have ht3 : Hid (TabW w3) := ht.out.below hz3.out hz
    subst hv
    have HL : Hid ((k ++ k').length = _) := hlen
    have hbs' : Hid (Bs w3 w3.heap.size B2 (k ++ k')) := hbs
    clear hlen hbs hB2 hown2 hown1 hg1 hg2 hc2
    refine (sum_any B2 w3.heap.size c2 _ (k ++ k') w3 HL b3.out.2.2 hbs' ht3).mono ?_
    rintro e w4 ⟨rfl, rfl⟩
    rw [e9.out]
    go_wp2
    go_ret
    exact ⟨rfl, hz3.out⟩
end Go.Proofs.YtogaoemeiclpjaaDoor
