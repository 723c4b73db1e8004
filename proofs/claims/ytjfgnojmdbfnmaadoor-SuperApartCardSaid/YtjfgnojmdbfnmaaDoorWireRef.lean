/-
  The walks of the reference of layer 2: its Put, its Num, its comparison of bytes.
-/
import Derived.Test.YtjfgnojmdbfnmaaDoorWirePut
namespace Go.Proofs.YtjfgnojmdbfnmaaDoor
open Go.RowKit
set_option maxHeartbeats 400000 in
theorem refput_no (A : Option Addr) (B n c : Nat) (l : List Nat) (N : Nat) (mi : Int) (w : World) (hA : A = none → c = 0 ∧ n = 0) (hl : Hid (l.length = n)) (hn : n ≤ 70368744177664) (hb : Hid (Bs w B A l)) (hm : mi < 1 ∨ 8 < mi) :
    Calls Tryd.prog 38 #[.slice A n c, .int .u64 (N : Int), .int .i64 mi] w (DidPut w l) := by
  obtain ⟨i0, hi0, hz0, hz1, hz2⟩ := info_parts info_u8
  have I0 := Lib.hid (And.intro hi0 (And.intro hz0 (And.intro hz1 hz2))); clear hi0 hz0 hz1 hz2
  have hs1 : Hid (Bs w B A l) := hb
  have HA : Hid (A = none → n = 0 ∧ c = 0) := fun e => ⟨(hA e).2, (hA e).1⟩
  clear hA
  have b1 : Hid (0 + n ≤ maxLen ∧ (0 + n) * 1 ≤ 140737488355328 ∧ (vals l).length = n * 1) := ⟨by unfold maxLen; omega, by omega, by rw [vals_length, hl.out]; omega⟩
  have hd : decide (mi < 1) = true ∨ (decide (mi < 1) = false ∧ decide (8 < mi) = true) := by
    rcases hm with h | h
    · exact .inl (by simpa using h)
    · exact .inr ⟨by simp; omega, by simpa using h⟩
  clear hm
  rcases hd with hd | ⟨hd, hd2⟩
  all_goals
    go_enter Tryd.func38, Tryd.ntmps38
    go_wp2_with (at_builtin; refine append_onto rfl (.const (.slice none 0 0)) (.tmp 9) 26 rfl w.heap.size 5 i0 (.int .u8 0) 1 1 Tryd.underlying26 I0.out.1 I0.out.2.1 I0.out.2.2.1 I0.out.2.2.2 rfl (by decide) _ 0 [] rfl (World.ownsRow_nil _ _ _ _) A n c (vals l) rfl HA.out b1.out.2.2 (fun ad e => by have h := hs1.out; rw [e] at h; exact h.cells) (vals_one _) b1.out.1 b1.out.2.1 (Nat.le_refl _) ?_; intro v1 w2 hown1 hg1)
    go_ret
    refine ⟨_, rfl, ?_, (Below.refl _ _).grown hg1 (Nat.le_refl _) (fun g e => by cases e)⟩
    rw [hl.out]
    simpa using hown1
set_option maxHeartbeats 400000 in
theorem refput_ok (A : Option Addr) (B n c : Nat) (l : List Nat) (N m : Nat) (mi : Int) (hmi : mi = (m : Int)) (w : World) (hA : A = none → c = 0 ∧ n = 0) (hl : Hid (l.length = n)) (hn : n ≤ 70368744177664) (hb : Hid (Bs w B A l)) (hm : 1 ≤ m) (hm8 : m ≤ 8) :
    Calls Tryd.prog 38 #[.slice A n c, .int .u64 (N : Int), .int .i64 mi] w (DidPut w (l ++ Wire.be m N)) := by
  subst hmi
  obtain ⟨i0, hi0, hz0, hz1, hz2⟩ := info_parts info_u8
  have I0 := Lib.hid (And.intro hi0 (And.intro hz0 (And.intro hz1 hz2))); clear hi0 hz0 hz1 hz2
  have hs1 : Hid (Bs w B A l) := hb
  have HA : Hid (A = none → n = 0 ∧ c = 0) := fun e => ⟨(hA e).2, (hA e).1⟩
  clear hA
  have b0 : Hid (0 + n ≤ maxLen ∧ (0 + n) * 1 ≤ 140737488355328 ∧ (vals l).length = n * 1) := ⟨by unfold maxLen; omega, by omega, by rw [vals_length, hl.out]; omega⟩
  have hd : decide ((m : Int) < 1) = false := by simp; omega
  have hd2 : decide ((8 : Int) < (m : Int)) = false := by simp; omega
  go_enter Tryd.func38, Tryd.ntmps38
  go_wp2_with (at_builtin; refine append_onto rfl (.const (.slice none 0 0)) (.tmp 9) 26 rfl w.heap.size 5 i0 (.int .u8 0) 1 1 Tryd.underlying26 I0.out.1 I0.out.2.1 I0.out.2.2.1 I0.out.2.2.2 rfl (by decide) _ 0 [] rfl (World.ownsRow_nil _ _ _ _) A n c (vals l) rfl HA.out b0.out.2.2 (fun ad e => by have h := hs1.out; rw [e] at h; exact h.cells) (vals_one _) b0.out.1 b0.out.2.1 (Nat.le_refl _) ?_; intro v1 w1 hown1 hg1; simp only [Nat.zero_add, List.nil_append] at hown1)
  have hb1 : Hid (Below w.heap.size w w1) := (Below.refl _ _).grown hg1 (Nat.le_refl _) (fun g e => by cases e)
  have ho1 : Hid (w1.ownsRow w.heap.size 5 1 v1 n (vals l)) := hown1
  clear hg1 hown1
  go_loopw [7, 8] (fun ov iv wr => ∃ k : Nat, k ≤ m ∧ iv = .int .i64 ((k : Int) - 1) ∧ ∃ p : List Nat, Hid (p ++ Wire.be k N = l ++ Wire.be m N) ∧ Hid (p.length + k = n + m) ∧ Hid (wr.ownsRow w.heap.size 5 1 ov p.length (vals p)) ∧ Hid (Below w.heap.size w wr)) (fun _ iv _ => (intOf iv + 1).toNat)
  case atStart => exact ⟨m, Nat.le_refl _, rfl, l, rfl, by rw [hl.out]; exact rfl, by rw [hl.out]; exact ho1.out, hb1⟩
  case round =>
    obtain ⟨k, hk, rfl, p, hp, hpl, hown, hbel⟩ := hrel
    cases k with
    | zero =>
      have hz : (((0 : Nat) : Int) - 1) = -1 := rfl
      rw [hz]
      go_wp2
      go_ret
      have e := hp.out
      rw [show Wire.be 0 N = [] from rfl, List.append_nil] at e
      subst e
      exact ⟨_, rfl, hown.out, hbel.out⟩
    | succ k =>
      have hz : (((k + 1 : Nat) : Int) - 1) = (k : Int) := by omega
      rw [hz]
      clear hz
      obtain ⟨x, ex, hx, hxe⟩ := Wire.byte_of N k
      have HX := Lib.hid hxe; clear hxe
      have b1 : Hid (p.length + 1 ≤ maxLen ∧ (p.length + 1) * 1 ≤ 140737488355328) := by unfold Hid maxLen; have := hpl.out; omega
      have hsz := hbel.out.size
      go_wp2_with (at_builtin; refine append_onto rfl (.tmp 24) (.tmp 31) 26 rfl w.heap.size 5 i0 (.int .u8 0) 1 1 Tryd.underlying26 I0.out.1 I0.out.2.1 I0.out.2.2.1 I0.out.2.2.2 rfl (by decide) _ p.length (vals p) rfl (hown.out.alloc _) (some ⟨wr.heap.size, 0, none⟩) 1 1 (vals [x]) rfl (fun h => by cases h) rfl (fun ad e => by injection e with e; subst e; exact World.news_of_block (heap_alloc_new wr _)) (vals_one _) b1.out.1 b1.out.2 (by simp; omega) ?_; intro v1 w2 hown2 hg2; rw [← vals_append] at hown2)
      go_roundw
      case rel =>
        refine ⟨k, by omega, rfl, p ++ [x], ?_, ?_, ?_, ?_⟩
        · show _ = _
          rw [List.append_assoc, HX.out]
          exact hp.out
        · show _ = _
          have := hpl.out
          rw [List.length_append, List.length_singleton]
          omega
        · show World.ownsRow _ _ _ _ _ _ _
          rw [List.length_append, List.length_singleton]
          exact hown2
        · exact (hbel.out.alloc hsz _).grown hg2 (by simp; omega) (fun g e => (hown.out.lt g e).1)
      case measure => simp [intOf]
theorem refnum_any (A : Option Addr) (B n c : Nat) (l : List Nat) (w : World) (hl : Hid (l.length = n)) (hn : n ≤ 8) (hb : Hid (Bs w B A l)) :
    Calls Tryd.prog 40 #[.slice A n c] w fun e w' => e = .returned (.int .u64 (Wire.num l : Int)) ∧ w = w' := by
  go_enter Tryd.func40, Tryd.ntmps40
  go_wp2
  go_loop [3, 4] (fun nv iv => ∃ k : Nat, k ≤ n ∧ iv = .int .i64 k ∧ nv = .int .u64 (Wire.num (l.take k) : Int)) (fun _ i => n - (intOf i).toNat)
  case atStart => exact ⟨0, Nat.zero_le _, rfl, rfl⟩
  case round =>
    obtain ⟨k, hk, rfl, rfl⟩ := hrel
    by_cases hlt : k < n
    · obtain ⟨hx, ad, rfl, _, hc⟩ := hb.out k (by rw [hl.out]; exact hlt)
      generalize hX : l.getD k 0 = x at hx hc
      have HX := Lib.hid hX; clear hX
      have hp := Wire.num_lt (l.take k) (fun y hy => hb.out.lt y (List.mem_of_mem_take hy))
      have hp7 : Wire.num (l.take k) < 72057594037927936 := by
        have h7 := Wire.pow_le7 (l.take k).length (by rw [List.length_take, hl.out]; omega)
        omega
      clear hp
      have hsn : Wire.num (l.take (k + 1)) = Wire.num (l.take k) * 256 + x := by
        rw [take_next _ k x (by rw [hl.out]; exact hlt) HX.out, Wire.num_snoc]
      have HS := Lib.hid hsn; clear hsn
      generalize Wire.num (l.take k) = p at hp7 HS
      go_wp2
      go_round
      case rel => exact ⟨k + 1, by omega, by go_num, congrArg (Value.int IntKind.u64) (by rw [HS.out]; omega)⟩
      case measure => simp [intOf]; omega
    · go_wp2
      go_ret
      refine ⟨ret_int ?_, rfl⟩
      rw [List.take_of_length_le (by rw [hl.out]; omega)]
/-- What a comparison leaves: nothing but draws. -/
def SaysQuiet (b : Bool) (w : World) (e : Ending) (w' : World) : Prop := e = .returned (.bool b) ∧ ∃ k, w' = w.drewN k
theorem getD_ext {a b : List Nat} (hl : a.length = b.length) (h : ∀ j, j < a.length → a.getD j 0 = b.getD j 0) : a = b := by
  apply List.ext_getElem hl
  intro j h1 h2
  have e := h j h1
  rw [List.getD_eq_getElem?_getD, List.getD_eq_getElem?_getD, List.getElem?_eq_getElem h1, List.getElem?_eq_getElem h2] at e
  exact e
set_option maxHeartbeats 400000 in
theorem refeq_any (A A' : Option Addr) (B B' n n' c c' : Nat) (l l' : List Nat) (w : World) (hl : Hid (l.length = n)) (hl' : Hid (l'.length = n')) (hn : n ≤ 140737488355328) (hn' : n' ≤ 140737488355328) (hb : Hid (Bs w B A l)) (hb' : Hid (Bs w B' A' l')) :
    Calls Tryd.prog 17 #[.slice A n c, .slice A' n' c'] w (SaysQuiet (decide (l = l')) w) := by
  by_cases he : n = n'
  · subst he
    go_enter Tryd.func17, Tryd.ntmps17
    go_wp2
    go_loopw [5, 13] (fun xv iv wr => ∃ k q : Nat, k ≤ n ∧ iv = .int .i64 k ∧ wr = w.drewN q ∧ Hid (∀ j, j < k → l.getD j 0 = l'.getD j 0)) (fun _ i _ => n - (intOf i).toNat)
    case atStart => exact ⟨0, 0, Nat.zero_le _, rfl, rfl, fun j hj => absurd hj (by omega)⟩
    case round =>
      obtain ⟨k, q, hk, rfl, rfl, hz⟩ := hrel
      by_cases hlt : k < n
      · obtain ⟨hx, ad, rfl, _, hc⟩ := hb.out k (by rw [hl.out]; exact hlt)
        obtain ⟨hx', ad', rfl, _, hc'⟩ := hb'.out k (by rw [hl'.out]; exact hlt)
        generalize hX : l.getD k 0 = x at hx hc
        generalize hX' : l'.getD k 0 = x' at hx' hc'
        have HX := Lib.hid hX; clear hX
        have HX' := Lib.hid hX'; clear hX'
        by_cases h0 : x = x'
        · subst h0
          go_wp2
          go_quiet (fail)
          go_wp2
          go_roundw
          case rel =>
            refine ⟨k + 1, _, by omega, by go_num, rfl, fun j hj => ?_⟩
            rcases Nat.lt_or_ge j k with h | h
            · exact hz.out j h
            · obtain rfl : j = k := by omega
              exact HX.out.trans HX'.out.symm
          case measure => simp [intOf]; omega
        · have h1 : ((x : Int) != (x' : Int)) = true := by rw [bne_iff_ne]; omega
          go_wp2
          go_quiet (fail)
          go_wp2
          go_ret
          refine ⟨?_, _, World.drewN_drewN _ _ _⟩
          have hf : decide (l = l') = false := decide_eq_false (fun e => h0 (by rw [← HX.out, ← HX'.out, e]))
          rw [hf]; rfl
      · go_wp2
        go_ret
        refine ⟨?_, _, rfl⟩
        have ht : decide (l = l') = true := decide_eq_true (getD_ext (hl.out.trans hl'.out.symm) (fun j hj => hz.out j (by rw [hl.out] at hj; omega)))
        rw [ht]; rfl
  · have h1 : ((n : Int) != (n' : Int)) = true := by rw [bne_iff_ne]; omega
    have HE := Lib.hid he; clear he
    go_enter Tryd.func17, Tryd.ntmps17
    go_wp2
    go_ret
    refine ⟨?_, 0, rfl⟩
    have hf : decide (l = l') = false := decide_eq_false (fun e => HE.out (by rw [← hl.out, ← hl'.out, e]))
    rw [hf]; rfl
end Go.Proofs.YtjfgnojmdbfnmaaDoor
