/-
  The walk of the law SlotsOrder.
-/
import Derived.Test.YtmkilbogdenljaaSlForeign
import Derived.Test.YtmkilbogdenljaaSlAwake
import Derived.Test.YtmkilbogdenljaaSlRefs2
set_option maxRecDepth 100000
namespace Go.Proofs.Ytmkilbogdenljaa
open Go.RowKit
theorem reg_min {w : World} {B m : Nat} {A : Option Addr} {l : List Gm.R} {n k : Nat} (hl : l.length = n) (h : MinIs n k m) (hb : Arr regS w 0 B A l) : (l.take m).length = m ∧ Arr regS w 0 B A (l.take m) := ⟨by rw [List.length_take]; have := min_le h; omega, hb.take m⟩
set_option maxHeartbeats 4000000 in
theorem slotsorder_any (a b c d next : Int) (A : Option Addr) (n cap : Nat) (live : List Gm.R) (w : World) (hs : SlIs A n cap) (hl : Hid (live.length = n)) (hb : Hid (Arr regS w 0 w.heap.size A live)) :
    Calls Try.prog 3 #[.agg #[.int .i64 a, .int .i64 b, .int .i64 c, .int .i64 d], .slice A n cap, .int .i64 next] w fun e w' => e = .returned (.bool true) ∧ Below w.heap.size w w' := by
  obtain ⟨m, hm⟩ := min_is n 10
  obtain ⟨a1, a2⟩ := reg_min hl.out hm hb.out
  have q := min_sl hs hm
  have hm10 : m ≤ 10 := by unfold MinIs at hm; omega
  have hmc : m ≤ cap := q.2.1
  have HLM : Hid ((Sl.order (live.take m)).length = m) := (Sl.order_length _).trans a1
  have CO : Hid (∀ W, Below w.heap.size w W → Calls Try.prog 10 #[.slice A m cap] W fun r w' => ∃ A1 c1, r = .returned (.slice A1 m c1) ∧ Arr regS w' W.heap.size w'.heap.size A1 (Sl.order (live.take m)) ∧ Below W.heap.size W w') := fun W hW =>
    (slorder_any A 0 w.heap.size m cap (live.take m) W (Lib.hid a1) (by omega) (Lib.hid (a2.below hW (Nat.le_refl _)))).mono fun r w' h => by
      obtain ⟨v, rfl, h1, h2⟩ := h
      rw [HLM.out] at h1
      obtain ⟨A1, c1, rfl, _, h3⟩ := h1.open_
      exact ⟨_, _, rfl, h3, h2⟩
  have CR : Hid (∀ W, Below w.heap.size w W → Calls Try.prog 11 #[.slice A m cap] W fun r w' => ∃ A1 c1, r = .returned (.slice A1 m c1) ∧ Arr regS w' W.heap.size w'.heap.size A1 (Sl.order (live.take m)) ∧ Below W.heap.size W w') := fun W hW =>
    (refslorder_any A 0 w.heap.size m cap (live.take m) W hW.size (Lib.hid a1) (by omega) (Lib.hid (a2.below hW (Nat.le_refl _)))).mono fun r w' h => by
      obtain ⟨v, rfl, h1, h2⟩ := h
      rw [HLM.out] at h1
      obtain ⟨A1, c1, rfl, _, h3⟩ := h1.open_
      exact ⟨_, _, rfl, h3, h2⟩
  have CE : Hid (∀ W A1 A2 lo B lo' B' c1 c2, Arr regS W lo B A1 (Sl.order (live.take m)) → Arr regS W lo' B' A2 (Sl.order (live.take m)) → Calls Try.prog 9 #[.slice A1 m c1, .slice A2 m c2] W fun r w' => r = .returned (.bool true) ∧ Below W.heap.size W w') := fun W A1 A2 lo B lo' B' c1 c2 h1 h2 =>
    refsleq_same A1 A2 lo B lo' B' m c1 c2 _ W HLM (by omega) (Lib.hid h1) (Lib.hid h2)
  have CT : Hid (∀ W, Below w.heap.size w W → Calls Try.prog 12 #[.slice A m cap, .int .i64 next] W fun e w' => e = .returned (.int .i64 (Sl.tail (live.take m) next)) ∧ Below W.heap.size W w') := fun W hW =>
    sltail_any A 0 w.heap.size m cap (live.take m) next W hW.size hmc (Lib.hid a1) (by omega) (Lib.hid (a2.below hW (Nat.le_refl _)))
  have CU : Hid (∀ W, Below w.heap.size w W → Calls Try.prog 13 #[.slice A m cap, .int .i64 next] W fun e w' => e = .returned (.int .i64 (Sl.tail (live.take m) next)) ∧ Below W.heap.size W w') := fun W hW =>
    refsltail_any A 0 w.heap.size m cap (live.take m) next W hW.size (Lib.hid a1) (by omega) (Lib.hid (a2.below hW (Nat.le_refl _)))
  obtain ⟨k, hk⟩ : ∃ k, (Sl.foreign ⟨a, b, c, d⟩ (live.take m)).length = k := ⟨_, rfl⟩
  have HLK := Lib.hid hk
  have hk10 : k ≤ 10 := by
    rw [← hk]
    exact Nat.le_trans (List.length_filter_le _ _) (by rw [HLM.out]; exact hm10)
  have CF : Hid (∀ W, Below w.heap.size w W → Calls Try.prog 14 #[.agg #[.int .i64 a, .int .i64 b, .int .i64 c, .int .i64 d], .slice A m cap] W fun r w' => ∃ A1 c1, r = .returned (.slice A1 k c1) ∧ Arr regS w' W.heap.size w'.heap.size A1 (Sl.foreign ⟨a, b, c, d⟩ (live.take m)) ∧ Below W.heap.size W w') := fun W hW =>
    (slforeign_any a b c d A 0 w.heap.size m cap (live.take m) W hW.size (Lib.hid a1) (by omega) (Lib.hid (a2.below hW (Nat.le_refl _)))).mono fun r w' h => by
      obtain ⟨A1, m1, c1, rfl, rfl, h3, h2⟩ := h
      rw [hk]
      exact ⟨_, _, rfl, h3, h2⟩
  have CG : Hid (∀ W, Below w.heap.size w W → Calls Try.prog 15 #[.agg #[.int .i64 a, .int .i64 b, .int .i64 c, .int .i64 d], .slice A m cap] W fun r w' => ∃ A1 c1, r = .returned (.slice A1 k c1) ∧ Arr regS w' W.heap.size w'.heap.size A1 (Sl.foreign ⟨a, b, c, d⟩ (live.take m)) ∧ Below W.heap.size W w') := fun W hW =>
    (refslforeign_any a b c d A 0 w.heap.size m cap (live.take m) W hW.size (Lib.hid a1) (by omega) (Lib.hid (a2.below hW (Nat.le_refl _)))).mono fun r w' h => by
      obtain ⟨v, rfl, h1, h2⟩ := h
      rw [hk] at h1
      obtain ⟨A1, c1, rfl, _, h3⟩ := h1.open_
      exact ⟨_, _, rfl, h3, h2⟩
  have CH : Hid (∀ W A1 A2 lo B lo' B' c1 c2, Arr regS W lo B A1 (Sl.foreign ⟨a, b, c, d⟩ (live.take m)) → Arr regS W lo' B' A2 (Sl.foreign ⟨a, b, c, d⟩ (live.take m)) → Calls Try.prog 9 #[.slice A1 k c1, .slice A2 k c2] W fun r w' => r = .returned (.bool true) ∧ Below W.heap.size W w') := fun W A1 A2 lo B lo' B' c1 c2 h1 h2 =>
    refsleq_same A1 A2 lo B lo' B' k c1 c2 _ W HLK (by omega) (Lib.hid h1) (Lib.hid h2)
  have CA := Lib.hid (fun W => slawake_any W)
  have HS0 := Lib.hid (sd_new w #[.int .i64 a, .int .i64 b, .int .i64 c, .int .i64 d] 23)
  have hnc := hs.2.1
  generalize Sl.foreign ⟨a, b, c, d⟩ (live.take m) = F at *
  generalize Sl.order (live.take m) = L at *
  generalize Sl.tail (live.take m) next = T at *
  clear a1 a2 q hs hb hl hk HLM HLK
  go_enter Try.func3, Try.ntmps3
  go_upto_region 1 with fail
  generalize w.alloc (.cells #[.int .i64 a, .int .i64 b, .int .i64 c, .int .i64 d] 23) = w0 at *
  go_cut [1] (fun s wx => s = .slice A m cap ∧ w0 = wx)
  case first =>
    have hmi : min (n : Int) 10 = (m : Int) := by unfold MinIs at hm; omega
    unfold MinIs at hm
    rcases hm with ⟨i0, rfl⟩ | ⟨i0, rfl⟩
    all_goals
      go_wp2_with fail
      go_meet
      exact ⟨rfl, rfl⟩
  case rest =>
    obtain ⟨rfl, rfl⟩ := hcut
    clear hm hnc
    have HB0 : Hid (Below w.heap.size w w0.drew) := below_drawn HS0.out.2 1
    have HS1 : Hid (Sd w w.heap.size (.cells #[.int .i64 a, .int .i64 b, .int .i64 c, .int .i64 d] 23 (0, 0)) w0.drew) := sd_run HS0.out 1
    go_upto_region 2 with fail
    go_cut [6] (fun v wx => v = .bool true ∧ Hid (Below w.heap.size w wx))
    case first =>
      go_region_with (first
        | (go_at_call 8; go_loud ((with_reducible refine (CA.out _).mono ?_); rintro e w1 ⟨rfl, hb1⟩; have HS2 := Lib.hid (HS1.out.next hb1 (by rfl) (by rfl) (by rfl) (by rfl)); have HB1 := Lib.hid (HB0.out.trans (hb1.mono HB0.out.size)); clear hb1))
        | (go_at_call 10; go_loud ((with_reducible refine (CO.out _ HB1.out).mono ?_); rintro e w2 ⟨A1, c1, rfl, ha1, hb2⟩; have HS3 := Lib.hid (HS2.out.next hb2 (by rfl) (by rfl) (by rfl) (by rfl)); have HB2 := Lib.hid (HB1.out.trans (hb2.mono HB1.out.size)); have HA1 := Lib.hid ha1; clear hb2 ha1))
        | (go_at_call 11; go_loud ((with_reducible refine (CR.out _ HB2.out).mono ?_); rintro e w3 ⟨A2, c2, rfl, ha2, hb3⟩; have HS4 := Lib.hid (HS3.out.next hb3 (by rfl) (by rfl) (by rfl) (by rfl)); have HB3 := Lib.hid (HB2.out.trans (hb3.mono HB2.out.size)); have HA2 := Lib.hid ha2; have HA3 := Lib.hid (HA1.out.below hb3 (Nat.le_refl _)); clear hb3 ha2))
        | (go_at_call 9; ((with_reducible refine (CE.out _ _ _ _ _ _ _ _ _ HA3.out HA2.out).mono ?_); rintro e w4 ⟨rfl, hb4⟩; have HS5 := Lib.hid (HS4.out.next hb4 (by rfl) (by rfl) (by rfl) (by rfl)); have HB4 := Lib.hid (HB3.out.trans (hb4.mono HB3.out.size)); clear hb4))
        | (go_at_call 12; go_loud ((with_reducible refine (CT.out _ HB4.out).mono ?_); rintro e w5 ⟨rfl, hb5⟩; have HS6 := Lib.hid (HS5.out.next hb5 (by rfl) (by rfl) (by rfl) (by rfl)); have HB5 := Lib.hid (HB4.out.trans (hb5.mono HB4.out.size)); clear hb5))
        | (go_at_call 13; go_loud ((with_reducible refine (CU.out _ HB5.out).mono ?_); rintro e w6 ⟨rfl, hb6⟩; have HS7 := Lib.hid (HS6.out.next hb6 (by rfl) (by rfl) (by rfl) (by rfl)); have HB6 := Lib.hid (HB5.out.trans (hb6.mono HB5.out.size)); clear hb6; obtain ⟨y0, y1, y2, y3⟩ := four_cells HS7.out.1))
        | (go_at_call 14; go_loud ((with_reducible refine (CF.out _ HB6.out).mono ?_); rintro e w7 ⟨A4, c4, rfl, ha4, hb7⟩; have HS8 := Lib.hid (HS7.out.next hb7 (by rfl) (by rfl) (by rfl) (by rfl)); have HB7 := Lib.hid (HB6.out.trans (hb7.mono HB6.out.size)); have HA4 := Lib.hid ha4; clear hb7 ha4; obtain ⟨x0, x1, x2, x3⟩ := four_cells HS8.out.1))
        | (go_at_call 15; go_loud ((with_reducible refine (CG.out _ HB7.out).mono ?_); rintro e w8 ⟨A5, c5, rfl, ha5, hb8⟩; have HB8 := Lib.hid (HB7.out.trans (hb8.mono HB7.out.size)); have HA5 := Lib.hid ha5; have HA6 := Lib.hid (HA4.out.below hb8 (Nat.le_refl _)); clear hb8 ha5))
        | (go_at_call 9; go_loud ((with_reducible refine (CH.out _ _ _ _ _ _ _ _ _ HA6.out HA5.out).mono ?_); rintro e w9 ⟨rfl, hb9⟩; have HB9 := Lib.hid (HB8.out.trans (hb9.mono HB8.out.size)); clear hb9)))
      all_goals
        go_wp2
        go_meet
        exact ⟨rfl, HB9⟩
    case rest =>
      obtain ⟨rfl, HB6⟩ := hcut
      go_wp2_with fail
      go_ret
      exact ⟨rfl, HB6.out⟩
end Go.Proofs.Ytmkilbogdenljaa
