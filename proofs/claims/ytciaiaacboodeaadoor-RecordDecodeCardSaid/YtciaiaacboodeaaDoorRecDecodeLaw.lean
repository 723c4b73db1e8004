/-
  The walk of the statement on Decode.
-/
import Derived.Test.YtciaiaacboodeaaDoorRecRefDec1
import Derived.Test.YtciaiaacboodeaaDoorRecRefDec2
import Derived.Test.YtciaiaacboodeaaDoorRecLengths
import Derived.Test.YtciaiaacboodeaaDoorRecCut
import Derived.Deep.DeepCutAuto
import Derived.Deep.CutBlock
namespace Go.Proofs.YtciaiaacboodeaaDoor
open Go.RowKit
theorem refdecode_any (v seq off : Int) (A : Option Addr) (B n c : Nat) (l : List Nat) (w : World) (hB : B ≤ w.heap.size) (hsq : seq ≤ 9223372036854775807) (hs : SlIs A n c) (hl : Hid (l.length = n)) (hb : Hid (Bs w B A l)) (hn : n ≤ 140737488355328) :
    Calls Tryd.prog 9 #[.int .i64 v, .int .i64 seq, .int .i64 off, .slice A n c] w fun e w' => (Rc.good v seq off l ∧ GotRec w v l e w') ∨ (¬ Rc.good v seq off l ∧ NoRec w e w') := by
  by_cases h : ¬ (v = 1 ∨ v = 2) ∨ ¬ Rc.place seq off ∨ n < 16
  · have hng : ¬ Rc.good v seq off l := fun hg => by
      obtain ⟨h1, -, h3, h4, -⟩ := hg
      rw [hl.out] at h1
      have h5 := (Rc.chk_ok h3).1
      rcases h with h | h | h
      · exact h h5
      · exact h h4
      · omega
    exact (refdecode_early v seq off A n c w h).mono fun _ _ h => .inr ⟨hng, h⟩
  · have hv : v = 1 ∨ v = 2 := Decidable.not_not.1 fun e => h (.inl e)
    have hp : Rc.place seq off := Decidable.not_not.1 fun e => h (.inr (.inl e))
    have h16 : 16 ≤ n := by
      rcases Nat.lt_or_ge n 16 with e | e
      · exact absurd (.inr (.inr e)) h
      · exact e
    cases A with
    | none => have := hs.1 rfl; omega
    | some ad =>
      rcases hv with rfl | rfl
      · exact refdecode1 seq off ad B n c l w hB hsq hs.2.1 hs.2.2 hl hb hp h16 hn
      · exact refdecode2 seq off ad B n c l w hB hsq hs.2.1 hs.2.2 hl hb hp h16 hn
theorem sd_place (w : World) (a b c : Value) (t : TypeId) : Sd w w.heap.size (.cells #[a, b, c] t (0, 0)) (w.alloc (.cells #[a, b, c] t)) := ⟨heap_alloc_new _ _, (Below.refl _ w).alloc (Nat.le_refl _) _⟩
set_option maxHeartbeats 1000000 in
theorem recorddecode_any (v seq off : Int) (A : Option Addr) (n c : Nat) (l : List Nat) (w : World) (hsq : seq ≤ 9223372036854775807) (hs : SlIs A n c) (hb : Hid (l.length = n ∧ Bs w w.heap.size A l)) (ht : Hid (TabW w)) (hz : 0 < w.heap.size) :
    Calls Tryd.prog 3 #[.agg #[.int .i64 v, .int .i64 seq, .int .i64 off], .slice A n c] w fun e w' => e = .returned (.bool true) ∧ Below w.heap.size w w' := by
  obtain ⟨m, hm⟩ := min_is n 400
  obtain ⟨a1, a2⟩ := min_bs hb.out.1 hb.out.2 hm
  have q := min_sl hs hm
  have hm400 : m ≤ 400 := by unfold MinIs at hm; omega
  have HAW : Hid (∀ W, Below w.heap.size w W → Calls Tryd.prog 10 #[] W fun e w' => e = .returned (.bool true) ∧ Below W.heap.size W w') := fun W hW => awake_any W (ht.out.below hW hz) (Nat.lt_of_lt_of_le hz hW.size)
  have hnc := hs.2.1
  have hc63 := hs.2.2
  by_cases hg : Rc.good v seq off (l.take m)
  · have HP : Hid (∀ W, Below w.heap.size w W → Calls Tryd.prog 8 #[.int .i64 v, .int .i64 seq, .int .i64 off, .slice A m c] W (GotRec W v (l.take m))) := fun W hW =>
      decode_good v seq off A w.heap.size m c _ W hW.size hsq q.1 q.2.1 q.2.2 a1 (a2.below hW (Nat.le_refl _)) (ht.out.below hW hz) (Nat.lt_of_lt_of_le hz hW.size) hg
    have HR : Hid (∀ W, Below w.heap.size w W → Calls Tryd.prog 9 #[.int .i64 v, .int .i64 seq, .int .i64 off, .slice A m c] W (GotRec W v (l.take m))) := fun W hW =>
      (refdecode_any v seq off A w.heap.size m c _ W hW.size hsq q a1 (a2.below hW (Nat.le_refl _)) (by omega)).mono fun _ _ h => h.elim (fun h => h.2) (fun h => absurd hg h.1)
    have HKL : Hid ((Rc.sub (l.take m) 16 (Rc.kl v (l.take m))).length = Rc.kl v (l.take m) ∧ (Rc.sub (l.take m) (16 + Rc.kl v (l.take m)) (Rc.vl v (l.take m))).length = Rc.vl v (l.take m)) := ⟨Rc.sub_length _ _ _ (by have := hg.2.1; omega), Rc.sub_length _ _ _ (by have := hg.2.1; omega)⟩
    have HMX : Hid (Rc.kl v (l.take m) ≤ 400 ∧ Rc.vl v (l.take m) ≤ 400) := by
      have h := hg.2.1
      rw [a1] at h
      exact ⟨by omega, by omega⟩
    clear hg
    unfold GotRec at HP HR
    generalize Rc.sub (l.take m) 16 (Rc.kl v (l.take m)) = key at *
    generalize Rc.sub (l.take m) (16 + Rc.kl v (l.take m)) (Rc.vl v (l.take m)) = val at *
    generalize Rc.kl v (l.take m) = kl at *
    generalize Rc.vl v (l.take m) = vl at *
    generalize Rc.kd v (l.take m) = kd at *
    generalize Rc.xp v (l.take m) = xp at *
    clear a1 a2 q hs
    go_enter Tryd.func3, Tryd.ntmps3
    go_upto_region 1 with fail
    have HS0 := Lib.hid (sd_place w (.int .i64 v) (.int .i64 seq) (.int .i64 off) 23)
    generalize w.alloc (.cells #[.int .i64 v, .int .i64 seq, .int .i64 off] 23) = w0 at *
    go_cut [1] (fun s wx => s = .slice A m c ∧ w0 = wx)
    case first =>
      unfold MinIs at hm
      rcases hm with ⟨i0, rfl⟩ | ⟨i0, rfl⟩
      all_goals
        go_wp2_with fail
        go_meet
        exact ⟨rfl, rfl⟩
    case rest =>
      obtain ⟨rfl, rfl⟩ := hcut
      obtain ⟨y0, y1, y2⟩ := three_cells HS0.out.1
      go_wp2_with fail
      refine (HP.out _ HS0.out.2).mono ?_
      rintro e w2 ⟨A1, c1, A2, c2, rfl, -, -, hB1, hB2, hb2⟩
      have HS2 := Lib.hid (HS0.out.next hb2 (by rfl) (by rfl) (by rfl) (by rfl))
      have HK2 := Lib.hid (And.intro hB1.bs hB2.bs)
      clear hb2 hB1 hB2 y0 y1 y2
      have HS3 : Hid (Sd w w.heap.size (.cells #[.int .i64 v, .int .i64 seq, .int .i64 off] 23 (0, 0)) (w2.alloc (.cells #[.int .i64 (kd : Int), .slice A1 kl c1, .slice A2 vl c2, .int .i64 (xp : Int)] 26))) := HS2.out.next ((Below.refl _ w2).alloc (Nat.le_refl _) _) (by rfl) (by rfl) (by rfl) (by rfl)
      obtain ⟨y0, y1, y2⟩ := three_cells HS3.out.1
      go_wp2_with fail
      have HB1 : Hid ((w2.alloc (.cells #[.int .i64 (kd : Int), .slice A1 kl c1, .slice A2 vl c2, .int .i64 (xp : Int)] 26)).heap[w2.heap.size]? = some (.cells #[.int .i64 (kd : Int), .slice A1 kl c1, .slice A2 vl c2, .int .i64 (xp : Int)] 26) ∧ Bs (w2.alloc (.cells #[.int .i64 (kd : Int), .slice A1 kl c1, .slice A2 vl c2, .int .i64 (xp : Int)] 26)) (w2.alloc (.cells #[.int .i64 (kd : Int), .slice A1 kl c1, .slice A2 vl c2, .int .i64 (xp : Int)] 26)).heap.size A1 key ∧ Bs (w2.alloc (.cells #[.int .i64 (kd : Int), .slice A1 kl c1, .slice A2 vl c2, .int .i64 (xp : Int)] 26)) (w2.alloc (.cells #[.int .i64 (kd : Int), .slice A1 kl c1, .slice A2 vl c2, .int .i64 (xp : Int)] 26)).heap.size A2 val) :=
        have hal : Below w2.heap.size w2 (w2.alloc (.cells #[.int .i64 (kd : Int), .slice A1 kl c1, .slice A2 vl c2, .int .i64 (xp : Int)] 26)) := (Below.refl _ _).alloc (Nat.le_refl _) _
        ⟨heap_alloc_new _ _, (HK2.out.1.below hal (Nat.le_refl _)).more hal.size, (HK2.out.2.below hal (Nat.le_refl _)).more hal.size⟩
      generalize w2.alloc (.cells #[.int .i64 (kd : Int), .slice A1 kl c1, .slice A2 vl c2, .int .i64 (xp : Int)] 26) = w3 at *
      generalize w2.heap.size = g1 at *
      refine (HR.out _ HS3.out.2).mono ?_
      rintro e w4 ⟨A3, c3, A4, c4, rfl, -, -, hB3, hB4, hb4⟩
      have HS4 := Lib.hid (HS3.out.next hb4 (by rfl) (by rfl) (by rfl) (by rfl))
      have HK4 := Lib.hid (And.intro hB3.bs hB4.bs)
      have HB4 : Hid (w4.heap[g1]? = some (.cells #[.int .i64 (kd : Int), .slice A1 kl c1, .slice A2 vl c2, .int .i64 (xp : Int)] 26) ∧ Bs w4 w4.heap.size A1 key ∧ Bs w4 w4.heap.size A2 val) :=
        ⟨(hb4.block _ (Array.getElem?_eq_some_iff.1 HB1.out.1).1).trans HB1.out.1, (HB1.out.2.1.below hb4 (Nat.le_refl _)).more hb4.size, (HB1.out.2.2.below hb4 (Nat.le_refl _)).more hb4.size⟩
      clear hb4 hB3 hB4 y0 y1 y2
      have HS5 : Hid (Sd w w.heap.size (.cells #[.int .i64 v, .int .i64 seq, .int .i64 off] 23 (0, 0)) (w4.alloc (.cells #[.int .i64 (kd : Int), .slice A3 kl c3, .slice A4 vl c4, .int .i64 (xp : Int)] 26))) := HS4.out.next ((Below.refl _ w4).alloc (Nat.le_refl _) _) (by rfl) (by rfl) (by rfl) (by rfl)
      go_wp2_with fail
      refine (HAW.out _ HS5.out.2).mono ?_
      rintro e w6 ⟨rfl, hb6⟩
      have hal : Below w4.heap.size w4 (w4.alloc (.cells #[.int .i64 (kd : Int), .slice A3 kl c3, .slice A4 vl c4, .int .i64 (xp : Int)] 26)) := (Below.refl _ _).alloc (Nat.le_refl _) _
      have hb46 : Below w4.heap.size w4 w6 := hal.trans (hb6.mono hal.size)
      have HS6 := Lib.hid (HS5.out.next hb6 (by rfl) (by rfl) (by rfl) (by rfl))
      have HX6 : Hid (w6.heap[g1]? = some (.cells #[.int .i64 (kd : Int), .slice A1 kl c1, .slice A2 vl c2, .int .i64 (xp : Int)] 26) ∧ w6.heap[w4.heap.size]? = some (.cells #[.int .i64 (kd : Int), .slice A3 kl c3, .slice A4 vl c4, .int .i64 (xp : Int)] 26)) :=
        ⟨(hb46.block _ (Array.getElem?_eq_some_iff.1 HB4.out.1).1).trans HB4.out.1, (hb6.block _ (by simp)).trans (heap_alloc_new w4 _)⟩
      have HK6 : Hid ((Bs w6 w6.heap.size A1 key ∧ Bs w6 w6.heap.size A2 val) ∧ (Bs w6 w6.heap.size A3 key ∧ Bs w6 w6.heap.size A4 val)) :=
        ⟨⟨(HB4.out.2.1.below hb46 (Nat.le_refl _)).more hb46.size, (HB4.out.2.2.below hb46 (Nat.le_refl _)).more hb46.size⟩, ⟨(HK4.out.1.below hb46 (Nat.le_refl _)).more hb46.size, (HK4.out.2.below hb46 (Nat.le_refl _)).more hb46.size⟩⟩
      have HQ : Hid (Calls Tryd.prog 11 #[.agg #[.int .i64 (kd : Int), .slice A1 kl c1, .slice A2 vl c2, .int .i64 (xp : Int)], .agg #[.int .i64 (kd : Int), .slice A3 kl c3, .slice A4 vl c4, .int .i64 (xp : Int)]] w6 fun e w' => e = .returned (.bool true) ∧ Below w6.heap.size w6 w') := by
        have h := receq_any (kd : Int) (xp : Int) (kd : Int) (xp : Int) A1 A2 A3 A4 w6.heap.size w6.heap.size kl vl kl vl c1 c2 c3 c4 key val key val w6 (Nat.le_refl _) (Nat.le_refl _) ⟨HKL.out.1, HK6.out.1.1⟩ ⟨HKL.out.2, HK6.out.1.2⟩ ⟨HKL.out.1, HK6.out.2.1⟩ ⟨HKL.out.2, HK6.out.2.2⟩ ⟨by have := HMX.out; omega, by have := HMX.out; omega, by have := HMX.out; omega, by have := HMX.out; omega⟩
        rwa [Rc.same_self] at h
      clear hb6 hb46 hal
      obtain ⟨z0, z1, z2, z3⟩ := four_cells HX6.out.1
      obtain ⟨x0, x1, x2, x3⟩ := four_cells HX6.out.2
      go_wp2_with fail
      refine HQ.out.mono ?_
      rintro e w7 ⟨rfl, hb7⟩
      have HS7 := Lib.hid (HS6.out.next hb7 (by rfl) (by rfl) (by rfl) (by rfl))
      clear hb7
      go_wp2
      go_ret
      exact ⟨rfl, HS7.out.2⟩
  · have HP : Hid (∀ W, Below w.heap.size w W → Calls Tryd.prog 8 #[.int .i64 v, .int .i64 seq, .int .i64 off, .slice A m c] W (NoRec W)) := fun W hW =>
      decode_not v seq off A w.heap.size m c _ W hW.size hsq q.1 q.2.1 q.2.2 a1 (a2.below hW (Nat.le_refl _)) (ht.out.below hW hz) (Nat.lt_of_lt_of_le hz hW.size) hg
    have HR : Hid (∀ W, Below w.heap.size w W → Calls Tryd.prog 9 #[.int .i64 v, .int .i64 seq, .int .i64 off, .slice A m c] W (NoRec W)) := fun W hW =>
      (refdecode_any v seq off A w.heap.size m c _ W hW.size hsq q a1 (a2.below hW (Nat.le_refl _)) (by omega)).mono fun _ _ h => h.elim (fun h => absurd h.1 hg) (fun h => h.2)
    clear hg
    unfold NoRec at HP HR
    clear a1 a2 q hs
    go_enter Tryd.func3, Tryd.ntmps3
    go_upto_region 1 with fail
    have HS0 := Lib.hid (sd_place w (.int .i64 v) (.int .i64 seq) (.int .i64 off) 23)
    generalize w.alloc (.cells #[.int .i64 v, .int .i64 seq, .int .i64 off] 23) = w0 at *
    go_cut [1] (fun s wx => s = .slice A m c ∧ w0 = wx)
    case first =>
      unfold MinIs at hm
      rcases hm with ⟨i0, rfl⟩ | ⟨i0, rfl⟩
      all_goals
        go_wp2_with fail
        go_meet
        exact ⟨rfl, rfl⟩
    case rest =>
      obtain ⟨rfl, rfl⟩ := hcut
      obtain ⟨y0, y1, y2⟩ := three_cells HS0.out.1
      go_wp2_with fail
      refine (HP.out _ HS0.out.2).mono ?_
      rintro e w2 ⟨rfl, hb2⟩
      have HS2 := Lib.hid (HS0.out.next hb2 (by rfl) (by rfl) (by rfl) (by rfl))
      clear hb2 y0 y1 y2
      have HS3 : Hid (Sd w w.heap.size (.cells #[.int .i64 v, .int .i64 seq, .int .i64 off] 23 (0, 0)) (w2.alloc (.cells #[.int .i64 0, .slice none 0 0, .slice none 0 0, .int .i64 0] 26))) := HS2.out.next ((Below.refl _ w2).alloc (Nat.le_refl _) _) (by rfl) (by rfl) (by rfl) (by rfl)
      obtain ⟨y0, y1, y2⟩ := three_cells HS3.out.1
      go_wp2_with fail
      have HB1 : Hid ((w2.alloc (.cells #[.int .i64 0, .slice none 0 0, .slice none 0 0, .int .i64 0] 26)).heap[w2.heap.size]? = some (.cells #[.int .i64 0, .slice none 0 0, .slice none 0 0, .int .i64 0] 26)) := heap_alloc_new _ _
      generalize w2.alloc (.cells #[.int .i64 0, .slice none 0 0, .slice none 0 0, .int .i64 0] 26) = w3 at *
      generalize w2.heap.size = g1 at *
      refine (HR.out _ HS3.out.2).mono ?_
      rintro e w4 ⟨rfl, hb4⟩
      have HS4 := Lib.hid (HS3.out.next hb4 (by rfl) (by rfl) (by rfl) (by rfl))
      have HB4 : Hid (w4.heap[g1]? = some (.cells #[.int .i64 0, .slice none 0 0, .slice none 0 0, .int .i64 0] 26)) := (hb4.block _ (Array.getElem?_eq_some_iff.1 HB1.out).1).trans HB1.out
      clear hb4 y0 y1 y2
      have HS5 : Hid (Sd w w.heap.size (.cells #[.int .i64 v, .int .i64 seq, .int .i64 off] 23 (0, 0)) (w4.alloc (.cells #[.int .i64 0, .slice none 0 0, .slice none 0 0, .int .i64 0] 26))) := HS4.out.next ((Below.refl _ w4).alloc (Nat.le_refl _) _) (by rfl) (by rfl) (by rfl) (by rfl)
      go_wp2_with fail
      refine (HAW.out _ HS5.out.2).mono ?_
      rintro e w6 ⟨rfl, hb6⟩
      have hal : Below w4.heap.size w4 (w4.alloc (.cells #[.int .i64 0, .slice none 0 0, .slice none 0 0, .int .i64 0] 26)) := (Below.refl _ _).alloc (Nat.le_refl _) _
      have HS6 := Lib.hid (HS5.out.next hb6 (by rfl) (by rfl) (by rfl) (by rfl))
      have HX6 : Hid (w6.heap[g1]? = some (.cells #[.int .i64 0, .slice none 0 0, .slice none 0 0, .int .i64 0] 26) ∧ w6.heap[w4.heap.size]? = some (.cells #[.int .i64 0, .slice none 0 0, .slice none 0 0, .int .i64 0] 26)) :=
        ⟨((hal.trans (hb6.mono hal.size)).block _ (Array.getElem?_eq_some_iff.1 HB4.out).1).trans HB4.out, (hb6.block _ (by simp)).trans (heap_alloc_new w4 _)⟩
      clear hb6 hal
      obtain ⟨z0, z1, z2, z3⟩ := four_cells HX6.out.1
      obtain ⟨x0, x1, x2, x3⟩ := four_cells HX6.out.2
      go_wp2_with fail
      refine (zeq_any _).mono ?_
      rintro e w7 ⟨rfl, hb7⟩
      have HS7 := Lib.hid (HS6.out.next hb7 (by rfl) (by rfl) (by rfl) (by rfl))
      clear hb7
      go_wp2
      go_ret
      exact ⟨rfl, HS7.out.2⟩
end Go.Proofs.YtciaiaacboodeaaDoor
