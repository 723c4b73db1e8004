/-
  The walks of the statements on wire: each returns true and leaves all old memory as it was.
-/
import Derived.Test.YtgeajacbfhbakaaWireRef
namespace Go.Proofs.Ytgeajacbfhbakaa
open Go.RowKit

/-- What the statements read of a slice: its first k bytes. -/
theorem cutk {A : Option Addr} {n B : Nat} {l : List Nat} {w : World} (hl : l.length = n) (hb : Bs w B A l) (k : Nat) :
    ∃ (m : Nat) (l' : List Nat), ((n ≤ k ∧ m = n) ∨ (k < n ∧ m = k)) ∧ Hid (l'.length = m) ∧ Hid (Bs w B A l') ∧ m ≤ k := by
  by_cases h : n ≤ k
  · exact ⟨n, l, .inl ⟨h, rfl⟩, hl, hb, h⟩
  · exact ⟨k, l.take k, .inr ⟨by omega, rfl⟩, by show (l.take k).length = k; rw [List.length_take]; omega, hb.take k, Nat.le_refl _⟩
theorem own_slice {w : World} {base size n : Nat} {e : TypeId} {v : Value} {xs : List Value} (h : w.ownsRow base e size v n xs) : ∃ A c, v = .slice A n c := by
  rcases h.2 with ⟨rfl, rfl⟩ | ⟨g, cap, cur, rfl, _⟩
  · exact ⟨none, 0, rfl⟩
  · exact ⟨_, cap, rfl⟩
theorem bs_lit (w : World) (l : List Nat) (hl : ∀ x ∈ l, x < 256) : Bs (w.alloc (.cells (vals l).toArray 5)) (w.heap.size + 1) (some ⟨w.heap.size, 0, none⟩) l := fun k hk => by
  refine ⟨?_, _, rfl, Nat.lt_succ_self _, ?_⟩
  · rw [List.getD_eq_getElem?_getD, List.getElem?_eq_getElem hk]; exact hl _ (List.getElem_mem hk)
  · exact World.news_of_block (heap_alloc_new w _) k _ (by simpa using vals_at hk)
set_option maxHeartbeats 400000 in
theorem awake_any (w : World) :
    Calls Try.prog 7 #[] w fun e w' => e = .returned (.bool true) ∧ Below w.heap.size w w' := by
  have hlit : Hid (Bs (w.alloc (.cells #[.int .u8 1, .int .u8 2, .int .u8 3] 5)) (w.heap.size + 1) (some ⟨w.heap.size, 0, none⟩) [1, 2, 3]) := bs_lit w [1, 2, 3] (by decide)
  have hb0 : Hid (Below w.heap.size w (w.alloc (.cells #[.int .u8 1, .int .u8 2, .int .u8 3] 5))) := (Below.refl _ w).alloc (Nat.le_refl _) _
  go_enter Try.func7, Try.ntmps7
  go_wp2_with fail
  refine (newreader_any _ (w.heap.size + 1) 3 3 [1, 2, 3] _ (fun h => by cases h) rfl (by omega) hlit).mono ?_
  rintro e w1 ⟨g, rfl, hr, hb1⟩
  have HB1 : Hid (Below w.heap.size w w1) := hb0.out.trans (hb1.mono hb0.out.size)
  go_wp2_with fail
  refine (put_ok none 0 0 0 [] 258 3 _ rfl w1 (fun _ => ⟨rfl, rfl⟩) rfl (by omega) (fun k hk => absurd hk (by simp)) (by omega) (by omega)).mono ?_
  rintro e w2 ⟨v, rfl, hown, hb2⟩
  obtain ⟨A2, c2, rfl⟩ := own_slice hown
  have HR2 : Hid (Rdr w2 _ g false [1, 2, 3]) := hr.below hb2 hr.lt
  have HB2 : Hid (Below w.heap.size w w2) := HB1.out.trans (hb2.mono HB1.out.size)
  have HG : Hid (w.heap.size ≤ g) := Nat.le_trans hb0.out.size hr.lo_le
  rw [show (([] : List Nat) ++ Wire.be 3 258).length = 3 from rfl]
  clear hown hb2 hr hb1
  go_wp2_with fail
  refine (num_ok _ g [1, 2, 3] _ 2 rfl (by omega) (by omega) (by decide) w2 HR2).mono ?_
  rintro e w3 ⟨rfl, hr3, hg3⟩
  rw [show Wire.num (List.take 2 [1, 2, 3]) = 258 from rfl]
  have HR3 : Hid (Rdr w3 _ g false [3]) := hr3
  have HB3 : Hid (Below w.heap.size w w3) := HB2.out.trans (below_of_grown hg3 HG.out HB2.out.size)
  clear hr3 hg3
  go_wp2_with fail
  refine (ok_any _ g false [3] w3 HR3).mono ?_
  rintro e w4 ⟨rfl, rfl⟩
  go_wp2_with fail
  refine (rest_any _ g false [3] w3 HR3).mono ?_
  rintro e w4 ⟨rfl, rfl⟩
  go_wp2
  go_ret
  exact ⟨rfl, HB3.out⟩

set_option maxHeartbeats 800000 in
theorem wireput_any (A : Option Addr) (n cap : Nat) (l : List Nat) (N : Nat) (wd : Int) (w : World) (hA : A = none → cap = 0 ∧ n = 0) (hl : Hid (l.length = n)) (hn : n ≤ cap) (hcap : cap ≤ 9223372036854775807) (hb : Hid (Bs w w.heap.size A l)) :
    Calls Try.prog 3 #[.slice A n cap, .int .u64 (N : Int), .int .i64 wd] w fun e w' => e = .returned (.bool true) ∧ Below w.heap.size w w' := by
  obtain ⟨m, k, hm, hk, hbk, hm20⟩ := cutk hl.out hb.out 20
  have HA : Hid (A = none → m = 0 ∧ cap = 0) := fun e => ⟨by have := hA e; omega, (hA e).1⟩
  clear hA
  have b1 : Hid (0 + m ≤ maxLen ∧ (0 + m) * 1 ≤ 140737488355328 ∧ (vals k).length = m * 1) := ⟨by unfold maxLen; omega, by omega, by rw [vals_length, hk.out]; omega⟩
  obtain ⟨i0, hi0, hz0, hz1, hz2⟩ := info_parts info_u8
  have I0 := Lib.hid (And.intro hi0 (And.intro hz0 (And.intro hz1 hz2))); clear hi0 hz0 hz1 hz2
  obtain ⟨x, hx, hxl⟩ : ∃ x : List Nat, (∀ (A : Option Addr) (B n c : Nat) (l : List Nat) (w : World), (A = none → c = 0 ∧ n = 0) → Hid (l.length = n) → n ≤ 20 → Hid (Bs w B A l) → l = k →
      Calls Try.prog 9 #[.slice A n c, .int .u64 (N : Int), .int .i64 wd] w (DidPut w x) ∧
      Calls Try.prog 10 #[.slice A n c, .int .u64 (N : Int), .int .i64 wd] w (DidPut w x)) ∧ x.length ≤ 28 ∧ ∀ y ∈ x, y < 256 := by
    have hke := hk.out
    have hkl := hbk.out.lt
    by_cases h : wd < 1 ∨ 8 < wd
    · refine ⟨k, fun A B n c l w h1 h2 h3 h4 h5 => ?_, by omega, hkl⟩
      subst h5
      exact ⟨put_no A B n c _ N wd w h1 h2 (by omega) h4 h, refput_no A B n c _ N wd w h1 h2 (by omega) h4 h⟩
    · refine ⟨k ++ Wire.be wd.toNat N, fun A B n c l w h1 h2 h3 h4 h5 => ?_, by rw [List.length_append, Wire.be_length]; omega, ?_⟩
      · subst h5
        exact ⟨put_ok A B n c _ N wd.toNat wd (by omega) w h1 h2 (by omega) h4 (by omega) (by omega), refput_ok A B n c _ N wd.toNat wd (by omega) w h1 h2 (by omega) h4 (by omega) (by omega)⟩
      · intro y hy
        rcases List.mem_append.1 hy with h | h
        · exact hkl y h
        · exact Wire.be_lt _ _ y h
  have HX := Lib.hid hx; clear hx
  have HXL := Lib.hid hxl; clear hxl
  rcases hm with ⟨h, rfl⟩ | ⟨h, rfl⟩
  all_goals
    go_enter Try.func3, Try.ntmps3
    go_wp2_with (at_builtin; refine append_onto rfl (.const (.slice none 0 0)) (.tmp 13) 22 rfl w.heap.size 5 i0 (.int .u8 0) 1 1 Try.underlying22 I0.out.1 I0.out.2.1 I0.out.2.2.1 I0.out.2.2.2 rfl (by decide) _ 0 [] rfl (World.ownsRow_nil _ _ _ _) A _ cap (vals k) rfl HA.out b1.out.2.2 (fun ad e => by have h := hbk.out; rw [e] at h; exact h.cells) (vals_one _) b1.out.1 b1.out.2.1 (Nat.le_refl _) ?_; intro v1 w1 hown1 hg1; simp only [Nat.zero_add, List.nil_append] at hown1)
    have HB1 : Hid (Below w.heap.size w w1) := (Below.refl _ _).grown hg1 (Nat.le_refl _) (fun g e => by cases e)
    obtain ⟨A1, c1, rfl, hbs1, hlen1, _, _, _⟩ := own_bytes hown1 hbk.out.lt
    have HL1 : Hid (k.length = _) := hlen1
    have HS1 : Hid (Bs w1 w1.heap.size A1 k) := hbs1
    clear hown1 hg1 hlen1 hbs1
    refine (awake_any w1).mono ?_
    rintro e w2 ⟨rfl, hb2⟩
    have HB2 : Hid (Below w.heap.size w w2) := HB1.out.trans (hb2.mono HB1.out.size)
    have HS2 : Hid (Bs w2 w1.heap.size A1 k) := HS1.out.below hb2 (Nat.le_refl _)
    have HN2 : Hid (w1.heap.size ≤ w2.heap.size) := hb2.size
    clear hb2
    have HK2 : Hid (Bs w2 w.heap.size A k) := hbk.out.below HB2.out (Nat.le_refl _)
    go_wp2_with fail
    refine (HX.out A w.heap.size _ cap k w2 (fun e => ⟨(HA.out e).2, (HA.out e).1⟩) hk (by omega) HK2 rfl).1.mono ?_
    rintro e w3 ⟨v3, rfl, hown3, hb3⟩
    obtain ⟨A3, c3, rfl, hbs3, hlen3, _, _, _⟩ := own_bytes hown3 HXL.out.2
    have HL3 : Hid (x.length = _) := hlen3
    have HS3 : Hid (Bs w3 w3.heap.size A3 x) := hbs3
    have HB3 : Hid (Below w.heap.size w w3) := HB2.out.trans (hb3.mono HB2.out.size)
    have HS3' : Hid (Bs w3 w1.heap.size A1 k) := HS2.out.below hb3 HN2.out
    have HN3 : Hid (w2.heap.size ≤ w3.heap.size) := hb3.size
    clear hown3 hb3 hlen3 hbs3
    have HK3 : Hid (Bs w3 w.heap.size A k) := hbk.out.below HB3.out (Nat.le_refl _)
    go_wp2_with fail
    refine (HX.out A w.heap.size _ cap k w3 (fun e => ⟨(HA.out e).2, (HA.out e).1⟩) hk (by omega) HK3 rfl).2.mono ?_
    rintro e w4 ⟨v4, rfl, hown4, hb4⟩
    obtain ⟨A4, c4, rfl, hbs4, hlen4, _, _, _⟩ := own_bytes hown4 HXL.out.2
    have HS4 : Hid (Bs w4 w4.heap.size A4 x) := hbs4
    have HB4 : Hid (Below w.heap.size w w4) := HB3.out.trans (hb4.mono HB3.out.size)
    have HS4' : Hid (Bs w4 w1.heap.size A1 k) := HS3'.out.below hb4 (Nat.le_trans HN2.out HN3.out)
    have HS4x : Hid (Bs w4 w3.heap.size A3 x) := HS3.out.below hb4 (Nat.le_refl _)
    clear hown4 hb4 hlen4 hbs4
    have HK4 : Hid (Bs w4 w.heap.size A k) := hbk.out.below HB4.out (Nat.le_refl _)
    go_wp2_with fail
    refine (refeq_any A3 A4 w3.heap.size w4.heap.size _ _ _ _ x x w4 rfl rfl (by have := HXL.out.1; omega) (by have := HXL.out.1; omega) HS4x HS4).mono ?_
    rintro e w5 ⟨rfl, q5, rfl⟩
    rw [show decide (x = x) = true from decide_eq_true rfl]
    go_wp2_with fail
    refine (refeq_any A A1 w.heap.size w1.heap.size _ _ _ _ k k (w4.drewN q5) hk HL1 (by omega) (by omega) HK4 HS4').mono ?_
    rintro e w6 ⟨rfl, q6, rfl⟩
    rw [show decide (k = k) = true from decide_eq_true rfl]
    go_wp2
    go_ret
    exact ⟨rfl, ⟨HB4.out.os, HB4.out.tape, HB4.out.output, HB4.out.size, HB4.out.block⟩⟩
end Go.Proofs.Ytgeajacbfhbakaa
