/-
  The walk of the statement that a reader shares no memory, and that a nil reader has no results.
-/
import Derived.Test.YtgeajacbfhbakaaWireLaws
import Derived.Deep.DeepCutAuto
import Derived.Deep.CutBlock
import Derived.Deep.RegionWith
import Derived.Deep.RegionHeld3
namespace Go.Proofs.Ytgeajacbfhbakaa
open Go.RowKit
theorem below_step {B : Nat} {a b b' c : World} (h : Below B a b) (k : Below b'.heap.size b' c) (e1 : b'.heap = b.heap) (e2 : b'.os = b.os) (e3 : b'.tape = b.tape) (e4 : b'.output = b.output) (hB : B ≤ b.heap.size) : Below B a c :=
  ⟨k.os.trans (e2.trans h.os), k.tape.trans (e3.trans h.tape), k.output.trans (e4.trans h.output), Nat.le_trans h.size (by have := k.size; rw [e1] at this; exact this), fun i hi => (k.block i (by rw [e1]; omega)).trans (by rw [e1]; exact h.block i hi)⟩
theorem bs_at {w : World} {B g o : Nat} {l : List Nat} (h : Bs w B (some ⟨g, o, none⟩) l) : BsIn w g (g + 1) (some ⟨g, o, none⟩) l := fun k hk => by
  obtain ⟨h1, ad, h2, _, h4⟩ := h k hk
  injection h2 with h2
  subst h2
  exact ⟨h1, _, rfl, Nat.le_refl _, Nat.lt_succ_self _, h4⟩
theorem bs_far {w w' : World} {g b : Nat} {A : Option Addr} {l : List Nat} (h : BsIn w b (b + 1) A l) (hg : w.grownBy w' (some g)) (h1 : b < w.heap.size) (h2 : b ≠ g) : BsIn w' b (b + 1) A l :=
  h.keep fun k h3 h4 => hg.block k (by omega) (fun e => by have := Option.some.inj e; omega)
theorem below_drew {B : Nat} {a w : World} (h : Below B a w) (n : Nat) : Below B a (w.drewN n) := ⟨h.os, h.tape, h.output, h.size, h.block⟩
set_option maxRecDepth 100000 in
set_option maxHeartbeats 4000000 in
theorem wireown_any (A : Option Addr) (n cap : Nat) (l : List Nat) (w : World) (hA : A = none → cap = 0 ∧ n = 0) (hl : Hid (l.length = n)) (hn : n ≤ cap) (hcap : cap ≤ 9223372036854775807) (hb : Hid (Bs w w.heap.size A l)) :
    Calls Try.prog 6 #[.slice A n cap] w fun e w' => e = .returned (.bool true) ∧ Below w.heap.size w w' := by
  obtain ⟨m, k0, hm, hk, hbk, hm10⟩ := cutk hl.out hb.out 10
  have HA : Hid (A = none → m = 0 ∧ cap = 0) := fun e => ⟨by have := hA e; omega, (hA e).1⟩
  clear hA
  obtain ⟨i0, hi0, hz0, hz1, hz2⟩ := info_parts info_u8
  have I0 := Lib.hid (And.intro hi0 (And.intro hz0 (And.intro hz1 hz2))); clear hi0 hz0 hz1 hz2
  have hb0 : Hid (Below w.heap.size w (w.alloc (.cells #[.int .u8 1, .int .u8 2, .int .u8 3, .int .u8 4] 5))) := (Below.refl _ w).alloc (Nat.le_refl _) _
  have hs0 : Hid (Bs (w.alloc (.cells #[.int .u8 1, .int .u8 2, .int .u8 3, .int .u8 4] 5)) w.heap.size A k0) := hbk.out.below hb0.out (Nat.le_refl _)
  have ho0 : Hid ((w.alloc (.cells #[.int .u8 1, .int .u8 2, .int .u8 3, .int .u8 4] 5)).ownsRow w.heap.size 5 1 (.slice (some ⟨w.heap.size, 0, none⟩) 4 4) 4 (vals [1, 2, 3, 4])) := World.ownsRow_lit w _ 4 (Nat.le_refl _) (by unfold maxLen; omega) rfl
  have b1 : Hid (4 + m ≤ maxLen ∧ (4 + m) * 1 ≤ 140737488355328 ∧ (vals k0).length = m * 1) := ⟨by unfold maxLen; omega, by omega, by rw [vals_length, hk.out]; omega⟩
  have hlt : Hid (∀ y ∈ [1, 2, 3, 4] ++ k0, y < 256) := fun y hy => by
    rcases List.mem_append.1 hy with h | h
    · exact (by decide : ∀ y ∈ [1, 2, 3, 4], y < 256) y h
    · exact hbk.out.lt y h
  have hll : Hid (([1, 2, 3, 4] ++ k0).length = 4 + m) := by show _ = _; rw [List.length_append, hk.out]; rfl
  go_enter Try.func6, Try.ntmps6
  go_upto_region 1 with fail
  go_cut [0] (fun s wx => ∃ A1 c1, s = .slice A1 (4 + m) c1 ∧ Hid (wx.ownsRow w.heap.size 5 1 (.slice A1 (4 + m) c1) (4 + m) (vals ([1, 2, 3, 4] ++ k0))) ∧ Hid (Below w.heap.size w wx))
  case first =>
    rcases hm with ⟨h, rfl⟩ | ⟨h, rfl⟩
    all_goals
      go_wp2_with (at_builtin; refine append_onto rfl (.tmp 7) (.tmp 12) 22 rfl w.heap.size 5 i0 (.int .u8 0) 1 1 Try.underlying22 I0.out.1 I0.out.2.1 I0.out.2.2.1 I0.out.2.2.2 rfl (by decide) _ 4 _ rfl ho0.out A _ cap (vals k0) rfl HA.out b1.out.2.2 (fun ad e => by have h := hs0.out; rw [e] at h; exact h.cells) (vals_one _) b1.out.1 b1.out.2.1 hb0.out.size ?_; intro v1 w1 hown1 hg1; rw [← vals_append] at hown1)
      go_meet
      obtain ⟨A1, c1, rfl⟩ := own_slice hown1
      exact ⟨A1, c1, rfl, hown1, hb0.out.grown hg1 hb0.out.size (fun k e => (ho0.out.lt k e).1)⟩
  case rest =>
    obtain ⟨A1, c1, rfl, hown, hbel⟩ := hcut
    clear hm
    obtain ⟨g1, c1', hv, hg1, hg1'⟩ := hown.out.form (by omega)
    injection hv with hv
    subst hv
    have b2 : Hid (0 + (4 + m) ≤ maxLen ∧ (0 + (4 + m)) * 1 ≤ 140737488355328 ∧ (vals ([1, 2, 3, 4] ++ k0)).length = (4 + m) * 1) := ⟨by unfold maxLen; omega, by omega, by rw [vals_length, hll.out]; omega⟩
    go_wp2_with (at_builtin; refine append_onto rfl (.const (.slice none 0 0)) (.tmp 14) 22 rfl wc.heap.size 5 i0 (.int .u8 0) 1 1 Try.underlying22 I0.out.1 I0.out.2.1 I0.out.2.2.1 I0.out.2.2.2 rfl (by decide) _ 0 [] rfl (World.ownsRow_nil _ _ _ _) (some ⟨g1, 0, none⟩) (4 + m) c1 (vals ([1, 2, 3, 4] ++ k0)) rfl (fun h => by cases h) b2.out.2.2 (fun ad e => by injection e with e; subst e; exact hown.out.cells rfl) (vals_one _) b2.out.1 b2.out.2.1 (Nat.le_refl _) ?_; intro v2 w2 hown2 hgr2; simp only [Nat.zero_add, List.nil_append] at hown2)
    have hb2 : Hid (Below w.heap.size w w2) := hbel.out.grown hgr2 hbel.out.size (fun k e => by cases e)
    have hob : Hid (w2.ownsRow w.heap.size 5 1 (.slice (some ⟨g1, 0, none⟩) (4 + m) c1) (4 + m) (vals ([1, 2, 3, 4] ++ k0))) := hown.out.kept hgr2 (.inr (fun e => by cases e))
    have hsz2 : Hid (wc.heap.size ≤ w2.heap.size ∧ g1 < wc.heap.size) := ⟨hgr2.size, hg1'⟩
    have how : Hid (w2.ownsRow wc.heap.size 5 1 v2 (4 + m) (vals ([1, 2, 3, 4] ++ k0))) := hown2
    obtain ⟨g2, c2, hv2, hg2, hg2'⟩ := hown2.form (by omega)
    subst hv2
    have HG2 : Hid (wc.heap.size ≤ g2 ∧ g2 < w2.heap.size) := ⟨hg2, hg2'⟩
    have HG1 : Hid (w.heap.size ≤ g1) := hg1
    clear hgr2 hown2 hown hbel hg2 hg2' hg1 hg1'
    obtain ⟨A3, c3, hv3, hbs3, hlen3, _, _, _⟩ := own_bytes hob.out hlt.out
    injection hv3 with hv3 _ hv4
    subst hv3
    have HS2 : Hid (Bs w2 w2.heap.size (some ⟨g1, 0, none⟩) ([1, 2, 3, 4] ++ k0)) := hbs3
    clear hbs3 hlen3 hv4
    go_wp2_with fail
    refine (newreader_any (some ⟨g1, 0, none⟩) w2.heap.size _ _ _ w2 (fun h => by cases h) hll (by omega) HS2).mono ?_
    rintro e w3 ⟨g, rfl, hr3, hb3⟩
    have hob3 := hob.out.kept (grown_of_below hb3 none) (.inr (fun e => by cases e))
    have HOW3 : Hid (w3.ownsRow wc.heap.size 5 1 (.slice (some ⟨g2, 0, none⟩) (4 + m) c2) (4 + m) (vals ([1, 2, 3, 4] ++ k0))) := how.out.kept (grown_of_below hb3 none) (.inr (fun e => by cases e))
    have HR3 := Lib.hid hr3
    have HB3 : Hid (Below w.heap.size w w3) := hb2.out.trans (hb3.mono hb2.out.size)
    have HG : Hid (w2.heap.size ≤ g ∧ g < w3.heap.size) := ⟨hr3.lo_le, hr3.lt⟩
    have hc3 : w3.cell? ⟨g1, 2, none⟩ = some (.int .u8 3) := by rw [hob3.cellAt 2 (by omega)]; rfl
    have hf3 : w3.frozen? ⟨g1, 2, none⟩ = false := hob3.frozenAt 2
    clear hr3 hb3 hob3 HS2 how hob
    have h24 : 2 < 4 + m := by omega
    go_wp2_with fail
    have hb4 := HB3.out.setCell (p := ⟨g1, 2, none⟩) HG1.out (.int .u8 4)
    have hr4 := HR3.out.keep (w' := w3.setCell ⟨g1, 2, none⟩ (.int .u8 4)) (fun b h1 _ => Below.heap_setCell _ _ _ _ (by have := hsz2.out; show b ≠ g1; omega))
    have ho4 := ownsRow_setCell_below HOW3.out (a := ⟨g1, 2, none⟩) hsz2.out.2 (.int .u8 4)
    have hgs : g < (w3.setCell ⟨g1, 2, none⟩ (.int .u8 4)).heap.size := by simp [World.setCell]; exact HG.out.2
    generalize hw4 : w3.setCell ⟨g1, 2, none⟩ (.int .u8 4) = w4 at hb4 hr4 ho4 hgs
    have HB4 := Lib.hid hb4
    have HR4 := Lib.hid hr4
    have HO4 := Lib.hid ho4
    have HG4 := Lib.hid hgs
    clear hb4 hr4 ho4 hgs hw4 hc3 hf3 HB3 HR3 HOW3
    refine (bytes_ok _ g _ _ 2 rfl (by rw [hll.out]; omega) (by rw [hll.out]; omega) w4 HR4).mono ?_
    rintro e w5 ⟨v5, rfl, hown5, hr5, hg5⟩
    obtain ⟨g5, c5, rfl, hlo5, hlt5⟩ := hown5.form (by omega)
    have hge : g2 ≠ g := by have := HG2.out; have := HG.out; omega
    have ho5 : w5.ownsRow wc.heap.size 5 1 (.slice (some ⟨g2, 0, none⟩) (4 + m) c2) (4 + m) (vals ([1, 2, 3, 4] ++ k0)) := HO4.out.kept hg5 (.inr (fun e => hge (Option.some.inj e)))
    have hb5 : Below w.heap.size w w5 := HB4.out.trans (below_of_grown hg5 (by have := HG.out; have := hb2.out.size; omega) HB4.out.size)
    have hc5 : w5.cell? ⟨g5, 0, none⟩ = some (.int .u8 1) := by rw [hown5.cellAt 0 (by omega)]; rfl
    have hf5 : w5.frozen? ⟨g5, 0, none⟩ = false := hown5.frozenAt 0
    have hsz5 : w4.heap.size ≤ w5.heap.size := hg5.size
    have HB5 := Lib.hid hb5
    have HR5 := Lib.hid hr5
    have HO5 := Lib.hid ho5
    have HG5 : Hid (g < g5 ∧ g2 < g5 ∧ w.heap.size ≤ g5) := by
      have h1 := HG4.out
      have h2 := HG2.out
      have h3 := HG.out
      have h4 := HB4.out.size
      exact ⟨by omega, by omega, by omega⟩
    clear hb5 hr5 ho5 hown5 hg5 hge HB4 HR4 HO4
    go_wp2_with fail
    have hb6 := HB5.out.setCell (p := ⟨g5, 0, none⟩) HG5.out.2.2 (.int .u8 2)
    have hr6 := HR5.out.keep (w' := w5.setCell ⟨g5, 0, none⟩ (.int .u8 2)) (fun b _ h1 => Below.heap_setCell _ _ _ _ (by have := HG5.out; show b ≠ g5; omega))
    have ho6 := HO5.out.kept (grown_set w5 g5 0 (.int .u8 2)) (.inr (fun e => by have h1 := HG5.out; have h2 : g2 = g5 := Option.some.inj e; omega))
    generalize hw6 : w5.setCell ⟨g5, 0, none⟩ (.int .u8 2) = w6 at hb6 hr6 ho6
    obtain ⟨A6, c6, hv6, hbs6, hl6, hcc6, _, _⟩ := own_bytes ho6 hlt.out
    injection hv6 with hv6 _ hv7
    subst hv6; subst hv7
    have hsz6 : g2 < w6.heap.size := (ho6.lt g2 rfl).2
    have HB6 := Lib.hid hb6
    have HR6 : Hid (Rdr w6 w2.heap.size g false ([3, 4] ++ k0)) := hr6
    have HS6 : Hid (Bs w6 w6.heap.size (some ⟨g2, 0, none⟩) ([1, 2, 3, 4] ++ k0)) := hbs6
    clear hb6 hr6 ho6 hw6 hbs6 hl6 hc5 hf5 HB5 HR5 HO5
    refine (zeros_nil _ _).mono ?_
    rintro e w7 ⟨rfl, rfl⟩
    go_wp2_with fail
    have hw : IntKind.i64.wrap (4 + (m : Int) - 2) = 2 + (m : Int) := by rw [IntKind.wrap_i64]; omega
    have hne : ¬ c2 = 2 := by omega
    have hb2' : 2 ≤ 4 + m := by omega
    have hL6 : Hid (([3, 4] ++ k0).length = 2 + m ∧ List.take (2 + m) ([3, 4] ++ k0) = [3, 4] ++ k0 ∧ List.drop (2 + m) ([3, 4] ++ k0) = [] ∧ 2 + m ≤ 140737488355328) := by
      have h1 : ([3, 4] ++ k0).length = 2 + m := by rw [List.length_append, hk.out]; rfl
      exact ⟨h1, List.take_of_length_le (by omega), List.drop_eq_nil_of_le (by omega), by omega⟩
    have hlt6 : Hid (∀ y ∈ [3, 4] ++ k0, y < 256) := HR6.out.bytes
    have HS6' : Hid (BsIn w6 g2 (g2 + 1) (some ⟨g2, 2, none⟩) ([3, 4] ++ k0)) := bs_at (HS6.out.bsIn.drop 2).bs
    have HGG : Hid (g2 < w6.heap.size ∧ g2 ≠ g ∧ w.heap.size ≤ g) := ⟨hsz6, by have := HG2.out; have := HG.out; omega, by have := HG.out; have := hb2.out.size; omega⟩
    have CB : Hid (∀ W, Rdr W w2.heap.size g false ([3, 4] ++ k0) → Calls Try.prog 16 #[.pointer (some ⟨g, 0, none⟩), .int .i64 (2 + (m : Int))] W (GotBytes W w2.heap.size g false [] (2 + m) ([3, 4] ++ k0))) := fun W hW => by
      have h := bytes_ok w2.heap.size g ([3, 4] ++ k0) (2 + (m : Int)) (2 + m) (by omega) (by rw [hL6.out.1]; exact Nat.le_refl _) (by rw [hL6.out.1]; exact hL6.out.2.2.2) W hW
      rw [hL6.out.2.1, hL6.out.2.2.1] at h
      exact h
    have CN : Hid (∀ W, Calls Try.prog 16 #[.pointer none, .int .i64 1] W (Cloned W 0 [])) := fun W => bytes_nil 1 W
    have CE : Hid (∀ (W : World) (A : Option Addr) (B c c' n1 n2 : Nat), n1 = 2 + m → n2 = 2 + m → Bs W B A ([3, 4] ++ k0) → BsIn W g2 (g2 + 1) (some ⟨g2, 2, none⟩) ([3, 4] ++ k0) → Calls Try.prog 8 #[.slice A n1 c, .slice (some ⟨g2, 2, none⟩) n2 c'] W (SaysQuiet true W)) := fun W A B c c' n1 n2 e1 e2 h1 h2 => by
      subst e1; subst e2
      have h := refeq_any A (some ⟨g2, 2, none⟩) B (g2 + 1) (2 + m) (2 + m) c c' ([3, 4] ++ k0) ([3, 4] ++ k0) W hL6.out.1 hL6.out.1 hL6.out.2.2.2 hL6.out.2.2.2 h1 h2.bs
      rw [show decide ([3, 4] ++ k0 = [3, 4] ++ k0) = true from decide_eq_true rfl] at h
      exact h
    have i1 : (2 : Int) ≤ 4 + (m : Int) := by omega
    have i2 : 4 + (m : Int) ≤ (c2 : Int) := by omega
    go_region_held3 (fun _ => True) (trivial) (first
      | (go_at_call 7; refine (awake_any _).mono ?_; rintro e w7 ⟨rfl, hb7⟩; have HB7 : Hid (Below w.heap.size w w7) := below_step HB6.out hb7 rfl rfl rfl rfl HB6.out.size; have HR7 : Hid (Rdr w7 w2.heap.size g false ([3, 4] ++ k0)) := Rdr.keep HR6.out (fun b _ h => hb7.block b (Nat.lt_of_le_of_lt h HR6.out.lt)); have HS7 : Hid (BsIn w7 g2 (g2 + 1) (some ⟨g2, 2, none⟩) ([3, 4] ++ k0)) := BsIn.keep HS6'.out (fun b _ h => hb7.block b (Nat.lt_of_lt_of_le h HGG.out.1)); have HZ7 : Hid (g2 < w7.heap.size) := Nat.lt_of_lt_of_le HGG.out.1 hb7.size; clear hb7)
      | (go_at_call_of 16 (Value.pointer (some ⟨g, 0, none⟩)); refine (CB.out _ HR7.out).mono ?_; rintro e w8 ⟨v8, rfl, hown8, hr8, hg8⟩; obtain ⟨A8, c8, rfl, hbs8, hl8, _, _, _⟩ := own_bytes hown8 hlt6.out; have HB8 : Hid (Below w.heap.size w w8) := HB7.out.trans (below_of_grown hg8 HGG.out.2.2 HB7.out.size); have HS8 : Hid (BsIn w8 g2 (g2 + 1) (some ⟨g2, 2, none⟩) ([3, 4] ++ k0)) := bs_far HS7.out hg8 HZ7.out HGG.out.2.1; have HX8 : Hid (Bs w8 w8.heap.size A8 ([3, 4] ++ k0)) := hbs8; clear hbs8 hl8 hg8 hr8 hown8)
      | (go_at_call 8; refine (CE.out _ _ _ _ _ _ _ (by omega) (by omega) HX8.out HS8.out).mono ?_; rintro e w9 ⟨rfl, q9, rfl⟩)
      | (go_at_call 12; refine (num_nil 1 _).mono ?_; rintro e w' ⟨rfl, rfl⟩)
      | (go_at_call_of 16 (Value.pointer none); refine (CN.out _).mono ?_; rintro e w10 ⟨v10, rfl, hown10, hb10⟩; obtain ⟨A10, c10, rfl⟩ := own_slice hown10; have HB10 : Hid (Below w.heap.size w w10) := below_step HB8.out hb10 rfl rfl rfl rfl HB8.out.size; clear hb10 hown10)
      | (go_at_call 13; refine (ok_nil _).mono ?_; rintro e w' ⟨rfl, rfl⟩)
      | (go_at_call 14; refine (rest_nil _).mono ?_; rintro e w' ⟨rfl, rfl⟩))
    all_goals
      go_wp2_with fail
      go_ret
      exact ⟨rfl, HB10.out⟩
end Go.Proofs.Ytgeajacbfhbakaa
