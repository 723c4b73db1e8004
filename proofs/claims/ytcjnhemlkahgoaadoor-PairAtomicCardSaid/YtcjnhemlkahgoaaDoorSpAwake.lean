/-
  Words for the laws of the superblock pair: what Load returns in one word for both, what a call on the device leaves of the boxes; the walk of layer 9's Awake.
-/
import Derived.Test.YtcjnhemlkahgoaaDoorSpLoad
import Derived.Test.YtcjnhemlkahgoaaDoorSpFacts
import Derived.Test.YtcjnhemlkahgoaaDoorSbUse
set_option maxRecDepth 100000
namespace Go.Proofs.YtcjnhemlkahgoaaDoor
open Go.RowKit
theorem gots_load {w : World} {o : Option Sb.S} {r : Ending} {w' : World} (h : LoadIs o w r w') : GotS w (o.getD Sb.S0) o.isSome r w' := by
  rcases h with ⟨s, rfl, h⟩ | ⟨rfl, h⟩
  · exact gots_has h
  · exact gots_no h
/-- A device's blocks: behind what was there at first, apart from a box. -/
def DevNew (w : World) (g c m : Nat) : Prop := w.heap.size ≤ g ∧ w.heap.size ≤ c ∧ w.heap.size ≤ m
theorem devnew_on {w w' : World} {g c m : Nat} (h : DevNew w' g c m) (hs : w.heap.size ≤ w'.heap.size) : DevNew w g c m := ⟨Nat.le_trans hs h.1, Nat.le_trans hs h.2.1, Nat.le_trans hs h.2.2⟩
/-- A device's call: all that was there before the device stays. -/
theorem dev_below {w W W' : World} {g c m : Nat} (h : Below w.heap.size w W) (hn : DevNew w g c m) (hk : Kept (devS g c m) W W') : Below w.heap.size w W' :=
  h.trans (hk.below h.size (fun k hk => by unfold devS at hk; unfold DevNew at hn; omega))
theorem dev_box {w W W' : World} {g c m b : Nat} {o : Obj} (hb : W.heap[b]? = some o) (hn : DevNew w g c m) (hlt : b < w.heap.size) (hk : Kept (devS g c m) W W') : W'.heap[b]? = some o :=
  (hk.block b (box_lt hb) (fun hd => by unfold devS at hd; unfold DevNew at hn; omega)).trans hb
theorem dev_tab {w W : World} (ht : TabW w) (hz : 0 < w.heap.size) (hb : Below w.heap.size w W) : TabW W ∧ 0 < W.heap.size := ⟨ht.below hb hz, Nat.lt_of_lt_of_le hz hb.size⟩
theorem Dev.on {W W' : World} {g c m n : Nat} {fs : Flash} (h : Dev W g c m n fs) (hb : Below W.heap.size W W') : Dev W' g c m n fs := h.below hb h.lt.1 h.lt.2.1 h.lt.2.2
theorem clean_none (n : Nat) : dirtyCount n (fun _ => none) = 0 := by
  unfold dirtyCount dirtyList
  rw [List.length_eq_zero_iff, List.filter_eq_nil_iff]
  intro k _
  simp
/-- What New leaves. -/
def NewDev (w : World) (n : Nat) (r : Ending) (w' : World) : Prop := ∃ g c m, r = .returned (.pointer (some ⟨g, 0, none⟩)) ∧ Dev w' g c m n (Flash.fresh (List.replicate (n * 64) 0)) ∧ DevNew w g c m ∧ Below w.heap.size w w'
theorem new_dev (n : Nat) (ni : Int) (hni : ni = (n : Int)) (w : World) (h1 : 1 ≤ n) (h2 : n ≤ 1048576) : Calls Tryd.prog 25 #[.int .i64 ni] w (NewDev w n) :=
  (new_yes n ni hni w h1 h2).mono fun _ _ ⟨g, c, m, e, hd, q1, q2, q3, hb⟩ => ⟨g, c, m, e, hd, ⟨q1, q2, q3⟩, hb⟩
set_option maxHeartbeats 4000000 in
theorem spawake_any (w : World) (ht : Hid (TabW w)) (hz : 0 < w.heap.size) : Calls Tryd.prog 15 #[] w fun r w' => r = .returned (.bool true) ∧ Below w.heap.size w w' := by
  have HTB : Hid (∀ W, Below w.heap.size w W → TabW W ∧ 0 < W.heap.size) := fun W hW => dev_tab ht.out hz hW
  have HND := Lib.hid (new_dev 2 2 rfl w (by decide) (by decide))
  have hone : Sb.one.gen = 1 := rfl
  obtain ⟨f', hp, he⟩ := first_pub one_valid (show 2 ≤ 2 by decide) (List.replicate (2 * 64) 0)
  have HL1 : Hid (∀ W g c m, Below w.heap.size w W → Dev W g c m 2 (Flash.fresh (List.replicate (2 * 64) 0)) → Calls Tryd.prog 14 #[.pointer (some ⟨g, 0, none⟩)] W (GotS W Sb.S0 false)) := fun W g c m hW hd =>
    (spload_any g c m 2 _ W (by decide) (show _ = _ from rfl) (HTB.out W hW).1 (HTB.out W hW).2 hd).mono fun r w' h => by
      have hz0 : Sp.newest (sec (Flash.fresh (List.replicate (2 * 64) 0)).cur 0) (sec (Flash.fresh (List.replicate (2 * 64) 0)).cur 1) = none := newest_zero (n := 2) (by decide)
      rw [hz0] at h
      exact gots_load h
  have HPB : Hid (∀ W g c m, Below w.heap.size w W → Dev W g c m 2 (Flash.fresh (List.replicate (2 * 64) 0)) → Calls Tryd.prog 18 #[.pointer (some ⟨g, 0, none⟩), .agg #[.int .i64 1, .int .i64 1, .int .i64 0, .int .i64 0, .int .i64 0, .int .i64 1, .int .i64 1, .int .i64 4, .int .i64 4, .int .i64 0, .int .i64 0, .int .i64 0, .int .i64 0, .slice none 0 0]] W (WriteDid W g c m 2 (Flash.clean (holdOne 2 Sb.one) 1 false f') 0)) := fun W g c m hW hd => by
    have h := publish_any 1 1 0 0 0 1 1 4 4 0 0 0 0 none 0 0 [] g c m 2 _ W sl_nil rfl Ls.nil (HTB.out W hW).1 (HTB.out W hW).2 hd (by decide)
    have e1 : (Flash.fresh (List.replicate (2 * 64) 0)).pub 2 ⟨1, 1, 0, 0, 0, ⟨1, 1, 4, 4⟩, ⟨0, 0, 0, 0⟩, []⟩ = Flash.clean (holdOne 2 Sb.one) 1 false f' := hp
    have e2 : (Flash.fresh (List.replicate (2 * 64) 0)).pubErr 2 ⟨1, 1, 0, 0, 0, ⟨1, 1, 4, 4⟩, ⟨0, 0, 0, 0⟩, []⟩ = 0 := he
    rw [e1, e2] at h
    exact h
  have HL2 : Hid (∀ W g c m, Below w.heap.size w W → Dev W g c m 2 (Flash.clean (holdOne 2 Sb.one) 1 false f') → Calls Tryd.prog 14 #[.pointer (some ⟨g, 0, none⟩)] W (GotS W Sb.one true)) := fun W g c m hW hd =>
    (spload_any g c m 2 _ W (by decide) (show _ = _ from rfl) (HTB.out W hW).1 (HTB.out W hW).2 hd).mono fun r w' h => by
      have hz0 : Sp.newest (sec (Flash.clean (holdOne 2 Sb.one) 1 false f').cur 0) (sec (Flash.clean (holdOne 2 Sb.one) 1 false f').cur 1) = some Sb.one := newest_only (n := 2) (by decide) one_valid
      rw [hz0] at h
      exact gots_load h
  have HDI : Hid (∀ W g c m, Dev W g c m 2 (Flash.clean (holdOne 2 Sb.one) 1 false f') → Calls Tryd.prog 24 #[.pointer (some ⟨g, 0, none⟩)] W fun e w' => e = .returned (.int .i64 0) ∧ W = w') := fun W g c m hd => by
    have h := dirty_any (Lib.hid hd)
    have e : dirtyCount 2 (Flash.clean (holdOne 2 Sb.one) 1 false f').old = 0 := clean_none 2
    rw [e] at h
    exact h
  unfold NewDev at HND
  unfold GotS at HL1 HL2
  unfold WriteDid at HPB
  have HO1 : Hid (Sb.one.gen = 1) := rfl
  clear hone hp he ht
  generalize Flash.clean (holdOne 2 Sb.one) 1 false f' = f2 at *
  generalize Flash.fresh (List.replicate (2 * 64) 0) = f1 at *
  generalize Sb.S0 = s0 at *
  generalize Sb.one = s1 at *
  go_enter Tryd.func15, Tryd.ntmps15
  go_wp2_with fail
  refine HND.out.mono ?_
  rintro r w1 ⟨g, c, m, rfl, hd1, hdn, hb1⟩
  have HB1 : Hid (Below w.heap.size w (w1.alloc (.cells #[.int .i64 1, .int .i64 1, .int .i64 0, .int .i64 0, .int .i64 0, .int .i64 1, .int .i64 1, .int .i64 4, .int .i64 4, .int .i64 0, .int .i64 0, .int .i64 0, .int .i64 0, .slice none 0 0] 27))) := below_made hb1 (Nat.le_refl _) _
  have HD1 : Hid (Dev (w1.alloc (.cells #[.int .i64 1, .int .i64 1, .int .i64 0, .int .i64 0, .int .i64 0, .int .i64 1, .int .i64 1, .int .i64 4, .int .i64 4, .int .i64 0, .int .i64 0, .int .i64 0, .int .i64 0, .slice none 0 0] 27)) g c m 2 f1) := hd1.on (below_new _ _)
  have HN1 : Hid ((w1.alloc (.cells #[.int .i64 1, .int .i64 1, .int .i64 0, .int .i64 0, .int .i64 0, .int .i64 1, .int .i64 1, .int .i64 4, .int .i64 4, .int .i64 0, .int .i64 0, .int .i64 0, .int .i64 0, .slice none 0 0] 27)).heap[w1.heap.size]? = some (.cells #[.int .i64 1, .int .i64 1, .int .i64 0, .int .i64 0, .int .i64 0, .int .i64 1, .int .i64 1, .int .i64 4, .int .i64 4, .int .i64 0, .int .i64 0, .int .i64 0, .int .i64 0, .slice none 0 0] 27 (0, 0))) := heap_alloc_new _ _
  have HDN := Lib.hid hdn
  have HLT : Hid (g < w1.heap.size ∧ c < w1.heap.size ∧ m < w1.heap.size) := hd1.lt
  clear hd1 hdn hb1
  go_upto_region 3 with fail
  generalize w1.alloc (.cells #[.int .i64 1, .int .i64 1, .int .i64 0, .int .i64 0, .int .i64 0, .int .i64 1, .int .i64 1, .int .i64 4, .int .i64 4, .int .i64 0, .int .i64 0, .int .i64 0, .int .i64 0, .slice none 0 0] 27) = w2 at *
  go_wp2_with fail
  refine (HL1.out _ g c m HB1.out HD1.out).mono ?_
  rintro r w3 ⟨A3, n3, c3, rfl, -, hb3⟩
  have HB3 : Hid (Below w.heap.size w (w3.alloc (.cells #[.int .i64 s0.gen, .int .i64 s0.phase, .int .i64 s0.mig, .int .i64 s0.tail, .int .i64 s0.now, .int .i64 s0.t.id, .int .i64 s0.t.ver, .int .i64 s0.t.rs, .int .i64 s0.t.reg, .int .i64 s0.h.id, .int .i64 s0.h.ver, .int .i64 s0.h.rs, .int .i64 s0.h.reg, .slice A3 n3 c3] 27))) := below_made (HB1.out.trans (hb3.mono HB1.out.size)) (Nat.le_refl _) _
  have HD3 : Hid (Dev (w3.alloc (.cells #[.int .i64 s0.gen, .int .i64 s0.phase, .int .i64 s0.mig, .int .i64 s0.tail, .int .i64 s0.now, .int .i64 s0.t.id, .int .i64 s0.t.ver, .int .i64 s0.t.rs, .int .i64 s0.t.reg, .int .i64 s0.h.id, .int .i64 s0.h.ver, .int .i64 s0.h.rs, .int .i64 s0.h.reg, .slice A3 n3 c3] 27)) g c m 2 f1) := (HD1.out.on hb3).on (below_new _ _)
  have HN3 : Hid ((w3.alloc (.cells #[.int .i64 s0.gen, .int .i64 s0.phase, .int .i64 s0.mig, .int .i64 s0.tail, .int .i64 s0.now, .int .i64 s0.t.id, .int .i64 s0.t.ver, .int .i64 s0.t.rs, .int .i64 s0.t.reg, .int .i64 s0.h.id, .int .i64 s0.h.ver, .int .i64 s0.h.rs, .int .i64 s0.h.reg, .slice A3 n3 c3] 27)).heap[w1.heap.size]? = some (.cells #[.int .i64 1, .int .i64 1, .int .i64 0, .int .i64 0, .int .i64 0, .int .i64 1, .int .i64 1, .int .i64 4, .int .i64 4, .int .i64 0, .int .i64 0, .int .i64 0, .int .i64 0, .slice none 0 0] 27 (0, 0))) := box_on (box_on HN1.out hb3) (below_new _ _)
  clear hb3
  go_upto_region 4 with fail
  generalize w3.alloc (.cells #[.int .i64 s0.gen, .int .i64 s0.phase, .int .i64 s0.mig, .int .i64 s0.tail, .int .i64 s0.now, .int .i64 s0.t.id, .int .i64 s0.t.ver, .int .i64 s0.t.rs, .int .i64 s0.t.reg, .int .i64 s0.h.id, .int .i64 s0.h.ver, .int .i64 s0.h.rs, .int .i64 s0.h.reg, .slice A3 n3 c3] 27) = w4 at *
  obtain ⟨x0, x1, x2, x3, x4, x5, x6, x7, x8, x9, x10, x11, x12, x13⟩ := cells14 HN3.out
  go_wp2_with fail
  refine (HPB.out _ g c m HB3.out HD3.out).mono ?_
  rintro r w5 ⟨rfl, hd5, hk5⟩
  have HB5 : Hid (Below w.heap.size w w5) := dev_below HB3.out HDN.out hk5
  have HD5 := Lib.hid hd5
  clear hd5 hk5 x0 x1 x2 x3 x4 x5 x6 x7 x8 x9 x10 x11 x12 x13
  go_wp2_with fail
  refine (HL2.out _ g c m HB5.out HD5.out).mono ?_
  rintro r w6 ⟨A6, n6, c6, rfl, -, hb6⟩
  have HB6 : Hid (Below w.heap.size w (w6.alloc (.cells #[.int .i64 s1.gen, .int .i64 s1.phase, .int .i64 s1.mig, .int .i64 s1.tail, .int .i64 s1.now, .int .i64 s1.t.id, .int .i64 s1.t.ver, .int .i64 s1.t.rs, .int .i64 s1.t.reg, .int .i64 s1.h.id, .int .i64 s1.h.ver, .int .i64 s1.h.rs, .int .i64 s1.h.reg, .slice A6 n6 c6] 27))) := below_made (HB5.out.trans (hb6.mono HB5.out.size)) (Nat.le_refl _) _
  have HD6 : Hid (Dev (w6.alloc (.cells #[.int .i64 s1.gen, .int .i64 s1.phase, .int .i64 s1.mig, .int .i64 s1.tail, .int .i64 s1.now, .int .i64 s1.t.id, .int .i64 s1.t.ver, .int .i64 s1.t.rs, .int .i64 s1.t.reg, .int .i64 s1.h.id, .int .i64 s1.h.ver, .int .i64 s1.h.rs, .int .i64 s1.h.reg, .slice A6 n6 c6] 27)) g c m 2 f2) := (HD5.out.on hb6).on (below_new _ _)
  have HN6 : Hid ((w6.alloc (.cells #[.int .i64 s1.gen, .int .i64 s1.phase, .int .i64 s1.mig, .int .i64 s1.tail, .int .i64 s1.now, .int .i64 s1.t.id, .int .i64 s1.t.ver, .int .i64 s1.t.rs, .int .i64 s1.t.reg, .int .i64 s1.h.id, .int .i64 s1.h.ver, .int .i64 s1.h.rs, .int .i64 s1.h.reg, .slice A6 n6 c6] 27)).heap[w6.heap.size]? = some (.cells #[.int .i64 s1.gen, .int .i64 s1.phase, .int .i64 s1.mig, .int .i64 s1.tail, .int .i64 s1.now, .int .i64 s1.t.id, .int .i64 s1.t.ver, .int .i64 s1.t.rs, .int .i64 s1.t.reg, .int .i64 s1.h.id, .int .i64 s1.h.ver, .int .i64 s1.h.rs, .int .i64 s1.h.reg, .slice A6 n6 c6] 27 (0, 0))) := heap_alloc_new _ _
  clear hb6
  go_upto_region 6 with fail
  generalize w6.alloc (.cells #[.int .i64 s1.gen, .int .i64 s1.phase, .int .i64 s1.mig, .int .i64 s1.tail, .int .i64 s1.now, .int .i64 s1.t.id, .int .i64 s1.t.ver, .int .i64 s1.t.rs, .int .i64 s1.t.reg, .int .i64 s1.h.id, .int .i64 s1.h.ver, .int .i64 s1.h.rs, .int .i64 s1.h.reg, .slice A6 n6 c6] 27) = w7 at *
  obtain ⟨y0, y1, y2, y3, y4, y5, y6, y7, y8, y9, y10, y11, y12, y13⟩ := cells14 HN6.out
  have e1 : (s1.gen == 1) = true := by rw [HO1.out]; rfl
  go_wp2_with (go_at_call 24; refine (HDI.out _ g c m HD6.out).mono ?_; rintro e w' ⟨rfl, rfl⟩)
  go_ret
  exact ⟨rfl, HB6.out⟩
end Go.Proofs.YtcjnhemlkahgoaaDoor
