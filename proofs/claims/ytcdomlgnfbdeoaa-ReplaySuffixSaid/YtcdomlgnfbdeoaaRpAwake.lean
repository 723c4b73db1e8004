/-
  The walk of layer 22's Awake.
-/
import Derived.Test.YtcdomlgnfbdeoaaRpMap
import Derived.Test.YtcdomlgnfbdeoaaRpValue
import Derived.Test.YtcdomlgnfbdeoaaTbPr
set_option maxRecDepth 100000
namespace Go.Proofs.Ytcdomlgnfbdeoaa
open Go.RowKit
theorem freeze_cell (W : World) (a : Addr) (n : Nat) (b : Addr) : (W.freeze a n).cell? b = W.cell? b := by
  unfold World.freeze
  split
  · rfl
  · show World.cell? { W with heap := _ } b = _
    unfold World.cell?
    simp only [Array.getElem?_modify]
    by_cases h : a.block = b.block
    · rw [if_pos h]
      cases hb : W.heap[b.block]? with
      | none => rfl
      | some o => cases o <;> rfl
    · rw [if_neg h]
theorem freeze_size (W : World) (a : Addr) (n : Nat) : (W.freeze a n).heap.size = W.heap.size := by
  unfold World.freeze
  split
  · rfl
  · exact Array.size_modify
theorem freeze_below {B : Nat} (W : World) (a : Addr) (n : Nat) (h : B ≤ a.block) : Below B W (W.freeze a n) := by
  refine ⟨?_, ?_, ?_, by rw [freeze_size]; exact Nat.le_refl _, fun i hi => ?_⟩
  · unfold World.freeze; split <;> rfl
  · unfold World.freeze; split <;> rfl
  · unfold World.freeze; split <;> rfl
  · unfold World.freeze
    split
    · rfl
    · show (W.heap.modify a.block _)[i]? = _
      rw [Array.getElem?_modify, if_neg (by omega)]
theorem Bs.frozen {W : World} {A : Option Addr} {l : List Nat} (h : Bs W W.heap.size A l) (a : Addr) (n : Nat) : Bs (W.freeze a n) (W.freeze a n).heap.size A l := fun j hj => by
  obtain ⟨h1, ad, e, h3, h4⟩ := h j hj
  exact ⟨h1, ad, e, by rw [freeze_size]; exact h3, (freeze_cell W a n _).trans h4⟩
theorem Rd.here.frozen {W : World} {r : Rd} (h : r.here W W.heap.size) (a : Addr) (n : Nat) : r.here (W.freeze a n) (W.freeze a n).heap.size := by
  obtain ⟨⟨p1, p2, p3⟩, ⟨q1, q2, q3⟩⟩ := h
  exact ⟨⟨p1, p2, p3.frozen a n⟩, ⟨q1, q2, q3.frozen a n⟩⟩
theorem Bs.next {W W' : World} {A : Option Addr} {l : List Nat} (h : Bs W W.heap.size A l) (hb : Below W.heap.size W W') : Bs W' W'.heap.size A l := (h.below hb (Nat.le_refl _)).more hb.size
theorem Rd.here.next {W W' : World} {r : Rd} (h : r.here W W.heap.size) (hb : Below W.heap.size W W') : r.here W' W'.heap.size := by
  obtain ⟨⟨p1, p2, p3⟩, ⟨q1, q2, q3⟩⟩ := h
  exact ⟨⟨p1, p2, p3.next hb⟩, ⟨q1, q2, q3.next hb⟩⟩
theorem conv_here (W : World) (g n c : Nat) (C : Array Value) (fr : Nat × Nat) (hb : W.heap[g]? = some (.cells C 5 fr)) : (convert 40 40 (.slice (some ⟨g, 0, none⟩) n c)).run Try.prog W = .ok (.slice (some ⟨g, 0, none⟩) n c) (W.freeze ⟨g, C.size, none⟩ 1) := by
  have ht := Try.underlying40
  have he := Try.underlying5
  have hsh : W.shape? g = some (5, C.size) := by
    unfold World.shape?
    rw [hb]
  simp [convert, run_underlying ht, run_underlying he, markStringish, hsh]
/-- A found value of a literal key, and a tombstone of one. -/
def fdV (l : List Nat) (x : Int) (A : Option Addr) (c : Nat) : Fd := ⟨0, 17, ⟨1, x, A, none, 1, c, 0, 0, l, []⟩⟩
def fdT (g : Nat) : Fd := ⟨0, 0, ⟨2, 0, some ⟨g, 0, none⟩, none, 1, 1, 0, 0, [97], []⟩⟩
def LitIs (l : List Nat) (x : Int) (W : World) (e : Ending) (w' : World) : Prop :=
  ∃ A c, e = .returned (.agg #[.int .i64 0, .int .i64 17, .int .i64 1, .slice A 1 c, .slice none 0 0, .int .i64 x]) ∧ (fdV l x A c).rd.here w' w'.heap.size ∧ Below W.heap.size W w'
theorem lit_any (k : ByteArray) (x : Int) (W : World) (hk : k.size = 1) : Calls Try.prog 12 #[.string k, .int .i64 x] W (LitIs (Tb.nums k) x W) :=
  (value22_any k x W (by omega)).mono fun e w' ⟨A, c, e1, hs, hb, hbb⟩ => by
    rw [hk] at e1 hs
    exact ⟨A, c, e1, ⟨⟨hs, (Tb.nums_length k).trans hk, hb⟩, ⟨⟨fun _ => ⟨rfl, rfl⟩, Nat.le_refl _, by show (0 : Nat) ≤ _; decide⟩, rfl, fun k hk => absurd hk (Nat.not_lt_zero _)⟩⟩, hbb⟩
theorem fdT_here {W : World} {g : Nat} (h : Bs W W.heap.size (some ⟨g, 0, none⟩) [97]) : (fdT g).rd.here W W.heap.size :=
  ⟨⟨⟨fun e => (by cases e), Nat.le_refl _, by show (1 : Nat) ≤ _; decide⟩, rfl, h⟩, ⟨⟨fun _ => ⟨rfl, rfl⟩, Nat.le_refl _, by show (0 : Nat) ≤ _; decide⟩, rfl, fun k hk => absurd hk (Nat.not_lt_zero _)⟩⟩
/-- The example's answer. -/
theorem awake_fin (A1 A2 A4 : Option Addr) (c1 c2 c4 g h : Nat) :
    Rp.Is [((⟨#[98]⟩ : ByteArray), (⟨3, 0, 17, 0, false⟩ : Tb.En))] (Rp.out 5 (Rp.fin (fsOf [(⟨3, some ⟨h, 0, none⟩, 4, 4, [fdV [97] 0 A1 c1, fdV [98] 0 A2 c2, fdT g, fdV [99] 5 A4 c4]⟩ : Bt)]))) := by
  have hf : fsOf [(⟨3, some ⟨h, 0, none⟩, 4, 4, [fdV [97] 0 A1 c1, fdV [98] 0 A2 c2, fdT g, fdV [99] 5 A4 c4]⟩ : Bt)] = [⟨3, 0, 17, 1, ⟨#[97]⟩, 0⟩, ⟨3, 0, 17, 1, ⟨#[98]⟩, 0⟩, ⟨3, 0, 0, 2, ⟨#[97]⟩, 0⟩, ⟨3, 0, 17, 1, ⟨#[99]⟩, 5⟩] := rfl
  rw [hf]
  refine ⟨List.pairwise_singleton _ _, fun k e => ?_⟩
  rw [List.mem_singleton, Rp.out_some]
  simp only [Rp.fin, Rp.run, List.foldl, Rp.step, Rp.st0, Rp.F.en, if_neg (show ¬ (1 : Int) = 3 by decide), if_neg (show ¬ (1 : Int) = 2 by decide), if_neg (show ¬ (2 : Int) = 3 by decide), if_true]
  by_cases hc : k = ⟨#[99]⟩
  · subst hc
    rw [if_pos rfl]
    constructor
    · intro e1
      injection e1 with e1
      exact absurd e1 (by decide)
    · rintro ⟨e1, e2⟩
      injection e1 with e1
      subst e1
      exact absurd e2 (by decide)
  · rw [if_neg hc]
    by_cases ha : k = ⟨#[97]⟩
    · subst ha
      rw [if_pos rfl]
      constructor
      · intro e1
        injection e1 with e1
        exact absurd e1 (by decide)
      · rintro ⟨e1, -⟩
        cases e1
    · rw [if_neg ha]
      by_cases hb : k = ⟨#[98]⟩
      · subst hb
        rw [if_pos rfl]
        constructor
        · intro e1
          injection e1 with e1 e2
          subst e2
          exact ⟨rfl, by decide⟩
        · rintro ⟨e1, -⟩
          injection e1 with e1
          rw [← e1]
      · rw [if_neg hb]
        constructor
        · intro e1
          injection e1 with e1
          exact absurd e1 hb
        · rintro ⟨e1, -⟩
          rw [if_neg ha] at e1
          cases e1
theorem lit_here {W : World} {g : Nat} (h : W.heap[g]? = some (.cells #[.int .u8 97] 5 (0, 0))) : Bs W W.heap.size (some ⟨g, 0, none⟩) [97] := fun j hj => by
  obtain rfl : j = 0 := by simpa using hj
  refine ⟨by decide, _, rfl, (Array.getElem?_eq_some_iff.1 h).1, ?_⟩
  rw [add_zero_block]
  exact cell_of_row _ _ 0 _ _ _ h
def AwIs (W : World) (e : Ending) (w' : World) : Prop := ∃ A c, e = .returned (.slice A 1 c) ∧ SlIs A 1 c ∧ (A = none ∨ ∃ g, A = some ⟨g, 0, none⟩) ∧ Arr prS w' 0 w'.heap.size A [((⟨#[98]⟩ : ByteArray), (⟨3, 0, 17, 0, false⟩ : Tb.En))] ∧ Below W.heap.size W w'
theorem awmap_any (W : World) (g h q : Nat) (Aa Ab Ac : Option Addr) (ca cb cc : Nat) (hr : W.heap[h]? = some (.cells (fdS.flat [fdV [97] 0 Aa ca, fdV [98] 0 Ab cb, fdT g, fdV [99] 5 Ac cc]).toArray 44 (0, 0)))
    (hq : W.heap[q]? = some (.cells #[.int .i64 3, .slice (some ⟨h, 0, none⟩) 4 4] 34 (0, 0))) (ha : (fdV [97] 0 Aa ca).rd.here W W.heap.size) (hb : (fdV [98] 0 Ab cb).rd.here W W.heap.size) (ht : Bs W W.heap.size (some ⟨g, 0, none⟩) [97]) (hc : (fdV [99] 5 Ac cc).rd.here W W.heap.size) :
    Calls Try.prog 10 #[.slice (some ⟨q, 0, none⟩) 1 1, .int .i64 5] W (AwIs W) := by
  have hl : FdsIn W W.heap.size (some ⟨h, 0, none⟩) [fdV [97] 0 Aa ca, fdV [98] 0 Ab cb, fdT g, fdV [99] 5 Ac cc] := by
    refine ⟨fun j hj => ⟨_, rfl, Nat.zero_le _, (Array.getElem?_eq_some_iff.1 hr).1, fun i v e => ?_⟩, fun f hf => ?_⟩
    · have hi : i < fdS.m := by
        have := (List.getElem?_eq_some_iff.1 e).1
        rwa [fdS.len] at this
      rw [arr_flat, Nat.zero_add, cell_of_row _ _ _ _ _ _ hr, List.getElem?_toArray, fdS.flat_at _ _ _ hj hi]
      exact e
    · simp only [List.mem_cons, List.not_mem_nil, or_false] at hf
      rcases hf with rfl | rfl | rfl | rfl
      · exact ha
      · exact hb
      · exact fdT_here ht
      · exact hc
  have hbt : BtsAt W W.heap.size (some ⟨q, 0, none⟩) [(⟨3, some ⟨h, 0, none⟩, 4, 4, [fdV [97] 0 Aa ca, fdV [98] 0 Ab cb, fdT g, fdV [99] 5 Ac cc]⟩ : Bt)] := by
    refine ⟨Arr.ofBox (S := batS) hq (Nat.zero_le _) (Array.getElem?_eq_some_iff.1 hq).1, fun b hm => ?_⟩
    rw [List.mem_singleton.1 hm]
    exact ⟨⟨fun e => (by cases e), Nat.le_refl _, by show (4 : Nat) ≤ _; decide⟩, rfl, hl⟩
  refine (rpmap_any (some ⟨q, 0, none⟩) W.heap.size 1 1 [(⟨3, some ⟨h, 0, none⟩, 4, 4, [fdV [97] 0 Aa ca, fdV [98] 0 Ab cb, fdT g, fdV [99] 5 Ac cc]⟩ : Bt)] 5 W ⟨fun e => (by cases e), Nat.le_refl _, by decide⟩ (Nat.le_refl _) (Lib.hid rfl) (by decide) (fun b hm => ?_) (fun b hm f hf => ?_) hbt).mono ?_
  · rw [List.mem_singleton.1 hm]
    exact (by show (4 : Nat) ≤ 8; decide)
  · rw [List.mem_singleton.1 hm] at hf
    simp only [List.mem_cons, List.not_mem_nil, or_false] at hf
    rcases hf with rfl | rfl | rfl | rfl <;> exact (by show (1 : Nat) ≤ 10; decide)
  · rintro e w' ⟨L, hI, -, A, c, rfl, hs, hn, ha, hbb⟩
    obtain rfl := hI.one (awake_fin Aa Ab Ac ca cb cc g h)
    exact ⟨A, c, rfl, hs, hn, ha, hbb⟩
set_option maxHeartbeats 4000000 in
theorem rpawake_any (w : World) : Calls Try.prog 8 #[] w fun e w' => e = .returned (.bool true) ∧ Below w.heap.size w w' := by
  have Ca : Hid (∀ W, Calls Try.prog 12 #[.string ⟨#[97]⟩, .int .i64 0] W (LitIs [97] 0 W)) := fun W => lit_any ⟨#[97]⟩ 0 W rfl
  have Cb : Hid (∀ W, Calls Try.prog 12 #[.string ⟨#[98]⟩, .int .i64 0] W (LitIs [98] 0 W)) := fun W => lit_any ⟨#[98]⟩ 0 W rfl
  have Cc : Hid (∀ W, Calls Try.prog 12 #[.string ⟨#[99]⟩, .int .i64 5] W (LitIs [99] 5 W)) := fun W => lit_any ⟨#[99]⟩ 5 W rfl
  have CM := Lib.hid (fun W g h q Aa Ab Ac ca cb cc => awmap_any W g h q Aa Ab Ac ca cb cc)
  go_enter Try.func8, Try.ntmps8
  go_upto_region 1 with fail
  go_cut [1] (fun lv wx => ∃ A c, lv = .slice A 1 c ∧ Hid (SlIs A 1 c) ∧ Hid (A = none ∨ ∃ g, A = some ⟨g, 0, none⟩) ∧ Hid (Arr prS wx 0 wx.heap.size A [((⟨#[98]⟩ : ByteArray), (⟨3, 0, 17, 0, false⟩ : Tb.En))]) ∧ Hid (Below w.heap.size w wx))
  case first =>
    go_wp2_with fail
    refine (Ca.out w).mono ?_
    rintro e w1 ⟨Aa, ca, rfl, hha, hb1⟩
    have HB1 := Lib.hid hb1
    have HA1 := Lib.hid hha
    clear hha hb1
    go_wp2_with fail
    refine (Cb.out w1).mono ?_
    rintro e w2 ⟨Ab, cb, rfl, hhb, hb2⟩
    have HB2 : Hid (Below w.heap.size w w2) := HB1.out.trans (hb2.mono HB1.out.size)
    have HA2 := Lib.hid (HA1.out.next hb2)
    have HBB2 := Lib.hid hhb
    have hx := heap_alloc_new w2 (.cells #[.int .u8 97] 5)
    have hbw := (Below.refl w2.heap.size w2).alloc (Nat.le_refl _) (.cells #[.int .u8 97] 5)
    have kc := conv_here (w2.alloc (.cells #[.int .u8 97] 5)) w2.heap.size 1 1 #[.int .u8 97] (0, 0) hx
    have hfz : Below w.heap.size (w2.alloc (.cells #[.int .u8 97] 5)) ((w2.alloc (.cells #[.int .u8 97] 5)).freeze ⟨w2.heap.size, (#[.int .u8 97] : Array Value).size, none⟩ 1) := freeze_below _ _ _ HB2.out.size
    have HB3 : Hid (Below w.heap.size w ((w2.alloc (.cells #[.int .u8 97] 5)).freeze ⟨w2.heap.size, (#[.int .u8 97] : Array Value).size, none⟩ 1)) := (HB2.out.trans (hbw.mono HB2.out.size)).trans hfz
    have HT3 := Lib.hid ((lit_here hx).frozen ⟨w2.heap.size, (#[.int .u8 97] : Array Value).size, none⟩ 1)
    have HA3 := Lib.hid ((HA2.out.next hbw).frozen ⟨w2.heap.size, (#[.int .u8 97] : Array Value).size, none⟩ 1)
    have HBB3 := Lib.hid ((HBB2.out.next hbw).frozen ⟨w2.heap.size, (#[.int .u8 97] : Array Value).size, none⟩ 1)
    clear hb2 hhb hx hbw hfz HA2 HBB2 HA1
    go_wp2_with fail
    generalize (w2.alloc (.cells #[.int .u8 97] 5)).freeze ⟨w2.heap.size, (#[.int .u8 97] : Array Value).size, none⟩ 1 = w3 at *
    clear kc
    refine (Cc.out w3).mono ?_
    rintro e w4 ⟨Ac, cc, rfl, hhc, hb4⟩
    have HB4 : Hid (Below w.heap.size w w4) := HB3.out.trans (hb4.mono HB3.out.size)
    have HA4 := Lib.hid (HA3.out.next hb4)
    have HBB4 := Lib.hid (HBB3.out.next hb4)
    have HT4 := Lib.hid (HT3.out.next hb4)
    have HC4 := Lib.hid hhc
    clear hb4 hhc HA3 HBB3 HT3 HB3
    obtain ⟨g, hg⟩ : ∃ g, w2.heap.size = g := ⟨_, rfl⟩
    rw [hg] at HT4 ⊢
    clear hg
    go_wp2_with fail
    obtain ⟨O1, hO1⟩ : ∃ o, o = Obj.cells #[.int .i64 0, .int .i64 17, .int .i64 1, .slice Aa 1 ca, .slice none 0 0, .int .i64 0, .int .i64 0, .int .i64 17, .int .i64 1, .slice Ab 1 cb, .slice none 0 0, .int .i64 0, .int .i64 0, .int .i64 0, .int .i64 2, .slice (some ⟨g, 0, none⟩) 1 1, .slice none 0 0, .int .i64 0, .int .i64 0, .int .i64 17, .int .i64 1, .slice Ac 1 cc, .slice none 0 0, .int .i64 5] 44 := ⟨_, rfl⟩
    obtain ⟨O2, hO2⟩ : ∃ o, o = Obj.cells #[.int .i64 3, .slice (some ⟨w4.heap.size, 0, none⟩) 4 4] 34 := ⟨_, rfl⟩
    rw [← hO1, ← hO2]
    have hsz : (w4.alloc O1).heap.size = w4.heap.size + 1 := by simp
    have hr1 : (w4.alloc O1).heap[w4.heap.size]? = some O1 := heap_alloc_new w4 O1
    have hr : ((w4.alloc O1).alloc O2).heap[w4.heap.size]? = some O1 := (heap_alloc_old _ O2 (Array.getElem?_eq_some_iff.1 hr1).1).trans hr1
    have hq : ((w4.alloc O1).alloc O2).heap[w4.heap.size + 1]? = some O2 := hsz ▸ heap_alloc_new (w4.alloc O1) O2
    have hbo : Below w4.heap.size w4 ((w4.alloc O1).alloc O2) := ((Below.refl _ w4).alloc (Nat.le_refl _) O1).alloc ((Below.refl _ w4).alloc (Nat.le_refl _) O1).size O2
    subst hO1 hO2
    refine (CM.out _ g w4.heap.size (w4.heap.size + 1) Aa Ab Ac ca cb cc hr hq (HA4.out.next hbo) (HBB4.out.next hbo) (HT4.out.next hbo) (HC4.out.next hbo)).mono ?_
    rintro e w6 ⟨A6, c6, rfl, hs6, hn6, ha6, hb6⟩
    have HB6 : Hid (Below w.heap.size w w6) := (HB4.out.trans (hbo.mono HB4.out.size)).trans (hb6.mono (Nat.le_trans HB4.out.size hbo.size))
    clear hsz hr1 hr hq hbo hb6 HA4 HBB4 HT4 HC4
    go_wp2_with fail
    go_meet
    exact ⟨A6, c6, rfl, hs6, hn6, ha6, HB6.out⟩
  case rest =>
    obtain ⟨A, c, rfl, HS, HN, HA, HB⟩ := hcut
    generalize wc = w3 at *
    obtain ⟨ad, hA⟩ := HA.out.some (k := 0) (Nat.zero_lt_one)
    rcases HN.out with h0 | ⟨g, h0⟩
    · rw [h0] at hA; cases hA
    · subst h0
      obtain ⟨m0, m1, m2, m3, m4, m5⟩ := prs_at HA.out 0 (Nat.zero_lt_one) _ _ _ _ _ _ rfl
      simp only [Nat.zero_mul, Nat.zero_add] at m0 m1 m2 m3 m4 m5
      clear hA
      go_wp2_with fail
      go_ret
      exact ⟨rfl, HB.out⟩
end Go.Proofs.Ytcdomlgnfbdeoaa
