/-
  The walk of the statement on the order of pairs.
-/
import Derived.Test.YtflnjippknpflaaTbEq
import Derived.Test.YtflnjippknpflaaTbLawKeys
import Derived.BigQuiet
set_option maxRecDepth 100000
namespace Go.Proofs.Ytflnjippknpflaa
open Go.RowKit
theorem arr_kept {α : Type} {S : Shape α} {T : Nat → Prop} {w w' : World} {lo B g o : Nat} {l : List α} (h : Arr S w lo B (some ⟨g, o, none⟩) l) (hk : Kept T w w') (hT : ¬ T g) (hB : B ≤ w.heap.size) (hB' : B ≤ w'.heap.size) : Arr S w' lo w'.heap.size (some ⟨g, o, none⟩) l := fun k hl => by
  obtain ⟨ad, e, h2, h3, h4⟩ := h k hl
  injection e with e
  subst e
  exact ⟨_, rfl, h2, Nat.lt_of_lt_of_le h3 hB', fun j v hv => (World.cell?_of_block (by rw [arr_flat]; exact hk.block g (Nat.lt_of_lt_of_le h3 hB) hT)).trans (h4 j v hv)⟩
/-- The cells of one pair of a row, as loads spell them. -/
theorem prs_at {w : World} {lo B g : Nat} {L : List Tb.Pr} (h : Arr prS w lo B (some ⟨g, 0, none⟩) L) (i : Nat) (hi : i < L.length) (k : ByteArray) (e0 e1 e2 e3 : Int) (e4 : Bool) (e : Tb.gp L i = (k, ⟨e0, e1, e2, e3, e4⟩)) :
    w.cell? ⟨g, i * 6, none⟩ = some (.string k) ∧ w.cell? ⟨g, i * 6 + 1, none⟩ = some (.int .i64 e0) ∧ w.cell? ⟨g, i * 6 + 2, none⟩ = some (.int .i64 e1) ∧ w.cell? ⟨g, i * 6 + 3, none⟩ = some (.int .i64 e2) ∧ w.cell? ⟨g, i * 6 + 4, none⟩ = some (.int .i64 e3) ∧ w.cell? ⟨g, i * 6 + 5, none⟩ = some (.bool e4) := by
  have key : ∀ j v, (prc (k, ⟨e0, e1, e2, e3, e4⟩))[j]? = some v → w.cell? ⟨g, i * 6 + j, none⟩ = some v := fun j v hv => by
    have := h.cell i hi j v (by rw [show L.getD i prS.z = (k, ⟨e0, e1, e2, e3, e4⟩) from e]; exact hv)
    rw [arr_flat, Nat.zero_add] at this
    exact this
  exact ⟨key 0 _ rfl, key 1 _ rfl, key 2 _ rfl, key 3 _ rfl, key 4 _ rfl, key 5 _ rfl⟩
theorem bl_of {a b : ByteArray} (h : Tb.kl a b = true) : Op.bytesLess a.toList b.toList = true := by
  rw [Lib.toList_data, Lib.toList_data]; exact h
/-- A table in a law, of keys that are not too long. -/
def TSh (M base : Nat) (w : World) (q : Nat) (n : Nat) : Prop := ∃ H, TSt M base w q H n ∧ ∀ k x, H k x → k.size ≤ 1048576
set_option maxHeartbeats 4000000 in
theorem tableorder_any (A : Option Addr) (n cap : Nat) (l : List ByteArray) (w : World) (hs : SlIs A n cap) (hl : Hid (l.length = n)) (hb : Hid (Arr strS w 0 w.heap.size A l)) :
    Calls Try.prog 7 #[.slice A n cap] w fun e w' => e = .returned (.bool true) ∧ Below w.heap.size w w' := by
  have hcap := hs.2.2
  have hnc := hs.2.1
  have CN := Lib.hid (tnew_any 121 w.heap.size w (Nat.le_refl _))
  obtain ⟨B, hB⟩ : ∃ B, w.heap.size = B := ⟨_, rfl⟩
  obtain ⟨q, hq⟩ : ∃ q, w.heap.size = q := ⟨_, rfl⟩
  rw [hB] at hb
  have HB := Lib.hid hB
  have CN : Hid (Calls Try.prog 8 #[] w fun e w' => e = .returned (.pointer (some ⟨q, 0, none⟩)) ∧ Below B w w' ∧ (∀ k, k = q → B ≤ k ∧ k < w'.heap.size) ∧ Tab 121 w' (fun k => k = q) q (fun _ _ => False) 0 0) := by
    have := CN.out
    rw [hB] at this
    rw [← hq, hB]
    exact this
  rw [hB]
  clear hB hq
  go_enter Try.func7, Try.ntmps7
  go_wp2_with fail
  refine CN.out.mono ?_
  rintro e w1 ⟨rfl, hb1, hS1, hT1⟩
  have HB1 := Lib.hid hb1
  have HS1 := Lib.hid hS1
  have HT1 := Lib.hid hT1
  clear hb1 hS1 hT1 CN
  have HZ : Hid (∀ W, Below B w W → B ≤ W.heap.size) := fun W h => HB.out ▸ h.size
  have HM1 : Hid (∀ W W', Below B w W → Below W.heap.size W W' → Below B w W') := fun W W' h h' => h.trans (h'.mono (HZ.out W h))
  go_wp2_with fail
  go_loopw [4] (fun iv wr => ∃ k : Nat, k ≤ n ∧ k ≤ 20 ∧ iv = .int .i64 (k : Int) ∧ Hid (TSh 121 B wr q k) ∧ Hid (Below B w wr)) (fun i _ => n - (Go.RowKit.intOf i).toNat)
  case atStart => exact ⟨0, Nat.zero_le _, Nat.zero_le _, rfl, ⟨_, ⟨_, 0, 0, HS1.out, HT1.out, Nat.le_refl _⟩, fun _ _ h => h.elim⟩, HB1.out⟩
  case round =>
    obtain ⟨k, hk, hk2, rfl, hst, hbel⟩ := hrel
    by_cases hlt : k < n ∧ k < 20
    · obtain ⟨hlt, hlt2⟩ := hlt
      have hd0 : decide ((k : Int) < 20) = true := decide_eq_true (by omega)
      obtain ⟨ad, rfl⟩ := hb.out.some (k := k) (by rw [hl.out]; omega)
      obtain ⟨s, hss⟩ : ∃ s, l.getD k ⟨#[]⟩ = s := ⟨_, rfl⟩
      have m0 := strs_at (hb.out.below hbel.out (Nat.le_refl _)) k (by rw [hl.out]; omega) s hss
      obtain ⟨ms, hms⟩ : ∃ ms, ms = min s.size 30 := ⟨_, rfl⟩
      have hx := cutS_at s ms hms
      have hmi : min (s.size : Int) 30 = (ms : Int) := by omega
      have hms2 : ms ≤ s.size := by omega
      have HSZ := Lib.hid (cutS_size s)
      generalize cutS s = kk at hx HSZ
      obtain ⟨H2, ⟨S2, c2, wk2, hS2, hT2, hC2⟩, hH2⟩ := hst.out
      have HC := Lib.hid hC2
      have HH2 := Lib.hid hH2
      have CS := Lib.hid (tset_any 121 B q c2 wk2 kk 0 k 0 0 false _ S2 wr.drew (HZ.out _ (below_drew1 hbel.out)) (by decide) HSZ.out (by have := HC.out; omega) hS2 (hT2.next ⟨rfl, rfl, rfl, Nat.le_refl _, fun _ _ => rfl⟩))
      clear hms hss hC2 hst hS2 hT2 hH2
      go_upto_region 5 with fail
      go_region_with (go_at_call 10; refine CS.out.mono ?_; rintro e w4 ⟨rfl, S4, c4, wk4, hn4, hcc, hT4, -⟩)
      all_goals
        have HST : Hid (TSh 121 B w4 q (k + 1)) := ⟨_, ⟨S4, c4, wk4, hn4.own, hT4, by
          have := HC.out
          rcases hcc with ⟨_, h⟩ | ⟨_, h⟩ <;> omega⟩, fun k' x h => by
          rcases h with ⟨h, _⟩ | ⟨_, h⟩
          · rw [← h]; exact HSZ.out
          · exact HH2.out k' x h⟩
        have HB4 := Lib.hid ((below_drew1 hbel.out).trans hn4.below)
        clear hn4 hcc hT4 CS
        go_wp2_with fail
        go_roundw
        case rel => exact ⟨k + 1, by omega, by omega, by go_num, HST, HB4⟩
        case measure => simp [Go.RowKit.intOf]; omega
    · have hex : (k < n ∧ Hid (decide ((k : Int) < 20) = false)) ∨ (¬ k < n ∧ Hid True) := by
        rcases Nat.lt_or_ge k n with h | h
        · exact .inl ⟨h, decide_eq_false (by have : ¬ k < 20 := fun h2 => hlt ⟨h, h2⟩; omega)⟩
        · exact .inr ⟨by omega, trivial⟩
      clear hlt
      obtain ⟨H2, ⟨S2, c2, wk2, hS2, hT2, hC2⟩, hH2⟩ := hst.out
      have HC := Lib.hid hC2
      have HH2 := Lib.hid hH2
      have HS2 := Lib.hid hS2
      have CP := Lib.hid (tpairs_any 121 q c2 wk2 H2 S2 wr (by decide) hH2 hT2)
      have HT2 := Lib.hid hT2
      clear hS2 hT2 hC2 hH2 hst
      rcases hex with ⟨hlt, hd0⟩ | ⟨hlt, hd0⟩
      all_goals
        have hd1 := hd0.out
        clear hd0
        go_wp2_with fail
        refine CP.out.mono ?_
        rintro e w3 ⟨g, pc, L, rfl, hsrt, hmem, hLc, hcap1, hcap2, harr, hb3⟩
        obtain ⟨lo, hlo⟩ : ∃ lo, wr.heap.size = lo := ⟨_, rfl⟩
        have harr := harr
        rw [hlo] at harr
        have HT3 := Lib.hid (HT2.out.next hb3)
        have HS3 : Hid (∀ k, S2 k → B ≤ k ∧ k < w3.heap.size) := fun k h => ⟨(HS2.out k h).1, Nat.lt_of_lt_of_le (HS2.out k h).2 hb3.size⟩
        have HB3 := Lib.hid (HM1.out _ _ hbel.out hb3)
        have HAr := Lib.hid harr
        have HLO := Lib.hid hlo
        have HSR := Lib.hid hsrt
        have HME := Lib.hid hmem
        have HNS : Hid (¬ S2 g ∨ L = []) := by
          by_cases hL : 0 < L.length
          · obtain ⟨ad, e, h1, _⟩ := harr 0 hL
            injection e with e
            subst e
            exact .inl fun h => by have := (HS2.out _ h).2; have h1' : lo ≤ g := h1; omega
          · exact .inr (List.eq_nil_of_length_eq_zero (by omega))
        have HLC := Lib.hid hLc
        obtain ⟨m, hm⟩ : ∃ m, L.length = m := ⟨_, rfl⟩
        rw [hm] at hcap1 hLc ⊢
        have HM := Lib.hid hm
        have hmc : m ≤ 121 := by
          obtain ⟨_, _, _, _, _, _, _, _, _, hO, _⟩ := HT2.out
          have := hO.most
          omega
        clear hsrt hmem harr hb3 hLc hm CP hlo
        go_wp2_with fail
        go_loopw [39] (fun iv wi => ∃ i : Nat, i ≤ m ∧ iv = .int .i64 (i : Int) ∧ Hid (∀ k, S2 k → B ≤ k ∧ k < wi.heap.size) ∧ Hid (∃ wk, Tab 121 wi S2 q H2 c2 wk) ∧ Hid (Arr prS wi lo wi.heap.size (some ⟨g, 0, none⟩) L) ∧ Hid (Below B w wi)) (fun i _ => m - (Go.RowKit.intOf i).toNat)
        case atStart => exact ⟨0, Nat.zero_le _, rfl, HS3.out, ⟨_, HT3.out⟩, HAr.out, HB3.out⟩
        case round =>
          obtain ⟨i, hi, rfl, hSi, hTi, hAi, hbi⟩ := hrel
          by_cases hlti : i < m
          · have hLi : i < L.length := by rw [HM.out]; exact hlti
            have HNG : Hid (¬ S2 g) := by
              rcases HNS.out with h | h
              · exact h
              · rw [h] at hLi; exact absurd hLi (Nat.not_lt_zero _)
            obtain ⟨⟨kk, e0, e1, e2, e3, e4⟩, hp⟩ : ∃ p : Tb.Pr, Tb.gp L i = p := ⟨_, rfl⟩
            have hmemp : (kk, (⟨e0, e1, e2, e3, e4⟩ : Tb.En)) ∈ L := by rw [← hp, Tb.gp_in hLi]; exact List.getElem_mem hLi
            have hHk : H2 kk ⟨e0, e1, e2, e3, e4⟩ := (HME.out _ _).1 hmemp
            have hks := HH2.out _ _ hHk
            obtain ⟨wk3, hT3⟩ := hTi.out
            have hone := Lib.hid (fun x (h : H2 kk x) => Tab.one hT3 h hHk)
            have CG := Lib.hid (tget_any 121 B q c2 wk3 kk H2 S2 wr (HZ.out _ hbi.out) (by decide) hks hSi.out hT3)
            obtain ⟨z0, -⟩ := prs_at hAi.out i hLi _ _ _ _ _ _ hp
            have HP := Lib.hid hp
            have HHk := Lib.hid hHk
            have HLi := Lib.hid hLi
            clear hT3 hks hmemp hp hHk hLi
            go_wp2_with fail
            refine CG.out.mono ?_
            rintro e w4 ⟨a0, a1, a2, a3, a4, y, rfl, hy, hn4, wk4, hT4, -⟩
            obtain ⟨rfl, hye⟩ : y = true ∧ Tb.En.mk a0 a1 a2 a3 a4 = ⟨e0, e1, e2, e3, e4⟩ := by
              rcases hy with ⟨h1, h2⟩ | ⟨_, _, h⟩
              · exact ⟨h1, hone.out _ h2⟩
              · exact absurd HHk.out (h _)
            injection hye with x0 x1 x2 x3 x4
            subst x0 x1 x2 x3 x4
            have HT4 := Lib.hid hT4
            have HS4 := Lib.hid hn4.own
            have HA4 := Lib.hid (arr_kept hAi.out hn4.kept HNG.out (Nat.le_refl _) hn4.kept.size)
            have HB4 := Lib.hid (hbi.out.trans hn4.below)
            clear hy hn4 hT4 z0 CG hone
            go_upto_region 11 with fail
            have HL5 : Hid (Below w4.heap.size w4 (w4.alloc (.cells #[.int .i64 a0, .int .i64 a1, .int .i64 a2, .int .i64 a3, .bool a4] 30))) := (Below.refl _ _).alloc (Nat.le_refl _) _
            have HB5 := Lib.hid (HM1.out _ _ HB4.out HL5.out)
            have HX5 := Lib.hid (heap_alloc_new w4 (.cells #[.int .i64 a0, .int .i64 a1, .int .i64 a2, .int .i64 a3, .bool a4] 30))
            have HS5 : Hid (∀ k, S2 k → B ≤ k ∧ k < (w4.alloc (.cells #[.int .i64 a0, .int .i64 a1, .int .i64 a2, .int .i64 a3, .bool a4] 30)).heap.size) := fun k h => ⟨(HS4.out k h).1, Nat.lt_of_lt_of_le (HS4.out k h).2 HL5.out.size⟩
            have HT5 := Lib.hid (HT4.out.next HL5.out)
            have HK5 : Hid (Kept S2 w4 (w4.alloc (.cells #[.int .i64 a0, .int .i64 a1, .int .i64 a2, .int .i64 a3, .bool a4] 30))) := Kept.alloc _ _
            have HA5 := Lib.hid (arr_kept HA4.out HK5.out HNG.out (Nat.le_refl _) HK5.out.size)
            clear HL5 HK5 HA4 HT4 HS4 HB4
            generalize w4.alloc (.cells #[.int .i64 a0, .int .i64 a1, .int .i64 a2, .int .i64 a3, .bool a4] 30) = w5 at *
            generalize w4.heap.size = bx at *
            obtain ⟨z0, z1, z2, z3, z4⟩ := five_cells HX5.out
            obtain ⟨c0, c1, c2', c3, c4, c5⟩ := prs_at HA5.out i HLi.out _ _ _ _ _ _ HP.out
            have hq : ∀ W, (Op.equalIn 10000 30 (.agg #[.int .i64 a0, .int .i64 a1, .int .i64 a2, .int .i64 a3, .bool a4]) (.agg #[.int .i64 a0, .int .i64 a1, .int .i64 a2, .int .i64 a3, .bool a4])).run Try.prog W = .ok true W := fun W => ent_self 9998 W a0 a1 a2 a3 a4
            have HB6 : ∀ N, Hid (Below B w (w5.drewN N)) := fun N => below_drawn HB5.out N
            have HS6 : ∀ N, Hid (∀ k, S2 k → B ≤ k ∧ k < (w5.drewN N).heap.size) := fun N => HS5.out
            have HT6 : ∀ N, Hid (∃ wk, Tab 121 (w5.drewN N) S2 q H2 c2 wk) := fun N => ⟨wk4, HT5.out.next (below_drewN w5 N)⟩
            have HA6 : ∀ N, Hid (Arr prS (w5.drewN N) lo (w5.drewN N).heap.size (some ⟨g, 0, none⟩) L) := fun N => arr_kept HA5.out ⟨rfl, rfl, rfl, Nat.le_refl _, fun _ _ _ => rfl⟩ HNG.out (Nat.le_refl _) (Nat.le_refl _)
            rcases Nat.eq_zero_or_pos i with h0 | h0
            · subst h0
              go_quiet (fail)
              go_wp2_with fail
              go_roundw
              case rel => exact ⟨1, by omega, by go_num, HS6 _, HT6 _, HA6 _, HB6 _⟩
              case measure => simp [Go.RowKit.intOf]; omega
            · obtain ⟨j, hj⟩ : ∃ j, i = j + 1 := ⟨i - 1, by omega⟩
              have hsub : (i : Int) - 1 = (j : Int) := by omega
              have hjL : j < L.length := by have := HLi.out; omega
              have hjm : j < m := by omega
              obtain ⟨⟨k', f0, f1, f2, f3, f4⟩, hp'⟩ : ∃ p : Tb.Pr, Tb.gp L j = p := ⟨_, rfl⟩
              obtain ⟨d0, -⟩ := prs_at HA5.out j hjL _ _ _ _ _ _ hp'
              have hbl : Op.bytesLess k'.toList kk.toList = true := by
                have h1 := List.pairwise_iff_getElem.1 HSR.out j i hjL HLi.out (by omega)
                rw [← Tb.gp_in hjL, ← Tb.gp_in HLi.out, hp', HP.out] at h1
                exact bl_of h1
              have hgt : decide ((i : Int) > 0) = true := decide_eq_true (by omega)
              have hgt' : decide (0 < (i : Int)) = true := decide_eq_true (by omega)
              clear hp' hj
              go_quiet (fail)
              go_wp2_with fail
              go_roundw
              case rel => exact ⟨i + 1, by omega, by go_num, HS6 _, HT6 _, HA6 _, HB6 _⟩
              case measure => simp [Go.RowKit.intOf]; omega
          · have him : i = m := by omega
            subst him
            clear hlti
            go_wp2_with fail
            refine (tbawake_any wr).mono ?_
            rintro e w4 ⟨rfl, hb4⟩
            have HB4 := Lib.hid (HM1.out _ _ hbi.out hb4)
            obtain ⟨wk3, hT3⟩ := hTi.out
            have CL := Lib.hid (tlen_any 121 q c2 wk3 H2 S2 w4 (hT3.next hb4))
            have hcc : ((i : Int) == (c2 : Int)) = true := by rw [← HLC.out, HM.out]; exact beq_self_eq_true _
            clear hb4 hT3
            go_wp2_with fail
            refine CL.out.mono ?_
            rintro e w5 ⟨rfl, rfl⟩
            go_wp2_with fail
            go_ret
            exact ⟨rfl, HB4.out⟩
end Go.Proofs.Ytflnjippknpflaa
