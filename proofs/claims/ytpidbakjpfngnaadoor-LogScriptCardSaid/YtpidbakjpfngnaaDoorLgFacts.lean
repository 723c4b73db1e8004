/-
  Facts for the laws on the plan journal: the records of one migration, appended in order; a clean device.
-/
import Derived.Test.YtpidbakjpfngnaaDoorLgRef
import Derived.Test.YtpidbakjpfngnaaDoorDevWords
set_option maxRecDepth 100000
namespace Go.Proofs.YtpidbakjpfngnaaDoor
open Go.RowKit
namespace Lg
open Pl
/-- The records of migration m, as the laws append them: the first one begins it. -/
def rec_ (m : Int) (t : Nat → Int) (j : Nat) : P := ⟨if j = 0 then 1 else 2, m, (j : Int), t j, ⟨2, 1, 4, 4⟩⟩
theorem own_rec {m : Int} {t : Nat → Int} (hm : 1 ≤ m ∧ m ≤ 4294967295) (ht : ∀ j, j < 36 → 0 ≤ t j ∧ t j ≤ 281474976710655) : Own m (rec_ m t) := by
  refine ⟨hm.1, fun j hj => ⟨⟨hm, ht j hj, show Sb.form ⟨2, 1, 4, 4⟩ by decide, ?_⟩, rfl, rfl⟩⟩
  by_cases h : j = 0
  · subst h; exact .inl ⟨rfl, rfl⟩
  · refine .inr ⟨by show (if j = 0 then (1 : Int) else 2) = 2; rw [if_neg h], ?_, ?_⟩
    · show 1 ≤ (j : Int); omega
    · show (j : Int) ≤ 35; omega
/-- The next record, on a device with power. -/
theorem app_rec {m : Int} {f : Nat → P} (ho : Own m f) {k : Nat} (hk : k < 36) {n : Nat} (hn : 74 ≤ n) (l : List Nat) (wr : Nat) (b : Bool) (fu : Int) (hf : b = true → 2 ≤ fu) :
    ∃ f', (Flash.clean l wr b fu).app n (f k) = Flash.clean (putSec l (sector m (k : Int)).toNat (enc (sector m (k : Int)) (f k))) (wr + 1) b f' ∧ (Flash.clean l wr b fu).appErr n (f k) = 0 ∧ (b = false → f' = fu) := by
  obtain ⟨hv, hm, hi⟩ := ho.2 k hk
  have h := app_all (l := l) (wr := wr) hv hn b fu hf
  rw [hm, hi] at h
  exact h
theorem app_rec_none {m : Int} {f : Nat → P} (ho : Own m f) {k : Nat} (hk : k < 36) {n : Nat} (hn : 74 ≤ n) (l : List Nat) (wr : Nat) :
    (Flash.clean l wr true 0).app n (f k) = { Flash.clean l wr true 0 with dead := true } ∧ (Flash.clean l wr true 0).appErr n (f k) = 1 := app_none (ho.2 k hk).1 hn
theorem app_rec_half {m : Int} {f : Nat → P} (ho : Own m f) {k : Nat} (hk : k < 36) {n : Nat} (hn : 74 ≤ n) (l : List Nat) (wr : Nat) :
    (Flash.clean l wr true 1).app n (f k) = ⟨putSec l (sector m (k : Int)).toNat (enc (sector m (k : Int)) (f k)), oneOld (sector m (k : Int)).toNat (sec l (sector m (k : Int)).toNat), wr + 1, true, 0, true⟩ ∧ (Flash.clean l wr true 1).appErr n (f k) = 1 := by
  obtain ⟨hv, hm, hi⟩ := ho.2 k hk
  have h := app_half (l := l) (wr := wr) hv hn
  rw [hm, hi] at h
  exact h
end Lg
/-- A device of 80 sectors with nothing dirty, on which the records of a migration lie. -/
theorem put80 {l p : List Nat} {x : Int} (hl : l.length = 80 * 64) (hx : 2 ≤ x ∧ x < 74) (hp : p.length = 64) : (putSec l x.toNat p).length = 80 * 64 := putSec_len hl (by omega) hp
theorem list_one {α : Type} (f : Nat → α) : (List.range 1).map f = [f 0] := rfl
theorem recs_map_at {f : Nat → Pl.P} {n k : Nat} (hk : k < n) : ((List.range n).map f).getD k P0 = f k := by
  rw [List.getD_eq_getElem?_getD, List.getElem?_map, List.getElem?_range hk]; rfl
theorem map_len {f : Nat → Pl.P} (n : Nat) : ((List.range n).map f).length = n := by rw [List.length_map, List.length_range]
/-- A row that is not empty, and its cells. -/
theorem PRow.box {w : World} {base n : Nat} {v : Value} {l : List Pl.P} (h : PRow w base v n l) (hn : 0 < n) : ∃ g c, v = .slice (some ⟨g, 0, none⟩) n c ∧ n ≤ c ∧ Pls w base w.heap.size (some ⟨g, 0, none⟩) l := by
  obtain ⟨A, c, rfl, hs, hp⟩ := h.open_
  rcases h.2 with ⟨_, rfl⟩ | ⟨g, cap, cur, e, _⟩
  · exact absurd hn (Nat.lt_irrefl _)
  · injection e with e1 _ e3
    subst e1
    exact ⟨g, c, rfl, hs.2.1, hp⟩
set_option maxHeartbeats 4000000 in
theorem lgawake_any (w : World) (ht : Hid (Tabs w)) : Calls Tryd.prog 10 #[] w fun r w' => r = .returned (.bool true) ∧ Below w.heap.size w w' := by
  have HT : Hid (∀ W, Below w.heap.size w W → Tabs W) := fun W hW => ht.out.next hW
  have HO1 := Lib.hid (Lg.own_rec (m := 1) (t := fun _ => 3) ⟨by decide, by decide⟩ (fun _ _ => ⟨by decide, by decide⟩))
  have HO2 := Lib.hid (Lg.own_rec (m := 2) (t := fun _ => 3) ⟨by decide, by decide⟩ (fun _ _ => ⟨by decide, by decide⟩))
  obtain ⟨f', hp, he, -⟩ := Lg.app_rec HO1.out (k := 0) (by decide) (n := 80) (by decide) (List.replicate (80 * 64) 0) 0 false 0 (fun h => by cases h)
  have hlen : (List.replicate (80 * 64) 0).length = 80 * 64 := List.length_replicate
  have HR1 : Hid (Lg.replay (putSec (List.replicate (80 * 64) 0) (Lg.sector 1 ((0 : Nat) : Int)).toNat (Pl.enc (Lg.sector 1 ((0 : Nat) : Int)) (Lg.rec_ 1 (fun _ => 3) 0))) 1 = [⟨1, 1, 0, 3, ⟨2, 1, 4, 4⟩⟩]) :=
    Lg.replay_laid HO1.out (Lg.laid_next (by decide) hlen (by decide) (by decide) (Lg.laid_start (by decide) 1 (by decide) _)) (by decide)
  have HR2 : Hid (Lg.replay (putSec (List.replicate (80 * 64) 0) (Lg.sector 1 ((0 : Nat) : Int)).toNat (Pl.enc (Lg.sector 1 ((0 : Nat) : Int)) (Lg.rec_ 1 (fun _ => 3) 0))) 2 = []) :=
    Lg.replay_laid HO2.out (Lg.laid_other (by decide) hlen (Pl.enc_length _ _) (by decide) (.inr rfl) (by decide) (by decide) (Lg.laid_start (by decide) 2 (by decide) _)) (by decide)
  have HAP : Hid (∀ W g c m, Below w.heap.size w W → Dev W g c m 80 (Flash.fresh (List.replicate (80 * 64) 0)) → Calls Tryd.prog 12 #[.pointer (some ⟨g, 0, none⟩), .agg #[.int .i64 1, .int .i64 1, .int .i64 0, .int .i64 3, .int .i64 2, .int .i64 1, .int .i64 4, .int .i64 4]] W (WriteDid W g c m 80 (Flash.clean (putSec (List.replicate (80 * 64) 0) (Lg.sector 1 ((0 : Nat) : Int)).toNat (Pl.enc (Lg.sector 1 ((0 : Nat) : Int)) (Lg.rec_ 1 (fun _ => 3) 0))) 1 false f') 0)) := fun W g c m hW hd => by
    have h := append_any 1 1 0 3 2 1 4 4 g c m 80 _ W (Lib.hid (HT.out W hW)) hd (by decide)
    have e1 : (Flash.fresh (List.replicate (80 * 64) 0)).app 80 ⟨1, 1, 0, 3, ⟨2, 1, 4, 4⟩⟩ = _ := hp
    have e2 : (Flash.fresh (List.replicate (80 * 64) 0)).appErr 80 ⟨1, 1, 0, 3, ⟨2, 1, 4, 4⟩⟩ = 0 := he
    rw [e1, e2] at h
    exact h
  generalize putSec (List.replicate (80 * 64) 0) (Lg.sector 1 ((0 : Nat) : Int)).toNat (Pl.enc (Lg.sector 1 ((0 : Nat) : Int)) (Lg.rec_ 1 (fun _ => 3) 0)) = l at *
  have HRE : Hid (∀ W g c m k, Below w.heap.size w W → Dev W g c m 80 (Flash.clean l 1 false f') → Calls Tryd.prog 17 #[.pointer (some ⟨g, 0, none⟩), .int .i64 k] W (RepIs W (Lg.replay l k))) := fun W g c m k hW hd =>
    replay_any k g c m 80 _ W (by decide) (show _ = _ from rfl) (Lib.hid (HT.out W hW)) hd
  have HSE : Hid (∀ W, Calls Tryd.prog 8 #[.int .i64 2, .int .i64 0] W fun r w' => r = .returned (.int .i64 38) ∧ W = w') := fun W => lgsector_any 2 0 W
  clear hp he hlen ht HT HO1 HO2
  unfold WriteDid at HAP
  unfold RepIs at HRE
  go_enter Tryd.func10, Tryd.ntmps10
  go_wp2_with fail
  refine (new_dev 80 80 rfl _ (by decide) (by decide)).mono ?_
  rintro r w1 ⟨g, cb, mb, rfl, hd1, hdn, hb1⟩
  have HDN := Lib.hid hdn
  have HB1 := Lib.hid hb1
  have HD1 := Lib.hid hd1
  clear hd1 hdn hb1
  go_wp2_with fail
  refine (lgtarget_any _).mono ?_
  rintro r w2 ⟨rfl, hb2⟩
  have HB2 := Lib.hid (HB1.out.trans (hb2.mono HB1.out.size))
  have HD2 := Lib.hid (HD1.out.on hb2)
  clear hb2
  go_wp2_with fail
  refine (HAP.out _ g cb mb HB2.out HD2.out).mono ?_
  rintro r w3 ⟨rfl, hd3, hk3⟩
  have HB3 := Lib.hid (dev_below HB2.out HDN.out hk3)
  have HD3 := Lib.hid hd3
  clear hd3 hk3
  go_wp2_with fail
  refine (HRE.out _ g cb mb 1 HB3.out HD3.out).mono ?_
  rintro r w4 ⟨v4, rfl, hr4, hb4⟩
  rw [HR1.out] at hr4
  obtain ⟨g4, c4, rfl, hc4, hp4⟩ := hr4.box (by decide)
  have HB4 := Lib.hid (HB3.out.trans (hb4.mono HB3.out.size))
  have HD4 := Lib.hid (HD3.out.on hb4)
  obtain ⟨y0, y1, y2, y3, -⟩ := hp4.at 0 (by decide) _ rfl
  simp only [List.length_cons, List.length_nil, Nat.zero_mul, add_flat, Nat.zero_add] at y0 y1 y2 y3 ⊢
  have HC4 := Lib.hid hc4
  clear hr4 hb4 hp4 hc4
  go_wp2_with fail
  refine (HSE.out _).mono ?_
  rintro r w5 ⟨rfl, rfl⟩
  go_wp2_with fail
  refine (HRE.out _ g cb mb 2 HB4.out HD4.out).mono ?_
  rintro r w6 ⟨v6, rfl, hr6, hb6⟩
  rw [HR2.out] at hr6
  obtain ⟨A6, c6, rfl, hs6, -⟩ := hr6.open_
  have HB6 := Lib.hid (HB4.out.trans (hb6.mono HB4.out.size))
  clear hr6 hb6
  go_wp2_with fail
  go_ret
  exact ⟨rfl, HB6.out⟩
end Go.Proofs.YtpidbakjpfngnaaDoor
