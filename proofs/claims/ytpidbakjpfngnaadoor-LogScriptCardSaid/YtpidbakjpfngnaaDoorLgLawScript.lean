/-
  The walk of the law LogScript.
-/
import Derived.Test.YtpidbakjpfngnaaDoorLgRound
import Derived.Test.YtpidbakjpfngnaaDoorCopyWords
import Derived.Deep.RegionHeld3
set_option maxRecDepth 100000
namespace Go.Proofs.YtpidbakjpfngnaaDoor
open Go.RowKit
/-- A valid record, appended to a clean device. -/
theorem append_valid {w : World} (HT : ∀ W, Below w.heap.size w W → Tabs W) (e0 e1 e2 e3 e4 e5 e6 e7 : Int) (x : Nat) (hv : Pl.valid ⟨e0, e1, e2, e3, ⟨e4, e5, e6, e7⟩⟩) (hx : Lg.sector e1 e2 = (x : Int)) (l : List Nat) (wr : Nat) (hwr : wr < 1000000) (W : World) (g c mb : Nat) (hW : Below w.heap.size w W) (hd : Dev W g c mb 80 (Flash.clean l wr false 0)) :
    Calls Tryd.prog 12 #[.pointer (some ⟨g, 0, none⟩), .agg #[.int .i64 e0, .int .i64 e1, .int .i64 e2, .int .i64 e3, .int .i64 e4, .int .i64 e5, .int .i64 e6, .int .i64 e7]] W (WriteDid W g c mb 80 (Flash.clean (putSec l x (Pl.enc (x : Int) ⟨e0, e1, e2, e3, ⟨e4, e5, e6, e7⟩⟩)) (wr + 1) false 0) 0) := by
  have h := append_any e0 e1 e2 e3 e4 e5 e6 e7 g c mb 80 _ W (Lib.hid (HT W hW)) hd (show wr < _ by omega)
  obtain ⟨f', hp, he, hf⟩ := Lg.app_all (l := l) (wr := wr) hv (n := 80) (by decide) false 0 (fun h => by cases h)
  obtain rfl := hf rfl
  rw [hp, he] at h
  simp only at h
  rw [hx] at h
  exact h
theorem append_bad {w : World} (HT : ∀ W, Below w.heap.size w W → Tabs W) (e0 e1 e2 e3 e4 e5 e6 e7 : Int) (hv : ¬ Pl.valid ⟨e0, e1, e2, e3, ⟨e4, e5, e6, e7⟩⟩) (fs : Flash) (hwr : fs.wr < 1000000) (W : World) (g c mb : Nat) (hW : Below w.heap.size w W) (hd : Dev W g c mb 80 fs) :
    Calls Tryd.prog 12 #[.pointer (some ⟨g, 0, none⟩), .agg #[.int .i64 e0, .int .i64 e1, .int .i64 e2, .int .i64 e3, .int .i64 e4, .int .i64 e5, .int .i64 e6, .int .i64 e7]] W (WriteDid W g c mb 80 fs 4) := by
  have h := append_any e0 e1 e2 e3 e4 e5 e6 e7 g c mb 80 _ W (Lib.hid (HT W hW)) hd (show fs.wr < _ by omega)
  rwa [(Lg.app_bad hv fs).1, (Lg.app_bad hv fs).2] at h
set_option maxHeartbeats 16000000 in
theorem logscript_any (A : Option Addr) (n c : Nat) (ps : List Pl.P) (mg : Int) (w : World) (hs : SlIs A n c) (hl : Hid (ps.length = n)) (hb : Hid (Pls w 0 w.heap.size A ps)) (ht : Hid (Tabs w)) :
    Calls Tryd.prog 4 #[.slice A n c, .int .i64 mg] w fun r w' => r = .returned (.bool true) ∧ Below w.heap.size w w' := by
  have hnc := hs.2.1
  have hcc := hs.2.2
  have HT : Hid (∀ W, Below w.heap.size w W → Tabs W) := fun W hW => ht.out.next hW
  have HAV := Lib.hid (fun e0 e1 e2 e3 e4 e5 e6 e7 x hv hx l wr hwr => append_valid HT.out e0 e1 e2 e3 e4 e5 e6 e7 x hv hx l wr hwr)
  have HAN := Lib.hid (fun e0 e1 e2 e3 e4 e5 e6 e7 hv fs hwr => append_bad HT.out e0 e1 e2 e3 e4 e5 e6 e7 hv fs hwr)
  have HRE : Hid (∀ W g c mb l k z, Below w.heap.size w W → Dev W g c mb 80 (Flash.clean l k false 0) → Calls Tryd.prog 17 #[.pointer (some ⟨g, 0, none⟩), .int .i64 z] W (RepIs W (Lg.replay l z))) := fun W g c mb l k z hW hd =>
    replay_any z g c mb 80 _ W (by decide) (show _ = _ from rfl) (Lib.hid (HT.out W hW)) hd
  have HRF : Hid (∀ W gi l rest z, W.heap[gi]? = some (.cells (vals l ++ rest).toArray 5 (0, 0)) → l.length = 5120 → (∀ y ∈ l, y < 256) → Calls Tryd.prog 18 #[.slice (some ⟨gi, 0, none⟩) 5120 5120, .int .i64 z] W (RepIs W (Lg.replay l z))) := fun W gi l rest z h h1 h2 =>
    refreplay_any z (some ⟨gi, 0, none⟩) W.heap.size 5120 5120 l W (Nat.le_refl _) ⟨(fun e => by cases e), Nat.le_refl _, by decide⟩ h1 (by decide) (row_bs h h2)
  have HEQ : Hid (∀ (W : World) A1 A2 c1 c2 (L : List Pl.P), L.length ≤ 36 → Pls W 0 W.heap.size A1 L → Pls W 0 W.heap.size A2 L → Calls Tryd.prog 16 #[.slice A1 L.length c1, .slice A2 L.length c2] W fun r w' => r = .returned (.bool true) ∧ Below W.heap.size W w') := fun W A1 A2 c1 c2 L hL h1 h2 => by
    have h := refleq_any A1 A2 0 W.heap.size L.length L.length c1 c2 L L W (show _ = _ from rfl) (show _ = _ from rfl) (by omega) (by omega) h1 h2
    rwa [decide_eq_true rfl] at h
  have HAW : Hid (∀ W, Below w.heap.size w W → Calls Tryd.prog 10 #[] W fun r w' => r = .returned (.bool true) ∧ Below W.heap.size W w') := fun W hW => lgawake_any W (Lib.hid (HT.out W hW))
  clear ht HT hs
  unfold WriteDid at HAV HAN
  unfold RepIs at HRE HRF
  obtain ⟨i0, hi0, hz0, hz1, hz2⟩ := info_parts info_u8
  have I0 := Lib.hid (And.intro hi0 (And.intro hz0 (And.intro hz1 hz2)))
  clear hi0 hz0 hz1 hz2
  have B0 : Hid (i0.bytes * 5120 ≤ 281474976710656 ∧ 5120 ≤ maxLen) := by rw [I0.out.2.2.2]; exact ⟨by decide, by decide⟩
  go_enter Tryd.func4, Tryd.ntmps4
  go_wp2_with fail
  refine (new_dev 80 80 rfl _ (by decide) (by decide)).mono ?_
  rintro r w1 ⟨g, cb, mb, rfl, hd1, hdn, hb1⟩
  have HDN := Lib.hid hdn
  have HB1 := Lib.hid hb1
  have HD1 : Hid (Dev w1 g cb mb 80 (Flash.clean (List.replicate (80 * 64) 0) 0 false 0)) := hd1
  clear hd1 hdn hb1
  go_upto_region 3 with (at_make; refine wpList_make_full w1 rfl _ _ 28 rfl w1.heap.size 5 i0 (.int .u8 0) 1 Tryd.underlying28 I0.out.1 I0.out.2.1 I0.out.2.2.1 .i64 .i64 _ _ 5120 rfl rfl rfl rfl B0.out.1 B0.out.2 (Nat.le_refl _) ?_; intro w2 hown hg)
  have hown1 : w2.ownsRow w1.heap.size 5 1 (.slice (some ⟨w1.heap.size, 0, none⟩) 5120 5120) 5120 (vals (List.replicate (80 * 64) 0)) := by
    rw [← vals_zero]; exact hown
  obtain ⟨gi, rest, hv, hgi, hcl, hrl, hrm⟩ := own_block hown1 (by decide)
  injection hv with q1 q2 q3
  injection q1 with q1
  injection q1 with q1
  have hbn : Below w1.heap.size w1 w2 := (Below.refl _ w1).grown hg (Nat.le_refl _) (fun k e => by cases e)
  have HB2 := Lib.hid (HB1.out.trans (hbn.mono HB1.out.size))
  have HD2 := Lib.hid (HD1.out.on hbn)
  have HI2 : Hid (w2.heap[gi]? = some (.cells (vals (List.replicate (80 * 64) 0) ++ rest).toArray 5 (0, 0))) := hcl
  have HGD : Hid (¬ devS g cb mb gi ∧ w.heap.size ≤ gi ∧ gi < w2.heap.size) := by
    have h1 := HD1.out.lt
    have h2 := HB1.out.size
    have h3 := (Array.getElem?_eq_some_iff.1 hcl).1
    refine ⟨fun h => ?_, by omega, h3⟩
    unfold devS at h
    omega
  have HZ2 : Hid ((List.replicate (80 * 64) 0).length = 5120 ∧ ∀ y ∈ List.replicate (80 * 64) 0, y < 256) := ⟨List.length_replicate, fun y hy => by rw [(List.mem_replicate.1 hy).2]; decide⟩
  subst q1
  clear hown hown1 hg q2 q3 hcl hrl hrm hgi hbn HB1 HD1 I0 B0
  generalize w1.heap.size = gi at *
  generalize List.replicate (80 * 64) 0 = l0 at *
  go_wp2_with fail
  go_loopw [7] (fun iv wr => ∃ (k cc : Nat) (l : List Nat), k ≤ n ∧ k ≤ 20 ∧ cc ≤ k ∧ iv = .int .i64 (k : Int) ∧ Hid (Dev wr g cb mb 80 (Flash.clean l cc false 0)) ∧ Hid (wr.heap[gi]? = some (.cells (vals l ++ rest).toArray 5 (0, 0))) ∧ Hid (l.length = 5120 ∧ ∀ y ∈ l, y < 256) ∧ Hid (Below w.heap.size w wr) ∧ Hid (w2.heap.size ≤ wr.heap.size)) (fun i _ => 20 - (Go.RowKit.intOf i).toNat)
  case atStart => exact ⟨0, 0, l0, Nat.zero_le _, by decide, Nat.le_refl _, rfl, HD2, HI2, HZ2, HB2, Nat.le_refl _⟩
  case round =>
    obtain ⟨k, cc, l, hkn, hk20, hck, rfl, hdv, him, hll, hbel, hsz⟩ := hrel
    by_cases hlt : k < n ∧ k < 20
    · have hlt1 := hlt.1
      have hlt2 := hlt.2
      clear hlt
      obtain ⟨ad, rfl⟩ := pls_some hb.out (k := k) (by rw [hl.out]; exact hlt1)
      obtain ⟨⟨e0, e1, e2, e3, ⟨e4, e5, e6, e7⟩⟩, HX⟩ : ∃ p, Hid (ps.getD k P0 = p) := ⟨_, rfl⟩
      have HPW : Hid (∀ W, Below w.heap.size w W → W.cell? (ad.add (k * 8)) = some (.int .i64 e0) ∧ W.cell? ⟨(ad.add (k * 8)).block, (ad.add (k * 8)).off + 1, none⟩ = some (.int .i64 e1) ∧ W.cell? ⟨(ad.add (k * 8)).block, (ad.add (k * 8)).off + 2, none⟩ = some (.int .i64 e2) ∧ W.cell? ⟨(ad.add (k * 8)).block, (ad.add (k * 8)).off + 3, none⟩ = some (.int .i64 e3) ∧ W.cell? ⟨(ad.add (k * 8)).block, (ad.add (k * 8)).off + 4, none⟩ = some (.int .i64 e4) ∧ W.cell? ⟨(ad.add (k * 8)).block, (ad.add (k * 8)).off + 5, none⟩ = some (.int .i64 e5) ∧ W.cell? ⟨(ad.add (k * 8)).block, (ad.add (k * 8)).off + 6, none⟩ = some (.int .i64 e6) ∧ W.cell? ⟨(ad.add (k * 8)).block, (ad.add (k * 8)).off + 7, none⟩ = some (.int .i64 e7)) := fun W hW => (hb.out.below hW (Nat.le_refl _)).at k (by rw [hl.out]; exact hlt1) _ HX.out
      obtain ⟨m0, m1, m2, m3, m4, m5, m6, m7⟩ := HPW.out wr hbel.out
      by_cases hv : Pl.valid ⟨e0, e1, e2, e3, ⟨e4, e5, e6, e7⟩⟩
      · have hrg := Lg.sector_range (Lg.valid_at hv)
        simp only at hrg
        obtain ⟨x, hx⟩ : ∃ x : Nat, Lg.sector e1 e2 = (x : Int) := ⟨(Lg.sector e1 e2).toNat, by omega⟩
        have hx74 : x < 74 := by omega
        have HAX := Lib.hid (HAV.out e0 e1 e2 e3 e4 e5 e6 e7 x hv hx l cc (by omega) wr g cb mb hbel.out hdv.out)
        have HSX : Hid (∀ W, Calls Tryd.prog 9 #[.int .i64 e1, .int .i64 e2] W fun r w' => r = .returned (.int .i64 (x : Int)) ∧ w' = W) := fun W => (reflgsector_any e1 e2 W).mono fun _ _ h => ⟨by rw [← hx]; exact h.1, h.2.symm⟩
        have HVA : Hid (∀ W, Calls Tryd.prog 13 #[.agg #[.int .i64 e0, .int .i64 e1, .int .i64 e2, .int .i64 e3, .int .i64 e4, .int .i64 e5, .int .i64 e6, .int .i64 e7]] W fun r w' => r = .returned (.bool true) ∧ Below W.heap.size W w') := fun W => by
          have h := refplvalid_any e0 e1 e2 e3 e4 e5 e6 e7 W
          rwa [decide_eq_true hv] at h
        have HEN : Hid (∀ W, Calls Tryd.prog 14 #[.agg #[.int .i64 e0, .int .i64 e1, .int .i64 e2, .int .i64 e3, .int .i64 e4, .int .i64 e5, .int .i64 e6, .int .i64 e7], .int .i64 (x : Int)] W fun r w' => ∃ A3 c3, r = .returned (.slice A3 64 c3) ∧ SlIs A3 64 c3 ∧ Bs w' w'.heap.size A3 (Pl.enc (x : Int) ⟨e0, e1, e2, e3, ⟨e4, e5, e6, e7⟩⟩) ∧ Below W.heap.size W w') := fun W => refplenc_any e0 e1 e2 e3 e4 e5 e6 e7 (x : Int) W hv ⟨by omega, by omega⟩
        have HEL : Hid ((Pl.enc (x : Int) ⟨e0, e1, e2, e3, ⟨e4, e5, e6, e7⟩⟩).length = 64) := Pl.enc_length _ _
        have HELT : Hid (∀ y ∈ Pl.enc (x : Int) ⟨e0, e1, e2, e3, ⟨e4, e5, e6, e7⟩⟩, y < 256) := Pl.enc_lt _ _
        generalize hen : Pl.enc (x : Int) ⟨e0, e1, e2, e3, ⟨e4, e5, e6, e7⟩⟩ = en at *
        clear hen hv hx hrg
        have HSP : Hid (splice (vals l ++ rest) (x * 64) (vals en) = vals (putSec l x en) ++ rest) := splice_sec (n := 80) hll.out.1 HEL.out (by omega)
        have HZN : Hid ((putSec l x en).length = 5120 ∧ ∀ y ∈ putSec l x en, y < 256) := ⟨putSec_len (n := 80) hll.out.1 (by omega) HEL.out, putSec_lt hll.out.2 HELT.out⟩
        go_wp2_with fail
        refine HAX.out.mono ?_
        rintro r w5 ⟨rfl, hd5, hk5⟩
        have HB5 := Lib.hid (dev_below hbel.out HDN.out hk5)
        have HD5 := Lib.hid hd5
        have HI5 : Hid (w5.heap[gi]? = some (.cells (vals l ++ rest).toArray 5 (0, 0))) := (hk5.block gi (Array.getElem?_eq_some_iff.1 him.out).1 HGD.out.1).trans him.out
        have HS5 : Hid (w2.heap.size ≤ w5.heap.size) := Nat.le_trans hsz.out hk5.size
        clear hd5 hk5 HAX m0 m1 m2 m3 m4 m5 m6 m7
        obtain ⟨m0, m1, m2, m3, m4, m5, m6, m7⟩ := HPW.out w5 HB5.out
        go_wp2_with fail
        refine (HVA.out _).mono ?_
        rintro r w6 ⟨rfl, hb6⟩
        have HB6 := Lib.hid (HB5.out.trans (hb6.mono HB5.out.size))
        have HD6 := Lib.hid (HD5.out.on hb6)
        have HI6 : Hid (w6.heap[gi]? = some (.cells (vals l ++ rest).toArray 5 (0, 0))) := im_on HI5.out hb6
        have HS6 : Hid (w2.heap.size ≤ w6.heap.size) := Nat.le_trans HS5.out hb6.size
        clear hb6 HB5 HD5 HI5 HS5 m0 m1 m2 m3 m4 m5 m6 m7
        obtain ⟨m0, m1, m2, m3, m4, m5, m6, m7⟩ := HPW.out w6 HB6.out
        go_upto_region 10 with fail
        go_quiet (first | (go_at_call 9; refine Calls.quiet_of_same (HSX.out _)))
        have HB7 : Hid (Below w.heap.size w (w6.drewN nq).drew) := (below_drawn HB6.out nq).drew
        have HD7 : Hid (Dev (w6.drewN nq).drew g cb mb 80 (Flash.clean (putSec l x en) (cc + 1) false 0)) := HD6.out
        have HI7 : Hid ((w6.drewN nq).drew.heap[gi]? = some (.cells (vals l ++ rest).toArray 5 (0, 0))) := HI6.out
        have HS7 : Hid (w2.heap.size ≤ (w6.drewN nq).heap.size) := HS6.out
        clear HB6 HD6 HI6 HS6 m0 m1 m2 m3 m4 m5 m6 m7
        go_upto_region 11 with fail
        generalize w6.drewN nq = w7 at *
        obtain ⟨m0, m1, m2, m3, m4, m5, m6, m7⟩ := HPW.out w7.drew HB7.out
        have hww1 : IntKind.i64.wrap ((x : Int) * 64) = (x : Int) * 64 := by rw [IntKind.wrap_i64]; omega
        have hww2 : IntKind.i64.wrap ((x : Int) * 64 + 64) = (x : Int) * 64 + 64 := by rw [IntKind.wrap_i64]; omega
        have hcx : ¬ (5120 = x * 64) := by omega
        have hb1 : (0 : Int) ≤ (x : Int) * 64 := by omega
        have hb2 : (x : Int) * 64 ≤ (x : Int) * 64 + 64 := by omega
        have hb3 : (x : Int) * 64 + 64 ≤ 5120 := by omega
        have HCP : Hid (rest.length = rest.length) := rfl
        go_region_held3 (fun W => W.cell? (ad.add (k * 8)) = some (.int .i64 e0) ∧ W.cell? ⟨(ad.add (k * 8)).block, (ad.add (k * 8)).off + 1, none⟩ = some (.int .i64 e1) ∧ W.cell? ⟨(ad.add (k * 8)).block, (ad.add (k * 8)).off + 2, none⟩ = some (.int .i64 e2) ∧ W.cell? ⟨(ad.add (k * 8)).block, (ad.add (k * 8)).off + 3, none⟩ = some (.int .i64 e3) ∧ W.cell? ⟨(ad.add (k * 8)).block, (ad.add (k * 8)).off + 4, none⟩ = some (.int .i64 e4) ∧ W.cell? ⟨(ad.add (k * 8)).block, (ad.add (k * 8)).off + 5, none⟩ = some (.int .i64 e5) ∧ W.cell? ⟨(ad.add (k * 8)).block, (ad.add (k * 8)).off + 6, none⟩ = some (.int .i64 e6) ∧ W.cell? ⟨(ad.add (k * 8)).block, (ad.add (k * 8)).off + 7, none⟩ = some (.int .i64 e7))
          (first
            | (revert HC9; intro HC9; with_reducible exact HC9.out)
            | (revert HC8; intro HC8; with_reducible exact HC8.out)
            | go_keep)
          (first
            | (go_at_call 14; refine (HEN.out _).mono ?_; rintro r w8 ⟨A3, c3, rfl, hs3, hbs3, hb8⟩; have HS3 := Lib.hid hbs3; have HB8 : Hid (Below w.heap.size w w8) := HB7.out.trans (hb8.mono HB7.out.size); have HI8 : Hid (w8.heap[gi]? = some (.cells (vals l ++ rest).toArray 5 (0, 0))) := im_on HI7.out hb8; have HD8 : Hid (Dev w8 g cb mb 80 _) := HD7.out.on hb8; have HZ8 : Hid (w2.heap.size ≤ w8.heap.size) := Nat.le_trans HS7.out hb8.size; have HC8 := Lib.hid (HPW.out w8 HB8.out); clear hs3 hbs3 hb8)
            | (revert HS3; intro HS3; (refine step_copy_into rfl (.tmp 53) (.tmp 59) 28 28 rfl 5 Tryd.underlying28 (by kernel_rfl) _ A3 _ _ 64 c3 rfl rfl gi (x * 64) (vals l ++ rest) 5 HI8.out (vals en) (by rw [vals_length, HEL.out]; show 64 = min 64 (((x : Int) * 64 + 64).toNat - ((x : Int) * 64).toNat); omega) (by rw [show ((x : Int) * 64).toNat = x * 64 by omega]) (bs_cells HS3.out (by rw [HEL.out]; decide)) (by rw [List.length_append, vals_length, vals_length, HEL.out, hll.out.1]; omega) (vals_one _) ?_); intro w9 him9 hk9; have HI9 : Hid (w9.heap[gi]? = some (.cells (vals (putSec l x en) ++ rest).toArray 5 (0, 0))) := (by have h := him9.out; rw [HSP.out] at h; exact h); have HB9 : Hid (Below w.heap.size w w9) := HB8.out.trans (hk9.below HB8.out.size (fun q hq => by have := HGD.out.2.1; omega)); have HD9 : Hid (Dev w9 g cb mb 80 _) := HD8.out.block (hk9.block _ HD8.out.lt.1 (fun h => HGD.out.1 (h ▸ .inl rfl))) (hk9.block _ HD8.out.lt.2.1 (fun h => HGD.out.1 (h ▸ .inr (.inl rfl)))) (hk9.block _ HD8.out.lt.2.2 (fun h => HGD.out.1 (h ▸ .inr (.inr rfl)))); have HZ9 : Hid (w2.heap.size ≤ w9.heap.size) := Nat.le_trans HZ8.out hk9.size; have HC9 := Lib.hid (HPW.out w9 HB9.out); clear him9 hk9))
        all_goals
          have hdi := dirty_any HD9
          have hde : dirtyCount 80 (Flash.clean (putSec l x en) (cc + 1) false 0).old = 0 := clean_none 80
          rw [hde] at hdi
          have HDI := Lib.hid hdi
          clear hdi hde hww1 hww2 hb1 hb2 hb3 hcx HC9 HC8 HI8 HD8 HB8 HZ8 HS3 HEN HSP HI7 HD7 HB7 HS7
          clear m0 m1 m2 m3 m4 m5 m6 m7
          go_wp2_with fail
          refine HDI.out.mono ?_
          rintro r wa ⟨rfl, rfl⟩
          have HRX := Lib.hid (HRE.out w9.drew g cb mb (putSec l x en) (cc + 1) e1 HB9.out.drew HD9.out)
          have HRL := Lib.hid (Lg.replay_len (putSec l x en) e1)
          have HB9d : Hid (Below w.heap.size w w9.drew) := HB9.out.drew
          have HI9d : Hid (w9.drew.heap[gi]? = some (.cells (vals (putSec l x en) ++ rest).toArray 5 (0, 0))) := HI9.out
          have HD9d : Hid (Dev w9.drew g cb mb 80 (Flash.clean (putSec l x en) (cc + 1) false 0)) := HD9.out
          have HZ9d : Hid (w2.heap.size ≤ w9.drew.heap.size) := HZ9.out
          have HCM : Hid (∀ W, Below w.heap.size w W → W.cell? ⟨(ad.add (k * 8)).block, (ad.add (k * 8)).off + 1, none⟩ = some (.int .i64 e1)) := fun W hW => (HPW.out W hW).2.1
          have m1 := HCM.out w9.drew HB9d.out
          go_upto_region 14 with fail
          go_region_held3 (fun W => W.cell? ⟨(ad.add (k * 8)).block, (ad.add (k * 8)).off + 1, none⟩ = some (.int .i64 e1))
            (first
              | (revert HM12; intro HM12; with_reducible exact HM12.out)
              | (revert HM11; intro HM11; with_reducible exact HM11.out)
              | (revert HM10; intro HM10; with_reducible exact HM10.out)
              | go_keep)
            (first
              | (go_at_call 17; refine HRX.out.mono ?_; rintro r w10 ⟨v10, rfl, hr10, hb10⟩; obtain ⟨Aa, ca, rfl, hsa, hpa⟩ := hr10.open_; have HB10 := Lib.hid (HB9d.out.trans (hb10.mono HB9d.out.size)); have HM10 := Lib.hid (HCM.out w10 HB10.out); have HPA := Lib.hid (hpa.down (Nat.zero_le _)); have HI10 : Hid (w10.heap[gi]? = some (.cells (vals (putSec l x en) ++ rest).toArray 5 (0, 0))) := im_on HI9d.out hb10; have HD10 : Hid (Dev w10 g cb mb 80 _) := HD9d.out.on hb10; have HZ10 : Hid (w2.heap.size ≤ w10.heap.size) := Nat.le_trans HZ9d.out hb10.size; clear hr10 hb10 hsa hpa)
              | (go_at_call 18; revert HI10; intro HI10; refine (HRF.out w10 gi _ rest e1 HI10.out HZN.out.1 HZN.out.2).mono ?_; rintro r w11 ⟨v11, rfl, hr11, hb11⟩; obtain ⟨Ab, cb', rfl, hsb, hpb⟩ := hr11.open_; have HB11 := Lib.hid (HB10.out.trans (hb11.mono HB10.out.size)); have HM11 := Lib.hid (HCM.out w11 HB11.out); have HPA2 := Lib.hid ((HPA.out.below hb11 (Nat.le_refl _)).up hb11.size); have HPB := Lib.hid (hpb.down (Nat.zero_le _)); have HI11 : Hid (w11.heap[gi]? = some (.cells (vals (putSec l x en) ++ rest).toArray 5 (0, 0))) := im_on HI10.out hb11; have HD11 : Hid (Dev w11 g cb mb 80 _) := HD10.out.on hb11; have HZ11 : Hid (w2.heap.size ≤ w11.heap.size) := Nat.le_trans HZ10.out hb11.size; clear hr11 hb11 hsb hpb)
              | (go_at_call 16; revert HPB; intro HPB; refine (HEQ.out w11 Aa Ab ca cb' _ HRL.out HPA2.out HPB.out).mono ?_; rintro r w12 ⟨rfl, hb12⟩; have HB12 := Lib.hid (HB11.out.trans (hb12.mono HB11.out.size)); have HM12 := Lib.hid (HCM.out w12 HB12.out); have HI12 : Hid (w12.heap[gi]? = some (.cells (vals (putSec l x en) ++ rest).toArray 5 (0, 0))) := im_on HI11.out hb12; have HD12 : Hid (Dev w12 g cb mb 80 _) := HD11.out.on hb12; have HZ12 : Hid (w2.heap.size ≤ w12.heap.size) := Nat.le_trans HZ11.out hb12.size; clear hb12))
          all_goals
            go_wp2_with fail
            go_roundw
            case rel => exact ⟨k + 1, cc + 1, putSec l x en, by omega, by omega, by omega, by go_num, HD12, HI12, HZN, HB12, HZ12⟩
            case measure => simp [Go.RowKit.intOf] <;> omega
      · have HAX := Lib.hid (HAN.out e0 e1 e2 e3 e4 e5 e6 e7 hv (Flash.clean l cc false 0) (show cc < 1000000 by omega) wr g cb mb hbel.out hdv.out)
        have HVA : Hid (∀ W, Calls Tryd.prog 13 #[.agg #[.int .i64 e0, .int .i64 e1, .int .i64 e2, .int .i64 e3, .int .i64 e4, .int .i64 e5, .int .i64 e6, .int .i64 e7]] W fun r w' => r = .returned (.bool false) ∧ Below W.heap.size W w') := fun W => by
          have h := refplvalid_any e0 e1 e2 e3 e4 e5 e6 e7 W
          rwa [decide_eq_false hv] at h
        clear hv
        go_wp2_with fail
        refine HAX.out.mono ?_
        rintro r w5 ⟨rfl, hd5, hk5⟩
        have HB5 := Lib.hid (dev_below hbel.out HDN.out hk5)
        have HD5 := Lib.hid hd5
        have HI5 : Hid (w5.heap[gi]? = some (.cells (vals l ++ rest).toArray 5 (0, 0))) := (hk5.block gi (Array.getElem?_eq_some_iff.1 him.out).1 HGD.out.1).trans him.out
        have HS5 : Hid (w2.heap.size ≤ w5.heap.size) := Nat.le_trans hsz.out hk5.size
        clear hd5 hk5 HAX m0 m1 m2 m3 m4 m5 m6 m7
        obtain ⟨m0, m1, m2, m3, m4, m5, m6, m7⟩ := HPW.out w5 HB5.out
        go_wp2_with fail
        refine (HVA.out _).mono ?_
        rintro r w6 ⟨rfl, hb6⟩
        have HB6 := Lib.hid (HB5.out.trans (hb6.mono HB5.out.size))
        have HD6 := Lib.hid (HD5.out.on hb6)
        have HI6 : Hid (w6.heap[gi]? = some (.cells (vals l ++ rest).toArray 5 (0, 0))) := im_on HI5.out hb6
        have HS6 : Hid (w2.heap.size ≤ w6.heap.size) := Nat.le_trans HS5.out hb6.size
        clear hb6 HB5 HD5 HI5 HS5 m0 m1 m2 m3 m4 m5 m6 m7
        go_wp2_with fail
        go_roundw
        case rel => exact ⟨k + 1, cc, l, by omega, by omega, by omega, by go_num, HD6, HI6, hll, HB6, HS6⟩
        case measure => simp [Go.RowKit.intOf] <;> omega
    · have hstop : (k : Int) < (n : Int) → decide ((k : Int) < 20) = false := fun h => decide_eq_false (by omega)
      have HIMQ : Hid (∀ W gj cj, Bs W W.heap.size (some ⟨gj, 0, none⟩) l → W.heap[gi]? = some (.cells (vals l ++ rest).toArray 5 (0, 0)) → Calls Tryd.prog 19 #[.slice (some ⟨gj, 0, none⟩) 5120 cj, .slice (some ⟨gi, 0, none⟩) 5120 5120] W (SaysQuiet true W)) := fun W gj cj h1 h2 => by
        have h := refeq_any (some ⟨gj, 0, none⟩) (some ⟨gi, 0, none⟩) W.heap.size W.heap.size 5120 5120 cj 5120 l l W hll.out.1 hll.out.1 (by decide) (by decide) h1 (row_bs h2 hll.out.2)
        rwa [decide_eq_true rfl] at h
      have HRL := Lib.hid (Lg.replay_len l mg)
      by_cases h1 : k < n
      · have d1 : decide ((k : Int) < (n : Int)) = true := decide_eq_true (by omega)
        have d2 : decide ((k : Int) < 20) = false := decide_eq_false (by omega)
        clear hstop hlt
        go_wp2_with fail
        refine (HAW.out _ hbel.out).mono ?_
        rintro r w6 ⟨rfl, hb6⟩
        have HB6 := Lib.hid (hbel.out.trans (hb6.mono hbel.out.size))
        have HD6 := Lib.hid (hdv.out.on hb6)
        have HI6 : Hid (w6.heap[gi]? = some (.cells (vals l ++ rest).toArray 5 (0, 0))) := im_on him.out hb6
        have HMG := Lib.hid (image_any HD6)
        unfold GaveRow at HMG
        clear hb6
        go_wp2_with fail
        refine HMG.out.mono ?_
        rintro r w7 ⟨gj, cj, rfl, -, hbs7, -, -, hb7, -⟩
        have HB7 := Lib.hid (HB6.out.trans (hb7.mono HB6.out.size))
        have HD7 := Lib.hid (HD6.out.on hb7)
        have HI7 : Hid (w7.heap[gi]? = some (.cells (vals l ++ rest).toArray 5 (0, 0))) := im_on HI6.out hb7
        have HQ7 := Lib.hid (HIMQ.out w7 gj cj hbs7 HI7.out)
        unfold SaysQuiet at HQ7
        have hlc : (Flash.clean l cc false 0).cur.length = 5120 := hll.out.1
        rw [hlc]
        clear hb7 hbs7 HMG hlc
        go_wp2_with fail
        refine HQ7.out.mono ?_
        rintro r w8 ⟨rfl, kq, rfl⟩
        have HB8 : Hid (Below w.heap.size w (w7.drewN kq)) := below_drawn HB7.out kq
        have HD8 : Hid (Dev (w7.drewN kq) g cb mb 80 _) := HD7.out.drewN kq
        have HI8 : Hid ((w7.drewN kq).heap[gi]? = some (.cells (vals l ++ rest).toArray 5 (0, 0))) := HI7.out
        generalize w7.drewN kq = w8 at *
        have HR8 := Lib.hid (HRE.out w8 g cb mb l cc mg HB8.out HD8.out)
        go_wp2_with fail
        refine HR8.out.mono ?_
        rintro r w9 ⟨v9, rfl, hr9, hb9⟩
        obtain ⟨Aa, ca, rfl, hsa, hpa⟩ := hr9.open_
        have HB9 := Lib.hid (HB8.out.trans (hb9.mono HB8.out.size))
        have HI9 : Hid (w9.heap[gi]? = some (.cells (vals l ++ rest).toArray 5 (0, 0))) := im_on HI8.out hb9
        have HPA := Lib.hid (hpa.down (Nat.zero_le _))
        have HR9 := Lib.hid (HRF.out w9 gi l rest mg HI9.out hll.out.1 hll.out.2)
        clear hr9 hb9 hpa hsa
        go_wp2_with fail
        refine HR9.out.mono ?_
        rintro r w10 ⟨v10, rfl, hr10, hb10⟩
        obtain ⟨Ab, cb', rfl, hsb, hpb⟩ := hr10.open_
        have HB10 := Lib.hid (HB9.out.trans (hb10.mono HB9.out.size))
        have HEX := Lib.hid (HEQ.out w10 Aa Ab ca cb' _ HRL.out ((HPA.out.below hb10 (Nat.le_refl _)).up hb10.size) (hpb.down (Nat.zero_le _)))
        clear hr10 hb10 hpb hsb
        go_wp2_with fail
        refine HEX.out.mono ?_
        rintro r w11 ⟨rfl, hb11⟩
        have HB11 := Lib.hid (HB10.out.trans (hb11.mono HB10.out.size))
        clear hb11
        go_wp2_with fail
        go_ret
        exact ⟨rfl, HB11.out⟩
      · have d1 : decide ((k : Int) < (n : Int)) = false := decide_eq_false (by omega)
        clear hstop hlt
        go_wp2_with fail
        refine (HAW.out _ hbel.out).mono ?_
        rintro r w6 ⟨rfl, hb6⟩
        have HB6 := Lib.hid (hbel.out.trans (hb6.mono hbel.out.size))
        have HD6 := Lib.hid (hdv.out.on hb6)
        have HI6 : Hid (w6.heap[gi]? = some (.cells (vals l ++ rest).toArray 5 (0, 0))) := im_on him.out hb6
        have HMG := Lib.hid (image_any HD6)
        unfold GaveRow at HMG
        clear hb6
        go_wp2_with fail
        refine HMG.out.mono ?_
        rintro r w7 ⟨gj, cj, rfl, -, hbs7, -, -, hb7, -⟩
        have HB7 := Lib.hid (HB6.out.trans (hb7.mono HB6.out.size))
        have HD7 := Lib.hid (HD6.out.on hb7)
        have HI7 : Hid (w7.heap[gi]? = some (.cells (vals l ++ rest).toArray 5 (0, 0))) := im_on HI6.out hb7
        have HQ7 := Lib.hid (HIMQ.out w7 gj cj hbs7 HI7.out)
        unfold SaysQuiet at HQ7
        have hlc : (Flash.clean l cc false 0).cur.length = 5120 := hll.out.1
        rw [hlc]
        clear hb7 hbs7 HMG hlc
        go_wp2_with fail
        refine HQ7.out.mono ?_
        rintro r w8 ⟨rfl, kq, rfl⟩
        have HB8 : Hid (Below w.heap.size w (w7.drewN kq)) := below_drawn HB7.out kq
        have HD8 : Hid (Dev (w7.drewN kq) g cb mb 80 _) := HD7.out.drewN kq
        have HI8 : Hid ((w7.drewN kq).heap[gi]? = some (.cells (vals l ++ rest).toArray 5 (0, 0))) := HI7.out
        generalize w7.drewN kq = w8 at *
        have HR8 := Lib.hid (HRE.out w8 g cb mb l cc mg HB8.out HD8.out)
        go_wp2_with fail
        refine HR8.out.mono ?_
        rintro r w9 ⟨v9, rfl, hr9, hb9⟩
        obtain ⟨Aa, ca, rfl, hsa, hpa⟩ := hr9.open_
        have HB9 := Lib.hid (HB8.out.trans (hb9.mono HB8.out.size))
        have HI9 : Hid (w9.heap[gi]? = some (.cells (vals l ++ rest).toArray 5 (0, 0))) := im_on HI8.out hb9
        have HPA := Lib.hid (hpa.down (Nat.zero_le _))
        have HR9 := Lib.hid (HRF.out w9 gi l rest mg HI9.out hll.out.1 hll.out.2)
        clear hr9 hb9 hpa hsa
        go_wp2_with fail
        refine HR9.out.mono ?_
        rintro r w10 ⟨v10, rfl, hr10, hb10⟩
        obtain ⟨Ab, cb', rfl, hsb, hpb⟩ := hr10.open_
        have HB10 := Lib.hid (HB9.out.trans (hb10.mono HB9.out.size))
        have HEX := Lib.hid (HEQ.out w10 Aa Ab ca cb' _ HRL.out ((HPA.out.below hb10 (Nat.le_refl _)).up hb10.size) (hpb.down (Nat.zero_le _)))
        clear hr10 hb10 hpb hsb
        go_wp2_with fail
        refine HEX.out.mono ?_
        rintro r w11 ⟨rfl, hb11⟩
        have HB11 := Lib.hid (HB10.out.trans (hb11.mono HB10.out.size))
        clear hb11
        go_wp2_with fail
        go_ret
        exact ⟨rfl, HB11.out⟩
end Go.Proofs.YtpidbakjpfngnaaDoor
