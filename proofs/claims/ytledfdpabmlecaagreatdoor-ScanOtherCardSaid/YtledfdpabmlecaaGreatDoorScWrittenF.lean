/-
  The function of the laws of layer 15 that writes a region by the reference.
-/
import Derived.Test.YtledfdpabmlecaaGreatDoorFoldQ
import Derived.Test.YtledfdpabmlecaaGreatDoorFoldN
import Derived.Test.YtledfdpabmlecaaGreatDoorFoldI
import Derived.Laws.OwnMore
import Derived.Deep.DeepCutAuto
import Derived.Deep.CutBlock
set_option maxRecDepth 100000
namespace Go.Proofs.YtledfdpabmlecaaGreatDoor
open Go.RowKit
theorem results_row121 {P : Program} {fn : Func} {p u v : Tmp} {ty : TypeId} (h : fn.results = #[.tmp u, .cell p ty, .tmp v]) (tmps : Array Value) (w : World) (g : Nat) (t : TypeId) (cs : Array Value) (fr : Nat × Nat) (d : TypeDesc)
    (hp : tmps.getD p undef = .pointer (some ⟨g, 0, none⟩)) (hg : w.heap[g]? = some (.cells cs t fr))
    (hu : P.underlying ty = some d) (hd : (match d with | .struct _ | .array _ _ => true | _ => false) = true) (hi : (P.info? ty).map (·.size) = some cs.size) :
    (results fn tmps).run P w = .ok (.tuple #[tmps.getD u undef, .agg cs, tmps.getD v undef]) w := by
  have hp' : tmps[p]?.getD undef = .pointer (some ⟨g, 0, none⟩) := by simpa using hp
  simp [results, h, hp', asAddr, run_loadVar_row w g t ty cs fr d hg hu hd hi, Result.andThen]
theorem row_cells {w : World} {g : Nat} {xs ys : List Value} {t : TypeId} (h : w.heap[g]? = some (.cells (xs ++ ys).toArray t (0, 0))) : ∀ j u, xs[j]? = some u → w.cell? ((⟨g, 0, none⟩ : Addr).add j) = some u := fun j u hu => by
  rw [arr_flat, Nat.zero_add, cell_of_row _ _ j _ _ _ h, List.getElem?_toArray, List.getElem?_append_left (List.getElem?_eq_some_iff.1 hu).1]; exact hu
/-- The reference's region that is being written, the boxes of the layout and of the result. -/
structure ScH (W wr : World) (c : Nat → Nat) (r gd od vd td n lo : Nat) (ver : Int) (rs gp ql qr : Nat) (f : Flash) (st : List Nat) (q : Nat) : Prop where
  g : StH W wr c r gd od vd td n lo f 3 ver (rs : Int) 4 ver 1 3 9 2 0 gp st (Pk.full st)
  h : Sc.Holds ⟨3, ver, (rs : Int), 4⟩ 1 9 (Hd.enc (Gm.spot ⟨3, ver, (rs : Int), 4⟩ 1) ⟨ver, 1, 3, 9, 2, 0⟩) st q n f
  w : f.wr = 1 + Pk.full st
  ok : FlashOk n f
  lay : Free c wr ql (.cells #[.int .i64 3, .int .i64 ver, .int .i64 (rs : Int), .int .i64 4] 29 (0, 0))
  res : Free c wr qr (.cells #[.int .i64 0, .int .i64 0, .int .i64 0, .int .i64 0] 29 (0, 0))
section
variable {W : World} {wr wr' : World} {c c' : Nat → Nat} {r gd od vd td n lo lo' : Nat} {ver : Int} {rs gp ql qr : Nat} {f f' : Flash} {st st' : List Nat} {q q' : Nat}
theorem ScH.fit (h : ScH W wr c r gd od vd td n lo ver rs gp ql qr f st q) : Pk.Fit ⟨3, ver, (rs : Int), 4⟩ 1 9 st (Pk.full st) := h.h.fit
theorem ScH.few (h : ScH W wr c r gd od vd td n lo ver rs gp ql qr f st q) : f.wr < 4000000000000000000 := by
  have h1 := h.w
  have h2 := Pk.full_le h.fit
  omega
theorem ScH.new (h : ScH W wr c r gd od vd td n lo ver rs gp ql qr f st q) (hb : Below wr.heap.size wr wr') : ScH W wr' c r gd od vd td n lo ver rs gp ql qr f st q :=
  { g := h.g.new hb, h := h.h, w := h.w, ok := h.ok, lay := h.lay.new hb, res := h.res.new hb }
theorem ScH.put (h : ScH W wr c r gd od vd td n lo ver rs gp ql qr f st q) (rc : Rc.Rec) (h1 : ∀ x ∈ rc.key, x < 256) (h2 : ∀ x ∈ rc.val, x < 256) (hk : Went c c' wr wr') (hg : StH W wr' c' r gd od vd td n lo' (Rg.after ⟨3, ver, (rs : Int), 4⟩ 1 9 f n st (Pk.put ⟨3, ver, (rs : Int), 4⟩ 9 st rc)).1 3 ver (rs : Int) 4 ver 1 3 9 2 0 gp (Pk.put ⟨3, ver, (rs : Int), 4⟩ 9 st rc) (Pk.full (Pk.put ⟨3, ver, (rs : Int), 4⟩ 9 st rc))) :
    ScH W wr' c' r gd od vd td n lo' ver rs gp ql qr (Rg.after ⟨3, ver, (rs : Int), 4⟩ 1 9 f n st (Pk.put ⟨3, ver, (rs : Int), 4⟩ 9 st rc)).1 (Pk.put ⟨3, ver, (rs : Int), 4⟩ 9 st rc) q := by
  have hf := (h.fit.put rc h1 h2).take (i := Pk.full (Pk.put ⟨3, ver, (rs : Int), 4⟩ 9 st rc)) (Nat.le_refl _)
  obtain ⟨e1, e2⟩ := h.h.after (Pk.put_more _ _ _ _) hf
  have hle := Rg.full_put ⟨3, ver, (rs : Int), 4⟩ 9 st rc
  have hp := Rg.after_plain (n := n) (fs := f) (st := st) h.h.plain hf h.h.room hle
  exact { g := hg, h := e2, w := by rw [hp.2.2, h.w]; omega, ok := h.ok.after hf, lay := h.lay.went hk, res := h.res.went hk }
theorem ScH.sync (h : ScH W wr c r gd od vd td n lo ver rs gp ql qr f st q) (hk : Went c c' wr wr') (hg : StH W wr' c' r gd od vd td n lo' (Rg.syncFs (Rg.after ⟨3, ver, (rs : Int), 4⟩ 1 9 f n st (Pk.pad st))) 3 ver (rs : Int) 4 ver 1 3 9 2 0 gp (Pk.pad st) (Pk.full (Pk.pad st))) :
    ScH W wr' c' r gd od vd td n lo' ver rs gp ql qr (Rg.syncFs (Rg.after ⟨3, ver, (rs : Int), 4⟩ 1 9 f n st (Pk.pad st))) (Pk.pad st) (Pk.full (Pk.pad st)) := by
  obtain ⟨e1, e2⟩ := h.h.syncd
  have hf := h.fit.pad.take (i := Pk.full (Pk.pad st)) (Nat.le_refl _)
  have hle := Rg.full_pad st
  have hp := Rg.after_plain (n := n) (fs := f) (st := st) h.h.plain hf h.h.room hle
  have hs := Rg.sync_plain hp.1 hp.2.1
  have ho : FlashOk n (Rg.syncFs (Rg.after ⟨3, ver, (rs : Int), 4⟩ 1 9 f n st (Pk.pad st))) := by
    unfold Rg.syncFs
    rw [if_pos hp.1]
    exact (h.ok.after hf).barrier
  exact { g := hg, h := e2, w := by rw [hs.2.2.1, hp.2.2, h.w]; omega, ok := ho, lay := h.lay.went hk, res := h.res.went hk }
theorem ScH.low (h : ScH W wr c r gd od vd td n lo ver rs gp ql qr f st q) (hrs : rs ≤ 16) : Pk.full st ≤ 15 := by
  have := (Sc.full_rs h.fit).1
  simp only at this
  omega
end
/-- What Written returns. -/
def WrIs (w : World) (ver : Int) (rs : Nat) (P : Prop) (e : Ending) (w' : World) : Prop :=
  ∃ ga N cp img, e = .returned (.tuple #[.slice (some ⟨ga, 0, none⟩) N cp, .agg #[.int .i64 3, .int .i64 ver, .int .i64 (rs : Int), .int .i64 4], .int .i64 9]) ∧ N = (74 + 4 * rs) * 64 ∧ (N ≤ cp ∧ cp ≤ 9223372036854775807) ∧ img.length = N ∧ Bs w' w'.heap.size (some ⟨ga, 0, none⟩) img ∧ Below w.heap.size w w' ∧ (P → ∃ st q f, Sc.Holds ⟨3, ver, (rs : Int), 4⟩ 1 9 (Hd.enc (Gm.spot ⟨3, ver, (rs : Int), 4⟩ 1) ⟨ver, 1, 3, 9, 2, 0⟩) st q (74 + 4 * rs) f ∧ img = f.cur)
set_option maxHeartbeats 4000000 in
theorem written_nil (xv xg : Int) (A1 A2 : Option Addr) (n1 n2 c1 c2 : Nat) (l1 : List Rd) (l2 : List Bool) (w : World) (hl1 : Hid (l1.length = n1)) (hb1 : Hid (RecsAt w w.heap.size A1 l1)) (hl2 : Hid (l2.length = n2)) (hb2 : Hid (Arr boolS w 0 w.heap.size A2 l2)) :
    ∃ (ver : Int) (rs : Nat), Small ver rs ∧ Calls Tryz.prog 6 #[.int .i64 xv, .int .i64 xg, .slice A1 n1 c1, .slice A2 n2 c2, .slice none 0 0] w (WrIs w ver rs True) := by
  obtain ⟨ver, rs, hsm, hlay⟩ := rglayout_any xv xg
  refine ⟨ver, rs, hsm, ?_⟩
  have HSM := Lib.hid hsm
  have HLAY := Lib.hid hlay
  have HRS : Hid (rs ≤ 16 ∧ 2 ≤ rs) := by have := hsm.2; show _ ∧ _; omega
  obtain ⟨n, hn⟩ : ∃ n : Nat, n = 74 + 4 * rs := ⟨_, rfl⟩
  have HN := Lib.hid hn
  have hnb : n ≤ 138 := by have := HRS.out; omega
  have m1 : wrap64 (4 * (rs : Int)) = 4 * (rs : Int) := by have := HRS.out; unfold wrap64; omega
  have m2 : wrap64 (74 + 4 * (rs : Int)) = 74 + 4 * (rs : Int) := by have := HRS.out; unfold wrap64; omega
  have HNEW : Hid (∀ W, Calls Tryz.prog 21 #[.int .i64 (74 + 4 * (rs : Int))] W (RMade W n (List.replicate (n * 64) 0))) := fun W => by
    have h := blank_any n W (by have := HN.out; omega) (by omega)
    rwa [show (n : Int) = 74 + 4 * (rs : Int) by rw [HN.out]; omega] at h
  unfold RMade at HNEW
  have hok : Pk.ok ⟨3, ver, (rs : Int), 4⟩ 1 9 := hsm.ok4 (by decide) (by decide) (by decide) (by decide)
  have HOK := Lib.hid hok
  have HVAL : Hid (Hd.valid ⟨ver, 1, 3, 9, 2, 0⟩) := ⟨hsm.1, (by show (0 : Int) ≤ 1 ∧ (1 : Int) ≤ 15; decide), (by show (1 : Int) ≤ 3 ∧ (3 : Int) ≤ 4294967295; decide), (by show (1 : Int) ≤ 9 ∧ (9 : Int) ≤ 281474976710655; decide), (by show (0 : Int) ≤ 2 ∧ (2 : Int) ≤ 9; decide), (by show (0 : Int) ≤ 0 ∧ (0 : Int) ≤ 549755813888; decide)⟩
  have HPL : Hid ((Rg.begun (Flash.fresh (List.replicate (n * 64) 0)) n (Gm.spot ⟨3, ver, (rs : Int), 4⟩ 1) (Hd.enc (Gm.spot ⟨3, ver, (rs : Int), 4⟩ 1) ⟨ver, 1, 3, 9, 2, 0⟩)).2 = 0 ∧ Sc.Holds ⟨3, ver, (rs : Int), 4⟩ 1 9 (Hd.enc (Gm.spot ⟨3, ver, (rs : Int), 4⟩ 1) ⟨ver, 1, 3, 9, 2, 0⟩) [] 0 n (Rg.begun (Flash.fresh (List.replicate (n * 64) 0)) n (Gm.spot ⟨3, ver, (rs : Int), 4⟩ 1) (Hd.enc (Gm.spot ⟨3, ver, (rs : Int), 4⟩ 1) ⟨ver, 1, 3, 9, 2, 0⟩)).1) :=
    Sc.holds_begun hok (by show 74 + 1 * (rs : Int) + (rs : Int) ≤ (n : Int); rw [HN.out]; omega) (Hd.enc_length _ _)
  have HWR1 : Hid ((Rg.begun (Flash.fresh (List.replicate (n * 64) 0)) n (Gm.spot ⟨3, ver, (rs : Int), 4⟩ 1) (Hd.enc (Gm.spot ⟨3, ver, (rs : Int), 4⟩ 1) ⟨ver, 1, 3, 9, 2, 0⟩)).1.wr = 1) := (Rg.begun_plain (plain_fresh (List.replicate (n * 64) 0)) (n := n) (by show 0 ≤ 74 + 1 * (rs : Int) ∧ 74 + 1 * (rs : Int) < (n : Int); rw [HN.out]; have := HRS.out; omega) (by rw [Hd.enc_length]; decide)).2.2.1
  have HFO : Hid (FlashOk n (Flash.fresh (List.replicate (n * 64) 0))) := ⟨by have := HN.out; omega, by omega, List.length_replicate, fun x hx => by rw [(List.mem_replicate.1 hx).2]; decide, fun i l h => (by cases h), fun h => (by cases h)⟩
  have HFO1 : Hid (FlashOk n (Rg.begun (Flash.fresh (List.replicate (n * 64) 0)) n (Gm.spot ⟨3, ver, (rs : Int), 4⟩ 1) (Hd.enc (Gm.spot ⟨3, ver, (rs : Int), 4⟩ 1) ⟨ver, 1, 3, 9, 2, 0⟩)).1) := by
    show FlashOk n (Rg.syncFs _)
    unfold Rg.syncFs
    have h1 : FlashOk n ((Flash.fresh (List.replicate (n * 64) 0)).write n (Gm.spot ⟨3, ver, (rs : Int), 4⟩ 1) (Hd.enc (Gm.spot ⟨3, ver, (rs : Int), 4⟩ 1) ⟨ver, 1, 3, 9, 2, 0⟩)) := HFO.out.write (Hd.enc_lt _ _)
    split
    · exact h1.barrier
    · exact h1
  have HN2 : Hid (True → True) := fun h => h
  clear hsm hlay hn hok
  have HX0 := Lib.hid (heap_alloc_new w (.cells #[.int .i64 0, .int .i64 0, .int .i64 0, .int .i64 0] 29))
  have HB0 : Hid (Below w.heap.size w (w.alloc (.cells #[.int .i64 0, .int .i64 0, .int .i64 0, .int .i64 0] 29))) := (Below.refl _ w).alloc (Nat.le_refl _) _
  go_enter Tryz.func6, Tryz.ntmps6
  go_upto_region 1 with fail
  generalize w.alloc (.cells #[.int .i64 0, .int .i64 0, .int .i64 0, .int .i64 0] 29) = w0 at *
  go_wp2_with fail
  refine (HLAY.out _).mono ?_
  rintro e w2 ⟨rfl, hb2w⟩
  have HB2 := Lib.hid (HB0.out.trans (hb2w.mono HB0.out.size))
  have HX2 := Lib.hid ((hb2w.block _ (Array.getElem?_eq_some_iff.1 HX0.out).1).trans HX0.out)
  clear hb2w HLAY HX0 HB0
  go_upto_region 2 with fail
  have HX3 := Lib.hid (heap_alloc_new w2 (.cells #[.int .i64 3, .int .i64 ver, .int .i64 (rs : Int), .int .i64 4] 29))
  have HB3 : Hid (Below w.heap.size w (w2.alloc (.cells #[.int .i64 3, .int .i64 ver, .int .i64 (rs : Int), .int .i64 4] 29))) := HB2.out.alloc HB2.out.size _
  have HR3 := Lib.hid ((heap_alloc_old w2 (.cells #[.int .i64 3, .int .i64 ver, .int .i64 (rs : Int), .int .i64 4] 29) (Array.getElem?_eq_some_iff.1 HX2.out).1).trans HX2.out)
  clear HX2
  generalize w2.alloc (.cells #[.int .i64 3, .int .i64 ver, .int .i64 (rs : Int), .int .i64 4] 29) = w2a at *
  generalize w2.heap.size = q3 at *
  obtain ⟨z0, z1, z2, z3⟩ := four_cells HX3.out
  go_wp2_with fail
  refine (HNEW.out _).mono ?_
  rintro e w3 ⟨gd, od, vd, td, rfl, hd3, hg3, ho3, hv3, ht3, hb3⟩
  have HX4 := Lib.hid ((hb3.block q3 (Array.getElem?_eq_some_iff.1 HX3.out).1).trans HX3.out)
  have HR4 := Lib.hid ((hb3.block w.heap.size (Array.getElem?_eq_some_iff.1 HR3.out).1).trans HR3.out)
  have HB4 := Lib.hid (HB3.out.trans (hb3.mono HB3.out.size))
  have HD3 := Lib.hid hd3
  have HFAR : Hid (∀ k, rS gd od vd td k → w2a.heap.size ≤ k) := fun k hk => by
    unfold rS at hk
    omega
  have HNW : Hid (∀ k, rS gd od vd td k → w.heap.size ≤ k) := fun k hk => Nat.le_trans HB3.out.size (HFAR.out k hk)
  have HQ3 : Hid (q3 < w2a.heap.size ∧ w.heap.size < w2a.heap.size ∧ w2a.heap.size ≤ w3.heap.size) := ⟨(Array.getElem?_eq_some_iff.1 HX3.out).1, (Array.getElem?_eq_some_iff.1 HR3.out).1, hb3.size⟩
  clear hb3 hd3 hg3 ho3 hv3 ht3 HNEW HB3 HX3 HR3 z0 z1 z2 z3 m1 m2
  obtain ⟨z0, z1, z2, z3⟩ := four_cells HX4.out
  go_wp2_with fail
  refine (refrgopen_any (W := w) 3 ver (rs : Int) 4 ver 1 3 9 2 0 HVAL.out HOK.out HB4 HNW HD3 HFO (by decide) (by show 0 < _; decide)).mono ?_
  intro e w4 ho
  rcases ho with ⟨h, -⟩ | ⟨-, r, gp, cl, rfl, hst, hk4, hcl⟩
  · exact absurd HPL.out.1 h
  have HFREE : Hid (∀ b, b < w2a.heap.size → cl b = 0 ∧ (∀ o, w3.heap[b]? = some o → w4.heap[b]? = some o)) := fun b hb => ⟨Decidable.byContradiction fun hc => by
    rcases hcl b hc with h | h
    · have := HFAR.out b h; omega
    · have := HQ3.out; omega, fun o ho => (hk4.block b (by have := HQ3.out; omega) fun e => by have := HFAR.out b e; omega).trans ho⟩
  have HLY4 : Hid (Free cl w4 q3 (.cells #[.int .i64 3, .int .i64 ver, .int .i64 (rs : Int), .int .i64 4] 29 (0, 0))) := ⟨(HFREE.out q3 HQ3.out.1).2 _ HX4.out, (HFREE.out q3 HQ3.out.1).1⟩
  have HRE4 : Hid (Free cl w4 w.heap.size (.cells #[.int .i64 0, .int .i64 0, .int .i64 0, .int .i64 0] 29 (0, 0))) := ⟨(HFREE.out _ HQ3.out.2.1).2 _ HR4.out, (HFREE.out _ HQ3.out.2.1).1⟩
  generalize (Rg.begun (Flash.fresh (List.replicate (n * 64) 0)) n (Gm.spot ⟨3, ver, (rs : Int), 4⟩ 1) (Hd.enc (Gm.spot ⟨3, ver, (rs : Int), 4⟩ 1) ⟨ver, 1, 3, 9, 2, 0⟩)) = R at *
  obtain ⟨f1, x1⟩ := R
  simp only at hst
  have HST4 : Hid (ScH w w4 cl r gd od vd td n (0 + 2) ver rs gp q3 w.heap.size f1 [] 0) :=
    { g := hst, h := HPL.out.2, w := HWR1.out, ok := HFO1.out, lay := HLY4.out, res := HRE4.out }
  clear hst HPL HWR1 z0 z1 z2 z3 HX4 HR4 HD3 hk4 hcl HB4 HNW HQ3 HFREE HLY4 HRE4 HFAR HFO HFO1 HB2
  go_wp2_with fail
  go_loopw [17] (fun iv wr => ∃ (i : Nat) (st : List Nat) (f : Flash) (c : Nat → Nat) (q lo : Nat), iv = .int .i64 (i : Int) ∧ i ≤ 12 ∧ Hid (lo ≤ 2 + Pk.full st + i) ∧ Hid (ScH w wr c r gd od vd td n lo ver rs gp q3 w.heap.size f st q)) (fun i _ => 12 - (Go.RowKit.intOf i).toNat)
  case atStart => exact ⟨0, [], f1, cl, 0, 2, rfl, by decide, by show 2 ≤ 2 + 0 + 0; decide, HST4.out⟩
  case round =>
    clear HST4
    obtain ⟨i, st, f, c, q, lo, rfl, hi12, HLO, HST⟩ := hrel
    rcases loop_ways i n1 12 12 rfl with ⟨t1, t1'⟩ | ⟨t1, t1', t3⟩ | ⟨hin, hi, t1, t1', t3⟩
    · obtain ⟨ro, rv, left, hh, ho, hv, ht, hf, hlo1, hhi, hr1, hr2, hr3⟩ := HST.out.g.d
      obtain ⟨⟨-, y1, -⟩, -⟩ := rd7 hh
      have HCUR : Hid (f.cur.length = n * 64) := HST.out.h.len
      have HCLT : Hid (∀ x ∈ f.cur, x < 256) := HST.out.ok.lt
      have HVR := Lib.hid hv
      obtain ⟨i0, hi0, hz0, hz1, hz2⟩ := info_parts info_u8
      have I0 := Lib.hid (And.intro hi0 (And.intro hz0 (And.intro hz1 hz2)))
      have HNB : Hid (0 + n * 64 ≤ maxLen ∧ (0 + n * 64) * 1 ≤ 140737488355328) := by unfold Hid maxLen; omega
      clear hh ho hv ht hf hlo1 hhi hr1 hr2 hr3 hi0 hz0 hz1 hz2
      go_wp2_with (at_builtin; refine append_onto rfl (.const (.slice none 0 0)) (.tmp 77) 27 rfl wr.heap.size 5 i0 (.int .u8 0) 1 1 Tryz.underlying27 I0.out.1 I0.out.2.1 I0.out.2.2.1 I0.out.2.2.2 rfl (by decide) _ 0 (vals []) rfl (World.ownsRow_nil _ _ _ _) (some ⟨vd, 0, none⟩) (n * 64) (n * 64 + rv.length) (vals f.cur) rfl (fun e => by cases e) (by rw [vals_length, HCUR.out]; omega) (fun ad e => by injection e with e; subst e; exact row_cells HVR.out) (vals_one _) HNB.out.1 HNB.out.2 (Nat.le_refl _) ?_; intro v6 w6 hown6 hg6; have HO6 := Lib.hid hown6; have HG6 := Lib.hid hg6; clear hown6 hg6)
      have HO7 : Hid (w6.ownsRow wr.heap.size 5 1 v6 (n * 64) (vals f.cur)) := by
        have h := HO6.out
        rw [Nat.zero_add] at h
        exact h
      obtain ⟨A6, cp, rfl, -, -, hn6, hm6, hA6⟩ := own_bytes HO7.out HCLT.out
      obtain ⟨ga, rfl⟩ : ∃ ga, A6 = some ⟨ga, 0, none⟩ := by
        rcases hA6 with ⟨-, h, -⟩ | ⟨ga, h, -⟩
        · have := HN.out; omega
        · exact ⟨ga, h⟩
      have HCP : Hid (n * 64 ≤ cp ∧ cp ≤ 9223372036854775807) := ⟨hn6, by unfold maxLen at hm6; exact hm6⟩
      have HB6 : Hid (Below wr.heap.size wr w6) := (Below.refl _ wr).grown HG6.out (Nat.le_refl _) fun g e => by cases e
      have HLY := Lib.hid HST.out.lay.1
      have HRE := Lib.hid HST.out.res.1
      have HUP := Lib.hid HST.out.g.up
      have HHO := Lib.hid HST.out.h
      clear hn6 hm6 hA6 HO6 HG6 HVR y1 HNB I0
      go_loopw [19] (fun jv wx => ∃ (img : List Nat), jv = .int .i64 0 ∧ img.length = n * 64 ∧ Hid (∀ x ∈ img, x < 256) ∧ Hid (wx.ownsRow wr.heap.size 5 1 (.slice (some ⟨ga, 0, none⟩) (n * 64) cp) (n * 64) (vals img)) ∧ Hid (Below wr.heap.size wr wx) ∧ Hid (True → img = f.cur)) (fun _ _ => 0)
      case atStart => exact ⟨f.cur, rfl, HCUR.out, HCLT.out, HO7.out, HB6.out, fun _ => rfl⟩
      case round =>
        rename World => wx
        obtain ⟨img, rfl, hil, HIB, HIO, HBX, HPL⟩ := hrel
        clear HO7 HB6 HST
        have HLYX := Lib.hid ((HBX.out.block q3 (Array.getElem?_eq_some_iff.1 HLY.out).1).trans HLY.out)
        have HREX := Lib.hid ((HBX.out.block w.heap.size (Array.getElem?_eq_some_iff.1 HRE.out).1).trans HRE.out)
        obtain ⟨z0, z1, z2, z3⟩ := four_cells HLYX.out
        obtain ⟨y0, y1, y2, y3⟩ := four_cells HREX.out
        obtain ⟨g0, g1, g2, g3⟩ := four_frozen HREX.out
        have HLT : Hid (w.heap.size < wr.heap.size) := (Array.getElem?_eq_some_iff.1 HRE.out).1
        go_wp2_with fail
        go_region
        go_wp2_with fail
        (try simp only [Exit.inBlock, Exit.then])
        refine bodyPost_ret (results_row121 rfl _ _ w.heap.size _ _ (0, 0) _ rfl (stored HREX.out) Tryz.underlying29 rfl (by kernel_rfl)) rfl ?_
        have HOZ := ownsRow_setCell_below (ownsRow_setCell_below (ownsRow_setCell_below (ownsRow_setCell_below HIO.out (a := ⟨w.heap.size, 0, none⟩) HLT.out (.int .i64 3)) (a := ⟨w.heap.size, 1, none⟩) HLT.out (.int .i64 ver)) (a := ⟨w.heap.size, 2, none⟩) HLT.out (.int .i64 (rs : Int))) (a := ⟨w.heap.size, 3, none⟩) HLT.out (.int .i64 4)
        obtain ⟨A9, cp9, hv9, hbs9, -⟩ := own_bytes HOZ HIB.out
        injection hv9 with hv1 _ hv3
        subst hv1 hv3
        exact ⟨ga, n * 64, cp, img, rfl, by rw [HN.out], HCP.out, hil, hbs9, below_drawn ((HUP.out.trans (HBX.out.mono HUP.out.size)).trans (below_of_grown (stored_grown _ _ _ _ _ _) (Nat.le_refl _) (Nat.le_trans HUP.out.size HBX.out.size))) 1, fun h => ⟨st, q, f, by rw [← HN.out]; exact HHO.out, HPL.out h⟩⟩
    · obtain ⟨ro, rv, left, hh, ho, hv, ht, hf, hlo1, hhi, hr1, hr2, hr3⟩ := HST.out.g.d
      obtain ⟨⟨-, y1, -⟩, -⟩ := rd7 hh
      have HCUR : Hid (f.cur.length = n * 64) := HST.out.h.len
      have HCLT : Hid (∀ x ∈ f.cur, x < 256) := HST.out.ok.lt
      have HVR := Lib.hid hv
      obtain ⟨i0, hi0, hz0, hz1, hz2⟩ := info_parts info_u8
      have I0 := Lib.hid (And.intro hi0 (And.intro hz0 (And.intro hz1 hz2)))
      have HNB : Hid (0 + n * 64 ≤ maxLen ∧ (0 + n * 64) * 1 ≤ 140737488355328) := by unfold Hid maxLen; omega
      clear hh ho hv ht hf hlo1 hhi hr1 hr2 hr3 hi0 hz0 hz1 hz2
      go_wp2_with (at_builtin; refine append_onto rfl (.const (.slice none 0 0)) (.tmp 77) 27 rfl wr.heap.size 5 i0 (.int .u8 0) 1 1 Tryz.underlying27 I0.out.1 I0.out.2.1 I0.out.2.2.1 I0.out.2.2.2 rfl (by decide) _ 0 (vals []) rfl (World.ownsRow_nil _ _ _ _) (some ⟨vd, 0, none⟩) (n * 64) (n * 64 + rv.length) (vals f.cur) rfl (fun e => by cases e) (by rw [vals_length, HCUR.out]; omega) (fun ad e => by injection e with e; subst e; exact row_cells HVR.out) (vals_one _) HNB.out.1 HNB.out.2 (Nat.le_refl _) ?_; intro v6 w6 hown6 hg6; have HO6 := Lib.hid hown6; have HG6 := Lib.hid hg6; clear hown6 hg6)
      have HO7 : Hid (w6.ownsRow wr.heap.size 5 1 v6 (n * 64) (vals f.cur)) := by
        have h := HO6.out
        rw [Nat.zero_add] at h
        exact h
      obtain ⟨A6, cp, rfl, -, -, hn6, hm6, hA6⟩ := own_bytes HO7.out HCLT.out
      obtain ⟨ga, rfl⟩ : ∃ ga, A6 = some ⟨ga, 0, none⟩ := by
        rcases hA6 with ⟨-, h, -⟩ | ⟨ga, h, -⟩
        · have := HN.out; omega
        · exact ⟨ga, h⟩
      have HCP : Hid (n * 64 ≤ cp ∧ cp ≤ 9223372036854775807) := ⟨hn6, by unfold maxLen at hm6; exact hm6⟩
      have HB6 : Hid (Below wr.heap.size wr w6) := (Below.refl _ wr).grown HG6.out (Nat.le_refl _) fun g e => by cases e
      have HLY := Lib.hid HST.out.lay.1
      have HRE := Lib.hid HST.out.res.1
      have HUP := Lib.hid HST.out.g.up
      have HHO := Lib.hid HST.out.h
      clear hn6 hm6 hA6 HO6 HG6 HVR y1 HNB I0
      go_loopw [19] (fun jv wx => ∃ (img : List Nat), jv = .int .i64 0 ∧ img.length = n * 64 ∧ Hid (∀ x ∈ img, x < 256) ∧ Hid (wx.ownsRow wr.heap.size 5 1 (.slice (some ⟨ga, 0, none⟩) (n * 64) cp) (n * 64) (vals img)) ∧ Hid (Below wr.heap.size wr wx) ∧ Hid (True → img = f.cur)) (fun _ _ => 0)
      case atStart => exact ⟨f.cur, rfl, HCUR.out, HCLT.out, HO7.out, HB6.out, fun _ => rfl⟩
      case round =>
        rename World => wx
        obtain ⟨img, rfl, hil, HIB, HIO, HBX, HPL⟩ := hrel
        clear HO7 HB6 HST
        have HLYX := Lib.hid ((HBX.out.block q3 (Array.getElem?_eq_some_iff.1 HLY.out).1).trans HLY.out)
        have HREX := Lib.hid ((HBX.out.block w.heap.size (Array.getElem?_eq_some_iff.1 HRE.out).1).trans HRE.out)
        obtain ⟨z0, z1, z2, z3⟩ := four_cells HLYX.out
        obtain ⟨y0, y1, y2, y3⟩ := four_cells HREX.out
        obtain ⟨g0, g1, g2, g3⟩ := four_frozen HREX.out
        have HLT : Hid (w.heap.size < wr.heap.size) := (Array.getElem?_eq_some_iff.1 HRE.out).1
        go_wp2_with fail
        go_region
        go_wp2_with fail
        (try simp only [Exit.inBlock, Exit.then])
        refine bodyPost_ret (results_row121 rfl _ _ w.heap.size _ _ (0, 0) _ rfl (stored HREX.out) Tryz.underlying29 rfl (by kernel_rfl)) rfl ?_
        have HOZ := ownsRow_setCell_below (ownsRow_setCell_below (ownsRow_setCell_below (ownsRow_setCell_below HIO.out (a := ⟨w.heap.size, 0, none⟩) HLT.out (.int .i64 3)) (a := ⟨w.heap.size, 1, none⟩) HLT.out (.int .i64 ver)) (a := ⟨w.heap.size, 2, none⟩) HLT.out (.int .i64 (rs : Int))) (a := ⟨w.heap.size, 3, none⟩) HLT.out (.int .i64 4)
        obtain ⟨A9, cp9, hv9, hbs9, -⟩ := own_bytes HOZ HIB.out
        injection hv9 with hv1 _ hv3
        subst hv1 hv3
        exact ⟨ga, n * 64, cp, img, rfl, by rw [HN.out], HCP.out, hil, hbs9, below_drawn ((HUP.out.trans (HBX.out.mono HUP.out.size)).trans (below_of_grown (stored_grown _ _ _ _ _ _) (Nat.le_refl _) (Nat.le_trans HUP.out.size HBX.out.size))) 1, fun h => ⟨st, q, f, by rw [← HN.out]; exact HHO.out, HPL.out h⟩⟩
    · obtain ⟨ad, hA⟩ := hb1.out.1.some (k := i) (by rw [hl1.out]; exact hin)
      subst hA
      have hca := hb1.out.1.below HST.out.g.up (Nat.le_refl _)
      obtain ⟨o, ho⟩ : ∃ o, l1.getD i Rd0 = o := ⟨_, rfl⟩
      obtain ⟨e0, e1, e2, e3⟩ := recs_at hca i (by rw [hl1.out]; exact hin) o ho
      have HR0 := Lib.hid (hb1.out.2 i (by rw [hl1.out]; exact hin))
      rw [ho] at HR0
      have hib : (i : Int) < 12 := by omega
      have hib2 : (i : Int) < (n1 : Int) := by omega
      clear hca ho
      go_wp2_with fail
      refine (shortrec_any o _ ⟨HR0.out.1.1, HR0.out.2.1⟩).mono ?_
      rintro e w5 ⟨rfl, hb5⟩
      have HST5 := Lib.hid (HST.out.new hb5)
      have HRS5 := Lib.hid (Rd.here.short HR0.out)
      have HSMA : Hid (o.short.n1 ≤ 140737488355328 ∧ o.short.n2 ≤ 140737488355328) := by show min _ _ ≤ _ ∧ min _ _ ≤ _; omega
      clear hb5 e0 e1 e2 e3 HR0 HST
      generalize o.short = s at *
      have HRI : Hid (RecIn w5 w.heap.size s.A1 s.A2 s.n1 s.c1 s.n2 s.c2 s.key s.val) := Rd.here.below HRS5.out HST5.out.g.up (Nat.le_refl _)
      have HLOW : Hid (lo + (Pk.full (Pk.put ⟨3, ver, (rs : Int), 4⟩ 9 st (⟨s.kd, s.key, s.val, s.x⟩ : Rc.Rec)) - Pk.full st) ≤ 1000 ∧ lo + (Pk.full (Pk.put ⟨3, ver, (rs : Int), 4⟩ 9 st (⟨s.kd, s.key, s.val, s.x⟩ : Rc.Rec)) - Pk.full st) ≤ 2 + Pk.full (Pk.put ⟨3, ver, (rs : Int), 4⟩ 9 st (⟨s.kd, s.key, s.val, s.x⟩ : Rc.Rec)) + i) := by
        have h1 := (Sc.full_rs ((HST5.out.fit.put (⟨s.kd, s.key, s.val, s.x⟩ : Rc.Rec) (Rd.here.lt HRS5.out).1 (Rd.here.lt HRS5.out).2).take (i := Pk.full (Pk.put ⟨3, ver, (rs : Int), 4⟩ 9 st (⟨s.kd, s.key, s.val, s.x⟩ : Rc.Rec))) (Nat.le_refl _))).1
        simp only at h1
        have h2 := HLO.out
        have h3 := HRS.out
        have h4 := Rg.full_put ⟨3, ver, (rs : Int), 4⟩ 9 st (⟨s.kd, s.key, s.val, s.x⟩ : Rc.Rec)
        show _ ∧ _
        omega
      go_wp2_with fail
      refine (refrgappend_any s.kd s.x s.key s.val s.A1 s.A2 w.heap.size s.n1 s.c1 s.n2 s.c2 HST5.out.g.up.size HRI (Lib.hid HST5.out.g) HST5.out.fit HSMA.out HST5.out.few HLOW.out.1 (Lib.hid HST5.out.ok)).mono ?_
      rintro e w7 ⟨rfl, c7, hst7, hw7⟩
      have HST7 := Lib.hid (HST5.out.put (⟨s.kd, s.key, s.val, s.x⟩ : Rc.Rec) (Rd.here.lt HRS5.out).1 (Rd.here.lt HRS5.out).2 hw7 hst7)
      have HLO7 := Lib.hid HLOW.out.2
      clear hst7 hw7 HRI HLOW HLO HRS5 HSMA HST5
      generalize Rg.worst (Pk.err ⟨3, ver, (rs : Int), 4⟩ st (⟨s.kd, s.key, s.val, s.x⟩ : Rc.Rec)) (Rg.after ⟨3, ver, (rs : Int), 4⟩ 1 9 f n st (Pk.put ⟨3, ver, (rs : Int), 4⟩ 9 st (⟨s.kd, s.key, s.val, s.x⟩ : Rc.Rec))).2 = p3
      generalize Rg.pos (Pk.err ⟨3, ver, (rs : Int), 4⟩ st (⟨s.kd, s.key, s.val, s.x⟩ : Rc.Rec)) (Rg.after ⟨3, ver, (rs : Int), 4⟩ 1 9 f n st (Pk.put ⟨3, ver, (rs : Int), 4⟩ 9 st (⟨s.kd, s.key, s.val, s.x⟩ : Rc.Rec))).2 ((st.length : Nat) : Int) = p1
      generalize Rg.pos (Pk.err ⟨3, ver, (rs : Int), 4⟩ st (⟨s.kd, s.key, s.val, s.x⟩ : Rc.Rec)) (Rg.after ⟨3, ver, (rs : Int), 4⟩ 1 9 f n st (Pk.put ⟨3, ver, (rs : Int), 4⟩ 9 st (⟨s.kd, s.key, s.val, s.x⟩ : Rc.Rec))).2 ((Rc.len (⟨s.kd, s.key, s.val, s.x⟩ : Rc.Rec) : Nat) : Int) = p2
      generalize (Rg.after ⟨3, ver, (rs : Int), 4⟩ 1 9 f n st (Pk.put ⟨3, ver, (rs : Int), 4⟩ 9 st (⟨s.kd, s.key, s.val, s.x⟩ : Rc.Rec))).1 = f7 at *
      generalize lo + (Pk.full (Pk.put ⟨3, ver, (rs : Int), 4⟩ 9 st (⟨s.kd, s.key, s.val, s.x⟩ : Rc.Rec)) - Pk.full st) = lo7 at *
      generalize Pk.put ⟨3, ver, (rs : Int), 4⟩ 9 st (⟨s.kd, s.key, s.val, s.x⟩ : Rc.Rec) = st7 at *
      rcases take_ways i n2 l2 with ⟨f0, f2, f2'⟩ | ⟨hin2, f2, f4 | f4⟩
      · go_wp2_with fail
        go_roundw
        case rel => exact ⟨i + 1, st7, f7, c7, q, lo7, by go_num, by omega, (by have := HLO7.out; show _ ≤ _; omega), HST7.out⟩
        case measure => simp [Go.RowKit.intOf]; omega
      · obtain ⟨a2, rfl⟩ := hb2.out.some (k := i) (by rw [hl2.out]; exact hin2)
        have c0 := bools_at (hb2.out.below HST7.out.g.up (Nat.le_refl _)) i (by rw [hl2.out]; exact hin2)
        rw [f4] at c0
        clear f4
        go_wp2_with fail
        go_roundw
        case rel => exact ⟨i + 1, st7, f7, c7, q, lo7, by go_num, by omega, (by have := HLO7.out; show _ ≤ _; omega), HST7.out⟩
        case measure => simp [Go.RowKit.intOf]; omega
      · obtain ⟨a2, rfl⟩ := hb2.out.some (k := i) (by rw [hl2.out]; exact hin2)
        have c0 := bools_at (hb2.out.below HST7.out.g.up (Nat.le_refl _)) i (by rw [hl2.out]; exact hin2)
        rw [f4] at c0
        clear f4
        have HLOW : Hid (lo7 + (Pk.full (Pk.pad st7) - Pk.full st7) + 1 ≤ 1000 ∧ lo7 + (Pk.full (Pk.pad st7) - Pk.full st7) + 1 ≤ 2 + Pk.full (Pk.pad st7) + (i + 1)) := by
          have h1 := (Sc.full_rs (HST7.out.fit.pad.take (i := Pk.full (Pk.pad st7)) (Nat.le_refl _))).1
          simp only at h1
          have h2 := HLO7.out
          have h3 := HRS.out
          have h4 := Rg.full_pad st7
          show _ ∧ _
          omega
        go_wp2_with fail
        refine (refrgsync_any (Lib.hid HST7.out.g) HST7.out.fit HST7.out.few HLOW.out.1 (Lib.hid HST7.out.ok) (Lib.hid (HST7.out.ok.after (HST7.out.fit.pad.take (i := Pk.full (Pk.pad st7)) (Nat.le_refl _))))).mono ?_
        rintro e w10 ⟨rfl, c10, hst10, hw10⟩
        have HST10 := Lib.hid (HST7.out.sync hw10 hst10)
        have HLO10 := Lib.hid HLOW.out.2
        clear hst10 hw10 HST7 HLOW HLO7 c0
        generalize Rg.syncErr (Rg.after ⟨3, ver, (rs : Int), 4⟩ 1 9 f7 n st7 (Pk.pad st7)) = p4
        generalize Rg.syncFs (Rg.after ⟨3, ver, (rs : Int), 4⟩ 1 9 f7 n st7 (Pk.pad st7)) = f10 at *
        generalize lo7 + (Pk.full (Pk.pad st7) - Pk.full st7) + 1 = lo10 at *
        generalize Pk.pad st7 = st10 at *
        go_wp2_with fail
        go_roundw
        case rel => exact ⟨i + 1, st10, f10, c10, _, lo10, by go_num, by omega, HLO10.out, HST10.out⟩
        case measure => simp [Go.RowKit.intOf]; omega
end Go.Proofs.YtledfdpabmlecaaGreatDoor
