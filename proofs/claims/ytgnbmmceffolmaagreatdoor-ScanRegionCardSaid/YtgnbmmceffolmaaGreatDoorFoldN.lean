/-
  The texts RgRef, RgRefOpen, RgBoth of this proof, one behind the other.
-/
import Derived.Test.YtgnbmmceffolmaaGreatDoorFoldM
import Derived.Test.YtgnbmmceffolmaaGreatDoorFoldG
import Derived.Test.YtgnbmmceffolmaaGreatDoorFoldQ
import Derived.Test.YtgnbmmceffolmaaGreatDoorRgLawMayF
section
set_option maxRecDepth 100000
namespace Go.Proofs.YtgnbmmceffolmaaGreatDoor
open Go.RowKit
section
variable {n : Nat} {s : Flash}
theorem FlashOk.burnt (h : FlashOk n s) : FlashOk n s.burnt := by
  obtain ⟨e1, e2, -⟩ := burnt_cur s
  refine ⟨h.n1, h.n2, by rw [e1]; exact h.len, by rw [e1]; exact h.lt, by rw [e2]; exact h.olds, ?_⟩
  unfold Flash.burnt
  by_cases hf : s.fused = true
  · rw [if_pos hf]
    by_cases h0 : s.fuse = 0
    · rw [if_pos h0]; exact h.fuse
    · rw [if_neg h0]
      intro _
      have := h.fuse hf
      show 0 ≤ s.fuse - 1 ∧ s.fuse - 1 ≤ _
      omega
  · rw [if_neg hf]; exact h.fuse
theorem FlashOk.wrote (h : FlashOk n s) {i : Nat} (hi : i < n) {b : List Nat} (hb : b.length ≤ 64) (hl : ∀ y ∈ b, y < 256) : FlashOk n (s.wrote i b) := by
  refine ⟨h.n1, h.n2, putSec_len h.len hi (pad_len hb), putSec_lt h.lt (pad_lt hl), fun j l e => ?_, h.fuse⟩
  have e : (if j = i then some ((s.old i).getD (sec s.cur i)) else s.old j) = some l := e
  by_cases hj : j = i
  · rw [if_pos hj] at e
    injection e with e
    subst e
    cases ho : s.old i with
    | some l => exact h.olds i l ho
    | none =>
      refine ⟨sec_len h.len hi, fun x hx => h.lt x ?_⟩
      exact List.mem_of_mem_drop (List.mem_of_mem_take hx)
  · rw [if_neg hj] at e
    exact h.olds j l e
theorem FlashOk.write (h : FlashOk n s) {i : Int} {b : List Nat} (hl : ∀ y ∈ b, y < 256) : FlashOk n (s.write n i b) := by
  unfold Flash.write
  by_cases h0 : s.dead = true ∨ i < 0 ∨ (n : Int) ≤ i ∨ 64 < b.length
  · rw [if_pos h0]; exact h
  · rw [if_neg h0]
    have h1 : ¬ (i < 0 ∨ (n : Int) ≤ i ∨ 64 < b.length) := fun e => h0 (.inr e)
    split
    · exact h.burnt.wrote (by omega) (by omega) hl
    · exact h.burnt
theorem FlashOk.barrier (h : FlashOk n s) : FlashOk n s.barrier := by
  unfold Flash.barrier
  split
  · exact h
  · split
    · exact ⟨h.n1, h.n2, h.burnt.len, h.burnt.lt, (fun _ _ e => by cases e), h.burnt.fuse⟩
    · exact h.burnt
end
/-- What the reference's flush leaves. -/
def RhDid (W w : World) (c : Nat → Nat) (r gd od vd td n lo' : Nat) (fs' : Flash) (x : Int) (a b cc d hv slot lay seq tail now : Int) (gp : Nat) (st' : List Nat) (k' : Nat) (e : Ending) (w' : World) : Prop :=
  e = .returned (.int .i64 x) ∧ ∃ c', StH W w' c' r gd od vd td n lo' fs' a b cc d hv slot lay seq tail now gp st' k' ∧ Went c c' w w'
section
variable {W w : World} {c : Nat → Nat} {r gd od vd td n lo : Nat} {fs : Flash} {a b cc d hv slot lay seq tail now : Int} {gp : Nat} {st : List Nat} {k : Nat}
set_option maxHeartbeats 2000000 in
theorem refflush_any (hg : Hid (StH W w c r gd od vd td n lo fs a b cc d hv slot lay seq tail now gp st k)) (hf : Pk.Fit ⟨a, b, cc, d⟩ slot seq st k) (hwr : fs.wr < 4000000000000000000) (hlo : lo + (Pk.full st - k) ≤ 1000) (hok : Hid (FlashOk n fs)) :
    Calls Tryz.prog 44 #[.pointer (some ⟨r, 0, none⟩)] w (RhDid W w c r gd od vd td n (lo + (Pk.full st - k)) (Rg.run fs n (Rg.items ⟨a, b, cc, d⟩ slot seq st k (Pk.full st - k))).1 (Rg.run fs n (Rg.items ⟨a, b, cc, d⟩ slot seq st k (Pk.full st - k))).2 a b cc d hv slot lay seq tail now gp st (Pk.full st)) := by
  have HT := Lib.hid (refpktake_any (Lib.hid hg.out.p) hf)
  obtain ⟨z0, -, -, -, -, -, -, z7⟩ := rg8 hg.out.box
  have hfu := Pk.full_le hf
  have HF := Lib.hid hf
  have HFU : Hid (k ≤ Pk.full st) := hf.full
  unfold PkTook at HT
  generalize hm : Pk.full st - k = m at *
  have HM := Lib.hid hm
  have hm2 : m ≤ 2047 := by omega
  clear hm hfu
  go_enter Tryz.func44, Tryz.ntmps44
  go_wp2_with fail
  refine HT.out.mono ?_
  rintro e w1 ⟨sv, fv, rfl, hs1, hf1, hp1, hk1⟩
  obtain ⟨A1, c1, rfl, hA1⟩ := hs1.open_
  obtain ⟨A2, c2, rfl, hA2⟩ := hf1.open_
  obtain ⟨-, hA1, hA1'⟩ := hA1
  obtain ⟨-, hA2, hA2'⟩ := hA2
  have HG1 := Lib.hid (hg.out.tookP hp1 hk1)
  have HW1 : Hid (Went c (paint c w w1 5) w w1) := Went.paint hk1 (by decide) 5
  have HNEW : Hid (∀ i, w.heap.size ≤ i → ¬ rS gd od vd td i) := fun i hi e => by
    have := hg.out.d.lt
    unfold rS at e
    omega
  have HS1 := Lib.hid hs1
  have HF1 := Lib.hid hf1
  have hwc : Hid (c r = 7) := hg.out.rc
  clear hs1 hf1 hp1 hk1 hg HT z0 z7
  generalize paint c w w1 5 = c5 at *
  go_wp2_with fail
  go_loopw [17] (fun iv wr => ∃ (i : Nat) (f : Flash), iv = .int .i64 (i : Int) ∧ i ≤ m ∧ Hid (FlashOk n f) ∧ Hid (Rg.run fs n (Rg.items ⟨a, b, cc, d⟩ slot seq st k i) = (f, 0)) ∧ Hid (RDev wr gd od vd td n (lo + i) f ∧ Kept (rS gd od vd td) w1 wr)) (fun i _ => m - (Go.RowKit.intOf i).toNat)
  case atStart => exact ⟨0, fs, rfl, Nat.zero_le _, hok.out, rfl, HG1.out.d, Kept.refl _ _⟩
  case round =>
    obtain ⟨i, f, rfl, him, HOK, HRUN, HD⟩ := hrel
    have hfw := Rg.run_wr (N := n) (Rg.items ⟨a, b, cc, d⟩ slot seq st k i) fs
    rw [HRUN.out, Rg.items_len] at hfw
    by_cases hi : i < m
    · have f1 : decide ((i : Int) < (m : Int)) = true := by simp only [decide_eq_true_eq]; omega
      have hkf : k + i < Pk.full st := by have := HFU.out; have := HM.out; omega
      obtain ⟨ad1, rfl, hb1, hc1⟩ := HS1.out.int_at hi
      obtain ⟨ad2, gf, cf, rfl, hb2, hb3, hc2, hl2, hs2⟩ := HF1.out.at2 hi (by rw [Pk.frames_get hi]; exact Pk.frame_lt HF.out hkf)
      rw [Pk.secs_get hi] at hc1
      rw [Pk.frames_get hi] at hl2 hs2
      have HST := Lib.hid (Rg.run_step HRUN.out hi)
      obtain ⟨x, hx⟩ : ∃ x, Pk.sec ⟨a, b, cc, d⟩ slot (k + i) = x := ⟨_, rfl⟩
      obtain ⟨fr, hfr⟩ : ∃ fr, Pk.frame ⟨a, b, cc, d⟩ slot seq st (k + i) = fr := ⟨_, rfl⟩
      rw [hx, hfr] at HST
      rw [hx] at hc1
      rw [hfr] at hl2 hs2
      have hfl : ∀ y ∈ fr, y < 256 := by rw [← hfr]; exact Pk.frame_lt HF.out hkf
      have HOK2 : Hid (FlashOk n (f.write n x fr)) := HOK.out.write hfl
      have HCELL : Hid (∀ W', Kept (rS gd od vd td) w1 W' → W'.cell? ⟨r, 0, none⟩ = some (.pointer (some ⟨gd, 0, none⟩)) ∧ W'.cell? (ad1.add i) = some (.int .i64 x) ∧ W'.cell? (ad2.add i) = some (.slice (some ⟨gf, 0, none⟩) 64 cf)) := fun W' hk => ⟨cell_kept (rg8 HG1.out.box).1 hk (fun e => by
        have h7 := HG1.out.rc
        have h8 := HG1.out.dc
        rcases e with e | e | e | e <;> (simp only at e; subst e; omega)), cell_kept hc1 hk (by rw [add_block]; exact HNEW.out _ hb1), cell_kept hc2 hk (by rw [add_block]; exact HNEW.out _ hb2)⟩
      have HWR : Hid (∀ W', RDev W' gd od vd td n (lo + i) f → Kept (rS gd od vd td) w1 W' → Calls Tryz.prog 40 #[.pointer (some ⟨gd, 0, none⟩), .int .i64 x, .slice (some ⟨gf, 0, none⟩) 64 cf] W' (RDid W' gd od vd td n (lo + (i + 1)) (f.write n x fr) (f.writeErr n x fr))) := fun W' h1 h2 =>
        rwrite_any x (some ⟨gf, 0, none⟩) w1.heap.size 64 cf fr (by decide) hl2 (hs2.kept h2 fun ad e _ => by injection e with e; subst e; exact HNEW.out _ hb3) (fun ad e _ => by injection e with e; subst e; exact HNEW.out _ hb3) (show lo + i ≤ 1000 by omega) HOK.out h1 (by show f.wr < _; have : f.wr ≤ fs.wr + i := hfw; omega)
      unfold RDid at HWR
      generalize f.write n x fr = f' at *
      generalize f.writeErr n x fr = er at *
      have HDD : Hid (RDev wr.drew gd od vd td n (lo + i) f ∧ Kept (rS gd od vd td) w1 wr.drew) := ⟨HD.out.1.next (below_drewN wr 1), HD.out.2.drewN 1⟩
      have hsz1 : i ≤ 100000 := by omega
      obtain ⟨q1, q2, q3⟩ := HCELL.out _ HD.out.2
      clear hc1 hb1 hb2 hb3 hc2 hl2 hs2 hx hfr hfw hkf hfl HRUN
      go_wp2_with fail
      go_region_held3 (fun W' => W'.cell? ⟨r, 0, none⟩ = some (.pointer (some ⟨gd, 0, none⟩)) ∧ W'.cell? (ad1.add i) = some (.int .i64 x) ∧ W'.cell? (ad2.add i) = some (.slice (some ⟨gf, 0, none⟩) 64 cf))
        (first
          | go_keep
          | (revert HD3; intro HD3; with_reducible exact HCELL.out _ HD3.out.2)
          | exact ⟨q1, q2, q3⟩)
        (first
          | (go_at_call 40; refine (HWR.out _ HDD.out.1 HDD.out.2).mono ?_; rintro e w3 ⟨rfl, hd3, hk3⟩; have HD3 : Hid (RDev w3 gd od vd td n (lo + (i + 1)) f' ∧ Kept (rS gd od vd td) w1 w3) := ⟨hd3, HDD.out.2.trans hk3⟩; clear hd3 hk3))
      all_goals
        by_cases h0 : er = 0
        · subst h0
          go_wp2
          go_roundw
          case rel => exact ⟨i + 1, f', by go_num, by omega, HOK2.out, HST.out.1 rfl, HD3.out⟩
          case measure => simp [Go.RowKit.intOf]; omega
        · have f2 : (er != 0) = true := by simpa using h0
          go_wp2
          go_ret
          rw [HST.out.2 h0]
          exact ⟨rfl, _, HG1.out.onD (HD3.out.1.more (by omega)) HD3.out.2, HW1.out.trans (Went.paint (HG1.out.rS HD3.out.2) (by decide) 5)⟩
    · obtain rfl : i = m := by omega
      have f1 : decide ((i : Int) < (i : Int)) = false := by simp
      clear hi him
      go_wp2
      go_ret
      rw [HRUN.out]
      exact ⟨rfl, _, HG1.out.onD HD.out.1 HD.out.2, HW1.out.trans (Went.paint (HG1.out.rS HD.out.2) (by decide) 5)⟩
end
theorem StH.more {W w : World} {c : Nat → Nat} {r gd od vd td n lo lo' : Nat} {fs : Flash} {a b cc d hv slot lay seq tail now : Int} {gp : Nat} {st : List Nat} {k : Nat} (h : StH W w c r gd od vd td n lo fs a b cc d hv slot lay seq tail now gp st k) (hl : lo ≤ lo') : StH W w c r gd od vd td n lo' fs a b cc d hv slot lay seq tail now gp st k := ⟨h.colr, h.up, h.box, h.rc, h.p, h.d.more hl, h.dc⟩
/-- What the reference's Append leaves. -/
def RhPut (W w : World) (c : Nat → Nat) (r gd od vd td n lo : Nat) (fs : Flash) (a b cc d hv slot lay seq tail now : Int) (gp : Nat) (st : List Nat) (rc : Rc.Rec) (e : Ending) (w' : World) : Prop :=
  e = .returned (.tuple #[.int .i64 (Rg.pos (Pk.err ⟨a, b, cc, d⟩ st rc) (Rg.after ⟨a, b, cc, d⟩ slot seq fs n st (Pk.put ⟨a, b, cc, d⟩ seq st rc)).2 (st.length : Int)), .int .i64 (Rg.pos (Pk.err ⟨a, b, cc, d⟩ st rc) (Rg.after ⟨a, b, cc, d⟩ slot seq fs n st (Pk.put ⟨a, b, cc, d⟩ seq st rc)).2 (Rc.len rc : Int)), .int .i64 (Rg.worst (Pk.err ⟨a, b, cc, d⟩ st rc) (Rg.after ⟨a, b, cc, d⟩ slot seq fs n st (Pk.put ⟨a, b, cc, d⟩ seq st rc)).2)]) ∧
  ∃ c', StH W w' c' r gd od vd td n (lo + (Pk.full (Pk.put ⟨a, b, cc, d⟩ seq st rc) - Pk.full st)) (Rg.after ⟨a, b, cc, d⟩ slot seq fs n st (Pk.put ⟨a, b, cc, d⟩ seq st rc)).1 a b cc d hv slot lay seq tail now gp (Pk.put ⟨a, b, cc, d⟩ seq st rc) (Pk.full (Pk.put ⟨a, b, cc, d⟩ seq st rc)) ∧ Went c c' w w'
section
variable {W w : World} {c : Nat → Nat} {r gd od vd td n lo : Nat} {fs : Flash} {a b cc d hv slot lay seq tail now : Int} {gp : Nat} {st : List Nat}
set_option maxHeartbeats 2000000 in
theorem refrgappend_any (kd x : Int) (key val : List Nat) (A1 A2 : Option Addr) (B n1 c1 n2 c2 : Nat) (hB : B ≤ w.heap.size) (hi : Hid (RecIn w B A1 A2 n1 c1 n2 c2 key val)) (hg : Hid (StH W w c r gd od vd td n lo fs a b cc d hv slot lay seq tail now gp st (Pk.full st))) (hf : Pk.Fit ⟨a, b, cc, d⟩ slot seq st (Pk.full st)) (hs62 : n1 ≤ 140737488355328 ∧ n2 ≤ 140737488355328) (hwr : fs.wr < 4000000000000000000) (hlo : lo + (Pk.full (Pk.put ⟨a, b, cc, d⟩ seq st ⟨kd, key, val, x⟩) - Pk.full st) ≤ 1000) (hok : Hid (FlashOk n fs)) :
    Calls Tryz.prog 15 #[.pointer (some ⟨r, 0, none⟩), .agg #[.int .i64 kd, .slice A1 n1 c1, .slice A2 n2 c2, .int .i64 x]] w (RhPut W w c r gd od vd td n lo fs a b cc d hv slot lay seq tail now gp st ⟨kd, key, val, x⟩) := by
  have HB0 : Hid (Below w.heap.size w (w.alloc (.cells #[.int .i64 kd, .slice A1 n1 c1, .slice A2 n2 c2, .int .i64 x] 55))) := (Below.refl _ w).alloc (Nat.le_refl _) _
  have HBD : Hid (Below w.heap.size w (w.alloc (.cells #[.int .i64 kd, .slice A1 n1 c1, .slice A2 n2 c2, .int .i64 x] 55)).drew) := HB0.out.drew
  have HGD := Lib.hid (hg.out.new HBD.out)
  have HX0 := Lib.hid (heap_alloc_new w (.cells #[.int .i64 kd, .slice A1 n1 c1, .slice A2 n2 c2, .int .i64 x] 55))
  have HC0 : Hid (c w.heap.size = 0) := hg.out.colr.1 _ (Nat.le_refl _)
  have HPUT := Lib.hid (refpkput_any kd x key val A1 A2 B n1 c1 n2 c2 (Nat.le_trans hB HBD.out.size) (Lib.hid (RecIn.below hi.out HBD.out hB)) (Lib.hid HGD.out.p) hf hs62)
  have HFP : Hid (Pk.Fit ⟨a, b, cc, d⟩ slot seq (Pk.put ⟨a, b, cc, d⟩ seq st ⟨kd, key, val, x⟩) (Pk.full st)) := hf.put _ hi.out.1.2.2.lt hi.out.2.2.2.lt
  have HWR : Hid (∀ w1 c1, StH W w1 c1 r gd od vd td n lo fs a b cc d hv slot lay seq tail now gp (Pk.put ⟨a, b, cc, d⟩ seq st ⟨kd, key, val, x⟩) (Pk.full st) → Calls Tryz.prog 44 #[.pointer (some ⟨r, 0, none⟩)] w1 (RhDid W w1 c1 r gd od vd td n (lo + (Pk.full (Pk.put ⟨a, b, cc, d⟩ seq st ⟨kd, key, val, x⟩) - Pk.full st)) (Rg.after ⟨a, b, cc, d⟩ slot seq fs n st (Pk.put ⟨a, b, cc, d⟩ seq st ⟨kd, key, val, x⟩)).1 (Rg.after ⟨a, b, cc, d⟩ slot seq fs n st (Pk.put ⟨a, b, cc, d⟩ seq st ⟨kd, key, val, x⟩)).2 a b cc d hv slot lay seq tail now gp (Pk.put ⟨a, b, cc, d⟩ seq st ⟨kd, key, val, x⟩) (Pk.full (Pk.put ⟨a, b, cc, d⟩ seq st ⟨kd, key, val, x⟩)))) := fun w1 c1 h => refflush_any h HFP.out hwr hlo hok
  have HNO : Hid (Pk.err ⟨a, b, cc, d⟩ st ⟨kd, key, val, x⟩ ≠ 0 → Pk.put ⟨a, b, cc, d⟩ seq st ⟨kd, key, val, x⟩ = st ∧ Rg.after ⟨a, b, cc, d⟩ slot seq fs n st (Pk.put ⟨a, b, cc, d⟩ seq st ⟨kd, key, val, x⟩) = (fs, 0)) := fun h => by
    rw [Pk.put_no h]; exact ⟨rfl, Rg.after_same ..⟩
  have HSW : Hid (∀ W', Kept (fun i => c i = 1) (w.alloc (.cells #[.int .i64 kd, .slice A1 n1 c1, .slice A2 n2 c2, .int .i64 x] 55)).drew W' → W'.cell? ⟨r, 7, none⟩ = some (.pointer (some ⟨gp, 0, none⟩)) ∧ W'.cell? ⟨w.heap.size, 0, none⟩ = some (.int .i64 kd) ∧ W'.cell? ⟨w.heap.size, 1, none⟩ = some (.slice A1 n1 c1) ∧ W'.cell? ⟨w.heap.size, 2, none⟩ = some (.slice A2 n2 c2) ∧ W'.cell? ⟨w.heap.size, 3, none⟩ = some (.int .i64 x)) := fun W' hk => by
    have h7 := HGD.out.rc
    have h8 := HC0.out
    obtain ⟨q0, q1, q2, q3⟩ := four_cells (w := (w.alloc (.cells #[.int .i64 kd, .slice A1 n1 c1, .slice A2 n2 c2, .int .i64 x] 55)).drew) HX0.out
    have hn : ¬ c w.heap.size = 1 := by omega
    exact ⟨cell_kept (rg8 HGD.out.box).2.2.2.2.2.2.2 hk (show ¬ c r = 1 by omega), cell_kept q0 hk hn, cell_kept q1 hk hn, cell_kept q2 hk hn, cell_kept q3 hk hn⟩
  unfold RhPut
  unfold PkPut at HPUT
  unfold RhDid at HWR
  clear hg hi HX0 HC0 HFP HB0
  generalize Rg.after ⟨a, b, cc, d⟩ slot seq fs n st (Pk.put ⟨a, b, cc, d⟩ seq st ⟨kd, key, val, x⟩) = R at *
  generalize Pk.err ⟨a, b, cc, d⟩ st ⟨kd, key, val, x⟩ = er at *
  generalize Pk.put ⟨a, b, cc, d⟩ seq st ⟨kd, key, val, x⟩ = st' at *
  obtain ⟨f', xe⟩ := R
  simp only at HWR HNO ⊢
  generalize (Rc.len ⟨kd, key, val, x⟩ : Int) = len at *
  generalize (st.length : Int) = off at *
  generalize hk' : Pk.full st' = k' at *
  by_cases hE : er = 0
  · subst hE
    rw [if_pos rfl, if_pos rfl] at HPUT
    clear HNO hk'
    by_cases hx : xe = 0
    all_goals
      first
        | (subst hx; rw [show Rg.pos 0 0 off = off from rfl, show Rg.pos 0 0 len = len from rfl, show Rg.worst 0 0 = 0 from rfl])
        | (rw [show Rg.pos 0 xe off = 0 from if_neg fun h => hx h.2, show Rg.pos 0 xe len = 0 from if_neg fun h => hx h.2, show Rg.worst 0 xe = xe from rfl]; have f2 : (xe != 0) = true := by simpa using hx)
      go_enter Tryz.func15, Tryz.ntmps15
      go_upto_region 1 with fail
      generalize w.alloc (.cells #[.int .i64 kd, .slice A1 n1 c1, .slice A2 n2 c2, .int .i64 x] 55) = w0 at *
      go_region_held3 (fun W' => W'.cell? ⟨r, 7, none⟩ = some (.pointer (some ⟨gp, 0, none⟩)) ∧ W'.cell? ⟨w.heap.size, 0, none⟩ = some (.int .i64 kd) ∧ W'.cell? ⟨w.heap.size, 1, none⟩ = some (.slice A1 n1 c1) ∧ W'.cell? ⟨w.heap.size, 2, none⟩ = some (.slice A2 n2 c2) ∧ W'.cell? ⟨w.heap.size, 3, none⟩ = some (.int .i64 x))
        (first
          | (revert HK1; intro HK1; with_reducible exact HSW.out _ HK1.out)
          | (with_reducible exact HSW.out _ (Kept.refl _ _)))
        (first
          | (go_at_call 43; refine HPUT.out.mono ?_; rintro e w1 ⟨rfl, hp1, hk1⟩; have HG1 := Lib.hid (HGD.out.onP hp1 hk1); have HK1 := Lib.hid hk1; clear hp1 hk1))
      all_goals
        have HW1 : Hid (Went c (paint c w0.drew w1 1) w w1) := (Went.new HBD.out).trans (Went.paint HK1.out (by decide) 1)
        generalize paint c w0.drew w1 1 = c2 at *
        go_wp2_with fail
        refine (HWR.out _ _ HG1.out).mono ?_
        rintro e w2 ⟨rfl, c3, hg2, hw2⟩
        have HG2 := Lib.hid hg2
        have HW2 := Lib.hid (HW1.out.trans hw2)
        clear hg2 hw2
        go_wp2
        go_ret3
        exact ⟨rfl, _, HG2.out, HW2.out⟩
  · obtain ⟨rfl, hR⟩ := HNO.out hE
    injection hR with hR1 hR2
    subst hR1 hR2 hk'
    rw [if_neg hE, if_neg hE] at HPUT
    rw [show Rg.pos er 0 off = 0 from if_neg fun h => hE h.1, show Rg.pos er 0 len = 0 from if_neg fun h => hE h.1, show Rg.worst er 0 = er from if_neg hE]
    have f1 : (er == 0) = false := by simpa using hE
    have f2 : (er != 0) = true := by simpa using hE
    clear HNO
    go_enter Tryz.func15, Tryz.ntmps15
    go_upto_region 1 with fail
    generalize w.alloc (.cells #[.int .i64 kd, .slice A1 n1 c1, .slice A2 n2 c2, .int .i64 x] 55) = w0 at *
    go_region_held3 (fun W' => W'.cell? ⟨r, 7, none⟩ = some (.pointer (some ⟨gp, 0, none⟩)) ∧ W'.cell? ⟨w.heap.size, 0, none⟩ = some (.int .i64 kd) ∧ W'.cell? ⟨w.heap.size, 1, none⟩ = some (.slice A1 n1 c1) ∧ W'.cell? ⟨w.heap.size, 2, none⟩ = some (.slice A2 n2 c2) ∧ W'.cell? ⟨w.heap.size, 3, none⟩ = some (.int .i64 x))
      (first
        | (revert HK1; intro HK1; with_reducible exact HSW.out _ HK1.out)
        | (with_reducible exact HSW.out _ (Kept.refl _ _)))
      (first
        | (go_at_call 43; refine HPUT.out.mono ?_; rintro e w1 ⟨rfl, hp1, hk1⟩; have HG1 := Lib.hid (HGD.out.onP hp1 hk1); have HK1 := Lib.hid hk1; clear hp1 hk1))
    all_goals
      have HW1 : Hid (Went c (paint c w0.drew w1 1) w w1) := (Went.new HBD.out).trans (Went.paint HK1.out (by decide) 1)
      generalize paint c w0.drew w1 1 = c2 at *
      go_wp2
      go_ret3
      exact ⟨rfl, _, HG1.out.more (Nat.le_add_right _ _), HW1.out⟩
/-- What the reference's Sync leaves. -/
def RhSync (W w : World) (c : Nat → Nat) (r gd od vd td n lo : Nat) (fs : Flash) (a b cc d hv slot lay seq tail now : Int) (gp : Nat) (st : List Nat) (e : Ending) (w' : World) : Prop :=
  e = .returned (.int .i64 (Rg.syncErr (Rg.after ⟨a, b, cc, d⟩ slot seq fs n st (Pk.pad st)))) ∧
  ∃ c', StH W w' c' r gd od vd td n (lo + (Pk.full (Pk.pad st) - Pk.full st) + 1) (Rg.syncFs (Rg.after ⟨a, b, cc, d⟩ slot seq fs n st (Pk.pad st))) a b cc d hv slot lay seq tail now gp (Pk.pad st) (Pk.full (Pk.pad st)) ∧ Went c c' w w'
set_option maxHeartbeats 2000000 in
theorem refrgsync_any (hg : Hid (StH W w c r gd od vd td n lo fs a b cc d hv slot lay seq tail now gp st (Pk.full st))) (hf : Pk.Fit ⟨a, b, cc, d⟩ slot seq st (Pk.full st)) (hwr : fs.wr < 4000000000000000000) (hlo : lo + (Pk.full (Pk.pad st) - Pk.full st) + 1 ≤ 1000) (hok : Hid (FlashOk n fs)) (hok2 : Hid (FlashOk n (Rg.after ⟨a, b, cc, d⟩ slot seq fs n st (Pk.pad st)).1)) :
    Calls Tryz.prog 17 #[.pointer (some ⟨r, 0, none⟩)] w (RhSync W w c r gd od vd td n lo fs a b cc d hv slot lay seq tail now gp st) := by
  have HPAD := Lib.hid (refpkpad_any (Lib.hid hg.out.p) hf.short)
  have HWR : Hid (∀ w1 c1, StH W w1 c1 r gd od vd td n lo fs a b cc d hv slot lay seq tail now gp (Pk.pad st) (Pk.full st) → Calls Tryz.prog 44 #[.pointer (some ⟨r, 0, none⟩)] w1 (RhDid W w1 c1 r gd od vd td n (lo + (Pk.full (Pk.pad st) - Pk.full st)) (Rg.after ⟨a, b, cc, d⟩ slot seq fs n st (Pk.pad st)).1 (Rg.after ⟨a, b, cc, d⟩ slot seq fs n st (Pk.pad st)).2 a b cc d hv slot lay seq tail now gp (Pk.pad st) (Pk.full (Pk.pad st)))) := fun w1 c1 h => refflush_any h hf.pad hwr (by omega) hok
  obtain ⟨z0, -, -, -, -, -, -, z7⟩ := rg8 hg.out.box
  unfold RhSync
  unfold RhDid at HWR
  generalize Rg.after ⟨a, b, cc, d⟩ slot seq fs n st (Pk.pad st) = R at *
  generalize Pk.pad st = st' at *
  obtain ⟨f', xe⟩ := R
  simp only at HWR
  generalize Pk.full st' = k' at *
  by_cases hx : xe = 0
  · subst hx
    rw [show Rg.syncErr (f', 0) = f'.barrierErr from rfl, show Rg.syncFs (f', 0) = f'.barrier from rfl]
    have HBA : Hid (∀ W', RDev W' gd od vd td n (lo + (k' - Pk.full st)) f' → Calls Tryz.prog 42 #[.pointer (some ⟨gd, 0, none⟩)] W' (RDid W' gd od vd td n (lo + (k' - Pk.full st) + 1) f'.barrier f'.barrierErr)) := fun W' h1 => rbarrier_any (by omega) hok2 h1
    unfold RDid at HBA
    generalize f'.barrierErr = be at *
    generalize f'.barrier = f2 at *
    go_enter Tryz.func17, Tryz.ntmps17
    go_wp2_with fail
    refine HPAD.out.mono ?_
    rintro e w1 ⟨rfl, hp1, hk1⟩
    have HG1 := Lib.hid (hg.out.onP hp1 hk1)
    have HW1 : Hid (Went c (paint c w w1 1) w w1) := Went.paint hk1 (by decide) 1
    clear hp1 hk1 HPAD z0 z7 hg
    generalize paint c w w1 1 = c2 at *
    go_wp2_with fail
    refine (HWR.out _ _ HG1.out).mono ?_
    rintro e w2 ⟨rfl, c3, hg2, hw2⟩
    have HG2 := Lib.hid hg2
    have HW2 := Lib.hid (HW1.out.trans hw2)
    obtain ⟨z0, -, -, -, -, -, -, z7⟩ := rg8 hg2.box
    clear hg2 hw2 HW1 HG1
    go_wp2_with fail
    refine (HBA.out _ HG2.out.d).mono ?_
    rintro e w3 ⟨rfl, hd3, hk3⟩
    have hk3' : Kept (rS gd od vd td) w2 w3 := hk3
    have HG3 := Lib.hid (HG2.out.onD hd3 hk3')
    have HW3 : Hid (Went c (paint c3 w2 w3 5) w w3) := HW2.out.trans (Went.paint (HG2.out.rS hk3') (by decide) 5)
    go_wp2
    go_ret
    exact ⟨rfl, _, HG3.out, HW3.out⟩
  · rw [show Rg.syncErr (f', xe) = xe from if_neg hx, show Rg.syncFs (f', xe) = f' from if_neg hx]
    have f2 : (xe != 0) = true := by simpa using hx
    go_enter Tryz.func17, Tryz.ntmps17
    go_wp2_with fail
    refine HPAD.out.mono ?_
    rintro e w1 ⟨rfl, hp1, hk1⟩
    have HG1 := Lib.hid (hg.out.onP hp1 hk1)
    have HW1 : Hid (Went c (paint c w w1 1) w w1) := Went.paint hk1 (by decide) 1
    clear hp1 hk1 HPAD z0 z7 hg
    generalize paint c w w1 1 = c2 at *
    go_wp2_with fail
    refine (HWR.out _ _ HG1.out).mono ?_
    rintro e w2 ⟨rfl, c3, hg2, hw2⟩
    have HG2 := Lib.hid hg2
    have HW2 := Lib.hid (HW1.out.trans hw2)
    clear hg2 hw2
    go_wp2
    go_ret
    exact ⟨rfl, _, HG2.out.more (Nat.le_succ _), HW2.out⟩
end
end Go.Proofs.YtgnbmmceffolmaaGreatDoor
end
section
set_option maxRecDepth 100000
namespace Go.Proofs.YtgnbmmceffolmaaGreatDoor
open Go.RowKit
set_option maxHeartbeats 1000000 in
theorem refhdenc_natrow (a b c d e f x : Nat) (w : World) (ha : a ≤ 2) (hb : b ≤ 15) (hc : c ≤ 4294967295) (hd : d ≤ 281474976710655) (he : e ≤ 281474976710655) (hf : f ≤ 549755813888) (hx : x < 1048576) :
    Calls Tryz.prog 41 #[.agg #[.int .i64 (a : Int), .int .i64 (b : Int), .int .i64 (c : Int), .int .i64 (d : Int), .int .i64 (e : Int), .int .i64 (f : Int)], .int .i64 (x : Int)] w fun r w' => ∃ A3 c3, r = .returned (.slice A3 64 c3) ∧ w'.ownsRow w.heap.size 5 1 (.slice A3 64 c3) 64 (vals (Hd.enc (x : Int) ⟨(a : Int), (b : Int), (c : Int), (d : Int), (e : Int), (f : Int)⟩)) ∧ Below w.heap.size w w' := by
  have HEB : Hid (Hd.enc (x : Int) ⟨(a : Int), (b : Int), (c : Int), (d : Int), (e : Int), (f : Int)⟩ = Fr.enc 1 0 (x : Int) (((([a, b] ++ Wire.be 4 c) ++ Wire.be 6 d) ++ Wire.be 6 e) ++ Wire.be 5 f)) := by
    show _ = _
    have e1 : a % 256 = a := by omega
    have e2 : b % 256 = b := by omega
    unfold Hd.enc Hd.body
    simp only [Int.toNat_natCast, Rc.be_one, e1, e2, List.append_assoc, List.cons_append, List.nil_append]
  generalize Hd.enc (x : Int) ⟨(a : Int), (b : Int), (c : Int), (d : Int), (e : Int), (f : Int)⟩ = en at *
  have ea : IntKind.u8.wrap (a : Int) = (a : Int) := by rw [IntKind.wrap_u8]; omega
  have eb : IntKind.u8.wrap (b : Int) = (b : Int) := by rw [IntKind.wrap_u8]; omega
  have HAB : Hid (a < 256 ∧ b < 256) := ⟨by omega, by omega⟩
  have HS0 := Lib.hid (sd_new w #[.int .i64 (a : Int), .int .i64 (b : Int), .int .i64 (c : Int), .int .i64 (d : Int), .int .i64 (e : Int), .int .i64 (f : Int)] 35)
  go_enter Tryz.func41, Tryz.ntmps41
  go_upto_region 1 with fail
  generalize w.alloc (.cells #[.int .i64 (a : Int), .int .i64 (b : Int), .int .i64 (c : Int), .int .i64 (d : Int), .int .i64 (e : Int), .int .i64 (f : Int)] 35) = w0 at *
  obtain ⟨z0, z1, z2, z3, z4, z5⟩ := six_cells HS0.out.1
  have hbb := bs_box w w0 a b HAB.out.1 HAB.out.2 HS0.out.2
  have HS1 : Hid (Sd w w.heap.size (.cells #[.int .i64 (a : Int), .int .i64 (b : Int), .int .i64 (c : Int), .int .i64 (d : Int), .int .i64 (e : Int), .int .i64 (f : Int)] 35 (0, 0)) (w0.alloc (.cells #[.int .u8 (a : Int), .int .u8 (b : Int)] 5))) := ⟨(heap_alloc_old _ _ (Array.getElem?_eq_some_iff.1 HS0.out.1).1).trans HS0.out.1, hbb.2⟩
  have HB1 : Hid (Bs (w0.alloc (.cells #[.int .u8 (a : Int), .int .u8 (b : Int)] 5)) (w0.heap.size + 1) (some ⟨w0.heap.size, 0, none⟩) [a, b]) := hbb.1
  clear hbb
  obtain ⟨y0, y1, y2, y3, y4, y5⟩ := six_cells HS1.out.1
  go_wp2_with fail
  have sl2 : SlIs (some (⟨w0.heap.size, 0, none⟩ : Addr)) 2 2 := ⟨(fun e => by cases e), Nat.le_refl _, by decide⟩
  refine (refput_row (some ⟨w0.heap.size, 0, none⟩) (w0.heap.size + 1) 2 2 [a, b] c 4 4 rfl _ sl2 rfl (by decide) HB1.out (by decide) (by decide)).mono ?_
  rintro r w3 ⟨A3, n3, c3, p3, rfl, hp3, hn3, hr3⟩
  have h3 : n3 = 6 := hn3.out
  subst h3
  have HS3 := Lib.hid (HS1.out.next hr3.2.2.2.2 (by rfl) (by rfl) (by rfl) (by rfl))
  have HR3 := Lib.hid hr3
  clear hr3 sl2 z0 z1 z2 z3 z4 z5 y0 y1 y2 y3 y4 y5
  obtain ⟨z0, z1, z2, z3, z4, z5⟩ := six_cells HS3.out.1
  go_wp2_with fail
  refine (refput_row A3 w3.heap.size 6 c3 p3 d 6 6 rfl w3 HR3.out.2.2.1 HR3.out.2.1 (by decide) HR3.out.2.2.2.1 (by decide) (by decide)).mono ?_
  rintro r w4 ⟨A4, n4, c4, p4, rfl, hp4, hn4, hr4⟩
  have h4 : n4 = 12 := hn4.out
  subst h4
  have HS4 := Lib.hid (HS3.out.next hr4.2.2.2.2 (by rfl) (by rfl) (by rfl) (by rfl))
  have HR4 := Lib.hid hr4
  clear hr4 z0 z1 z2 z3 z4 z5
  obtain ⟨z0, z1, z2, z3, z4, z5⟩ := six_cells HS4.out.1
  go_wp2_with fail
  refine (refput_row A4 w4.heap.size 12 c4 p4 e 6 6 rfl w4 HR4.out.2.2.1 HR4.out.2.1 (by decide) HR4.out.2.2.2.1 (by decide) (by decide)).mono ?_
  rintro r w5 ⟨A5, n5, c5, p5, rfl, hp5, hn5, hr5⟩
  have h5 : n5 = 18 := hn5.out
  subst h5
  have HS5 := Lib.hid (HS4.out.next hr5.2.2.2.2 (by rfl) (by rfl) (by rfl) (by rfl))
  have HR5 := Lib.hid hr5
  clear hr5 z0 z1 z2 z3 z4 z5
  obtain ⟨z0, z1, z2, z3, z4, z5⟩ := six_cells HS5.out.1
  go_wp2_with fail
  refine (refput_row A5 w5.heap.size 18 c5 p5 f 5 5 rfl w5 HR5.out.2.2.1 HR5.out.2.1 (by decide) HR5.out.2.2.2.1 (by decide) (by decide)).mono ?_
  rintro r w6 ⟨A6, n6, c6, p6, rfl, hp6, hn6, hr6⟩
  have h6 : n6 = 23 := hn6.out
  subst h6
  have HS6 := Lib.hid (HS5.out.next hr6.2.2.2.2 (by rfl) (by rfl) (by rfl) (by rfl))
  have HR6 := Lib.hid hr6
  have HEP : Hid (en = Fr.enc 1 0 (x : Int) p6) := by
    show _ = _
    rw [HEB.out, hp6.out, hp5.out, hp4.out, hp3.out]
  clear hr6 z0 z1 z2 z3 z4 z5 hp6 hp5 hp4 hp3 HEB
  have HE := Lib.hid (reffrenc_row 1 0 x A6 w6.heap.size 23 c6 p6 w6 (by decide) (by decide) hx (Nat.le_refl _) HR6.out.2.2.1 HR6.out.2.1 (by decide) HR6.out.2.2.2.1)
  go_wp2_with fail
  refine HE.out.mono ?_
  rintro r w7 ⟨A7, c7, rfl, hown7, hbel7⟩
  have HS7 := Lib.hid (HS6.out.next hbel7 (by rfl) (by rfl) (by rfl) (by rfl))
  have HR7 := Lib.hid (ownsRow_mono hown7 HS6.out.2.size)
  clear hown7 hbel7
  go_wp2
  go_ret
  rw [HEP.out]
  exact ⟨A7, c7, rfl, HR7.out, HS7.out.2⟩
theorem refhdenc_row (a b c d e f x : Int) (w : World) (hv : Hd.valid ⟨a, b, c, d, e, f⟩) (hx : 0 ≤ x ∧ x < 1048576) :
    Calls Tryz.prog 41 #[.agg #[.int .i64 a, .int .i64 b, .int .i64 c, .int .i64 d, .int .i64 e, .int .i64 f], .int .i64 x] w fun r w' => ∃ A3 c3, r = .returned (.slice A3 64 c3) ∧ w'.ownsRow w.heap.size 5 1 (.slice A3 64 c3) 64 (vals (Hd.enc x ⟨a, b, c, d, e, f⟩)) ∧ Below w.heap.size w w' := by
  obtain ⟨a', b', c', d', e', f', hh, q0, q1, q2, q3, q4, q5⟩ := hd_nat hv
  obtain ⟨x, rfl⟩ := Int.eq_ofNat_of_zero_le hx.1
  injection hh with h0 h1 h2 h3 h4 h5
  subst h0 h1 h2 h3 h4 h5
  exact refhdenc_natrow a' b' c' d' e' f' x w q0 q1 q2 q3 q4 q5 (by omega)
/-- What the reference's Open leaves. -/
def RhOpened (W w : World) (gd od vd td n lo : Nat) (fs : Flash) (a b c d hv slot lay seq tail now : Int) (e : Ending) (w' : World) : Prop :=
  ((Rg.begun fs n (Gm.spot ⟨a, b, c, d⟩ slot) (Hd.enc (Gm.spot ⟨a, b, c, d⟩ slot) ⟨hv, slot, lay, seq, tail, now⟩)).2 ≠ 0 ∧ e = .returned (.tuple #[.pointer none, .int .i64 (Rg.begun fs n (Gm.spot ⟨a, b, c, d⟩ slot) (Hd.enc (Gm.spot ⟨a, b, c, d⟩ slot) ⟨hv, slot, lay, seq, tail, now⟩)).2]) ∧ RDev w' gd od vd td n (lo + 2) (Rg.begun fs n (Gm.spot ⟨a, b, c, d⟩ slot) (Hd.enc (Gm.spot ⟨a, b, c, d⟩ slot) ⟨hv, slot, lay, seq, tail, now⟩)).1 ∧ Kept (rS gd od vd td) w w') ∨
  ((Rg.begun fs n (Gm.spot ⟨a, b, c, d⟩ slot) (Hd.enc (Gm.spot ⟨a, b, c, d⟩ slot) ⟨hv, slot, lay, seq, tail, now⟩)).2 = 0 ∧ ∃ r gp cl, e = .returned (.tuple #[.pointer (some ⟨r, 0, none⟩), .int .i64 0]) ∧ StH W w' cl r gd od vd td n (lo + 2) (Rg.begun fs n (Gm.spot ⟨a, b, c, d⟩ slot) (Hd.enc (Gm.spot ⟨a, b, c, d⟩ slot) ⟨hv, slot, lay, seq, tail, now⟩)).1 a b c d hv slot lay seq tail now gp [] 0 ∧ Kept (rS gd od vd td) w w' ∧ ∀ k, cl k ≠ 0 → rS gd od vd td k ∨ w.heap.size ≤ k)
def opColH (i r gd od vd td k : Nat) : Nat := if k = r then 7 else if k = gd ∨ k = od ∨ k = vd ∨ k = td then 8 else if k = i then 1 else 0
theorem opColH_zero {i r gd od vd td k : Nat} (h : opColH i r gd od vd td k ≠ 0) : k = r ∨ (k = gd ∨ k = od ∨ k = vd ∨ k = td) ∨ k = i := by
  unfold opColH at h
  split at h
  · next e => exact .inl e
  · split at h
    · next e => exact .inr (.inl e)
    · split at h
      · next e => exact .inr (.inr e)
      · exact absurd rfl h
/-- The reference's region: the packer's box and the region's are made behind the device. -/
theorem sth_start {W w wc : World} {gd od vd td n lo : Nat} {f : Flash} {a b c d hv slot lay seq tail now : Int} (hw : Below W.heap.size W w) (hnew : ∀ k, rS gd od vd td k → W.heap.size ≤ k) (hd : RDev wc gd od vd td n lo f) (hkw : Kept (rS gd od vd td) w wc) :
    ∃ cl, StH W ((wc.alloc (.cells #[.int .i64 a, .int .i64 b, .int .i64 c, .int .i64 d, .int .i64 slot, .int .i64 seq, .slice none 0 0, .int .i64 0] 92)).alloc (RgBox 94 gd wc.heap.size hv slot lay seq tail now)) cl (wc.heap.size + 1) gd od vd td n lo f a b c d hv slot lay seq tail now wc.heap.size [] 0 ∧ ∀ k, cl k ≠ 0 → rS gd od vd td k ∨ w.heap.size ≤ k := by
  have hal : Below wc.heap.size wc (wc.alloc (.cells #[.int .i64 a, .int .i64 b, .int .i64 c, .int .i64 d, .int .i64 slot, .int .i64 seq, .slice none 0 0, .int .i64 0] 92)) := (Below.refl _ _).alloc (Nat.le_refl _) _
  have hsz : (wc.alloc (.cells #[.int .i64 a, .int .i64 b, .int .i64 c, .int .i64 d, .int .i64 slot, .int .i64 seq, .slice none 0 0, .int .i64 0] 92)).heap.size = wc.heap.size + 1 := by simp
  have hp := heap_alloc_new wc (.cells #[.int .i64 a, .int .i64 b, .int .i64 c, .int .i64 d, .int .i64 slot, .int .i64 seq, .slice none 0 0, .int .i64 0] 92)
  have hd' := hd.next hal
  have hk' : Kept (rS gd od vd td) w (wc.alloc (.cells #[.int .i64 a, .int .i64 b, .int .i64 c, .int .i64 d, .int .i64 slot, .int .i64 seq, .slice none 0 0, .int .i64 0] 92)) := hkw.trans (Kept.alloc _ _)
  generalize wc.alloc (.cells #[.int .i64 a, .int .i64 b, .int .i64 c, .int .i64 d, .int .i64 slot, .int .i64 seq, .slice none 0 0, .int .i64 0] 92) = wp at *
  have hal2 : Below wp.heap.size wp (wp.alloc (RgBox 94 gd wc.heap.size hv slot lay seq tail now)) := (Below.refl _ _).alloc (Nat.le_refl _) _
  have hsz2 : (wp.alloc (RgBox 94 gd wc.heap.size hv slot lay seq tail now)).heap.size = wp.heap.size + 1 := by simp
  have hbox := heap_alloc_new wp (RgBox 94 gd wc.heap.size hv slot lay seq tail now)
  have hp2 := (hal2.block wc.heap.size (by omega)).trans hp
  have hd2 := hd'.next hal2
  have hk2 : Kept (rS gd od vd td) w (wp.alloc (RgBox 94 gd wc.heap.size hv slot lay seq tail now)) := hk'.trans (Kept.alloc _ _)
  have hlt := hd.lt
  have hww := hw.size
  have hws := hkw.size
  have hn : W.heap.size ≤ gd ∧ W.heap.size ≤ od ∧ W.heap.size ≤ vd ∧ W.heap.size ≤ td := ⟨hnew _ (.inl rfl), hnew _ (.inr (.inl rfl)), hnew _ (.inr (.inr (.inl rfl))), hnew _ (.inr (.inr (.inr rfl)))⟩
  generalize wp.alloc (RgBox 94 gd wc.heap.size hv slot lay seq tail now) = wq at *
  rw [hsz] at hbox hsz2
  refine ⟨opColH wc.heap.size (wc.heap.size + 1) gd od vd td, ⟨⟨fun k hk => ?_, fun k hk => ?_⟩, hw.trans (hk2.below hww hnew), hbox, if_pos rfl, ⟨none, 0, hp2, ?_, SRow.nil, fun ad e => by cases e⟩, hd2, ?_, ?_, ?_, ?_⟩, fun k hk => ?_⟩
  · unfold opColH
    rw [if_neg (by omega), if_neg (by omega), if_neg (by omega)]
  · have := opColH_zero hk
    omega
  · show opColH _ _ _ _ _ _ wc.heap.size = 1
    unfold opColH
    rw [if_neg (by omega), if_neg (by omega), if_pos rfl]
  · unfold opColH
    rw [if_neg (by omega), if_pos (.inl rfl)]
  · unfold opColH
    rw [if_neg (by omega), if_pos (.inr (.inl rfl))]
  · unfold opColH
    rw [if_neg (by omega), if_pos (.inr (.inr (.inl rfl)))]
  · unfold opColH
    rw [if_neg (by omega), if_pos (.inr (.inr (.inr rfl)))]
  · unfold rS
    have := opColH_zero hk
    omega
set_option maxHeartbeats 4000000 in
theorem refrgopen_any {W w : World} {gd od vd td n lo : Nat} {fs : Flash} (a b c d hv slot lay seq tail now : Int) (hval : Hd.valid ⟨hv, slot, lay, seq, tail, now⟩) (hokk : Pk.ok ⟨a, b, c, d⟩ slot seq) (hw : Hid (Below W.heap.size W w)) (hnew : Hid (∀ k, rS gd od vd td k → W.heap.size ≤ k)) (hd : Hid (RDev w gd od vd td n lo fs)) (hok : Hid (FlashOk n fs)) (hlo : lo ≤ 900) (hwr : fs.wr < 4000000000000000000) :
    Calls Tryz.prog 14 #[.pointer (some ⟨gd, 0, none⟩), .agg #[.int .i64 a, .int .i64 b, .int .i64 c, .int .i64 d], .agg #[.int .i64 hv, .int .i64 slot, .int .i64 lay, .int .i64 seq, .int .i64 tail, .int .i64 now]] w (RhOpened W w gd od vd td n lo fs a b c d hv slot lay seq tail now) := by
  have HX0 := Lib.hid (OpBx.made (a := a) (b := b) (c := c) (d := d) (hv := hv) (slot := slot) (lay := lay) (seq := seq) (tail := tail) (now := now) w)
  have HB0 : Hid (Below w.heap.size w ((w.alloc (.cells #[.int .i64 a, .int .i64 b, .int .i64 c, .int .i64 d] 29)).alloc (.cells #[.int .i64 hv, .int .i64 slot, .int .i64 lay, .int .i64 seq, .int .i64 tail, .int .i64 now] 35))) := ((Below.refl _ w).alloc (Nat.le_refl _) _).alloc (by simp) _
  have hspot : 74 ≤ Gm.spot ⟨a, b, c, d⟩ slot ∧ Gm.spot ⟨a, b, c, d⟩ slot ≤ 32842 := Pk.spot_le hokk
  have hsp : 74 + slot * c = Gm.spot ⟨a, b, c, d⟩ slot := rfl
  have HENC : Hid (∀ W, Calls Tryz.prog 41 #[.agg #[.int .i64 hv, .int .i64 slot, .int .i64 lay, .int .i64 seq, .int .i64 tail, .int .i64 now], .int .i64 (Gm.spot ⟨a, b, c, d⟩ slot)] W fun r w' => ∃ A3 c3, r = .returned (.slice A3 64 c3) ∧ w'.ownsRow W.heap.size 5 1 (.slice A3 64 c3) 64 (vals (Hd.enc (Gm.spot ⟨a, b, c, d⟩ slot) ⟨hv, slot, lay, seq, tail, now⟩)) ∧ Below W.heap.size W w') := fun W => refhdenc_row hv slot lay seq tail now _ W hval (by omega)
  have HLT : Hid (∀ y ∈ Hd.enc (Gm.spot ⟨a, b, c, d⟩ slot) ⟨hv, slot, lay, seq, tail, now⟩, y < 256) := Hd.enc_lt _ _
  have HLE : Hid ((Hd.enc (Gm.spot ⟨a, b, c, d⟩ slot) ⟨hv, slot, lay, seq, tail, now⟩).length = 64) := Hd.enc_length _ _
  have m1 : wrap64 (slot * c) = slot * c := by unfold wrap64; omega
  have m2 : wrap64 (74 + slot * c) = Gm.spot ⟨a, b, c, d⟩ slot := by rw [← hsp]; unfold wrap64; omega
  have HFIN1 : Hid (∀ w', (Rg.begun fs n (Gm.spot ⟨a, b, c, d⟩ slot) (Hd.enc (Gm.spot ⟨a, b, c, d⟩ slot) ⟨hv, slot, lay, seq, tail, now⟩)).2 ≠ 0 → RDev w' gd od vd td n (lo + 2) (Rg.begun fs n (Gm.spot ⟨a, b, c, d⟩ slot) (Hd.enc (Gm.spot ⟨a, b, c, d⟩ slot) ⟨hv, slot, lay, seq, tail, now⟩)).1 → Kept (rS gd od vd td) w w' → RhOpened W w gd od vd td n lo fs a b c d hv slot lay seq tail now (.returned (.tuple #[.pointer none, .int .i64 (Rg.begun fs n (Gm.spot ⟨a, b, c, d⟩ slot) (Hd.enc (Gm.spot ⟨a, b, c, d⟩ slot) ⟨hv, slot, lay, seq, tail, now⟩)).2])) w') := fun w' h1 h2 h3 => .inl ⟨h1, rfl, h2, h3⟩
  have HFIN2 : Hid (∀ w' r gp cl, (Rg.begun fs n (Gm.spot ⟨a, b, c, d⟩ slot) (Hd.enc (Gm.spot ⟨a, b, c, d⟩ slot) ⟨hv, slot, lay, seq, tail, now⟩)).2 = 0 → StH W w' cl r gd od vd td n (lo + 2) (Rg.begun fs n (Gm.spot ⟨a, b, c, d⟩ slot) (Hd.enc (Gm.spot ⟨a, b, c, d⟩ slot) ⟨hv, slot, lay, seq, tail, now⟩)).1 a b c d hv slot lay seq tail now gp [] 0 → Kept (rS gd od vd td) w w' → (∀ k, cl k ≠ 0 → rS gd od vd td k ∨ w.heap.size ≤ k) → RhOpened W w gd od vd td n lo fs a b c d hv slot lay seq tail now (.returned (.tuple #[.pointer (some ⟨r, 0, none⟩), .int .i64 0])) w') := fun w' r gp cl h1 h2 h3 h4 => .inr ⟨h1, r, gp, cl, rfl, h2, h3, h4⟩
  unfold Rg.begun Rg.syncFs Rg.syncErr at HFIN1 HFIN2
  simp only at HFIN1 HFIN2
  clear hsp hspot hval hokk
  generalize RhOpened W w gd od vd td n lo fs a b c d hv slot lay seq tail now = Q at *
  generalize Hd.enc (Gm.spot ⟨a, b, c, d⟩ slot) ⟨hv, slot, lay, seq, tail, now⟩ = en at *
  generalize Gm.spot ⟨a, b, c, d⟩ slot = x at *
  have HWR : Hid (∀ W A4 c4 B, Bs W B A4 en → (∀ ad, A4 = some ad → 0 < en.length → ¬ rS gd od vd td ad.block) → RDev W gd od vd td n lo fs → Calls Tryz.prog 40 #[.pointer (some ⟨gd, 0, none⟩), .int .i64 x, .slice A4 64 c4] W (RDid W gd od vd td n (lo + 1) (fs.write n x en) (fs.writeErr n x en))) := fun W A4 c4 B h1 h2 h3 =>
    rwrite_any x A4 B 64 c4 en (by decide) HLE.out h1 h2 (by omega) hok.out h3 (by omega)
  have HBA : Hid (∀ W, RDev W gd od vd td n (lo + 1) (fs.write n x en) → Calls Tryz.prog 42 #[.pointer (some ⟨gd, 0, none⟩)] W (RDid W gd od vd td n (lo + 2) (fs.write n x en).barrier (fs.write n x en).barrierErr)) := fun W h1 => rbarrier_any (by omega) (hok.out.write HLT.out) h1
  unfold RDid at HWR HBA
  have HSD : Hid (∀ k, w.heap.size ≤ k → ¬ rS gd od vd td k) := fun k hk e => by
    have := hd.out.lt
    unfold rS at e
    omega
  have HSX : Hid (w.heap.size ≤ w.heap.size ∧ w.heap.size ≤ w.heap.size + 1) := ⟨Nat.le_refl _, Nat.le_succ _⟩
  generalize (fs.write n x en).barrierErr = be at *
  generalize (fs.write n x en).barrier = f2 at *
  generalize fs.write n x en = f1 at *
  generalize fs.writeErr n x en = we at *
  by_cases h0 : we = 0
  all_goals
    first
      | (subst h0; rw [if_pos rfl, if_pos rfl] at HFIN1 HFIN2; by_cases h1 : be = 0)
      | (rw [if_neg h0, if_neg h0] at HFIN1; have e2 : (we != 0) = true := by simpa using h0)
    all_goals
      (try (have e3 : (be != 0) = true := by simpa using h1))
      (try subst h1)
      go_enter Tryz.func14, Tryz.ntmps14
      go_upto_region 1 with fail
      generalize (w.alloc (.cells #[.int .i64 a, .int .i64 b, .int .i64 c, .int .i64 d] 29)).alloc (.cells #[.int .i64 hv, .int .i64 slot, .int .i64 lay, .int .i64 seq, .int .i64 tail, .int .i64 now] 35) = w0 at *
      obtain ⟨⟨z0, z1, z2, z3⟩, y0, y1, y2, y3, y4, y5⟩ := HX0.out.cells
      go_wp2_with fail
      refine (HENC.out _).mono ?_
      rintro e w1 ⟨A1, c1, rfl, hown, hb1⟩
      obtain ⟨A', k', he, hbs, -⟩ := own_bytes hown HLT.out
      injection he with he1 _ he2
      subst he1 he2
      have HBS := Lib.hid hbs
      have HAP : Hid (∀ ad, A1 = some ad → 0 < en.length → ¬ rS gd od vd td ad.block) := fun ad e _ => by
        subst e
        exact HSD.out _ (Nat.le_trans HB0.out.size (hown.lt _ rfl).1)
      have HX1 := Lib.hid (HX0.out.next hb1)
      have HB1 := Lib.hid (HB0.out.trans (hb1.mono HB0.out.size))
      clear hb1 hown hbs z0 z1 z2 z3 y0 y1 y2 y3 y4 y5
      go_wp2_with fail
      refine (HWR.out _ _ _ _ HBS.out HAP.out (hd.out.next HB1.out)).mono ?_
      rintro e w2 ⟨rfl, hd2, hk2⟩
      have HX2 := Lib.hid (HX1.out.kept hk2 (HSD.out _ HSX.out.1) (HSD.out _ HSX.out.2))
      have HD2 := Lib.hid hd2
      have HK2 := Lib.hid ((Kept.of_new HB1.out).trans hk2)
      clear hd2 hk2
      first
        | (go_wp2_with fail
           refine (HBA.out _ HD2.out).mono ?_
           rintro e w3 ⟨rfl, hd3, hk3⟩
           have HX3 := Lib.hid (HX2.out.kept hk3 (HSD.out _ HSX.out.1) (HSD.out _ HSX.out.2))
           have HD3 := Lib.hid hd3
           have HK3 := Lib.hid (HK2.out.trans hk3)
           obtain ⟨⟨z0, z1, z2, z3⟩, y0, y1, y2, y3, y4, y5⟩ := HX3.out.cells
           clear hd3 hk3
           obtain ⟨cl, hst, hcl⟩ := sth_start (a := a) (b := b) (c := c) (d := d) (hv := hv) (slot := slot) (lay := lay) (seq := seq) (tail := tail) (now := now) hw.out hnew.out HD3.out HK3.out
           have HST := Lib.hid hst
           have HCL := Lib.hid hcl
           clear hst hcl
           unfold RgBox at HST
           go_wp2
           first
             | exact HFIN2.out _ _ _ _ rfl HST.out ((HK3.out.trans (Kept.alloc _ _)).trans (Kept.alloc _ _)) HCL.out
             | exact HFIN2.out _ _ _ _ trivial HST.out ((HK3.out.trans (Kept.alloc _ _)).trans (Kept.alloc _ _)) HCL.out
             | exact HFIN1.out _ h1 HD3.out HK3.out)
        | (go_wp2
           exact HFIN1.out _ h0 (HD2.out.more (Nat.le_succ _)) HK2.out)
end Go.Proofs.YtgnbmmceffolmaaGreatDoor
end
section
set_option maxRecDepth 100000
namespace Go.Proofs.YtgnbmmceffolmaaGreatDoor
open Go.RowKit
/-- A block of none of the things. -/
def FreeB (c c2 : Nat → Nat) (w : World) (b : Nat) (o : Obj) : Prop := w.heap[b]? = some o ∧ c b = 0 ∧ c2 b = 0
section
variable {c c' c2 c2' : Nat → Nat} {W w w' : World} {b : Nat} {o : Obj}
theorem FreeB.lt (h : FreeB c c2 w b o) : b < w.heap.size := (Array.getElem?_eq_some_iff.1 h.1).1
theorem FreeB.new (h : FreeB c c2 w b o) (hb : Below w.heap.size w w') : FreeB c c2 w' b o := ⟨(hb.block b h.lt).trans h.1, h.2⟩
theorem FreeB.went (h : FreeB c c2 w b o) (hk : Went c c' w w') : FreeB c' c2 w' b o := ⟨(hk.1.block b h.lt fun e => e h.2.1).trans h.1, (hk.2 b h.lt).trans h.2.1, h.2.2⟩
end
/-- Both regions, the layout's box and the header's. -/
structure RgBoth (W wr : World) (c c2 : Nat → Nat) (r gd cd md rh hd od vd td n lo : Nat) (f : Flash) (ver rs sl : Int) (gp gq : Nat) (st : List Nat) (q q2 : Nat) : Prop where
  g : StG W wr c r gd cd md n f 3 ver rs 4 ver sl 3 7 3 9 gp st (Pk.full st)
  h : StH W wr c2 rh hd od vd td n lo f 3 ver rs 4 ver sl 3 7 3 9 gq st (Pk.full st)
  side : Side c c2
  lay : FreeB c c2 wr q (.cells #[.int .i64 3, .int .i64 ver, .int .i64 rs, .int .i64 4] 29 (0, 0))
  hdr : FreeB c c2 wr q2 (.cells #[.int .i64 ver, .int .i64 sl, .int .i64 3, .int .i64 7, .int .i64 3, .int .i64 9] 35 (0, 0))
section
variable {W wr w1 w2 : World} {c c' c2 c2' : Nat → Nat} {r gd cd md rh hd od vd td n lo lo' : Nat} {f f' : Flash} {ver rs sl : Int} {gp gq : Nat} {st st' : List Nat} {q q2 : Nat}
theorem RgBoth.new (h : RgBoth W wr c c2 r gd cd md rh hd od vd td n lo f ver rs sl gp gq st q q2) (hb : Below wr.heap.size wr w1) : RgBoth W w1 c c2 r gd cd md rh hd od vd td n lo f ver rs sl gp gq st q q2 :=
  ⟨h.g.new hb, ⟨h.h.colr.next hb.size, h.h.up.trans (hb.mono h.h.up.size), (hb.block _ h.h.lt).trans h.h.box, h.h.rc, h.h.p.new hb, h.h.d.next hb, h.h.dc⟩, h.side, h.lay.new hb, h.hdr.new hb⟩
end
namespace Rg
end Rg
theorem FlashOk.run {n : Nat} : ∀ (xs : List (Int × List Nat)) (s : Flash), FlashOk n s → (∀ x ∈ xs, ∀ y ∈ x.2, y < 256) → FlashOk n (Rg.run s n xs).1
  | [], s, h, _ => h
  | x :: t, s, h, hx => by
    have h1 := h.write (i := x.1) (hx x (List.mem_cons_self ..))
    rw [Rg.run_cons]
    split
    · exact FlashOk.run t _ h1 fun y hy => hx y (List.mem_cons_of_mem _ hy)
    · exact h1
theorem FlashOk.after {l : Sb.L} {slot seq : Int} {fs : Flash} {n k : Nat} {st st' : List Nat} (h : FlashOk n fs) (hf : Pk.Fit l slot seq st' k) : FlashOk n (Rg.after l slot seq fs n st st').1 := by
  refine FlashOk.run _ fs h fun x hx => ?_
  unfold Rg.items at hx
  obtain ⟨i, hi, rfl⟩ := List.mem_map.1 hx
  have hi2 := List.mem_range'_1.1 hi
  exact Pk.frame_lt hf (by omega)
/-- At most fifteen frames. -/
theorem Small.full {ver : Int} {rs : Nat} (h : Small ver rs) {slot seq : Int} {st : List Nat} {k : Nat} (hf : Pk.Fit ⟨3, ver, (rs : Int), 4⟩ slot seq st k) : Pk.full st ≤ 15 := by
  have h1 := h.cap.2
  have h2 := hf.le
  unfold Pk.full
  omega
section
variable {S : Nat → Prop} {W wr wr' : World} {c c2 : Nat → Nat} {fs f : Flash} {r gd cd md rh hd od vd td n lo : Nat} {a b cc d hv slot lay seq tail now ver rs sl : Int} {gp gq : Nat} {st : List Nat} {k q q2 : Nat}
end
end Go.Proofs.YtgnbmmceffolmaaGreatDoor
end
