/-
  The walk of layer 13's Awake, and the law PackerNone.
-/
import Derived.Test.YtjmhnbohojdodaaDoorPkFrames
set_option maxRecDepth 100000
namespace Go.Proofs.YtjmhnbohojdodaaDoor
open Go.RowKit
def pl : Sb.L := ⟨1, 1, 4, 4⟩
theorem pl_ok : Pk.ok ⟨1, 1, 4, 4⟩ 0 1 := by decide
def pr : Rc.Rec := ⟨2, [107], [], 0⟩
theorem pr_err : Pk.err ⟨1, 1, 4, 4⟩ [] ⟨2, [107], [], 0⟩ = 0 := by decide
theorem pr_len : (Pk.put ⟨1, 1, 4, 4⟩ 1 [] ⟨2, [107], [], 0⟩).length = 17 := by
  rw [Pk.put_ok pr_err, List.nil_append, Rc.enc_length]; rfl
theorem grow_from {w w1 : World} (h : w.heap.size ≤ w1.heap.size) (k : Nat) (e : Grow (fun k => w.heap.size ≤ k) w1 k) : w.heap.size ≤ k := by
  rcases e with e | e <;> omega
theorem from_below {w w1 w2 : World} (h : Below w.heap.size w w1) (k : Kept (fun k => w.heap.size ≤ k) w1 w2) : Below w.heap.size w w2 := h.trans (k.below h.size fun _ e => e)
theorem none_in (w : World) (B : Nat) : SlIs none 0 0 ∧ ([] : List Nat).length = 0 ∧ Bs w B none [] := ⟨⟨fun _ => ⟨rfl, rfl⟩, Nat.le_refl _, by decide⟩, rfl, fun k hk => absurd hk (by simp)⟩
set_option maxHeartbeats 2000000 in
theorem pkawake_any (w : World) (ht : Hid (TabW w)) (hz : 0 < w.heap.size) : Calls Tryd.prog 10 #[] w fun e w' => e = .returned (.bool true) ∧ Below w.heap.size w w' := by
  have kc := fun (w : World) (C : Array Value) (n c : Nat) => Lib.run_convert_bytes_const (P := Tryd.prog) w 34 5 C n c Tryd.underlying34 Tryd.underlying5
  have HN := Lib.hid (fun W => pknew_any 1 1 4 4 0 1 W)
  have hmay : Pk.may ⟨1, 1, 4, 4⟩ 0 1 = 0 := Pk.may_zero pl_ok
  unfold PkNew at HN
  rw [hmay] at HN
  clear hmay
  go_enter Tryd.func10, Tryd.ntmps10
  go_wp2_with fail
  refine (HN.out _).mono ?_
  rintro e w1 ⟨p, rfl, hb1, -, hok⟩
  obtain ⟨g, rfl, hg, hp1⟩ := hok pl_ok
  have HB1 := Lib.hid hb1
  have HP1 := Lib.hid hp1
  have HF1 : Hid (Pk.Fit ⟨1, 1, 4, 4⟩ 0 1 [] 0) := Pk.Fit.start pl_ok
  clear hb1 hok hp1 HN
  go_wp2_with fail
  have HBA : Hid (Below w1.heap.size w1 (w1.alloc (.cells #[.int .u8 107] 5 (1, 2)))) := (Below.refl _ w1).alloc (Nat.le_refl _) _
  have HBW : Hid (Below w.heap.size w (w1.alloc (.cells #[.int .u8 107] 5 (1, 2)))) := HB1.out.trans (HBA.out.mono HB1.out.size)
  have HRI : Hid (RecIn (w1.alloc (.cells #[.int .u8 107] 5 (1, 2))) (w1.heap.size + 1) (some ⟨w1.heap.size, 0, none⟩) none 1 1 0 0 [107] []) := ⟨⟨⟨(fun e => by cases e), Nat.le_refl _, by decide⟩, rfl, bs_one w1 107 (by decide) _⟩, none_in _ _⟩
  refine (pkput_any 2 0 [107] [] (some ⟨w1.heap.size, 0, none⟩) none (w1.heap.size + 1) 1 1 0 0 (by simp) HRI (Lib.hid (HP1.out.new HBA.out)) HF1.out (Lib.hid (ht.out.below HBW.out hz)) (Nat.lt_of_lt_of_le hz HBW.out.size)).mono ?_
  rintro e w2 ⟨rfl, hp2, hk2⟩
  rw [pr_err, if_pos rfl, if_pos rfl]
  have HB2 := Lib.hid (from_below HBW.out hk2)
  have HP2 := Lib.hid (hp2.mono fun k _ e => grow_from HBW.out.size k e)
  have HF2 : Hid (Pk.Fit ⟨1, 1, 4, 4⟩ 0 1 (Pk.put ⟨1, 1, 4, 4⟩ 1 [] ⟨2, [107], [], 0⟩) 0) := HF1.out.put _ (by decide) (by decide)
  have HL2 := Lib.hid pr_len
  have hrl : ((Rc.len ⟨2, [107], [], 0⟩ : Nat) : Int) = 17 := rfl
  have hst0 : (([] : List Nat).length : Int) = 0 := rfl
  rw [hrl, hst0]
  clear hp2 hk2 HP1 HF1 HBA HBW HRI hrl hst0
  generalize Pk.put ⟨1, 1, 4, 4⟩ 1 [] ⟨2, [107], [], 0⟩ = s2 at *
  have HCAP : Hid ((Pk.cap ⟨1, 1, 4, 4⟩ : Int) - (s2.length : Int) = 160) := by show _ = _; rw [HL2.out]; decide
  have HL2i : Hid ((s2.length : Int) = 17) := by show _ = _; rw [HL2.out]; rfl
  have CO := Lib.hid (pkoff_any HP2)
  have CR := Lib.hid (pkroom_any HP2 HF2.out)
  rw [HCAP.out] at CR
  rw [HL2i.out] at CO
  go_wp2_with fail
  refine CO.out.mono ?_
  rintro e w3 ⟨rfl, rfl⟩
  go_wp2_with fail
  refine CR.out.mono ?_
  rintro e w3 ⟨rfl, hb3⟩
  have HP3 := Lib.hid (HP2.out.new hb3)
  have HB3 : Hid (Below w.heap.size w w3) := HB2.out.trans (hb3.mono HB2.out.size)
  clear hb3 CO CR HP2 HB2
  go_wp2_with fail
  refine (pkpad_any HP3 HF2.out.short).mono ?_
  rintro e w4 ⟨rfl, hp4, hk4⟩
  have HB4 := Lib.hid (from_below HB3.out hk4)
  have HP4 := Lib.hid (hp4.mono fun k _ e => grow_from HB3.out.size k e)
  have HF4 := Lib.hid HF2.out.pad
  have HL4 : Hid ((Pk.pad s2).length = 59) := by show _ = _; rw [Pk.pad_length, HL2.out]
  have HFU : Hid (Pk.full (Pk.pad s2) = 1) := by show _ = _; unfold Pk.full; rw [HL4.out]
  clear hp4 hk4 HP3 HB3 HF2
  generalize Pk.pad s2 = s4 at *
  go_wp2_with fail
  refine (pktake_any HP4 HF4.out (by omega) (Lib.hid (ht.out.below HB4.out hz)) (Nat.lt_of_lt_of_le hz HB4.out.size)).mono ?_
  rintro e w5 ⟨v1, v2, rfl, hs5, hf5, hp5, hk5⟩
  rw [HFU.out] at hs5 hf5 hp5
  have HB5 := Lib.hid (from_below HB4.out hk5)
  have HP5 := Lib.hid hp5
  obtain ⟨g1, c1, rfl, hc1, hc2⟩ := hs5.box (by decide)
  have h75 : w5.cell? ⟨g1, 0, none⟩ = some (.int .i64 75) := by
    have := hs5.cells _ rfl 0 (.int .i64 75) rfl
    rwa [arr_flat] at this
  unfold maxLen at hc2
  have CO := Lib.hid (pkoff_any HP5)
  have HL4i : Hid ((s4.length : Int) = 59) := by show _ = _; rw [HL4.out]; rfl
  rw [HL4i.out] at CO
  clear hs5 hf5 hp5 hk5
  go_wp2_with fail
  refine CO.out.mono ?_
  rintro e w6 ⟨rfl, rfl⟩
  go_wp2
  go_ret
  exact ⟨rfl, HB5.out⟩
set_option maxHeartbeats 2000000 in
theorem pknone_any (w : World) (ht : Hid (TabW w)) (hz : 0 < w.heap.size) : Calls Tryd.prog 6 #[] w fun e w' => e = .returned (.bool true) ∧ Below w.heap.size w w' := by
  go_enter Tryd.func6, Tryd.ntmps6
  go_wp2_with fail
  refine (pkput_nil _ _ _ _ _ _ _ _ _).mono ?_
  rintro e w1 ⟨rfl, hb1⟩
  go_wp2_with fail
  refine (pkpad_nil _).mono ?_
  rintro e w2 ⟨rfl, rfl⟩
  go_wp2_with fail
  refine (pktake_nil _).mono ?_
  rintro e w2 ⟨rfl, rfl⟩
  go_wp2_with fail
  refine (pkawake_any _ (Lib.hid (ht.out.below hb1 hz)) (Nat.lt_of_lt_of_le hz hb1.size)).mono ?_
  rintro e w3 ⟨rfl, hb3⟩
  have HB3 := Lib.hid (hb1.trans (hb3.mono hb1.size))
  go_wp2_with fail
  refine (pkoff_nil _).mono ?_
  rintro e w4 ⟨rfl, rfl⟩
  go_wp2_with fail
  refine (pkroom_nil _).mono ?_
  rintro e w4 ⟨rfl, rfl⟩
  go_wp2_with fail
  refine (pkbytes_nil _ _ _).mono ?_
  rintro e w4 ⟨rfl, rfl⟩
  go_wp2
  go_ret
  exact ⟨rfl, HB3.out⟩
end Go.Proofs.YtjmhnbohojdodaaDoor
