/-
  The walk of layer 7's Awake.
-/
import Derived.Test.YtjfgnojmdbfnmaaDoorHdDecode
namespace Go.Proofs.YtjfgnojmdbfnmaaDoor
open Go.RowKit
theorem hd_parts : (Hd.enc 80 ⟨1, 2, 3, 4, 1, 0⟩).getD 0 0 = 1 ∧ (Hd.enc 80 ⟨1, 2, 3, 4, 1, 0⟩).getD 12 0 = 4 := ⟨rfl, rfl⟩
theorem hd_one : Hd.valid ⟨1, 2, 3, 4, 1, 0⟩ := by decide
set_option maxHeartbeats 1000000 in
theorem hdawake_any (w : World) (ht : Hid (TabW w)) (hz : 0 < w.heap.size) : Calls Tryd.prog 12 #[] w fun r w' => r = .returned (.bool true) ∧ Below w.heap.size w w' := by
  have HE : Hid (Calls Tryd.prog 15 #[.agg #[.int .i64 1, .int .i64 2, .int .i64 3, .int .i64 4, .int .i64 1, .int .i64 0], .int .i64 80] w (FrEnc w (Hd.enc 80 ⟨1, 2, 3, 4, 1, 0⟩) 0)) := by
    have h := hdencode_any 1 2 3 4 1 0 80 w ht hz
    rwa [show Hd.err ⟨1, 2, 3, 4, 1, 0⟩ 80 = 0 by decide] at h
  have HLT : Hid (∀ y ∈ Hd.enc 80 ⟨1, 2, 3, 4, 1, 0⟩, y < 256) := Hd.enc_lt _ _
  have HLE : Hid ((Hd.enc 80 ⟨1, 2, 3, 4, 1, 0⟩).length = 64) := Hd.enc_length _ _
  have HD : Hid (∀ (W : World) (A : Option Addr) (c : Nat), Below w.heap.size w W → SlIs A 64 c → Bs W W.heap.size A (Hd.enc 80 ⟨1, 2, 3, 4, 1, 0⟩) → Calls Tryd.prog 16 #[.slice A 64 c, .int .i64 80] W (GotHd W ⟨1, 2, 3, 4, 1, 0⟩)) := fun W A c hW h1 h2 => by
    refine (hddecode_any 80 A W.heap.size 64 c _ W (Nat.le_refl _) h1 HLE.out h2 (ht.out.below hW hz) (Nat.lt_of_lt_of_le hz hW.size)).mono fun _ _ h => h.elim (fun h => ?_) (fun h => absurd ((Hd.good_enc 80 80 _ hd_one (by decide)).2 rfl) h.1)
    have h2 := h.2
    rwa [Hd.rd_enc 80 _ hd_one] at h2
  have HPT := Lib.hid hd_parts
  generalize Hd.enc 80 ⟨1, 2, 3, 4, 1, 0⟩ = en at *
  unfold FrEnc at HE
  unfold GotHd at HD
  simp only at HD
  go_enter Tryd.func12, Tryd.ntmps12
  go_wp2_with fail
  refine HE.out.mono ?_
  rintro r w1 ⟨A1, n1, c1, rfl, -, h2, -, hb1⟩
  obtain ⟨rfl, hown⟩ := h2 trivial
  have HB1 : Hid (Below w.heap.size w w1) := hb1
  obtain ⟨A1', c1', e1, hbs, -, hn1, hm1, ho1⟩ := own_bytes hown HLT.out
  injection e1 with e1 _ e3
  subst e1 e3
  obtain ⟨g, rfl, hg1, hg2⟩ : ∃ g, A1 = some ⟨g, 0, none⟩ ∧ w.heap.size ≤ g ∧ g < w1.heap.size := by
    rcases ho1 with ⟨_, h, _⟩ | ⟨g, h1, h2, h3⟩
    · omega
    · exact ⟨g, h1, h2, h3⟩
  have HS1 : Hid (SlIs (some (⟨g, 0, none⟩ : Addr)) 64 c1 ∧ Bs w1 w1.heap.size (some ⟨g, 0, none⟩) en) := ⟨⟨(fun e => by cases e), hn1, by unfold maxLen at hm1; exact hm1⟩, hbs⟩
  clear hb1 hown h2 hbs ho1
  go_wp2_with fail
  refine (HD.out _ _ _ HB1.out HS1.out.1 HS1.out.2).mono ?_
  rintro r w2 ⟨rfl, hb2⟩
  have HBA : Hid (Bs (w2.alloc (.cells #[.int .i64 1, .int .i64 2, .int .i64 3, .int .i64 4, .int .i64 1, .int .i64 0] 23)) w1.heap.size (some ⟨g, 0, none⟩) en) := HS1.out.2.below (hb2.alloc hb2.size _) (Nat.le_refl _)
  have HN : Hid ((w2.alloc (.cells #[.int .i64 1, .int .i64 2, .int .i64 3, .int .i64 4, .int .i64 1, .int .i64 0] 23)).heap[w2.heap.size]? = some (.cells #[.int .i64 1, .int .i64 2, .int .i64 3, .int .i64 4, .int .i64 1, .int .i64 0] 23 (0, 0))) := heap_alloc_new _ _
  have HB2 : Hid (Below w.heap.size w (w2.alloc (.cells #[.int .i64 1, .int .i64 2, .int .i64 3, .int .i64 4, .int .i64 1, .int .i64 0] 23))) := HB1.out.trans ((hb2.alloc hb2.size _).mono HB1.out.size)
  clear hb2
  go_upto_region 3 with fail
  generalize w2.alloc (.cells #[.int .i64 1, .int .i64 2, .int .i64 3, .int .i64 4, .int .i64 1, .int .i64 0] 23) = w3 at *
  obtain ⟨z0, z1, z2, z3, z4, z5⟩ := six_cells HN.out
  have c0 : w3.cell? ⟨g, 0, none⟩ = some (.int .u8 1) := by
    obtain ⟨_, ad', e, h1, h3⟩ := HBA.out 0 (by rw [HLE.out]; decide)
    injection e with e
    subst e
    rw [HPT.out.1] at h3
    exact h3
  have c12 : w3.cell? ⟨g, 12, none⟩ = some (.int .u8 4) := by
    obtain ⟨_, ad', e, h1, h3⟩ := HBA.out 12 (by rw [HLE.out]; decide)
    injection e with e
    subst e
    rw [HPT.out.2] at h3
    exact h3
  go_wp2
  go_ret
  exact ⟨rfl, HB2.out⟩
end Go.Proofs.YtjfgnojmdbfnmaaDoor
