/-
  A chain in a statement's world, and the sanity check.
-/
import Derived.Test.YtlhjofcpcccdpaaChDrop
set_option maxRecDepth 100000
namespace Go.Proofs.Ytlhjofcpcccdpaa
open Go.RowKit Go.Maps
/-- A chain whose blocks all lie from B on. -/
structure CSt (B : Nat) (w : World) (q : Nat) (S : Nat → Prop) (M : Nat) (H : Int → List Ch.It) : Prop where
  s : ∀ k, S k → B ≤ k ∧ k < w.heap.size
  t : Chn M w S q H
section
variable {B q M : Nat} {w w' : World} {S : Nat → Prop} {H H' : Int → List Ch.It} {s o : Int} {k : ByteArray} {e : Ending}
theorem CSt.next (h : CSt B w q S M H) (hb : Below w.heap.size w w') : CSt B w' q S M H := ⟨fun k hk => ⟨(h.s k hk).1, Nat.lt_of_lt_of_le (h.s k hk).2 hb.size⟩, h.t.next hb⟩
theorem CSt.same (h : CSt B w q S M H) (hk : Kept S w w') (ht : Chn M w' S q H') : CSt B w' q S M H' := ⟨fun k hs => ⟨(h.s k hs).1, Nat.lt_of_lt_of_le (h.s k hs).2 hk.size⟩, ht⟩
theorem CSt.far {T : Nat → Prop} (h : CSt B w q S M H) (hk : Kept T w w') (hd : ∀ k, S k → ¬ T k) : CSt B w' q S M H := ⟨fun k hs => ⟨(h.s k hs).1, Nat.lt_of_lt_of_le (h.s k hs).2 hk.size⟩, h.t.kept hk fun k _ => hd k⟩
theorem CSt.below (h : CSt B w q S M H) (hB : B ≤ w.heap.size) (hk : Kept S w w') : Below B w w' := hk.below hB fun k hs => (h.s k hs).1
theorem CSt.snc (h : CSt B w q S M H) (hB : B ≤ w.heap.size) (hk : Kept S w w') (ht : Chn (M + 1) w' (Snc S w w') q H') : CSt B w' q (Snc S w w') (M + 1) H' :=
  ⟨fun k hs => hs.elim (fun hs => ⟨(h.s k hs).1, Nat.lt_of_lt_of_le (h.s k hs).2 hk.size⟩) fun hs => ⟨Nat.le_trans hB hs.1, hs.2⟩, ht⟩
end
/-- The cells of one item. -/
theorem its_at {w : World} {lo B g : Nat} {l : List Ch.It} (h : Arr itS w lo B (some ⟨g, 0, none⟩) l) (i : Nat) (hi : i < l.length) (o : Int) (k : ByteArray) (e : l.getD i Ch.It0 = (o, k)) : w.cell? ⟨g, i * 2, none⟩ = some (.int .i64 o) ∧ w.cell? ⟨g, i * 2 + 1, none⟩ = some (.string k) := by
  have h0 := h.cell i hi 0 (.int .i64 o) (by rw [show l.getD i itS.z = (o, k) from e]; rfl)
  have h1 := h.cell i hi 1 (.string k) (by rw [show l.getD i itS.z = (o, k) from e]; rfl)
  rw [arr_flat] at h0 h1
  rw [Nat.zero_add] at h0 h1
  exact ⟨h0, h1⟩
def kA : ByteArray := { data := #[97] }
def kB : ByteArray := { data := #[98] }
theorem awake_items : Ch.add (Ch.add (fun _ => []) 5 17 kA) 5 0 kB 5 = [(0, kB), (17, kA)] := by
  unfold Ch.add
  rw [if_pos rfl, if_pos rfl]
  rfl
theorem awake_seqs {ss : List Int} (ha : ss.Pairwise (· < ·)) (hm : ∀ x, x ∈ ss ↔ Ch.add (Ch.add (fun _ => []) 5 17 kA) 5 0 kB x ≠ []) : ss = [5] := by
  refine Ch.asc_eq ha (List.pairwise_singleton _ _) fun x => ?_
  rw [hm x, List.mem_singleton]
  constructor
  · intro h
    rcases Classical.em (x = 5) with e | e
    · exact e
    · unfold Ch.add at h
      rw [if_neg e, if_neg e] at h
      exact absurd rfl h
  · rintro rfl
    rw [awake_items]
    intro h; cases h
set_option maxHeartbeats 2000000 in
theorem chawake_any (w : World) : Calls Try.prog 18 #[] w fun e w' => e = .returned (.bool true) ∧ Below w.heap.size w w' := by
  obtain ⟨B, hB⟩ : ∃ B, w.heap.size = B := ⟨_, rfl⟩
  have CN := Lib.hid (chnew_any 0 w)
  have HB0 : Hid (B ≤ w.heap.size) := Nat.le_of_eq hB.symm
  rw [hB]
  go_enter Try.func18, Try.ntmps18
  go_wp2_with fail
  refine CN.out.mono ?_
  rw [hB]
  rintro e w1 ⟨rfl, hb1, hT1⟩
  have HB1 := Lib.hid hb1
  have HS1 : Hid (CSt B w1 B (fun k => k = B) 0 (fun _ => [])) := ⟨fun k e => by rw [e]; exact ⟨Nat.le_refl _, hT1.lt⟩, hT1⟩
  clear hb1 hT1 CN hB
  go_wp2_with fail
  refine (chadd_any 0 B 5 17 kA _ _ w1 (by decide) (by decide) (by decide) (by decide) HS1.out.t).mono ?_
  rintro e w2 ⟨rfl, hk2, hT2⟩
  have HS2 := Lib.hid (HS1.out.snc (Nat.le_trans HB0.out HB1.out.size) hk2 hT2)
  have HB2 := Lib.hid (HB1.out.trans (HS1.out.below (Nat.le_trans HB0.out HB1.out.size) hk2))
  generalize Snc (fun k => k = B) w1 w2 = S2 at *
  clear hk2 hT2 HS1 HB1
  go_wp2_with fail
  refine (chadd_any 1 B 5 0 kB _ _ w2 (by decide) (by decide) (by decide) (by decide) HS2.out.t).mono ?_
  rintro e w3 ⟨rfl, hk3, hT3⟩
  have HS3 := Lib.hid (HS2.out.snc (Nat.le_trans HB0.out HB2.out.size) hk3 hT3)
  have HB3 := Lib.hid (HB2.out.trans (HS2.out.below (Nat.le_trans HB0.out HB2.out.size) hk3))
  generalize Snc S2 w2 w3 = S3 at *
  clear hk3 hT3 HS2 HB2
  have CI := chitems_any 2 B 5 _ S3 w3 (by decide) (by decide) HS3.out.t
  rw [awake_items] at CI
  go_wp2_with fail
  refine CI.mono ?_
  rintro e w4 ⟨g, c, rfl, -, -, -, -, harr, -, hb4⟩
  have HS4 := Lib.hid (HS3.out.next hb4)
  have HB4 := Lib.hid (HB3.out.trans (hb4.mono (Nat.le_trans HB0.out HB3.out.size)))
  obtain ⟨(c0 : w4.cell? ⟨g, 0, none⟩ = _), (c1 : w4.cell? ⟨g, 1, none⟩ = _)⟩ := its_at harr 0 (by decide) _ _ rfl
  obtain ⟨(c2 : w4.cell? ⟨g, 2, none⟩ = _), (c3 : w4.cell? ⟨g, 3, none⟩ = _)⟩ := its_at harr 1 (by decide) _ _ rfl
  have hkb : kB.toList = [98] := by rw [Lib.toList_data]; rfl
  clear harr hb4 HS3 HB3 CI
  go_wp2_with fail
  refine (chseqs_any 2 B _ S3 w4 (by decide) HS4.out.t).mono ?_
  rintro e w5 ⟨v, ss, rfl, hrow, hss, hmem, hb5⟩
  obtain rfl := awake_seqs hss hmem
  obtain ⟨A, c', rfl, -, -⟩ := hrow.open_
  have HB5 := Lib.hid (HB4.out.trans (hb5.mono (Nat.le_trans HB0.out HB4.out.size)))
  clear hrow hb5 hss hmem
  go_wp2_with fail
  go_ret
  exact ⟨rfl, HB5.out⟩
end Go.Proofs.Ytlhjofcpcccdpaa
