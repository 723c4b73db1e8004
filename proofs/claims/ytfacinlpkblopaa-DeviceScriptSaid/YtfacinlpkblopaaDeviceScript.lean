/-
  The law on scripts, walked.
-/
import Derived.Test.YtfacinlpkblopaaRefParts
import Derived.Test.YtfacinlpkblopaaRegionGate
namespace Go.Proofs.Ytfacinlpkblopaa
open Go.RowKit Go.Maps
theorem rd5 {w : World} {g : Nat} {a0 a1 a2 a3 a4 : Value} {t : TypeId} (h : w.heap[g]? = some (.cells #[a0, a1, a2, a3, a4] t (0, 0))) :
    (w.cell? ⟨g, 0, none⟩ = some a0 ∧ w.cell? ⟨g, 1, none⟩ = some a1 ∧ w.cell? ⟨g, 2, none⟩ = some a2 ∧ w.cell? ⟨g, 3, none⟩ = some a3 ∧ w.cell? ⟨g, 4, none⟩ = some a4) ∧
    w.frozen? ⟨g, 2, none⟩ = false ∧ w.frozen? ⟨g, 3, none⟩ = false ∧ w.frozen? ⟨g, 4, none⟩ = false := by
  refine ⟨⟨?_, ?_, ?_, ?_, ?_⟩, frozen_of_row w g 2 _ t h, frozen_of_row w g 3 _ t h, frozen_of_row w g 4 _ t h⟩
  · rw [cell_of_row w g 0 _ t (0, 0) h]; rfl
  · rw [cell_of_row w g 1 _ t (0, 0) h]; rfl
  · rw [cell_of_row w g 2 _ t (0, 0) h]; rfl
  · rw [cell_of_row w g 3 _ t (0, 0) h]; rfl
  · rw [cell_of_row w g 4 _ t (0, 0) h]; rfl
theorem op_stored {w wA : World} {G g c m r o v t n i : Nat} {s : Flash} {a0 a1 a2 a3 a4 b2 b3 b4 : Value} {T : TypeId} (hG : wA.heap[G]? = some (.cells #[a0, a1, a2, a3, a4] T (0, 0))) (h : ScriptAt w wA g c m r o v t n i s) (hfar : ∀ k, devS g c m k ∨ rS r o v t k → k < G) (hge : w.heap.size ≤ G) :
    (((wA.setCell ⟨G, 2, none⟩ b2).setCell ⟨G, 3, none⟩ b3).setCell ⟨G, 4, none⟩ b4).drew.heap[G]? = some (.cells #[a0, a1, b2, b3, b4] T (0, 0)) ∧
      ScriptAt w (((wA.setCell ⟨G, 2, none⟩ b2).setCell ⟨G, 3, none⟩ b3).setCell ⟨G, 4, none⟩ b4).drew g c m r o v t n i s ∧ G < (((wA.setCell ⟨G, 2, none⟩ b2).setCell ⟨G, 3, none⟩ b3).setCell ⟨G, 4, none⟩ b4).drew.heap.size := by
  have hlt : G < wA.heap.size := (Array.getElem?_eq_some_iff.1 hG).1
  have k1 : Kept (fun k => k = G) wA (((wA.setCell ⟨G, 2, none⟩ b2).setCell ⟨G, 3, none⟩ b3).setCell ⟨G, 4, none⟩ b4).drew :=
    (((Kept.setCell (S := fun k => k = G) _ ⟨G, 2, none⟩ b2 rfl).trans (Kept.setCell (S := fun k => k = G) _ ⟨G, 3, none⟩ b3 rfl)).trans (Kept.setCell (S := fun k => k = G) _ ⟨G, 4, none⟩ b4 rfl)).drewN 1
  have h' := h
  have ne : ∀ k, devS g c m k ∨ rS r o v t k → ¬ k = G := fun k hk e => by have := hfar k hk; omega
  refine ⟨?_, ⟨h'.dev.kept k1 (ne g (.inl (.inl rfl))) (ne c (.inl (.inr (.inl rfl)))) (ne m (.inl (.inr (.inr rfl)))), h'.ref.kept k1 (ne r (.inr (.inl rfl))) (ne o (.inr (.inr (.inl rfl)))) (ne v (.inr (.inr (.inr (.inl rfl))))) (ne t (.inr (.inr (.inr (.inr rfl))))), h'.wr_, h'.below.trans (k1.below h'.below.size (fun k e => by omega)), h'.ge, h'.apart⟩, Nat.lt_of_lt_of_le hlt k1.size⟩
  have e0 : wA.heap[G]? = some (.cells #[a0, a1, a2, a3, a4] T (0, 0)) := hG
  have e1 := heap_setCell_same wA G 2 _ T b2 e0
  have e2 := heap_setCell_same _ G 3 _ T b3 e1
  have e3 := heap_setCell_same _ G 4 _ T b4 e2
  have e5 : (((wA.setCell ⟨G, 2, none⟩ b2).setCell ⟨G, 3, none⟩ b3).setCell ⟨G, 4, none⟩ b4).heap[G]? = some (.cells #[a0, a1, b2, b3, b4] T (0, 0)) := by simpa using e3
  exact e5
/-- Bytes that came in lie apart from what is made. -/
theorem bs_out {w W : World} {A : Option Addr} {l : List Nat} {S : Nat → Prop} (h : Bs W w.heap.size A l) (hS : ∀ k, S k → w.heap.size ≤ k) : ∀ ad, A = some ad → 0 < l.length → ¬ S ad.block := fun ad e hl hs => by
  obtain ⟨_, ad', e', h3, _⟩ := h 0 hl
  rw [e] at e'
  injection e' with e'
  subst e'
  have := hS _ hs
  omega
theorem cells_12 {W : World} {G : Nat} {a0 a1 a2 a3 a4 : Value} {T : TypeId} (h : W.heap[G]? = some (.cells #[a0, a1, a2, a3, a4] T (0, 0))) : W.cell? ⟨G, 1, none⟩ = some a1 ∧ W.cell? ⟨G, 2, none⟩ = some a2 := ⟨(rd5 h).1.2.1, (rd5 h).1.2.2.1⟩
theorem cells_34 {W : World} {G : Nat} {a0 a1 a2 a3 a4 : Value} {T : TypeId} (h : W.heap[G]? = some (.cells #[a0, a1, a2, a3, a4] T (0, 0))) : W.cell? ⟨G, 3, none⟩ = some a3 ∧ W.cell? ⟨G, 4, none⟩ = some a4 := ⟨(rd5 h).1.2.2.2.1, (rd5 h).1.2.2.2.2⟩
theorem script_fresh {w w3 w4 : World} {wb g c m r o v t n i g3 c3 m3 r4 o4 v4 t4 : Nat} {s s' : Flash} (h : ScriptAt w w3 g c m r o v t n i s) (hd : Dev w3 g3 c3 m3 n (Flash.fresh s'.cur)) (hq : wb ≤ g3 ∧ wb ≤ c3 ∧ wb ≤ m3) (hwb : w.heap.size ≤ wb)
    (hr : RDev w4 r4 o4 v4 t4 n 0 (Flash.fresh s'.cur)) (h1 : w3.heap.size ≤ r4) (h2 : w3.heap.size ≤ o4) (h3 : w3.heap.size ≤ v4) (h4 : w3.heap.size ≤ t4) (hb : Below w3.heap.size w3 w4) : ScriptAt w w4 g3 c3 m3 r4 o4 v4 t4 n (i + 1) (Flash.fresh s'.cur) := by
  obtain ⟨q1, q2, q3⟩ := hd.lt
  have hs := h.below.size
  refine ⟨hd.next hb, hr.more (by omega), Nat.zero_le _, h.below.trans (hb.mono hs), fun k hk => ?_, fun k hk h => ?_⟩
  · rcases hk with (h | h | h) | (h | h | h | h) <;> omega
  · rcases hk with e | e | e <;> rcases h with h | h | h | h <;> omega
theorem blank_of (n : Nat) (ni : Int) (hni : ni = (n : Int)) (w : World) (hn1 : 1 ≤ n) (hn2 : n ≤ 1048576) :
    Calls Try.prog 10 #[.int .i64 ni] w (RMade w n (List.replicate (n * 64) 0)) := by
  subst hni; exact blank_any n w hn1 hn2
set_option maxRecDepth 100000 in
set_option maxHeartbeats 4000000 in
theorem devicescript_any (x : Int) (A : Option Addr) (no ca : Nat) (w : World) (hs0 : SlOk A no ca) (hb0 : Hid (OpsAt w w.heap.size A no)) :
    Calls Try.prog 3 #[.int .i64 x, .slice A no ca] w (LawDid w) := by
  obtain ⟨hA, hnc, hcm⟩ := hs0
  have HA := Lib.hid hA; clear hA
  obtain ⟨j, hj, hjj⟩ := mod_named x 8 (by omega) (by omega)
  have hjj' := hjj.out
  go_enter Try.func3, Try.ntmps3
  go_wp2_with fail
  refine (new_yes (j + 1) _ (by omega) _ (by omega) (by omega)).mono ?_
  rintro e w1 ⟨g, c, m, rfl, hd, hg, hc, hm, hbl1⟩
  have HD := Lib.hid (And.intro hd hbl1); clear hd hbl1
  go_wp2_with fail
  refine (blank_of (j + 1) _ (by omega) _ (by omega) (by omega)).mono ?_
  rintro e w2 ⟨r, o, v, t, rfl, hr, hr1, ho1, hv1, ht1, hbl2⟩
  have H0 : Hid (ScriptAt w w2 g c m r o v t (j + 1) 0 (Flash.fresh (List.replicate ((j + 1) * 64) 0))) := by
    obtain ⟨q1, q2, q3⟩ := HD.out.1.lt
    have hs1 := HD.out.2.size
    refine ⟨HD.out.1.next hbl2, hr, Nat.le_refl _, HD.out.2.trans (hbl2.mono hs1), fun k hk => ?_, fun k hk h => ?_⟩
    · rcases hk with (h | h | h) | (h | h | h | h) <;> omega
    · rcases hk with h1 | h1 | h1 <;> rcases h with h | h | h | h <;> omega
  clear HD hr hbl2 hjj hjj' hr1 ho1 hv1 ht1 hg hc hm
  generalize hN : j + 1 = N at H0
  have HN : Hid (1 ≤ N ∧ N ≤ 8) := by show _ ∧ _; omega
  clear hN
  go_wp2_with fail
  go_loopw [5, 6, 7] (fun dv mv iv wr => ∃ (i g c m r o v t : Nat) (s : Flash), i ≤ no ∧ i ≤ 30 ∧ iv = .int .i64 (i : Int) ∧ dv = .pointer (some ⟨g, 0, none⟩) ∧ mv = .pointer (some ⟨r, 0, none⟩) ∧ Hid (ScriptAt w wr g c m r o v t N i s)) (fun _ _ iv _ => 30 - (RowKit.intOf iv).toNat)
  case atStart => exact ⟨0, _, _, _, _, _, _, _, _, Nat.zero_le _, by omega, rfl, rfl, rfl, H0⟩
  case round =>
    clear H0
    obtain ⟨i, g, c, m, r, o, v, t, s, hin, hi30, rfl, rfl, rfl, hR⟩ := hrel
    by_cases hlt1 : i < no
    · by_cases hlt2 : i < 30
      · obtain ⟨ad, kd, ix, Ab, nb, cb, lb, Ak, nk, ck, lk, At, nt, ct, lt, rfl, hop⟩ := hb0.out.below hR.out.below (Nat.le_refl _) i hlt1
        have HOP := Lib.hid hop; clear hop
        obtain ⟨q0, q1, q2, q3, q4⟩ := HOP.out.cells
        go_wp2_with fail
        obtain ⟨mb, hmb1, hmb2, hmb, hminb⟩ := min_named nb 70
        obtain ⟨mk, hmk1, hmk2, hmk, hmink⟩ := min_named nk 9
        obtain ⟨mt, hmt1, hmt2, hmt, hmint⟩ := min_named nt 5
        have HM := Lib.hid (And.intro hmb (And.intro hmk hmt)); clear hmb hmk hmt
        have n1 : ∀ ty w, (Builtin.min_ #[3, 3] ty #[.int .i64 (nb : Int), .int .i64 70]).run Try.prog w = .ok (.int .i64 (mb : Int)) w := fun ty w => by
          have h := hminb.out
          rw [← h]; simp [Builtin.min_, Builtin.min2]
        have n2 : ∀ ty w, (Builtin.min_ #[3, 3] ty #[.int .i64 (nk : Int), .int .i64 9]).run Try.prog w = .ok (.int .i64 (mk : Int)) w := fun ty w => by
          have h := hmink.out
          rw [← h]; simp [Builtin.min_, Builtin.min2]
        have n3 : ∀ ty w, (Builtin.min_ #[3, 3] ty #[.int .i64 (nt : Int), .int .i64 5]).run Try.prog w = .ok (.int .i64 (mt : Int)) w := fun ty w => by
          have h := hmint.out
          rw [← h]; simp [Builtin.min_, Builtin.min2]
        have lb1 : mb ≤ cb := Nat.le_trans hmb1 HOP.out.sb.2.1
        have lk1 : mk ≤ ck := Nat.le_trans hmk1 HOP.out.sk.2.1
        have lt1 : mt ≤ ct := Nat.le_trans hmt1 HOP.out.st.2.1
        have hGA : (wr.alloc (.cells #[.int .i64 kd, .int .i64 ix, .slice Ab nb cb, .slice Ak nk ck, .slice At nt ct] 31 (0, 0))).heap[wr.heap.size]? = some (.cells #[.int .i64 kd, .int .i64 ix, .slice Ab nb cb, .slice Ak nk ck, .slice At nt ct] 31 (0, 0)) := heap_alloc_new _ _
        have HRA : Hid (ScriptAt w (wr.alloc (.cells #[.int .i64 kd, .int .i64 ix, .slice Ab nb cb, .slice Ak nk ck, .slice At nt ct] 31 (0, 0))) g c m r o v t N i s ∧ Below wr.heap.size wr (wr.alloc (.cells #[.int .i64 kd, .int .i64 ix, .slice Ab nb cb, .slice Ak nk ck, .slice At nt ct] 31 (0, 0)))) := by
          have hb : Below wr.heap.size wr (wr.alloc (.cells #[.int .i64 kd, .int .i64 ix, .slice Ab nb cb, .slice Ak nk ck, .slice At nt ct] 31 (0, 0))) := (Below.refl _ wr).alloc (Nat.le_refl _) _
          exact ⟨hR.out.next hb, hb⟩
        have HFAR : Hid (∀ k, devS g c m k ∨ rS r o v t k → k < wr.heap.size) := fun k hk => by
          obtain ⟨e1, e2, e3⟩ := hR.out.dev.lt
          obtain ⟨e4, e5, e6, e7⟩ := hR.out.ref.lt
          rcases hk with (h | h | h) | (h | h | h | h) <;> subst h <;> assumption
        have hGE : w.heap.size ≤ wr.heap.size := hR.out.below.size
        have HRB : Hid (Below w.heap.size wr (wr.alloc (.cells #[.int .i64 kd, .int .i64 ix, .slice Ab nb cb, .slice Ak nk ck, .slice At nt ct] 31 (0, 0)))) := HRA.out.2.mono hGE
        clear q0 q1 q2 q3 q4 hminb hmink hmint
        obtain ⟨⟨x0, x1, x2, x3, x4⟩, y2, y3, y4⟩ := rd5 hGA
        generalize (wr.alloc (.cells #[.int .i64 kd, .int .i64 ix, .slice Ab nb cb, .slice Ak nk ck, .slice At nt ct] 31 (0, 0))) = wA at *
        generalize wr.heap.size = G at *
        have HGR : Hid (wA.heap[G]? = some (.cells #[.int .i64 kd, .int .i64 ix, .slice Ab nb cb, .slice Ak nk ck, .slice At nt ct] 31 (0, 0))) := hGA
        have HGE : Hid (w.heap.size ≤ G) := hGE
        clear hGA hGE
        refine wp_region_gated 22 (fun W => W.cell? ⟨G, 2, none⟩ = some (.slice Ab nb cb) ∧ W.cell? ⟨G, 3, none⟩ = some (.slice Ak nk ck) ∧ W.cell? ⟨G, 4, none⟩ = some (.slice At nt ct)) (by kernel_rfl) ?_
        change Gated _ _ _ _ 22 _ 27 #[false, false, false, false, false, false, false, false, false, false, false, false, false, false, false, false, false, false, false, false, false, false, false, false, false, false, false] _ wA.drew
        have HSD : wA.drew.cell? ⟨G, 2, none⟩ = some (.slice Ab nb cb) ∧ wA.drew.cell? ⟨G, 3, none⟩ = some (.slice Ak nk ck) ∧ wA.drew.cell? ⟨G, 4, none⟩ = some (.slice At nt ct) := ⟨x2, x3, x4⟩
        refine Gated.take (i := 0) (v := ?_) (d := some 36) rfl rfl (by kernel_rfl) (by kernel_rfl) (by kernel_rfl) (fun _ _ _ h => h) rfl (fun _ => HSD) ⟨by rfl, fun w => ?_⟩ ?_
        rotate_left
        · (go_simp; all_goals with_reducible rfl)
        simp only [Act.put, List.setIfInBounds_toArray, List.set_cons_zero, List.set_cons_succ]
        refine Gated.load (i := 1) (v := ?_) (d := some 37) rfl rfl (by kernel_rfl) (by kernel_rfl) (by kernel_rfl) (fun _ _ _ h => h) rfl (by kernel_rfl) (by kernel_rfl) HSD ⟨by rfl, fun w hSw => ?_⟩ ?_
        rotate_left
        · obtain ⟨s2, s3, s4⟩ := hSw
          (go_simp; all_goals with_reducible rfl)
        simp only [Act.put, List.setIfInBounds_toArray, List.set_cons_zero, List.set_cons_succ]
        refine Gated.take (i := 2) (v := ?_) (d := some 38) rfl rfl (by kernel_rfl) (by kernel_rfl) (by kernel_rfl) (fun _ _ _ h => h) rfl (fun _ => HSD) ⟨by rfl, fun w => ?_⟩ ?_
        rotate_left
        · (go_simp; all_goals with_reducible rfl)
        simp only [Act.put, List.setIfInBounds_toArray, List.set_cons_zero, List.set_cons_succ]
        refine Gated.load (i := 3) (v := ?_) (d := some 39) rfl rfl (by kernel_rfl) (by kernel_rfl) (by kernel_rfl) (fun _ _ _ h => h) rfl (by kernel_rfl) (by kernel_rfl) HSD ⟨by rfl, fun w hSw => ?_⟩ ?_
        rotate_left
        · obtain ⟨s2, s3, s4⟩ := hSw
          (go_simp; all_goals with_reducible rfl)
        simp only [Act.put, List.setIfInBounds_toArray, List.set_cons_zero, List.set_cons_succ]
        refine Gated.take (i := 4) (v := ?_) (d := some 40) rfl rfl (by kernel_rfl) (by kernel_rfl) (by kernel_rfl) (fun _ _ _ h => h) rfl (fun _ => HSD) ⟨by rfl, fun w => ?_⟩ ?_
        rotate_left
        · (go_simp; all_goals with_reducible rfl)
        simp only [Act.put, List.setIfInBounds_toArray, List.set_cons_zero, List.set_cons_succ]
        refine Gated.take (i := 5) (v := ?_) (d := some 41) rfl rfl (by kernel_rfl) (by kernel_rfl) (by kernel_rfl) (fun _ _ _ h => h) rfl (fun _ => HSD) ⟨by rfl, fun w => ?_⟩ ?_
        rotate_left
        · (go_simp; all_goals with_reducible rfl)
        simp only [Act.put, List.setIfInBounds_toArray, List.set_cons_zero, List.set_cons_succ]
        refine Gated.take (i := 6) (v := ?_) (d := some 42) rfl rfl (by kernel_rfl) (by kernel_rfl) (by kernel_rfl) (fun _ _ _ h => h) rfl (fun _ => HSD) ⟨by rfl, fun w => ?_⟩ ?_
        rotate_left
        · (go_simp; all_goals with_reducible rfl)
        simp only [Act.put, List.setIfInBounds_toArray, List.set_cons_zero, List.set_cons_succ]
        refine Gated.take (i := 7) (v := ?_) (d := some 43) rfl rfl (by kernel_rfl) (by kernel_rfl) (by kernel_rfl) (fun _ _ _ h => h) rfl (fun _ => HSD) ⟨by rfl, fun w => ?_⟩ ?_
        rotate_left
        · (go_simp; all_goals with_reducible rfl)
        simp only [Act.put, List.setIfInBounds_toArray, List.set_cons_zero, List.set_cons_succ]
        refine Gated.load (i := 8) (v := ?_) (d := some 44) rfl rfl (by kernel_rfl) (by kernel_rfl) (by kernel_rfl) (fun _ _ _ h => h) rfl (by kernel_rfl) (by kernel_rfl) HSD ⟨by rfl, fun w hSw => ?_⟩ ?_
        rotate_left
        · obtain ⟨s2, s3, s4⟩ := hSw
          (go_simp; all_goals with_reducible rfl)
        simp only [Act.put, List.setIfInBounds_toArray, List.set_cons_zero, List.set_cons_succ]
        refine Gated.take (i := 9) (v := ?_) (d := some 45) rfl rfl (by kernel_rfl) (by kernel_rfl) (by kernel_rfl) (fun _ _ _ h => h) rfl (fun _ => HSD) ⟨by rfl, fun w => ?_⟩ ?_
        rotate_left
        · (go_simp; all_goals with_reducible rfl)
        simp only [Act.put, List.setIfInBounds_toArray, List.set_cons_zero, List.set_cons_succ]
        refine Gated.load (i := 10) (v := ?_) (d := some 46) rfl rfl (by kernel_rfl) (by kernel_rfl) (by kernel_rfl) (fun _ _ _ h => h) rfl (by kernel_rfl) (by kernel_rfl) HSD ⟨by rfl, fun w hSw => ?_⟩ ?_
        rotate_left
        · obtain ⟨s2, s3, s4⟩ := hSw
          (go_simp; all_goals with_reducible rfl)
        simp only [Act.put, List.setIfInBounds_toArray, List.set_cons_zero, List.set_cons_succ]
        refine Gated.take (i := 11) (v := ?_) (d := some 47) rfl rfl (by kernel_rfl) (by kernel_rfl) (by kernel_rfl) (fun _ _ _ h => h) rfl (fun _ => HSD) ⟨by rfl, fun w => ?_⟩ ?_
        rotate_left
        · (go_simp; all_goals with_reducible rfl)
        simp only [Act.put, List.setIfInBounds_toArray, List.set_cons_zero, List.set_cons_succ]
        refine Gated.take (i := 12) (v := ?_) (d := some 48) rfl rfl (by kernel_rfl) (by kernel_rfl) (by kernel_rfl) (fun _ _ _ h => h) rfl (fun _ => HSD) ⟨by rfl, fun w => ?_⟩ ?_
        rotate_left
        · (go_simp; all_goals with_reducible rfl)
        simp only [Act.put, List.setIfInBounds_toArray, List.set_cons_zero, List.set_cons_succ]
        refine Gated.take (i := 13) (v := ?_) (d := some 49) rfl rfl (by kernel_rfl) (by kernel_rfl) (by kernel_rfl) (fun _ _ _ h => h) rfl (fun _ => HSD) ⟨by rfl, fun w => ?_⟩ ?_
        rotate_left
        · (go_simp; all_goals with_reducible rfl)
        simp only [Act.put, List.setIfInBounds_toArray, List.set_cons_zero, List.set_cons_succ]
        refine Gated.take (i := 14) (v := ?_) (d := some 50) rfl rfl (by kernel_rfl) (by kernel_rfl) (by kernel_rfl) (fun _ _ _ h => h) rfl (fun _ => HSD) ⟨by rfl, fun w => ?_⟩ ?_
        rotate_left
        · (go_simp; all_goals with_reducible rfl)
        simp only [Act.put, List.setIfInBounds_toArray, List.set_cons_zero, List.set_cons_succ]
        refine Gated.load (i := 15) (v := ?_) (d := some 51) rfl rfl (by kernel_rfl) (by kernel_rfl) (by kernel_rfl) (fun _ _ _ h => h) rfl (by kernel_rfl) (by kernel_rfl) HSD ⟨by rfl, fun w hSw => ?_⟩ ?_
        rotate_left
        · obtain ⟨s2, s3, s4⟩ := hSw
          (go_simp; all_goals with_reducible rfl)
        simp only [Act.put, List.setIfInBounds_toArray, List.set_cons_zero, List.set_cons_succ]
        refine Gated.take (i := 16) (v := ?_) (d := some 52) rfl rfl (by kernel_rfl) (by kernel_rfl) (by kernel_rfl) (fun _ _ _ h => h) rfl (fun _ => HSD) ⟨by rfl, fun w => ?_⟩ ?_
        rotate_left
        · (go_simp; all_goals with_reducible rfl)
        simp only [Act.put, List.setIfInBounds_toArray, List.set_cons_zero, List.set_cons_succ]
        refine Gated.load (i := 17) (v := ?_) (d := some 53) rfl rfl (by kernel_rfl) (by kernel_rfl) (by kernel_rfl) (fun _ _ _ h => h) rfl (by kernel_rfl) (by kernel_rfl) HSD ⟨by rfl, fun w hSw => ?_⟩ ?_
        rotate_left
        · obtain ⟨s2, s3, s4⟩ := hSw
          (go_simp; all_goals with_reducible rfl)
        simp only [Act.put, List.setIfInBounds_toArray, List.set_cons_zero, List.set_cons_succ]
        refine Gated.take (i := 18) (v := ?_) (d := some 54) rfl rfl (by kernel_rfl) (by kernel_rfl) (by kernel_rfl) (fun _ _ _ h => h) rfl (fun _ => HSD) ⟨by rfl, fun w => ?_⟩ ?_
        rotate_left
        · (go_simp; all_goals with_reducible rfl)
        simp only [Act.put, List.setIfInBounds_toArray, List.set_cons_zero, List.set_cons_succ]
        refine Gated.take (i := 19) (v := ?_) (d := some 55) rfl rfl (by kernel_rfl) (by kernel_rfl) (by kernel_rfl) (fun _ _ _ h => h) rfl (fun _ => HSD) ⟨by rfl, fun w => ?_⟩ ?_
        rotate_left
        · (go_simp; all_goals with_reducible rfl)
        simp only [Act.put, List.setIfInBounds_toArray, List.set_cons_zero, List.set_cons_succ]
        refine Gated.take (i := 20) (v := ?_) (d := some 56) rfl rfl (by kernel_rfl) (by kernel_rfl) (by kernel_rfl) (fun _ _ _ h => h) rfl (fun _ => HSD) ⟨by rfl, fun w => ?_⟩ ?_
        rotate_left
        · (go_simp; all_goals with_reducible rfl)
        simp only [Act.put, List.setIfInBounds_toArray, List.set_cons_zero, List.set_cons_succ]
        refine Gated.take (i := 21) (v := ?_) (d := some 57) rfl rfl (by kernel_rfl) (by kernel_rfl) (by kernel_rfl) (fun _ _ _ h => h) rfl (fun _ => HSD) ⟨by rfl, fun w => ?_⟩ ?_
        rotate_left
        · (go_simp; all_goals with_reducible rfl)
        simp only [Act.put, List.setIfInBounds_toArray, List.set_cons_zero, List.set_cons_succ]
        refine Gated.step (i := 22) rfl (by kernel_rfl) (by kernel_rfl) (by rfl) (fun K hK => ?_)
        go_simp
        refine hK _ _ ?_
        clear hK K
        simp only [List.setIfInBounds_toArray, List.set_cons_zero, List.set_cons_succ]
        refine Gated.take (i := 23) (v := ?_) (d := some 58) rfl rfl (by kernel_rfl) (by kernel_rfl) (by kernel_rfl) (fun _ _ _ h => h) rfl (fun h => by cases h) ⟨by rfl, fun w => ?_⟩ ?_
        rotate_left
        · (go_simp; all_goals with_reducible rfl)
        simp only [Act.put, List.setIfInBounds_toArray, List.set_cons_zero, List.set_cons_succ]
        refine Gated.step (i := 24) rfl (by kernel_rfl) (by kernel_rfl) (by rfl) (fun K hK => ?_)
        go_simp
        refine hK _ _ ?_
        clear hK K
        simp only [List.setIfInBounds_toArray, List.set_cons_zero, List.set_cons_succ]
        refine Gated.take (i := 25) (v := ?_) (d := some 59) rfl rfl (by kernel_rfl) (by kernel_rfl) (by kernel_rfl) (fun _ _ _ h => h) rfl (fun h => by cases h) ⟨by rfl, fun w => ?_⟩ ?_
        rotate_left
        · (go_simp; all_goals with_reducible rfl)
        simp only [Act.put, List.setIfInBounds_toArray, List.set_cons_zero, List.set_cons_succ]
        refine Gated.step (i := 26) rfl (by kernel_rfl) (by kernel_rfl) (by rfl) (fun K hK => ?_)
        go_simp
        refine hK _ _ ?_
        clear hK K
        simp only [List.setIfInBounds_toArray, List.set_cons_zero, List.set_cons_succ]
        refine Gated.done (by kernel_rfl) ?_
        have HB8 : Hid ((((wA.setCell ⟨G, 2, none⟩ (.slice Ab mb cb)).setCell ⟨G, 3, none⟩ (.slice Ak mk ck)).setCell ⟨G, 4, none⟩ (.slice At mt ct)).drew.heap[G]? = some (.cells #[.int .i64 kd, .int .i64 ix, .slice Ab mb cb, .slice Ak mk ck, .slice At mt ct] 31 (0, 0)) ∧
            ScriptAt w (((wA.setCell ⟨G, 2, none⟩ (.slice Ab mb cb)).setCell ⟨G, 3, none⟩ (.slice Ak mk ck)).setCell ⟨G, 4, none⟩ (.slice At mt ct)).drew g c m r o v t N i s ∧ G < (((wA.setCell ⟨G, 2, none⟩ (.slice Ab mb cb)).setCell ⟨G, 3, none⟩ (.slice Ak mk ck)).setCell ⟨G, 4, none⟩ (.slice At mt ct)).drew.heap.size) := op_stored HGR.out HRA.out.1 HFAR.out HGE.out
        have HWB0 : Hid (Below w.heap.size wr (((wA.setCell ⟨G, 2, none⟩ (.slice Ab mb cb)).setCell ⟨G, 3, none⟩ (.slice Ak mk ck)).setCell ⟨G, 4, none⟩ (.slice At mt ct)).drew) := (((HRB.out.setCell HGE.out _).setCell HGE.out _).setCell HGE.out _).drew
        generalize (((wA.setCell ⟨G, 2, none⟩ (.slice Ab mb cb)).setCell ⟨G, 3, none⟩ (.slice Ak mk ck)).setCell ⟨G, 4, none⟩ (.slice At mt ct)).drew = wB at HB8 HWB0 ⊢
        clear x0 x1 x2 x3 x4 y2 y3 y4 HSD HRA n1 n2 n3 hR
        obtain ⟨⟨z0, z1, z2, z3, z4⟩, -⟩ := rd5 HB8.out.1
        have HR8 := Lib.hid HB8.out.2.1
        have HG8 : Hid (G < wB.heap.size ∧ ¬ devS g c m G ∧ ¬ rS r o v t G) := ⟨HB8.out.2.2, fun h => Nat.lt_irrefl _ (HFAR.out G (.inl h)), fun h => Nat.lt_irrefl _ (HFAR.out G (.inr h))⟩
        have HX := Lib.hid HB8.out.1
        have HLb : Hid ((lb.take mb).length = mb) := by show _ = _; rw [List.length_take, HOP.out.lb_]; omega
        have HLk : Hid ((lk.take mk).length = mk) := by show _ = _; rw [List.length_take, HOP.out.lk_]; omega
        have HLt : Hid ((lt.take mt).length = mt) := by show _ = _; rw [List.length_take, HOP.out.lt_]; omega
        have HW : Hid (∀ W, Below w.heap.size wr W → Bs W w.heap.size Ab (lb.take mb) ∧ Bls W w.heap.size Ak (lk.take mk) ∧ Trs W w.heap.size At (lt.take mt)) := fun W hb => ⟨(HOP.out.bs.below hb (Nat.le_refl _)).take mb, (HOP.out.bls.below hb (Nat.le_refl _)).take mk, (HOP.out.trs.below hb (Nat.le_refl _)).take mt⟩
        have HWB : Hid (Below w.heap.size wr wB) := HWB0.out
        have HIX := Lib.hid HOP.out.ib
        have hm63 : mb ≤ 9223372036854775807 := by omega
        have ht63 : mt ≤ 9223372036854775807 := by omega
        have HRL : Hid ((s.readOf N ix).length ≤ 140737488355328) := Nat.le_trans (readOf_len HR8.out.dev.ok ix) (by omega)
        have HWR : Hid (s.wr < 4611686018427387904) := by have := HR8.out.wr_; show _ < _; omega
        have HD0 : Hid (∀ W, W.heap = wB.heap → W.os = wB.os → W.tape = wB.tape → W.output = wB.output → ScriptAt w W g c m r o v t N i s ∧ Below w.heap.size wr W) := fun W e1 e2 e3 e4 =>
          ⟨⟨HR8.out.dev.block (by rw [e1]) (by rw [e1]) (by rw [e1]), HR8.out.ref.block (by rw [e1]) (by rw [e1]) (by rw [e1]) (by rw [e1]), HR8.out.wr_, ⟨e2.trans HR8.out.below.os, e3.trans HR8.out.below.tape, e4.trans HR8.out.below.output, by rw [e1]; exact HR8.out.below.size, fun k hk => by rw [e1]; exact HR8.out.below.block k hk⟩, HR8.out.ge, HR8.out.apart⟩,
            ⟨e2.trans HWB.out.os, e3.trans HWB.out.tape, e4.trans HWB.out.output, by rw [e1]; exact HWB.out.size, fun k hk => by rw [e1]; exact HWB.out.block k hk⟩⟩
        clear HB8 HFAR HGR HGE HWB0
        by_cases k0 : kd = 0
        · subst k0
          go_wp2_with fail
          go_region_held3 (fun W => W.cell? ⟨G, 1, none⟩ = some (.int .i64 ix) ∧ W.cell? ⟨G, 2, none⟩ = some (.slice Ab mb cb))
            (first
              | go_keep
              | exact cells_12 HX4.out
              | exact cells_12 HX5.out)
            (first
              | (go_at_call 11; refine (write_any ix Ab w.heap.size mb cb (lb.take mb) hm63 HLb (Lib.hid (HW.out _ (HD0.out _ (by rfl) (by rfl) (by rfl) (by rfl)).2).1) (Lib.hid (HD0.out _ (by rfl) (by rfl) (by rfl) (by rfl)).1.dev) HWR.out).mono ?_; rintro e w3 ⟨rfl, hd3, hk3⟩; have HD3 := Lib.hid hd3; have HK3 : Hid (Kept (devS g c m) wB w3) := hk3.step rfl rfl rfl rfl; have HRR := Lib.hid (HR8.out.ref1 HK3.out); have HX4 : Hid (w3.heap[G]? = some (.cells #[.int .i64 0, .int .i64 ix, .slice Ab mb cb, .slice Ak mk ck, .slice At mt ct] 31 (0, 0))) := (HK3.out.block G HG8.out.1 HG8.out.2.1).trans HX.out; have HW3 : Hid (Bs w3 w.heap.size Ab (lb.take mb)) := (HW.out wB HWB.out).1.kept HK3.out (bs_out (HW.out wB HWB.out).1 (fun k hk => HR8.out.ge k (.inl hk))); clear hd3 hk3)
              | (go_at_call 12; refine (rwrite_any ix Ab w.heap.size mb cb (lb.take mb) hm63 HLb HW3 (Lib.hid (bs_out HW3.out (fun k hk => HR8.out.ge k (.inr hk)))) (by omega) HR8.out.dev.ok HRR HWR.out).mono ?_; rintro e w4 ⟨rfl, hr4, hk4⟩; have HE : Hid (ScriptAt w w4 g c m r o v t N (i + 1) (s.write N ix (lb.take mb))) := HR8.out.both HK3.out HD3.out hr4 hk4 (by have := write_wr s N ix (lb.take mb); have := HR8.out.wr_; omega); have HX5 : Hid (w4.heap[G]? = some (.cells #[.int .i64 0, .int .i64 ix, .slice Ab mb cb, .slice Ak mk ck, .slice At mt ct] 31 (0, 0))) := (hk4.block G (Nat.lt_of_lt_of_le HG8.out.1 HK3.out.size) HG8.out.2.2).trans HX4.out; clear hr4 hk4))
          all_goals (
            go_wp2_with (go_at_call 22; refine (same_any (Lib.hid HE.out.dev) (Lib.hid HE.out.ref)).mono ?_; rintro e wF ⟨rfl, hbF⟩; have HFin := Lib.hid (HE.out.next hbF); clear hbF)
            go_roundw
            case rel => exact ⟨i + 1, _, _, _, _, _, _, _, _, by omega, by omega, by go_num, rfl, rfl, HFin.out⟩
            case measure => simp [RowKit.intOf]; omega)
        by_cases k1 : kd = 1
        · subst k1
          have HX3 := HX
          go_wp2_with (first
            | (go_at_call 13; refine (dread_any ix (Lib.hid HR8.out.dev)).mono ?_; rintro e w3 ⟨A3, c3, rfl, hbs3, hb3⟩; have HB3 := Lib.hid hbs3; have HR3 := Lib.hid (HR8.out.next hb3); have HX4 : Hid (w3.heap[G]? = _) := (hb3.block G HG8.out.1).trans HX3.out; obtain ⟨⟨-, z1', -⟩, -⟩ := rd5 HX4.out; clear hbs3 hb3)
            | (go_at_call 14; refine (rread_any ix HR3.out.dev.ok (Lib.hid HR3.out.ref)).mono ?_; rintro e w4 ⟨A4, c4, rfl, hbs4, hb4⟩; have HB4 := Lib.hid (And.intro (HB3.out.next hb4) hbs4); have HR4 := Lib.hid (HR3.out.next hb4); clear hbs4 hb4)
            | (go_at_call 15; refine (refeq_any A3 A4 w4.heap.size w4.heap.size _ _ c3 c4 (s.readOf N ix) (s.readOf N ix) w4 rfl rfl HRL.out HRL.out HB4.out.1 HB4.out.2).mono ?_; rw [decide_eq_true (Eq.refl (s.readOf N ix))]; rintro e w5 ⟨rfl, q5, rfl⟩))
          have HE : Hid (ScriptAt w (w4.drewN q5) g c m r o v t N (i + 1) s) := HR4.out.more.next (below_drewN (Below.refl _ _) _)
          go_wp2_with (go_at_call 22; refine (same_any (Lib.hid HE.out.dev) (Lib.hid HE.out.ref)).mono ?_; rintro e wF ⟨rfl, hbF⟩; have HFin := Lib.hid (HE.out.next hbF); clear hbF)
          go_roundw
          case rel => exact ⟨i + 1, _, _, _, _, _, _, _, _, by omega, by omega, by go_num, rfl, rfl, HFin.out⟩
          case measure => simp [RowKit.intOf]; omega
        by_cases k2 : kd = 2
        · subst k2
          go_wp2_with (first
            | (go_at_call 16; refine (barrier_any (Lib.hid HR8.out.dev)).mono ?_; rintro e w3 ⟨rfl, hd3, hk3⟩; have HD3 := Lib.hid hd3; have HK3 : Hid (Kept (devS g c m) wB w3) := hk3.mono (fun k _ h => h.elim .inl (fun h => .inr (.inr h))); have HRR := Lib.hid (HR8.out.ref1 HK3.out); clear hd3 hk3)
            | (go_at_call 17; refine (rbarrier_any (by omega) HR8.out.dev.ok HRR).mono ?_; rintro e w4 ⟨rfl, hr4, hk4⟩; have HE : Hid (ScriptAt w w4 g c m r o v t N (i + 1) s.barrier) := HR8.out.both HK3.out HD3.out hr4 hk4 (by have := barrier_wr s; have := HR8.out.wr_; omega); clear hr4 hk4))
          go_wp2_with (go_at_call 22; refine (same_any (Lib.hid HE.out.dev) (Lib.hid HE.out.ref)).mono ?_; rintro e wF ⟨rfl, hbF⟩; have HFin := Lib.hid (HE.out.next hbF); clear hbF)
          go_roundw
          case rel => exact ⟨i + 1, _, _, _, _, _, _, _, _, by omega, by omega, by go_num, rfl, rfl, HFin.out⟩
          case measure => simp [RowKit.intOf]; omega
        by_cases k3 : kd = 3
        · subst k3
          go_wp2_with (first
            | (go_at_call 18; refine (fuse_any ix HIX.out.2 (Lib.hid HR8.out.dev)).mono ?_; rintro e w3 ⟨rfl, hd3, hk3⟩; have HD3 := Lib.hid hd3; have HK3 : Hid (Kept (devS g c m) wB w3) := hk3.mono (fun k _ h => .inl h); have HRR := Lib.hid (HR8.out.ref1 HK3.out); have HX4 : Hid (w3.heap[G]? = _) := (HK3.out.block G HG8.out.1 HG8.out.2.1).trans HX.out; obtain ⟨⟨-, z1', -⟩, -⟩ := rd5 HX4.out; clear hd3 hk3)
            | (go_at_call 19; refine (rfuse_any ix HIX.out.2 HRR).mono ?_; rintro e w4 ⟨rfl, hr4, hk4⟩; have HE : Hid (ScriptAt w w4 g c m r o v t N (i + 1) (s.setFuse ix)) := HR8.out.both HK3.out HD3.out (hr4.more (by omega)) (hk4.mono fun k _ e => .inl e) (by have := HR8.out.wr_; show s.wr ≤ _; omega); clear hr4 hk4))
          go_wp2_with (go_at_call 22; refine (same_any (Lib.hid HE.out.dev) (Lib.hid HE.out.ref)).mono ?_; rintro e wF ⟨rfl, hbF⟩; have HFin := Lib.hid (HE.out.next hbF); clear hbF)
          go_roundw
          case rel => exact ⟨i + 1, _, _, _, _, _, _, _, _, by omega, by omega, by go_num, rfl, rfl, HFin.out⟩
          case measure => simp [RowKit.intOf]; omega
        go_wp2_with fail
        go_region_held3 (fun W => W.cell? ⟨G, 3, none⟩ = some (.slice Ak mk ck) ∧ W.cell? ⟨G, 4, none⟩ = some (.slice At mt ct))
          (first
            | go_keep
            | exact cells_34 HX4.out
            | exact cells_34 HX5.out)
          (first
            | (go_at_call 20; refine (crash_any Ak At mk ck mt ct (lk.take mk) (lt.take mt) ht63 HLk HLt (Lib.hid ((HW.out _ (HD0.out _ (by rfl) (by rfl) (by rfl) (by rfl)).2).2.1.up (HD0.out _ (by rfl) (by rfl) (by rfl) (by rfl)).1.below.size)) (Lib.hid ((HW.out _ (HD0.out _ (by rfl) (by rfl) (by rfl) (by rfl)).2).2.2.up (HD0.out _ (by rfl) (by rfl) (by rfl) (by rfl)).1.below.size)) (Lib.hid (HD0.out _ (by rfl) (by rfl) (by rfl) (by rfl)).1.dev)).mono ?_; rintro e w3 ⟨g3, c3, m3, rfl, hd3, hg3, hc3, hm3, hb3⟩; have HD3 := Lib.hid hd3; have HB3 : Hid (Below wB.heap.size wB w3) := below_step (Below.refl _ wB) hb3 rfl rfl rfl rfl (Nat.le_refl _); have HQ3 : Hid (wB.heap.size ≤ g3 ∧ wB.heap.size ≤ c3 ∧ wB.heap.size ≤ m3) := ⟨hg3, hc3, hm3⟩; have HX4 : Hid (w3.heap[G]? = some (.cells #[.int .i64 kd, .int .i64 ix, .slice Ab mb cb, .slice Ak mk ck, .slice At mt ct] 31 (0, 0))) := (HB3.out.block G HG8.out.1).trans HX.out; have HR3 := Lib.hid (HR8.out.next HB3.out); clear hd3 hg3 hc3 hm3 hb3)
            | (go_at_call 21; refine (rcrash_any w3 Ak At mk ck mt ct (lk.take mk) (lt.take mt) ht63 HLk HLt (Lib.hid ((HW.out w3 (HWB.out.trans (HB3.out.mono HR8.out.below.size))).2.1.up HR3.out.below.size)) (Lib.hid ((HW.out w3 (HWB.out.trans (HB3.out.mono HR8.out.below.size))).2.2.up HR3.out.below.size)) HR3.out.dev.ok (Lib.hid HR3.out.ref)).mono ?_; rintro e w4 ⟨r4, o4, v4, t4, rfl, hr4, hr4a, ho4, hv4, ht4, hb4⟩; have HE : Hid (ScriptAt w w4 g3 c3 m3 r4 o4 v4 t4 N (i + 1) (Flash.fresh (crashed N s.cur s.old (lk.take mk) (lt.take mt)))) := script_fresh (s' := ⟨crashed N s.cur s.old (lk.take mk) (lt.take mt), fun _ => none, 0, false, 0, false⟩) HR3.out HD3.out HQ3.out HR8.out.below.size hr4 hr4a ho4 hv4 ht4 hb4; have HX5 : Hid (w4.heap[G]? = some (.cells #[.int .i64 kd, .int .i64 ix, .slice Ab mb cb, .slice Ak mk ck, .slice At mt ct] 31 (0, 0))) := (hb4.block G (Nat.lt_of_lt_of_le HG8.out.1 HB3.out.size)).trans HX4.out; clear hr4 hr4a ho4 hv4 ht4 hb4))
        all_goals (
          go_wp2_with (go_at_call 22; refine (same_any (Lib.hid HE.out.dev) (Lib.hid HE.out.ref)).mono ?_; rintro e wF ⟨rfl, hbF⟩; have HFin := Lib.hid (HE.out.next hbF); clear hbF)
          go_roundw
          case rel => exact ⟨i + 1, _, _, _, _, _, _, _, _, by omega, by omega, by go_num, rfl, rfl, HFin.out⟩
          case measure => simp [RowKit.intOf]; omega)
      · go_wp2_with (go_at_call 23; refine (awake_any _).mono ?_; rintro e w7 ⟨rfl, hb7⟩)
        go_ret
        exact ⟨rfl, hR.out.below.trans (hb7.mono hR.out.below.size)⟩
    · go_wp2_with (go_at_call 23; refine (awake_any _).mono ?_; rintro e w7 ⟨rfl, hb7⟩)
      go_ret
      exact ⟨rfl, hR.out.below.trans (hb7.mono hR.out.below.size)⟩
end Go.Proofs.Ytfacinlpkblopaa
