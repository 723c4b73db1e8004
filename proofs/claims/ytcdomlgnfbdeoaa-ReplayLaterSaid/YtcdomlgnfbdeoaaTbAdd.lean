/-
  The walks of places.add, places.full, place.vacate.
-/
import Derived.Test.YtcdomlgnfbdeoaaTbFind
import Derived.BigQuiet
import Derived.RegionTactic
set_option maxRecDepth 100000
namespace Go.Proofs.Ytcdomlgnfbdeoaa
open Go.RowKit
theorem eight_box {w : World} {g : Nat} {p : Tb.Pl} {t : TypeId} (h : w.heap[g]? = some (.cells (plc p).toArray t (0, 0))) :
    w.cell? ⟨g, 0, none⟩ = some (.int .i8 p.st) ∧ w.cell? ⟨g, 1, none⟩ = some (.int .u64 (p.h : Int)) ∧ w.cell? ⟨g, 2, none⟩ = some (.string p.k) ∧ w.cell? ⟨g, 3, none⟩ = some (.int .i64 p.e.seq) ∧ w.cell? ⟨g, 4, none⟩ = some (.int .i64 p.e.off) ∧ w.cell? ⟨g, 5, none⟩ = some (.int .i64 p.e.len) ∧ w.cell? ⟨g, 6, none⟩ = some (.int .i64 p.e.exp) ∧ w.cell? ⟨g, 7, none⟩ = some (.bool p.e.hit) := by
  refine ⟨?_, ?_, ?_, ?_, ?_, ?_, ?_, ?_⟩ <;> (rw [cell_of_row _ _ _ _ _ _ h]; rfl)
theorem heap_drew {w : World} {b : Nat} {x : Option Obj} (h : w.heap[b]? = x) : w.drew.heap[b]? = x := h
theorem eight_kept {S : Nat → Prop} (w : World) (d o : Nat) (a0 a1 a2 a3 a4 a5 a6 a7 : Value) (hS : S d) : Kept S w ((((((((w.setCell ⟨d, o, none⟩ a0).setCell ⟨d, o + 1, none⟩ a1).setCell ⟨d, o + 2, none⟩ a2).setCell ⟨d, o + 3, none⟩ a3).setCell ⟨d, o + 4, none⟩ a4).setCell ⟨d, o + 5, none⟩ a5).setCell ⟨d, o + 6, none⟩ a6).setCell ⟨d, o + 7, none⟩ a7) :=
  (((((((Kept.setCell w _ _ hS).trans (Kept.setCell _ _ _ hS)).trans (Kept.setCell _ _ _ hS)).trans (Kept.setCell _ _ _ hS)).trans (Kept.setCell _ _ _ hS)).trans (Kept.setCell _ _ _ hS)).trans (Kept.setCell _ _ _ hS)).trans (Kept.setCell _ _ _ hS)
theorem eight_past {w : World} {b : Nat} {x : Option Obj} (hb : w.heap[b]? = x) (d o : Nat) (a0 a1 a2 a3 a4 a5 a6 a7 : Value) (hne : b ≠ d) : ((((((((w.setCell ⟨d, o, none⟩ a0).setCell ⟨d, o + 1, none⟩ a1).setCell ⟨d, o + 2, none⟩ a2).setCell ⟨d, o + 3, none⟩ a3).setCell ⟨d, o + 4, none⟩ a4).setCell ⟨d, o + 5, none⟩ a5).setCell ⟨d, o + 6, none⟩ a6).setCell ⟨d, o + 7, none⟩ a7).heap[b]? = x :=
  set_past (set_past (set_past (set_past (set_past (set_past (set_past (set_past hb hne _ _) hne _ _) hne _ _) hne _ _) hne _ _) hne _ _) hne _ _) hne _ _
set_option maxHeartbeats 400000 in
theorem pladd_any (q d n b u bo uo nx c wk : Nat) (v' : Value) (l : List Tb.Pl) (st : Int) (h : Nat) (k : ByteArray) (e0 e1 e2 e3 : Int) (e4 : Bool) (w : World) (hn : Hid (l.length = n)) (hn2 : 0 < n) (hn3 : n ≤ 1073741824) (hne : d ≠ q) (hu : u ≤ 1073741824)
    (hq : Hid (w.heap[q]? = some (.cells (tbc (.slice (some ⟨d, 0, none⟩) n n) b u v' bo uo nx c wk) 65 (0, 0))))
    (hp : Hid (w.heap[d]? = some (.cells (plS.flat l).toArray 84 (0, 0)))) (hG : Hid (Tb.Good l b u)) (hh : Hid (h = Tb.hs k)) :
    Calls Try.prog 34 #[.pointer (some ⟨q, 0, none⟩), .agg #[.int .i8 st, .int .u64 (h : Int), .string k, .int .i64 e0, .int .i64 e1, .int .i64 e2, .int .i64 e3, .bool e4]] w fun e w' => e = .returned (.tuple #[]) ∧ Kept (fun x => x = q ∨ x = d) w w' ∧
      ∃ t, Tb.Full l (Tb.home k b) t ∧ (Tb.g l (Tb.stp l (Tb.home k b) t)).st ≠ 1 ∧
        w'.heap[q]? = some (.cells (tbc (.slice (some ⟨d, 0, none⟩) n n) b (if (Tb.g l (Tb.stp l (Tb.home k b) t)).st = 0 then u + 1 else u) v' bo uo nx c wk) 65 (0, 0)) ∧
        w'.heap[d]? = some (.cells (plS.flat (l.set (Tb.stp l (Tb.home k b) t) ⟨st, h, k, ⟨e0, e1, e2, e3, e4⟩⟩)).toArray 84 (0, 0)) := by
  have hl0 : 0 < l.length := by rw [hn.out]; exact hn2
  have hho := Lib.hid (hG.out.home_in hl0 k)
  obtain ⟨f, hf1, hf2⟩ := hG.out.free hl0
  have HF1 := Lib.hid hf1
  have HF2 := Lib.hid hf2
  clear hf1 hf2 hl0
  have hpow : Hid (n = 2 ^ b) := by
    rcases hG.out.shape with ⟨e, _⟩ | ⟨e, _⟩
    · have := hn.out; rw [e] at this; exact absurd this (by simp; omega)
    · exact hn.out.symm.trans e
  have CH : Hid (∀ W : World, Calls Try.prog 43 #[.int .u64 (h : Int), .int .i64 (b : Int)] W fun e w' => e = .returned (.int .i64 (Key.home h (b : Int) : Int)) ∧ w' = W) := fun W => (home_any h (by rw [hh.out]; exact Tb.hs_lt k) (b : Int) W).mono fun _ _ x => ⟨x.1, x.2.symm⟩
  have hhm : Hid (Key.home h (b : Int) = Tb.home k b) := by show _ = _; rw [hh.out]; rfl
  rw [hhm.out] at CH
  generalize hA : Tb.home k b = a at *
  have HA := Lib.hid hA; clear hA
  go_enter Try.func34, Try.ntmps34
  go_upto_region 1 with fail
  have HX0 : Hid ((w.alloc (.cells #[.int .i8 st, .int .u64 (h : Int), .string k, .int .i64 e0, .int .i64 e1, .int .i64 e2, .int .i64 e3, .bool e4] 84)).heap[w.heap.size]? = some (.cells (plc ⟨st, h, k, ⟨e0, e1, e2, e3, e4⟩⟩).toArray 84 (0, 0))) := heap_alloc_new w _
  have HQ0 : Hid ((w.alloc (.cells #[.int .i8 st, .int .u64 (h : Int), .string k, .int .i64 e0, .int .i64 e1, .int .i64 e2, .int .i64 e3, .bool e4] 84)).heap[q]? = _) := (heap_alloc_old _ _ (Array.getElem?_eq_some_iff.1 hq.out).1).trans hq.out
  have HP0 : Hid ((w.alloc (.cells #[.int .i8 st, .int .u64 (h : Int), .string k, .int .i64 e0, .int .i64 e1, .int .i64 e2, .int .i64 e3, .bool e4] 84)).heap[d]? = _) := (heap_alloc_old _ _ (Array.getElem?_eq_some_iff.1 hp.out).1).trans hp.out
  have HK0 : Hid (Kept (fun x => x = q ∨ x = d) w (w.alloc (.cells #[.int .i8 st, .int .u64 (h : Int), .string k, .int .i64 e0, .int .i64 e1, .int .i64 e2, .int .i64 e3, .bool e4] 84))) := Kept.alloc _ _
  have HXQ : w.heap.size ≠ q := fun e => by have := (Array.getElem?_eq_some_iff.1 hq.out).1; omega
  have HXD : w.heap.size ≠ d := fun e => by have := (Array.getElem?_eq_some_iff.1 hp.out).1; omega
  generalize w.alloc (.cells #[.int .i8 st, .int .u64 (h : Int), .string k, .int .i64 e0, .int .i64 e1, .int .i64 e2, .int .i64 e3, .bool e4] 84) = w0 at *
  generalize w.heap.size = x0 at *
  obtain ⟨x1, x2, x3, x4, x5, x6, x7, x8⟩ := eight_box HX0.out
  obtain ⟨q0, q1, q2, -, -, -, -, -, -⟩ := nine_cells HQ0.out
  simp only at x1 x2 x3 x4 x5 x6 x7 x8
  go_quiet (first | (go_at_call 43; refine Calls.quiet_of_same (CH.out _)))
  have HX1 : Hid ((w0.drewN nq).heap[x0]? = _) := HX0.out
  have HQ1 : Hid ((w0.drewN nq).heap[q]? = _) := HQ0.out
  have HP1 : Hid ((w0.drewN nq).heap[d]? = _) := HP0.out
  have HK1 : Hid (Kept (fun x => x = q ∨ x = d) w (w0.drewN nq)) := HK0.out.drewN nq
  clear x1 x2 x3 x4 x5 x6 x7 x8 q0 q1 q2 HX0 HQ0 HP0 HK0
  generalize w0.drewN nq = w1 at *
  obtain ⟨x1, x2, x3, x4, x5, x6, x7, x8⟩ := eight_box HX1.out
  obtain ⟨q0, q1, q2, -, -, -, -, -, -⟩ := nine_cells HQ1.out
  simp only at x1 x2 x3 x4 x5 x6 x7 x8
  have CB := Lib.hid (fun i (hi : i < 1073741824) => plbehind_any q 0 i n b (some ⟨d, 0, none⟩) w1 q0 hpow hi hn3)
  go_wp2_with fail
  go_loopg [4] (Tb.dist l.length a f) (fun g iv wr => wr = w1 ∧ ∃ t : Nat, iv = .int .i64 ((Tb.stp l a t : Nat) : Int) ∧ Hid (Tb.Full l a t) ∧ Hid (t + g = Tb.dist l.length a f))
  case atStart => exact ⟨rfl, 0, by show _ = Value.int .i64 ((((a + 0) % l.length : Nat) : Int)); rw [Nat.add_zero, Nat.mod_eq_of_lt hho.out], Tb.Full.zero l a, Nat.zero_add _⟩
  case round =>
    obtain ⟨rfl, t, rfl, hS, hT⟩ := hrel
    have hi : Tb.stp l a t < n := by have := Tb.stp_lt (l := l) (by rw [hn.out]; exact hn2) a t; rw [hn.out] at this; exact this
    have HI := Lib.hid hi
    generalize hX : Tb.stp l a t = i at *
    have HX := Lib.hid hX; clear hX
    have hil := Lib.hid (show i < l.length by rw [hn.out]; exact hi)
    generalize hP : Tb.g l i = p
    have HP := Lib.hid hP; clear hP
    obtain ⟨c0, c1, c2, c3, c4, c5, c6, c7⟩ := pl_cells HP1.out i hil.out p HP.out
    have hst : p.st = 0 ∨ p.st = 1 ∨ p.st = 2 := by have := hG.out.st i; rw [HP.out] at this; exact this
    obtain ⟨ps, ph, pk, pe⟩ := p
    simp only at c0 c1 c2 c3 c4 c5 c6 c7 hst
    obtain ⟨f0, f1, f2, f3, f4, f5, f6, f7⟩ := pl_frozen HP1.out (i * 8)
    obtain ⟨-, -, r2, -, -, -, -, -, -⟩ := nine_frozen HQ1.out
    rcases hst with rfl | rfl | rfl
    · have HX2 : Hid ((wr.setCell ⟨q, 2, none⟩ (.int .i64 ((u : Int) + 1))).heap[x0]? = _) := set_past HX1.out HXQ _ _
      have HP2 : Hid ((wr.setCell ⟨q, 2, none⟩ (.int .i64 ((u : Int) + 1))).heap[d]? = _) := set_past HP1.out hne _ _
      have HQ2 : Hid ((wr.setCell ⟨q, 2, none⟩ (.int .i64 ((u : Int) + 1))).heap[q]? = some (.cells (tbc (.slice (some ⟨d, 0, none⟩) n n) b (u + 1) v' bo uo nx c wk) 65 (0, 0))) := tb_set HQ1.out 2 _
      have HK2 : Hid (Kept (fun x => x = q ∨ x = d) w (wr.setCell ⟨q, 2, none⟩ (.int .i64 ((u : Int) + 1)))) := HK1.out.trans (Kept.setCell _ _ _ (.inl rfl))
      go_upto_region 6 with fail
      clear x1 x2 x3 x4 x5 x6 x7 x8 q0 q1 q2 c0 c1 c2 c3 c4 c5 c6 c7 f0 f1 f2 f3 f4 f5 f6 f7 r2 CB HX1 HP1 HQ1 HK1
      generalize wr.setCell ⟨q, 2, none⟩ (.int .i64 ((u : Int) + 1)) = w2 at *
      obtain ⟨x1, x2, x3, x4, x5, x6, x7, x8⟩ := eight_box HX2.out
      obtain ⟨q0, -, -, -, -, -, -, -, -⟩ := nine_cells HQ2.out
      obtain ⟨c0, c1, c2, c3, c4, c5, c6, c7⟩ := pl_cells HP2.out i hil.out _ HP.out
      obtain ⟨f0, f1, f2, f3, f4, f5, f6, f7⟩ := pl_frozen HP2.out (i * 8)
      simp only at x1 x2 x3 x4 x5 x6 x7 x8 c0 c1 c2 c3 c4 c5 c6 c7
      go_region
      go_end0
      have K3 := eight_kept (S := fun x => x = q ∨ x = d) w2 d (i * 8) (.int .i8 st) (.int .u64 (h : Int)) (.string k) (.int .i64 e0) (.int .i64 e1) (.int .i64 e2) (.int .i64 e3) (.bool e4) (.inr rfl)
      have K4 := HK2.out.trans K3
      refine ⟨rfl, kept_drew K4, t, hS.out, by rw [HX.out, HP.out]; exact fun e => by simp at e, ?_, ?_⟩
      · rw [HX.out, HP.out]
        exact heap_drew (eight_past HQ2.out _ _ _ _ _ _ _ _ _ _ (fun e => hne e.symm))
      · rw [HX.out]
        exact heap_drew (pl_stored HP2.out i hil.out ⟨st, h, k, ⟨e0, e1, e2, e3, e4⟩⟩)
    · have e1 : (Tb.g l (Tb.stp l a t)).st = 1 := by rw [HX.out, HP.out]
      have e2 := hS.out.bound1 hho.out HF1.out HF2.out e1
      have e3 := hT.out
      have HG' : Hid (gk - 1 < gk) := by show _ < _; omega
      have hT' : Hid (t + 1 + (gk - 1) = Tb.dist l.length a f) := by show _ = _; omega
      have hS' := Lib.hid (hS.out.next e1)
      have HNX : Hid ((i + 1) % n = Tb.stp l a (t + 1)) := by
        show _ = _
        rw [← HX.out, ← hn.out]
        exact Tb.ring_next l.length a t
      clear e1 e2 e3
      go_wp2_with (with_reducible refine (CB.out i (by omega)).mono ?_; rintro e w' ⟨rfl, rfl⟩)
      go_roundg (gk - 1)
      case measure => exact HG'.out
      case rel => exact ⟨rfl, t + 1, by rw [← HNX.out, Int.natCast_emod, Int.natCast_add]; rfl, hS', hT'⟩
    · go_upto_region 6 with fail
      go_region
      go_end0
      refine ⟨rfl, kept_drew (HK1.out.trans (eight_kept wr d (i * 8) (.int .i8 st) (.int .u64 (h : Int)) (.string k) (.int .i64 e0) (.int .i64 e1) (.int .i64 e2) (.int .i64 e3) (.bool e4) (.inr rfl))), t, hS.out, by rw [HX.out, HP.out]; exact fun e => by simp at e, ?_, ?_⟩
      · rw [HX.out, HP.out]
        exact heap_drew (eight_past HQ1.out _ _ _ _ _ _ _ _ _ _ (fun e => hne e.symm))
      · rw [HX.out]
        exact heap_drew (pl_stored HP1.out i hil.out ⟨st, h, k, ⟨e0, e1, e2, e3, e4⟩⟩)
/-- place.vacate. -/
theorem plvacate_any (d i : Nat) (l : List Tb.Pl) (w : World) (hi : i < l.length) (hp : Hid (w.heap[d]? = some (.cells (plS.flat l).toArray 84 (0, 0)))) :
    Calls Try.prog 36 #[.pointer (some ⟨d, i * 8, none⟩)] w fun e w' => e = .returned (.tuple #[]) ∧ Kept (fun x => x = d) w w' ∧ w'.heap[d]? = some (.cells (plS.flat (l.set i Tb.Gone)).toArray 84 (0, 0)) := by
  obtain ⟨c0, c1, c2, c3, c4, c5, c6, c7⟩ := pl_cells hp.out i hi _ rfl
  obtain ⟨f0, f1, f2, f3, f4, f5, f6, f7⟩ := pl_frozen hp.out (i * 8)
  go_enter Try.func36, Try.ntmps36
  go_wp2_with fail
  go_end0
  exact ⟨rfl, eight_kept _ _ _ _ _ _ _ _ _ _ _ rfl, pl_stored hp.out i hi Tb.Gone⟩
/-- places.full. -/
theorem plfull_any (q n u : Nat) (A : Option Addr) (w : World) (hn : n ≤ 1073741824) (hu : u ≤ 1073741824) (hv : w.cell? ⟨q, 0, none⟩ = some (.slice A n n)) (hc : w.cell? ⟨q, 2, none⟩ = some (.int .i64 (u : Int))) :
    Calls Try.prog 32 #[.pointer (some ⟨q, 0, none⟩)] w fun e w' => e = .returned (.bool (decide (3 * (n : Int) < 4 * ((u : Int) + 1)))) ∧ ∃ k, w' = w.drewN k := by
  go_enter Try.func32, Try.ntmps32
  go_upto_region 1 with fail
  go_quiet (fail)
  go_wp2
  go_ret
  exact ⟨rfl, _, rfl⟩
end Go.Proofs.Ytcdomlgnfbdeoaa
