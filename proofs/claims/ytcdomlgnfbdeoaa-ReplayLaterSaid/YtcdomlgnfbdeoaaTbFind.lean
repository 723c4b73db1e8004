/-
  The walks of places.behind, places.full and places.find.
-/
import Derived.Test.YtcdomlgnfbdeoaaTbWords
import Derived.Test.YtcdomlgnfbdeoaaTbPr
import Derived.Test.YtcdomlgnfbdeoaaTbOrd
import Derived.Lib.Strings
set_option maxRecDepth 100000
namespace Go.Proofs.Ytcdomlgnfbdeoaa
open Go.RowKit
set_option maxHeartbeats 1000000 in
theorem plbehind_any (q o i n b : Nat) (A : Option Addr) (w : World) (hv : w.cell? ⟨q, o, none⟩ = some (.slice A n n)) (hb : Hid (n = 2 ^ b)) (hi : i < 1073741824) (hn : n ≤ 1073741824) :
    Calls Try.prog 44 #[.pointer (some ⟨q, o, none⟩), .int .i64 (i : Int)] w fun e w' => e = .returned (.int .i64 (((i + 1) % n : Nat) : Int)) ∧ w = w' := by
  have ha := ring_and i n b hb.out (by omega) (by omega)
  go_enter Try.func44, Try.ntmps44
  go_wp2
  go_ret
  exact ⟨ret_int (by rw [Int.natCast_emod, Int.natCast_add]; rfl), rfl⟩
/-- What a search for a key leads to: none, or the key's place. -/
def PlFindIs (d : Nat) (l : List Tb.Pl) (k : ByteArray) (e : Ending) : Prop := (e = .returned (.pointer none) ∧ ∀ i, (Tb.g l i).st = 1 → (Tb.g l i).k ≠ k) ∨ ∃ i, e = .returned (.pointer (some ⟨d, i * 8, none⟩)) ∧ (Tb.g l i).st = 1 ∧ (Tb.g l i).k = k
set_option maxHeartbeats 4000000 in
theorem plfind_any (q o d n b u N : Nat) (k : ByteArray) (l : List Tb.Pl) (w : World) (hn : Hid (l.length = n)) (hn2 : 0 < n) (hn3 : n ≤ 1073741824) (hv : w.cell? ⟨q, o, none⟩ = some (.slice (some ⟨d, 0, none⟩) n n)) (hb : w.cell? ⟨q, o + 1, none⟩ = some (.int .i64 (b : Int)))
    (hp : Hid (w.heap[d]? = some (.cells (plS.flat l).toArray 84 (0, 0)))) (hG : Hid (Tb.Good l b u)) (hN : Hid (N = Tb.hs k)) :
    Calls Try.prog 41 #[.pointer (some ⟨q, o, none⟩), .int .u64 (N : Int), .string k] w fun e w' => PlFindIs d l k e ∧ w = w' := by
  have hl0 : 0 < l.length := by rw [hn.out]; exact hn2
  have hh := Lib.hid (hG.out.home_in hl0 k)
  obtain ⟨f, hf1, hf2⟩ := hG.out.free hl0
  have HF1 := Lib.hid hf1
  have HF2 := Lib.hid hf2
  clear hf1 hf2 hl0
  have hpow : Hid (n = 2 ^ b) := by
    rcases hG.out.shape with ⟨e, _⟩ | ⟨e, _⟩
    · have := hn.out; rw [e] at this; exact absurd this (by simp; omega)
    · exact hn.out.symm.trans e
  have CH := Lib.hid (fun W => home_any N (by rw [hN.out]; exact Tb.hs_lt k) (b : Int) W)
  have hho : Hid (Key.home N (b : Int) = Tb.home k b) := by show _ = _; rw [hN.out]; rfl
  rw [hho.out] at CH
  have CB := Lib.hid (fun i (hi : i < 1073741824) => plbehind_any q o i n b (some ⟨d, 0, none⟩) w hv hpow hi hn3)
  generalize hA : Tb.home k b = a at *
  have HA := Lib.hid hA; clear hA
  go_enter Try.func41, Try.ntmps41
  go_wp2_with (with_reducible refine (CH.out _).mono ?_; rintro e w' ⟨rfl, rfl⟩)
  go_loopg [7] (Tb.dist l.length a f) (fun g iv wr => wr = w ∧ ∃ t : Nat, iv = .int .i64 ((Tb.stp l a t : Nat) : Int) ∧ Hid (Tb.Seen l a k t) ∧ Hid (t + g = Tb.dist l.length a f))
  case atStart => exact ⟨rfl, 0, by show _ = Value.int .i64 ((((a + 0) % l.length : Nat) : Int)); rw [Nat.add_zero, Nat.mod_eq_of_lt hh.out], Tb.Seen.zero l a k, Nat.zero_add _⟩
  case round =>
    obtain ⟨rfl, t, rfl, hS, hT⟩ := hrel
    have hi : Tb.stp l a t < n := by have := Tb.stp_lt (l := l) (by rw [hn.out]; exact hn2) a t; rw [hn.out] at this; exact this
    have HI := Lib.hid hi
    generalize hX : Tb.stp l a t = i at *
    have HX := Lib.hid hX; clear hX
    generalize hP : Tb.g l i = p
    have HP := Lib.hid hP; clear hP
    obtain ⟨c0, c1, c2, -, -, -, -, -⟩ := pl_cells hp.out i (by rw [hn.out]; exact hi) p HP.out
    have hst : p.st = 0 ∨ p.st = 1 ∨ p.st = 2 := by have := hG.out.st i; rw [HP.out] at this; exact this
    obtain ⟨st, h, k', en⟩ := p
    simp only at c0 c1 c2 hst
    have next : (¬ (st = 1 ∧ k' = k)) → st ≠ 0 → ∃ g', g' < gk ∧ Hid (Tb.Seen l a k (t + 1)) ∧ Hid (t + 1 + g' = Tb.dist l.length a f) := fun h1 h2 => by
      have e1 : (Tb.g l (Tb.stp l a t)).st ≠ 0 := by rw [HX.out, HP.out]; exact h2
      have e2 := hS.out.bound1 hh.out HF1.out HF2.out e1
      have e3 := hT.out
      refine ⟨gk - 1, by omega, hS.out.next e1 (by rw [HX.out, HP.out]; exact h1), ?_⟩
      show t + 1 + (gk - 1) = _
      omega
    have HNX : Hid ((i + 1) % n = Tb.stp l a (t + 1)) := by
      show _ = _
      rw [← HX.out, ← hn.out]
      exact Tb.ring_next l.length a t
    rcases hst with rfl | rfl | rfl
    · clear next
      go_wp2_with fail
      go_ret
      refine ⟨.inl ⟨rfl, Tb.Seen.none (by rw [HA.out]; exact hS.out) hG.out ?_⟩, rfl⟩
      rw [HA.out, HX.out, HP.out]
    · by_cases hk : k' = k
      · clear next
        subst hk
        have hh2 := hG.out.hash i (by rw [HP.out])
        rw [HP.out] at hh2
        simp only at hh2
        rw [← hN.out] at hh2
        subst hh2
        go_wp2_with fail
        go_ret
        exact ⟨.inr ⟨i, rfl, by rw [HP.out], by rw [HP.out]⟩, rfl⟩
      · have hkf : (k'.toList == k.toList) = false := by rw [key_eq]; exact decide_eq_false hk
        obtain ⟨g', hg', hS', hT'⟩ := next (fun e => hk e.2) (by decide)
        have HG' := Lib.hid hg'
        have HK := Lib.hid hk
        clear next hk hg'
        by_cases hN2 : h = N
        · subst hN2
          go_wp2_with (with_reducible refine (CB.out i (by omega)).mono ?_; rintro e w' ⟨rfl, rfl⟩)
          go_roundg g'
          case measure => exact HG'.out
          case rel => exact ⟨rfl, t + 1, by rw [← HNX.out, Int.natCast_emod, Int.natCast_add]; rfl, hS', hT'⟩
        · have hf1 : (h == N) = false := beq_eq_false_iff_ne.2 hN2
          have hf2 : ((h : Int) == (N : Int)) = false := beq_eq_false_iff_ne.2 (fun e => hN2 (by omega))
          have HN2 := Lib.hid hN2
          clear hN2
          go_wp2_with (with_reducible refine (CB.out i (by omega)).mono ?_; rintro e w' ⟨rfl, rfl⟩)
          go_roundg g'
          case measure => exact HG'.out
          case rel => exact ⟨rfl, t + 1, by rw [← HNX.out, Int.natCast_emod, Int.natCast_add]; rfl, hS', hT'⟩
    · obtain ⟨g', hg', hS', hT'⟩ := next (fun e => by have := e.1; omega) (by decide)
      have HG' := Lib.hid hg'
      clear next hg'
      go_wp2_with (with_reducible refine (CB.out i (by omega)).mono ?_; rintro e w' ⟨rfl, rfl⟩)
      go_roundg g'
      case measure => exact HG'.out
      case rel => exact ⟨rfl, t + 1, by rw [← HNX.out, Int.natCast_emod, Int.natCast_add]; rfl, hS', hT'⟩
end Go.Proofs.Ytcdomlgnfbdeoaa
