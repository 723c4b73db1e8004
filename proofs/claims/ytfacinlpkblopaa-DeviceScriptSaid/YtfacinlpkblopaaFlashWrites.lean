/-
  flashdev's Write, in one contract; the calls on a nil device.
-/
import Derived.Test.YtfacinlpkblopaaFlashWrite
namespace Go.Proofs.Ytfacinlpkblopaa
open Go.RowKit Go.Maps
section
variable {g c m n : Nat} {s : Flash} {w : World}
theorem write_dead (i : Int) (v : Value) (hd : Hid (Dev w g c m n s)) (hdead : Hid (s.dead = true)) :
    Calls Try.prog 11 #[.pointer (some ⟨g, 0, none⟩), .int .i64 i, v] w (WriteDid w g c m n s 1) := by
  go_enter Try.func11, Try.ntmps11
  go_wp2_with (go_at_call 25; refine (dead_any hd).mono ?_; rw [hdead.out]; rintro e w' ⟨rfl, rfl⟩)
  go_ret
  exact ⟨rfl, hd.out, Kept.refl _ _⟩
theorem write_range (i : Int) (v : Value) (hi : i < 0 ∨ (n : Int) ≤ i) (hd : Hid (Dev w g c m n s)) (hdead : Hid (s.dead = false)) :
    Calls Try.prog 11 #[.pointer (some ⟨g, 0, none⟩), .int .i64 i, v] w (WriteDid w g c m n s 2) := by
  have hz : decide (0 ≤ i ∧ i < (n : Int)) = false := by simp; omega
  clear hi
  go_enter Try.func11, Try.ntmps11
  go_wp2_with (first
    | (go_at_call 25; refine (dead_any hd).mono ?_; rw [hdead.out]; rintro e w' ⟨rfl, rfl⟩)
    | (go_at_call 33; refine (has_any _ hd).mono ?_; rw [hz]; rintro e w' ⟨rfl, rfl⟩))
  go_ret
  exact ⟨rfl, hd.out, Kept.refl _ _⟩
theorem write_long (i : Int) (A : Option Addr) (k cb : Nat) (hi1 : 0 ≤ i) (hi2 : i < (n : Int)) (hk : 64 < k) (hkm : k ≤ 9223372036854775807) (hd : Hid (Dev w g c m n s)) (hdead : Hid (s.dead = false)) :
    Calls Try.prog 11 #[.pointer (some ⟨g, 0, none⟩), .int .i64 i, .slice A k cb] w (WriteDid w g c m n s 3) := by
  have hz : decide (0 ≤ i ∧ i < (n : Int)) = true := by simp; omega
  go_enter Try.func11, Try.ntmps11
  go_wp2_with (first
    | (go_at_call 25; refine (dead_any hd).mono ?_; rw [hdead.out]; rintro e w' ⟨rfl, rfl⟩)
    | (go_at_call 33; refine (has_any _ hd).mono ?_; rw [hz]; rintro e w' ⟨rfl, rfl⟩))
  go_ret
  exact ⟨rfl, hd.out, Kept.refl _ _⟩
theorem write_burnt (i : Int) (A : Option Addr) (k cb : Nat) (hi1 : 0 ≤ i) (hi2 : i < (n : Int)) (hk : k ≤ 64) (hd : Hid (Dev w g c m n s)) (hdead : Hid (s.dead = false)) (hlast : Hid (s.lasts = false)) :
    Calls Try.prog 11 #[.pointer (some ⟨g, 0, none⟩), .int .i64 i, .slice A k cb] w (WriteDid w g c m n s.burnt 1) := by
  have hz : decide (0 ≤ i ∧ i < (n : Int)) = true := by simp; omega
  go_enter Try.func11, Try.ntmps11
  go_wp2_with (first
    | (go_at_call 25; refine (dead_any hd).mono ?_; rw [hdead.out]; rintro e w' ⟨rfl, rfl⟩)
    | (go_at_call 33; refine (has_any _ hd).mono ?_; rw [hz]; rintro e w' ⟨rfl, rfl⟩)
    | (go_at_call 34; refine (burn_any hd).mono ?_; rw [hlast.out]; rintro e w1 ⟨rfl, hd1, hk1⟩))
  go_ret
  exact ⟨rfl, hd1, hk1.mono fun k _ e => .inl e⟩
theorem write_any (i : Int) (A : Option Addr) (B k cb : Nat) (b : List Nat) (hkm : k ≤ 9223372036854775807) (hl : Hid (b.length = k)) (hb : Hid (Bs w B A b)) (hd : Hid (Dev w g c m n s)) (hwr : s.wr < 4611686018427387904) :
    Calls Try.prog 11 #[.pointer (some ⟨g, 0, none⟩), .int .i64 i, .slice A k cb] w (WriteDid w g c m n (s.write n i b) (s.writeErr n i b)) := by
  unfold Flash.write Flash.writeErr
  by_cases h1 : s.dead = true
  · rw [if_pos (.inl h1), if_pos h1]
    exact write_dead i _ hd h1
  have h1' : s.dead = false := by simpa using h1
  by_cases h2 : i < 0 ∨ (n : Int) ≤ i
  · rw [if_pos (by rcases h2 with h2 | h2; exact .inr (.inl h2); exact .inr (.inr (.inl h2))), if_neg h1, if_pos h2]
    exact write_range i _ h2 hd h1'
  by_cases h3 : 64 < b.length
  · rw [if_pos (.inr (.inr (.inr h3))), if_neg h1, if_neg h2, if_pos h3]
    have := hl.out
    exact write_long i A k cb (by omega) (by omega) (by omega) hkm hd h1'
  have h0 : ¬ (s.dead = true ∨ i < 0 ∨ (n : Int) ≤ i ∨ 64 < b.length) := by
    rintro (h | h | h | h)
    · exact h1 h
    · exact h2 (.inl h)
    · exact h2 (.inr h)
    · exact h3 h
  rw [if_neg h0, if_neg h1, if_neg h2, if_neg h3]
  have hk : k ≤ 64 := by have := hl.out; omega
  obtain ⟨j, rfl⟩ : ∃ j : Nat, i = (j : Int) := ⟨i.toNat, by omega⟩
  by_cases h4 : s.lasts = true
  · rw [if_pos h4, if_pos h4, Int.toNat_natCast]
    cases ho : s.old j with
    | none => exact write_new A B k cb b j (by omega) hk hl hb hd h1' h4 hwr ho
    | some l => exact write_again A B k cb b j (by omega) hk hl hb hd h1' h4 hwr l ho
  · rw [if_neg h4, if_neg h4]
    exact write_burnt _ A k cb (by omega) (by omega) hk hd h1' (Lib.hid (by simpa using h4))
end
theorem write_nil (i : Int) (v : Value) (w : World) :
    Calls Try.prog 11 #[.pointer none, .int .i64 i, v] w fun e w' => e = .returned (.int .i64 1) ∧ w = w' := by
  go_enter Try.func11, Try.ntmps11
  go_wp2_with (go_at_call 25; refine (dead_nil _).mono ?_; rintro e w' ⟨rfl, rfl⟩)
  go_ret
  exact ⟨rfl, rfl⟩
theorem fuse_nil (k : Int) (w : World) :
    Calls Try.prog 18 #[.pointer none, .int .i64 k] w fun e w' => e = .returned (.tuple #[]) ∧ w = w' := by
  go_enter Try.func18, Try.ntmps18
  go_wp2
  go_end0
  exact ⟨rfl, rfl⟩
theorem crash_nil (a b : Value) (w : World) :
    Calls Try.prog 20 #[.pointer none, a, b] w fun e w' => e = .returned (.pointer none) ∧ w = w' := by
  go_enter Try.func20, Try.ntmps20
  go_wp2
  go_ret
  exact ⟨rfl, rfl⟩
end Go.Proofs.Ytfacinlpkblopaa
