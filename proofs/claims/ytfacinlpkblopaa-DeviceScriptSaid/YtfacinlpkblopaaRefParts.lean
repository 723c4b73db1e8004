/-
  Parts of the script: both reads in one contract; what a call does to the number of Writes.
-/
import Derived.Test.YtfacinlpkblopaaRefSame
import Derived.Test.YtfacinlpkblopaaRowMore
namespace Go.Proofs.Ytfacinlpkblopaa
open Go.RowKit Go.Maps
def Flash.readErr (s : Flash) (n : Nat) (i : Int) : Int := if s.dead = true then 1 else if i < 0 ∨ (n : Int) ≤ i then 2 else 0
def Flash.readOf (s : Flash) (n : Nat) (i : Int) : List Nat := if s.dead = true then [] else if i < 0 ∨ (n : Int) ≤ i then [] else sec s.cur i.toNat
def ReadDid (w : World) (l : List Nat) (k : Int) (e : Ending) (w' : World) : Prop :=
  ∃ A c, e = .returned (.tuple #[.slice A l.length c, .int .i64 k]) ∧ Bs w' w'.heap.size A l ∧ Below w.heap.size w w'
theorem ReadNo.did {w : World} {k : Int} {e : Ending} {w' : World} (h : ReadNo w k e w') : ReadDid w [] k e w' := by
  obtain ⟨rfl, rfl⟩ := h
  exact ⟨none, 0, rfl, fun k hk => absurd hk (by simp), Below.refl _ _⟩
theorem ReadOk.did {w : World} {l : List Nat} {e : Ending} {w' : World} (h : ReadOk w l e w') : ReadDid w l 0 e w' := by
  obtain ⟨g1, cap, rfl, h1, h2, h3, h4, h5, h6⟩ := h
  exact ⟨some ⟨g1, 0, none⟩, cap, by rw [h2], h3, h6⟩
section
variable {w : World} {n : Nat} {s : Flash}
theorem readOf_len (h : FlashOk n s) (i : Int) : (s.readOf n i).length ≤ 64 := by
  unfold Flash.readOf
  split
  · simp
  · split
    · simp
    · rename_i h1
      rw [sec_len h.len (by omega)]; omega
theorem dread_any {g c m : Nat} (i : Int) (hd : Hid (Dev w g c m n s)) :
    Calls Try.prog 13 #[.pointer (some ⟨g, 0, none⟩), .int .i64 i] w (ReadDid w (s.readOf n i) (s.readErr n i)) := by
  unfold Flash.readOf Flash.readErr
  by_cases h1 : s.dead = true
  · rw [if_pos h1, if_pos h1]
    exact (read_dead i hd h1).mono fun _ _ => ReadNo.did
  rw [if_neg h1, if_neg h1]
  have h1' : s.dead = false := by simpa using h1
  by_cases h2 : i < 0 ∨ (n : Int) ≤ i
  · rw [if_pos h2, if_pos h2]
    exact (read_range i h2 hd h1').mono fun _ _ => ReadNo.did
  rw [if_neg h2, if_neg h2]
  obtain ⟨j, rfl⟩ : ∃ j : Nat, i = (j : Int) := ⟨i.toNat, by omega⟩
  rw [Int.toNat_natCast]
  exact (read_ok j _ rfl (by omega) hd h1').mono fun _ _ => ReadOk.did
theorem rread_any {g o v t lo : Nat} (i : Int) (hF : FlashOk n s) (hd : Hid (RDev w g o v t n lo s)) :
    Calls Try.prog 14 #[.pointer (some ⟨g, 0, none⟩), .int .i64 i] w (ReadDid w (s.readOf n i) (s.readErr n i)) := by
  unfold Flash.readOf Flash.readErr
  by_cases h1 : s.dead = true
  · rw [if_pos h1, if_pos h1]
    exact (rread_dead i hd h1).mono fun _ _ => ReadNo.did
  rw [if_neg h1, if_neg h1]
  have h1' : s.dead = false := by simpa using h1
  by_cases h2 : i < 0 ∨ (n : Int) ≤ i
  · rw [if_pos h2, if_pos h2]
    exact (rread_range i h2 hd h1').mono fun _ _ => ReadNo.did
  rw [if_neg h2, if_neg h2]
  obtain ⟨j, rfl⟩ : ∃ j : Nat, i = (j : Int) := ⟨i.toNat, by omega⟩
  rw [Int.toNat_natCast]
  exact (rread_ok j (by omega) hF hd h1').mono fun _ _ => ReadOk.did
end
theorem write_wr (s : Flash) (n : Nat) (i : Int) (b : List Nat) : (s.write n i b).wr ≤ s.wr + 1 := by
  unfold Flash.write
  split
  · omega
  · split
    · show s.burnt.wr + 1 ≤ _
      rw [(burnt_cur s).2.2]; exact Nat.le_refl _
    · rw [(burnt_cur s).2.2]; omega
theorem barrier_wr (s : Flash) : s.barrier.wr ≤ s.wr := by
  unfold Flash.barrier
  split
  · exact Nat.le_refl _
  · split
    · show s.burnt.wr ≤ _
      rw [(burnt_cur s).2.2]; exact Nat.le_refl _
    · rw [(burnt_cur s).2.2]; exact Nat.le_refl _
theorem Kept.step {S : Nat → Prop} {b b' c : World} (k : Kept S b' c) (e1 : b'.heap = b.heap) (e2 : b'.os = b.os) (e3 : b'.tape = b.tape) (e4 : b'.output = b.output) : Kept S b c :=
  ⟨k.os.trans e2, k.tape.trans e3, k.output.trans e4, by have := k.size; rw [e1] at this; exact this, fun i hi hn => (k.block i (by rw [e1]; exact hi) hn).trans (by rw [e1])⟩
/-- Both devices, at the head of the script's rounds. -/
structure ScriptAt (w wr : World) (g c m r o v t n i : Nat) (s : Flash) : Prop where
  dev : Dev wr g c m n s
  ref : RDev wr r o v t n i s
  wr_ : s.wr ≤ i
  below : Below w.heap.size w wr
  ge : ∀ k, devS g c m k ∨ rS r o v t k → w.heap.size ≤ k
  apart : ∀ k, devS g c m k → ¬ rS r o v t k
section
variable {w wr : World} {g c m r o v t n i : Nat} {s : Flash}
theorem ScriptAt.next {wx : World} (h : ScriptAt w wr g c m r o v t n i s) (hb : Below wr.heap.size wr wx) : ScriptAt w wx g c m r o v t n i s :=
  ⟨h.dev.next hb, h.ref.next hb, h.wr_, h.below.trans (hb.mono h.below.size), h.ge, h.apart⟩
theorem ScriptAt.drew (h : ScriptAt w wr g c m r o v t n i s) : ScriptAt w wr.drew g c m r o v t n i s :=
  ⟨h.dev, h.ref, h.wr_, h.below.drew, h.ge, h.apart⟩
theorem ScriptAt.more (h : ScriptAt w wr g c m r o v t n i s) : ScriptAt w wr g c m r o v t n (i + 1) s :=
  ⟨h.dev, h.ref.more (by omega), by have := h.wr_; omega, h.below, h.ge, h.apart⟩
/-- d's call, then the reference's. -/
theorem ScriptAt.both {w1 w2 : World} {s' : Flash} (h : ScriptAt w wr g c m r o v t n i s) (hk1 : Kept (devS g c m) wr w1) (hd : Dev w1 g c m n s') (hr : RDev w2 r o v t n (i + 1) s') (hk2 : Kept (rS r o v t) w1 w2) (hw : s'.wr ≤ i + 1) : ScriptAt w w2 g c m r o v t n (i + 1) s' := by
  refine ⟨hd.kept hk2 (h.apart g (.inl rfl)) (h.apart c (.inr (.inl rfl))) (h.apart m (.inr (.inr rfl))), hr, hw, ?_, h.ge, h.apart⟩
  have b1 := h.below.trans (hk1.below h.below.size (fun k hk => h.ge k (.inl hk)))
  exact b1.trans (hk2.below b1.size (fun k hk => h.ge k (.inr hk)))
theorem ScriptAt.ref1 {w1 : World} (h : ScriptAt w wr g c m r o v t n i s) (hk1 : Kept (devS g c m) wr w1) : RDev w1 r o v t n i s :=
  h.ref.kept hk1 (fun k => h.apart r k (.inl rfl)) (fun k => h.apart o k (.inr (.inl rfl))) (fun k => h.apart v k (.inr (.inr (.inl rfl)))) (fun k => h.apart t k (.inr (.inr (.inr rfl))))
end
end Go.Proofs.Ytfacinlpkblopaa
