/-
  What a crash during the second publication leaves, case by case: plain mathematics.
-/
import Derived.Test.YtcjnhemlkahgoaaDoorSpFacts
namespace Go.Proofs.YtcjnhemlkahgoaaDoor
section
variable {S T : Sb.S}
/-- A crash behind the second publication. -/
theorem atomic_whole (hS : Sb.valid S) (hT : Sb.valid T) (hg : T.gen = S.gen + 1) (wr : Nat) (k : Int) (keep : Bool) (s2 : Flash) (e2 : Int) (h1 : s2 = (Flash.clean (holdOne 3 S) wr true k).pub 3 T) (h2 : e2 = (Flash.clean (holdOne 3 S) wr true k).pubErr 3 T) (l : List Nat) (hl : l = crashed 3 s2.cur s2.old [keep] []) (hk : 2 ≤ k) : e2 = 0 ∧ Sp.newest (sec l 0) (sec l 1) = some T := by
  obtain ⟨f', p1, p2⟩ := pub_all (S := T) (n := 3) (l := holdOne 3 S) (wr := wr) hT (by decide) true k (fun _ => hk)
  rw [p1] at h1
  rw [p2] at h2
  subst h1
  have e : l = holdTwo 3 S T := hl.trans (crash_clean (two_len (by decide)) _ _)
  rw [e]
  exact ⟨h2, newest_second (by decide) hS hT hg⟩
/-- A crash during it, the sector lost. -/
theorem atomic_lost (hS : Sb.valid S) (hT : Sb.valid T) (hg : T.gen = S.gen + 1) (wr : Nat) (k : Int) (keep : Bool) (s2 : Flash) (e2 : Int) (h1 : s2 = (Flash.clean (holdOne 3 S) wr true k).pub 3 T) (h2 : e2 = (Flash.clean (holdOne 3 S) wr true k).pubErr 3 T) (l : List Nat) (hl : l = crashed 3 s2.cur s2.old [keep] []) (hk : k = 0 ∨ (k = 1 ∧ keep = false)) : e2 = 1 ∧ s2.dead = true ∧ Sp.newest (sec l 0) (sec l 1) = some S := by
  rcases hk with rfl | ⟨rfl, rfl⟩
  · obtain ⟨p1, p2⟩ := pub_none (S := T) (n := 3) (l := holdOne 3 S) (wr := wr) hT (by decide)
    rw [p1] at h1
    rw [p2] at h2
    subst h1
    have e : l = holdOne 3 S := hl.trans (crash_clean (one_len (by decide)) _ _)
    rw [e]
    exact ⟨h2, rfl, newest_first (by decide) hS hg⟩
  · obtain ⟨p1, p2⟩ := pub_half (S := T) (n := 3) (l := holdOne 3 S) (wr := wr) hT (by decide)
    rw [p1] at h1
    rw [p2] at h2
    subst h1
    obtain ⟨q1, q2⟩ := crash_secs (n := 3) (by decide) hg [false] []
    have e : l = crashed 3 (holdTwo 3 S T) (oneOld (T.gen % 2).toNat (sec (holdOne 3 S) (T.gen % 2).toNat)) [false] [] := hl
    rw [← e] at q1 q2
    exact ⟨h2, rfl, (newest_two hS hg q1 q2).1 (Sp.cand_zero _)⟩
/-- A crash during it, the sector kept. -/
theorem atomic_kept (hS : Sb.valid S) (hT : Sb.valid T) (hg : T.gen = S.gen + 1) (wr : Nat) (k : Int) (keep : Bool) (s2 : Flash) (e2 : Int) (h1 : s2 = (Flash.clean (holdOne 3 S) wr true k).pub 3 T) (h2 : e2 = (Flash.clean (holdOne 3 S) wr true k).pubErr 3 T) (l : List Nat) (hl : l = crashed 3 s2.cur s2.old [keep] []) (hk : k = 1 ∧ keep = true) : e2 = 1 ∧ s2.dead = true ∧ Sp.newest (sec l 0) (sec l 1) = some T := by
  obtain ⟨rfl, rfl⟩ := hk
  obtain ⟨p1, p2⟩ := pub_half (S := T) (n := 3) (l := holdOne 3 S) (wr := wr) hT (by decide)
  rw [p1] at h1
  rw [p2] at h2
  subst h1
  obtain ⟨q1, q2⟩ := crash_secs (n := 3) (by decide) hg [true] []
  have e : l = crashed 3 (holdTwo 3 S T) (oneOld (T.gen % 2).toNat (sec (holdOne 3 S) (T.gen % 2).toNat)) [true] [] := hl
  rw [← e] at q1 q2
  have h : tornTwo T (keptBy [true] [] 0) = Sb.enc (T.gen % 2) T := torn_all T
  rw [h] at q2
  exact ⟨h2, rfl, (newest_two hS hg q1 q2).2 (Sp.cand_enc hT rfl)⟩
theorem same_not {S T : Sb.S} (h : T.gen ≠ S.gen) : Sb.same T S = false := by
  cases e : Sb.same T S with
  | false => rfl
  | true => exact absurd (by rw [(Sb.same_iff _ _).1 e]) h
end
end Go.Proofs.YtcjnhemlkahgoaaDoor
