/-
  What is found on a device after one publication, after two, and after a crash during the second: plain mathematics.
-/
import Derived.Test.YtcjnhemlkahgoaaDoorSpMath
namespace Go.Proofs.YtcjnhemlkahgoaaDoor
theorem newest_two {S T : Sb.S} {l q : List Nat} (hS : Sb.valid S) (hg : T.gen = S.gen + 1) (h1 : sec l (S.gen % 2).toNat = Sb.enc (S.gen % 2) S) (h2 : sec l (T.gen % 2).toNat = q) :
    (Sp.cand (T.gen % 2) q = none → Sp.newest (sec l 0) (sec l 1) = some S) ∧ (Sp.cand (T.gen % 2) q = some T → Sp.newest (sec l 0) (sec l 1) = some T) := by
  have hc := Sp.cand_enc hS rfl
  have hx : S.gen % 2 = 0 ∨ S.gen % 2 = 1 := by omega
  unfold Sp.newest
  rcases hx with hx | hx
  · have hy : T.gen % 2 = 1 := by omega
    rw [hx] at h1 hc
    rw [hy] at h2 ⊢
    have h1' : sec l 0 = _ := h1
    have h2' : sec l 1 = _ := h2
    rw [h1', h2', hc]
    exact ⟨fun h => by rw [h]; rfl, fun h => by rw [h]; exact Sp.over_newer (by omega)⟩
  · have hy : T.gen % 2 = 0 := by omega
    rw [hx] at h1 hc
    rw [hy] at h2 ⊢
    have h1' : sec l 1 = _ := h1
    have h2' : sec l 0 = _ := h2
    rw [h1', h2', hc]
    exact ⟨fun h => by rw [h]; rfl, fun h => by rw [h]; exact Sp.over_elder (by omega)⟩
/-- Zeros, and the superblock S in its sector. -/
def holdOne (n : Nat) (S : Sb.S) : List Nat := putSec (List.replicate (n * 64) 0) (S.gen % 2).toNat (Sb.enc (S.gen % 2) S)
/-- And T in its own. -/
def holdTwo (n : Nat) (S T : Sb.S) : List Nat := putSec (holdOne n S) (T.gen % 2).toNat (Sb.enc (T.gen % 2) T)
section
variable {S T : Sb.S} {n : Nat}
theorem at_lt (S : Sb.S) (hn : 2 ≤ n) : (S.gen % 2).toNat < n := by omega
theorem one_len (hn : 2 ≤ n) : (holdOne n S).length = n * 64 := putSec_len List.length_replicate (at_lt S hn) (Sb.enc_length _ _)
theorem two_len (hn : 2 ≤ n) : (holdTwo n S T).length = n * 64 := putSec_len (one_len hn) (at_lt T hn) (Sb.enc_length _ _)
theorem one_sec (hn : 2 ≤ n) {j : Nat} (hj : j < n) : sec (holdOne n S) j = if j = (S.gen % 2).toNat then Sb.enc (S.gen % 2) S else List.replicate 64 0 := by
  unfold holdOne
  rw [sec_put List.length_replicate (at_lt S hn) hj (Sb.enc_length _ _), sec_zero hj]
theorem two_sec (hn : 2 ≤ n) {j : Nat} (hj : j < n) : sec (holdTwo n S T) j = if j = (T.gen % 2).toNat then Sb.enc (T.gen % 2) T else sec (holdOne n S) j := by
  unfold holdTwo
  rw [sec_put (one_len hn) (at_lt T hn) hj (Sb.enc_length _ _)]
theorem at_other (hg : T.gen = S.gen + 1) : (S.gen % 2).toNat ≠ (T.gen % 2).toNat := by omega
theorem newest_zero (hn : 2 ≤ n) : Sp.newest (sec (List.replicate (n * 64) 0) 0) (sec (List.replicate (n * 64) 0) 1) = none := by
  rw [sec_zero (show 0 < n by omega), sec_zero (show 1 < n by omega)]
  unfold Sp.newest
  rw [Sp.cand_zero, Sp.cand_zero]; rfl
theorem newest_first (hn : 2 ≤ n) (hS : Sb.valid S) (hg : T.gen = S.gen + 1) : Sp.newest (sec (holdOne n S) 0) (sec (holdOne n S) 1) = some S := by
  have h1 : sec (holdOne n S) (S.gen % 2).toNat = _ := (one_sec hn (at_lt S hn)).trans (if_pos rfl)
  have h2 : sec (holdOne n S) (T.gen % 2).toNat = _ := (one_sec hn (at_lt T hn)).trans (if_neg (Ne.symm (at_other hg)))
  exact (newest_two hS hg h1 h2).1 (Sp.cand_zero _)
theorem newest_only (hn : 2 ≤ n) (hS : Sb.valid S) : Sp.newest (sec (holdOne n S) 0) (sec (holdOne n S) 1) = some S :=
  newest_first (T := { S with gen := S.gen + 1 }) hn hS rfl
theorem newest_second (hn : 2 ≤ n) (hS : Sb.valid S) (hT : Sb.valid T) (hg : T.gen = S.gen + 1) : Sp.newest (sec (holdTwo n S T) 0) (sec (holdTwo n S T) 1) = some T := by
  have h1 : sec (holdTwo n S T) (S.gen % 2).toNat = _ := (two_sec hn (at_lt S hn)).trans (if_neg (at_other hg))
  rw [one_sec hn (at_lt S hn), if_pos rfl] at h1
  have h2 : sec (holdTwo n S T) (T.gen % 2).toNat = _ := (two_sec hn (at_lt T hn)).trans (if_pos rfl)
  exact (newest_two hS hg h1 h2).2 (Sp.cand_enc hT rfl)
/-- What a crash leaves of the second publication's sector: its first bytes, the zeros behind. -/
def tornTwo (T : Sb.S) (k : Nat) : List Nat := (Sb.enc (T.gen % 2) T).take k ++ (List.replicate 64 0).drop k
theorem crash_secs (hn : 2 ≤ n) (hg : T.gen = S.gen + 1) (keep : List Bool) (X : List (Int × Int)) :
    sec (crashed n (holdTwo n S T) (oneOld (T.gen % 2).toNat (sec (holdOne n S) (T.gen % 2).toNat)) keep X) (S.gen % 2).toNat = Sb.enc (S.gen % 2) S ∧
    sec (crashed n (holdTwo n S T) (oneOld (T.gen % 2).toNat (sec (holdOne n S) (T.gen % 2).toNat)) keep X) (T.gen % 2).toNat = tornTwo T (keptBy keep X 0) := by
  have h64 : (sec (holdOne n S) (T.gen % 2).toNat).length = 64 := sec_len (one_len hn) (at_lt T hn)
  refine ⟨?_, ?_⟩
  · rw [sec_crash (two_len hn) (at_lt S hn) h64, if_neg (at_other hg), two_sec hn (at_lt S hn), if_neg (at_other hg), one_sec hn (at_lt S hn), if_pos rfl]
  · rw [sec_crash (two_len hn) (at_lt T hn) h64, if_pos rfl, two_sec hn (at_lt T hn), if_pos rfl, one_sec hn (at_lt T hn), if_neg (Ne.symm (at_other hg))]
    rfl
theorem torn_none (T : Sb.S) : tornTwo T 0 = List.replicate 64 0 := rfl
theorem torn_all (T : Sb.S) : tornTwo T 64 = Sb.enc (T.gen % 2) T := by
  unfold tornTwo
  rw [List.take_of_length_le (by rw [Sb.enc_length]; exact Nat.le_refl _)]
  simp
/-- A crash during the second publication. -/
theorem atomic_found (hS : Sb.valid S) (hT : Sb.valid T) (hg : T.gen = S.gen + 1) (wr : Nat) (k : Int) (hk : 0 ≤ k) (keep : Bool) (s2 : Flash) (e2 : Int) (h1 : s2 = (Flash.clean (holdOne 3 S) wr true k).pub 3 T) (h2 : e2 = (Flash.clean (holdOne 3 S) wr true k).pubErr 3 T) (l : List Nat) (hl : l = crashed 3 s2.cur s2.old [keep] []) :
    (e2 = 0 ∧ Sp.newest (sec l 0) (sec l 1) = some T) ∨ (e2 = 1 ∧ s2.dead = true ∧ (Sp.newest (sec l 0) (sec l 1) = some S ∨ Sp.newest (sec l 0) (sec l 1) = some T)) := by
  by_cases k0 : k = 0
  · subst k0
    obtain ⟨p1, p2⟩ := pub_none (S := T) (n := 3) (l := holdOne 3 S) (wr := wr) hT (by decide)
    rw [p1] at h1
    rw [p2] at h2
    subst h1
    have e : l = holdOne 3 S := hl.trans (crash_clean (one_len (by decide)) _ _)
    rw [e]
    exact .inr ⟨h2, rfl, .inl (newest_first (by decide) hS hg)⟩
  · by_cases k1 : k = 1
    · subst k1
      obtain ⟨p1, p2⟩ := pub_half (S := T) (n := 3) (l := holdOne 3 S) (wr := wr) hT (by decide)
      rw [p1] at h1
      rw [p2] at h2
      subst h1
      obtain ⟨q1, q2⟩ := crash_secs (n := 3) (by decide) hg [keep] []
      have e : l = crashed 3 (holdTwo 3 S T) (oneOld (T.gen % 2).toNat (sec (holdOne 3 S) (T.gen % 2).toNat)) [keep] [] := hl
      rw [← e] at q1 q2
      refine .inr ⟨h2, rfl, ?_⟩
      cases keep with
      | false => exact .inl ((newest_two hS hg q1 q2).1 (Sp.cand_zero _))
      | true =>
        have h : tornTwo T (keptBy [true] [] 0) = Sb.enc (T.gen % 2) T := torn_all T
        rw [h] at q2
        exact .inr ((newest_two hS hg q1 q2).2 (Sp.cand_enc hT rfl))
    · obtain ⟨f', p1, p2⟩ := pub_all (S := T) (n := 3) (l := holdOne 3 S) (wr := wr) hT (by decide) true k (fun _ => by omega)
      rw [p1] at h1
      rw [p2] at h2
      subst h1
      have e : l = holdTwo 3 S T := hl.trans (crash_clean (two_len (by decide)) _ _)
      rw [e]
      exact .inl ⟨h2, newest_second (by decide) hS hT hg⟩
/-- A tear of the second publication's sector. -/
theorem torn_found (hS : Sb.valid S) (hT : Sb.valid T) (hg : T.gen = S.gen + 1) (wr : Nat) (X : List (Int × Int)) (s2 : Flash) (h1 : s2 = (Flash.clean (holdOne 3 S) wr true 1).pub 3 T) (l : List Nat) (hl : l = crashed 3 s2.cur s2.old [] X) :
    l.length = 192 ∧ ((¬ ∃ y, Sb.good (T.gen % 2) (sec l (T.gen % 2).toNat) y) → Sp.newest (sec l 0) (sec l 1) = some S) ∧ (Sb.good (T.gen % 2) (sec l (T.gen % 2).toNat) T → Sp.newest (sec l 0) (sec l 1) = some T) ∧ sec l (T.gen % 2).toNat = tornTwo T (keptBy [] X 0) := by
  obtain ⟨p1, -⟩ := pub_half (S := T) (n := 3) (l := holdOne 3 S) (wr := wr) hT (by decide)
  rw [p1] at h1
  subst h1
  obtain ⟨q1, q2⟩ := crash_secs (n := 3) (by decide) hg [] X
  have e : l = crashed 3 (holdTwo 3 S T) (oneOld (T.gen % 2).toNat (sec (holdOne 3 S) (T.gen % 2).toNat)) [] X := hl
  rw [← e] at q1 q2
  have q := newest_two hS hg q1 rfl
  refine ⟨by rw [e]; exact spcrash_len _ _ _ _ _, fun h => q.1 (Sp.cand_none fun s hs => absurd ⟨s, hs⟩ h), fun h => q.2 (Sp.cand_some h rfl), q2⟩
/-- The first publication. -/
theorem first_pub (hS : Sb.valid S) (hn : 2 ≤ n) (l : List Nat) : ∃ f', (Flash.fresh l).pub n S = Flash.clean (putSec l (S.gen % 2).toNat (Sb.enc (S.gen % 2) S)) 1 false f' ∧ (Flash.fresh l).pubErr n S = 0 := by
  rw [fresh_clean]
  exact pub_all hS hn false 0 (fun e => by cases e)
end
end Go.Proofs.YtcjnhemlkahgoaaDoor
