/-
  Words for the laws on appends in order: the journal's contents, what is masked, the call of Append in a loop.
-/
import Derived.Test.YtpidbakjpfngnaaDoorLgFacts
import Derived.IntWalk
set_option maxRecDepth 100000
namespace Go.Proofs.YtpidbakjpfngnaaDoor
open Go.RowKit
theorem low_and (n : Int) (k : Nat) (ki : Int) (hk : (BitVec.ofInt 64 ki).toNat = k) (hk2 : k < 4611686018427387904) : ∃ N : Nat, N ≤ k ∧ bits .and .i64 n ki = (N : Int) := by
  have hle : (BitVec.ofInt 64 n).toNat &&& k ≤ k := Nat.and_le_right
  refine ⟨(BitVec.ofInt 64 n).toNat &&& k, hle, ?_⟩
  show IntKind.i64.wrap ((BitVec.ofInt 64 n &&& BitVec.ofInt 64 ki).toNat : Int) = _
  rw [BitVec.toNat_and, hk, IntKind.wrap_i64]
  omega
theorem low7 (n : Int) : ∃ N : Nat, N ≤ 7 ∧ bits .and .i64 n 7 = (N : Int) := low_and n 7 7 (by decide) (by decide)
theorem lowt3 (n : Int) : ∃ N : Nat, N ≤ 3 ∧ bits .and .i64 n 3 = (N : Int) := low_and n 3 3 (by decide) (by decide)
theorem low1023 (n : Int) : ∃ N : Nat, N ≤ 1023 ∧ bits .and .i64 n 1023 = (N : Int) := low_and n 1023 1023 (by decide) (by decide)
theorem lg_mod (x K : Int) (hK : 0 < K) (hK2 : K ≤ 1000) : ∃ j : Nat, (j : Int) < K ∧ (wrap64 (x.tmod K + K)).tmod K = (j : Int) := by
  have h2 : x.tmod K < K := Int.tmod_lt_of_pos x hK
  have h3 : -K < x.tmod K := Int.lt_tmod_of_pos x hK
  have h4 : wrap64 (x.tmod K + K) = x.tmod K + K := IntWalk.wrap64_in _ ⟨by omega, by omega⟩
  have h5 : 0 ≤ (x.tmod K + K).tmod K := Int.tmod_nonneg _ (by omega)
  have h6 : (x.tmod K + K).tmod K < K := Int.tmod_lt_of_pos _ hK
  refine ⟨((x.tmod K + K).tmod K).toNat, by omega, ?_⟩
  rw [h4]
  omega
theorem bel_new (w : World) (o : Obj) : Below w.heap.size w (w.alloc o) := (Below.refl _ w).alloc (Nat.le_refl _) o
namespace Lg
open Pl
/-- The contents behind the append of the record k. -/
def put (l : List Nat) (m : Int) (f : Nat → P) (k : Nat) : List Nat := putSec l (sector m (k : Int)).toNat (enc (sector m (k : Int)) (f k))
/-- The contents of a device of 80 sectors on which k records of a migration lie. -/
def At (l : List Nat) (m : Int) (f : Nat → P) (k : Nat) : Prop := l.length = 80 * 64 ∧ Laid l m f k
theorem at_start (m : Int) (hm : 1 ≤ m) (f : Nat → P) : At (List.replicate (80 * 64) 0) m f 0 := ⟨List.length_replicate, laid_start (by decide) m hm f⟩
theorem put_len {l : List Nat} {m : Int} {f : Nat → P} {k : Nat} (hl : l.length = 80 * 64) (hm : 1 ≤ m) (hk : k < 36) : (put l m f k).length = 80 * 64 := put80 hl (sector_range (in_range hm hk)) (enc_length _ _)
theorem at_next {l : List Nat} {m : Int} {f : Nat → P} {k : Nat} (hm : 1 ≤ m) (hk : k < 36) (h : At l m f k) : At (put l m f k) m f (k + 1) := ⟨put_len h.1 hm hk, laid_next (by decide) h.1 hm hk h.2⟩
/-- The contents behind a record of the migration before or behind. -/
theorem at_other {l : List Nat} {m m' : Int} {f f' : Nat → P} {k i : Nat} (hm : 1 ≤ m) (hm' : m' = m + 1 ∨ m = m' + 1) (h1 : 1 ≤ m') (hi : i < 36) (h : At l m f k) : At (put l m' f' i) m f k :=
  ⟨put_len h.1 h1 hi, laid_other (by decide) h.1 (enc_length _ _) hm hm' h1 hi h.2⟩
theorem at_replay {l : List Nat} {m : Int} {f : Nat → P} {k : Nat} (ho : Own m f) (hk : k ≤ 36) (h : At l m f k) : replay l m = (List.range k).map f := replay_laid ho h.2 hk
end Lg
/-- A call of Append in a law's loop: the next record of the migration, on a device with power. -/
theorem append_next {w : World} (HT : ∀ W, Below w.heap.size w W → Tabs W) {M : Int} {t : Nat → Int} (ho : Lg.Own M (Lg.rec_ M t)) (l : List Nat) (k wr : Nat) (q i tt : Int) (hk : k < 36) (hwr : wr < 1000000) (hq : q = if k = 0 then 1 else 2) (hi : i = (k : Int)) (htt : tt = t k) (W : World) (g c mb : Nat) (hW : Below w.heap.size w W) (hd : Dev W g c mb 80 (Flash.clean l wr false 0)) :
    Calls Tryd.prog 12 #[.pointer (some ⟨g, 0, none⟩), .agg #[.int .i64 q, .int .i64 M, .int .i64 i, .int .i64 tt, .int .i64 2, .int .i64 1, .int .i64 4, .int .i64 4]] W (WriteDid W g c mb 80 (Flash.clean (Lg.put l M (Lg.rec_ M t) k) (wr + 1) false 0) 0) := by
  subst hq hi htt
  have h := append_any (if k = 0 then 1 else 2) M (k : Int) (t k) 2 1 4 4 g c mb 80 _ W (Lib.hid (HT W hW)) hd (show wr < _ by omega)
  obtain ⟨f', hp, he, hf⟩ := Lg.app_rec ho hk (n := 80) (by decide) l wr false 0 (fun h => by cases h)
  obtain rfl := hf rfl
  have e1 : (Flash.clean l wr false 0).app 80 ⟨if k = 0 then 1 else 2, M, (k : Int), t k, ⟨2, 1, 4, 4⟩⟩ = _ := hp
  have e2 : (Flash.clean l wr false 0).appErr 80 ⟨if k = 0 then 1 else 2, M, (k : Int), t k, ⟨2, 1, 4, 4⟩⟩ = 0 := he
  rw [e1, e2] at h
  exact h
end Go.Proofs.YtpidbakjpfngnaaDoor
