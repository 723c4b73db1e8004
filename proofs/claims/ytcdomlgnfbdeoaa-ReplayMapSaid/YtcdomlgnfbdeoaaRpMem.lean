/-
  Batches of found records in memory, and what they say.
-/
import Derived.Test.YtcdomlgnfbdeoaaFdMem
import Derived.Test.YtcdomlgnfbdeoaaRpMath
set_option maxRecDepth 100000
namespace Go.Proofs.Ytcdomlgnfbdeoaa
open Go.RowKit
/-- A batch in memory. -/
structure Bt where
  seq : Int
  A : Option Addr
  n : Nat
  c : Nat
  fds : List Fd
def Bt0 : Bt := ⟨0, none, 0, 0, []⟩
def batS : Shape Bt := ⟨fun b => [.int .i64 b.seq, .slice b.A b.n b.c], Bt0, 2, fun _ => rfl, by decide, fun a u hu => by
  simp only [List.mem_cons, List.not_mem_nil, or_false] at hu
  rcases hu with rfl | rfl <;> rfl⟩
/-- Found records read through a slice, of whatever length. -/
def FdsIn (w : World) (B : Nat) (A : Option Addr) (l : List Fd) : Prop := Arr fdS w 0 B A l ∧ ∀ f ∈ l, f.rd.here w B
theorem FdsIn.below {w w' : World} {B C : Nat} {A : Option Addr} {l : List Fd} (h : FdsIn w B A l) (hb : Below C w w') (hB : B ≤ C) : FdsIn w' B A l := ⟨h.1.below hb hB, fun f hf => (h.2 f hf).below hb hB⟩
theorem FdsAt.in_ {w : World} {B : Nat} {A : Option Addr} {l : List Fd} (h : FdsAt w B A l) : FdsIn w B A l := ⟨h.1, fun f hf => (h.2 f hf).1⟩
def Bt.here (w : World) (B : Nat) (b : Bt) : Prop := SlIs b.A b.n b.c ∧ b.fds.length = b.n ∧ FdsIn w B b.A b.fds
/-- Batches read through a slice. -/
def BtsAt (w : World) (B : Nat) (A : Option Addr) (l : List Bt) : Prop := Arr batS w 0 B A l ∧ ∀ b ∈ l, b.here w B
theorem Bt.here.below {w w' : World} {B C : Nat} {b : Bt} (h : b.here w B) (hb : Below C w w') (hB : B ≤ C) : b.here w' B := ⟨h.1, h.2.1, h.2.2.below hb hB⟩
theorem BtsAt.below {w w' : World} {B C : Nat} {A : Option Addr} {l : List Bt} (h : BtsAt w B A l) (hb : Below C w w') (hB : B ≤ C) : BtsAt w' B A l := ⟨h.1.below hb hB, fun b hm => (h.2 b hm).below hb hB⟩
theorem bts_at {w : World} {lo B : Nat} {ad : Addr} {l : List Bt} (h : Arr batS w lo B (some ad) l) (k : Nat) (hk : k < l.length) (b : Bt) (e : l.getD k Bt0 = b) :
    w.cell? (ad.add (k * 2)) = some (.int .i64 b.seq) ∧ w.cell? ⟨(ad.add (k * 2)).block, (ad.add (k * 2)).off + 1, none⟩ = some (.slice b.A b.n b.c) := by
  have h2 : ∀ j v, (batS.cs b)[j]? = some v → w.cell? (ad.add (k * 2 + j)) = some v := fun j v hv => h.cell k hk j v (by rw [show l.getD k batS.z = b from e]; exact hv)
  have g : ∀ i, 0 < i → ∀ v, (batS.cs b)[i]? = some v → w.cell? ⟨(ad.add (k * 2)).block, (ad.add (k * 2)).off + i, none⟩ = some v := fun i hi v hv => by
    have := h2 i v hv
    rwa [at_field _ _ _ hi] at this
  exact ⟨h2 0 _ rfl, g 1 (by decide) _ rfl⟩
/-- A found record with the number of its batch, in memory. -/
structure Rf where
  seq : Int
  fd : Fd
def Rf0 : Rf := ⟨0, Fd0⟩
def rfS : Shape Rf := ⟨fun r => [.int .i64 r.seq, .int .i64 r.fd.off, .int .i64 r.fd.len, .int .i64 r.fd.rd.kd, .slice r.fd.rd.A1 r.fd.rd.n1 r.fd.rd.c1, .slice r.fd.rd.A2 r.fd.rd.n2 r.fd.rd.c2, .int .i64 r.fd.rd.x], Rf0, 7, fun _ => rfl, by decide, fun a u hu => by
  simp only [List.mem_cons, List.not_mem_nil, or_false] at hu
  rcases hu with rfl | rfl | rfl | rfl | rfl | rfl | rfl <;> rfl⟩
/-- What it says. -/
def Rf.f (r : Rf) : Rp.F := ⟨r.seq, r.fd.off, r.fd.len, r.fd.rd.kd, strOf r.fd.rd.key, r.fd.rd.x⟩
def Bt.rs (b : Bt) : List Rf := b.fds.map (Rf.mk b.seq)
def rsOf (l : List Bt) : List Rf := l.flatMap Bt.rs
/-- What batches say. -/
def fsOf (l : List Bt) : List Rp.F := (rsOf l).map Rf.f
theorem rsOf_append (a b : List Bt) : rsOf (a ++ b) = rsOf a ++ rsOf b := List.flatMap_append
theorem rsOf_one (b : Bt) : rsOf [b] = b.rs := by unfold rsOf; rw [List.flatMap_cons, List.flatMap_nil, List.append_nil]
theorem fsOf_append (a b : List Bt) : fsOf (a ++ b) = fsOf a ++ fsOf b := by unfold fsOf; rw [rsOf_append, List.map_append]
theorem getD_mem {α : Type} {l : List α} {k : Nat} {z b : α} (hk : k < l.length) (e : l.getD k z = b) : b ∈ l := e ▸ mem_getD z hk
theorem take_one {α : Type} {l : List α} {k : Nat} (z : α) (hk : k < l.length) : l.take (k + 1) = l.take k ++ [l.getD k z] := by
  rw [List.take_succ_eq_append_getElem hk, List.getD_eq_getElem?_getD, List.getElem?_eq_getElem hk]; rfl
/-- The records of k whole batches, and i of the next one. -/
def upto (l : List Bt) (k i : Nat) : List Rf := rsOf (l.take k) ++ ((l.getD k Bt0).rs).take i
theorem upto_zero (l : List Bt) : upto l 0 0 = [] := by unfold upto; rw [List.take_zero, List.take_zero]; rfl
theorem upto_next {l : List Bt} {k i : Nat} {b : Bt} {f : Fd} (hb : l.getD k Bt0 = b) (hi : i < b.fds.length) (hf : b.fds.getD i Fd0 = f) : upto l k (i + 1) = upto l k i ++ [⟨b.seq, f⟩] := by
  unfold upto
  rw [hb, List.append_assoc]
  congr 1
  unfold Bt.rs
  rw [← List.map_take, ← List.map_take, take_one Fd0 hi, hf, List.map_append]
  rfl
theorem upto_end {l : List Bt} {k : Nat} {b : Bt} (hk : k < l.length) (hb : l.getD k Bt0 = b) : upto l k b.fds.length = upto l (k + 1) 0 := by
  unfold upto
  rw [take_one Bt0 hk, rsOf_append, hb, rsOf_one, List.take_zero, List.append_nil]
  congr 1
  exact List.take_of_length_le (by unfold Bt.rs; rw [List.length_map]; exact Nat.le_refl _)
theorem upto_all (l : List Bt) : upto l l.length 0 = rsOf l := by
  unfold upto
  rw [List.take_zero, List.append_nil, List.take_of_length_le (Nat.le_refl _)]
/-- Behind them comes the next one. -/
theorem upto_pre {l : List Bt} {k i : Nat} {b : Bt} {f : Fd} (hk : k < l.length) (hb : l.getD k Bt0 = b) (hi : i < b.fds.length) (hf : b.fds.getD i Fd0 = f) : ∃ rest, rsOf l = upto l k i ++ ⟨b.seq, f⟩ :: rest := by
  refine ⟨(b.rs).drop (i + 1) ++ rsOf (l.drop (k + 1)), ?_⟩
  have h1 : rsOf l = upto l (k + 1) 0 ++ rsOf (l.drop (k + 1)) := by
    conv => lhs; rw [← List.take_append_drop (k + 1) l, rsOf_append]
    unfold upto
    rw [List.take_zero, List.append_nil]
  have h2 : upto l k b.fds.length = upto l k (i + 1) ++ (b.rs).drop (i + 1) := by
    unfold upto
    rw [hb, List.append_assoc]
    congr 1
    have : (b.rs).take b.fds.length = b.rs := List.take_of_length_le (by unfold Bt.rs; rw [List.length_map]; exact Nat.le_refl _)
    rw [this, List.take_append_drop]
  rw [h1, ← upto_end hk hb, h2, upto_next hb hi hf, List.append_assoc, List.append_assoc]
  rfl
/-- How many records: at most so many batches of so many. -/
theorem rsOf_len {n : Nat} : ∀ {l : List Bt}, (∀ b ∈ l, b.fds.length ≤ n) → (rsOf l).length ≤ l.length * n
  | [], _ => by simp [rsOf]
  | b :: l, h => by
    have h1 := rsOf_len (l := l) (n := n) fun x hx => h x (List.mem_cons_of_mem _ hx)
    have h2 := h b (List.mem_cons_self ..)
    show (b.rs ++ rsOf l).length ≤ _
    rw [List.length_append, List.length_cons, Nat.succ_mul]
    unfold Bt.rs
    rw [List.length_map]
    omega
theorem upto_len {n : Nat} {l : List Bt} (h : ∀ b ∈ l, b.fds.length ≤ n) (k : Nat) {i : Nat} (hi : i ≤ n) : (upto l k i).length ≤ l.length * n + n := by
  unfold upto
  have h1 := rsOf_len (l := l.take k) (n := n) fun x hx => h x (List.mem_of_mem_take hx)
  rw [List.length_append, List.length_take]
  rw [List.length_take] at h1
  have : min k l.length * n ≤ l.length * n := Nat.mul_le_mul_right n (by omega)
  omega
/-- All records that are read lie below B. -/
theorem rs_here {w : World} {B : Nat} {A : Option Addr} {l : List Bt} (h : BtsAt w B A l) : ∀ r ∈ rsOf l, r.fd.rd.here w B := fun r hr => by
  unfold rsOf at hr
  obtain ⟨b, hb, hr⟩ := List.mem_flatMap.1 hr
  unfold Bt.rs at hr
  obtain ⟨f, hf, rfl⟩ := List.mem_map.1 hr
  exact (h.2 b hb).2.2.2 f hf
end Go.Proofs.Ytcdomlgnfbdeoaa
