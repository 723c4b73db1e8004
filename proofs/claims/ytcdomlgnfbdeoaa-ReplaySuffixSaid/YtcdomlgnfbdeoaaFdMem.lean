/-
  Words on records and on found records in memory: their cells, where their keys and values lie, slices of them.
-/
import Derived.Test.YtcdomlgnfbdeoaaArr
set_option maxRecDepth 100000
namespace Go.Proofs.Ytcdomlgnfbdeoaa
open Go.RowKit
/-- What a record's value stands for: where its key and its value lie. -/
def RecIn (w : World) (B : Nat) (A1 A2 : Option Addr) (n1 c1 n2 c2 : Nat) (key val : List Nat) : Prop := (SlIs A1 n1 c1 ∧ key.length = n1 ∧ Bs w B A1 key) ∧ (SlIs A2 n2 c2 ∧ val.length = n2 ∧ Bs w B A2 val)
theorem RecIn.below {w w' : World} {B C : Nat} {A1 A2 : Option Addr} {n1 c1 n2 c2 : Nat} {key val : List Nat} (h : RecIn w B A1 A2 n1 c1 n2 c2 key val) (hb : Below C w w') (hB : B ≤ C) : RecIn w' B A1 A2 n1 c1 n2 c2 key val :=
  ⟨⟨h.1.1, h.1.2.1, h.1.2.2.below hb hB⟩, ⟨h.2.1, h.2.2.1, h.2.2.2.below hb hB⟩⟩
/-- A record by value, and what its key and its value read. -/
structure Rd where
  kd : Int
  x : Int
  A1 : Option Addr
  A2 : Option Addr
  n1 : Nat
  c1 : Nat
  n2 : Nat
  c2 : Nat
  key : List Nat
  val : List Nat
def Rd0 : Rd := ⟨0, 0, none, none, 0, 0, 0, 0, [], []⟩
def Rd.r (r : Rd) : Rc.Rec := ⟨r.kd, r.key, r.val, r.x⟩
def Rd.here (w : World) (B : Nat) (r : Rd) : Prop := RecIn w B r.A1 r.A2 r.n1 r.c1 r.n2 r.c2 r.key r.val
def recS : Shape Rd := ⟨fun r => [.int .i64 r.kd, .slice r.A1 r.n1 r.c1, .slice r.A2 r.n2 r.c2, .int .i64 r.x], Rd0, 4, fun _ => rfl, by decide, fun a u hu => by
  simp only [List.mem_cons, List.not_mem_nil, or_false] at hu
  rcases hu with rfl | rfl | rfl | rfl <;> rfl⟩
theorem Rd.here.below {w w' : World} {B C : Nat} {r : Rd} (h : r.here w B) (hb : Below C w w') (hB : B ≤ C) : r.here w' B := RecIn.below h hb hB
theorem Rd.here.lt {w : World} {B : Nat} {r : Rd} (h : r.here w B) : (∀ x ∈ r.r.key, x < 256) ∧ ∀ x ∈ r.r.val, x < 256 := ⟨h.1.2.2.lt, h.2.2.2.lt⟩
/-- Records read through a slice. -/
def RecsAt (w : World) (B : Nat) (A : Option Addr) (l : List Rd) : Prop := Arr recS w 0 B A l ∧ ∀ k, k < l.length → (l.getD k Rd0).here w B
theorem RecsAt.below {w w' : World} {B C : Nat} {A : Option Addr} {l : List Rd} (h : RecsAt w B A l) (hb : Below C w w') (hB : B ≤ C) : RecsAt w' B A l := ⟨h.1.below hb hB, fun k hk => (h.2 k hk).below hb hB⟩
theorem recs_at {w : World} {lo B : Nat} {ad : Addr} {l : List Rd} (h : Arr recS w lo B (some ad) l) (k : Nat) (hk : k < l.length) (r : Rd) (e : l.getD k Rd0 = r) :
    w.cell? (ad.add (k * 4)) = some (.int .i64 r.kd) ∧ w.cell? ⟨(ad.add (k * 4)).block, (ad.add (k * 4)).off + 1, none⟩ = some (.slice r.A1 r.n1 r.c1) ∧ w.cell? ⟨(ad.add (k * 4)).block, (ad.add (k * 4)).off + 2, none⟩ = some (.slice r.A2 r.n2 r.c2) ∧ w.cell? ⟨(ad.add (k * 4)).block, (ad.add (k * 4)).off + 3, none⟩ = some (.int .i64 r.x) := by
  have h4 : ∀ j v, (recS.cs r)[j]? = some v → w.cell? (ad.add (k * 4 + j)) = some v := fun j v hv => h.cell k hk j v (by rw [show l.getD k recS.z = r from e]; exact hv)
  have g : ∀ i, 0 < i → ∀ v, (recS.cs r)[i]? = some v → w.cell? ⟨(ad.add (k * 4)).block, (ad.add (k * 4)).off + i, none⟩ = some v := fun i hi v hv => by
    have := h4 i v hv
    rwa [at_field _ _ _ hi] at this
  exact ⟨h4 0 _ rfl, g 1 (by decide) _ rfl, g 2 (by decide) _ rfl, g 3 (by decide) _ rfl⟩
/-- A record that was found, in memory. -/
structure Fd where
  off : Int
  len : Int
  rd : Rd
def Fd0 : Fd := ⟨0, 0, Rd0⟩
def fdS : Shape Fd := ⟨fun f => [.int .i64 f.off, .int .i64 f.len, .int .i64 f.rd.kd, .slice f.rd.A1 f.rd.n1 f.rd.c1, .slice f.rd.A2 f.rd.n2 f.rd.c2, .int .i64 f.rd.x], Fd0, 6, fun _ => rfl, by decide, fun a u hu => by
  simp only [List.mem_cons, List.not_mem_nil, or_false] at hu
  rcases hu with rfl | rfl | rfl | rfl | rfl | rfl <;> rfl⟩
def Fd.small (f : Fd) : Prop := f.rd.n1 ≤ 140737488355328 ∧ f.rd.n2 ≤ 140737488355328
/-- Found records read through a slice. -/
def FdsAt (w : World) (B : Nat) (A : Option Addr) (l : List Fd) : Prop := Arr fdS w 0 B A l ∧ ∀ f ∈ l, f.rd.here w B ∧ f.small
theorem FdsAt.below {w w' : World} {B C : Nat} {A : Option Addr} {l : List Fd} (h : FdsAt w B A l) (hb : Below C w w') (hB : B ≤ C) : FdsAt w' B A l := ⟨h.1.below hb hB, fun f hf => ⟨(h.2 f hf).1.below hb hB, (h.2 f hf).2⟩⟩
theorem FdsAt.take {w : World} {B : Nat} {A : Option Addr} {l : List Fd} (h : FdsAt w B A l) (n : Nat) : FdsAt w B A (l.take n) := ⟨h.1.take n, fun f hf => h.2 f (List.mem_of_mem_take hf)⟩
theorem mem_getD {α : Type} {l : List α} {k : Nat} (z : α) (hk : k < l.length) : l.getD k z ∈ l := by
  rw [List.getD_eq_getElem?_getD, List.getElem?_eq_getElem hk]; exact List.getElem_mem hk
theorem fds_at {w : World} {lo B : Nat} {ad : Addr} {l : List Fd} (h : Arr fdS w lo B (some ad) l) (k : Nat) (hk : k < l.length) (f : Fd) (e : l.getD k Fd0 = f) :
    w.cell? (ad.add (k * 6)) = some (.int .i64 f.off) ∧ w.cell? ⟨(ad.add (k * 6)).block, (ad.add (k * 6)).off + 1, none⟩ = some (.int .i64 f.len) ∧ w.cell? ⟨(ad.add (k * 6)).block, (ad.add (k * 6)).off + 2, none⟩ = some (.int .i64 f.rd.kd) ∧ w.cell? ⟨(ad.add (k * 6)).block, (ad.add (k * 6)).off + 3, none⟩ = some (.slice f.rd.A1 f.rd.n1 f.rd.c1) ∧ w.cell? ⟨(ad.add (k * 6)).block, (ad.add (k * 6)).off + 4, none⟩ = some (.slice f.rd.A2 f.rd.n2 f.rd.c2) ∧ w.cell? ⟨(ad.add (k * 6)).block, (ad.add (k * 6)).off + 5, none⟩ = some (.int .i64 f.rd.x) := by
  have h6 : ∀ j v, (fdS.cs f)[j]? = some v → w.cell? (ad.add (k * 6 + j)) = some v := fun j v hv => h.cell k hk j v (by rw [show l.getD k fdS.z = f from e]; exact hv)
  have g : ∀ i, 0 < i → ∀ v, (fdS.cs f)[i]? = some v → w.cell? ⟨(ad.add (k * 6)).block, (ad.add (k * 6)).off + i, none⟩ = some v := fun i hi v hv => by
    have := h6 i v hv
    rwa [at_field _ _ _ hi] at this
  exact ⟨h6 0 _ rfl, g 1 (by decide) _ rfl, g 2 (by decide) _ rfl, g 3 (by decide) _ rfl, g 4 (by decide) _ rfl, g 5 (by decide) _ rfl⟩
end Go.Proofs.Ytcdomlgnfbdeoaa
