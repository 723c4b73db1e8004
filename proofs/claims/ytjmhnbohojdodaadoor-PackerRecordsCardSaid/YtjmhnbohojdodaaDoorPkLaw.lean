/-
  Words for the laws of layer 13: things of colours side by side, records that came in.
-/
import Derived.Test.YtjmhnbohojdodaaDoorPkAwake
set_option maxRecDepth 100000
namespace Go.Proofs.YtjmhnbohojdodaaDoor
open Go.RowKit
section
variable {w w' : World} {c : Nat → Nat} {i j m base : Nat}
/-- A block of no thing. -/
def Free (c : Nat → Nat) (w : World) (b : Nat) (o : Obj) : Prop := w.heap[b]? = some o ∧ c b = 0
theorem Free.new {b : Nat} {o : Obj} (h : Free c w b o) (hb : Below w.heap.size w w') : Free c w' b o := ⟨(hb.block b (Array.getElem?_eq_some_iff.1 h.1).1).trans h.1, h.2⟩
theorem Free.other {b : Nat} {o : Obj} (h : Free c w b o) (hk : Kept (fun b => c b = i) w w') (hi : i ≠ 0) (m : Nat) : Free (paint c w w' m) w' b o :=
  ⟨Col.free hk h.1 h.2 hi, by rw [paint_old (Array.getElem?_eq_some_iff.1 h.1).1]; exact h.2⟩
theorem Free.made (hc : Col base w c) (o : Obj) : Free c (w.alloc o) w.heap.size o := ⟨heap_alloc_new _ _, hc.1 _ (Nat.le_refl _)⟩
theorem Col.other (hc : Col base w c) (hB : base ≤ w.heap.size) (hk : Kept (fun b => c b = i) w w') (m : Nat) : Col base w' (Go.Proofs.YtjmhnbohojdodaaDoor.paint c w w' m) := hc.paint hB hk.size m
theorem below_kept {W : World} (hb : Below W.heap.size W w) (hc : Col W.heap.size w c) (hk : Kept (fun b => c b = i) w w') (hi : i ≠ 0) : Below W.heap.size W w' := hb.trans (hc.below hb.size hk hi)
section
variable {T : TypeId} {g : Nat} {a b d e slot seq : Int} {st : List Nat} {k : Nat}
theorem PkIs.other (h : PkIs T w (fun x => c x = j) g a b d e slot seq st k) (hk : Kept (fun x => c x = i) w w') (hij : i ≠ j) (m : Nat) : PkIs T w' (fun x => paint c w w' m x = j) g a b d e slot seq st k :=
  (h.mono fun _ hb e => paint_keep hb e).kept hk fun _ hb e e' => by rw [paint_old hb] at e; omega
theorem PkIs.self (h : PkIs T w' (Grow (fun x => c x = i) w) g a b d e slot seq st k) : PkIs T w' (fun x => paint c w w' i x = i) g a b d e slot seq st k := h.mono fun _ hb e => paint_self hb e
theorem PkIs.first (h : PkIs T w' (fun x => w.heap.size ≤ x) g a b d e slot seq st k) (i : Nat) : PkIs T w' (fun x => paint c w w' i x = i) g a b d e slot seq st k := h.mono fun _ hb e => paint_self hb (.inr e)
theorem PkIs.same (h : PkIs T w' (fun x => c x = j) g a b d e slot seq st k) (hc : Col base w c) (hj : j ≠ 0) (m : Nat) : PkIs T w' (fun x => paint c w w' m x = j) g a b d e slot seq st k :=
  h.mono fun x _ e => by
    rcases Nat.lt_or_ge x w.heap.size with h | h
    · rw [paint_old h]; exact e
    · have := hc.1 x h; omega
end
section
variable {t : TypeId} {z n : Nat} {v : Value} {xs : List Value} {fs : List (List Nat)} {j2 : Nat}
theorem SRow.other (h : SRow (fun x => c x = j) t z w v n xs) (hk : Kept (fun x => c x = i) w w') (hij : i ≠ j) (m : Nat) : SRow (fun x => paint c w w' m x = j) t z w' v n xs :=
  (h.mono fun _ hb e => paint_keep hb e).kept hk fun _ hb e e' => by rw [paint_old hb] at e; omega
theorem SRow.mine (h : SRow (Grow (fun x => c x = i) w) t z w' v n xs) : SRow (fun x => paint c w w' i x = i) t z w' v n xs := h.mono fun _ hb e => paint_self hb e
theorem SRow.first (h : SRow (fun x => w.heap.size ≤ x) t z w' v n xs) (i : Nat) : SRow (fun x => paint c w w' i x = i) t z w' v n xs := h.mono fun _ hb e => paint_self hb (.inr e)
theorem FrRow.other (h : FrRow w (fun x => c x = j) (fun x => c x = j2) v n fs) (hk : Kept (fun x => c x = i) w w') (hij : i ≠ j) (hij2 : i ≠ j2) (m : Nat) : FrRow w' (fun x => paint c w w' m x = j) (fun x => paint c w w' m x = j2) v n fs :=
  (h.mono (fun _ hb e => paint_keep hb e) (fun _ hb e => paint_keep hb e)).kept hk (fun _ hb e e' => by rw [paint_old hb] at e; omega) (fun _ hb e e' => by rw [paint_old hb] at e; omega)
theorem FrRow.first (h : FrRow w' (fun x => w.heap.size ≤ x) (fun x => w.heap.size ≤ x) v n fs) (i : Nat) : FrRow w' (fun x => paint c w w' i x = i) (fun x => paint c w w' i x = i) v n fs := h.mono (fun _ hb e => paint_self hb (.inr e)) (fun _ hb e => paint_self hb (.inr e))
end
end
/-- A record by value, and what its key and its value read. -/
structure Rd where
  kd : Int
  x : Int
  A1 : Option Addr
  A2 : Option Addr
  n1 : Nat
  c1 : Nat
  n2 : Nat
  c2 : Nat
  key : List Nat
  val : List Nat
def Rd0 : Rd := ⟨0, 0, none, none, 0, 0, 0, 0, [], []⟩
def Rd.r (r : Rd) : Rc.Rec := ⟨r.kd, r.key, r.val, r.x⟩
def Rd.here (w : World) (B : Nat) (r : Rd) : Prop := RecIn w B r.A1 r.A2 r.n1 r.c1 r.n2 r.c2 r.key r.val
def recS : Shape Rd := ⟨fun r => [.int .i64 r.kd, .slice r.A1 r.n1 r.c1, .slice r.A2 r.n2 r.c2, .int .i64 r.x], Rd0, 4, fun _ => rfl, by decide, fun a u hu => by
  simp only [List.mem_cons, List.not_mem_nil, or_false] at hu
  rcases hu with rfl | rfl | rfl | rfl <;> rfl⟩
/-- What the laws put: at most 260 bytes of the key, 200 of the value. -/
def Rd.short (r : Rd) : Rd := ⟨r.kd, r.x, r.A1, r.A2, min r.n1 260, r.c1, min r.n2 200, r.c2, r.key.take 260, r.val.take 200⟩
theorem Rd.here.short {w : World} {B : Nat} {r : Rd} (h : r.here w B) : r.short.here w B := by
  obtain ⟨⟨⟨a1, a2, a3⟩, a4, a5⟩, ⟨b1, b2, b3⟩, b4, b5⟩ := h
  refine ⟨⟨⟨fun e => ?_, ?_, a3⟩, ?_, a5.take _⟩, ⟨⟨fun e => ?_, ?_, b3⟩, ?_, b5.take _⟩⟩
  · have := a1 e; simp only [Rd.short]; omega
  · simp only [Rd.short]; omega
  · simp only [Rd.short]; rw [List.length_take]; omega
  · have := b1 e; simp only [Rd.short]; omega
  · simp only [Rd.short]; omega
  · simp only [Rd.short]; rw [List.length_take]; omega
theorem Rd.here.below {w w' : World} {B C : Nat} {r : Rd} (h : r.here w B) (hb : Below C w w') (hB : B ≤ C) : r.here w' B := RecIn.below h hb hB
theorem Rd.here.lt {w : World} {B : Nat} {r : Rd} (h : r.here w B) : (∀ x ∈ r.r.key, x < 256) ∧ ∀ x ∈ r.r.val, x < 256 := ⟨h.1.2.2.lt, h.2.2.2.lt⟩
theorem shortrec_any (r : Rd) (w : World) (h : SlIs r.A1 r.n1 r.c1 ∧ SlIs r.A2 r.n2 r.c2) :
    Calls Tryd.prog 11 #[.agg #[.int .i64 r.kd, .slice r.A1 r.n1 r.c1, .slice r.A2 r.n2 r.c2, .int .i64 r.x]] w fun e w' => e = .returned (.agg #[.int .i64 r.short.kd, .slice r.short.A1 r.short.n1 r.short.c1, .slice r.short.A2 r.short.n2 r.short.c2, .int .i64 r.short.x]) ∧ Below w.heap.size w w' :=
  short_any r.kd r.x r.A1 r.A2 r.n1 r.n2 r.c1 r.c2 (min r.n1 260) (min r.n2 200) w h.1 h.2 (by unfold MinIs; omega) (by unfold MinIs; omega)
/-- Records read through a slice. -/
def RecsAt (w : World) (B : Nat) (A : Option Addr) (l : List Rd) : Prop := Arr recS w 0 B A l ∧ ∀ k, k < l.length → (l.getD k Rd0).here w B
theorem RecsAt.below {w w' : World} {B C : Nat} {A : Option Addr} {l : List Rd} (h : RecsAt w B A l) (hb : Below C w w') (hB : B ≤ C) : RecsAt w' B A l := ⟨h.1.below hb hB, fun k hk => (h.2 k hk).below hb hB⟩
theorem recs_at {w : World} {lo B : Nat} {ad : Addr} {l : List Rd} (h : Arr recS w lo B (some ad) l) (k : Nat) (hk : k < l.length) (r : Rd) (e : l.getD k Rd0 = r) :
    w.cell? (ad.add (k * 4)) = some (.int .i64 r.kd) ∧ w.cell? ⟨(ad.add (k * 4)).block, (ad.add (k * 4)).off + 1, none⟩ = some (.slice r.A1 r.n1 r.c1) ∧ w.cell? ⟨(ad.add (k * 4)).block, (ad.add (k * 4)).off + 2, none⟩ = some (.slice r.A2 r.n2 r.c2) ∧ w.cell? ⟨(ad.add (k * 4)).block, (ad.add (k * 4)).off + 3, none⟩ = some (.int .i64 r.x) := by
  have h4 : ∀ j v, (recS.cs r)[j]? = some v → w.cell? (ad.add (k * 4 + j)) = some v := fun j v hv => h.cell k hk j v (by rw [show l.getD k recS.z = r from e]; exact hv)
  have g : ∀ i, 0 < i → ∀ v, (recS.cs r)[i]? = some v → w.cell? ⟨(ad.add (k * 4)).block, (ad.add (k * 4)).off + i, none⟩ = some v := fun i hi v hv => by
    have := h4 i v hv
    rwa [at_field _ _ _ hi] at this
  exact ⟨h4 0 _ rfl, g 1 (by decide) _ rfl, g 2 (by decide) _ rfl, g 3 (by decide) _ rfl⟩
end Go.Proofs.YtjmhnbohojdodaaDoor
