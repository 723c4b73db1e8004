/-
  The texts PkAwake, PkLaw, PkState, PkLawFull, PkLawTakes, PlRows, PkIn, PkScr of this proof, one behind the other.
-/
import Derived.Test.YtgnbmmceffolmaaGreatDoorFoldH
import Derived.Test.YtgnbmmceffolmaaGreatDoorFoldA
import Derived.Deep.Slices
import Derived.Deep.Grids
section
set_option maxRecDepth 100000
namespace Go.Proofs.YtgnbmmceffolmaaGreatDoor
open Go.RowKit
theorem none_in (w : World) (B : Nat) : SlIs none 0 0 ∧ ([] : List Nat).length = 0 ∧ Bs w B none [] := ⟨⟨fun _ => ⟨rfl, rfl⟩, Nat.le_refl _, by decide⟩, rfl, fun k hk => absurd hk (by simp)⟩
end Go.Proofs.YtgnbmmceffolmaaGreatDoor
end
section
set_option maxRecDepth 100000
namespace Go.Proofs.YtgnbmmceffolmaaGreatDoor
open Go.RowKit
section
variable {w w' : World} {c : Nat → Nat} {i j m base : Nat}
/-- A block of no thing. -/
def Free (c : Nat → Nat) (w : World) (b : Nat) (o : Obj) : Prop := w.heap[b]? = some o ∧ c b = 0
theorem Free.new {b : Nat} {o : Obj} (h : Free c w b o) (hb : Below w.heap.size w w') : Free c w' b o := ⟨(hb.block b (Array.getElem?_eq_some_iff.1 h.1).1).trans h.1, h.2⟩
theorem Free.other {b : Nat} {o : Obj} (h : Free c w b o) (hk : Kept (fun b => c b = i) w w') (hi : i ≠ 0) (m : Nat) : Free (paint c w w' m) w' b o :=
  ⟨Col.free hk h.1 h.2 hi, by rw [paint_old (Array.getElem?_eq_some_iff.1 h.1).1]; exact h.2⟩
theorem Free.made (hc : Col base w c) (o : Obj) : Free c (w.alloc o) w.heap.size o := ⟨heap_alloc_new _ _, hc.1 _ (Nat.le_refl _)⟩
theorem Col.other (hc : Col base w c) (hB : base ≤ w.heap.size) (hk : Kept (fun b => c b = i) w w') (m : Nat) : Col base w' (Go.Proofs.YtgnbmmceffolmaaGreatDoor.paint c w w' m) := hc.paint hB hk.size m
theorem below_kept {W : World} (hb : Below W.heap.size W w) (hc : Col W.heap.size w c) (hk : Kept (fun b => c b = i) w w') (hi : i ≠ 0) : Below W.heap.size W w' := hb.trans (hc.below hb.size hk hi)
section
variable {T : TypeId} {g : Nat} {a b d e slot seq : Int} {st : List Nat} {k : Nat}
theorem PkIs.other (h : PkIs T w (fun x => c x = j) g a b d e slot seq st k) (hk : Kept (fun x => c x = i) w w') (hij : i ≠ j) (m : Nat) : PkIs T w' (fun x => paint c w w' m x = j) g a b d e slot seq st k :=
  (h.mono fun _ hb e => paint_keep hb e).kept hk fun _ hb e e' => by rw [paint_old hb] at e; omega
theorem PkIs.self (h : PkIs T w' (Grow (fun x => c x = i) w) g a b d e slot seq st k) : PkIs T w' (fun x => paint c w w' i x = i) g a b d e slot seq st k := h.mono fun _ hb e => paint_self hb e
theorem PkIs.first (h : PkIs T w' (fun x => w.heap.size ≤ x) g a b d e slot seq st k) (i : Nat) : PkIs T w' (fun x => paint c w w' i x = i) g a b d e slot seq st k := h.mono fun _ hb e => paint_self hb (.inr e)
theorem PkIs.same (h : PkIs T w' (fun x => c x = j) g a b d e slot seq st k) (hc : Col base w c) (hj : j ≠ 0) (m : Nat) : PkIs T w' (fun x => paint c w w' m x = j) g a b d e slot seq st k :=
  h.mono fun x _ e => by
    rcases Nat.lt_or_ge x w.heap.size with h | h
    · rw [paint_old h]; exact e
    · have := hc.1 x h; omega
end
section
variable {t : TypeId} {z n : Nat} {v : Value} {xs : List Value} {fs : List (List Nat)} {j2 : Nat}
theorem SRow.other (h : SRow (fun x => c x = j) t z w v n xs) (hk : Kept (fun x => c x = i) w w') (hij : i ≠ j) (m : Nat) : SRow (fun x => paint c w w' m x = j) t z w' v n xs :=
  (h.mono fun _ hb e => paint_keep hb e).kept hk fun _ hb e e' => by rw [paint_old hb] at e; omega
theorem SRow.first (h : SRow (fun x => w.heap.size ≤ x) t z w' v n xs) (i : Nat) : SRow (fun x => paint c w w' i x = i) t z w' v n xs := h.mono fun _ hb e => paint_self hb (.inr e)
theorem FrRow.other (h : FrRow w (fun x => c x = j) (fun x => c x = j2) v n fs) (hk : Kept (fun x => c x = i) w w') (hij : i ≠ j) (hij2 : i ≠ j2) (m : Nat) : FrRow w' (fun x => paint c w w' m x = j) (fun x => paint c w w' m x = j2) v n fs :=
  (h.mono (fun _ hb e => paint_keep hb e) (fun _ hb e => paint_keep hb e)).kept hk (fun _ hb e e' => by rw [paint_old hb] at e; omega) (fun _ hb e e' => by rw [paint_old hb] at e; omega)
theorem FrRow.first (h : FrRow w' (fun x => w.heap.size ≤ x) (fun x => w.heap.size ≤ x) v n fs) (i : Nat) : FrRow w' (fun x => paint c w w' i x = i) (fun x => paint c w w' i x = i) v n fs := h.mono (fun _ hb e => paint_self hb (.inr e)) (fun _ hb e => paint_self hb (.inr e))
end
end
/-- A record by value, and what its key and its value read. -/
structure Rd where
  kd : Int
  x : Int
  A1 : Option Addr
  A2 : Option Addr
  n1 : Nat
  c1 : Nat
  n2 : Nat
  c2 : Nat
  key : List Nat
  val : List Nat
def Rd0 : Rd := ⟨0, 0, none, none, 0, 0, 0, 0, [], []⟩
def Rd.r (r : Rd) : Rc.Rec := ⟨r.kd, r.key, r.val, r.x⟩
def Rd.here (w : World) (B : Nat) (r : Rd) : Prop := RecIn w B r.A1 r.A2 r.n1 r.c1 r.n2 r.c2 r.key r.val
def recS : Shape Rd := ⟨fun r => [.int .i64 r.kd, .slice r.A1 r.n1 r.c1, .slice r.A2 r.n2 r.c2, .int .i64 r.x], Rd0, 4, fun _ => rfl, by decide, fun a u hu => by
  simp only [List.mem_cons, List.not_mem_nil, or_false] at hu
  rcases hu with rfl | rfl | rfl | rfl <;> rfl⟩
/-- What the laws put: at most 260 bytes of the key, 200 of the value. -/
def Rd.short (r : Rd) : Rd := ⟨r.kd, r.x, r.A1, r.A2, min r.n1 260, r.c1, min r.n2 200, r.c2, r.key.take 260, r.val.take 200⟩
theorem Rd.here.short {w : World} {B : Nat} {r : Rd} (h : r.here w B) : r.short.here w B := by
  obtain ⟨⟨⟨a1, a2, a3⟩, a4, a5⟩, ⟨b1, b2, b3⟩, b4, b5⟩ := h
  refine ⟨⟨⟨fun e => ?_, ?_, a3⟩, ?_, a5.take _⟩, ⟨⟨fun e => ?_, ?_, b3⟩, ?_, b5.take _⟩⟩
  · have := a1 e; simp only [Rd.short]; omega
  · simp only [Rd.short]; omega
  · simp only [Rd.short]; rw [List.length_take]; omega
  · have := b1 e; simp only [Rd.short]; omega
  · simp only [Rd.short]; omega
  · simp only [Rd.short]; rw [List.length_take]; omega
theorem Rd.here.below {w w' : World} {B C : Nat} {r : Rd} (h : r.here w B) (hb : Below C w w') (hB : B ≤ C) : r.here w' B := RecIn.below h hb hB
theorem Rd.here.lt {w : World} {B : Nat} {r : Rd} (h : r.here w B) : (∀ x ∈ r.r.key, x < 256) ∧ ∀ x ∈ r.r.val, x < 256 := ⟨h.1.2.2.lt, h.2.2.2.lt⟩
theorem shortrec_any (r : Rd) (w : World) (h : SlIs r.A1 r.n1 r.c1 ∧ SlIs r.A2 r.n2 r.c2) :
    Calls Tryz.prog 16 #[.agg #[.int .i64 r.kd, .slice r.A1 r.n1 r.c1, .slice r.A2 r.n2 r.c2, .int .i64 r.x]] w fun e w' => e = .returned (.agg #[.int .i64 r.short.kd, .slice r.short.A1 r.short.n1 r.short.c1, .slice r.short.A2 r.short.n2 r.short.c2, .int .i64 r.short.x]) ∧ Below w.heap.size w w' :=
  short_any r.kd r.x r.A1 r.A2 r.n1 r.n2 r.c1 r.c2 (min r.n1 260) (min r.n2 200) w h.1 h.2 (by unfold MinIs; omega) (by unfold MinIs; omega)
/-- Records read through a slice. -/
def RecsAt (w : World) (B : Nat) (A : Option Addr) (l : List Rd) : Prop := Arr recS w 0 B A l ∧ ∀ k, k < l.length → (l.getD k Rd0).here w B
theorem RecsAt.below {w w' : World} {B C : Nat} {A : Option Addr} {l : List Rd} (h : RecsAt w B A l) (hb : Below C w w') (hB : B ≤ C) : RecsAt w' B A l := ⟨h.1.below hb hB, fun k hk => (h.2 k hk).below hb hB⟩
theorem recs_at {w : World} {lo B : Nat} {ad : Addr} {l : List Rd} (h : Arr recS w lo B (some ad) l) (k : Nat) (hk : k < l.length) (r : Rd) (e : l.getD k Rd0 = r) :
    w.cell? (ad.add (k * 4)) = some (.int .i64 r.kd) ∧ w.cell? ⟨(ad.add (k * 4)).block, (ad.add (k * 4)).off + 1, none⟩ = some (.slice r.A1 r.n1 r.c1) ∧ w.cell? ⟨(ad.add (k * 4)).block, (ad.add (k * 4)).off + 2, none⟩ = some (.slice r.A2 r.n2 r.c2) ∧ w.cell? ⟨(ad.add (k * 4)).block, (ad.add (k * 4)).off + 3, none⟩ = some (.int .i64 r.x) := by
  have h4 : ∀ j v, (recS.cs r)[j]? = some v → w.cell? (ad.add (k * 4 + j)) = some v := fun j v hv => h.cell k hk j v (by rw [show l.getD k recS.z = r from e]; exact hv)
  have g : ∀ i, 0 < i → ∀ v, (recS.cs r)[i]? = some v → w.cell? ⟨(ad.add (k * 4)).block, (ad.add (k * 4)).off + i, none⟩ = some v := fun i hi v hv => by
    have := h4 i v hv
    rwa [at_field _ _ _ hi] at this
  exact ⟨h4 0 _ rfl, g 1 (by decide) _ rfl, g 2 (by decide) _ rfl, g 3 (by decide) _ rfl⟩
end Go.Proofs.YtgnbmmceffolmaaGreatDoor
end
section
set_option maxRecDepth 100000
namespace Go.Proofs.YtgnbmmceffolmaaGreatDoor
open Go.RowKit
/-- The things of a law side by side: each in blocks of its own colour. -/
structure StF (W : World) (a b c d slot seq : Int) (wr : World) (col : Nat → Nat) (gp : Nat) (stp : List Nat) (kp : Nat) (vs : Value) (ns : Nat) (ls : List Value) : Prop where
  colr : Col W.heap.size wr col
  up : Below W.heap.size W wr
  box : Free col wr W.heap.size (.cells #[.int .i64 a, .int .i64 b, .int .i64 c, .int .i64 d] 29 (0, 0))
  p : PkIs 134 wr (fun i => col i = 1) gp a b c d slot seq stp kp
  s : SRow (fun i => col i = 3) 3 1 wr vs ns ls
section
variable {W wr wr' : World} {a b c d slot seq : Int} {col : Nat → Nat} {gp : Nat} {stp : List Nat} {kp : Nat} {vs : Value} {ns : Nat} {ls : List Value}
theorem StF.new (h : StF W a b c d slot seq wr col gp stp kp vs ns ls) (hb : Below wr.heap.size wr wr') : StF W a b c d slot seq wr' col gp stp kp vs ns ls where
  colr := h.colr.next hb.size
  up := h.up.trans (hb.mono h.up.size)
  box := h.box.new hb
  p := h.p.new hb
  s := h.s.new hb
theorem StF.tab (h : StF W a b c d slot seq wr col gp stp kp vs ns ls) (ht : TabW W) (hz : 0 < W.heap.size) : TabW wr ∧ 0 < wr.heap.size := ⟨ht.below h.up hz, Nat.lt_of_lt_of_le hz h.up.size⟩
theorem StF.onP (h : StF W a b c d slot seq wr col gp stp kp vs ns ls) {stp' : List Nat} {kp' : Nat} (hn : PkIs 134 wr' (Grow (fun i => col i = 1) wr) gp a b c d slot seq stp' kp') (hk : Kept (fun i => col i = 1) wr wr') : StF W a b c d slot seq wr' (paint col wr wr' 1) gp stp' kp' vs ns ls where
  colr := h.colr.other h.up.size hk 1
  up := below_kept h.up h.colr hk (by decide)
  box := h.box.other hk (by decide) 1
  s := h.s.other hk (by decide) 1
  p := hn.self
theorem StF.tookP (h : StF W a b c d slot seq wr col gp stp kp vs ns ls) {stp' : List Nat} {kp' : Nat} (hn : PkIs 134 wr' (fun i => col i = 1) gp a b c d slot seq stp' kp') (hk : Kept (fun i => col i = 1) wr wr') : StF W a b c d slot seq wr' (paint col wr wr' 5) gp stp' kp' vs ns ls where
  colr := h.colr.other h.up.size hk 5
  up := below_kept h.up h.colr hk (by decide)
  box := h.box.other hk (by decide) 5
  s := h.s.other hk (by decide) 5
  p := hn.same h.colr (by decide) 5
end
/-- The things of a law side by side: each in blocks of its own colour. -/
structure StT (W : World) (a b c d slot seq : Int) (wr : World) (col : Nat → Nat) (gp : Nat) (stp : List Nat) (kp : Nat) (gq : Nat) (stq : List Nat) (kq : Nat) (vs : Value) (ns : Nat) (ls : List Value) (vf : Value) (nf : Nat) (lf : List (List Nat)) : Prop where
  colr : Col W.heap.size wr col
  up : Below W.heap.size W wr
  box : Free col wr W.heap.size (.cells #[.int .i64 a, .int .i64 b, .int .i64 c, .int .i64 d] 29 (0, 0))
  p : PkIs 134 wr (fun i => col i = 1) gp a b c d slot seq stp kp
  q : PkIs 134 wr (fun i => col i = 2) gq a b c d slot seq stq kq
  s : SRow (fun i => col i = 3) 3 1 wr vs ns ls
  f : FrRow wr (fun i => col i = 4) (fun i => col i = 5) vf nf lf
section
variable {W wr wr' : World} {a b c d slot seq : Int} {col : Nat → Nat} {gp : Nat} {stp : List Nat} {kp : Nat} {gq : Nat} {stq : List Nat} {kq : Nat} {vs : Value} {ns : Nat} {ls : List Value} {vf : Value} {nf : Nat} {lf : List (List Nat)}
theorem StT.new (h : StT W a b c d slot seq wr col gp stp kp gq stq kq vs ns ls vf nf lf) (hb : Below wr.heap.size wr wr') : StT W a b c d slot seq wr' col gp stp kp gq stq kq vs ns ls vf nf lf where
  colr := h.colr.next hb.size
  up := h.up.trans (hb.mono h.up.size)
  box := h.box.new hb
  p := h.p.new hb
  q := h.q.new hb
  s := h.s.new hb
  f := h.f.new hb
theorem StT.tab (h : StT W a b c d slot seq wr col gp stp kp gq stq kq vs ns ls vf nf lf) (ht : TabW W) (hz : 0 < W.heap.size) : TabW wr ∧ 0 < wr.heap.size := ⟨ht.below h.up hz, Nat.lt_of_lt_of_le hz h.up.size⟩
theorem StT.onP (h : StT W a b c d slot seq wr col gp stp kp gq stq kq vs ns ls vf nf lf) {stp' : List Nat} {kp' : Nat} (hn : PkIs 134 wr' (Grow (fun i => col i = 1) wr) gp a b c d slot seq stp' kp') (hk : Kept (fun i => col i = 1) wr wr') : StT W a b c d slot seq wr' (paint col wr wr' 1) gp stp' kp' gq stq kq vs ns ls vf nf lf where
  colr := h.colr.other h.up.size hk 1
  up := below_kept h.up h.colr hk (by decide)
  box := h.box.other hk (by decide) 1
  q := h.q.other hk (by decide) 1
  s := h.s.other hk (by decide) 1
  f := h.f.other hk (by decide) (by decide) 1
  p := hn.self
theorem StT.tookP (h : StT W a b c d slot seq wr col gp stp kp gq stq kq vs ns ls vf nf lf) {stp' : List Nat} {kp' : Nat} (hn : PkIs 134 wr' (fun i => col i = 1) gp a b c d slot seq stp' kp') (hk : Kept (fun i => col i = 1) wr wr') : StT W a b c d slot seq wr' (paint col wr wr' 5) gp stp' kp' gq stq kq vs ns ls vf nf lf where
  colr := h.colr.other h.up.size hk 5
  up := below_kept h.up h.colr hk (by decide)
  box := h.box.other hk (by decide) 5
  q := h.q.other hk (by decide) 5
  s := h.s.other hk (by decide) 5
  f := h.f.other hk (by decide) (by decide) 5
  p := hn.same h.colr (by decide) 5
end
/-- The things of a law side by side: each in blocks of its own colour. -/
structure StR (W : World) (a b c d slot seq : Int) (wr : World) (col : Nat → Nat) (gp : Nat) (stp : List Nat) (kp : Nat) (vo : Value) (no : Nat) (lo : List Value) (vn : Value) (nn : Nat) (ln : List Value) (vr : Value) (nr : Nat) (lr : List Value) : Prop where
  colr : Col W.heap.size wr col
  up : Below W.heap.size W wr
  box : Free col wr W.heap.size (.cells #[.int .i64 a, .int .i64 b, .int .i64 c, .int .i64 d] 29 (0, 0))
  p : PkIs 134 wr (fun i => col i = 1) gp a b c d slot seq stp kp
  o : SRow (fun i => col i = 3) 3 1 wr vo no lo
  n : SRow (fun i => col i = 4) 3 1 wr vn nn ln
  r : SRow (fun i => col i = 6) 55 4 wr vr nr lr
section
variable {W wr wr' : World} {a b c d slot seq : Int} {col : Nat → Nat} {gp : Nat} {stp : List Nat} {kp : Nat} {vo : Value} {no : Nat} {lo : List Value} {vn : Value} {nn : Nat} {ln : List Value} {vr : Value} {nr : Nat} {lr : List Value}
theorem StR.new (h : StR W a b c d slot seq wr col gp stp kp vo no lo vn nn ln vr nr lr) (hb : Below wr.heap.size wr wr') : StR W a b c d slot seq wr' col gp stp kp vo no lo vn nn ln vr nr lr where
  colr := h.colr.next hb.size
  up := h.up.trans (hb.mono h.up.size)
  box := h.box.new hb
  p := h.p.new hb
  o := h.o.new hb
  n := h.n.new hb
  r := h.r.new hb
theorem StR.tab (h : StR W a b c d slot seq wr col gp stp kp vo no lo vn nn ln vr nr lr) (ht : TabW W) (hz : 0 < W.heap.size) : TabW wr ∧ 0 < wr.heap.size := ⟨ht.below h.up hz, Nat.lt_of_lt_of_le hz h.up.size⟩
theorem StR.onP (h : StR W a b c d slot seq wr col gp stp kp vo no lo vn nn ln vr nr lr) {stp' : List Nat} {kp' : Nat} (hn : PkIs 134 wr' (Grow (fun i => col i = 1) wr) gp a b c d slot seq stp' kp') (hk : Kept (fun i => col i = 1) wr wr') : StR W a b c d slot seq wr' (paint col wr wr' 1) gp stp' kp' vo no lo vn nn ln vr nr lr where
  colr := h.colr.other h.up.size hk 1
  up := below_kept h.up h.colr hk (by decide)
  box := h.box.other hk (by decide) 1
  o := h.o.other hk (by decide) 1
  n := h.n.other hk (by decide) 1
  r := h.r.other hk (by decide) 1
  p := hn.self
theorem StR.tookP (h : StR W a b c d slot seq wr col gp stp kp vo no lo vn nn ln vr nr lr) {stp' : List Nat} {kp' : Nat} (hn : PkIs 134 wr' (fun i => col i = 1) gp a b c d slot seq stp' kp') (hk : Kept (fun i => col i = 1) wr wr') : StR W a b c d slot seq wr' (paint col wr wr' 5) gp stp' kp' vo no lo vn nn ln vr nr lr where
  colr := h.colr.other h.up.size hk 5
  up := below_kept h.up h.colr hk (by decide)
  box := h.box.other hk (by decide) 5
  o := h.o.other hk (by decide) 5
  n := h.n.other hk (by decide) 5
  r := h.r.other hk (by decide) 5
  p := hn.same h.colr (by decide) 5
end
/-- The things of a law side by side: each in blocks of its own colour. -/
structure StS (W : World) (a b c d slot seq : Int) (wr : World) (col : Nat → Nat) (gp : Nat) (stp : List Nat) (kp : Nat) (gq : Nat) (stq : List Nat) (kq : Nat) : Prop where
  colr : Col W.heap.size wr col
  up : Below W.heap.size W wr
  box : Free col wr W.heap.size (.cells #[.int .i64 a, .int .i64 b, .int .i64 c, .int .i64 d] 29 (0, 0))
  p : PkIs 134 wr (fun i => col i = 1) gp a b c d slot seq stp kp
  q : PkIs 92 wr (fun i => col i = 2) gq a b c d slot seq stq kq
section
variable {W wr wr' : World} {a b c d slot seq : Int} {col : Nat → Nat} {gp : Nat} {stp : List Nat} {kp : Nat} {gq : Nat} {stq : List Nat} {kq : Nat}
theorem StS.new (h : StS W a b c d slot seq wr col gp stp kp gq stq kq) (hb : Below wr.heap.size wr wr') : StS W a b c d slot seq wr' col gp stp kp gq stq kq where
  colr := h.colr.next hb.size
  up := h.up.trans (hb.mono h.up.size)
  box := h.box.new hb
  p := h.p.new hb
  q := h.q.new hb
theorem StS.tab (h : StS W a b c d slot seq wr col gp stp kp gq stq kq) (ht : TabW W) (hz : 0 < W.heap.size) : TabW wr ∧ 0 < wr.heap.size := ⟨ht.below h.up hz, Nat.lt_of_lt_of_le hz h.up.size⟩
theorem StS.onP (h : StS W a b c d slot seq wr col gp stp kp gq stq kq) {stp' : List Nat} {kp' : Nat} (hn : PkIs 134 wr' (Grow (fun i => col i = 1) wr) gp a b c d slot seq stp' kp') (hk : Kept (fun i => col i = 1) wr wr') : StS W a b c d slot seq wr' (paint col wr wr' 1) gp stp' kp' gq stq kq where
  colr := h.colr.other h.up.size hk 1
  up := below_kept h.up h.colr hk (by decide)
  box := h.box.other hk (by decide) 1
  q := h.q.other hk (by decide) 1
  p := hn.self
theorem StS.tookP (h : StS W a b c d slot seq wr col gp stp kp gq stq kq) {stp' : List Nat} {kp' : Nat} (hn : PkIs 134 wr' (fun i => col i = 1) gp a b c d slot seq stp' kp') (hk : Kept (fun i => col i = 1) wr wr') : StS W a b c d slot seq wr' (paint col wr wr' 5) gp stp' kp' gq stq kq where
  colr := h.colr.other h.up.size hk 5
  up := below_kept h.up h.colr hk (by decide)
  box := h.box.other hk (by decide) 5
  q := h.q.other hk (by decide) 5
  p := hn.same h.colr (by decide) 5
end
end Go.Proofs.YtgnbmmceffolmaaGreatDoor
end
section
set_option maxRecDepth 100000
namespace Go.Proofs.YtgnbmmceffolmaaGreatDoor
open Go.RowKit
def boolS : Shape Bool := ⟨fun k => [.bool k], false, 1, fun _ => rfl, by decide, fun a u hu => by
  simp only [List.mem_cons, List.not_mem_nil, or_false] at hu
  subst hu; rfl⟩
theorem bools_at {w : World} {lo B : Nat} {ad : Addr} {l : List Bool} (h : Arr boolS w lo B (some ad) l) (k : Nat) (hk : k < l.length) : w.cell? (ad.add k) = some (.bool (l.getD k false)) := by
  have := h.cell k hk 0 (.bool (l.getD k false)) rfl
  rwa [show k * boolS.m + 0 = k from Nat.mul_one k] at this
/-- Blocks of no thing. -/
def Frees (c : Nat → Nat) (w : World) (L : List (Nat × Obj)) : Prop := ∀ p ∈ L, Free c w p.1 p.2
theorem Frees.none {c : Nat → Nat} {w : World} : Frees c w [] := fun p hp => absurd hp (by simp)
theorem Frees.cons {c : Nat → Nat} {w : World} {b : Nat} {o : Obj} {L : List (Nat × Obj)} (h : Free c w b o) (hL : Frees c w L) : Frees c w ((b, o) :: L) := fun p hp => by
  rcases List.mem_cons.1 hp with rfl | hp
  · exact h
  · exact hL p hp
theorem Frees.new {c : Nat → Nat} {w w' : World} {L : List (Nat × Obj)} (h : Frees c w L) (hb : Below w.heap.size w w') : Frees c w' L := fun p hp => (h p hp).new hb
theorem Frees.other {c : Nat → Nat} {w w' : World} {i : Nat} {L : List (Nat × Obj)} (h : Frees c w L) (hk : Kept (fun b => c b = i) w w') (hi : i ≠ 0) (m : Nat) : Frees (paint c w w' m) w' L := fun p hp => (h p hp).other hk hi m
theorem take_ways (i n : Nat) (l : List Bool) : (n ≤ i ∧ decide ((i : Int) < (n : Int)) = false ∧ decide (i < n) = false) ∨ (i < n ∧ decide ((i : Int) < (n : Int)) = true ∧ ((l.getD i false = false) ∨ (l.getD i false = true))) := by
  by_cases h : i < n
  · refine .inr ⟨h, by simp only [decide_eq_true_eq]; omega, ?_⟩
    cases l.getD i false
    · exact .inl rfl
    · exact .inr rfl
  · exact .inl ⟨by omega, by simp only [decide_eq_false_iff_not]; omega, by simp only [decide_eq_false_iff_not]; omega⟩
end Go.Proofs.YtgnbmmceffolmaaGreatDoor
end
section
set_option maxRecDepth 100000
namespace Go.Proofs.YtgnbmmceffolmaaGreatDoor
open Go.RowKit
/-- The loop's test: fewer than the records there are, and than twelve. -/
theorem loop_ways (i n m : Nat) (M : Int) (hM : M = (m : Int)) : (decide ((i : Int) < (n : Int)) = false ∧ decide (i < n) = false) ∨ (decide ((i : Int) < (n : Int)) = true ∧ decide (i < n) = true ∧ decide ((i : Int) < M) = false) ∨ (i < n ∧ i < m ∧ decide ((i : Int) < (n : Int)) = true ∧ decide (i < n) = true ∧ decide ((i : Int) < M) = true) := by
  by_cases h : i < n
  · by_cases h2 : i < m
    · exact .inr (.inr ⟨h, h2, by simp only [decide_eq_true_eq]; omega, by simp only [decide_eq_true_eq]; omega, by simp only [decide_eq_true_eq]; omega⟩)
    · exact .inr (.inl ⟨by simp only [decide_eq_true_eq]; omega, by simp only [decide_eq_true_eq]; omega, by simp only [decide_eq_false_iff_not]; omega⟩)
  · exact .inl ⟨by simp only [decide_eq_false_iff_not]; omega, by simp only [decide_eq_false_iff_not]; omega⟩
end Go.Proofs.YtgnbmmceffolmaaGreatDoor
end
section
set_option maxRecDepth 100000
namespace Go.Proofs.YtgnbmmceffolmaaGreatDoor
open Go.ChangeShapes Go.WideShapes Go.ChangeAt Go.RowKit
section
variable {H : Type} {enc : TypeId × Value → H} {W : World}
end
end Go.Proofs.YtgnbmmceffolmaaGreatDoor
end
section
set_option maxRecDepth 100000
namespace Go.Proofs.YtgnbmmceffolmaaGreatDoor
open Go.ChangeShapes Go.WideShapes Go.ChangeAt Go.RowKit
section
variable {H : Type} {enc : TypeId × Value → H} {W : World}
theorem pick_some {α : Type} (z : α) {n : Nat} {p : Nat → α → Prop} (h : ∀ i, i < n → ∃ q, p i q) : ∃ l : List α, l.length = n ∧ ∀ i, i < n → p i (l.getD i z) := by
  induction n with
  | zero => exact ⟨[], rfl, fun i hi => absurd hi (by omega)⟩
  | succ n ih =>
    obtain ⟨l, hl, hp⟩ := ih fun i hi => h i (by omega)
    obtain ⟨q, hq⟩ := h n (by omega)
    refine ⟨l ++ [q], by simp [hl], fun i hi => ?_⟩
    rcases Nat.lt_or_ge i n with h2 | h2
    · rw [getD_left _ _ _ (by omega)]
      exact hp i h2
    · obtain rfl : i = n := by omega
      rw [getD_right _ _ _ (by omega), hl, Nat.sub_self]
      exact hq
/-- A slice of things of any shape, opened, with what is known of each. -/
theorem shape_trod {α : Type} (S : Shape α) (P : α → Prop) {tS e : TypeId} {v : Value} {fuel : Nat} {x : DataW H × List MemPlace} (hu : Tryz.prog.underlying tS = some (.slice e)) (ce : Tryz.prog.cellsOf e = S.m) (hcell : ∀ {fuel : Nat} {cs : List Value} {y : DataW H × List MemPlace}, cs.length = S.m → DataW.trod enc Tryz.prog W 0 (fun _ => true) true fuel e cs = some y → ∃ a, cs = S.cs a ∧ P a)
    (h : DataW.trod enc Tryz.prog W 0 (fun _ => true) true fuel tS [v] = some x) :
    ∃ A n cap l, v = .slice A n cap ∧ SlIs A n cap ∧ l.length = n ∧ Arr S W 0 W.heap.size A l ∧ ∀ k, k < n → P (l.getD k S.z) := by
  rcases Go.Deep.open_slice hu h with ⟨hcs, _⟩ | ⟨a, len, cap', m, q, D, PL, hcs, _, hl, hm, hmm, _, hx⟩
  · injection hcs with hcs
    exact ⟨none, 0, 0, [], hcs, ⟨fun _ => ⟨rfl, rfl⟩, Nat.le_refl _, by omega⟩, rfl, Arr.nil, fun k hk => absurd hk (by omega)⟩
  · injection hcs with hcs
    have each : ∀ i, i < len → ∃ q : α, P q ∧ ∀ j x, (S.cs q)[j]? = some x → W.cell? (a.add (i * S.m + j)) = some x := by
      intro i hi
      obtain ⟨cs', h1, h2⟩ := hx i (by simp only [if_true] at hmm; omega)
      rw [ce] at h1
      obtain ⟨_, hlen, hcell'⟩ := World.cells?_some h1
      obtain ⟨p, rfl, hp⟩ := hcell hlen h2
      refine ⟨p, hp, fun j x hj => ?_⟩
      have hj8 : j < S.m := by
        rcases Nat.lt_or_ge j S.m with h | h
        · exact h
        · rw [List.getElem?_eq_none (by rw [S.len]; exact h)] at hj; cases hj
      have e := hcell' j hj8
      rw [add_add] at e
      rw [e]
      exact hj
    obtain ⟨l, hll, hp⟩ := pick_some S.z each
    refine ⟨some a, len, cap', l, hcs, ⟨(fun h => by cases h), hl, by unfold maxLen at hm; exact hm⟩, hll, fun k hk => ?_, fun k hk => (hp k hk).1⟩
    have h := (hp k (by omega)).2
    refine ⟨a, rfl, Nat.zero_le _, ?_, h⟩
    have h0 := World.block_lt_of_cell? W _ (h 0 _ (List.getElem?_eq_getElem (by rw [S.len]; exact S.pos)))
    rwa [add_block] at h0
theorem rec_cells {fuel : Nat} {a0 a1 a2 a3 : Value} {y : DataW H × List MemPlace} (h : DataW.trod enc Tryz.prog W 0 (fun _ => true) true fuel 55 [a0, a1, a2, a3] = some y) :
    ∃ r : Rd, [a0, a1, a2, a3] = recS.cs r ∧ r.here W W.heap.size := by
  obtain ⟨xs, fu, _, _, _, hxl, hf⟩ := DataW.trod_struct Tryz.underlying55 h
  have t0 : Tryz.prog.cellsOf 3 = 1 := by kernel_rfl
  have t2 : Tryz.prog.cellsOf 27 = 1 := by kernel_rfl
  have hxl4 : xs.length = 4 := hxl
  have h0 : DataW.trod enc Tryz.prog W 0 (fun _ => true) true fu 3 (([a0, a1, a2, a3].drop 0).take (Tryz.prog.cellsOf 3)) = xs[0]? := hf 0 _ rfl
  have h1 : DataW.trod enc Tryz.prog W 0 (fun _ => true) true fu 27 (([a0, a1, a2, a3].drop 1).take (Tryz.prog.cellsOf 27)) = xs[1]? := hf 1 _ rfl
  have h2 : DataW.trod enc Tryz.prog W 0 (fun _ => true) true fu 27 (([a0, a1, a2, a3].drop 2).take (Tryz.prog.cellsOf 27)) = xs[2]? := hf 2 _ rfl
  have h3 : DataW.trod enc Tryz.prog W 0 (fun _ => true) true fu 3 (([a0, a1, a2, a3].drop 3).take (Tryz.prog.cellsOf 3)) = xs[3]? := hf 3 _ rfl
  rw [t0, List.getElem?_eq_getElem (by omega)] at h0 h3
  rw [t2, List.getElem?_eq_getElem (by omega)] at h1 h2
  obtain ⟨kd, ek, _⟩ := DataW.trod_int Tryz.underlying3 h0
  obtain ⟨x, ex, _⟩ := DataW.trod_int Tryz.underlying3 h3
  obtain ⟨A, n, c, k, e1, s1, l1, b1⟩ := bytes_field Tryz.underlying27 Tryz.underlying5 (by kernel_rfl) (v := a1) h1
  obtain ⟨A', n', c', k', e2, s2, l2, b2⟩ := bytes_field Tryz.underlying27 Tryz.underlying5 (by kernel_rfl) (v := a2) h2
  have ek' : a0 = .int .i64 kd := by simpa using ek
  have ex' : a3 = .int .i64 x := by simpa using ex
  subst ek' ex' e1 e2
  exact ⟨⟨kd, x, A, A', n, c, n', c', k, k'⟩, rfl, ⟨s1, l1, b1⟩, ⟨s2, l2, b2⟩⟩
end
end Go.Proofs.YtgnbmmceffolmaaGreatDoor
end
section
set_option maxRecDepth 100000
namespace Go.Proofs.YtgnbmmceffolmaaGreatDoor
open Go.ChangeShapes Go.WideShapes Go.ChangeAt Go.RowKit
/-- A call of a packer. -/
structure Cl where
  kd : Int
  r : Rd
  off : Int
  n : Int
def Cl0 : Cl := ⟨0, Rd0, 0, 0⟩
def clS : Shape Cl := ⟨fun o => [.int .i64 o.kd, .int .i64 o.r.kd, .slice o.r.A1 o.r.n1 o.r.c1, .slice o.r.A2 o.r.n2 o.r.c2, .int .i64 o.r.x, .int .i64 o.off, .int .i64 o.n], Cl0, 7, fun _ => rfl, by decide, fun a u hu => by
  simp only [List.mem_cons, List.not_mem_nil, or_false] at hu
  rcases hu with rfl | rfl | rfl | rfl | rfl | rfl | rfl <;> rfl⟩
def ClsAt (w : World) (B : Nat) (A : Option Addr) (l : List Cl) : Prop := Arr clS w 0 B A l ∧ ∀ k, k < l.length → (l.getD k Cl0).r.here w B
theorem ClsAt.below {w w' : World} {B C : Nat} {A : Option Addr} {l : List Cl} (h : ClsAt w B A l) (hb : Below C w w') (hB : B ≤ C) : ClsAt w' B A l := ⟨h.1.below hb hB, fun k hk => (h.2 k hk).below hb hB⟩
section
variable {H : Type} {enc : TypeId × Value → H} {W : World}
end
end Go.Proofs.YtgnbmmceffolmaaGreatDoor
end
