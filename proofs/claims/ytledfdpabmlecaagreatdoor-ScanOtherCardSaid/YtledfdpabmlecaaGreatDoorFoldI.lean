/-
  The texts PkAwake, PkLaw, PkState, PkLawFull, PkLawTakes, PlRows, PkIn, PkScr of this proof, one behind the other.
-/
import Derived.Test.YtledfdpabmlecaaGreatDoorFoldH
import Derived.Test.YtledfdpabmlecaaGreatDoorFoldA
import Derived.Deep.Slices
import Derived.Deep.Grids
section
set_option maxRecDepth 100000
namespace Go.Proofs.YtledfdpabmlecaaGreatDoor
open Go.RowKit
def pl : Sb.L := ⟨1, 1, 4, 4⟩
theorem pl_ok : Pk.ok ⟨1, 1, 4, 4⟩ 0 1 := by decide
def pr : Rc.Rec := ⟨2, [107], [], 0⟩
theorem pr_err : Pk.err ⟨1, 1, 4, 4⟩ [] ⟨2, [107], [], 0⟩ = 0 := by decide
theorem pr_len : (Pk.put ⟨1, 1, 4, 4⟩ 1 [] ⟨2, [107], [], 0⟩).length = 17 := by
  rw [Pk.put_ok pr_err, List.nil_append, Rc.enc_length]; rfl
theorem grow_from {w w1 : World} (h : w.heap.size ≤ w1.heap.size) (k : Nat) (e : Grow (fun k => w.heap.size ≤ k) w1 k) : w.heap.size ≤ k := by
  rcases e with e | e <;> omega
theorem from_below {w w1 w2 : World} (h : Below w.heap.size w w1) (k : Kept (fun k => w.heap.size ≤ k) w1 w2) : Below w.heap.size w w2 := h.trans (k.below h.size fun _ e => e)
theorem none_in (w : World) (B : Nat) : SlIs none 0 0 ∧ ([] : List Nat).length = 0 ∧ Bs w B none [] := ⟨⟨fun _ => ⟨rfl, rfl⟩, Nat.le_refl _, by decide⟩, rfl, fun k hk => absurd hk (by simp)⟩
end Go.Proofs.YtledfdpabmlecaaGreatDoor
end
section
set_option maxRecDepth 100000
namespace Go.Proofs.YtledfdpabmlecaaGreatDoor
open Go.RowKit
section
variable {w w' : World} {c : Nat → Nat} {i j m base : Nat}
/-- A block of no thing. -/
def Free (c : Nat → Nat) (w : World) (b : Nat) (o : Obj) : Prop := w.heap[b]? = some o ∧ c b = 0
theorem Free.new {b : Nat} {o : Obj} (h : Free c w b o) (hb : Below w.heap.size w w') : Free c w' b o := ⟨(hb.block b (Array.getElem?_eq_some_iff.1 h.1).1).trans h.1, h.2⟩
theorem Free.other {b : Nat} {o : Obj} (h : Free c w b o) (hk : Kept (fun b => c b = i) w w') (hi : i ≠ 0) (m : Nat) : Free (paint c w w' m) w' b o :=
  ⟨Col.free hk h.1 h.2 hi, by rw [paint_old (Array.getElem?_eq_some_iff.1 h.1).1]; exact h.2⟩
theorem Free.made (hc : Col base w c) (o : Obj) : Free c (w.alloc o) w.heap.size o := ⟨heap_alloc_new _ _, hc.1 _ (Nat.le_refl _)⟩
theorem Col.other (hc : Col base w c) (hB : base ≤ w.heap.size) (hk : Kept (fun b => c b = i) w w') (m : Nat) : Col base w' (Go.Proofs.YtledfdpabmlecaaGreatDoor.paint c w w' m) := hc.paint hB hk.size m
theorem below_kept {W : World} (hb : Below W.heap.size W w) (hc : Col W.heap.size w c) (hk : Kept (fun b => c b = i) w w') (hi : i ≠ 0) : Below W.heap.size W w' := hb.trans (hc.below hb.size hk hi)
section
variable {T : TypeId} {g : Nat} {a b d e slot seq : Int} {st : List Nat} {k : Nat}
theorem PkIs.other (h : PkIs T w (fun x => c x = j) g a b d e slot seq st k) (hk : Kept (fun x => c x = i) w w') (hij : i ≠ j) (m : Nat) : PkIs T w' (fun x => paint c w w' m x = j) g a b d e slot seq st k :=
  (h.mono fun _ hb e => paint_keep hb e).kept hk fun _ hb e e' => by rw [paint_old hb] at e; omega
theorem PkIs.self (h : PkIs T w' (Grow (fun x => c x = i) w) g a b d e slot seq st k) : PkIs T w' (fun x => paint c w w' i x = i) g a b d e slot seq st k := h.mono fun _ hb e => paint_self hb e
theorem PkIs.first (h : PkIs T w' (fun x => w.heap.size ≤ x) g a b d e slot seq st k) (i : Nat) : PkIs T w' (fun x => paint c w w' i x = i) g a b d e slot seq st k := h.mono fun _ hb e => paint_self hb (.inr e)
theorem PkIs.same (h : PkIs T w' (fun x => c x = j) g a b d e slot seq st k) (hc : Col base w c) (hj : j ≠ 0) (m : Nat) : PkIs T w' (fun x => paint c w w' m x = j) g a b d e slot seq st k :=
  h.mono fun x _ e => by
    rcases Nat.lt_or_ge x w.heap.size with h | h
    · rw [paint_old h]; exact e
    · have := hc.1 x h; omega
end
section
variable {t : TypeId} {z n : Nat} {v : Value} {xs : List Value} {fs : List (List Nat)} {j2 : Nat}
theorem SRow.other (h : SRow (fun x => c x = j) t z w v n xs) (hk : Kept (fun x => c x = i) w w') (hij : i ≠ j) (m : Nat) : SRow (fun x => paint c w w' m x = j) t z w' v n xs :=
  (h.mono fun _ hb e => paint_keep hb e).kept hk fun _ hb e e' => by rw [paint_old hb] at e; omega
theorem SRow.mine (h : SRow (Grow (fun x => c x = i) w) t z w' v n xs) : SRow (fun x => paint c w w' i x = i) t z w' v n xs := h.mono fun _ hb e => paint_self hb e
theorem SRow.first (h : SRow (fun x => w.heap.size ≤ x) t z w' v n xs) (i : Nat) : SRow (fun x => paint c w w' i x = i) t z w' v n xs := h.mono fun _ hb e => paint_self hb (.inr e)
theorem FrRow.other (h : FrRow w (fun x => c x = j) (fun x => c x = j2) v n fs) (hk : Kept (fun x => c x = i) w w') (hij : i ≠ j) (hij2 : i ≠ j2) (m : Nat) : FrRow w' (fun x => paint c w w' m x = j) (fun x => paint c w w' m x = j2) v n fs :=
  (h.mono (fun _ hb e => paint_keep hb e) (fun _ hb e => paint_keep hb e)).kept hk (fun _ hb e e' => by rw [paint_old hb] at e; omega) (fun _ hb e e' => by rw [paint_old hb] at e; omega)
theorem FrRow.first (h : FrRow w' (fun x => w.heap.size ≤ x) (fun x => w.heap.size ≤ x) v n fs) (i : Nat) : FrRow w' (fun x => paint c w w' i x = i) (fun x => paint c w w' i x = i) v n fs := h.mono (fun _ hb e => paint_self hb (.inr e)) (fun _ hb e => paint_self hb (.inr e))
end
end
/-- A record by value, and what its key and its value read. -/
structure Rd where
  kd : Int
  x : Int
  A1 : Option Addr
  A2 : Option Addr
  n1 : Nat
  c1 : Nat
  n2 : Nat
  c2 : Nat
  key : List Nat
  val : List Nat
def Rd0 : Rd := ⟨0, 0, none, none, 0, 0, 0, 0, [], []⟩
def Rd.r (r : Rd) : Rc.Rec := ⟨r.kd, r.key, r.val, r.x⟩
def Rd.here (w : World) (B : Nat) (r : Rd) : Prop := RecIn w B r.A1 r.A2 r.n1 r.c1 r.n2 r.c2 r.key r.val
def recS : Shape Rd := ⟨fun r => [.int .i64 r.kd, .slice r.A1 r.n1 r.c1, .slice r.A2 r.n2 r.c2, .int .i64 r.x], Rd0, 4, fun _ => rfl, by decide, fun a u hu => by
  simp only [List.mem_cons, List.not_mem_nil, or_false] at hu
  rcases hu with rfl | rfl | rfl | rfl <;> rfl⟩
/-- What the laws put: at most 260 bytes of the key, 200 of the value. -/
def Rd.short (r : Rd) : Rd := ⟨r.kd, r.x, r.A1, r.A2, min r.n1 260, r.c1, min r.n2 200, r.c2, r.key.take 260, r.val.take 200⟩
theorem Rd.here.short {w : World} {B : Nat} {r : Rd} (h : r.here w B) : r.short.here w B := by
  obtain ⟨⟨⟨a1, a2, a3⟩, a4, a5⟩, ⟨b1, b2, b3⟩, b4, b5⟩ := h
  refine ⟨⟨⟨fun e => ?_, ?_, a3⟩, ?_, a5.take _⟩, ⟨⟨fun e => ?_, ?_, b3⟩, ?_, b5.take _⟩⟩
  · have := a1 e; simp only [Rd.short]; omega
  · simp only [Rd.short]; omega
  · simp only [Rd.short]; rw [List.length_take]; omega
  · have := b1 e; simp only [Rd.short]; omega
  · simp only [Rd.short]; omega
  · simp only [Rd.short]; rw [List.length_take]; omega
theorem Rd.here.below {w w' : World} {B C : Nat} {r : Rd} (h : r.here w B) (hb : Below C w w') (hB : B ≤ C) : r.here w' B := RecIn.below h hb hB
theorem Rd.here.lt {w : World} {B : Nat} {r : Rd} (h : r.here w B) : (∀ x ∈ r.r.key, x < 256) ∧ ∀ x ∈ r.r.val, x < 256 := ⟨h.1.2.2.lt, h.2.2.2.lt⟩
theorem shortrec_any (r : Rd) (w : World) (h : SlIs r.A1 r.n1 r.c1 ∧ SlIs r.A2 r.n2 r.c2) :
    Calls Tryz.prog 17 #[.agg #[.int .i64 r.kd, .slice r.A1 r.n1 r.c1, .slice r.A2 r.n2 r.c2, .int .i64 r.x]] w fun e w' => e = .returned (.agg #[.int .i64 r.short.kd, .slice r.short.A1 r.short.n1 r.short.c1, .slice r.short.A2 r.short.n2 r.short.c2, .int .i64 r.short.x]) ∧ Below w.heap.size w w' :=
  short_any r.kd r.x r.A1 r.A2 r.n1 r.n2 r.c1 r.c2 (min r.n1 260) (min r.n2 200) w h.1 h.2 (by unfold MinIs; omega) (by unfold MinIs; omega)
/-- Records read through a slice. -/
def RecsAt (w : World) (B : Nat) (A : Option Addr) (l : List Rd) : Prop := Arr recS w 0 B A l ∧ ∀ k, k < l.length → (l.getD k Rd0).here w B
theorem RecsAt.below {w w' : World} {B C : Nat} {A : Option Addr} {l : List Rd} (h : RecsAt w B A l) (hb : Below C w w') (hB : B ≤ C) : RecsAt w' B A l := ⟨h.1.below hb hB, fun k hk => (h.2 k hk).below hb hB⟩
theorem recs_at {w : World} {lo B : Nat} {ad : Addr} {l : List Rd} (h : Arr recS w lo B (some ad) l) (k : Nat) (hk : k < l.length) (r : Rd) (e : l.getD k Rd0 = r) :
    w.cell? (ad.add (k * 4)) = some (.int .i64 r.kd) ∧ w.cell? ⟨(ad.add (k * 4)).block, (ad.add (k * 4)).off + 1, none⟩ = some (.slice r.A1 r.n1 r.c1) ∧ w.cell? ⟨(ad.add (k * 4)).block, (ad.add (k * 4)).off + 2, none⟩ = some (.slice r.A2 r.n2 r.c2) ∧ w.cell? ⟨(ad.add (k * 4)).block, (ad.add (k * 4)).off + 3, none⟩ = some (.int .i64 r.x) := by
  have h4 : ∀ j v, (recS.cs r)[j]? = some v → w.cell? (ad.add (k * 4 + j)) = some v := fun j v hv => h.cell k hk j v (by rw [show l.getD k recS.z = r from e]; exact hv)
  have g : ∀ i, 0 < i → ∀ v, (recS.cs r)[i]? = some v → w.cell? ⟨(ad.add (k * 4)).block, (ad.add (k * 4)).off + i, none⟩ = some v := fun i hi v hv => by
    have := h4 i v hv
    rwa [at_field _ _ _ hi] at this
  exact ⟨h4 0 _ rfl, g 1 (by decide) _ rfl, g 2 (by decide) _ rfl, g 3 (by decide) _ rfl⟩
end Go.Proofs.YtledfdpabmlecaaGreatDoor
end
section
set_option maxRecDepth 100000
namespace Go.Proofs.YtledfdpabmlecaaGreatDoor
open Go.RowKit
/-- The things of a law side by side: each in blocks of its own colour. -/
structure StF (W : World) (a b c d slot seq : Int) (wr : World) (col : Nat → Nat) (gp : Nat) (stp : List Nat) (kp : Nat) (vs : Value) (ns : Nat) (ls : List Value) : Prop where
  colr : Col W.heap.size wr col
  up : Below W.heap.size W wr
  box : Free col wr W.heap.size (.cells #[.int .i64 a, .int .i64 b, .int .i64 c, .int .i64 d] 29 (0, 0))
  p : PkIs 130 wr (fun i => col i = 1) gp a b c d slot seq stp kp
  s : SRow (fun i => col i = 3) 3 1 wr vs ns ls
section
variable {W wr wr' : World} {a b c d slot seq : Int} {col : Nat → Nat} {gp : Nat} {stp : List Nat} {kp : Nat} {vs : Value} {ns : Nat} {ls : List Value}
theorem StF.new (h : StF W a b c d slot seq wr col gp stp kp vs ns ls) (hb : Below wr.heap.size wr wr') : StF W a b c d slot seq wr' col gp stp kp vs ns ls where
  colr := h.colr.next hb.size
  up := h.up.trans (hb.mono h.up.size)
  box := h.box.new hb
  p := h.p.new hb
  s := h.s.new hb
theorem StF.tab (h : StF W a b c d slot seq wr col gp stp kp vs ns ls) (ht : TabW W) (hz : 0 < W.heap.size) : TabW wr ∧ 0 < wr.heap.size := ⟨ht.below h.up hz, Nat.lt_of_lt_of_le hz h.up.size⟩
theorem StF.onP (h : StF W a b c d slot seq wr col gp stp kp vs ns ls) {stp' : List Nat} {kp' : Nat} (hn : PkIs 130 wr' (Grow (fun i => col i = 1) wr) gp a b c d slot seq stp' kp') (hk : Kept (fun i => col i = 1) wr wr') : StF W a b c d slot seq wr' (paint col wr wr' 1) gp stp' kp' vs ns ls where
  colr := h.colr.other h.up.size hk 1
  up := below_kept h.up h.colr hk (by decide)
  box := h.box.other hk (by decide) 1
  s := h.s.other hk (by decide) 1
  p := hn.self
theorem StF.tookP (h : StF W a b c d slot seq wr col gp stp kp vs ns ls) {stp' : List Nat} {kp' : Nat} (hn : PkIs 130 wr' (fun i => col i = 1) gp a b c d slot seq stp' kp') (hk : Kept (fun i => col i = 1) wr wr') : StF W a b c d slot seq wr' (paint col wr wr' 5) gp stp' kp' vs ns ls where
  colr := h.colr.other h.up.size hk 5
  up := below_kept h.up h.colr hk (by decide)
  box := h.box.other hk (by decide) 5
  s := h.s.other hk (by decide) 5
  p := hn.same h.colr (by decide) 5
theorem StF.onS (h : StF W a b c d slot seq wr col gp stp kp vs ns ls) {vs' : Value} {ns' : Nat} {ls' : List Value} (hn : SRow (Grow (fun i => col i = 3) wr) 3 1 wr' vs' ns' ls') (hk : Kept (fun i => col i = 3) wr wr') : StF W a b c d slot seq wr' (paint col wr wr' 3) gp stp kp vs' ns' ls' where
  colr := h.colr.other h.up.size hk 3
  up := below_kept h.up h.colr hk (by decide)
  box := h.box.other hk (by decide) 3
  p := h.p.other hk (by decide) 3
  s := hn.mine
end
/-- The things of a law side by side: each in blocks of its own colour. -/
structure StT (W : World) (a b c d slot seq : Int) (wr : World) (col : Nat → Nat) (gp : Nat) (stp : List Nat) (kp : Nat) (gq : Nat) (stq : List Nat) (kq : Nat) (vs : Value) (ns : Nat) (ls : List Value) (vf : Value) (nf : Nat) (lf : List (List Nat)) : Prop where
  colr : Col W.heap.size wr col
  up : Below W.heap.size W wr
  box : Free col wr W.heap.size (.cells #[.int .i64 a, .int .i64 b, .int .i64 c, .int .i64 d] 29 (0, 0))
  p : PkIs 130 wr (fun i => col i = 1) gp a b c d slot seq stp kp
  q : PkIs 130 wr (fun i => col i = 2) gq a b c d slot seq stq kq
  s : SRow (fun i => col i = 3) 3 1 wr vs ns ls
  f : FrRow wr (fun i => col i = 4) (fun i => col i = 5) vf nf lf
section
variable {W wr wr' : World} {a b c d slot seq : Int} {col : Nat → Nat} {gp : Nat} {stp : List Nat} {kp : Nat} {gq : Nat} {stq : List Nat} {kq : Nat} {vs : Value} {ns : Nat} {ls : List Value} {vf : Value} {nf : Nat} {lf : List (List Nat)}
theorem StT.new (h : StT W a b c d slot seq wr col gp stp kp gq stq kq vs ns ls vf nf lf) (hb : Below wr.heap.size wr wr') : StT W a b c d slot seq wr' col gp stp kp gq stq kq vs ns ls vf nf lf where
  colr := h.colr.next hb.size
  up := h.up.trans (hb.mono h.up.size)
  box := h.box.new hb
  p := h.p.new hb
  q := h.q.new hb
  s := h.s.new hb
  f := h.f.new hb
theorem StT.tab (h : StT W a b c d slot seq wr col gp stp kp gq stq kq vs ns ls vf nf lf) (ht : TabW W) (hz : 0 < W.heap.size) : TabW wr ∧ 0 < wr.heap.size := ⟨ht.below h.up hz, Nat.lt_of_lt_of_le hz h.up.size⟩
theorem StT.onP (h : StT W a b c d slot seq wr col gp stp kp gq stq kq vs ns ls vf nf lf) {stp' : List Nat} {kp' : Nat} (hn : PkIs 130 wr' (Grow (fun i => col i = 1) wr) gp a b c d slot seq stp' kp') (hk : Kept (fun i => col i = 1) wr wr') : StT W a b c d slot seq wr' (paint col wr wr' 1) gp stp' kp' gq stq kq vs ns ls vf nf lf where
  colr := h.colr.other h.up.size hk 1
  up := below_kept h.up h.colr hk (by decide)
  box := h.box.other hk (by decide) 1
  q := h.q.other hk (by decide) 1
  s := h.s.other hk (by decide) 1
  f := h.f.other hk (by decide) (by decide) 1
  p := hn.self
theorem StT.tookP (h : StT W a b c d slot seq wr col gp stp kp gq stq kq vs ns ls vf nf lf) {stp' : List Nat} {kp' : Nat} (hn : PkIs 130 wr' (fun i => col i = 1) gp a b c d slot seq stp' kp') (hk : Kept (fun i => col i = 1) wr wr') : StT W a b c d slot seq wr' (paint col wr wr' 5) gp stp' kp' gq stq kq vs ns ls vf nf lf where
  colr := h.colr.other h.up.size hk 5
  up := below_kept h.up h.colr hk (by decide)
  box := h.box.other hk (by decide) 5
  q := h.q.other hk (by decide) 5
  s := h.s.other hk (by decide) 5
  f := h.f.other hk (by decide) (by decide) 5
  p := hn.same h.colr (by decide) 5
theorem StT.onQ (h : StT W a b c d slot seq wr col gp stp kp gq stq kq vs ns ls vf nf lf) {stq' : List Nat} {kq' : Nat} (hn : PkIs 130 wr' (Grow (fun i => col i = 2) wr) gq a b c d slot seq stq' kq') (hk : Kept (fun i => col i = 2) wr wr') : StT W a b c d slot seq wr' (paint col wr wr' 2) gp stp kp gq stq' kq' vs ns ls vf nf lf where
  colr := h.colr.other h.up.size hk 2
  up := below_kept h.up h.colr hk (by decide)
  box := h.box.other hk (by decide) 2
  p := h.p.other hk (by decide) 2
  s := h.s.other hk (by decide) 2
  f := h.f.other hk (by decide) (by decide) 2
  q := hn.self
theorem StT.tookQ (h : StT W a b c d slot seq wr col gp stp kp gq stq kq vs ns ls vf nf lf) {stq' : List Nat} {kq' : Nat} (hn : PkIs 130 wr' (fun i => col i = 2) gq a b c d slot seq stq' kq') (hk : Kept (fun i => col i = 2) wr wr') : StT W a b c d slot seq wr' (paint col wr wr' 5) gp stp kp gq stq' kq' vs ns ls vf nf lf where
  colr := h.colr.other h.up.size hk 5
  up := below_kept h.up h.colr hk (by decide)
  box := h.box.other hk (by decide) 5
  p := h.p.other hk (by decide) 5
  s := h.s.other hk (by decide) 5
  f := h.f.other hk (by decide) (by decide) 5
  q := hn.same h.colr (by decide) 5
theorem StT.onS (h : StT W a b c d slot seq wr col gp stp kp gq stq kq vs ns ls vf nf lf) {vs' : Value} {ns' : Nat} {ls' : List Value} (hn : SRow (Grow (fun i => col i = 3) wr) 3 1 wr' vs' ns' ls') (hk : Kept (fun i => col i = 3) wr wr') : StT W a b c d slot seq wr' (paint col wr wr' 3) gp stp kp gq stq kq vs' ns' ls' vf nf lf where
  colr := h.colr.other h.up.size hk 3
  up := below_kept h.up h.colr hk (by decide)
  box := h.box.other hk (by decide) 3
  p := h.p.other hk (by decide) 3
  q := h.q.other hk (by decide) 3
  f := h.f.other hk (by decide) (by decide) 3
  s := hn.mine
theorem StT.onF (h : StT W a b c d slot seq wr col gp stp kp gq stq kq vs ns ls vf nf lf) {vx : Value} {nx : Nat} {lx : List (List Nat)} {sl sx : List (Option Addr × Nat × Nat)} {v' : Value} (hr : SRow (Grow (fun i => col i = 4) wr) 27 1 wr' v' (nf + nx) (slS.flat (sl ++ sx))) (hk : Kept (fun i => col i = 4) wr wr') (hsl : SRow (fun i => col i = 4) 27 1 wr vf nf (slS.flat sl))
    (h1 : ∀ i, i < nf → ∃ gf cf, sl.getD i (none, 0, 0) = (some ⟨gf, 0, none⟩, 64, cf) ∧ SRow (fun i => col i = 5) 5 1 wr (.slice (some ⟨gf, 0, none⟩) 64 cf) 64 (vals (lf.getD i []))) (hx : FrRow wr (fun i => col i = 5) (fun i => col i = 5) vx nx lx)
    (h2 : ∀ i, i < nx → ∃ gf cf, sx.getD i (none, 0, 0) = (some ⟨gf, 0, none⟩, 64, cf) ∧ SRow (fun i => col i = 5) 5 1 wr (.slice (some ⟨gf, 0, none⟩) 64 cf) 64 (vals (lx.getD i []))) : StT W a b c d slot seq wr' (paint col wr wr' 4) gp stp kp gq stq kq vs ns ls v' (nf + nx) (lf ++ lx) where
  colr := h.colr.other h.up.size hk 4
  up := below_kept h.up h.colr hk (by decide)
  box := h.box.other hk (by decide) 4
  p := h.p.other hk (by decide) 4
  q := h.q.other hk (by decide) 4
  s := h.s.other hk (by decide) 4
  f := FrRow.both hr.mine h.f.len hx.len hsl.len (fun i hi => by
    obtain ⟨gf, cf, b1, b2⟩ := h1 i hi
    exact ⟨gf, cf, b1, b2.other hk (by decide) 4⟩) (fun i hi => by
    obtain ⟨gf, cf, b1, b2⟩ := h2 i hi
    exact ⟨gf, cf, b1, b2.other hk (by decide) 4⟩)
end
/-- The things of a law side by side: each in blocks of its own colour. -/
structure StR (W : World) (a b c d slot seq : Int) (wr : World) (col : Nat → Nat) (gp : Nat) (stp : List Nat) (kp : Nat) (vo : Value) (no : Nat) (lo : List Value) (vn : Value) (nn : Nat) (ln : List Value) (vr : Value) (nr : Nat) (lr : List Value) : Prop where
  colr : Col W.heap.size wr col
  up : Below W.heap.size W wr
  box : Free col wr W.heap.size (.cells #[.int .i64 a, .int .i64 b, .int .i64 c, .int .i64 d] 29 (0, 0))
  p : PkIs 130 wr (fun i => col i = 1) gp a b c d slot seq stp kp
  o : SRow (fun i => col i = 3) 3 1 wr vo no lo
  n : SRow (fun i => col i = 4) 3 1 wr vn nn ln
  r : SRow (fun i => col i = 6) 52 4 wr vr nr lr
section
variable {W wr wr' : World} {a b c d slot seq : Int} {col : Nat → Nat} {gp : Nat} {stp : List Nat} {kp : Nat} {vo : Value} {no : Nat} {lo : List Value} {vn : Value} {nn : Nat} {ln : List Value} {vr : Value} {nr : Nat} {lr : List Value}
theorem StR.new (h : StR W a b c d slot seq wr col gp stp kp vo no lo vn nn ln vr nr lr) (hb : Below wr.heap.size wr wr') : StR W a b c d slot seq wr' col gp stp kp vo no lo vn nn ln vr nr lr where
  colr := h.colr.next hb.size
  up := h.up.trans (hb.mono h.up.size)
  box := h.box.new hb
  p := h.p.new hb
  o := h.o.new hb
  n := h.n.new hb
  r := h.r.new hb
theorem StR.tab (h : StR W a b c d slot seq wr col gp stp kp vo no lo vn nn ln vr nr lr) (ht : TabW W) (hz : 0 < W.heap.size) : TabW wr ∧ 0 < wr.heap.size := ⟨ht.below h.up hz, Nat.lt_of_lt_of_le hz h.up.size⟩
theorem StR.onP (h : StR W a b c d slot seq wr col gp stp kp vo no lo vn nn ln vr nr lr) {stp' : List Nat} {kp' : Nat} (hn : PkIs 130 wr' (Grow (fun i => col i = 1) wr) gp a b c d slot seq stp' kp') (hk : Kept (fun i => col i = 1) wr wr') : StR W a b c d slot seq wr' (paint col wr wr' 1) gp stp' kp' vo no lo vn nn ln vr nr lr where
  colr := h.colr.other h.up.size hk 1
  up := below_kept h.up h.colr hk (by decide)
  box := h.box.other hk (by decide) 1
  o := h.o.other hk (by decide) 1
  n := h.n.other hk (by decide) 1
  r := h.r.other hk (by decide) 1
  p := hn.self
theorem StR.tookP (h : StR W a b c d slot seq wr col gp stp kp vo no lo vn nn ln vr nr lr) {stp' : List Nat} {kp' : Nat} (hn : PkIs 130 wr' (fun i => col i = 1) gp a b c d slot seq stp' kp') (hk : Kept (fun i => col i = 1) wr wr') : StR W a b c d slot seq wr' (paint col wr wr' 5) gp stp' kp' vo no lo vn nn ln vr nr lr where
  colr := h.colr.other h.up.size hk 5
  up := below_kept h.up h.colr hk (by decide)
  box := h.box.other hk (by decide) 5
  o := h.o.other hk (by decide) 5
  n := h.n.other hk (by decide) 5
  r := h.r.other hk (by decide) 5
  p := hn.same h.colr (by decide) 5
theorem StR.onO (h : StR W a b c d slot seq wr col gp stp kp vo no lo vn nn ln vr nr lr) {vo' : Value} {no' : Nat} {lo' : List Value} (hn : SRow (Grow (fun i => col i = 3) wr) 3 1 wr' vo' no' lo') (hk : Kept (fun i => col i = 3) wr wr') : StR W a b c d slot seq wr' (paint col wr wr' 3) gp stp kp vo' no' lo' vn nn ln vr nr lr where
  colr := h.colr.other h.up.size hk 3
  up := below_kept h.up h.colr hk (by decide)
  box := h.box.other hk (by decide) 3
  p := h.p.other hk (by decide) 3
  n := h.n.other hk (by decide) 3
  r := h.r.other hk (by decide) 3
  o := hn.mine
theorem StR.onN (h : StR W a b c d slot seq wr col gp stp kp vo no lo vn nn ln vr nr lr) {vn' : Value} {nn' : Nat} {ln' : List Value} (hn : SRow (Grow (fun i => col i = 4) wr) 3 1 wr' vn' nn' ln') (hk : Kept (fun i => col i = 4) wr wr') : StR W a b c d slot seq wr' (paint col wr wr' 4) gp stp kp vo no lo vn' nn' ln' vr nr lr where
  colr := h.colr.other h.up.size hk 4
  up := below_kept h.up h.colr hk (by decide)
  box := h.box.other hk (by decide) 4
  p := h.p.other hk (by decide) 4
  o := h.o.other hk (by decide) 4
  r := h.r.other hk (by decide) 4
  n := hn.mine
theorem StR.onR (h : StR W a b c d slot seq wr col gp stp kp vo no lo vn nn ln vr nr lr) {vr' : Value} {nr' : Nat} {lr' : List Value} (hn : SRow (Grow (fun i => col i = 6) wr) 52 4 wr' vr' nr' lr') (hk : Kept (fun i => col i = 6) wr wr') : StR W a b c d slot seq wr' (paint col wr wr' 6) gp stp kp vo no lo vn nn ln vr' nr' lr' where
  colr := h.colr.other h.up.size hk 6
  up := below_kept h.up h.colr hk (by decide)
  box := h.box.other hk (by decide) 6
  p := h.p.other hk (by decide) 6
  o := h.o.other hk (by decide) 6
  n := h.n.other hk (by decide) 6
  r := hn.mine
end
/-- The things of a law side by side: each in blocks of its own colour. -/
structure StS (W : World) (a b c d slot seq : Int) (wr : World) (col : Nat → Nat) (gp : Nat) (stp : List Nat) (kp : Nat) (gq : Nat) (stq : List Nat) (kq : Nat) : Prop where
  colr : Col W.heap.size wr col
  up : Below W.heap.size W wr
  box : Free col wr W.heap.size (.cells #[.int .i64 a, .int .i64 b, .int .i64 c, .int .i64 d] 29 (0, 0))
  p : PkIs 130 wr (fun i => col i = 1) gp a b c d slot seq stp kp
  q : PkIs 113 wr (fun i => col i = 2) gq a b c d slot seq stq kq
section
variable {W wr wr' : World} {a b c d slot seq : Int} {col : Nat → Nat} {gp : Nat} {stp : List Nat} {kp : Nat} {gq : Nat} {stq : List Nat} {kq : Nat}
theorem StS.new (h : StS W a b c d slot seq wr col gp stp kp gq stq kq) (hb : Below wr.heap.size wr wr') : StS W a b c d slot seq wr' col gp stp kp gq stq kq where
  colr := h.colr.next hb.size
  up := h.up.trans (hb.mono h.up.size)
  box := h.box.new hb
  p := h.p.new hb
  q := h.q.new hb
theorem StS.tab (h : StS W a b c d slot seq wr col gp stp kp gq stq kq) (ht : TabW W) (hz : 0 < W.heap.size) : TabW wr ∧ 0 < wr.heap.size := ⟨ht.below h.up hz, Nat.lt_of_lt_of_le hz h.up.size⟩
theorem StS.onP (h : StS W a b c d slot seq wr col gp stp kp gq stq kq) {stp' : List Nat} {kp' : Nat} (hn : PkIs 130 wr' (Grow (fun i => col i = 1) wr) gp a b c d slot seq stp' kp') (hk : Kept (fun i => col i = 1) wr wr') : StS W a b c d slot seq wr' (paint col wr wr' 1) gp stp' kp' gq stq kq where
  colr := h.colr.other h.up.size hk 1
  up := below_kept h.up h.colr hk (by decide)
  box := h.box.other hk (by decide) 1
  q := h.q.other hk (by decide) 1
  p := hn.self
theorem StS.tookP (h : StS W a b c d slot seq wr col gp stp kp gq stq kq) {stp' : List Nat} {kp' : Nat} (hn : PkIs 130 wr' (fun i => col i = 1) gp a b c d slot seq stp' kp') (hk : Kept (fun i => col i = 1) wr wr') : StS W a b c d slot seq wr' (paint col wr wr' 5) gp stp' kp' gq stq kq where
  colr := h.colr.other h.up.size hk 5
  up := below_kept h.up h.colr hk (by decide)
  box := h.box.other hk (by decide) 5
  q := h.q.other hk (by decide) 5
  p := hn.same h.colr (by decide) 5
theorem StS.onQ (h : StS W a b c d slot seq wr col gp stp kp gq stq kq) {stq' : List Nat} {kq' : Nat} (hn : PkIs 113 wr' (Grow (fun i => col i = 2) wr) gq a b c d slot seq stq' kq') (hk : Kept (fun i => col i = 2) wr wr') : StS W a b c d slot seq wr' (paint col wr wr' 2) gp stp kp gq stq' kq' where
  colr := h.colr.other h.up.size hk 2
  up := below_kept h.up h.colr hk (by decide)
  box := h.box.other hk (by decide) 2
  p := h.p.other hk (by decide) 2
  q := hn.self
theorem StS.tookQ (h : StS W a b c d slot seq wr col gp stp kp gq stq kq) {stq' : List Nat} {kq' : Nat} (hn : PkIs 113 wr' (fun i => col i = 2) gq a b c d slot seq stq' kq') (hk : Kept (fun i => col i = 2) wr wr') : StS W a b c d slot seq wr' (paint col wr wr' 5) gp stp kp gq stq' kq' where
  colr := h.colr.other h.up.size hk 5
  up := below_kept h.up h.colr hk (by decide)
  box := h.box.other hk (by decide) 5
  p := h.p.other hk (by decide) 5
  q := hn.same h.colr (by decide) 5
end
end Go.Proofs.YtledfdpabmlecaaGreatDoor
end
section
set_option maxRecDepth 100000
namespace Go.Proofs.YtledfdpabmlecaaGreatDoor
open Go.RowKit
def boolS : Shape Bool := ⟨fun k => [.bool k], false, 1, fun _ => rfl, by decide, fun a u hu => by
  simp only [List.mem_cons, List.not_mem_nil, or_false] at hu
  subst hu; rfl⟩
theorem bools_at {w : World} {lo B : Nat} {ad : Addr} {l : List Bool} (h : Arr boolS w lo B (some ad) l) (k : Nat) (hk : k < l.length) : w.cell? (ad.add k) = some (.bool (l.getD k false)) := by
  have := h.cell k hk 0 (.bool (l.getD k false)) rfl
  rwa [show k * boolS.m + 0 = k from Nat.mul_one k] at this
theorem and63 (n : Int) : ∃ N : Nat, N ≤ 63 ∧ bits .and .i64 n 63 = (N : Int) := by
  have h1 : (BitVec.ofInt 64 63).toNat = 63 := by decide
  have hle : (BitVec.ofInt 64 n).toNat &&& 63 ≤ 63 := Nat.and_le_right
  refine ⟨(BitVec.ofInt 64 n).toNat &&& 63, hle, ?_⟩
  show IntKind.i64.wrap ((BitVec.ofInt 64 n &&& BitVec.ofInt 64 63).toNat : Int) = _
  rw [BitVec.toNat_and, h1, IntKind.wrap_i64]
  omega
theorem zero_vals (k : Nat) : (madeCells (Value.cells (.int .u8 0)) (k * 1)).toList = vals (List.replicate k 0) := by
  simp only [madeCells, vals, Value.cells, List.map_replicate]
  apply List.ext_getElem
  · simp
  · intro i h1 h2
    simp [Nat.mod_one]
theorem key_bs (w : World) : Bs (w.alloc (.cells #[.int .u8 107, .int .u8 101, .int .u8 121] 5 (3, 4))) (w.alloc (.cells #[.int .u8 107, .int .u8 101, .int .u8 121] 5 (3, 4))).heap.size (some ⟨w.heap.size, 0, none⟩) [107, 101, 121] := fun k hk => by
  have hk3 : k < 3 := hk
  have h := heap_alloc_new w (.cells #[.int .u8 107, .int .u8 101, .int .u8 121] 5 (3, 4))
  obtain rfl | rfl | rfl : k = 0 ∨ k = 1 ∨ k = 2 := by omega
  all_goals
    refine ⟨by decide, _, rfl, by simp, ?_⟩
    rw [arr_flat, cell_of_row _ _ _ _ _ _ h]
    rfl
theorem row_block {w : World} {base g n : Nat} {l : List Nat} (h : w.ownsRow base 5 1 (.slice (some ⟨g, 0, none⟩) n n) n (vals l)) : w.heap[g]? = some (.cells (vals l).toArray 5 (0, 0)) := by
  rcases h.2 with ⟨e, -⟩ | ⟨g', cap, cur, e, -, h3, -, -, h6, h7⟩
  · cases e
  · injection e with e1 e2 e3
    injection e1 with e1
    injection e1 with e1
    subst e1 e3
    rw [h3]
    have : cur.toList = vals l := by
      rw [← h7, List.take_of_length_le]
      rw [Array.length_toList, h6]
      exact Nat.le_refl _
    rw [← this]
/-- Blocks of no thing. -/
def Frees (c : Nat → Nat) (w : World) (L : List (Nat × Obj)) : Prop := ∀ p ∈ L, Free c w p.1 p.2
theorem Frees.none {c : Nat → Nat} {w : World} : Frees c w [] := fun p hp => absurd hp (by simp)
theorem Frees.cons {c : Nat → Nat} {w : World} {b : Nat} {o : Obj} {L : List (Nat × Obj)} (h : Free c w b o) (hL : Frees c w L) : Frees c w ((b, o) :: L) := fun p hp => by
  rcases List.mem_cons.1 hp with rfl | hp
  · exact h
  · exact hL p hp
theorem Frees.new {c : Nat → Nat} {w w' : World} {L : List (Nat × Obj)} (h : Frees c w L) (hb : Below w.heap.size w w') : Frees c w' L := fun p hp => (h p hp).new hb
theorem Frees.other {c : Nat → Nat} {w w' : World} {i : Nat} {L : List (Nat × Obj)} (h : Frees c w L) (hk : Kept (fun b => c b = i) w w') (hi : i ≠ 0) (m : Nat) : Frees (paint c w w' m) w' L := fun p hp => (h p hp).other hk hi m
theorem full_rec {w : World} {kb gm m : Nat} (h1 : w.heap[kb]? = some (.cells #[.int .u8 107, .int .u8 101, .int .u8 121] 5 (3, 4))) (h2 : w.heap[gm]? = some (.cells (vals (List.replicate m 0)).toArray 5 (0, 0))) (hm : m ≤ 63) :
    Hid (RecIn w w.heap.size (some ⟨kb, 0, none⟩) (some ⟨gm, 0, none⟩) 3 3 m m [107, 101, 121] (List.replicate m 0)) := by
  refine ⟨⟨⟨(fun e => by cases e), Nat.le_refl _, by decide⟩, rfl, fun k hk => ?_⟩, ⟨⟨(fun e => by cases e), Nat.le_refl _, ?_⟩, List.length_replicate .., fun k hk => ?_⟩⟩
  · have hk3 : k < 3 := hk
    have hlt := (Array.getElem?_eq_some_iff.1 h1).1
    obtain rfl | rfl | rfl : k = 0 ∨ k = 1 ∨ k = 2 := by omega
    all_goals
      refine ⟨by decide, _, rfl, hlt, ?_⟩
      rw [arr_flat, cell_of_row _ _ _ _ _ _ h1]
      rfl
  · omega
  · have hlt := (Array.getElem?_eq_some_iff.1 h2).1
    have hv := vals_at hk
    refine ⟨?_, _, rfl, hlt, ?_⟩
    · exact getD_lt (fun x hx => by rw [(List.mem_replicate.1 hx).2]; decide) k
    · rw [arr_flat, Nat.zero_add, cell_of_row _ _ _ _ _ _ h2, List.getElem?_toArray]; exact hv
theorem sd_four {w W : World} {r : Nat} {a b c d : Value} {t : TypeId} (h : Sd w r (.cells #[a, b, c, d] t (0, 0)) W) : W.cell? ⟨r, 0, none⟩ = some a ∧ W.cell? ⟨r, 1, none⟩ = some b ∧ W.cell? ⟨r, 2, none⟩ = some c ∧ W.cell? ⟨r, 3, none⟩ = some d := four_cells h.1
/-- The three ways of a law's first test. -/
theorem form_ways (b c : Int) : (Hid (decide (Sb.form ⟨1, b, c, 4⟩) = false)) ∨ (Hid (decide (Sb.form ⟨1, b, c, 4⟩) = true) ∧ ((decide (16 < c) = true) ∨ (decide (16 < c) = false ∧ Sb.form ⟨1, b, c, 4⟩ ∧ c ≤ 16))) := by
  by_cases h : Sb.form ⟨1, b, c, 4⟩
  · refine .inr ⟨decide_eq_true h, ?_⟩
    by_cases h2 : 16 < c
    · exact .inl (decide_eq_true h2)
    · exact .inr ⟨decide_eq_false h2, h, by omega⟩
  · exact .inl (decide_eq_false h)
theorem law_ok {b c slot seq : Int} (h : Sb.form ⟨1, b, c, 4⟩) (h1 : 0 ≤ slot ∧ slot < 4) (h2 : 1 ≤ seq ∧ seq ≤ 281474976710655) : Pk.ok ⟨1, b, c, 4⟩ slot seq := ⟨⟨h, h1.1, h1.2⟩, h2⟩
theorem take_ways (i n : Nat) (l : List Bool) : (n ≤ i ∧ decide ((i : Int) < (n : Int)) = false ∧ decide (i < n) = false) ∨ (i < n ∧ decide ((i : Int) < (n : Int)) = true ∧ ((l.getD i false = false) ∨ (l.getD i false = true))) := by
  by_cases h : i < n
  · refine .inr ⟨h, by simp only [decide_eq_true_eq]; omega, ?_⟩
    cases l.getD i false
    · exact .inl rfl
    · exact .inr rfl
  · exact .inl ⟨by omega, by simp only [decide_eq_false_iff_not]; omega, by simp only [decide_eq_false_iff_not]; omega⟩
theorem full_err {b c : Int} (h : Sb.form ⟨1, b, c, 4⟩) (st : List Nat) (m : Nat) (hm : m ≤ 63) :
    Pk.err ⟨1, b, c, 4⟩ st ⟨1, [107, 101, 121], List.replicate m 0, 0⟩ = if Pk.cap ⟨1, b, c, 4⟩ < st.length + (19 + m) then 8 else 0 := by
  have hb := h.2.1
  simp only at hb
  have h1 : Rc.check b ⟨1, [107, 101, 121], List.replicate m 0, 0⟩ = 0 := by
    unfold Rc.check Rc.chk Rc.well
    simp only [List.length_replicate, List.length_cons, List.length_nil]
    have := Rc.most_le b
    have h0 : (0 : Int) ≤ Rc.most b := by unfold Rc.most; split <;> omega
    rw [if_neg (by omega), if_neg (by simp), if_neg (by omega), if_neg (by omega), if_neg (by omega)]
  have h2 : Rc.len ⟨1, [107, 101, 121], List.replicate m 0, 0⟩ = 19 + m := by
    unfold Rc.len; simp only [List.length_replicate, List.length_cons, List.length_nil]
  unfold Pk.err
  rw [if_neg (Decidable.not_not.2 h1), h2]
end Go.Proofs.YtledfdpabmlecaaGreatDoor
end
section
set_option maxRecDepth 100000
namespace Go.Proofs.YtledfdpabmlecaaGreatDoor
open Go.RowKit
/-- The loop's test: fewer than the records there are, and than twelve. -/
theorem loop_ways (i n m : Nat) (M : Int) (hM : M = (m : Int)) : (decide ((i : Int) < (n : Int)) = false ∧ decide (i < n) = false) ∨ (decide ((i : Int) < (n : Int)) = true ∧ decide (i < n) = true ∧ decide ((i : Int) < M) = false) ∨ (i < n ∧ i < m ∧ decide ((i : Int) < (n : Int)) = true ∧ decide (i < n) = true ∧ decide ((i : Int) < M) = true) := by
  by_cases h : i < n
  · by_cases h2 : i < m
    · exact .inr (.inr ⟨h, h2, by simp only [decide_eq_true_eq]; omega, by simp only [decide_eq_true_eq]; omega, by simp only [decide_eq_true_eq]; omega⟩)
    · exact .inr (.inl ⟨by simp only [decide_eq_true_eq]; omega, by simp only [decide_eq_true_eq]; omega, by simp only [decide_eq_false_iff_not]; omega⟩)
  · exact .inl ⟨by simp only [decide_eq_false_iff_not]; omega, by simp only [decide_eq_false_iff_not]; omega⟩
theorem frs_other {w w' : World} {c : Nat → Nat} {i j n : Nat} {sl : List (Option Addr × Nat × Nat)} {fs : List (List Nat)} (h : ∀ x, x < n → ∃ gf cf, sl.getD x (none, 0, 0) = (some ⟨gf, 0, none⟩, 64, cf) ∧ SRow (fun b => c b = j) 5 1 w (.slice (some ⟨gf, 0, none⟩) 64 cf) 64 (vals (fs.getD x []))) (hk : Kept (fun b => c b = i) w w') (hij : i ≠ j) (m : Nat) :
    ∀ x, x < n → ∃ gf cf, sl.getD x (none, 0, 0) = (some ⟨gf, 0, none⟩, 64, cf) ∧ SRow (fun b => paint c w w' m b = j) 5 1 w' (.slice (some ⟨gf, 0, none⟩) 64 cf) 64 (vals (fs.getD x [])) := fun x hx => by
  obtain ⟨gf, cf, b1, b2⟩ := h x hx
  exact ⟨gf, cf, b1, b2.other hk hij m⟩
end Go.Proofs.YtledfdpabmlecaaGreatDoor
end
section
set_option maxRecDepth 100000
namespace Go.Proofs.YtledfdpabmlecaaGreatDoor
open Go.ChangeShapes Go.WideShapes Go.ChangeAt Go.RowKit
section
variable {H : Type} {enc : TypeId × Value → H} {W : World}
theorem layc_cells {fuel : Nat} {a0 a1 a2 a3 : Value} {y : DataW H × List MemPlace} (h : DataW.trod enc Tryz.prog W 0 (fun _ => true) true fuel 29 [a0, a1, a2, a3] = some y) :
    ∃ x0 x1 x2 x3 : Int, a0 = .int .i64 x0 ∧ a1 = .int .i64 x1 ∧ a2 = .int .i64 x2 ∧ a3 = .int .i64 x3 := by
  obtain ⟨xs, fu, _, _, _, hxl, hf⟩ := DataW.trod_struct Tryz.underlying29 h
  have tI : Tryz.prog.cellsOf 3 = 1 := by kernel_rfl
  have hxlk : xs.length = 4 := hxl
  have h0 : DataW.trod enc Tryz.prog W 0 (fun _ => true) true fu 3 (([a0, a1, a2, a3].drop 0).take (Tryz.prog.cellsOf 3)) = xs[0]? := hf 0 _ rfl
  rw [tI, List.getElem?_eq_getElem (by omega)] at h0
  have h1 : DataW.trod enc Tryz.prog W 0 (fun _ => true) true fu 3 (([a0, a1, a2, a3].drop 1).take (Tryz.prog.cellsOf 3)) = xs[1]? := hf 1 _ rfl
  rw [tI, List.getElem?_eq_getElem (by omega)] at h1
  have h2 : DataW.trod enc Tryz.prog W 0 (fun _ => true) true fu 3 (([a0, a1, a2, a3].drop 2).take (Tryz.prog.cellsOf 3)) = xs[2]? := hf 2 _ rfl
  rw [tI, List.getElem?_eq_getElem (by omega)] at h2
  have h3 : DataW.trod enc Tryz.prog W 0 (fun _ => true) true fu 3 (([a0, a1, a2, a3].drop 3).take (Tryz.prog.cellsOf 3)) = xs[3]? := hf 3 _ rfl
  rw [tI, List.getElem?_eq_getElem (by omega)] at h3
  obtain ⟨b0, e0, _⟩ := DataW.trod_int Tryz.underlying3 h0
  obtain ⟨b1, e1, _⟩ := DataW.trod_int Tryz.underlying3 h1
  obtain ⟨b2, e2, _⟩ := DataW.trod_int Tryz.underlying3 h2
  obtain ⟨b3, e3, _⟩ := DataW.trod_int Tryz.underlying3 h3
  exact ⟨b0, b1, b2, b3, by simpa using e0, by simpa using e1, by simpa using e2, by simpa using e3⟩
theorem layc_in {base : Nat} {v : Value} {d : DataW H} {ps : List MemPlace} (hval : Value.okWide Tryz.prog W .any base 29 v) (hd : DataW.Trod enc Tryz.prog W 0 (fun _ => true) true 29 v d ps) :
    ∃ x0 x1 x2 x3 : Int, v = .agg #[.int .i64 x0, .int .i64 x1, .int .i64 x2, .int .i64 x3] := by
  simp only [Value.okWide, Tryz.underlying29] at hval
  obtain ⟨cs, rfl, hsz, _⟩ := hval
  have hk : Tryz.prog.cellsOf 29 = 4 := by kernel_rfl
  have hlen : cs.toList.length = 4 := by rw [Array.length_toList, hsz, hk]
  obtain ⟨fuel, hf⟩ := hd
  obtain ⟨l⟩ := cs
  match l, hlen with
  | [a0, a1, a2, a3], _ =>
    obtain ⟨x0, x1, x2, x3, rfl, rfl, rfl, rfl⟩ := layc_cells hf
    exact ⟨x0, x1, x2, x3, rfl⟩
end
end Go.Proofs.YtledfdpabmlecaaGreatDoor
end
section
set_option maxRecDepth 100000
namespace Go.Proofs.YtledfdpabmlecaaGreatDoor
open Go.ChangeShapes Go.WideShapes Go.ChangeAt Go.RowKit
section
variable {H : Type} {enc : TypeId × Value → H} {W : World}
theorem pick_some {α : Type} (z : α) {n : Nat} {p : Nat → α → Prop} (h : ∀ i, i < n → ∃ q, p i q) : ∃ l : List α, l.length = n ∧ ∀ i, i < n → p i (l.getD i z) := by
  induction n with
  | zero => exact ⟨[], rfl, fun i hi => absurd hi (by omega)⟩
  | succ n ih =>
    obtain ⟨l, hl, hp⟩ := ih fun i hi => h i (by omega)
    obtain ⟨q, hq⟩ := h n (by omega)
    refine ⟨l ++ [q], by simp [hl], fun i hi => ?_⟩
    rcases Nat.lt_or_ge i n with h2 | h2
    · rw [getD_left _ _ _ (by omega)]
      exact hp i h2
    · obtain rfl : i = n := by omega
      rw [getD_right _ _ _ (by omega), hl, Nat.sub_self]
      exact hq
/-- A slice of things of any shape, opened, with what is known of each. -/
theorem shape_trod {α : Type} (S : Shape α) (P : α → Prop) {tS e : TypeId} {v : Value} {fuel : Nat} {x : DataW H × List MemPlace} (hu : Tryz.prog.underlying tS = some (.slice e)) (ce : Tryz.prog.cellsOf e = S.m) (hcell : ∀ {fuel : Nat} {cs : List Value} {y : DataW H × List MemPlace}, cs.length = S.m → DataW.trod enc Tryz.prog W 0 (fun _ => true) true fuel e cs = some y → ∃ a, cs = S.cs a ∧ P a)
    (h : DataW.trod enc Tryz.prog W 0 (fun _ => true) true fuel tS [v] = some x) :
    ∃ A n cap l, v = .slice A n cap ∧ SlIs A n cap ∧ l.length = n ∧ Arr S W 0 W.heap.size A l ∧ ∀ k, k < n → P (l.getD k S.z) := by
  rcases Go.Deep.open_slice hu h with ⟨hcs, _⟩ | ⟨a, len, cap', m, q, D, PL, hcs, _, hl, hm, hmm, _, hx⟩
  · injection hcs with hcs
    exact ⟨none, 0, 0, [], hcs, ⟨fun _ => ⟨rfl, rfl⟩, Nat.le_refl _, by omega⟩, rfl, Arr.nil, fun k hk => absurd hk (by omega)⟩
  · injection hcs with hcs
    have each : ∀ i, i < len → ∃ q : α, P q ∧ ∀ j x, (S.cs q)[j]? = some x → W.cell? (a.add (i * S.m + j)) = some x := by
      intro i hi
      obtain ⟨cs', h1, h2⟩ := hx i (by simp only [if_true] at hmm; omega)
      rw [ce] at h1
      obtain ⟨_, hlen, hcell'⟩ := World.cells?_some h1
      obtain ⟨p, rfl, hp⟩ := hcell hlen h2
      refine ⟨p, hp, fun j x hj => ?_⟩
      have hj8 : j < S.m := by
        rcases Nat.lt_or_ge j S.m with h | h
        · exact h
        · rw [List.getElem?_eq_none (by rw [S.len]; exact h)] at hj; cases hj
      have e := hcell' j hj8
      rw [add_add] at e
      rw [e]
      exact hj
    obtain ⟨l, hll, hp⟩ := pick_some S.z each
    refine ⟨some a, len, cap', l, hcs, ⟨(fun h => by cases h), hl, by unfold maxLen at hm; exact hm⟩, hll, fun k hk => ?_, fun k hk => (hp k hk).1⟩
    have h := (hp k (by omega)).2
    refine ⟨a, rfl, Nat.zero_le _, ?_, h⟩
    have h0 := World.block_lt_of_cell? W _ (h 0 _ (List.getElem?_eq_getElem (by rw [S.len]; exact S.pos)))
    rwa [add_block] at h0
theorem rec_cells {fuel : Nat} {a0 a1 a2 a3 : Value} {y : DataW H × List MemPlace} (h : DataW.trod enc Tryz.prog W 0 (fun _ => true) true fuel 52 [a0, a1, a2, a3] = some y) :
    ∃ r : Rd, [a0, a1, a2, a3] = recS.cs r ∧ r.here W W.heap.size := by
  obtain ⟨xs, fu, _, _, _, hxl, hf⟩ := DataW.trod_struct Tryz.underlying52 h
  have t0 : Tryz.prog.cellsOf 3 = 1 := by kernel_rfl
  have t2 : Tryz.prog.cellsOf 27 = 1 := by kernel_rfl
  have hxl4 : xs.length = 4 := hxl
  have h0 : DataW.trod enc Tryz.prog W 0 (fun _ => true) true fu 3 (([a0, a1, a2, a3].drop 0).take (Tryz.prog.cellsOf 3)) = xs[0]? := hf 0 _ rfl
  have h1 : DataW.trod enc Tryz.prog W 0 (fun _ => true) true fu 27 (([a0, a1, a2, a3].drop 1).take (Tryz.prog.cellsOf 27)) = xs[1]? := hf 1 _ rfl
  have h2 : DataW.trod enc Tryz.prog W 0 (fun _ => true) true fu 27 (([a0, a1, a2, a3].drop 2).take (Tryz.prog.cellsOf 27)) = xs[2]? := hf 2 _ rfl
  have h3 : DataW.trod enc Tryz.prog W 0 (fun _ => true) true fu 3 (([a0, a1, a2, a3].drop 3).take (Tryz.prog.cellsOf 3)) = xs[3]? := hf 3 _ rfl
  rw [t0, List.getElem?_eq_getElem (by omega)] at h0 h3
  rw [t2, List.getElem?_eq_getElem (by omega)] at h1 h2
  obtain ⟨kd, ek, _⟩ := DataW.trod_int Tryz.underlying3 h0
  obtain ⟨x, ex, _⟩ := DataW.trod_int Tryz.underlying3 h3
  obtain ⟨A, n, c, k, e1, s1, l1, b1⟩ := bytes_field Tryz.underlying27 Tryz.underlying5 (by kernel_rfl) (v := a1) h1
  obtain ⟨A', n', c', k', e2, s2, l2, b2⟩ := bytes_field Tryz.underlying27 Tryz.underlying5 (by kernel_rfl) (v := a2) h2
  have ek' : a0 = .int .i64 kd := by simpa using ek
  have ex' : a3 = .int .i64 x := by simpa using ex
  subst ek' ex' e1 e2
  exact ⟨⟨kd, x, A, A', n, c, n', c', k, k'⟩, rfl, ⟨s1, l1, b1⟩, ⟨s2, l2, b2⟩⟩
theorem recs_in {base : Nat} {v : Value} {d : DataW H} {ps : List MemPlace} (hval : Value.okWide Tryz.prog W .any base 22 v) (hd : DataW.Trod enc Tryz.prog W 0 (fun _ => true) true 22 v d ps) :
    ∃ A n cap l, v = .slice A n cap ∧ SlIs A n cap ∧ Hid (l.length = n) ∧ Hid (RecsAt W W.heap.size A l) := by
  obtain ⟨A, n, cap, rfl⟩ := okWide_slice Tryz.underlying22 hval
  obtain ⟨fuel, hf⟩ := hd
  obtain ⟨A', n', cap', l, e, h1, h2, h3, h4⟩ := shape_trod recS (fun r => r.here W W.heap.size) Tryz.underlying22 (show _ = 4 by kernel_rfl) (fun {fuel cs y} hlen h2 => by
    match cs, hlen with
    | [v0, v1, v2, v3], _ => exact rec_cells h2) hf
  injection e with e1 e2 e3
  subst e1 e2 e3
  exact ⟨A, n, cap, l, rfl, h1, h2, h3, fun k hk => h4 k (by omega)⟩
theorem flags_in {base : Nat} {v : Value} {d : DataW H} {ps : List MemPlace} (hval : Value.okWide Tryz.prog W .any base 23 v) (hd : DataW.Trod enc Tryz.prog W 0 (fun _ => true) true 23 v d ps) :
    ∃ A n cap l, v = .slice A n cap ∧ SlIs A n cap ∧ Hid (l.length = n) ∧ Hid (Arr boolS W 0 W.heap.size A l) := by
  obtain ⟨A, n, cap, rfl⟩ := okWide_slice Tryz.underlying23 hval
  obtain ⟨fuel, hf⟩ := hd
  rcases Go.Deep.open_bools Tryz.underlying23 Tryz.underlying4 (by kernel_rfl) hf with ⟨hcs, _⟩ | ⟨a, n', cap', B, hcs, _, hl, hm, _, hcell⟩
  · simp [Value.cells] at hcs
    obtain ⟨rfl, rfl, rfl⟩ := hcs
    exact ⟨none, 0, 0, [], rfl, ⟨fun _ => ⟨rfl, rfl⟩, Nat.le_refl _, by omega⟩, rfl, Arr.nil⟩
  · simp [Value.cells] at hcs
    obtain ⟨rfl, rfl, rfl⟩ := hcs
    refine ⟨some a, n, cap, (List.range n).map B, rfl, ⟨(fun h => by cases h), hl, by unfold maxLen at hm; exact hm⟩, by simp [Hid], fun k hk => ?_⟩
    have hkn : k < n := by simpa using hk
    have hcl := hcell k (by omega)
    have e : ((List.range n).map B).getD k false = B k := by
      rw [List.getD_eq_getElem?_getD, List.getElem?_map, List.getElem?_range hkn]; rfl
    refine ⟨a, rfl, Nat.zero_le _, ?_, fun j x hj => ?_⟩
    · have := World.block_lt_of_cell? W _ hcl
      rwa [add_block] at this
    · have hj2 : ([.bool (((List.range n).map B).getD k false)] : List Value)[j]? = some x := hj
      rw [e] at hj2
      match j, hj2 with
      | 0, hj2 =>
        simp at hj2
        subst hj2
        rwa [show k * boolS.m + 0 = k from Nat.mul_one k]
end
end Go.Proofs.YtledfdpabmlecaaGreatDoor
end
section
set_option maxRecDepth 100000
namespace Go.Proofs.YtledfdpabmlecaaGreatDoor
open Go.ChangeShapes Go.WideShapes Go.ChangeAt Go.RowKit
/-- A call of a packer. -/
structure Cl where
  kd : Int
  r : Rd
  off : Int
  n : Int
def Cl0 : Cl := ⟨0, Rd0, 0, 0⟩
def clS : Shape Cl := ⟨fun o => [.int .i64 o.kd, .int .i64 o.r.kd, .slice o.r.A1 o.r.n1 o.r.c1, .slice o.r.A2 o.r.n2 o.r.c2, .int .i64 o.r.x, .int .i64 o.off, .int .i64 o.n], Cl0, 7, fun _ => rfl, by decide, fun a u hu => by
  simp only [List.mem_cons, List.not_mem_nil, or_false] at hu
  rcases hu with rfl | rfl | rfl | rfl | rfl | rfl | rfl <;> rfl⟩
def ClsAt (w : World) (B : Nat) (A : Option Addr) (l : List Cl) : Prop := Arr clS w 0 B A l ∧ ∀ k, k < l.length → (l.getD k Cl0).r.here w B
theorem ClsAt.below {w w' : World} {B C : Nat} {A : Option Addr} {l : List Cl} (h : ClsAt w B A l) (hb : Below C w w') (hB : B ≤ C) : ClsAt w' B A l := ⟨h.1.below hb hB, fun k hk => (h.2 k hk).below hb hB⟩
theorem cls_at {w : World} {lo B : Nat} {ad : Addr} {l : List Cl} (h : Arr clS w lo B (some ad) l) (k : Nat) (hk : k < l.length) (o : Cl) (e : l.getD k Cl0 = o) :
    w.cell? (ad.add (k * 7)) = some (.int .i64 o.kd) ∧ w.cell? ⟨(ad.add (k * 7)).block, (ad.add (k * 7)).off + 1, none⟩ = some (.int .i64 o.r.kd) ∧ w.cell? ⟨(ad.add (k * 7)).block, (ad.add (k * 7)).off + 2, none⟩ = some (.slice o.r.A1 o.r.n1 o.r.c1) ∧ w.cell? ⟨(ad.add (k * 7)).block, (ad.add (k * 7)).off + 3, none⟩ = some (.slice o.r.A2 o.r.n2 o.r.c2) ∧ w.cell? ⟨(ad.add (k * 7)).block, (ad.add (k * 7)).off + 4, none⟩ = some (.int .i64 o.r.x) ∧ w.cell? ⟨(ad.add (k * 7)).block, (ad.add (k * 7)).off + 5, none⟩ = some (.int .i64 o.off) ∧ w.cell? ⟨(ad.add (k * 7)).block, (ad.add (k * 7)).off + 6, none⟩ = some (.int .i64 o.n) := by
  have h4 : ∀ j v, (clS.cs o)[j]? = some v → w.cell? (ad.add (k * 7 + j)) = some v := fun j v hv => h.cell k hk j v (by rw [show l.getD k clS.z = o from e]; exact hv)
  have g : ∀ i, 0 < i → ∀ v, (clS.cs o)[i]? = some v → w.cell? ⟨(ad.add (k * 7)).block, (ad.add (k * 7)).off + i, none⟩ = some v := fun i hi v hv => by
    have := h4 i v hv
    rwa [at_field _ _ _ hi] at this
  exact ⟨h4 0 _ rfl, g 1 (by decide) _ rfl, g 2 (by decide) _ rfl, g 3 (by decide) _ rfl, g 4 (by decide) _ rfl, g 5 (by decide) _ rfl, g 6 (by decide) _ rfl⟩
section
variable {H : Type} {enc : TypeId × Value → H} {W : World}
end
end Go.Proofs.YtledfdpabmlecaaGreatDoor
end
