/-
  The things of the laws of layer 13 side by side, and what each step leaves.
-/
import Derived.Test.YtjmhnbohojdodaaDoorPkLaw
set_option maxRecDepth 100000
namespace Go.Proofs.YtjmhnbohojdodaaDoor
open Go.RowKit
/-- The things of a law side by side: each in blocks of its own colour. -/
structure StF (W : World) (a b c d slot seq : Int) (wr : World) (col : Nat → Nat) (gp : Nat) (stp : List Nat) (kp : Nat) (vs : Value) (ns : Nat) (ls : List Value) : Prop where
  colr : Col W.heap.size wr col
  up : Below W.heap.size W wr
  box : Free col wr W.heap.size (.cells #[.int .i64 a, .int .i64 b, .int .i64 c, .int .i64 d] 23 (0, 0))
  p : PkIs 66 wr (fun i => col i = 1) gp a b c d slot seq stp kp
  s : SRow (fun i => col i = 3) 3 1 wr vs ns ls
section
variable {W wr wr' : World} {a b c d slot seq : Int} {col : Nat → Nat} {gp : Nat} {stp : List Nat} {kp : Nat} {vs : Value} {ns : Nat} {ls : List Value}
theorem StF.new (h : StF W a b c d slot seq wr col gp stp kp vs ns ls) (hb : Below wr.heap.size wr wr') : StF W a b c d slot seq wr' col gp stp kp vs ns ls where
  colr := h.colr.next hb.size
  up := h.up.trans (hb.mono h.up.size)
  box := h.box.new hb
  p := h.p.new hb
  s := h.s.new hb
theorem StF.tab (h : StF W a b c d slot seq wr col gp stp kp vs ns ls) (ht : TabW W) (hz : 0 < W.heap.size) : TabW wr ∧ 0 < wr.heap.size := ⟨ht.below h.up hz, Nat.lt_of_lt_of_le hz h.up.size⟩
theorem StF.onP (h : StF W a b c d slot seq wr col gp stp kp vs ns ls) {stp' : List Nat} {kp' : Nat} (hn : PkIs 66 wr' (Grow (fun i => col i = 1) wr) gp a b c d slot seq stp' kp') (hk : Kept (fun i => col i = 1) wr wr') : StF W a b c d slot seq wr' (paint col wr wr' 1) gp stp' kp' vs ns ls where
  colr := h.colr.other h.up.size hk 1
  up := below_kept h.up h.colr hk (by decide)
  box := h.box.other hk (by decide) 1
  s := h.s.other hk (by decide) 1
  p := hn.self
theorem StF.tookP (h : StF W a b c d slot seq wr col gp stp kp vs ns ls) {stp' : List Nat} {kp' : Nat} (hn : PkIs 66 wr' (fun i => col i = 1) gp a b c d slot seq stp' kp') (hk : Kept (fun i => col i = 1) wr wr') : StF W a b c d slot seq wr' (paint col wr wr' 5) gp stp' kp' vs ns ls where
  colr := h.colr.other h.up.size hk 5
  up := below_kept h.up h.colr hk (by decide)
  box := h.box.other hk (by decide) 5
  s := h.s.other hk (by decide) 5
  p := hn.same h.colr (by decide) 5
theorem StF.onS (h : StF W a b c d slot seq wr col gp stp kp vs ns ls) {vs' : Value} {ns' : Nat} {ls' : List Value} (hn : SRow (Grow (fun i => col i = 3) wr) 3 1 wr' vs' ns' ls') (hk : Kept (fun i => col i = 3) wr wr') : StF W a b c d slot seq wr' (paint col wr wr' 3) gp stp kp vs' ns' ls' where
  colr := h.colr.other h.up.size hk 3
  up := below_kept h.up h.colr hk (by decide)
  box := h.box.other hk (by decide) 3
  p := h.p.other hk (by decide) 3
  s := hn.mine
end
/-- The things of a law side by side: each in blocks of its own colour. -/
structure StT (W : World) (a b c d slot seq : Int) (wr : World) (col : Nat → Nat) (gp : Nat) (stp : List Nat) (kp : Nat) (gq : Nat) (stq : List Nat) (kq : Nat) (vs : Value) (ns : Nat) (ls : List Value) (vf : Value) (nf : Nat) (lf : List (List Nat)) : Prop where
  colr : Col W.heap.size wr col
  up : Below W.heap.size W wr
  box : Free col wr W.heap.size (.cells #[.int .i64 a, .int .i64 b, .int .i64 c, .int .i64 d] 23 (0, 0))
  p : PkIs 66 wr (fun i => col i = 1) gp a b c d slot seq stp kp
  q : PkIs 66 wr (fun i => col i = 2) gq a b c d slot seq stq kq
  s : SRow (fun i => col i = 3) 3 1 wr vs ns ls
  f : FrRow wr (fun i => col i = 4) (fun i => col i = 5) vf nf lf
section
variable {W wr wr' : World} {a b c d slot seq : Int} {col : Nat → Nat} {gp : Nat} {stp : List Nat} {kp : Nat} {gq : Nat} {stq : List Nat} {kq : Nat} {vs : Value} {ns : Nat} {ls : List Value} {vf : Value} {nf : Nat} {lf : List (List Nat)}
theorem StT.new (h : StT W a b c d slot seq wr col gp stp kp gq stq kq vs ns ls vf nf lf) (hb : Below wr.heap.size wr wr') : StT W a b c d slot seq wr' col gp stp kp gq stq kq vs ns ls vf nf lf where
  colr := h.colr.next hb.size
  up := h.up.trans (hb.mono h.up.size)
  box := h.box.new hb
  p := h.p.new hb
  q := h.q.new hb
  s := h.s.new hb
  f := h.f.new hb
theorem StT.tab (h : StT W a b c d slot seq wr col gp stp kp gq stq kq vs ns ls vf nf lf) (ht : TabW W) (hz : 0 < W.heap.size) : TabW wr ∧ 0 < wr.heap.size := ⟨ht.below h.up hz, Nat.lt_of_lt_of_le hz h.up.size⟩
theorem StT.onP (h : StT W a b c d slot seq wr col gp stp kp gq stq kq vs ns ls vf nf lf) {stp' : List Nat} {kp' : Nat} (hn : PkIs 66 wr' (Grow (fun i => col i = 1) wr) gp a b c d slot seq stp' kp') (hk : Kept (fun i => col i = 1) wr wr') : StT W a b c d slot seq wr' (paint col wr wr' 1) gp stp' kp' gq stq kq vs ns ls vf nf lf where
  colr := h.colr.other h.up.size hk 1
  up := below_kept h.up h.colr hk (by decide)
  box := h.box.other hk (by decide) 1
  q := h.q.other hk (by decide) 1
  s := h.s.other hk (by decide) 1
  f := h.f.other hk (by decide) (by decide) 1
  p := hn.self
theorem StT.tookP (h : StT W a b c d slot seq wr col gp stp kp gq stq kq vs ns ls vf nf lf) {stp' : List Nat} {kp' : Nat} (hn : PkIs 66 wr' (fun i => col i = 1) gp a b c d slot seq stp' kp') (hk : Kept (fun i => col i = 1) wr wr') : StT W a b c d slot seq wr' (paint col wr wr' 5) gp stp' kp' gq stq kq vs ns ls vf nf lf where
  colr := h.colr.other h.up.size hk 5
  up := below_kept h.up h.colr hk (by decide)
  box := h.box.other hk (by decide) 5
  q := h.q.other hk (by decide) 5
  s := h.s.other hk (by decide) 5
  f := h.f.other hk (by decide) (by decide) 5
  p := hn.same h.colr (by decide) 5
theorem StT.onQ (h : StT W a b c d slot seq wr col gp stp kp gq stq kq vs ns ls vf nf lf) {stq' : List Nat} {kq' : Nat} (hn : PkIs 66 wr' (Grow (fun i => col i = 2) wr) gq a b c d slot seq stq' kq') (hk : Kept (fun i => col i = 2) wr wr') : StT W a b c d slot seq wr' (paint col wr wr' 2) gp stp kp gq stq' kq' vs ns ls vf nf lf where
  colr := h.colr.other h.up.size hk 2
  up := below_kept h.up h.colr hk (by decide)
  box := h.box.other hk (by decide) 2
  p := h.p.other hk (by decide) 2
  s := h.s.other hk (by decide) 2
  f := h.f.other hk (by decide) (by decide) 2
  q := hn.self
theorem StT.tookQ (h : StT W a b c d slot seq wr col gp stp kp gq stq kq vs ns ls vf nf lf) {stq' : List Nat} {kq' : Nat} (hn : PkIs 66 wr' (fun i => col i = 2) gq a b c d slot seq stq' kq') (hk : Kept (fun i => col i = 2) wr wr') : StT W a b c d slot seq wr' (paint col wr wr' 5) gp stp kp gq stq' kq' vs ns ls vf nf lf where
  colr := h.colr.other h.up.size hk 5
  up := below_kept h.up h.colr hk (by decide)
  box := h.box.other hk (by decide) 5
  p := h.p.other hk (by decide) 5
  s := h.s.other hk (by decide) 5
  f := h.f.other hk (by decide) (by decide) 5
  q := hn.same h.colr (by decide) 5
theorem StT.onS (h : StT W a b c d slot seq wr col gp stp kp gq stq kq vs ns ls vf nf lf) {vs' : Value} {ns' : Nat} {ls' : List Value} (hn : SRow (Grow (fun i => col i = 3) wr) 3 1 wr' vs' ns' ls') (hk : Kept (fun i => col i = 3) wr wr') : StT W a b c d slot seq wr' (paint col wr wr' 3) gp stp kp gq stq kq vs' ns' ls' vf nf lf where
  colr := h.colr.other h.up.size hk 3
  up := below_kept h.up h.colr hk (by decide)
  box := h.box.other hk (by decide) 3
  p := h.p.other hk (by decide) 3
  q := h.q.other hk (by decide) 3
  f := h.f.other hk (by decide) (by decide) 3
  s := hn.mine
theorem StT.onF (h : StT W a b c d slot seq wr col gp stp kp gq stq kq vs ns ls vf nf lf) {vx : Value} {nx : Nat} {lx : List (List Nat)} {sl sx : List (Option Addr × Nat × Nat)} {v' : Value} (hr : SRow (Grow (fun i => col i = 4) wr) 34 1 wr' v' (nf + nx) (slS.flat (sl ++ sx))) (hk : Kept (fun i => col i = 4) wr wr') (hsl : SRow (fun i => col i = 4) 34 1 wr vf nf (slS.flat sl))
    (h1 : ∀ i, i < nf → ∃ gf cf, sl.getD i (none, 0, 0) = (some ⟨gf, 0, none⟩, 64, cf) ∧ SRow (fun i => col i = 5) 5 1 wr (.slice (some ⟨gf, 0, none⟩) 64 cf) 64 (vals (lf.getD i []))) (hx : FrRow wr (fun i => col i = 5) (fun i => col i = 5) vx nx lx)
    (h2 : ∀ i, i < nx → ∃ gf cf, sx.getD i (none, 0, 0) = (some ⟨gf, 0, none⟩, 64, cf) ∧ SRow (fun i => col i = 5) 5 1 wr (.slice (some ⟨gf, 0, none⟩) 64 cf) 64 (vals (lx.getD i []))) : StT W a b c d slot seq wr' (paint col wr wr' 4) gp stp kp gq stq kq vs ns ls v' (nf + nx) (lf ++ lx) where
  colr := h.colr.other h.up.size hk 4
  up := below_kept h.up h.colr hk (by decide)
  box := h.box.other hk (by decide) 4
  p := h.p.other hk (by decide) 4
  q := h.q.other hk (by decide) 4
  s := h.s.other hk (by decide) 4
  f := FrRow.both hr.mine h.f.len hx.len hsl.len (fun i hi => by
    obtain ⟨gf, cf, b1, b2⟩ := h1 i hi
    exact ⟨gf, cf, b1, b2.other hk (by decide) 4⟩) (fun i hi => by
    obtain ⟨gf, cf, b1, b2⟩ := h2 i hi
    exact ⟨gf, cf, b1, b2.other hk (by decide) 4⟩)
end
/-- The things of a law side by side: each in blocks of its own colour. -/
structure StR (W : World) (a b c d slot seq : Int) (wr : World) (col : Nat → Nat) (gp : Nat) (stp : List Nat) (kp : Nat) (vo : Value) (no : Nat) (lo : List Value) (vn : Value) (nn : Nat) (ln : List Value) (vr : Value) (nr : Nat) (lr : List Value) : Prop where
  colr : Col W.heap.size wr col
  up : Below W.heap.size W wr
  box : Free col wr W.heap.size (.cells #[.int .i64 a, .int .i64 b, .int .i64 c, .int .i64 d] 23 (0, 0))
  p : PkIs 66 wr (fun i => col i = 1) gp a b c d slot seq stp kp
  o : SRow (fun i => col i = 3) 3 1 wr vo no lo
  n : SRow (fun i => col i = 4) 3 1 wr vn nn ln
  r : SRow (fun i => col i = 6) 38 4 wr vr nr lr
section
variable {W wr wr' : World} {a b c d slot seq : Int} {col : Nat → Nat} {gp : Nat} {stp : List Nat} {kp : Nat} {vo : Value} {no : Nat} {lo : List Value} {vn : Value} {nn : Nat} {ln : List Value} {vr : Value} {nr : Nat} {lr : List Value}
theorem StR.new (h : StR W a b c d slot seq wr col gp stp kp vo no lo vn nn ln vr nr lr) (hb : Below wr.heap.size wr wr') : StR W a b c d slot seq wr' col gp stp kp vo no lo vn nn ln vr nr lr where
  colr := h.colr.next hb.size
  up := h.up.trans (hb.mono h.up.size)
  box := h.box.new hb
  p := h.p.new hb
  o := h.o.new hb
  n := h.n.new hb
  r := h.r.new hb
theorem StR.tab (h : StR W a b c d slot seq wr col gp stp kp vo no lo vn nn ln vr nr lr) (ht : TabW W) (hz : 0 < W.heap.size) : TabW wr ∧ 0 < wr.heap.size := ⟨ht.below h.up hz, Nat.lt_of_lt_of_le hz h.up.size⟩
theorem StR.onP (h : StR W a b c d slot seq wr col gp stp kp vo no lo vn nn ln vr nr lr) {stp' : List Nat} {kp' : Nat} (hn : PkIs 66 wr' (Grow (fun i => col i = 1) wr) gp a b c d slot seq stp' kp') (hk : Kept (fun i => col i = 1) wr wr') : StR W a b c d slot seq wr' (paint col wr wr' 1) gp stp' kp' vo no lo vn nn ln vr nr lr where
  colr := h.colr.other h.up.size hk 1
  up := below_kept h.up h.colr hk (by decide)
  box := h.box.other hk (by decide) 1
  o := h.o.other hk (by decide) 1
  n := h.n.other hk (by decide) 1
  r := h.r.other hk (by decide) 1
  p := hn.self
theorem StR.tookP (h : StR W a b c d slot seq wr col gp stp kp vo no lo vn nn ln vr nr lr) {stp' : List Nat} {kp' : Nat} (hn : PkIs 66 wr' (fun i => col i = 1) gp a b c d slot seq stp' kp') (hk : Kept (fun i => col i = 1) wr wr') : StR W a b c d slot seq wr' (paint col wr wr' 5) gp stp' kp' vo no lo vn nn ln vr nr lr where
  colr := h.colr.other h.up.size hk 5
  up := below_kept h.up h.colr hk (by decide)
  box := h.box.other hk (by decide) 5
  o := h.o.other hk (by decide) 5
  n := h.n.other hk (by decide) 5
  r := h.r.other hk (by decide) 5
  p := hn.same h.colr (by decide) 5
theorem StR.onO (h : StR W a b c d slot seq wr col gp stp kp vo no lo vn nn ln vr nr lr) {vo' : Value} {no' : Nat} {lo' : List Value} (hn : SRow (Grow (fun i => col i = 3) wr) 3 1 wr' vo' no' lo') (hk : Kept (fun i => col i = 3) wr wr') : StR W a b c d slot seq wr' (paint col wr wr' 3) gp stp kp vo' no' lo' vn nn ln vr nr lr where
  colr := h.colr.other h.up.size hk 3
  up := below_kept h.up h.colr hk (by decide)
  box := h.box.other hk (by decide) 3
  p := h.p.other hk (by decide) 3
  n := h.n.other hk (by decide) 3
  r := h.r.other hk (by decide) 3
  o := hn.mine
theorem StR.onN (h : StR W a b c d slot seq wr col gp stp kp vo no lo vn nn ln vr nr lr) {vn' : Value} {nn' : Nat} {ln' : List Value} (hn : SRow (Grow (fun i => col i = 4) wr) 3 1 wr' vn' nn' ln') (hk : Kept (fun i => col i = 4) wr wr') : StR W a b c d slot seq wr' (paint col wr wr' 4) gp stp kp vo no lo vn' nn' ln' vr nr lr where
  colr := h.colr.other h.up.size hk 4
  up := below_kept h.up h.colr hk (by decide)
  box := h.box.other hk (by decide) 4
  p := h.p.other hk (by decide) 4
  o := h.o.other hk (by decide) 4
  r := h.r.other hk (by decide) 4
  n := hn.mine
theorem StR.onR (h : StR W a b c d slot seq wr col gp stp kp vo no lo vn nn ln vr nr lr) {vr' : Value} {nr' : Nat} {lr' : List Value} (hn : SRow (Grow (fun i => col i = 6) wr) 38 4 wr' vr' nr' lr') (hk : Kept (fun i => col i = 6) wr wr') : StR W a b c d slot seq wr' (paint col wr wr' 6) gp stp kp vo no lo vn nn ln vr' nr' lr' where
  colr := h.colr.other h.up.size hk 6
  up := below_kept h.up h.colr hk (by decide)
  box := h.box.other hk (by decide) 6
  p := h.p.other hk (by decide) 6
  o := h.o.other hk (by decide) 6
  n := h.n.other hk (by decide) 6
  r := hn.mine
end
/-- The things of a law side by side: each in blocks of its own colour. -/
structure StS (W : World) (a b c d slot seq : Int) (wr : World) (col : Nat → Nat) (gp : Nat) (stp : List Nat) (kp : Nat) (gq : Nat) (stq : List Nat) (kq : Nat) : Prop where
  colr : Col W.heap.size wr col
  up : Below W.heap.size W wr
  box : Free col wr W.heap.size (.cells #[.int .i64 a, .int .i64 b, .int .i64 c, .int .i64 d] 23 (0, 0))
  p : PkIs 66 wr (fun i => col i = 1) gp a b c d slot seq stp kp
  q : PkIs 36 wr (fun i => col i = 2) gq a b c d slot seq stq kq
section
variable {W wr wr' : World} {a b c d slot seq : Int} {col : Nat → Nat} {gp : Nat} {stp : List Nat} {kp : Nat} {gq : Nat} {stq : List Nat} {kq : Nat}
theorem StS.new (h : StS W a b c d slot seq wr col gp stp kp gq stq kq) (hb : Below wr.heap.size wr wr') : StS W a b c d slot seq wr' col gp stp kp gq stq kq where
  colr := h.colr.next hb.size
  up := h.up.trans (hb.mono h.up.size)
  box := h.box.new hb
  p := h.p.new hb
  q := h.q.new hb
theorem StS.tab (h : StS W a b c d slot seq wr col gp stp kp gq stq kq) (ht : TabW W) (hz : 0 < W.heap.size) : TabW wr ∧ 0 < wr.heap.size := ⟨ht.below h.up hz, Nat.lt_of_lt_of_le hz h.up.size⟩
theorem StS.onP (h : StS W a b c d slot seq wr col gp stp kp gq stq kq) {stp' : List Nat} {kp' : Nat} (hn : PkIs 66 wr' (Grow (fun i => col i = 1) wr) gp a b c d slot seq stp' kp') (hk : Kept (fun i => col i = 1) wr wr') : StS W a b c d slot seq wr' (paint col wr wr' 1) gp stp' kp' gq stq kq where
  colr := h.colr.other h.up.size hk 1
  up := below_kept h.up h.colr hk (by decide)
  box := h.box.other hk (by decide) 1
  q := h.q.other hk (by decide) 1
  p := hn.self
theorem StS.tookP (h : StS W a b c d slot seq wr col gp stp kp gq stq kq) {stp' : List Nat} {kp' : Nat} (hn : PkIs 66 wr' (fun i => col i = 1) gp a b c d slot seq stp' kp') (hk : Kept (fun i => col i = 1) wr wr') : StS W a b c d slot seq wr' (paint col wr wr' 5) gp stp' kp' gq stq kq where
  colr := h.colr.other h.up.size hk 5
  up := below_kept h.up h.colr hk (by decide)
  box := h.box.other hk (by decide) 5
  q := h.q.other hk (by decide) 5
  p := hn.same h.colr (by decide) 5
theorem StS.onQ (h : StS W a b c d slot seq wr col gp stp kp gq stq kq) {stq' : List Nat} {kq' : Nat} (hn : PkIs 36 wr' (Grow (fun i => col i = 2) wr) gq a b c d slot seq stq' kq') (hk : Kept (fun i => col i = 2) wr wr') : StS W a b c d slot seq wr' (paint col wr wr' 2) gp stp kp gq stq' kq' where
  colr := h.colr.other h.up.size hk 2
  up := below_kept h.up h.colr hk (by decide)
  box := h.box.other hk (by decide) 2
  p := h.p.other hk (by decide) 2
  q := hn.self
theorem StS.tookQ (h : StS W a b c d slot seq wr col gp stp kp gq stq kq) {stq' : List Nat} {kq' : Nat} (hn : PkIs 36 wr' (fun i => col i = 2) gq a b c d slot seq stq' kq') (hk : Kept (fun i => col i = 2) wr wr') : StS W a b c d slot seq wr' (paint col wr wr' 5) gp stp kp gq stq' kq' where
  colr := h.colr.other h.up.size hk 5
  up := below_kept h.up h.colr hk (by decide)
  box := h.box.other hk (by decide) 5
  p := h.p.other hk (by decide) 5
  q := hn.same h.colr (by decide) 5
end
end Go.Proofs.YtjmhnbohojdodaaDoor
