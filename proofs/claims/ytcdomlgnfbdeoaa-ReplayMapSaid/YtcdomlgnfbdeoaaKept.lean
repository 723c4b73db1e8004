/-
  What a call leaves as it was, but for the blocks of a set, and new ones.
-/
import Derived.Test.YtcdomlgnfbdeoaaBase
import Derived.Maps.AppendAt
set_option maxRecDepth 100000
namespace Go.Proofs.Ytcdomlgnfbdeoaa
open Go.RowKit
/-- w' is w but for the blocks of S, and new ones. -/
structure Kept (S : Nat → Prop) (w w' : World) : Prop where
  os : w'.os = w.os
  tape : w'.tape = w.tape
  output : w'.output = w.output
  size : w.heap.size ≤ w'.heap.size
  block : ∀ k, k < w.heap.size → ¬ S k → w'.heap[k]? = w.heap[k]?
section
variable {S : Nat → Prop} {w w' w'' : World}
theorem Kept.refl (S : Nat → Prop) (w : World) : Kept S w w := ⟨rfl, rfl, rfl, Nat.le_refl _, fun _ _ _ => rfl⟩
theorem Kept.trans (h : Kept S w w') (k : Kept S w' w'') : Kept S w w'' :=
  ⟨k.os.trans h.os, k.tape.trans h.tape, k.output.trans h.output, Nat.le_trans h.size k.size, fun i hi hn => (k.block i (Nat.lt_of_lt_of_le hi h.size) hn).trans (h.block i hi hn)⟩
theorem Kept.mono {T : Nat → Prop} (h : Kept S w w') (hs : ∀ k, k < w.heap.size → S k → T k) : Kept T w w' := ⟨h.os, h.tape, h.output, h.size, fun i hi hn => h.block i hi fun hs' => hn (hs i hi hs')⟩
/-- What the second step writes behind the first world's heap does not count. -/
theorem Kept.trans' {T : Nat → Prop} (h : Kept S w w') (k : Kept T w' w'') (ht : ∀ i, T i → i < w.heap.size → S i) : Kept S w w'' :=
  ⟨k.os.trans h.os, k.tape.trans h.tape, k.output.trans h.output, Nat.le_trans h.size k.size, fun i hi hn => (k.block i (Nat.lt_of_lt_of_le hi h.size) fun t => hn (ht i t hi)).trans (h.block i hi hn)⟩
theorem Kept.of_below {B : Nat} (h : Below B w w') : Kept (fun k => B ≤ k) w w' := ⟨h.os, h.tape, h.output, h.size, fun i _ hn => h.block i (Nat.lt_of_not_le hn)⟩
theorem Kept.of_new (h : Below w.heap.size w w') : Kept S w w' := ⟨h.os, h.tape, h.output, h.size, fun i hi _ => h.block i hi⟩
theorem Kept.of_grown {row : Option Nat} (h : w.grownBy w' row) (hr : ∀ k, row = some k → S k) : Kept S w w' := ⟨h.os, h.tape, h.output, h.size, fun i hi hn => h.block i hi fun e => hn (hr i e.symm)⟩
theorem Kept.alloc (w : World) (o : Obj) : Kept S w (w.alloc o) := Kept.of_grown (World.grownBy_alloc w o none) (fun _ e => by cases e)
theorem Kept.drewN (h : Kept S w w') (n : Nat) : Kept S w (w'.drewN n) := ⟨h.os, h.tape, h.output, h.size, h.block⟩
theorem Kept.below {B : Nat} (h : Kept S w w') (hB : B ≤ w.heap.size) (hs : ∀ k, S k → B ≤ k) : Below B w w' :=
  ⟨h.os, h.tape, h.output, h.size, fun i hi => h.block i (Nat.lt_of_lt_of_le hi hB) fun s => by have := hs i s; omega⟩
theorem Kept.setCell (w : World) (a : Addr) (u : Value) (hs : S a.block) : Kept S w (w.setCell a u) :=
  ⟨rfl, rfl, rfl, by simp [World.setCell], fun k _ hn => Below.heap_setCell w a u k (fun e => hn (e ▸ hs))⟩
theorem Kept.setRow (w : World) (g : Nat) (cs : Array Value) (hs : S g) : Kept S w (w.setRow g cs) :=
  ⟨rfl, rfl, rfl, by simp [World.setRow], fun k _ hn => setRow_other w g k cs (fun e => hn (e ▸ hs))⟩
end
theorem Bs.kept {S : Nat → Prop} {w w' : World} {B : Nat} {A : Option Addr} {l : List Nat} (h : Bs w B A l) (hk : Kept S w w') (hs : ∀ ad, A = some ad → 0 < l.length → ¬ S ad.block) : Bs w' B A l := fun k hl => by
  obtain ⟨h1, ad, rfl, h3, h4⟩ := h k hl
  refine ⟨h1, ad, rfl, h3, (World.cell?_of_block (hk.block _ ?_ ?_)).trans h4⟩
  · exact World.block_lt_of_cell? _ _ h4
  · rw [add_block]; exact hs ad rfl (by omega)

end Go.Proofs.Ytcdomlgnfbdeoaa
