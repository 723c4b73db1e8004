/-
  The state of the statement on calls beside a list of expiries.
-/
import Derived.Test.YtkhmimdigdjajaaExRefPut2
import Derived.Test.YtkhmimdigdjajaaExRefDue
import Derived.Test.YtkhmimdigdjajaaExRows
set_option maxRecDepth 100000
namespace Go.Proofs.Ytkhmimdigdjajaa
open Go.RowKit Go.Maps
/-- A queue and a list of expiries side by side, in blocks of their own. -/
structure ZSt (B : Nat) (w : World) (q m : Nat) (S R : Nat → Prop) (M : Nat) (L K : List Ex.On) : Prop where
  s : QSt B w q S M L
  r : ∀ k, R k → B ≤ k ∧ k < w.heap.size
  d : ∀ k, S k → ¬ R k
  f : QR R w m K
/-- A block of neither. -/
def ZOb (w : World) (S R : Nat → Prop) (b : Nat) (o : Obj) : Prop := w.heap[b]? = some o ∧ ¬ S b ∧ ¬ R b
section
variable {B q m M b : Nat} {w w' : World} {S R : Nat → Prop} {L L' K K' : List Ex.On} {o : Obj}
theorem ZSt.next (h : ZSt B w q m S R M L K) (hb : Below w.heap.size w w') : ZSt B w' q m S R M L K :=
  ⟨h.s.next hb, fun k hk => ⟨(h.r k hk).1, Nat.lt_of_lt_of_le (h.r k hk).2 hb.size⟩, h.d, h.f.next hb⟩
theorem ZSt.same (h : ZSt B w q m S R M L K) (hk : Kept S w w') (ht : Que M w' S q L') : ZSt B w' q m S R M L' K :=
  ⟨h.s.same hk ht, fun k hr => ⟨(h.r k hr).1, Nat.lt_of_lt_of_le (h.r k hr).2 hk.size⟩, h.d, h.f.kept hk fun k _ hr hs => h.d k hs hr⟩
theorem ZSt.add (h : ZSt B w q m S R M L K) (hB : B ≤ w.heap.size) (hk : Kept S w w') (ht : Que (M + 1) w' (Snc S w w') q L') : ZSt B w' q m (Snc S w w') R (M + 1) L' K :=
  ⟨h.s.snc hB hk ht, fun k hr => ⟨(h.r k hr).1, Nat.lt_of_lt_of_le (h.r k hr).2 hk.size⟩, fun k hs hr => hs.elim (fun hs => h.d k hs hr) fun hs => Nat.lt_irrefl _ (Nat.lt_of_lt_of_le (h.r k hr).2 hs.1), h.f.kept hk fun k _ hr hs => h.d k hs hr⟩
theorem ZSt.ref (h : ZSt B w q m S R M L K) (hB : B ≤ w.heap.size) (hk : Kept R w w') (hf : QR (Snc R w w') w' m K') : ZSt B w' q m S (Snc R w w') M L K' :=
  ⟨h.s.far hk h.d, fun k hr => hr.elim (fun hr => ⟨(h.r k hr).1, Nat.lt_of_lt_of_le (h.r k hr).2 hk.size⟩) fun hr => ⟨Nat.le_trans hB hr.1, hr.2⟩, fun k hs hr => hr.elim (h.d k hs) fun hr => Nat.lt_irrefl _ (Nat.lt_of_lt_of_le (h.s.s k hs).2 hr.1), hf⟩
theorem ZSt.refsame (h : ZSt B w q m S R M L K) (hk : Kept R w w') (hf : QR R w' m K') : ZSt B w' q m S R M L K' :=
  ⟨h.s.far hk h.d, fun k hr => ⟨(h.r k hr).1, Nat.lt_of_lt_of_le (h.r k hr).2 hk.size⟩, h.d, hf⟩
theorem ZSt.more (h : ZSt B w q m S R M L K) : ZSt B w q m S R (M + 1) L K := ⟨⟨h.s.s, h.s.t.more (Nat.le_succ _)⟩, h.r, h.d, h.f⟩
theorem ZSt.belowS (h : ZSt B w q m S R M L K) (hB : B ≤ w.heap.size) (hk : Kept S w w') : Below B w w' := h.s.below hB hk
theorem ZSt.belowR (h : ZSt B w q m S R M L K) (hB : B ≤ w.heap.size) (hk : Kept R w w') : Below B w w' := hk.below hB fun k hr => (h.r k hr).1
theorem ZOb.lt (h : ZOb w S R b o) : b < w.heap.size := (Array.getElem?_eq_some_iff.1 h.1).1
theorem ZOb.next (h : ZOb w S R b o) (hb : Below w.heap.size w w') : ZOb w' S R b o := ⟨(hb.block b h.lt).trans h.1, h.2⟩
theorem ZOb.same (h : ZOb w S R b o) (hk : Kept S w w') : ZOb w' S R b o := ⟨(hk.block b h.lt h.2.1).trans h.1, h.2⟩
theorem ZOb.refsame (h : ZOb w S R b o) (hk : Kept R w w') : ZOb w' S R b o := ⟨(hk.block b h.lt h.2.2).trans h.1, h.2⟩
theorem ZOb.add (h : ZOb w S R b o) (hk : Kept S w w') : ZOb w' (Snc S w w') R b o := ⟨(hk.block b h.lt h.2.1).trans h.1, fun hs => hs.elim h.2.1 fun hs => Nat.lt_irrefl _ (Nat.lt_of_lt_of_le h.lt hs.1), h.2.2⟩
theorem ZOb.ref (h : ZOb w S R b o) (hk : Kept R w w') : ZOb w' S (Snc R w w') b o := ⟨(hk.block b h.lt h.2.2).trans h.1, h.2.1, fun hr => hr.elim h.2.2 fun hr => Nat.lt_irrefl _ (Nat.lt_of_lt_of_le h.lt hr.1)⟩
end
end Go.Proofs.Ytkhmimdigdjajaa
