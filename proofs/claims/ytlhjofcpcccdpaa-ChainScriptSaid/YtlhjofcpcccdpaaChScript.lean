/-
  The state of the statement on calls beside a list of items.
-/
import Derived.Test.YtlhjofcpcccdpaaChRefAdd
import Derived.Test.YtlhjofcpcccdpaaChSame
import Derived.Test.YtlhjofcpcccdpaaRefInts
set_option maxRecDepth 100000
namespace Go.Proofs.Ytlhjofcpcccdpaa
open Go.RowKit Go.Maps
/-- A chain and a list of items side by side, in blocks of their own. -/
structure XSt (B : Nat) (w : World) (q m : Nat) (S R : Nat → Prop) (M : Nat) (H : Int → List Ch.It) (L : List Ch.Ent) : Prop where
  s : CSt B w q S M H
  r : ∀ k, R k → B ≤ k ∧ k < w.heap.size
  d : ∀ k, S k → ¬ R k
  f : CR R w m L
/-- A block of neither. -/
def XOb (w : World) (S R : Nat → Prop) (b : Nat) (o : Obj) : Prop := w.heap[b]? = some o ∧ ¬ S b ∧ ¬ R b
section
variable {B q m M b : Nat} {w w' : World} {S R : Nat → Prop} {H H' : Int → List Ch.It} {L L' : List Ch.Ent} {o : Obj}
theorem XSt.next (h : XSt B w q m S R M H L) (hb : Below w.heap.size w w') : XSt B w' q m S R M H L :=
  ⟨h.s.next hb, fun k hk => ⟨(h.r k hk).1, Nat.lt_of_lt_of_le (h.r k hk).2 hb.size⟩, h.d, h.f.next hb⟩
theorem XSt.same (h : XSt B w q m S R M H L) (hk : Kept S w w') (ht : Chn M w' S q H') : XSt B w' q m S R M H' L :=
  ⟨h.s.same hk ht, fun k hr => ⟨(h.r k hr).1, Nat.lt_of_lt_of_le (h.r k hr).2 hk.size⟩, h.d, h.f.kept hk fun k _ hr hs => h.d k hs hr⟩
theorem XSt.add (h : XSt B w q m S R M H L) (hB : B ≤ w.heap.size) (hk : Kept S w w') (ht : Chn (M + 1) w' (Snc S w w') q H') : XSt B w' q m (Snc S w w') R (M + 1) H' L :=
  ⟨h.s.snc hB hk ht, fun k hr => ⟨(h.r k hr).1, Nat.lt_of_lt_of_le (h.r k hr).2 hk.size⟩, fun k hs hr => hs.elim (fun hs => h.d k hs hr) fun hs => Nat.lt_irrefl _ (Nat.lt_of_lt_of_le (h.r k hr).2 hs.1), h.f.kept hk fun k _ hr hs => h.d k hs hr⟩
theorem XSt.ref (h : XSt B w q m S R M H L) (hB : B ≤ w.heap.size) (hk : Kept R w w') (hf : CR (Snc R w w') w' m L') : XSt B w' q m S (Snc R w w') M H L' :=
  ⟨h.s.far hk h.d, fun k hr => hr.elim (fun hr => ⟨(h.r k hr).1, Nat.lt_of_lt_of_le (h.r k hr).2 hk.size⟩) fun hr => ⟨Nat.le_trans hB hr.1, hr.2⟩, fun k hs hr => hr.elim (h.d k hs) fun hr => Nat.lt_irrefl _ (Nat.lt_of_lt_of_le (h.s.s k hs).2 hr.1), hf⟩
theorem XSt.more (h : XSt B w q m S R M H L) : XSt B w q m S R (M + 1) H L := ⟨⟨h.s.s, h.s.t.more (Nat.le_succ _)⟩, h.r, h.d, h.f⟩
theorem XSt.belowS (h : XSt B w q m S R M H L) (hB : B ≤ w.heap.size) (hk : Kept S w w') : Below B w w' := h.s.below hB hk
theorem XSt.belowR (h : XSt B w q m S R M H L) (hB : B ≤ w.heap.size) (hk : Kept R w w') : Below B w w' := hk.below hB fun k hr => (h.r k hr).1
theorem XOb.lt (h : XOb w S R b o) : b < w.heap.size := (Array.getElem?_eq_some_iff.1 h.1).1
theorem XOb.next (h : XOb w S R b o) (hb : Below w.heap.size w w') : XOb w' S R b o := ⟨(hb.block b h.lt).trans h.1, h.2⟩
theorem XOb.same (h : XOb w S R b o) (hk : Kept S w w') : XOb w' S R b o := ⟨(hk.block b h.lt h.2.1).trans h.1, h.2⟩
theorem XOb.add (h : XOb w S R b o) (hk : Kept S w w') : XOb w' (Snc S w w') R b o := ⟨(hk.block b h.lt h.2.1).trans h.1, fun hs => hs.elim h.2.1 fun hs => Nat.lt_irrefl _ (Nat.lt_of_lt_of_le h.lt hs.1), h.2.2⟩
theorem XOb.ref (h : XOb w S R b o) (hk : Kept R w w') : XOb w' S (Snc R w w') b o := ⟨(hk.block b h.lt h.2.2).trans h.1, h.2.1, fun hr => hr.elim h.2.2 fun hr => Nat.lt_irrefl _ (Nat.lt_of_lt_of_le h.lt hr.1)⟩
end
theorem four_cells_at {w : World} {g : Nat} {a b c d : Value} {t : TypeId} (hg : w.heap[g]? = some (.cells #[a, b, c, d] t (0, 0))) : w.cell? ⟨g, 0, none⟩ = some a ∧ w.cell? ⟨g, 1, none⟩ = some b ∧ w.cell? ⟨g, 2, none⟩ = some c ∧ w.cell? ⟨g, 3, none⟩ = some d :=
  ⟨cell_of_row _ _ 0 _ _ _ hg, cell_of_row _ _ 1 _ _ _ hg, cell_of_row _ _ 2 _ _ _ hg, cell_of_row _ _ 3 _ _ _ hg⟩
/-- The items l of the reference lie in block g. -/
def EntAt (w : World) (g : Nat) (X : List Ch.Ent) : Prop := ∀ i, i < X.length → w.cell? ⟨g, i * 3, none⟩ = some (.int .i64 (Ch.ge X i).seq) ∧ w.cell? ⟨g, i * 3 + 1, none⟩ = some (.int .i64 (Ch.ge X i).off) ∧ w.cell? ⟨g, i * 3 + 2, none⟩ = some (.string (Ch.ge X i).k)
theorem EntAt.of {w : World} {lo B g : Nat} {X : List Ch.Ent} (h : Arr entS w lo B (some ⟨g, 0, none⟩) X) : EntAt w g X := fun i hi => ents_at h i hi _ _ _ rfl
theorem EntAt.kept {T : Nat → Prop} {w w' : World} {g : Nat} {X : List Ch.Ent} (h : EntAt w g X) (hk : Kept T w w') (hg : ¬ T g) : EntAt w' g X := fun i hi => by
  obtain ⟨h1, h2, h3⟩ := h i hi
  have hlt := World.block_lt_of_cell? w _ h1
  have e := hk.block g hlt hg
  exact ⟨(World.cell?_of_block e).trans h1, (World.cell?_of_block e).trans h2, (World.cell?_of_block e).trans h3⟩
/-- A row of the call's own: the slice, and where its cells lie. -/
theorem arow_at {α : Type} {Sh : Shape α} {t : TypeId} {w : World} {base n : Nat} {v : Value} {l : List α} (h : ARow Sh t w base v n l) : ∃ A c, v = .slice A n c ∧ SlIs A n c ∧ Arr Sh w base w.heap.size A l ∧ (A = none ∨ ∃ g, A = some ⟨g, 0, none⟩ ∧ base ≤ g ∧ g < w.heap.size) := by
  obtain ⟨A, c, rfl, h1, h2⟩ := h.open_
  refine ⟨A, c, rfl, h1, h2, ?_⟩
  rcases h.2 with ⟨e, -⟩ | ⟨g, cap, cur, e, hb, hg, -⟩
  · injection e with e1; exact .inl e1
  · injection e with e1; exact .inr ⟨g, e1, hb, (Array.getElem?_eq_some_iff.1 hg).1⟩
/-- What is left when the first j items of X have been removed. -/
def Left (L X : List Ch.Ent) (j : Nat) (L' : List Ch.Ent) : Prop := Ch.Srt L' ∧ L'.length ≤ L.length ∧ ∀ p, p ∈ L' ↔ p ∈ L ∧ ∀ i, i < j → ¬ (p.seq = (Ch.ge X i).seq ∧ p.off = (Ch.ge X i).off)
theorem Left.first {L X : List Ch.Ent} (h : Ch.Srt L) : Left L X 0 L := ⟨h, Nat.le_refl _, fun _ => ⟨fun h => ⟨h, fun _ hi => absurd hi (Nat.not_lt_zero _)⟩, fun h => h.1⟩⟩
theorem Left.step {L X L1 L2 : List Ch.Ent} {j : Nat} (h : Left L X j L1) (hS : Ch.Srt L2) (hl : L2.length ≤ L1.length) (hm : ∀ p, p ∈ L2 ↔ p ∈ L1 ∧ ¬ (p.seq = (Ch.ge X j).seq ∧ p.off = (Ch.ge X j).off)) : Left L X (j + 1) L2 := by
  refine ⟨hS, Nat.le_trans hl h.2.1, fun p => ?_⟩
  rw [hm p, h.2.2 p]
  constructor
  · rintro ⟨⟨h1, h2⟩, h3⟩
    refine ⟨h1, fun i hi => ?_⟩
    rcases Nat.lt_or_ge i j with h4 | h4
    · exact h2 i h4
    · obtain rfl : i = j := by omega
      exact h3
  · rintro ⟨h1, h2⟩
    exact ⟨⟨h1, fun i hi => h2 i (Nat.lt_succ_of_lt hi)⟩, h2 j (Nat.lt_succ_self _)⟩
theorem Left.last {L L' : List Ch.Ent} {s : Int} {j : Nat} (h : Left L (Ch.fl L s) j L') (hj : j = (Ch.fl L s).length) : ∀ p, p ∈ L' ↔ p ∈ L ∧ p.seq ≠ s := fun p => by
  subst hj
  rw [h.2.2 p]
  constructor
  · rintro ⟨h1, h2⟩
    refine ⟨h1, fun e => ?_⟩
    have hm : p ∈ Ch.fl L s := List.mem_filter.2 ⟨h1, decide_eq_true e⟩
    generalize Ch.fl L s = X at h2 hm
    obtain ⟨i, hi, e2⟩ := List.getElem_of_mem hm
    have := h2 i hi
    rw [Ch.ge_in hi, e2] at this
    exact this ⟨rfl, rfl⟩
  · rintro ⟨h1, h2⟩
    refine ⟨h1, fun i hi e => ?_⟩
    have hall : ∀ x ∈ Ch.fl L s, x.seq = s := fun x hx => of_decide_eq_true (List.mem_filter.1 hx).2
    generalize Ch.fl L s = X at hall e hi
    have := hall _ (List.getElem_mem hi)
    rw [Ch.ge_in hi] at e
    exact h2 (e.1.trans this)
end Go.Proofs.Ytlhjofcpcccdpaa
