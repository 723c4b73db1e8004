/-
  The state of the statement on calls beside a list of pairs.
-/
import Derived.Test.YtflnjippknpflaaTbRefSet
import Derived.Test.YtflnjippknpflaaTbNil
set_option maxRecDepth 100000
namespace Go.Proofs.Ytflnjippknpflaa
open Go.RowKit
/-- A table and a list of pairs side by side, in blocks of their own. -/
structure SSt (B : Nat) (w : World) (q m : Nat) (S R : Nat → Prop) (H : ByteArray → Tb.En → Prop) (c wk : Nat) (L : List Tb.Pr) : Prop where
  s : ∀ k, S k → B ≤ k ∧ k < w.heap.size
  r : ∀ k, R k → B ≤ k ∧ k < w.heap.size
  d : ∀ k, S k → ¬ R k
  t : Tab 121 w S q H c wk
  f : RT R w m L
/-- They hold the same. -/
structure SAg (H : ByteArray → Tb.En → Prop) (c : Nat) (L : List Tb.Pr) (i : Nat) : Prop where
  srt : Tb.Srt L
  mem : ∀ k e, (k, e) ∈ L ↔ H k e
  len : L.length = c
  le : c ≤ i
  small : ∀ k x, H k x → k.size ≤ 1048576
/-- A block of neither. -/
def Ob (w : World) (S R : Nat → Prop) (b : Nat) (o : Obj) : Prop := w.heap[b]? = some o ∧ ¬ S b ∧ ¬ R b
section
variable {B q m c wk c' wk' : Nat} {w w' : World} {S S' R : Nat → Prop} {H H' : ByteArray → Tb.En → Prop} {L L' : List Tb.Pr} {b : Nat} {o : Obj}
theorem SSt.next (h : SSt B w q m S R H c wk L) (hb : Below w.heap.size w w') : SSt B w' q m S R H c wk L :=
  ⟨fun k hk => ⟨(h.s k hk).1, Nat.lt_of_lt_of_le (h.s k hk).2 hb.size⟩, fun k hk => ⟨(h.r k hk).1, Nat.lt_of_lt_of_le (h.r k hk).2 hb.size⟩, h.d, h.t.next hb, h.f.next hb⟩
theorem SSt.tab (h : SSt B w q m S R H c wk L) (hn : Nx B S S' w w') (ht : Tab 121 w' S' q H' c' wk') : SSt B w' q m S' R H' c' wk' L :=
  ⟨hn.own, fun k hk => ⟨(h.r k hk).1, Nat.lt_of_lt_of_le (h.r k hk).2 hn.kept.size⟩, fun k hk hr => hn.rest k (h.r k hr).2 (fun hs => h.d k hs hr) hk, ht, h.f.kept hn.kept fun k _ hr hs => h.d k hs hr⟩
theorem SSt.ref (h : SSt B w q m S R H c wk L) (hB : B ≤ w.heap.size) (hk : Kept R w w') (hf : RT (Since R w w') w' m L') : SSt B w' q m S (Since R w w') H c wk L' :=
  ⟨fun k hs => ⟨(h.s k hs).1, Nat.lt_of_lt_of_le (h.s k hs).2 hk.size⟩, fun k hr => hr.elim (fun hr => ⟨(h.r k hr).1, Nat.lt_of_lt_of_le (h.r k hr).2 hk.size⟩) fun hr => ⟨Nat.le_trans hB hr.1, hr.2⟩,
    fun k hs hr => hr.elim (h.d k hs) fun hr => Nat.lt_irrefl _ (Nat.lt_of_lt_of_le (h.s k hs).2 hr.1), h.t.kept hk fun k hs hr => h.d k hs hr, hf⟩
theorem SSt.below (h : SSt B w q m S R H c wk L) (hB : B ≤ w.heap.size) (hk : Kept R w w') : Below B w w' := hk.below hB fun k hr => (h.r k hr).1
theorem Ob.next (h : Ob w S R b o) (hb : Below w.heap.size w w') : Ob w' S R b o := ⟨(hb.block b (Array.getElem?_eq_some_iff.1 h.1).1).trans h.1, h.2⟩
theorem Ob.tab (h : Ob w S R b o) (hn : Nx B S S' w w') : Ob w' S' R b o := ⟨(hn.box h.1 h.2.1).1, (hn.box h.1 h.2.1).2, h.2.2⟩
theorem Ob.ref (h : Ob w S R b o) (hk : Kept R w w') : Ob w' S (Since R w w') b o :=
  ⟨(hk.block b (Array.getElem?_eq_some_iff.1 h.1).1 h.2.2).trans h.1, h.2.1, fun hr => hr.elim h.2.2 fun hr => Nat.lt_irrefl _ (Nat.lt_of_lt_of_le (Array.getElem?_eq_some_iff.1 h.1).1 hr.1)⟩
theorem SAg.set {i : Nat} {k : ByteArray} {x : Tb.En} (h : SAg H c L i) (hk : k.size ≤ 1048576) (hc : ((∃ y, H k y) ∧ c' = c) ∨ ((∀ y, ¬ H k y) ∧ c' = c + 1)) (hS : Tb.Srt L') (hl : ((∃ y, (k, y) ∈ L) ∧ L'.length = L.length) ∨ ((∀ y, (k, y) ∉ L) ∧ L'.length = L.length + 1))
    (hm : ∀ k' e', (k', e') ∈ L' ↔ (k = k' ∧ x = e') ∨ (k ≠ k' ∧ (k', e') ∈ L)) : SAg (fun k' e' => (k = k' ∧ x = e') ∨ (k ≠ k' ∧ H k' e')) c' L' (i + 1) := by
  have h1 := h.len
  have h2 := h.le
  refine ⟨hS, fun k' e' => (hm k' e').trans (or_congr Iff.rfl (and_congr Iff.rfl (h.mem k' e'))), ?_, ?_, ?_⟩
  · rcases hc with ⟨⟨y, hy⟩, e⟩ | ⟨hy, e⟩ <;> rcases hl with ⟨⟨z, hz⟩, e'⟩ | ⟨hz, e'⟩
    · omega
    · exact absurd ((h.mem k y).2 hy) (hz y)
    · exact absurd ((h.mem k z).1 hz) (hy z)
    · omega
  · rcases hc with ⟨_, e⟩ | ⟨_, e⟩ <;> omega
  · rintro k' y (⟨rfl, _⟩ | ⟨_, hy⟩)
    · exact hk
    · exact h.small k' y hy
theorem SAg.del {i : Nat} {k : ByteArray} {y z : Bool} (h : SAg H c L i) (hc : (y = true ∧ (∃ x, H k x) ∧ c' + 1 = c) ∨ (y = false ∧ (∀ x, ¬ H k x) ∧ c' = c)) (hS : Tb.Srt L') (hl : (z = true ∧ (∃ x, (k, x) ∈ L) ∧ L'.length + 1 = L.length) ∨ (z = false ∧ (∀ x, (k, x) ∉ L) ∧ L'.length = L.length))
    (hm : ∀ k' e', (k', e') ∈ L' ↔ (k ≠ k' ∧ (k', e') ∈ L)) : y = z ∧ SAg (fun k' e' => H k' e' ∧ k ≠ k') c' L' (i + 1) := by
  have h1 := h.len
  have h2 := h.le
  have key : y = z ∧ L'.length = c' ∧ c' ≤ i + 1 := by
    rcases hc with ⟨rfl, ⟨x, hx⟩, e⟩ | ⟨rfl, hx, e⟩ <;> rcases hl with ⟨rfl, ⟨x', hx'⟩, e'⟩ | ⟨rfl, hx', e'⟩
    · exact ⟨rfl, by omega, by omega⟩
    · exact absurd ((h.mem k x).2 hx) (hx' x)
    · exact absurd ((h.mem k x').1 hx') (hx x')
    · exact ⟨rfl, by omega, by omega⟩
  exact ⟨key.1, hS, fun k' e' => ((hm k' e').trans (and_congr Iff.rfl (h.mem k' e'))).trans And.comm, key.2.1, key.2.2, fun k' x hx => h.small k' x hx.1⟩
theorem SAg.more {i : Nat} (h : SAg H c L i) : SAg H c L (i + 1) := ⟨h.srt, h.mem, h.len, Nat.le_succ_of_le h.le, h.small⟩
theorem SAg.same {i : Nat} {k : ByteArray} {a b : Tb.En} {y z : Bool} (h : SAg H c L i) (hone : ∀ x x', H k x → H k x' → x = x') (h1 : (y = true ∧ H k a) ∨ (y = false ∧ a = Tb.En0 ∧ ∀ x, ¬ H k x)) (h2 : (z = true ∧ (k, b) ∈ L) ∨ (z = false ∧ b = Tb.En0 ∧ ∀ x, (k, x) ∉ L)) : y = z ∧ a = b := by
  rcases h1 with ⟨rfl, hx⟩ | ⟨rfl, rfl, hx⟩ <;> rcases h2 with ⟨rfl, hx'⟩ | ⟨rfl, rfl, hx'⟩
  · exact ⟨rfl, hone _ _ hx ((h.mem k b).1 hx')⟩
  · exact absurd ((h.mem k a).2 hx) (hx' a)
  · exact absurd ((h.mem k b).1 hx') (hx b)
  · exact ⟨rfl, rfl⟩
end
theorem seven_cells {w : World} {g : Nat} {a b c d e f h : Value} {t : TypeId} (hg : w.heap[g]? = some (.cells #[a, b, c, d, e, f, h] t (0, 0))) :
    w.cell? ⟨g, 0, none⟩ = some a ∧ w.cell? ⟨g, 1, none⟩ = some b ∧ w.cell? ⟨g, 2, none⟩ = some c ∧ w.cell? ⟨g, 3, none⟩ = some d ∧ w.cell? ⟨g, 4, none⟩ = some e ∧ w.cell? ⟨g, 5, none⟩ = some f ∧ w.cell? ⟨g, 6, none⟩ = some h :=
  ⟨cell_of_row _ _ 0 _ _ _ hg, cell_of_row _ _ 1 _ _ _ hg, cell_of_row _ _ 2 _ _ _ hg, cell_of_row _ _ 3 _ _ _ hg, cell_of_row _ _ 4 _ _ _ hg, cell_of_row _ _ 5 _ _ _ hg, cell_of_row _ _ 6 _ _ _ hg⟩
theorem pairs_same {L L' : List Tb.Pr} (h : Tb.Srt L) (h' : Tb.Srt L') (hm : ∀ k e, (k, e) ∈ L ↔ (k, e) ∈ L') : L = L' := Tb.srt_eq h h' (Tb.perm_of (Tb.srt_dif h) (Tb.srt_dif h') hm)
end Go.Proofs.Ytflnjippknpflaa
