/-
  The reference's list of keys with their expiries: its box; parts of what it reads.
-/
import Derived.Test.YtkhmimdigdjajaaExAwake
import Derived.Test.YtkhmimdigdjajaaHold
import Derived.Test.YtkhmimdigdjajaaRowApp
set_option maxRecDepth 100000
namespace Go.Proofs.Ytkhmimdigdjajaa
open Go.RowKit Go.Maps
def onS : Shape Ex.On := ⟨fun x => [.string x.k, .int .i64 x.r], Ex.On0, 2, fun _ => rfl, by decide, fun p u hu => by
  simp only [List.mem_cons, List.not_mem_nil, or_false] at hu
  rcases hu with rfl | rfl <;> rfl⟩
theorem info_on : (Try.prog.info? 39).map (fun i => (i.zero, i.size, i.bytes)) = some (some (.agg #[.string ⟨#[]⟩, .int .i64 0]), onS.m, 24) := by kernel_rfl
/-- Values that lie from a cell of a block on. -/
def FlAt (w : World) (g o : Nat) (xs : List Value) : Prop := ∀ j u, xs[j]? = some u → w.cell? ⟨g, o + j, none⟩ = some u
theorem FlAt.at_ {w : World} {g o : Nat} {L : List Ex.On} (h : FlAt w g o (onS.flat L)) (i : Nat) (hi : i < L.length) (k : ByteArray) (r : Int) (e : L.getD i Ex.On0 = ⟨k, r⟩) : w.cell? ⟨g, o + i * 2, none⟩ = some (.string k) ∧ w.cell? ⟨g, o + i * 2 + 1, none⟩ = some (.int .i64 r) := by
  have key : ∀ j v, j < 2 → ([Value.string k, .int .i64 r] : List Value)[j]? = some v → w.cell? ⟨g, o + i * 2 + j, none⟩ = some v := fun j v hj hv => by
    rw [Nat.add_assoc]
    refine h (i * 2 + j) v ?_
    have := onS.flat_at L i j hi hj
    rw [show i * onS.m = i * 2 from rfl] at this
    rw [this, show L.getD i onS.z = ⟨k, r⟩ from e]
    exact hv
  exact ⟨key 0 _ (by decide) rfl, key 1 _ (by decide) rfl⟩
theorem FlAt.front {w : World} {g o : Nat} {L : List Ex.On} (h : FlAt w g o (onS.flat L)) (i : Nat) : FlAt w g o (onS.flat (L.take i)) := fun j u hu => h j u (by
  rw [← List.take_append_drop i L, onS.flat_append, List.getElem?_append_left (List.getElem?_eq_some_iff.1 hu).1]; exact hu)
theorem FlAt.back {w : World} {g o : Nat} {L : List Ex.On} (h : FlAt w g o (onS.flat L)) (i : Nat) (hi : i ≤ L.length) : FlAt w g (o + i * 2) (onS.flat (L.drop i)) := fun j u hu => by
  have hl : (onS.flat (L.take i)).length = i * 2 := by rw [onS.flat_length, List.length_take, Nat.min_eq_left hi]; rfl
  rw [Nat.add_assoc]
  refine h (i * 2 + j) u ?_
  rw [← List.take_append_drop i L, onS.flat_append, List.getElem?_append_right (by omega), hl, Nat.add_sub_cancel_left]
  exact hu
theorem FlAt.kept {T : Nat → Prop} {w w' : World} {g o : Nat} {xs : List Value} (h : FlAt w g o xs) (hk : Kept T w w') (hg : g < w.heap.size) (hT : ¬ T g) : FlAt w' g o xs := fun j u hu => (World.cell?_of_block (hk.block g hg hT)).trans (h j u hu)
theorem FlAt.src {w : World} {g o : Nat} {xs : List Value} (h : FlAt w g o xs) : ∀ ad, some (⟨g, o, none⟩ : Addr) = some ad → ∀ j u, xs[j]? = some u → w.cell? (ad.add j) = some u := fun ad e j u hu => by
  injection e with e
  subst e
  rw [arr_flat]
  exact h j u hu
/-- The source of 'append(.., l[i:]...)', whose address the walk parts. -/
theorem FlAt.srcIf {w : World} {g o c n : Nat} {L : List Ex.On} (h : FlAt w g o (onS.flat L)) (i : Nat) (hi : i ≤ L.length) (hn : L.length = n) (hc : n ≤ c) : ∀ ad, (if c = i then some (⟨g, o, none⟩ : Addr) else some ⟨g, o + i * 2, none⟩) = some ad → ∀ j u, (onS.flat (L.drop i))[j]? = some u → w.cell? (ad.add j) = some u := fun ad e j u hu => by
  split at e
  · rw [List.drop_eq_nil_of_le (by omega)] at hu
    cases hu
  · exact (h.back i hi).src ad e j u hu
theorem on_take {L : List Ex.On} {i : Nat} (hi : i ≤ L.length) : (onS.flat (L.take i)).length = i * 2 := by rw [onS.flat_length, List.length_take, Nat.min_eq_left hi]; rfl
theorem on_drop {L : List Ex.On} {i n : Nat} (hn : L.length = n) : (onS.flat (L.drop i)).length = (n - i) * 2 := by rw [onS.flat_length, List.length_drop, hn]; rfl
/-- The reference's box: what it reads is L. -/
def QR (R : Nat → Prop) (w : World) (m : Nat) (L : List Ex.On) : Prop :=
  ∃ A c, R m ∧ w.heap[m]? = some (.cells #[.slice A L.length c] 28 (0, 0)) ∧ SlIs A L.length c ∧ (A = none ∨ ∃ g o, A = some ⟨g, o, none⟩ ∧ g < w.heap.size ∧ R g ∧ g ≠ m ∧ FlAt w g o (onS.flat L))
section
variable {R T : Nat → Prop} {w w' : World} {m : Nat} {L : List Ex.On}
theorem QR.kept (h : QR R w m L) (hk : Kept T w w') (hd : ∀ k, k < w.heap.size → R k → ¬ T k) : QR R w' m L := by
  obtain ⟨A, c, h1, h2, h3, h4⟩ := h
  have hl := (Array.getElem?_eq_some_iff.1 h2).1
  refine ⟨A, c, h1, (hk.block m hl (hd m hl h1)).trans h2, h3, ?_⟩
  rcases h4 with h4 | ⟨g, o, e, g1, g2, g3, g4⟩
  · exact .inl h4
  · exact .inr ⟨g, o, e, Nat.lt_of_lt_of_le g1 hk.size, g2, g3, g4.kept hk g1 (hd g g1 g2)⟩
theorem QR.next (h : QR R w m L) (hb : Below w.heap.size w w') : QR R w' m L := h.kept (Kept.of_new hb : Kept (fun _ => False) w w') fun _ _ _ e => e
theorem QR.mono (h : QR R w m L) (hs : ∀ k, k < w.heap.size → R k → T k) : QR T w m L := by
  obtain ⟨A, c, h1, h2, h3, h4⟩ := h
  refine ⟨A, c, hs m (Array.getElem?_eq_some_iff.1 h2).1 h1, h2, h3, ?_⟩
  rcases h4 with h4 | ⟨g, o, e, g1, g2, g3, g4⟩
  · exact .inl h4
  · exact .inr ⟨g, o, e, g1, hs g g1 g2, g3, g4⟩
theorem QR.lt (h : QR R w m L) : m < w.heap.size := by
  obtain ⟨A, c, h1, h2, -⟩ := h
  exact (Array.getElem?_eq_some_iff.1 h2).1
end
/-- The box with a new row. -/
theorem qr_new {R : Nat → Prop} {w w1 w4 : World} {m n z : Nat} {v v4 : Value} {xs : List Value} (hz : w1.heap.size = z) (hb1 : Below w.heap.size w w1) (hk : Kept (fun k => z ≤ k) w1 w4) (hR : R m) (hm0 : m < w.heap.size) (hm : w4.heap[m]? = some (.cells #[v] 28 (0, 0))) (hr : SRow (fun k => z ≤ k) 39 2 w4 v4 n xs) :
    Kept R w (w4.setCell ⟨m, 0, none⟩ v4) ∧ (∀ L' : List Ex.On, xs = onS.flat L' → QR (Snc R w (w4.setCell ⟨m, 0, none⟩ v4)) (w4.setCell ⟨m, 0, none⟩ v4) m L') := by
  subst hz
  have h1 : Kept R w w4 := (Kept.of_new hb1 : Kept R w w1).trans' hk fun i hi hlt => by have := hb1.size; omega
  refine ⟨h1.trans (Kept.setCell w4 ⟨m, 0, none⟩ v4 hR), fun L' e => ?_⟩
  subst e
  have hn : L'.length = n := hr.len (Sh := onS)
  obtain ⟨A, c, rfl, hsl⟩ := hr.open_
  refine ⟨A, c, .inl hR, by rw [hn]; exact one_set hm _, by rw [hn]; exact hsl, ?_⟩
  rcases hr.1.2 with ⟨e, -⟩ | ⟨g, cap, cur, e, -, hg, -⟩
  · injection e with e1
    exact .inl e1
  · injection e with e1 e2 e3
    subst e1; subst e3
    have hgl := (Array.getElem?_eq_some_iff.1 hg).1
    have hzg : w1.heap.size ≤ g := hr.2 g rfl
    have hgm : g ≠ m := by have := hb1.size; omega
    have hsz : (w4.setCell ⟨m, 0, none⟩ (.slice (some ⟨g, 0, none⟩) n c)).heap.size = w4.heap.size := by simp [World.setCell]
    refine .inr ⟨g, 0, rfl, by rw [hsz]; exact hgl, .inr ⟨Nat.le_trans hb1.size hzg, by rw [hsz]; exact hgl⟩, hgm, ?_⟩
    have h3 : FlAt w4 g 0 (onS.flat L') := fun j u hu => by
      have := hr.1.cells (g := g) rfl j u hu
      rwa [arr_flat] at this
    exact h3.kept (Kept.setCell (S := fun k => k = m) w4 ⟨m, 0, none⟩ _ rfl) hgl hgm
/-! The list's own words. -/
theorem Ex.rem_at {L : List Ex.On} {i : Nat} {k : ByteArray} {r : Int} (hK : Ex.Ks L) (hi : i < L.length) (e : L.getD i Ex.On0 = ⟨k, r⟩) : Ex.rem L k = L.take i ++ L.drop (i + 1) := by
  have e1 : L[i] = ⟨k, r⟩ := by rw [← e, List.getD_eq_getElem?_getD, List.getElem?_eq_getElem hi]; rfl
  have hL : L = L.take i ++ (⟨k, r⟩ :: L.drop (i + 1)) := by rw [← e1, ← List.drop_eq_getElem_cons hi, List.take_append_drop]
  generalize L.take i = a at *
  generalize L.drop (i + 1) = b at *
  subst hL
  unfold Ex.Ks at hK
  rw [List.map_append, List.map_cons, List.nodup_append, List.nodup_cons] at hK
  obtain ⟨-, ⟨h1, -⟩, h2⟩ := hK
  have k1 : a.filter (fun x => decide (x.k ≠ k)) = a := List.filter_eq_self.2 fun x hx => decide_eq_true fun e2 => h2 x.k (List.mem_map.2 ⟨x, hx, rfl⟩) k List.mem_cons_self e2
  have k2 : b.filter (fun x => decide (x.k ≠ k)) = b := List.filter_eq_self.2 fun x hx => decide_eq_true fun e2 => h1 (List.mem_map.2 ⟨x, hx, e2⟩)
  unfold Ex.rem
  rw [List.filter_append, List.filter_cons_of_neg (by simp), k1, k2]
theorem Ex.ins_at {x : Ex.On} : ∀ {L : List Ex.On} {i : Nat}, i ≤ L.length → (∀ j, j < i → Ex.bf (L.getD j Ex.On0) x = true) → (i < L.length → Ex.bf (L.getD i Ex.On0) x = false) → Ex.ins x L = L.take i ++ (x :: L.drop i)
  | [], i, hi, _, _ => by
    obtain rfl : i = 0 := by simpa using hi
    rfl
  | y :: l, 0, _, _, h => by
    have := h (Nat.succ_pos _)
    unfold Ex.ins
    rw [if_neg (by rw [show Ex.bf y x = false from this]; decide)]
    rfl
  | y :: l, i + 1, hi, h1, h2 => by
    have h0 := h1 0 (Nat.succ_pos _)
    unfold Ex.ins
    rw [if_pos (show Ex.bf y x = true from h0)]
    have ih := Ex.ins_at (x := x) (L := l) (i := i) (by simpa using hi) (fun j hj => h1 (j + 1) (by omega)) (fun h => h2 (by simpa using h))
    rw [ih]
    rfl
end Go.Proofs.Ytkhmimdigdjajaa
