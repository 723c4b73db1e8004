/-
  Rows of numbers and of frames: one more thing, a whole row behind another.
-/
import Derived.Test.YtjmhnbohojdodaaDoorPkPut
import Derived.Test.YtjmhnbohojdodaaDoorGmFree
set_option maxRecDepth 100000
namespace Go.Proofs.YtjmhnbohojdodaaDoor
open Go.RowKit
theorem SRow.cells {S : Nat → Prop} {t : TypeId} {z n m c : Nat} {w : World} {A : Option Addr} {xs : List Value} (h : SRow S t z w (.slice A m c) n xs) : ∀ ad, A = some ad → ∀ j u, xs[j]? = some u → w.cell? (ad.add j) = some u := fun ad e j u hu => by
  rcases h.1.2 with ⟨e1, -⟩ | ⟨g, cap, cur, e1, -⟩
  · injection e1 with e1; rw [e] at e1; cases e1
  · injection e1 with e1
    rw [e] at e1
    injection e1 with e1
    subst e1
    exact h.1.cells (g := g) (by rw [e]; rfl) j u hu
theorem SRow.len {α : Type} {Sh : Shape α} {S : Nat → Prop} {t : TypeId} {n : Nat} {w : World} {v : Value} {l : List α} (h : SRow S t Sh.m w v n (Sh.flat l)) : l.length = n := ARow.length h.1
theorem Shape.flat_one' {α : Type} (Sh : Shape α) (l : List α) : ∀ u ∈ Sh.flat l, u.oneCell' = true := fun u hu => by
  unfold Shape.flat at hu
  obtain ⟨a, -, h⟩ := List.mem_flatMap.1 hu
  exact Sh.one a u h
section
variable {α : Type} {Sh : Shape α} {P : Program} {w : World} {S : Nat → Prop} {o : Oper} {a : Act} {K : Act → World → Prop} {Q : Exit → Act → World → Prop} {e : TypeId} {zv : Value} {bytes : Nat}
/-- 'append(s, p)': p lies in a box that was made for it. -/
theorem op_append_one (s x : Operand) (t : TypeId) (ho : o.op = .call { callee := .builtin .append, args := #[s, x], argTypes := #[t, t] })
    (ht : P.underlying t = some (.slice e)) (hi : (P.info? e).map (fun i => (i.zero, i.size, i.bytes)) = some (some zv, Sh.m, bytes)) (hzs : zv.cells.size = Sh.m)
    (v : Value) (n : Nat) (l : List α) (hs : a.eval s = v) (hown : SRow S e Sh.m w v n (Sh.flat l)) (g c : Nat) (p : α) (hx : a.eval x = .slice (some ⟨g, 0, none⟩) 1 c) (hg : w.heap[g]? = some (.cells (Sh.cs p).toArray e (0, 0))) (h63 : n ≤ 1000000) (hbytes : (n + 1) * bytes ≤ 140737488355328)
    (h : ∀ v' w', SRow (Grow S w) e Sh.m w' v' (n + 1) (Sh.flat (l ++ [p])) → Kept S w w' → K (a.put o.dst v') w') : o.wp P a w K Q := by
  refine op_append_srow s x t ho e zv Sh.m bytes ht hi hzs Sh.pos v n (Sh.flat l) hs hown (some ⟨g, 0, none⟩) 1 c (Sh.cs p) hx (fun e => by cases e) (by rw [Sh.len, Nat.one_mul]) (fun ad e j u hu => ?_) (Sh.one p) (by unfold maxLen; omega) hbytes fun v' w' h1 h2 => h v' w' (by rw [Sh.flat_append, Sh.flat_one]; exact h1) h2
  injection e with e
  subst e
  rw [arr_flat, Nat.zero_add, cell_of_row _ _ j _ _ _ hg, List.getElem?_toArray]; exact hu
/-- 'append(s, x...)': x a row. -/
theorem op_append_all {U : Nat → Prop} (s x : Operand) (t : TypeId) (ho : o.op = .call { callee := .builtin .append, args := #[s, x], argTypes := #[t, t] })
    (ht : P.underlying t = some (.slice e)) (hi : (P.info? e).map (fun i => (i.zero, i.size, i.bytes)) = some (some zv, Sh.m, bytes)) (hzs : zv.cells.size = Sh.m)
    (v : Value) (n : Nat) (l : List α) (hs : a.eval s = v) (hown : SRow S e Sh.m w v n (Sh.flat l)) (u : Value) (m : Nat) (p : List α) (hx : a.eval x = u) (hu : SRow U e Sh.m w u m (Sh.flat p)) (h63 : n + m ≤ 1000000) (hbytes : (n + m) * bytes ≤ 140737488355328)
    (h : ∀ v' w', SRow (Grow S w) e Sh.m w' v' (n + m) (Sh.flat (l ++ p)) → Kept S w w' → K (a.put o.dst v') w') : o.wp P a w K Q := by
  obtain ⟨A, c, rfl, hsl⟩ := hu.open_
  exact op_append_srow s x t ho e zv Sh.m bytes ht hi hzs Sh.pos v n (Sh.flat l) hs hown A m c (Sh.flat p) hx (fun e => ⟨(hsl.1 e).2, (hsl.1 e).1⟩) (by rw [Sh.flat_length, hu.len]) hu.cells (Sh.flat_one' p) (by unfold maxLen; omega) hbytes fun v' w' h1 h2 => h v' w' (by rw [Sh.flat_append]; exact h1) h2
end
/-- A slice's value. -/
def slS : Shape (Option Addr × Nat × Nat) := ⟨fun a => [.slice a.1 a.2.1 a.2.2], (none, 0, 0), 1, fun _ => rfl, by decide, fun a u hu => by
  simp only [List.mem_cons, List.not_mem_nil, or_false] at hu
  subst hu; rfl⟩
theorem info_sl : (Tryd.prog.info? 34).map (fun i => (i.zero, i.size, i.bytes)) = some (some (.slice none 0 0), 1, 24) := by kernel_rfl
/-- A row of frames: the slices in a block of S, each frame's bytes in a block of U. -/
def FrRow (w : World) (S U : Nat → Prop) (v : Value) (n : Nat) (fs : List (List Nat)) : Prop :=
  ∃ sl : List (Option Addr × Nat × Nat), SRow S 34 1 w v n (slS.flat sl) ∧ fs.length = n ∧ ∀ i, i < n → ∃ gf cf, sl.getD i (none, 0, 0) = (some ⟨gf, 0, none⟩, 64, cf) ∧ SRow U 5 1 w (.slice (some ⟨gf, 0, none⟩) 64 cf) 64 (vals (fs.getD i []))
section
variable {w w' : World} {S U S' U' T : Nat → Prop} {v v' : Value} {n m : Nat} {fs xs : List (List Nat)}
theorem FrRow.nil : FrRow w S U (.slice none 0 0) 0 [] := ⟨[], SRow.nil, rfl, fun _ h => absurd h (Nat.not_lt_zero _)⟩
theorem FrRow.kept (h : FrRow w S U v n fs) (hk : Kept T w w') (h1 : ∀ k, k < w.heap.size → S k → ¬ T k) (h2 : ∀ k, k < w.heap.size → U k → ¬ T k) : FrRow w' S U v n fs := by
  obtain ⟨sl, a1, a2, a3⟩ := h
  refine ⟨sl, a1.kept hk h1, a2, fun i hi => ?_⟩
  obtain ⟨gf, cf, b1, b2⟩ := a3 i hi
  exact ⟨gf, cf, b1, b2.kept hk h2⟩
theorem FrRow.mono (h : FrRow w S U v n fs) (h1 : ∀ k, k < w.heap.size → S k → S' k) (h2 : ∀ k, k < w.heap.size → U k → U' k) : FrRow w S' U' v n fs := by
  obtain ⟨sl, a1, a2, a3⟩ := h
  refine ⟨sl, a1.mono h1, a2, fun i hi => ?_⟩
  obtain ⟨gf, cf, b1, b2⟩ := a3 i hi
  exact ⟨gf, cf, b1, b2.mono h2⟩
theorem FrRow.new (h : FrRow w S U v n fs) (hb : Below w.heap.size w w') : FrRow w' S U v n fs := h.kept (Kept.of_new (S := fun _ => False) hb) (fun _ _ _ e => e) (fun _ _ _ e => e)
theorem FrRow.len (h : FrRow w S U v n fs) : fs.length = n := by obtain ⟨sl, -, e, -⟩ := h; exact e
theorem FrRow.open_ (h : FrRow w S U v n fs) : ∃ A c, v = .slice A n c ∧ SlIs A n c := by obtain ⟨sl, h1, -⟩ := h; exact h1.open_
theorem getD_left {α : Type} (a b : List α) (z : α) {i : Nat} (h : i < a.length) : (a ++ b).getD i z = a.getD i z := by
  rw [List.getD_eq_getElem?_getD, List.getElem?_append_left h, ← List.getD_eq_getElem?_getD]
theorem getD_right {α : Type} (a b : List α) (z : α) {i : Nat} (h : a.length ≤ i) : (a ++ b).getD i z = b.getD (i - a.length) z := by
  rw [List.getD_eq_getElem?_getD, List.getElem?_append_right h, ← List.getD_eq_getElem?_getD]
/-- One row of frames behind another, the bytes where they were. -/
theorem FrRow.both {sl sx : List (Option Addr × Nat × Nat)} (hr : SRow S' 34 1 w' v' (n + m) (slS.flat (sl ++ sx))) (hl : fs.length = n) (hx : xs.length = m) (hsl : sl.length = n)
    (h1 : ∀ i, i < n → ∃ gf cf, sl.getD i (none, 0, 0) = (some ⟨gf, 0, none⟩, 64, cf) ∧ SRow U' 5 1 w' (.slice (some ⟨gf, 0, none⟩) 64 cf) 64 (vals (fs.getD i [])))
    (h2 : ∀ i, i < m → ∃ gf cf, sx.getD i (none, 0, 0) = (some ⟨gf, 0, none⟩, 64, cf) ∧ SRow U' 5 1 w' (.slice (some ⟨gf, 0, none⟩) 64 cf) 64 (vals (xs.getD i []))) : FrRow w' S' U' v' (n + m) (fs ++ xs) := by
  refine ⟨_, hr, by rw [List.length_append, hl, hx], fun i hi => ?_⟩
  rcases Nat.lt_or_ge i n with h | h
  · obtain ⟨gf, cf, b1, b2⟩ := h1 i h
    exact ⟨gf, cf, by rw [getD_left _ _ _ (by omega)]; exact b1, by rw [getD_left _ _ _ (by omega)]; exact b2⟩
  · obtain ⟨gf, cf, b1, b2⟩ := h2 (i - n) (by omega)
    refine ⟨gf, cf, ?_, ?_⟩
    · rw [getD_right _ _ _ (by omega), hsl]; exact b1
    · rw [getD_right _ _ _ (by omega), hl]; exact b2
end
/-- While frames are taken: the sectors' row (1), the frames' row (2), the frames' bytes (3), the packer. -/
structure Tk (T : TypeId) (w : World) (S : Nat → Prop) (g : Nat) (a b c d slot seq : Int) (st : List Nat) (k : Nat) (wr : World) (col : Nat → Nat) (js jf jp : Nat) (sv fv : Value) : Prop where
  colr : Col w.heap.size wr col
  up : w.heap.size ≤ wr.heap.size
  secs : SRow (fun i => col i = 1) 3 1 wr sv js (intS.flat (Pk.secs ⟨a, b, c, d⟩ slot k js))
  frs : FrRow wr (fun i => col i = 2) (fun i => col i = 3) fv jf (Pk.frames ⟨a, b, c, d⟩ slot seq st k jf)
  pk : PkIs T wr (fun i => S i ∧ i < w.heap.size) g a b c d slot seq st jp
  kept : Kept (fun i => S i ∧ i < w.heap.size) w wr
section
variable {T : TypeId} {w wr wr' : World} {S : Nat → Prop} {g : Nat} {a b c d slot seq : Int} {st : List Nat} {k : Nat} {col : Nat → Nat} {js jf jp : Nat} {sv fv : Value}
theorem Tk.start (h : PkIs T w S g a b c d slot seq st k) : Tk T w S g a b c d slot seq st k w (fun _ => 0) 0 0 k (.slice none 0 0) (.slice none 0 0) :=
  ⟨Col.none _ _, Nat.le_refl _, SRow.nil, FrRow.nil, h.mono fun _ hi hs => ⟨hs, hi⟩, Kept.refl _ _⟩
theorem Tk.new (h : Tk T w S g a b c d slot seq st k wr col js jf jp sv fv) (hb : Below wr.heap.size wr wr') : Tk T w S g a b c d slot seq st k wr' col js jf jp sv fv :=
  ⟨h.colr.next hb.size, Nat.le_trans h.up hb.size, h.secs.new hb, h.frs.new hb, h.pk.new hb, h.kept.trans (Kept.of_new hb)⟩
theorem Tk.far (h : Tk T w S g a b c d slot seq st k wr col js jf jp sv fv) {i : Nat} (hi : i ≠ 0) : ∀ b, b < wr.heap.size → (S b ∧ b < w.heap.size) → ¬ col b = i := fun b _ hs e => by
  have := h.colr.2 b (by omega)
  omega
theorem Tk.sec (h : Tk T w S g a b c d slot seq st k wr col js jf jp sv fv) {sv' : Value} (hr : SRow (Grow (fun i => col i = 1) wr) 3 1 wr' sv' (js + 1) (intS.flat (Pk.secs ⟨a, b, c, d⟩ slot k (js + 1)))) (hk : Kept (fun i => col i = 1) wr wr') :
    Tk T w S g a b c d slot seq st k wr' (paint col wr wr' 1) (js + 1) jf jp sv' fv where
  colr := h.colr.paint h.up hk.size 1
  up := Nat.le_trans h.up hk.size
  secs := hr.mono fun i hi hs => paint_self hi hs
  frs := (h.frs.kept hk (fun i _ e e' => by omega) (fun i _ e e' => by omega)).mono (fun i hi e => by
      unfold paint; split
      · have := h.colr.1 i (by omega); omega
      · exact e) (fun i hi e => by
      unfold paint; split
      · have := h.colr.1 i (by omega); omega
      · exact e)
  pk := h.pk.kept hk (h.far (by decide))
  kept := h.kept.trans' (hk.mono fun i _ e => e) (fun i e hi => by have := h.colr.2 i (by omega); omega)
/-- New blocks hold the bytes of frames to come. -/
theorem Tk.paint3 (h : Tk T w S g a b c d slot seq st k wr col js jf jp sv fv) (hb : Below wr.heap.size wr wr') : Tk T w S g a b c d slot seq st k wr' (paint col wr wr' 3) js jf jp sv fv where
  colr := h.colr.paint h.up hb.size 3
  up := Nat.le_trans h.up hb.size
  secs := (h.secs.mono fun _ hi e => paint_keep hi e).new hb
  frs := (h.frs.mono (fun _ hi e => paint_keep hi e) (fun _ hi e => paint_keep hi e)).new hb
  pk := h.pk.new hb
  kept := h.kept.trans (Kept.of_new hb)
theorem Tk.fr (h : Tk T w S g a b c d slot seq st k wr col js jf jp sv fv) {fv' : Value} {gf cf : Nat} {sl : List (Option Addr × Nat × Nat)} (hsl : SRow (fun i => col i = 2) 34 1 wr fv jf (slS.flat sl))
    (hs3 : ∀ i, i < jf → ∃ gf cf, sl.getD i (none, 0, 0) = (some ⟨gf, 0, none⟩, 64, cf) ∧ SRow (fun i => col i = 3) 5 1 wr (.slice (some ⟨gf, 0, none⟩) 64 cf) 64 (vals ((Pk.frames ⟨a, b, c, d⟩ slot seq st k jf).getD i [])))
    (hf : SRow (fun i => col i = 3) 5 1 wr (.slice (some ⟨gf, 0, none⟩) 64 cf) 64 (vals (Pk.frame ⟨a, b, c, d⟩ slot seq st (k + jf))))
    (hr : SRow (Grow (fun i => col i = 2) wr) 34 1 wr' fv' (jf + 1) (slS.flat (sl ++ [(some ⟨gf, 0, none⟩, 64, cf)]))) (hk : Kept (fun i => col i = 2) wr wr') :
    Tk T w S g a b c d slot seq st k wr' (paint col wr wr' 2) js (jf + 1) jp sv fv' where
  colr := h.colr.paint h.up hk.size 2
  up := Nat.le_trans h.up hk.size
  secs := (h.secs.mono fun i hi e => paint_keep hi e).kept hk (fun i hi e e' => by rw [paint_old hi] at e; omega)
  frs := by
    rw [Pk.frames_next]
    refine FrRow.both (hr.mono fun i hi e => paint_self hi e) (Pk.frames_length ..) rfl hsl.len (fun i hi => ?_) (fun i hi => ?_)
    · obtain ⟨gf, cf, b1, b2⟩ := hs3 i hi
      exact ⟨gf, cf, b1, (b2.mono fun i hi e => paint_keep hi e).kept hk (fun i hi e e' => by rw [paint_old hi] at e; omega)⟩
    · obtain rfl : i = 0 := by omega
      exact ⟨gf, cf, rfl, (hf.mono fun i hi e => paint_keep hi e).kept hk (fun i hi e e' => by rw [paint_old hi] at e; omega)⟩
  pk := h.pk.kept hk (h.far (by decide))
  kept := h.kept.trans' (hk.mono fun i _ e => e) (fun i e hi => by have := h.colr.2 i (by omega); omega)
/-- One more frame counts as taken. -/
theorem Tk.stored (h : Tk T w S g a b c d slot seq st k wr col js jf jp sv fv) (jp' : Nat) : Tk T w S g a b c d slot seq st k (wr.setCell ⟨g, 7, none⟩ (.int .i64 (jp' : Int))) col js jf jp' sv fv := by
  have K1 : Kept (fun i => i = g) wr (wr.setCell ⟨g, 7, none⟩ (.int .i64 (jp' : Int))) := Kept.setCell (S := fun i => i = g) wr ⟨g, 7, none⟩ _ rfl
  have hg := h.pk.has
  have hc : ∀ i, i ≠ 0 → ∀ j, j < wr.heap.size → col j = i → ¬ j = g := fun i hi j _ e e' => by
    have := h.colr.2 j (by omega)
    omega
  refine ⟨h.colr.next K1.size, Nat.le_trans h.up K1.size, h.secs.kept K1 (hc 1 (by decide)), h.frs.kept K1 (hc 2 (by decide)) (hc 3 (by decide)), ?_, h.kept.trans (K1.mono fun i _ e => e ▸ hg)⟩
  obtain ⟨A, cp, h1, h2, h3, h4⟩ := h.pk
  refine ⟨A, cp, by simp [World.setCell, Array.getElem?_modify, h1], h2, ⟨ownsRow_block h3.1 fun i e => K1.block i (h3.lt e) fun e' => ?_, h3.2⟩, h4⟩
  cases A with
  | none => cases e
  | some ad => exact h4 ad rfl (by injection e with e; rw [e, e'])
end
/-- What Take leaves. -/
def PkTook (T : TypeId) (w : World) (S : Nat → Prop) (g : Nat) (a b c d slot seq : Int) (st : List Nat) (k : Nat) (e : Ending) (w' : World) : Prop :=
  ∃ v1 v2, e = .returned (.tuple #[v1, v2]) ∧ SRow (fun i => w.heap.size ≤ i) 3 1 w' v1 (Pk.full st - k) (intS.flat (Pk.secs ⟨a, b, c, d⟩ slot k (Pk.full st - k))) ∧
    FrRow w' (fun i => w.heap.size ≤ i) (fun i => w.heap.size ≤ i) v2 (Pk.full st - k) (Pk.frames ⟨a, b, c, d⟩ slot seq st k (Pk.full st - k)) ∧ PkIs T w' S g a b c d slot seq st (Pk.full st) ∧ Kept S w w'
theorem Tk.took {T : TypeId} {w wr : World} {S : Nat → Prop} {g : Nat} {a b c d slot seq : Int} {st : List Nat} {k : Nat} {col : Nat → Nat} {sv fv : Value} (h : Tk T w S g a b c d slot seq st k wr col (Pk.full st - k) (Pk.full st - k) (Pk.full st) sv fv) : PkTook T w S g a b c d slot seq st k (.returned (.tuple #[sv, fv])) wr :=
  ⟨sv, fv, rfl, h.secs.mono fun i _ e => h.colr.2 i (by omega), h.frs.mono (fun i _ e => h.colr.2 i (by omega)) (fun i _ e => h.colr.2 i (by omega)), h.pk.mono fun _ _ e => e.1, h.kept.mono fun _ _ e => e.1⟩
end Go.Proofs.YtjmhnbohojdodaaDoor
