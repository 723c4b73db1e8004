/-
  Words on a queue in memory: its box, the row of its nodes, the nodes, the map of its keys.
-/
import Derived.Test.YtkhmimdigdjajaaOwn
import Derived.Test.YtkhmimdigdjajaaSetAt
import Derived.Test.YtkhmimdigdjajaaExMath
import Derived.Maps.OwnSet
import Derived.Maps.Views
import Derived.StringKeys
set_option maxRecDepth 100000
namespace Go.Proofs.Ytkhmimdigdjajaa
open Go.RowKit Go.Maps
/-- A node as an element, a node's cells. -/
def ndp (x : Ex.Nd) : Value := .pointer (some ⟨x.b, 0, none⟩)
def ndc (x : Ex.Nd) (i : Nat) : Array Value := #[.string x.o.k, .int .i64 x.o.r, .int .i64 (i : Int)]
/-- Maps and the keys of nodes stay, and no block is made. -/
structure Same (w w' : World) : Prop where
  size : w'.heap.size = w.heap.size
  map : ∀ (b : Nat) es c, w.heap[b]? = some (.map es c) → w'.heap[b]? = some (.map es c)
  key : ∀ (b : Nat) (cs : Array Value), w.heap[b]? = some (.cells cs 58 (0, 0)) → ∃ cs' : Array Value, w'.heap[b]? = some (.cells cs' 58 (0, 0)) ∧ cs'[0]? = cs[0]?
section
variable {w w' w'' : World}
theorem Same.refl (w : World) : Same w w := ⟨rfl, fun _ _ _ h => h, fun _ cs h => ⟨cs, h, rfl⟩⟩
theorem Same.trans (h : Same w w') (k : Same w' w'') : Same w w'' := ⟨k.size.trans h.size, fun b es c e => k.map b es c (h.map b es c e), fun b cs e => by
  obtain ⟨cs1, e1, e2⟩ := h.key b cs e
  obtain ⟨cs2, e3, e4⟩ := k.key b cs1 e1
  exact ⟨cs2, e3, e4.trans e2⟩⟩
theorem Same.setCell (w : World) (d o : Nat) (v : Value) (h : o ≠ 0 ∨ ∃ (cs : Array Value) (t : TypeId), w.heap[d]? = some (.cells cs t (0, 0)) ∧ t ≠ 58) : Same w (w.setCell ⟨d, o, none⟩ v) := ⟨by simp [World.setCell], fun b es c hm => by
  by_cases e : b = d
  · subst e
    simp [World.setCell, Array.getElem?_modify, hm]
  · exact set_past hm e o v, fun b cs hb => by
  by_cases e : b = d
  · subst e
    refine ⟨_, set_at (cs := cs.toList) (by simpa using hb) o v, ?_⟩
    rcases h with h | ⟨cs', t, h1, h2⟩
    · rw [List.getElem?_toArray, List.getElem?_set_ne h, Array.getElem?_toList]
    · rw [h1] at hb
      injection hb with hb
      injection hb with _ hb
      exact absurd hb h2
  · exact ⟨cs, set_past hb e o v, rfl⟩⟩
theorem Same.drewN (w : World) (n : Nat) : Same w (w.drewN n) := ⟨rfl, fun _ _ _ h => h, fun _ cs h => ⟨cs, h, rfl⟩⟩
theorem Same.drew (w : World) : Same w w.drew := ⟨rfl, fun _ _ _ h => h, fun _ cs h => ⟨cs, h, rfl⟩⟩
theorem Same.own {P : Program} {t : TypeId} {H : Type} {R : Value → Option (DataW H × List MemPlace)} {b N : Nat} {D : DataW H} (k : Same w w') (h : w.ownsMap P t R b N D) : w'.ownsMap P t R b N D := by
  obtain ⟨es, clock, h1, F, hs, hD⟩ := h
  exact ⟨es, clock, k.map _ _ _ h1, F, hs, hD⟩
theorem kept_drew' {S : Nat → Prop} (h : Kept S w w') : Kept S w w'.drew := ⟨h.os, h.tape, h.output, h.size, h.block⟩
end
/-- A queue's box at q and its nodes, in blocks of S. -/
structure HpIn (w : World) (S : Nat → Prop) (q : Nat) (v : Value) (mb : Option Nat) (h : List Ex.Nd) : Prop where
  sq : S q
  box : w.heap[q]? = some (.cells #[v, .map mb] 53 (0, 0))
  row : SRow S 55 1 w v h.length (h.map ndp)
  node : ∀ i, i < h.length → S (Ex.nd h i).b ∧ w.heap[(Ex.nd h i).b]? = some (.cells (ndc (Ex.nd h i) i) 58 (0, 0))
section
variable {w w' : World} {S T : Nat → Prop} {q : Nat} {v : Value} {mb : Option Nat} {h : List Ex.Nd}
theorem HpIn.kept (H : HpIn w S q v mb h) (hk : Kept T w w') (hd : ∀ k, k < w.heap.size → S k → ¬ T k) : HpIn w' S q v mb h :=
  ⟨H.sq, (hk.block q (Array.getElem?_eq_some_iff.1 H.box).1 (hd q (Array.getElem?_eq_some_iff.1 H.box).1 H.sq)).trans H.box, H.row.kept hk hd, fun i hi => by
    obtain ⟨h1, h2⟩ := H.node i hi
    exact ⟨h1, (hk.block _ (Array.getElem?_eq_some_iff.1 h2).1 (hd _ (Array.getElem?_eq_some_iff.1 h2).1 h1)).trans h2⟩⟩
theorem HpIn.mono (H : HpIn w S q v mb h) (hs : ∀ k, k < w.heap.size → S k → T k) : HpIn w T q v mb h :=
  ⟨hs q (Array.getElem?_eq_some_iff.1 H.box).1 H.sq, H.box, H.row.mono hs, fun i hi => by
    obtain ⟨h1, h2⟩ := H.node i hi
    exact ⟨hs _ (Array.getElem?_eq_some_iff.1 h2).1 h1, h2⟩⟩
theorem HpIn.next (H : HpIn w S q v mb h) (hb : Below w.heap.size w w') : HpIn w' S q v mb h := H.kept (Kept.of_new hb : Kept (fun _ => False) w w') fun _ _ _ e => e
theorem HpIn.drew (H : HpIn w S q v mb h) : HpIn w.drew S q v mb h := ⟨H.sq, H.box, H.row, H.node⟩
theorem HpIn.drewN (H : HpIn w S q v mb h) (n : Nat) : HpIn (w.drewN n) S q v mb h := ⟨H.sq, H.box, H.row, H.node⟩
theorem two_cells_at {w : World} {g : Nat} {a b : Value} {t : TypeId} (hg : w.heap[g]? = some (.cells #[a, b] t (0, 0))) : w.cell? ⟨g, 0, none⟩ = some a ∧ w.cell? ⟨g, 1, none⟩ = some b :=
  ⟨cell_of_row _ _ 0 _ _ _ hg, cell_of_row _ _ 1 _ _ _ hg⟩
theorem nd_cells {w : World} {g i : Nat} {x : Ex.Nd} {t : TypeId} (hg : w.heap[g]? = some (.cells (ndc x i) t (0, 0))) : w.cell? ⟨g, 0, none⟩ = some (.string x.o.k) ∧ w.cell? ⟨g, 1, none⟩ = some (.int .i64 x.o.r) ∧ w.cell? ⟨g, 2, none⟩ = some (.int .i64 (i : Int)) :=
  ⟨cell_of_row _ _ 0 _ _ _ hg, cell_of_row _ _ 1 _ _ _ hg, cell_of_row _ _ 2 _ _ _ hg⟩
/-- The row's block and cells, where there is a node. -/
theorem HpIn.rowAt (H : HpIn w S q v mb h) (h0 : 0 < h.length) : ∃ g c, v = .slice (some ⟨g, 0, none⟩) h.length c ∧ h.length ≤ c ∧ c ≤ 9223372036854775807 ∧ S g ∧ (∀ i, i < h.length → w.cell? ⟨g, i, none⟩ = some (ndp (Ex.nd h i))) ∧ (∀ i, w.frozen? ⟨g, i, none⟩ = false) ∧ ∃ cur, w.heap[g]? = some (.cells cur 55 (0, 0)) := by
  obtain ⟨A, c, rfl, hsl⟩ := H.row.open_
  rcases H.row.1.2 with ⟨-, e⟩ | ⟨g, cap, cur, e, -, hg, hnc, -⟩
  · omega
  · injection e with e1 e2 e3
    subst e1; subst e3
    refine ⟨g, c, rfl, hnc, hsl.2.2, H.row.2 g rfl, fun i hi => ?_, fun i => frozen_of_row _ _ _ _ _ hg, cur, hg⟩
    have := H.row.1.cells (g := g) rfl i (ndp (Ex.nd h i)) (by rw [List.getElem?_map, List.getElem?_eq_getElem hi, Ex.nd_in hi]; rfl)
    rwa [arr_flat, Nat.zero_add] at this
end
/-- One cell of a row set. -/
theorem srow_set {S : Nat → Prop} {t : TypeId} {w : World} {g n c : Nat} {xs : List Value} (H : SRow S t 1 w (.slice (some ⟨g, 0, none⟩) n c) n xs) (i : Nat) (u : Value) : SRow S t 1 (w.setCell ⟨g, i, none⟩ u) (.slice (some ⟨g, 0, none⟩) n c) n (xs.set i u) := by
  refine ⟨⟨by rw [List.length_set]; exact H.1.1, ?_⟩, H.2⟩
  rcases H.1.2 with ⟨e, -⟩ | ⟨g', cap, cur, e, h1, hg, h2, h3, h4, h5⟩
  · cases e
  · injection e with e1 e2 e3
    injection e1 with e1
    injection e1 with e1
    subst e1; subst e3
    refine .inr ⟨g, c, (cur.toList.set i u).toArray, rfl, h1, ?_, h2, h3, by simpa using h4, ?_⟩
    · have := set_at (cs := cur.toList) (by simpa using hg) i u
      exact this
    · rw [List.toList_toArray, ← h5, List.take_set]
/-- The first things of a row. -/
theorem srow_cut {S : Nat → Prop} {t : TypeId} {w : World} {A : Option Addr} {n c m : Nat} {xs : List Value} (H : SRow S t 1 w (.slice A n c) n xs) (hm : m ≤ n) : SRow S t 1 w (.slice A m c) m (xs.take m) := by
  have hx := H.1.1
  refine ⟨⟨by rw [List.length_take]; omega, ?_⟩, fun k e => H.2 k (by
    cases A with
    | none => cases e
    | some ad => exact e)⟩
  rcases H.1.2 with ⟨e, e0⟩ | ⟨g', cap, cur, e, h1, hg, h2, h3, h4, h5⟩
  · injection e with e1 e2 e3
    subst e1; subst e3
    exact .inl ⟨by rw [show m = 0 by omega], by omega⟩
  · injection e with e1 e2 e3
    subst e1; subst e3
    exact .inr ⟨g', c, cur, rfl, h1, hg, by omega, h3, h4, by rw [← h5, List.take_take, show min m (n * 1) = m * 1 by omega]⟩
/-! The map of keys. -/
def exRaw : Value → Option (DataW Value × List MemPlace) := fun v => some (.held v, [])
def exP (b : Nat) : DataW Value := .held (.pointer (some ⟨b, 0, none⟩))
def exLit (k : ByteArray) : Lit := .string k.data.toList
theorem exLaw : Keyed Try.prog 9 := string_keyed Try.underlying9
theorem exKey {k : ByteArray} (h : k.size ≤ 1048576) : keyOf Try.prog 9 (.string k) = some (exLit k) := WideMaps.keyOf_string_mk Try.underlying9 (by unfold maxLen; omega)
theorem exLit_inj {a b : ByteArray} (h : exLit a = exLit b) : a = b := by
  unfold exLit at h
  injection h with h
  exact Tb.data_inj h
/-- The map at b leads from the keys of h, and from no other, to their nodes. -/
def KeysAt (D : DataW Value) (h : List Ex.Nd) : Prop := (∀ x ∈ h, ∀ z, D.atKey (exLit x.o.k) z = exP x.b) ∧ ∀ k, (∀ x ∈ h, x.o.k ≠ k) → ∀ z, D.atKey (exLit k) z = z
def MpIn (N : Nat) (w : World) (S : Nat → Prop) (mb : Option Nat) (h : List Ex.Nd) : Prop :=
  (mb = none ∧ h = []) ∨ ∃ b D, mb = some b ∧ S b ∧ w.ownsMap Try.prog 9 exRaw b N D ∧ KeysAt D h
theorem KeysAt.perm {D : DataW Value} {h h' : List Ex.Nd} (H : KeysAt D h) (hp : h'.Perm h) : KeysAt D h' := ⟨fun x hx => H.1 x (hp.mem_iff.1 hx), fun k hk => H.2 k fun x hx => hk x (hp.mem_iff.2 hx)⟩
/-- An element's key and block alone matter. -/
theorem KeysAt.alike {D : DataW Value} {h h' : List Ex.Nd} (H : KeysAt D h) (h1 : ∀ x ∈ h', ∃ y ∈ h, y.o.k = x.o.k ∧ y.b = x.b) (h2 : ∀ x ∈ h, ∃ y ∈ h', y.o.k = x.o.k) : KeysAt D h' :=
  ⟨fun x hx z => by
    obtain ⟨y, hy, e1, e2⟩ := h1 x hx
    rw [← e1, ← e2]; exact H.1 y hy z, fun k hk z => H.2 k (fun x hx e => by
    obtain ⟨y, hy, e1⟩ := h2 x hx
    exact hk y hy (e1.trans e)) z⟩
theorem isKeyLit (k : ByteArray) : WideAt.IsKeyLit (exLit k) := by
  unfold exLit
  simp [WideAt.IsKeyLit]
theorem KeysAt.put {D : DataW Value} {h : List Ex.Nd} (H : KeysAt D h) (hD : IsMap D) {k : ByteArray} {r : Int} {b : Nat} (hn : ∀ x ∈ h, x.o.k ≠ k) : KeysAt (D.put (exLit k) (exP b)) (h ++ [⟨⟨k, r⟩, b⟩]) := by
  refine ⟨fun x hx z => ?_, fun k' hk z => ?_⟩
  · rcases List.mem_append.1 hx with hx | hx
    · rw [atKey_put_other (fun e => hn x hx (exLit_inj e))]
      exact H.1 x hx z
    · obtain rfl := List.mem_singleton.1 hx
      exact atKey_put_same hD (isKeyLit _) _ _
  · have h1 : k' ≠ k := fun e => hk _ (List.mem_append_right _ (List.mem_singleton.2 rfl)) e.symm
    rw [atKey_put_other (fun e => h1 (exLit_inj e))]
    exact H.2 k' (fun x hx => hk x (List.mem_append_left _ hx)) z
theorem KeysAt.del {D : DataW Value} {h h' : List Ex.Nd} (H : KeysAt D h) {x : Ex.Nd} (hp : h.Perm (x :: h')) (hn : ∀ y ∈ h', y.o.k ≠ x.o.k) : KeysAt (D.del (exLit x.o.k)) h' := by
  refine ⟨fun y hy z => ?_, fun k hk z => ?_⟩
  · rw [atKey_del_other (fun e => hn y hy (exLit_inj e))]
    exact H.1 y (hp.mem_iff.2 (List.mem_cons_of_mem _ hy)) z
  · by_cases e : k = x.o.k
    · subst e; exact atKey_del_same z
    · rw [atKey_del_other (fun e2 => e (exLit_inj e2))]
      refine H.2 k (fun y hy e2 => ?_) z
      rcases List.mem_cons.1 (hp.mem_iff.1 hy) with rfl | hy
      · exact e e2.symm
      · exact hk y hy e2
section
variable {w w' : World} {S T : Nat → Prop} {N M : Nat} {mb : Option Nat} {h : List Ex.Nd}
theorem MpIn.same (H : MpIn N w S mb h) (k : Same w w') : MpIn N w' S mb h := by
  rcases H with H | ⟨b, D, e, h1, h2, h3⟩
  · exact .inl H
  · exact .inr ⟨b, D, e, h1, k.own h2, h3⟩
theorem MpIn.kept (H : MpIn N w S mb h) (hk : Kept T w w') (hd : ∀ k, k < w.heap.size → S k → ¬ T k) : MpIn N w' S mb h := by
  rcases H with H | ⟨b, D, e, h1, h2, h3⟩
  · exact .inl H
  · have hl := h2.lt
    obtain ⟨es, clock, hb, F, hs, hD⟩ := h2
    exact .inr ⟨b, D, e, h1, ⟨es, clock, (hk.block b hl (hd b hl h1)).trans hb, F, hs, hD⟩, h3⟩
theorem MpIn.mono (H : MpIn N w S mb h) (hs : ∀ k, k < w.heap.size → S k → T k) : MpIn N w T mb h := by
  rcases H with H | ⟨b, D, e, h1, h2, h3⟩
  · exact .inl H
  · exact .inr ⟨b, D, e, hs b h2.lt h1, h2, h3⟩
theorem MpIn.more (H : MpIn N w S mb h) (hm : N ≤ M) : MpIn M w S mb h := by
  rcases H with H | ⟨b, D, e, h1, h2, h3⟩
  · exact .inl H
  · exact .inr ⟨b, D, e, h1, h2.mono hm, h3⟩
theorem MpIn.perm (H : MpIn N w S mb h) {h' : List Ex.Nd} (hp : h'.Perm h) : MpIn N w S mb h' := by
  rcases H with ⟨e, rfl⟩ | ⟨b, D, e, h1, h2, h3⟩
  · exact .inl ⟨e, hp.eq_nil⟩
  · exact .inr ⟨b, D, e, h1, h2, h3.perm hp⟩
end
/-- A look-up of a key: its node, or none. -/
theorem MpIn.look {N : Nat} {w : World} {S : Nat → Prop} {mb : Option Nat} {h : List Ex.Nd} (H : MpIn N w S mb h) {k : ByteArray} (hk : k.size ≤ 1048576) :
    (∃ i, i < h.length ∧ (Ex.at_ h i).k = k ∧ ∀ W, W.heap = w.heap → (Instr.lookup 49 (.map mb) (.string k) false).run Try.prog W = .ok (ndp (Ex.nd h i)) W) ∨
    ((∀ i, i < h.length → (Ex.at_ h i).k ≠ k) ∧ ∀ W, W.heap = w.heap → (Instr.lookup 49 (.map mb) (.string k) false).run Try.prog W = .ok (.pointer none) W) := by
  have hz : ∀ W : World, (zeroValue 55).run Try.prog W = .ok (.pointer none) W := fun W => by kernel_rfl
  rcases H with ⟨rfl, rfl⟩ | ⟨b, D, rfl, h1, h2, h3⟩
  · exact .inr ⟨fun i hi => absurd hi (Nat.not_lt_zero _), fun W _ => Maps.look_nil false exLaw Try.underlying49 (hz W) (exKey hk)⟩
  · have key : ∀ W, W.heap = w.heap → ∃ v ps, (Instr.lookup 49 (.map (some b)) (.string k) false).run Try.prog W = .ok v W ∧ exRaw v = some (D.atKey (exLit k) (.held (.pointer none)), ps) := fun W hW => by
      obtain ⟨es, clock, hb, F, hs, hD⟩ := h2
      exact World.ownsMap.lookup (⟨es, clock, by rw [hW]; exact hb, F, hs, hD⟩ : W.ownsMap Try.prog 9 exRaw b N D) exLaw Try.underlying49 (hz W) (zd := .held (.pointer none)) (zp := []) rfl (exKey hk)
    by_cases hex : ∃ i, i < h.length ∧ (Ex.at_ h i).k = k
    · obtain ⟨i, hi, rfl⟩ := hex
      refine .inl ⟨i, hi, rfl, fun W hW => ?_⟩
      obtain ⟨v, ps, e1, e2⟩ := key W hW
      rw [show Ex.at_ h i = (Ex.nd h i).o from rfl, h3.1 _ (Ex.nd_mem hi)] at e2
      have e : v = ndp (Ex.nd h i) := by
        have e3 : DataW.held v = exP (Ex.nd h i).b := (Prod.mk.inj (Option.some.inj e2)).1
        unfold exP at e3
        injection e3
      rw [e1, e]
    · have hno : ∀ i, i < h.length → (Ex.at_ h i).k ≠ k := fun i hi e => hex ⟨i, hi, e⟩
      refine .inr ⟨hno, fun W hW => ?_⟩
      obtain ⟨v, ps, e1, e2⟩ := key W hW
      rw [h3.2 k (fun x hx e => by
        obtain ⟨i, hi, rfl⟩ := List.getElem_of_mem hx
        exact hno i hi (by unfold Ex.at_; rw [Ex.nd_in hi]; exact e))] at e2
      have e : v = .pointer none := by
        have e3 : DataW.held v = DataW.held (Value.pointer none) := (Prod.mk.inj (Option.some.inj e2)).1
        injection e3
      rw [e1, e]
/-- A queue at q, in blocks of S, that holds L; M bounds how many keys were ever put. -/
def Que (M : Nat) (w : World) (S : Nat → Prop) (q : Nat) (L : List Ex.On) : Prop :=
  ∃ v mb h, HpIn w S q v mb h ∧ MpIn M w S mb h ∧ Ex.Rep h L ∧ h.length ≤ M ∧ ∀ x ∈ L, x.k.size ≤ 1048576
section
variable {w w' : World} {S T : Nat → Prop} {q M M' : Nat} {L : List Ex.On}
theorem Que.kept (H : Que M w S q L) (hk : Kept T w w') (hd : ∀ k, k < w.heap.size → S k → ¬ T k) : Que M w' S q L := by
  obtain ⟨v, mb, h, h1, h2, h3⟩ := H
  exact ⟨v, mb, h, h1.kept hk hd, h2.kept hk hd, h3⟩
theorem Que.mono (H : Que M w S q L) (hs : ∀ k, k < w.heap.size → S k → T k) : Que M w T q L := by
  obtain ⟨v, mb, h, h1, h2, h3⟩ := H
  exact ⟨v, mb, h, h1.mono hs, h2.mono hs, h3⟩
theorem Que.more (H : Que M w S q L) (hm : M ≤ M') : Que M' w S q L := by
  obtain ⟨v, mb, h, h1, h2, h3, h4, h5⟩ := H
  exact ⟨v, mb, h, h1, h2.more hm, h3, Nat.le_trans h4 hm, h5⟩
theorem Que.next (H : Que M w S q L) (hb : Below w.heap.size w w') : Que M w' S q L := H.kept (Kept.of_new hb : Kept (fun _ => False) w w') fun _ _ _ e => e
theorem Que.lt (H : Que M w S q L) : q < w.heap.size := by
  obtain ⟨v, mb, h, h1, h2⟩ := H
  exact (Array.getElem?_eq_some_iff.1 h1.box).1
theorem Que.length (H : Que M w S q L) : L.length ≤ M := by
  obtain ⟨v, mb, h, h1, h2, h3, h4, h5⟩ := H
  rw [← h3.length]; exact h4
end
end Go.Proofs.Ytkhmimdigdjajaa
