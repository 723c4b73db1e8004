/-
  Words on a chain in memory: its box, the map of regions, the maps of their items.
-/
import Derived.Test.YtlhjofcpcccdpaaOwn
import Derived.Test.YtlhjofcpcccdpaaChMath
import Derived.Maps.OwnSet
import Derived.Maps.Range
set_option maxRecDepth 100000
namespace Go.Proofs.Ytlhjofcpcccdpaa
open Go.RowKit Go.Maps
/-- The blocks of S, and those made between two worlds. -/
def Snc (S : Nat → Prop) (w w' : World) (k : Nat) : Prop := S k ∨ (w.heap.size ≤ k ∧ k < w'.heap.size)
/-- How an element of the map of regions reads: as it stands; how a key reads. -/
def chRaw : Value → Option (DataW Value × List MemPlace) := fun v => some (.held v, [])
def chStr : Value → Option (DataW Value × List MemPlace)
  | .string s => some (.held (.string s), [])
  | _ => none
def fO (i : Nat) : DataW Value := .held (.map (some i))
def fI (k : ByteArray) : DataW Value := .held (.string k)
theorem chLaw : Keyed Try.prog 3 := int_keyed Try.underlying3
theorem chKey {x : Int} (h : (Lit.int .i64 x).wf = true) : keyOf Try.prog 3 (.int .i64 x) = some (.int .i64 x) := keyOf_int_mk Try.underlying3 h
theorem chStr_mk (k : ByteArray) : chStr (.string k) = some (fI k, []) := rfl
theorem chStr_inv {v : Value} {y : DataW Value × List MemPlace} (h : chStr v = some y) : ∃ k, v = .string k ∧ y = (fI k, []) := by
  unfold chStr at h
  split at h
  · exact ⟨_, rfl, (Option.some.inj h).symm⟩
  · cases h
section
variable {P : Program} {t : TypeId} {H : Type} {R : Value → Option (DataW H × List MemPlace)} {b N : Nat} {D : DataW H} {w w' : World}
theorem own_block (h : w.ownsMap P t R b N D) (hb : w'.heap[b]? = w.heap[b]?) : w'.ownsMap P t R b N D := by
  obtain ⟨es, clock, h1, F, hs, hD⟩ := h
  exact ⟨es, clock, hb.trans h1, F, hs, hD⟩
theorem own_size (h : w.ownsMap P t R b N D) : w.ownsMap P t R b (Maps.size D) D := by
  obtain ⟨es, clock, h1, F, hs, rfl⟩ := h
  exact ⟨es, clock, h1, F, by simp [Maps.size, length_sorted], rfl⟩
theorem own_dat {α : Type} {f : α → DataW H} {l : List (Int × α)} (h : w.ownsMap P t R b N (Ch.dat f l)) : w.ownsMap P t R b l.length (Ch.dat f l) := by
  have := own_size h
  rwa [Ch.dat_size] at this
end
/-- The map of regions at b, and the maps of their items: o says where each lies. -/
structure Idx (w : World) (S : Nat → Prop) (q b : Nat) (o : List (Int × Nat)) (H : Int → List Ch.It) : Prop where
  ib : S b
  ne : b ≠ q
  own : w.ownsMap Try.prog 3 chRaw b o.length (Ch.dat fO o)
  up : Ch.Up o
  inj : ∀ s t i, (s, i) ∈ o → (t, i) ∈ o → s = t
  blk : ∀ s i, (s, i) ∈ o → S i ∧ i ≠ q ∧ i ≠ b ∧ w.ownsMap Try.prog 3 chStr i (H s).length (Ch.dat fI (H s))
  all : ∀ s, H s ≠ [] → ∃ i, (s, i) ∈ o
/-- What a chain holds, within bounds. -/
structure Good (M : Nat) (H : Int → List Ch.It) : Prop where
  up : ∀ s, Ch.Up (H s)
  le : ∀ s, (H s).length ≤ M
  small : ∀ s, ∀ p ∈ H s, p.2.size ≤ 1048576
/-- A chain at q, in blocks of S, that holds H; no region has more than M items, and there are no more than M regions. -/
def Chn (M : Nat) (w : World) (S : Nat → Prop) (q : Nat) (H : Int → List Ch.It) : Prop :=
  ∃ mb, S q ∧ w.heap[q]? = some (.cells #[.map mb] 51 (0, 0)) ∧ Good M H ∧ ((mb = none ∧ ∀ s, H s = []) ∨ ∃ b o, mb = some b ∧ Idx w S q b o H ∧ (∀ s i, (s, i) ∈ o → H s ≠ []) ∧ o.length ≤ M)
section
variable {w w' : World} {S T : Nat → Prop} {q b M M' : Nat} {o : List (Int × Nat)} {H : Int → List Ch.It}
theorem Idx.kept (h : Idx w S q b o H) (hk : Kept T w w') (hd : ∀ k, k < w.heap.size → S k → ¬ T k) : Idx w' S q b o H :=
  ⟨h.ib, h.ne, own_block h.own (hk.block b h.own.lt (hd b h.own.lt h.ib)), h.up, h.inj, fun s i hi => by
    obtain ⟨h1, h2, h3, h4⟩ := h.blk s i hi
    exact ⟨h1, h2, h3, own_block h4 (hk.block i h4.lt (hd i h4.lt h1))⟩, h.all⟩
theorem Idx.mono (h : Idx w S q b o H) (hs : ∀ k, k < w.heap.size → S k → T k) : Idx w T q b o H :=
  ⟨hs b h.own.lt h.ib, h.ne, h.own, h.up, h.inj, fun s i hi => by
    obtain ⟨h1, h2, h3, h4⟩ := h.blk s i hi
    exact ⟨hs i h4.lt h1, h2, h3, h4⟩, h.all⟩
theorem Idx.next (h : Idx w S q b o H) (hb : Below w.heap.size w w') : Idx w' S q b o H := h.kept (Kept.of_new hb : Kept (fun _ => False) w w') fun _ _ _ e => e
theorem Good.mono (h : Good M H) (hm : M ≤ M') : Good M' H := ⟨h.up, fun s => Nat.le_trans (h.le s) hm, h.small⟩
theorem Chn.kept (h : Chn M w S q H) (hk : Kept T w w') (hd : ∀ k, k < w.heap.size → S k → ¬ T k) : Chn M w' S q H := by
  obtain ⟨mb, h1, h2, h3, h4⟩ := h
  have hl := (Array.getElem?_eq_some_iff.1 h2).1
  refine ⟨mb, h1, (hk.block q hl (hd q hl h1)).trans h2, h3, ?_⟩
  rcases h4 with h4 | ⟨b, o, e, h5, h6⟩
  · exact .inl h4
  · exact .inr ⟨b, o, e, h5.kept hk hd, h6⟩
theorem Chn.mono (h : Chn M w S q H) (hs : ∀ k, k < w.heap.size → S k → T k) : Chn M w T q H := by
  obtain ⟨mb, h1, h2, h3, h4⟩ := h
  refine ⟨mb, hs q (Array.getElem?_eq_some_iff.1 h2).1 h1, h2, h3, ?_⟩
  rcases h4 with h4 | ⟨b, o, e, h5, h6⟩
  · exact .inl h4
  · exact .inr ⟨b, o, e, h5.mono hs, h6⟩
theorem Chn.more (h : Chn M w S q H) (hm : M ≤ M') : Chn M' w S q H := by
  obtain ⟨mb, h1, h2, h3, h4⟩ := h
  refine ⟨mb, h1, h2, h3.mono hm, ?_⟩
  rcases h4 with h4 | ⟨b, o, e, h5, h6, h7⟩
  · exact .inl h4
  · exact .inr ⟨b, o, e, h5, h6, Nat.le_trans h7 hm⟩
theorem Chn.next (h : Chn M w S q H) (hb : Below w.heap.size w w') : Chn M w' S q H := h.kept (Kept.of_new hb : Kept (fun _ => False) w w') fun _ _ _ e => e
theorem Chn.lt (h : Chn M w S q H) : q < w.heap.size := by
  obtain ⟨mb, h1, h2, h3, h4⟩ := h
  exact (Array.getElem?_eq_some_iff.1 h2).1
theorem Chn.good (h : Chn M w S q H) : Good M H := by
  obtain ⟨mb, h1, h2, h3, h4⟩ := h
  exact h3
theorem snc_left {k : Nat} (h : S k) : Snc S w w' k := .inl h
/-- One region's items have turned. -/
theorem Idx.inner (h : Idx w S q b o H) {s : Int} {i N : Nat} {l : List Ch.It} (hi : (s, i) ∈ o) (hw : w'.ownsMap Try.prog 3 chStr i N (Ch.dat fI l)) (hg : w.grownBy w' (some i)) : Idx w' S q b o (fun t => if t = s then l else H t) := by
  obtain ⟨h1, h2, h3, h4⟩ := h.blk s i hi
  refine ⟨h.ib, h.ne, own_block h.own (hg.block b h.own.lt (fun e => h3 (Option.some.inj e).symm)), h.up, h.inj, fun t j hj => ?_, fun t ht => ?_⟩
  · obtain ⟨g1, g2, g3, g4⟩ := h.blk t j hj
    refine ⟨g1, g2, g3, ?_⟩
    by_cases e : t = s
    · subst e
      obtain rfl := Ch.up_one h.up hj hi
      simp only [if_true]
      exact own_dat hw
    · simp only [if_neg e]
      exact own_block g4 (hg.block j g4.lt fun e2 => e (h.inj _ _ _ hj ((Option.some.inj e2) ▸ hi)))
  · by_cases e : t = s
    · subst e; exact ⟨i, hi⟩
    · simp only [if_neg e] at ht; exact h.all t ht
/-- A region comes in, without items as yet. -/
theorem Idx.more (h : Idx w S q b o H) (hq : q < w.heap.size) {s : Int} {N : Nat} {w1 : World} (hs : ∀ i, (s, i) ∉ o) (hb1 : Below w.heap.size w w1) (hz : w1.ownsMap Try.prog 3 chStr w.heap.size 0 (.map []))
    (hw : w'.ownsMap Try.prog 3 chRaw b N ((Ch.dat fO o).put (.int .i64 s) (fO w.heap.size))) (hg : w1.grownBy w' (some b)) : Idx w' (Snc S w w') q b (Ch.pt s w.heap.size o) H := by
  have hlt := h.own.lt
  have hHs : H s = [] := by
    rcases Classical.em (H s = []) with e | e
    · exact e
    · obtain ⟨i, hi⟩ := h.all s e; exact absurd hi (hs i)
  have hil : ∀ t j, (t, j) ∈ o → j < w.heap.size := fun t j hj => (h.blk t j hj).2.2.2.lt
  rw [Ch.dat_put] at hw
  refine ⟨.inl h.ib, h.ne, own_dat hw, Ch.up_pt h.up, fun t u i h1 h2 => ?_, fun t j hj => ?_, fun t ht => ?_⟩
  · rcases Ch.mem_pt.1 h1 with e1 | ⟨m1, -⟩ <;> rcases Ch.mem_pt.1 h2 with e2 | ⟨m2, -⟩
    · exact (Prod.mk.inj e1).1.trans (Prod.mk.inj e2).1.symm
    · have := hil u i m2; have := (Prod.mk.inj e1).2; omega
    · have := hil t i m1; have := (Prod.mk.inj e2).2; omega
    · exact h.inj _ _ _ m1 m2
  · rcases Ch.mem_pt.1 hj with e | ⟨m, -⟩
    · obtain ⟨rfl, rfl⟩ := Prod.mk.inj e
      refine ⟨.inr ⟨Nat.le_refl _, Nat.lt_of_lt_of_le hz.lt hg.size⟩, by omega, by omega, ?_⟩
      rw [hHs]
      exact own_block hz (hg.block _ hz.lt fun e => by have := Option.some.inj e; omega)
    · obtain ⟨g1, g2, g3, g4⟩ := h.blk t j m
      refine ⟨.inl g1, g2, g3, own_block g4 ((hg.block j (Nat.lt_of_lt_of_le g4.lt hb1.size) fun e => g3 (Option.some.inj e)).trans (hb1.block j g4.lt))⟩
  · obtain ⟨i, hi⟩ := h.all t ht
    refine ⟨i, Ch.mem_pt.2 (.inr ⟨hi, fun e => ?_⟩)⟩
    have e : t = s := e
    subst e
    exact hs i hi
/-- A region goes. -/
theorem Idx.gone (h : Idx w S q b o H) {s : Int} {N : Nat} (hw : w'.ownsMap Try.prog 3 chRaw b N ((Ch.dat fO o).del (.int .i64 s))) (hg : w.grownBy w' (some b)) : Idx w' S q b (Ch.cut s o) (Ch.drop H s) := by
  rw [Ch.dat_del] at hw
  refine ⟨h.ib, h.ne, own_dat hw, Ch.up_cut h.up, fun t u i h1 h2 => h.inj _ _ _ (Ch.mem_cut.1 h1).1 (Ch.mem_cut.1 h2).1, fun t j hj => ?_, fun t ht => ?_⟩
  · obtain ⟨m, hne⟩ := Ch.mem_cut.1 hj
    have hne : t ≠ s := hne
    obtain ⟨g1, g2, g3, g4⟩ := h.blk t j m
    refine ⟨g1, g2, g3, ?_⟩
    unfold Ch.drop
    simp only [if_neg hne]
    exact own_block g4 (hg.block j g4.lt fun e => g3 (Option.some.inj e))
  · unfold Ch.drop at ht
    by_cases e : t = s
    · simp only [if_pos e] at ht; exact absurd rfl ht
    · simp only [if_neg e] at ht
      obtain ⟨i, hi⟩ := h.all t ht
      exact ⟨i, Ch.mem_cut.2 ⟨hi, e⟩⟩
/-- No map of regions yet, then an empty one. -/
theorem Idx.first {z : Nat} (hH : ∀ s, H s = []) (hz : w.ownsMap Try.prog 3 chRaw z 0 (.map [])) (hS : S z) (hne : z ≠ q) : Idx w S q z [] H :=
  ⟨hS, hne, hz, List.Pairwise.nil, fun _ _ _ h => (by cases h), fun _ _ h => (by cases h), fun s h => absurd (hH s) h⟩
theorem Idx.look (h : Idx w S q b o H) {s : Int} (hs : (Lit.int .i64 s).wf = true) : (∃ i, (s, i) ∈ o ∧ ∀ W, W.heap[b]? = w.heap[b]? → (Instr.lookup 49 (.map (some b)) (.int .i64 s) false).run Try.prog W = .ok (.map (some i)) W) ∨
    ((∀ i, (s, i) ∉ o) ∧ H s = [] ∧ ∀ W, W.heap[b]? = w.heap[b]? → (Instr.lookup 49 (.map (some b)) (.int .i64 s) false).run Try.prog W = .ok (.map none) W) := by
  have hz : ∀ W : World, (zeroValue 52).run Try.prog W = .ok (.map none) W := fun W => by kernel_rfl
  have key : ∀ W, W.heap[b]? = w.heap[b]? → ∃ v ps, (Instr.lookup 49 (.map (some b)) (.int .i64 s) false).run Try.prog W = .ok v W ∧ chRaw v = some ((Ch.dat fO o).atKey (.int .i64 s) (.held (.map none)), ps) := fun W hW =>
    (own_block h.own hW).lookup chLaw Try.underlying49 (hz W) (zd := .held (.map none)) (zp := []) rfl (chKey hs)
  by_cases hex : ∃ i, (s, i) ∈ o
  · obtain ⟨i, hi⟩ := hex
    refine .inl ⟨i, hi, fun W hW => ?_⟩
    obtain ⟨v, ps, h1, h2⟩ := key W hW
    rw [Ch.dat_at fO h.up hi] at h2
    have e : v = .map (some i) := by
      have e2 : DataW.held v = DataW.held (Value.map (some i)) := (Prod.mk.inj (Option.some.inj h2)).1
      injection e2
    rw [h1, e]
  · have hno : ∀ i, (s, i) ∉ o := fun i hi => hex ⟨i, hi⟩
    refine .inr ⟨hno, ?_, fun W hW => ?_⟩
    · rcases Classical.em (H s = []) with e | e
      · exact e
      · exact absurd (h.all s e) hex
    · obtain ⟨v, ps, h1, h2⟩ := key W hW
      rw [Ch.dat_no fO hno] at h2
      have e : v = .map none := by
        have e2 : DataW.held v = DataW.held (Value.map none) := (Prod.mk.inj (Option.some.inj h2)).1
        injection e2
      rw [h1, e]
end
end Go.Proofs.Ytlhjofcpcccdpaa
