/-
  RegionGate: A region that draws its order, whose loads all come before its first store (the gate): what a load yields as long as the gate has not come up may be taken first.
  SbRefDec0: The walk of the reference's Decode of superblocks, up to the superblock read.
  SbRefDec1: Words for the walk of the reference's Decode of superblocks.
-/
import Derived.OrdersHeld
import Derived.RegionTactic
import Derived.Test.YtcjnhemlkahgoaaDoorSbOne
import Derived.Test.YtcjnhemlkahgoaaDoorSbRefEncs
import Derived.Test.YtcjnhemlkahgoaaDoorSbRefThrees
import Derived.Test.YtcjnhemlkahgoaaDoorSbDecode
import Derived.Deep.DeepCutAuto
import Derived.Deep.CutBlock
section
namespace Go.Proofs.YtcjnhemlkahgoaaDoor
open Go
section
variable {P : Program} {ops : Array Oper} {Q : Exit → Act → World → Prop} {md : Region.Mode} {k : Nat} {S : World → Prop}
/-- Every order from here on; S holds behind every operation until the gate k has come up. -/
def Gated (P : Program) (md : Region.Mode) (ops : Array Oper) (Q : Exit → Act → World → Prop) (k : Nat) (S : World → Prop) : Nat → Array Bool → Act → World → Prop
  | 0, ls, a, w => Region.ready md ops ls = [] ∧ Q .normal a w
  | n + 1, ls, a, w => (Region.ready md ops ls = [] → Q .normal a w) ∧
      ∀ i ∈ Region.ready md ops ls, wpOp P ops Q i (fun b u => ((ls.setIfInBounds i true).getD k true = false → S u) ∧ Gated P md ops Q k S n (ls.setIfInBounds i true) b u) a w
theorem Gated.any : ∀ {n : Nat} {ls : Array Bool} {a : Act} {w : World}, Gated P md ops Q k S n ls a w → wpAny P md ops Q n ls a w
  | 0, _, _, _, h => h
  | _ + 1, _, _, _, h => ⟨h.1, fun i hi => wpOp_mono (fun _ _ h' => h'.2.any) (h.2 i hi)⟩
/-- An operation taken first: R holds wherever it may still come up (I: of what has come up by then). -/
theorem Gated.first {i : Nat} {oi : Oper} {v : Value} {R : World → Prop} {I : Array Bool → Prop} (hi : ops[i]? = some oi) (hns : Region.noSelect ops = true)
    (hQ : ∀ c a w, Q (.panic c) (a.put oi.dst v) w → Q (.panic c) a w)
    (hI : ∀ ls j oj, ops[j]? = some oj → (∀ e ∈ oj.after, Region.binds md e = true → e.on ≠ i) → j ≠ i → I ls → I (ls.setIfInBounds j true))
    (hR : ∀ ls u, I ls → ((ls.setIfInBounds i true).getD k true = false → S u) → R u) (hki : k ≠ i) :
    ∀ (n : Nat) (ls : Array Bool) (a : Act) (w : World),
      (∀ j oj, ops[j]? = some oj → j ≠ i → ls.getD j true = false → (∀ e ∈ oj.after, Region.binds md e = true → e.on ≠ i) → oi.apart ops oj = true) →
      i ∈ Region.ready md ops ls → YieldsIf P ops R oi v a → R w → I ls → (ls.getD k true = false → S w) →
      Gated P md ops Q k S n (ls.setIfInBounds i true) (a.put oi.dst v) w → Gated P md ops Q k S (n + 1) ls a w := by
  intro n
  induction n with
  | zero =>
    intro ls a w _ hr hy hRw _ hSw H
    refine ⟨fun h => (by rw [h] at hr; cases hr), fun j hj => ?_⟩
    by_cases e : j = i
    · subst e
      exact hy.wpOp hi hRw ⟨fun h => hSw (by rw [getD_set_ne true (Ne.symm hki)] at h; exact h), H⟩
    · have := ready_mono hj e
      rw [H.1] at this
      cases this
  | succ n ih =>
    intro ls a w hfree hr hy hRw hIl hSw H
    refine ⟨fun h => (by rw [h] at hr; cases hr), fun j hj => ?_⟩
    by_cases e : j = i
    · subst e
      exact hy.wpOp hi hRw ⟨fun h => hSw (by rw [getD_set_ne true (Ne.symm hki)] at h; exact h), H⟩
    · have hrun := H.2 j (ready_mono hj e)
      obtain ⟨hun, oj, hoj, hwait⟩ := mem_ready.1 hj
      have hiun := (mem_ready.1 hr).1
      have hno : ∀ x ∈ oj.after, Region.binds md x = true → x.on ≠ i := fun x hx hb heq => by
        have h1 := hwait x hx hb
        rw [heq] at h1
        rcases Nat.lt_or_ge i ls.size with h' | h'
        · simp [h'] at hiun h1; rw [hiun] at h1; cases h1
        · simp [Array.getElem?_eq_none h'] at h1
      have hput := wpOp_putIf hoj (hfree j oj hoj e hun hno) (fun cs b => Region.noSelect_spec hns i oi cs b hi) (fun cs b => Region.noSelect_spec hns j oj cs b hoj) hQ hy hrun
      have hIj : I (ls.setIfInBounds j true) := hI ls j oj hoj hno e hIl
      have hcomm : (ls.setIfInBounds i true).setIfInBounds j true = (ls.setIfInBounds j true).setIfInBounds i true := Array.setIfInBounds_comm _ _ (Ne.symm e)
      refine wpOp_mono (fun b u h => ?_) hput
      obtain ⟨hyb, hSu, hrest⟩ := h
      rw [hcomm] at hSu hrest
      have hSu' : (ls.setIfInBounds j true).getD k true = false → S u := fun h => hSu (by rw [getD_set_ne true (Ne.symm hki)]; exact h)
      refine ⟨hSu', ih (ls.setIfInBounds j true) b u (fun q oq hq hqi hqu hqn => ?_) (ready_mono hr (Ne.symm e)) hyb (hR _ u hIj hSu) hIj hSu' hrest⟩
      refine hfree q oq hq hqi ?_ hqn
      by_cases hjq : j = q
      · subst hjq; exact hun
      · rw [getD_set_ne true hjq] at hqu; exact hqu
/-- One that looks at no memory. -/
theorem Gated.take {i : Nat} {oi : Oper} {v : Value} {d : Option Tmp} {n : Nat} {ls : Array Bool} {a : Act} {w : World} (hi : ops[i]? = some oi) (hd : oi.dst = d) (hns : Region.noSelect ops = true) (hf : Region.free md ops ls i = true) (hr : (Region.ready md ops ls).contains i = true)
    (hQ : ∀ c a w, Q (.panic c) (a.put d v) w → Q (.panic c) a w) (hki : (k == i) = false) (hS : ls.getD k true = false → S w) (hy : Region.wanted oi (yielded ops a.tmps) = true ∧ ∀ w, (execOp a.eval oi).run P w = .ok (.value v) w)
    (h : Gated P md ops Q k S n (ls.setIfInBounds i true) (a.put d v) w) : Gated P md ops Q k S (n + 1) ls a w := by
  subst hd
  exact Gated.first (R := fun _ => True) (I := fun _ => True) hi hns hQ (fun _ _ _ _ _ _ _ => trivial) (fun _ _ _ _ => trivial) (by simpa using hki) n ls a w (fun j oj => Region.free_spec hi hf j oj) (by simpa using hr) (.inl ⟨hy.1, fun w _ => hy.2 w⟩) trivial trivial hS h
/-- Does operation k wait for operation i? -/
def waitsFor (md : Region.Mode) (ops : Array Oper) (k i : Nat) : Bool := match ops[k]? with
  | some o => o.after.toList.any fun e => Region.binds md e && e.on == i
  | none => false
/-- A load that the gate waits for. -/
theorem Gated.load {i : Nat} {oi : Oper} {v : Value} {d : Option Tmp} {n : Nat} {ls : Array Bool} {a : Act} {w : World} (hi : ops[i]? = some oi) (hd : oi.dst = d) (hns : Region.noSelect ops = true) (hf : Region.free md ops ls i = true) (hr : (Region.ready md ops ls).contains i = true)
    (hQ : ∀ c a w, Q (.panic c) (a.put d v) w → Q (.panic c) a w) (hki : (k == i) = false) (hwk : waitsFor md ops k i = true) (hlk : ls.getD k true = false) (hS : S w) (hy : Region.wanted oi (yielded ops a.tmps) = true ∧ ∀ w, S w → (execOp a.eval oi).run P w = .ok (.value v) w)
    (h : Gated P md ops Q k S n (ls.setIfInBounds i true) (a.put d v) w) : Gated P md ops Q k S (n + 1) ls a w := by
  subst hd
  have hki' : k ≠ i := by simpa using hki
  refine Gated.first (R := S) (I := fun ls => ls.getD k true = false) hi hns hQ (fun ls j oj hoj hno _ h => ?_) (fun ls u h hu => hu (by rw [getD_set_ne true (Ne.symm hki')]; exact h)) hki' n ls a w (fun j oj => Region.free_spec hi hf j oj) (by simpa using hr) (.inl hy) hS hlk (fun _ => hS) h
  have hjk : j ≠ k := fun e => by
    subst e
    unfold waitsFor at hwk
    rw [hoj] at hwk
    obtain ⟨e, he, hb⟩ := List.any_eq_true.1 hwk
    simp only [Bool.and_eq_true, beq_iff_eq] at hb
    exact hno e (by simpa using he) hb.1 hb.2
  rw [getD_set_ne true hjk]; exact h
/-- The one that may come up is carried out. -/
theorem Gated.step {i : Nat} {oi : Oper} {n : Nat} {ls : Array Bool} {a : Act} {w : World} (hi : ops[i]? = some oi) (hr : Region.ready md ops ls = [i]) (hk : (ls.setIfInBounds i true).getD k true = true) (hw : Region.wanted oi (yielded ops a.tmps) = true)
    (h : ∀ K : Act → World → Prop, (∀ b u, Gated P md ops Q k S n (ls.setIfInBounds i true) b u → K b u) → Oper.wp P oi a w K Q) : Gated P md ops Q k S (n + 1) ls a w := by
  refine ⟨fun e => (by rw [hr] at e; cases e), fun j hj => ?_⟩
  rw [hr] at hj
  obtain rfl : j = i := by simpa using hj
  refine wpOp_step hi fun K hK => ?_
  rw [if_pos hw]
  exact h K fun b u hb => hK b u ⟨fun e => (by rw [hk] at e; cases e), hb⟩
theorem Gated.done {n : Nat} {ls : Array Bool} {a : Act} {w : World} (hr : Region.ready md ops ls = []) (h : Q .normal a w) : Gated P md ops Q k S n ls a w := by
  cases n with
  | zero => exact ⟨hr, h⟩
  | succ n => exact ⟨fun _ => h, by rw [hr]; simp⟩
theorem wp_region_gated {id : Nat} {a : Act} {w : World} (k : Nat) (S : World → Prop) (hm : P.follows .mixedOrders = true) (h : Gated P .any ops Q k S ops.size (Array.replicate ops.size false) a w.drew) : (Code.region id ops true).wp P Q a w :=
  wp_region_any hm h.any
end
end Go.Proofs.YtcjnhemlkahgoaaDoor
end
section
namespace Go.Proofs.YtcjnhemlkahgoaaDoor
open Go.RowKit
/-- A block of its own that holds cs, and all that was there before. -/
def Rz (w1 : World) (gs : Nat) (cs : Array Value) (W : World) : Prop := W.heap[gs]? = some (.cells cs 27 (0, 0)) ∧ Below w1.heap.size w1 W ∧ w1.heap.size ≤ gs
section
variable {w1 W W' : World} {gs : Nat} {cs : Array Value}
theorem Rz.row (h : Rz w1 gs cs W) : W.heap[gs]? = some (.cells cs 27 (0, 0)) := h.1
theorem Rz.below (h : Rz w1 gs cs W) : Below w1.heap.size w1 W := h.2.1
theorem Rz.next (h : Rz w1 gs cs W) (hb : Below W.heap.size W W') : Rz w1 gs cs W' := ⟨(hb.block _ (Array.getElem?_eq_some_iff.1 h.1).1).trans h.1, h.2.1.trans (hb.mono h.2.1.size), h.2.2⟩
theorem Rz.drew (h : Rz w1 gs cs W) : Rz w1 gs cs W.drew := ⟨h.1, h.2.1.drew, h.2.2⟩
theorem rz_made (h : Below w1.heap.size w1 W) (cs : Array Value) : Rz w1 W.heap.size cs (W.alloc (.cells cs 27)) := ⟨heap_alloc_new _ _, h.alloc h.size _, h.size⟩
theorem Rz.stored {a0 a1 a2 a3 a4 a5 a6 a7 a8 a9 a10 a11 a12 a13 b0 b1 b2 b3 b4 b5 b6 b7 b8 b9 b10 b11 b12 b13 : Value} (h : Rz w1 gs #[a0, a1, a2, a3, a4, a5, a6, a7, a8, a9, a10, a11, a12, a13] W) : Rz w1 gs #[b0, b1, b2, b3, b4, b5, b6, b7, b8, b9, b10, b11, b12, b13] ((((((((((((((W.setCell ⟨gs, 0, none⟩ b0).setCell ⟨gs, 1, none⟩ b1).setCell ⟨gs, 2, none⟩ b2).setCell ⟨gs, 3, none⟩ b3).setCell ⟨gs, 4, none⟩ b4).setCell ⟨gs, 5, none⟩ b5).setCell ⟨gs, 6, none⟩ b6).setCell ⟨gs, 7, none⟩ b7).setCell ⟨gs, 8, none⟩ b8).setCell ⟨gs, 9, none⟩ b9).setCell ⟨gs, 10, none⟩ b10).setCell ⟨gs, 11, none⟩ b11).setCell ⟨gs, 12, none⟩ b12).setCell ⟨gs, 13, none⟩ b13) := ⟨stored14 h.1, h.2.1.trans (below_of_grown (stored14_grown _ _ _ _ _ _ _ _ _ _ _ _ _ _ _ _) h.2.2 h.2.1.size), h.2.2⟩
end
theorem rl2_take (l : List Nat) : Sb.rl2 (l.take 7) = Sb.rl2 l := by
  unfold Sb.rl2
  simp only [List.take_take, List.drop_take]
  rfl
theorem infoL : (Tryd.prog.info? 24).map (fun i => (i.zero, i.size, i.bytes)) = some (some (.agg #[.int .i64 0, .int .i64 0, .int .i64 0, .int .i64 0]), 4, 32) := by kernel_rfl
/-- A block of layouts is the call's own row. -/
theorem own_lays (w : World) (x0 x1 x2 x3 : Int) : (w.alloc (.cells #[.int .i64 x0, .int .i64 x1, .int .i64 x2, .int .i64 x3] 24)).ownsRow w.heap.size 24 4 (.slice (some ⟨w.heap.size, 0, none⟩) 1 1) 1 [.int .i64 x0, .int .i64 x1, .int .i64 x2, .int .i64 x3] :=
  ⟨rfl, .inr ⟨w.heap.size, 1, #[.int .i64 x0, .int .i64 x1, .int .i64 x2, .int .i64 x3], rfl, Nat.le_refl _, heap_alloc_new w _, Nat.le_refl _, by decide, rfl, rfl⟩⟩
/-- A row of two layouts. -/
theorem own_two {w : World} {base : Nat} {v : Value} {x0 x1 x2 x3 y0 y1 y2 y3 : Int} (h : w.ownsRow base 24 4 v 2 [.int .i64 x0, .int .i64 x1, .int .i64 x2, .int .i64 x3, .int .i64 y0, .int .i64 y1, .int .i64 y2, .int .i64 y3]) :
    ∃ A c, v = .slice A 2 c ∧ SlIs A 2 c ∧ Ls w w.heap.size A [⟨x0, x1, x2, x3⟩, ⟨y0, y1, y2, y3⟩] ∧ ∀ ad, A = some ad → base ≤ ad.block := by
  rcases h.2 with ⟨e, _⟩ | ⟨g, cap, cur, rfl, hb, hg, hnc, hcm, _, _⟩
  · have := h.1
    simp at this
    exact absurd e (by intro e; subst e; simp_all)
  · have hgl : g < w.heap.size := (h.lt g rfl).2
    have hc := fun k u hk => h.cells (g := g) rfl k u hk
    refine ⟨some ⟨g, 0, none⟩, cap, rfl, ⟨(fun e => by cases e), hnc, hcm⟩, fun k hk => ?_, fun ad e => by injection e with e; subst e; exact hb⟩
    have : k = 0 ∨ k = 1 := by simp at hk; omega
    rcases this with rfl | rfl
    · exact ⟨_, rfl, hgl, hc 0 _ rfl, hc 1 _ rfl, hc 2 _ rfl, hc 3 _ rfl⟩
    · exact ⟨_, rfl, hgl, hc 4 _ rfl, hc 5 _ rfl, hc 6 _ rfl, hc 7 _ rfl⟩
end Go.Proofs.YtcjnhemlkahgoaaDoor
end
section
namespace Go.Proofs.YtcjnhemlkahgoaaDoor
open Go.RowKit
theorem part_bs2 {w : World} {B : Nat} {ad : Addr} {p : List Nat} (h : Bs w B (some ad) p) (i k : Nat) (hi : 0 < i) : Bs w B (some ⟨ad.block, ad.off + i, none⟩) ((p.drop i).take k) := by
  have h1 := ((h.bsIn.drop i).bs).take k
  rwa [Option.map_some, add_pos ad i hi] at h1
theorem wrap_small642 (n : Nat) (h : n < 281474976710656) : IntKind.i64.wrap (n : Int) = (n : Int) := by
  rw [IntKind.wrap_i64]; omega
theorem info_partsL {P : Program} {t : TypeId} {z : Value} {s b : Nat} (h : (P.info? t).map (fun i => (i.zero, i.size, i.bytes)) = some (some z, s, b)) : ∃ i, P.info? t = some i ∧ i.zero = some z ∧ i.size = s ∧ i.bytes = b := by
  cases hi : P.info? t with
  | none => rw [hi] at h; cases h
  | some i =>
    rw [hi] at h
    simp only [Option.map_some, Option.some.injEq, Prod.mk.injEq] at h
    exact ⟨i, rfl, h.1, h.2.1, h.2.2⟩
theorem own_at {W : World} {b base : Nat} {x0 x1 x2 x3 : Int} (h : W.heap[b]? = some (.cells #[.int .i64 x0, .int .i64 x1, .int .i64 x2, .int .i64 x3] 24 (0, 0))) (hb : base ≤ b) : W.ownsRow base 24 4 (.slice (some ⟨b, 0, none⟩) 1 1) 1 [.int .i64 x0, .int .i64 x1, .int .i64 x2, .int .i64 x3] :=
  ⟨rfl, .inr ⟨b, 1, #[.int .i64 x0, .int .i64 x1, .int .i64 x2, .int .i64 x3], rfl, hb, h, Nat.le_refl _, by decide, rfl, rfl⟩⟩
theorem Rz.past {w1 W W' : World} {gs B : Nat} {cs : Array Value} (h : Rz w1 gs cs W) (hb : Below B W W') (hgs : gs < B) (h1 : w1.heap.size ≤ B) : Rz w1 gs cs W' := ⟨(hb.block _ hgs).trans h.1, h.2.1.trans (hb.mono h1), h.2.2⟩
theorem Rz.slice {w1 W : World} {gs : Nat} {a0 a1 a2 a3 a4 a5 a6 a7 a8 a9 a10 a11 a12 a13 : Value} (h : Rz w1 gs #[a0, a1, a2, a3, a4, a5, a6, a7, a8, a9, a10, a11, a12, a13] W) : W.cell? ⟨gs, 13, none⟩ = some a13 := by
  obtain ⟨-, -, -, -, -, -, -, -, -, -, -, -, -, c⟩ := cells14 h.1
  exact c
theorem Gated.go {P : Program} {ops : Array Oper} {Q : Exit → Act → World → Prop} {md : Region.Mode} {k : Nat} {S : World → Prop} {i : Nat} {oi : Oper} {n : Nat} {ls : Array Bool} {a : Act} {w : World} (hi : ops[i]? = some oi) (hr : Region.ready md ops ls = [i]) (hw : Region.wanted oi (yielded ops a.tmps) = true)
    (h : ∀ K : Act → World → Prop, (∀ b u, S u → Gated P md ops Q k S n (ls.setIfInBounds i true) b u → K b u) → Oper.wp P oi a w K Q) : Gated P md ops Q k S (n + 1) ls a w := by
  refine ⟨fun e => (by rw [hr] at e; cases e), fun j hj => ?_⟩
  rw [hr] at hj
  obtain rfl : j = i := by simpa using hj
  refine wpOp_step hi fun K hK => ?_
  rw [if_pos hw]
  exact h K fun b u hS hb => hK b u ⟨fun _ => hS, hb⟩
theorem Rz.last {w1 W : World} {gs : Nat} {a0 a1 a2 a3 a4 a5 a6 a7 a8 a9 a10 a11 a12 a13 b : Value} (h : Rz w1 gs #[a0, a1, a2, a3, a4, a5, a6, a7, a8, a9, a10, a11, a12, a13] W) : Rz w1 gs #[a0, a1, a2, a3, a4, a5, a6, a7, a8, a9, a10, a11, a12, b] (W.setCell ⟨gs, 13, none⟩ b) := ⟨by
    have := h.1
    simp [World.setCell, Array.getElem?_modify, this], h.2.1.trans (below_of_grown (grown_set _ _ _ _) h.2.2 h.2.1.size), h.2.2⟩
theorem Rz.alloc {w1 W : World} {gs : Nat} {cs : Array Value} (h : Rz w1 gs cs W) (o : Obj) : Rz w1 gs cs (W.alloc o) := ⟨(heap_alloc_old _ _ (Array.getElem?_eq_some_iff.1 h.1).1).trans h.1, h.2.1.alloc h.2.1.size _, h.2.2⟩
end Go.Proofs.YtcjnhemlkahgoaaDoor
end
