/-
  A region that draws its order, whose loads all come before its first store (the gate): what a load yields as long as the gate has not come up may be taken first.
-/
import Derived.OrdersHeld
import Derived.RegionTactic
import Derived.Test.YtnadbokhcmbcaaaDoorSbOne
section
namespace Go.Proofs.YtnadbokhcmbcaaaDoor
open Go
section
variable {P : Program} {ops : Array Oper} {Q : Exit → Act → World → Prop} {md : Region.Mode} {k : Nat} {S : World → Prop}
/-- Every order from here on; S holds behind every operation until the gate k has come up. -/
def Gated (P : Program) (md : Region.Mode) (ops : Array Oper) (Q : Exit → Act → World → Prop) (k : Nat) (S : World → Prop) : Nat → Array Bool → Act → World → Prop
  | 0, ls, a, w => Region.ready md ops ls = [] ∧ Q .normal a w
  | n + 1, ls, a, w => (Region.ready md ops ls = [] → Q .normal a w) ∧
      ∀ i ∈ Region.ready md ops ls, wpOp P ops Q i (fun b u => ((ls.setIfInBounds i true).getD k true = false → S u) ∧ Gated P md ops Q k S n (ls.setIfInBounds i true) b u) a w
theorem Gated.any : ∀ {n : Nat} {ls : Array Bool} {a : Act} {w : World}, Gated P md ops Q k S n ls a w → wpAny P md ops Q n ls a w
  | 0, _, _, _, h => h
  | _ + 1, _, _, _, h => ⟨h.1, fun i hi => wpOp_mono (fun _ _ h' => h'.2.any) (h.2 i hi)⟩
/-- An operation taken first: R holds wherever it may still come up (I: of what has come up by then). -/
theorem Gated.first {i : Nat} {oi : Oper} {v : Value} {R : World → Prop} {I : Array Bool → Prop} (hi : ops[i]? = some oi) (hns : Region.noSelect ops = true)
    (hQ : ∀ c a w, Q (.panic c) (a.put oi.dst v) w → Q (.panic c) a w)
    (hI : ∀ ls j oj, j ∈ Region.ready md ops ls → ops[j]? = some oj → (∀ e ∈ oj.after, Region.binds md e = true → e.on ≠ i) → j ≠ i → I ls → I (ls.setIfInBounds j true))
    (hR : ∀ ls u, I ls → ((ls.setIfInBounds i true).getD k true = false → S u) → R u) (hki : k ≠ i) :
    ∀ (n : Nat) (ls : Array Bool) (a : Act) (w : World),
      (∀ j oj, ops[j]? = some oj → j ≠ i → ls.getD j true = false → (∀ e ∈ oj.after, Region.binds md e = true → e.on ≠ i) → oi.apart ops oj = true) →
      i ∈ Region.ready md ops ls → YieldsIf P ops R oi v a → R w → I ls → (ls.getD k true = false → S w) →
      Gated P md ops Q k S n (ls.setIfInBounds i true) (a.put oi.dst v) w → Gated P md ops Q k S (n + 1) ls a w := by
  intro n
  induction n with
  | zero =>
    intro ls a w _ hr hy hRw _ hSw H
    refine ⟨fun h => (by rw [h] at hr; cases hr), fun j hj => ?_⟩
    by_cases e : j = i
    · subst e
      exact hy.wpOp hi hRw ⟨fun h => hSw (by rw [getD_set_ne true (Ne.symm hki)] at h; exact h), H⟩
    · have := ready_mono hj e
      rw [H.1] at this
      cases this
  | succ n ih =>
    intro ls a w hfree hr hy hRw hIl hSw H
    refine ⟨fun h => (by rw [h] at hr; cases hr), fun j hj => ?_⟩
    by_cases e : j = i
    · subst e
      exact hy.wpOp hi hRw ⟨fun h => hSw (by rw [getD_set_ne true (Ne.symm hki)] at h; exact h), H⟩
    · have hrun := H.2 j (ready_mono hj e)
      obtain ⟨hun, oj, hoj, hwait⟩ := mem_ready.1 hj
      have hiun := (mem_ready.1 hr).1
      have hno : ∀ x ∈ oj.after, Region.binds md x = true → x.on ≠ i := fun x hx hb heq => by
        have h1 := hwait x hx hb
        rw [heq] at h1
        rcases Nat.lt_or_ge i ls.size with h' | h'
        · simp [h'] at hiun h1; rw [hiun] at h1; cases h1
        · simp [Array.getElem?_eq_none h'] at h1
      have hput := wpOp_putIf hoj (hfree j oj hoj e hun hno) (fun cs b => Region.noSelect_spec hns i oi cs b hi) (fun cs b => Region.noSelect_spec hns j oj cs b hoj) hQ hy hrun
      have hIj : I (ls.setIfInBounds j true) := hI ls j oj hj hoj hno e hIl
      have hcomm : (ls.setIfInBounds i true).setIfInBounds j true = (ls.setIfInBounds j true).setIfInBounds i true := Array.setIfInBounds_comm _ _ (Ne.symm e)
      refine wpOp_mono (fun b u h => ?_) hput
      obtain ⟨hyb, hSu, hrest⟩ := h
      rw [hcomm] at hSu hrest
      have hSu' : (ls.setIfInBounds j true).getD k true = false → S u := fun h => hSu (by rw [getD_set_ne true (Ne.symm hki)]; exact h)
      refine ⟨hSu', ih (ls.setIfInBounds j true) b u (fun q oq hq hqi hqu hqn => ?_) (ready_mono hr (Ne.symm e)) hyb (hR _ u hIj hSu) hIj hSu' hrest⟩
      refine hfree q oq hq hqi ?_ hqn
      by_cases hjq : j = q
      · subst hjq; exact hun
      · rw [getD_set_ne true hjq] at hqu; exact hqu
/-- One that looks at no memory. -/
theorem Gated.take {i : Nat} {oi : Oper} {v : Value} {d : Option Tmp} {n : Nat} {ls : Array Bool} {a : Act} {w : World} (hi : ops[i]? = some oi) (hd : oi.dst = d) (hns : Region.noSelect ops = true) (hf : Region.free md ops ls i = true) (hr : (Region.ready md ops ls).contains i = true)
    (hQ : ∀ c a w, Q (.panic c) (a.put d v) w → Q (.panic c) a w) (hki : (k == i) = false) (hS : ls.getD k true = false → S w) (hy : Region.wanted oi (yielded ops a.tmps) = true ∧ ∀ w, (execOp a.eval oi).run P w = .ok (.value v) w)
    (h : Gated P md ops Q k S n (ls.setIfInBounds i true) (a.put d v) w) : Gated P md ops Q k S (n + 1) ls a w := by
  subst hd
  exact Gated.first (R := fun _ => True) (I := fun _ => True) hi hns hQ (fun _ _ _ _ _ _ _ _ => trivial) (fun _ _ _ _ => trivial) (by simpa using hki) n ls a w (fun j oj => Region.free_spec hi hf j oj) (by simpa using hr) (.inl ⟨hy.1, fun w _ => hy.2 w⟩) trivial trivial hS h
/-- Does operation k wait for operation i? -/
def waitsFor (md : Region.Mode) (ops : Array Oper) (k i : Nat) : Bool := match ops[k]? with
  | some o => o.after.toList.any fun e => Region.binds md e && e.on == i
  | none => false
/-- A load that the gate waits for. -/
theorem Gated.load {i : Nat} {oi : Oper} {v : Value} {d : Option Tmp} {n : Nat} {ls : Array Bool} {a : Act} {w : World} (hi : ops[i]? = some oi) (hd : oi.dst = d) (hns : Region.noSelect ops = true) (hf : Region.free md ops ls i = true) (hr : (Region.ready md ops ls).contains i = true)
    (hQ : ∀ c a w, Q (.panic c) (a.put d v) w → Q (.panic c) a w) (hki : (k == i) = false) (hwk : waitsFor md ops k i = true) (hlk : ls.getD k true = false) (hS : S w) (hy : Region.wanted oi (yielded ops a.tmps) = true ∧ ∀ w, S w → (execOp a.eval oi).run P w = .ok (.value v) w)
    (h : Gated P md ops Q k S n (ls.setIfInBounds i true) (a.put d v) w) : Gated P md ops Q k S (n + 1) ls a w := by
  subst hd
  have hki' : k ≠ i := by simpa using hki
  refine Gated.first (R := S) (I := fun ls => ls.getD k true = false) hi hns hQ (fun ls j oj _ hoj hno _ h => ?_) (fun ls u h hu => hu (by rw [getD_set_ne true (Ne.symm hki')]; exact h)) hki' n ls a w (fun j oj => Region.free_spec hi hf j oj) (by simpa using hr) (.inl hy) hS hlk (fun _ => hS) h
  have hjk : j ≠ k := fun e => by
    subst e
    unfold waitsFor at hwk
    rw [hoj] at hwk
    obtain ⟨e, he, hb⟩ := List.any_eq_true.1 hwk
    simp only [Bool.and_eq_true, beq_iff_eq] at hb
    exact hno e (by simpa using he) hb.1 hb.2
  rw [getD_set_ne true hjk]; exact h
theorem waitsFor_spec {k i : Nat} {o : Oper} (h : waitsFor md ops k i = true) (ho : ops[k]? = some o) : ∃ e ∈ o.after, Region.binds md e = true ∧ e.on = i := by
  unfold waitsFor at h
  rw [ho] at h
  obtain ⟨e, he, hb⟩ := List.any_eq_true.1 h
  simp only [Bool.and_eq_true, beq_iff_eq] at hb
  exact ⟨e, by simpa using he, hb.1, hb.2⟩
/-- A load that m waits for, for which the gate waits. -/
theorem Gated.load2 {i : Nat} (m : Nat) {oi : Oper} {v : Value} {d : Option Tmp} {n : Nat} {ls : Array Bool} {a : Act} {w : World} (hi : ops[i]? = some oi) (hd : oi.dst = d) (hns : Region.noSelect ops = true) (hf : Region.free md ops ls i = true) (hr : (Region.ready md ops ls).contains i = true)
    (hQ : ∀ c a w, Q (.panic c) (a.put d v) w → Q (.panic c) a w) (hki : (k == i) = false) (hmi : (m == i) = false) (hkm : waitsFor md ops k m = true) (hwm : waitsFor md ops m i = true) (hlk : ls.getD k true = false) (hlm : ls.getD m true = false) (hS : S w) (hy : Region.wanted oi (yielded ops a.tmps) = true ∧ ∀ w, S w → (execOp a.eval oi).run P w = .ok (.value v) w)
    (h : Gated P md ops Q k S n (ls.setIfInBounds i true) (a.put d v) w) : Gated P md ops Q k S (n + 1) ls a w := by
  subst hd
  have hki' : k ≠ i := by simpa using hki
  refine Gated.first (R := S) (I := fun ls => ls.getD k true = false ∧ ls.getD m true = false) hi hns hQ (fun ls j oj hj hoj hno _ h => ?_) (fun ls u h hu => hu (by rw [getD_set_ne true (Ne.symm hki')]; exact h.1)) hki' n ls a w (fun j oj => Region.free_spec hi hf j oj) (by simpa using hr) (.inl hy) hS ⟨hlk, hlm⟩ (fun _ => hS) h
  have hjm : j ≠ m := fun e => by
    subst e
    obtain ⟨e, he, hb, h2⟩ := waitsFor_spec hwm hoj
    exact hno e he hb h2
  have hjk : j ≠ k := fun e => by
    subst e
    obtain ⟨e, he, hb, h2⟩ := waitsFor_spec hkm hoj
    obtain ⟨_, o2, ho2, hw⟩ := mem_ready.1 hj
    rw [hoj] at ho2
    injection ho2 with ho2
    subst ho2
    have h1 := hw e he hb
    rw [h2] at h1
    rcases Nat.lt_or_ge m ls.size with h' | h'
    · have h3 := h.2
      simp [h'] at h3 h1
      rw [h3] at h1
      cases h1
    · simp [Array.getElem?_eq_none h'] at h1
  rw [getD_set_ne true hjk, getD_set_ne true hjm]; exact h
/-- The one that may come up is carried out. -/
theorem Gated.step {i : Nat} {oi : Oper} {n : Nat} {ls : Array Bool} {a : Act} {w : World} (hi : ops[i]? = some oi) (hr : Region.ready md ops ls = [i]) (hk : (ls.setIfInBounds i true).getD k true = true) (hw : Region.wanted oi (yielded ops a.tmps) = true)
    (h : ∀ K : Act → World → Prop, (∀ b u, Gated P md ops Q k S n (ls.setIfInBounds i true) b u → K b u) → Oper.wp P oi a w K Q) : Gated P md ops Q k S (n + 1) ls a w := by
  refine ⟨fun e => (by rw [hr] at e; cases e), fun j hj => ?_⟩
  rw [hr] at hj
  obtain rfl : j = i := by simpa using hj
  refine wpOp_step hi fun K hK => ?_
  rw [if_pos hw]
  exact h K fun b u hb => hK b u ⟨fun e => (by rw [hk] at e; cases e), hb⟩
/-- The same ahead of the gate: the condition goes on. -/
theorem Gated.go {P : Program} {ops : Array Oper} {Q : Exit → Act → World → Prop} {md : Region.Mode} {k : Nat} {S : World → Prop} {i : Nat} {oi : Oper} {n : Nat} {ls : Array Bool} {a : Act} {w : World} (hi : ops[i]? = some oi) (hr : Region.ready md ops ls = [i]) (hw : Region.wanted oi (yielded ops a.tmps) = true)
    (h : ∀ K : Act → World → Prop, (∀ b u, S u → Gated P md ops Q k S n (ls.setIfInBounds i true) b u → K b u) → Oper.wp P oi a w K Q) : Gated P md ops Q k S (n + 1) ls a w := by
  refine ⟨fun e => (by rw [hr] at e; cases e), fun j hj => ?_⟩
  rw [hr] at hj
  obtain rfl : j = i := by simpa using hj
  refine wpOp_step hi fun K hK => ?_
  rw [if_pos hw]
  exact h K fun b u hS hb => hK b u ⟨fun _ => hS, hb⟩
theorem Gated.done {n : Nat} {ls : Array Bool} {a : Act} {w : World} (hr : Region.ready md ops ls = []) (h : Q .normal a w) : Gated P md ops Q k S n ls a w := by
  cases n with
  | zero => exact ⟨hr, h⟩
  | succ n => exact ⟨fun _ => h, by rw [hr]; simp⟩
theorem wp_region_gated {id : Nat} {a : Act} {w : World} (k : Nat) (S : World → Prop) (hm : P.follows .mixedOrders = true) (h : Gated P .any ops Q k S ops.size (Array.replicate ops.size false) a w.drew) : (Code.region id ops true).wp P Q a w :=
  wp_region_any hm h.any
end
end Go.Proofs.YtnadbokhcmbcaaaDoor
end
