/-
  The reference's list of items: Remove and Add.
-/
import Derived.Test.YtlhjofcpcccdpaaChRef
set_option maxRecDepth 100000
namespace Go.Proofs.Ytlhjofcpcccdpaa
open Go.RowKit Go.Maps
theorem ch_drew {S : Nat → Prop} {w w' : World} (h : Kept S w w') : Kept S w w'.drew := ⟨h.os, h.tape, h.output, h.size, h.block⟩
theorem op_srow_to {P : Program} {w : World} {S : Nat → Prop} {o : Oper} {a : Act} {K : Act → World → Prop} {Q : Exit → Act → World → Prop} (d : Tmp) (hd : o.dst = some d) (s x : Operand) (t : TypeId)
    (ho : o.op = .call { callee := .builtin .append, args := #[s, x], argTypes := #[t, t] })
    (e : TypeId) (z : Value) (size bytes : Nat) (ht : P.underlying t = some (.slice e)) (hi : (P.info? e).map (fun i => (i.zero, i.size, i.bytes)) = some (some z, size, bytes))
    (hzs : z.cells.size = size) (hsz : 0 < size)
    (v : Value) (n : Nat) (xs : List Value) (hs : a.eval s = v) (hown : SRow S e size w v n xs)
    (A : Option Addr) (m c : Nat) (news : List Value) (hx : a.eval x = .slice A m c) (hA : A = none → m = 0 ∧ c = 0) (hl : news.length = m * size)
    (hnews : ∀ ad, A = some ad → ∀ j u, news[j]? = some u → w.cell? (ad.add j) = some u) (h1 : ∀ u ∈ news, u.oneCell' = true)
    (h63 : n + m ≤ maxLen) (hbytes : (n + m) * bytes ≤ 140737488355328)
    (h : ∀ v' w', SRow (Grow S w) e size w' v' (n + m) (xs ++ news) → Kept S w w' → K (a.put (some d) v') w') : o.wp P a w K Q :=
  op_append_srow s x t ho e z size bytes ht hi hzs hsz v n xs hs hown A m c news hx hA hl hnews h1 h63 hbytes fun v' w' h1 h2 => by rw [hd]; exact h v' w' h1 h2
theorem op_one_to {α : Type} {Sh : Shape α} {P : Program} {w : World} {S : Nat → Prop} {o : Oper} {a : Act} {K : Act → World → Prop} {Q : Exit → Act → World → Prop} {e : TypeId} {zv : Value} {bytes : Nat} (d : Tmp) (hd : o.dst = some d) (s x : Operand) (t : TypeId) (ho : o.op = .call { callee := .builtin .append, args := #[s, x], argTypes := #[t, t] })
    (ht : P.underlying t = some (.slice e)) (hi : (P.info? e).map (fun i => (i.zero, i.size, i.bytes)) = some (some zv, Sh.m, bytes)) (hzs : zv.cells.size = Sh.m)
    (v : Value) (n : Nat) (l : List α) (hs : a.eval s = v) (hown : SRow S e Sh.m w v n (Sh.flat l)) (g c : Nat) (p : α) (hx : a.eval x = .slice (some ⟨g, 0, none⟩) 1 c) (hg : w.heap[g]? = some (.cells (Sh.cs p).toArray e (0, 0))) (h63 : n ≤ 1000000) (hbytes : (n + 1) * bytes ≤ 140737488355328)
    (h : ∀ v' w', SRow (Grow S w) e Sh.m w' v' (n + 1) (Sh.flat (l ++ [p])) → Kept S w w' → K (a.put (some d) v') w') : o.wp P a w K Q :=
  op_append_one s x t ho ht hi hzs v n l hs hown g c p hx hg h63 hbytes fun v' w' h1 h2 => by rw [hd]; exact h v' w' h1 h2
/-- The box with a new row. -/
theorem cr_new {R : Nat → Prop} {w w1 w4 : World} {m n z : Nat} {v v4 : Value} {xs : List Value} (hz : w1.heap.size = z) (hb1 : Below w.heap.size w w1) (hk : Kept (fun k => z ≤ k) w1 w4) (hR : R m) (hm0 : m < w.heap.size) (hm : w4.heap[m]? = some (.cells #[v] 28 (0, 0))) (hr : SRow (fun k => z ≤ k) 38 3 w4 v4 n xs) :
    Kept R w (w4.setCell ⟨m, 0, none⟩ v4) ∧ (∀ L' : List Ch.Ent, xs = entS.flat L' → CR (Snc R w (w4.setCell ⟨m, 0, none⟩ v4)) (w4.setCell ⟨m, 0, none⟩ v4) m L') := by
  subst hz
  have h1 : Kept R w w4 := (Kept.of_new hb1 : Kept R w w1).trans' hk fun i hi hlt => by have := hb1.size; omega
  refine ⟨h1.trans (Kept.setCell w4 ⟨m, 0, none⟩ v4 hR), fun L' e => ?_⟩
  subst e
  have hn : L'.length = n := hr.len (Sh := entS)
  refine ⟨v4, .inl hR, one_set hm v4, ?_⟩
  rw [hn]
  have h2 := hr.kept (Kept.setCell (S := fun k => k = m) w4 ⟨m, 0, none⟩ v4 rfl) fun k _ h e => by have := hb1.size; omega
  exact h2.mono fun k hl h => ⟨.inr ⟨Nat.le_trans hb1.size h, hl⟩, by have := hb1.size; omega⟩
/-- What the reference's Remove does. -/
def RRem (R : Nat → Prop) (m : Nat) (s o : Int) (L : List Ch.Ent) (w : World) (e : Ending) (w' : World) : Prop :=
  ∃ y L', e = .returned (.bool y) ∧ Kept R w w' ∧ CR (Snc R w w') w' m L' ∧ Ch.Srt L' ∧ (∀ p, p ∈ L' ↔ p ∈ L ∧ ¬ (p.seq = s ∧ p.off = o)) ∧ L'.length ≤ L.length ∧ (y = true ↔ ∃ k, Ch.Ent.mk s o k ∈ L)
set_option maxHeartbeats 8000000 in
theorem refrem_any (m : Nat) (s o : Int) (L : List Ch.Ent) (R : Nat → Prop) (w : World) (hL : L.length ≤ 1000) (hS : Hid (Ch.Srt L)) (hT : Hid (CR R w m L)) :
    Calls Try.prog 10 #[.pointer (some ⟨m, 0, none⟩), .int .i64 s, .int .i64 o] w (RRem R m s o L w) := by
  have HM0 := Lib.hid hT.out.lt
  obtain ⟨A, c, hRm, hm, hr, hsl, ha, hA⟩ := hT.out.open_
  obtain ⟨n, hn⟩ : ∃ n, L.length = n := ⟨_, rfl⟩
  have HAR := Lib.hid ha
  have HAA := Lib.hid hA
  have hcap := hsl.2.2
  have hnc := hsl.2.1
  have c0 := one_cell_of hm
  rw [hn] at hm hr hL hnc c0
  have HRM := Lib.hid hRm
  have HHM0 := Lib.hid hm
  have HRV0 := Lib.hid hr
  have HN := Lib.hid hn
  clear hm hr ha hsl hn hA hRm
  go_enter Try.func10, Try.ntmps10
  go_wp2_with fail
  go_loopw [7, 13] (fun _ iv wr => ∃ i : Nat, i ≤ n ∧ iv = .int .i64 (i : Int) ∧ Hid (∀ j, j < i → ¬ ((Ch.ge L j).seq = s ∧ (Ch.ge L j).off = o)) ∧ wr = w) (fun _ i _ => n - (Go.RowKit.intOf i).toNat)
  case atStart => exact ⟨0, Nat.zero_le _, rfl, fun j h => absurd h (Nat.not_lt_zero _), rfl⟩
  case round =>
    obtain ⟨i, hi, rfl, hno, rfl⟩ := hrel
    by_cases hlt : i < n
    · have hiL : i < L.length := by rw [HN.out]; exact hlt
      obtain ⟨ad, rfl⟩ := HAR.out.some hiL
      obtain ⟨g, rfl⟩ : ∃ g, ad = ⟨g, 0, none⟩ := by
        rcases HAA.out with h | ⟨g, h, -⟩
        · cases h
        · injection h with h; exact ⟨g, h⟩
      obtain ⟨⟨s0, o0, k0⟩, hp⟩ : ∃ p, Ch.ge L i = p := ⟨_, rfl⟩
      obtain ⟨m0, m1, -⟩ := ents_at HAR.out i hiL _ _ _ hp
      have HPP := Lib.hid hp
      have HiL := Lib.hid hiL
      have HNEXT : Hid (¬ (s0 = s ∧ o0 = o) → ∀ j, j < i + 1 → ¬ ((Ch.ge L j).seq = s ∧ (Ch.ge L j).off = o)) := fun hn j hj => by
        rcases Nat.lt_or_ge j i with h | h
        · exact hno.out j h
        · obtain rfl : j = i := by omega
          rw [HPP.out]; exact hn
      clear hp hiL
      by_cases hss : s0 = s
      · have hb0 : (s0 == s) = true := by rw [beq_iff_eq]; exact hss
        by_cases hoo : o0 = o
        · have hb1 : (o0 == o) = true := by rw [beq_iff_eq]; exact hoo
          subst hss hoo
          obtain ⟨z, hz⟩ : ∃ z, wr.heap.size = z := ⟨_, rfl⟩
          have HZ := Lib.hid hz
          have HSE := Lib.hid (Ch.srt_del hS.out HiL.out (show (Ch.ge L i).seq = s0 by rw [HPP.out]) (show (Ch.ge L i).off = o0 by rw [HPP.out]))
          have HMEM : Hid (∃ k, Ch.Ent.mk s0 o0 k ∈ L) := ⟨k0, by rw [← HPP.out, Ch.ge_in HiL.out]; exact List.getElem_mem _⟩
          obtain ⟨i1, hi1⟩ : ∃ i1, i + 1 = i1 := ⟨_, rfl⟩
          have hi1c : (i : Int) + 1 = (i1 : Int) := by omega
          have hi1n : i1 ≤ n := by omega
          have hic : i ≤ c := by omega
          have hi1cc : i1 ≤ c := by omega
          have hwr : IntKind.i64.wrap (i1 : Int) = (i1 : Int) := by rw [IntKind.wrap_i64]; omega
          rw [hi1] at HSE
          have HFIN : Hid (∀ w', Kept R wr w' → (∀ L' : List Ch.Ent, entS.flat (L.take i) ++ entS.flat (L.drop i1) = entS.flat L' → CR (Snc R wr w') w' m L') → RRem R m s0 o0 L wr (.returned (.bool true)) w') := fun w' hk hr => by
            refine ⟨true, L.take i ++ L.drop i1, rfl, hk, hr _ (entS.flat_append _ _).symm, HSE.out.1, HSE.out.2, ?_, fun _ => HMEM.out, fun _ => rfl⟩
            rw [List.length_append, List.length_take, List.length_drop, HN.out]
            omega
          have HHM : Hid (∀ W, Kept (fun k => z ≤ k) wr W → W.heap[m]? = some (.cells #[.slice (some ⟨g, 0, none⟩) n c] 28 (0, 0))) := fun W hW => by
            have hl := (Array.getElem?_eq_some_iff.1 HHM0.out).1
            exact (hW.block m hl (by omega)).trans HHM0.out
          have HCM : Hid (∀ W, Kept (fun k => z ≤ k) wr W → W.cell? ⟨m, 0, none⟩ = some (.slice (some ⟨g, 0, none⟩) n c)) := fun W hW => one_cell_of (HHM.out W hW)
          have HFM : Hid (∀ W, Kept (fun k => z ≤ k) wr W → W.frozen? ⟨m, 0, none⟩ = false) := fun W hW => frozen_of_row W m _ _ _ (HHM.out W hW)
          have HRV : Hid (∀ W, Kept (fun k => z ≤ k) wr W → SRow (fun k => R k ∧ k ≠ m) 38 3 W (.slice (some ⟨g, 0, none⟩) n c) n (entS.flat L)) := fun W hW => HRV0.out.kept hW fun k hl _ => by omega
          have HLT : Hid ((entS.flat (L.take i)).length = i * 3) := ent_take (by rw [HN.out]; exact hi)
          have HLD : Hid ((entS.flat (L.drop i1)).length = (n - i1) * 3) := ent_drop HN.out
          have HIL : Hid (i1 ≤ L.length) := by show _ ≤ _; rw [HN.out]; exact hi1n
          have HKa : Hid (Kept (fun k => z ≤ k) wr wr.drew) := ch_drew (Kept.refl _ _)
          have HB1 : Hid (Below wr.heap.size wr wr) := Below.refl _ _
          clear hz hi1 HMEM HSE hT HPP HNEXT
          go_upto_region 5 with fail
          clear m0 m1 c0
          refine wp_region_held_drew (S := fun _ => True) (by kernel_rfl) (trivial) (fun hH => ?_)
          change wpAnyH _ _ _ _ _ 19 #[false, false, false, false, false, false, false, false, false, false, false, false, false, false, false, false, false, false, false] _ _
          clear hH
          generalize wr.drew = wa at *
          refine held_take (i := 0) (v := ?_) (d := some 38) rfl rfl (by kernel_rfl) (by kernel_rfl) (by kernel_rfl) (fun _ _ _ h => h) (trivial) ⟨?_, fun w hSw => ?_⟩ ?_
          rotate_left 1
          · rfl
          · (go_simp; all_goals with_reducible rfl)
          simp only [Act.put, List.setIfInBounds_toArray, List.set_cons_zero, List.set_cons_succ]
          refine held_take (i := 1) (v := ?_) (d := some 39) rfl rfl (by kernel_rfl) (by kernel_rfl) (by kernel_rfl) (fun _ _ _ h => h) (trivial) ⟨?_, fun w hSw => ?_⟩ ?_
          rotate_left 1
          · rfl
          · (go_simp; all_goals with_reducible rfl)
          simp only [Act.put, List.setIfInBounds_toArray, List.set_cons_zero, List.set_cons_succ]
          refine held_take (i := 2) (v := ?_) (d := some 40) rfl rfl (by kernel_rfl) (by kernel_rfl) (by kernel_rfl) (fun _ _ _ h => h) (trivial) ⟨?_, fun w hSw => ?_⟩ ?_
          rotate_left 1
          · rfl
          · (go_simp; all_goals with_reducible rfl)
          simp only [Act.put, List.setIfInBounds_toArray, List.set_cons_zero, List.set_cons_succ]
          refine held_take (i := 3) (v := ?_) (d := some 41) rfl rfl (by kernel_rfl) (by kernel_rfl) (by kernel_rfl) (fun _ _ _ h => h) (trivial) ⟨?_, fun w hSw => ?_⟩ ?_
          rotate_left 1
          · rfl
          · (go_simp; all_goals with_reducible rfl)
          simp only [Act.put, List.setIfInBounds_toArray, List.set_cons_zero, List.set_cons_succ]
          refine held_take (i := 5) (v := ?_) (d := some 43) rfl rfl (by kernel_rfl) (by kernel_rfl) (by kernel_rfl) (fun _ _ _ h => h) (trivial) ⟨?_, fun w hSw => ?_⟩ ?_
          rotate_left 1
          · rfl
          · (go_simp; all_goals with_reducible rfl)
          simp only [Act.put, List.setIfInBounds_toArray, List.set_cons_zero, List.set_cons_succ]
          refine held_take (i := 8) (v := ?_) (d := some 46) rfl rfl (by kernel_rfl) (by kernel_rfl) (by kernel_rfl) (fun _ _ _ h => h) (trivial) ⟨?_, fun w hSw => ?_⟩ ?_
          rotate_left 1
          · rfl
          · (go_simp; all_goals with_reducible rfl)
          simp only [Act.put, List.setIfInBounds_toArray, List.set_cons_zero, List.set_cons_succ]
          refine held_take (i := 9) (v := ?_) (d := some 47) rfl rfl (by kernel_rfl) (by kernel_rfl) (by kernel_rfl) (fun _ _ _ h => h) (trivial) ⟨?_, fun w hSw => ?_⟩ ?_
          rotate_left 1
          · rfl
          · (go_simp; all_goals with_reducible rfl)
          simp only [Act.put, List.setIfInBounds_toArray, List.set_cons_zero, List.set_cons_succ]
          refine held_take (i := 10) (v := ?_) (d := some 48) rfl rfl (by kernel_rfl) (by kernel_rfl) (by kernel_rfl) (fun _ _ _ h => h) (trivial) ⟨?_, fun w hSw => ?_⟩ ?_
          rotate_left 1
          · rfl
          · (go_simp; all_goals with_reducible rfl)
          simp only [Act.put, List.setIfInBounds_toArray, List.set_cons_zero, List.set_cons_succ]
          refine held_take (i := 12) (v := ?_) (d := some 50) rfl rfl (by kernel_rfl) (by kernel_rfl) (by kernel_rfl) (fun _ _ _ h => h) (trivial) ⟨?_, fun w hSw => ?_⟩ ?_
          rotate_left 1
          · rfl
          · (go_simp; all_goals with_reducible rfl)
          simp only [Act.put, List.setIfInBounds_toArray, List.set_cons_zero, List.set_cons_succ]
          refine held_take (i := 13) (v := ?_) (d := some 51) rfl rfl (by kernel_rfl) (by kernel_rfl) (by kernel_rfl) (fun _ _ _ h => h) (trivial) ⟨?_, fun w hSw => ?_⟩ ?_
          rotate_left 1
          · rfl
          · (go_simp; all_goals with_reducible rfl)
          simp only [Act.put, List.setIfInBounds_toArray, List.set_cons_zero, List.set_cons_succ]
          refine hold_two (i := 4) (j := 11) rfl rfl (by kernel_rfl) (by rfl) (by rfl) (fun K hK => ?_) (fun K hK => ?_)
          · have z0 := HCM.out _ HKa.out
            go_simp
            clear z0
            refine hK _ _ (trivial) ?_
            clear hK K
            simp only [List.setIfInBounds_toArray, List.set_cons_zero, List.set_cons_succ]
            refine held_take (i := 6) (v := ?_) (d := some 44) rfl rfl (by kernel_rfl) (by kernel_rfl) (by kernel_rfl) (fun _ _ _ h => h) (trivial) ⟨?_, fun w hSw => ?_⟩ ?_
            rotate_left 1
            · rfl
            · (go_simp; all_goals with_reducible rfl)
            simp only [Act.put, List.setIfInBounds_toArray, List.set_cons_zero, List.set_cons_succ]
            refine hold_two (i := 7) (j := 11) rfl rfl (by kernel_rfl) (by rfl) (by rfl) (fun K hK => ?_) (fun K hK => ?_)
            · refine op_srow_to 45 rfl (.const (.slice none 0 0)) (.tmp 44) 26 rfl 38 _ 3 32 Try.underlying26 info_ent (by rfl) (by decide) (.slice none 0 0) 0 [] rfl (SRow.nil (S := fun k => z ≤ k)) _ _ _ (entS.flat (L.take i)) rfl (fun e => by cases e) HLT.out (srow_front (Sh := entS) (HRV.out _ HKa.out) i) (Shape.flat_one' entS _) (by unfold maxLen; omega) (by omega) ?_
              intro v2 w2x hr2 hk2
              have HK2 := Lib.hid (HKa.out.trans hk2)
              have HR2 := Lib.hid (hr2.mono fun k _ h => h.elim id fun h => by have := HZ.out; have := HKa.out.size; have h : wa.heap.size ≤ k := h; omega)
              clear hr2 hk2
              rw [Nat.zero_add, List.nil_append] at HR2
              refine hK _ _ (trivial) ?_
              clear hK K
              simp only [Act.put, List.setIfInBounds_toArray, List.set_cons_zero, List.set_cons_succ]
              refine held_step (i := 11) rfl (by kernel_rfl) ?_ (fun K hK => ?_)
              · rfl
              have z0 := HCM.out _ HK2.out
              go_simp
              clear z0
              refine hK _ _ (trivial) ?_
              clear hK K
              simp only [List.setIfInBounds_toArray, List.set_cons_zero, List.set_cons_succ]
              refine held_take (i := 14) (v := ?_) (d := some 52) rfl rfl (by kernel_rfl) (by kernel_rfl) (by kernel_rfl) (fun _ _ _ h => h) (trivial) ⟨?_, fun w hSw => ?_⟩ ?_
              rotate_left 1
              · rfl
              · (go_simp; all_goals with_reducible rfl)
              simp only [Act.put, List.setIfInBounds_toArray, List.set_cons_zero, List.set_cons_succ]
              refine held_step (i := 15) rfl (by kernel_rfl) ?_ (fun K hK => ?_)
              · rfl
              refine op_srow_to 53 rfl (.tmp 45) (.tmp 52) 26 rfl 38 _ 3 32 Try.underlying26 info_ent (by rfl) (by decide) v2 i (entS.flat (L.take i)) rfl HR2.out _ _ _ (entS.flat (L.drop i1)) rfl (fun e => by split at e <;> cases e) HLD.out (srow_back_if (HRV.out _ HK2.out) i1 HIL.out) (Shape.flat_one' entS _) (by unfold maxLen; omega) (by omega) ?_
              intro v4 w4x hr4 hk4
              have HK4 := Lib.hid (HK2.out.trans hk4)
              have HR4 := Lib.hid (hr4.mono fun k _ h => h.elim id fun h => by have := HZ.out; have := HK2.out.size; have h : w2x.heap.size ≤ k := h; omega)
              clear hr4 hk4
              obtain ⟨A4, c4, ev4, -⟩ := HR4.out.open_
              subst ev4
              refine hK _ _ (trivial) ?_
              clear hK K
              simp only [Act.put, List.setIfInBounds_toArray, List.set_cons_zero, List.set_cons_succ]
              refine held_take (i := 16) (v := ?_) (d := some 54) rfl rfl (by kernel_rfl) (by kernel_rfl) (by kernel_rfl) (fun _ _ _ h => h) (trivial) ⟨?_, fun w hSw => ?_⟩ ?_
              rotate_left 1
              · rfl
              · (go_simp; all_goals with_reducible rfl)
              simp only [Act.put, List.setIfInBounds_toArray, List.set_cons_zero, List.set_cons_succ]
              refine held_take (i := 17) (v := ?_) (d := some 55) rfl rfl (by kernel_rfl) (by kernel_rfl) (by kernel_rfl) (fun _ _ _ h => h) (trivial) ⟨?_, fun w hSw => ?_⟩ ?_
              rotate_left 1
              · rfl
              · (go_simp; all_goals with_reducible rfl)
              simp only [Act.put, List.setIfInBounds_toArray, List.set_cons_zero, List.set_cons_succ]
              refine held_step (i := 18) rfl (by kernel_rfl) ?_ (fun K hK => ?_)
              · rfl
              generalize (if c = i1 then some (⟨g, 0, none⟩ : Addr) else some ⟨g, i1 * 3, none⟩) = pz
              have z0 := HCM.out _ HK4.out
              have g0 := HFM.out _ HK4.out
              go_simp
              clear z0 g0
              refine hK _ _ (trivial) ?_
              clear hK K
              simp only [List.setIfInBounds_toArray, List.set_cons_zero, List.set_cons_succ]
              refine wpAnyH_done (by kernel_rfl) ?_ _
              have HE := Lib.hid (cr_new HZ.out HB1.out HK4.out HRM.out HM0.out (HHM.out _ HK4.out) HR4.out)
              go_wp2_with fail
              go_ret
              exact HFIN.out _ HE.out.1 HE.out.2
            · have z0 := HCM.out _ HKa.out
              go_simp
              clear z0
              refine hK _ _ (trivial) ?_
              clear hK K
              simp only [List.setIfInBounds_toArray, List.set_cons_zero, List.set_cons_succ]
              refine held_take (i := 14) (v := ?_) (d := some 52) rfl rfl (by kernel_rfl) (by kernel_rfl) (by kernel_rfl) (fun _ _ _ h => h) (trivial) ⟨?_, fun w hSw => ?_⟩ ?_
              rotate_left 1
              · rfl
              · (go_simp; all_goals with_reducible rfl)
              simp only [Act.put, List.setIfInBounds_toArray, List.set_cons_zero, List.set_cons_succ]
              refine held_step (i := 7) rfl (by kernel_rfl) ?_ (fun K hK => ?_)
              · rfl
              refine op_srow_to 45 rfl (.const (.slice none 0 0)) (.tmp 44) 26 rfl 38 _ 3 32 Try.underlying26 info_ent (by rfl) (by decide) (.slice none 0 0) 0 [] rfl (SRow.nil (S := fun k => z ≤ k)) _ _ _ (entS.flat (L.take i)) rfl (fun e => by cases e) HLT.out (srow_front (Sh := entS) (HRV.out _ HKa.out) i) (Shape.flat_one' entS _) (by unfold maxLen; omega) (by omega) ?_
              intro v7 w7x hr7 hk7
              have HK7 := Lib.hid (HKa.out.trans hk7)
              have HR7 := Lib.hid (hr7.mono fun k _ h => h.elim id fun h => by have := HZ.out; have := HKa.out.size; have h : wa.heap.size ≤ k := h; omega)
              clear hr7 hk7
              rw [Nat.zero_add, List.nil_append] at HR7
              refine hK _ _ (trivial) ?_
              clear hK K
              simp only [Act.put, List.setIfInBounds_toArray, List.set_cons_zero, List.set_cons_succ]
              refine held_step (i := 15) rfl (by kernel_rfl) ?_ (fun K hK => ?_)
              · rfl
              refine op_srow_to 53 rfl (.tmp 45) (.tmp 52) 26 rfl 38 _ 3 32 Try.underlying26 info_ent (by rfl) (by decide) v7 i (entS.flat (L.take i)) rfl HR7.out _ _ _ (entS.flat (L.drop i1)) rfl (fun e => by split at e <;> cases e) HLD.out (srow_back_if (HRV.out _ HK7.out) i1 HIL.out) (Shape.flat_one' entS _) (by unfold maxLen; omega) (by omega) ?_
              intro v8 w8x hr8 hk8
              have HK8 := Lib.hid (HK7.out.trans hk8)
              have HR8 := Lib.hid (hr8.mono fun k _ h => h.elim id fun h => by have := HZ.out; have := HK7.out.size; have h : w7x.heap.size ≤ k := h; omega)
              clear hr8 hk8
              obtain ⟨A8, c8, ev8, -⟩ := HR8.out.open_
              subst ev8
              refine hK _ _ (trivial) ?_
              clear hK K
              simp only [Act.put, List.setIfInBounds_toArray, List.set_cons_zero, List.set_cons_succ]
              refine held_take (i := 16) (v := ?_) (d := some 54) rfl rfl (by kernel_rfl) (by kernel_rfl) (by kernel_rfl) (fun _ _ _ h => h) (trivial) ⟨?_, fun w hSw => ?_⟩ ?_
              rotate_left 1
              · rfl
              · (go_simp; all_goals with_reducible rfl)
              simp only [Act.put, List.setIfInBounds_toArray, List.set_cons_zero, List.set_cons_succ]
              refine held_take (i := 17) (v := ?_) (d := some 55) rfl rfl (by kernel_rfl) (by kernel_rfl) (by kernel_rfl) (fun _ _ _ h => h) (trivial) ⟨?_, fun w hSw => ?_⟩ ?_
              rotate_left 1
              · rfl
              · (go_simp; all_goals with_reducible rfl)
              simp only [Act.put, List.setIfInBounds_toArray, List.set_cons_zero, List.set_cons_succ]
              refine held_step (i := 18) rfl (by kernel_rfl) ?_ (fun K hK => ?_)
              · rfl
              generalize (if c = i1 then some (⟨g, 0, none⟩ : Addr) else some ⟨g, i1 * 3, none⟩) = pz
              have z0 := HCM.out _ HK8.out
              have g0 := HFM.out _ HK8.out
              go_simp
              clear z0 g0
              refine hK _ _ (trivial) ?_
              clear hK K
              simp only [List.setIfInBounds_toArray, List.set_cons_zero, List.set_cons_succ]
              refine wpAnyH_done (by kernel_rfl) ?_ _
              have HE := Lib.hid (cr_new HZ.out HB1.out HK8.out HRM.out HM0.out (HHM.out _ HK8.out) HR8.out)
              go_wp2_with fail
              go_ret
              exact HFIN.out _ HE.out.1 HE.out.2
          · have z0 := HCM.out _ HKa.out
            go_simp
            clear z0
            refine hK _ _ (trivial) ?_
            clear hK K
            simp only [List.setIfInBounds_toArray, List.set_cons_zero, List.set_cons_succ]
            refine held_take (i := 14) (v := ?_) (d := some 52) rfl rfl (by kernel_rfl) (by kernel_rfl) (by kernel_rfl) (fun _ _ _ h => h) (trivial) ⟨?_, fun w hSw => ?_⟩ ?_
            rotate_left 1
            · rfl
            · (go_simp; all_goals with_reducible rfl)
            simp only [Act.put, List.setIfInBounds_toArray, List.set_cons_zero, List.set_cons_succ]
            refine held_step (i := 4) rfl (by kernel_rfl) ?_ (fun K hK => ?_)
            · rfl
            have z0 := HCM.out _ HKa.out
            go_simp
            clear z0
            refine hK _ _ (trivial) ?_
            clear hK K
            simp only [List.setIfInBounds_toArray, List.set_cons_zero, List.set_cons_succ]
            refine held_take (i := 6) (v := ?_) (d := some 44) rfl rfl (by kernel_rfl) (by kernel_rfl) (by kernel_rfl) (fun _ _ _ h => h) (trivial) ⟨?_, fun w hSw => ?_⟩ ?_
            rotate_left 1
            · rfl
            · (go_simp; all_goals with_reducible rfl)
            simp only [Act.put, List.setIfInBounds_toArray, List.set_cons_zero, List.set_cons_succ]
            refine held_step (i := 7) rfl (by kernel_rfl) ?_ (fun K hK => ?_)
            · rfl
            refine op_srow_to 45 rfl (.const (.slice none 0 0)) (.tmp 44) 26 rfl 38 _ 3 32 Try.underlying26 info_ent (by rfl) (by decide) (.slice none 0 0) 0 [] rfl (SRow.nil (S := fun k => z ≤ k)) _ _ _ (entS.flat (L.take i)) rfl (fun e => by cases e) HLT.out (srow_front (Sh := entS) (HRV.out _ HKa.out) i) (Shape.flat_one' entS _) (by unfold maxLen; omega) (by omega) ?_
            intro v12 w12x hr12 hk12
            have HK12 := Lib.hid (HKa.out.trans hk12)
            have HR12 := Lib.hid (hr12.mono fun k _ h => h.elim id fun h => by have := HZ.out; have := HKa.out.size; have h : wa.heap.size ≤ k := h; omega)
            clear hr12 hk12
            rw [Nat.zero_add, List.nil_append] at HR12
            refine hK _ _ (trivial) ?_
            clear hK K
            simp only [Act.put, List.setIfInBounds_toArray, List.set_cons_zero, List.set_cons_succ]
            refine held_step (i := 15) rfl (by kernel_rfl) ?_ (fun K hK => ?_)
            · rfl
            refine op_srow_to 53 rfl (.tmp 45) (.tmp 52) 26 rfl 38 _ 3 32 Try.underlying26 info_ent (by rfl) (by decide) v12 i (entS.flat (L.take i)) rfl HR12.out _ _ _ (entS.flat (L.drop i1)) rfl (fun e => by split at e <;> cases e) HLD.out (srow_back_if (HRV.out _ HK12.out) i1 HIL.out) (Shape.flat_one' entS _) (by unfold maxLen; omega) (by omega) ?_
            intro v13 w13x hr13 hk13
            have HK13 := Lib.hid (HK12.out.trans hk13)
            have HR13 := Lib.hid (hr13.mono fun k _ h => h.elim id fun h => by have := HZ.out; have := HK12.out.size; have h : w12x.heap.size ≤ k := h; omega)
            clear hr13 hk13
            obtain ⟨A13, c13, ev13, -⟩ := HR13.out.open_
            subst ev13
            refine hK _ _ (trivial) ?_
            clear hK K
            simp only [Act.put, List.setIfInBounds_toArray, List.set_cons_zero, List.set_cons_succ]
            refine held_take (i := 16) (v := ?_) (d := some 54) rfl rfl (by kernel_rfl) (by kernel_rfl) (by kernel_rfl) (fun _ _ _ h => h) (trivial) ⟨?_, fun w hSw => ?_⟩ ?_
            rotate_left 1
            · rfl
            · (go_simp; all_goals with_reducible rfl)
            simp only [Act.put, List.setIfInBounds_toArray, List.set_cons_zero, List.set_cons_succ]
            refine held_take (i := 17) (v := ?_) (d := some 55) rfl rfl (by kernel_rfl) (by kernel_rfl) (by kernel_rfl) (fun _ _ _ h => h) (trivial) ⟨?_, fun w hSw => ?_⟩ ?_
            rotate_left 1
            · rfl
            · (go_simp; all_goals with_reducible rfl)
            simp only [Act.put, List.setIfInBounds_toArray, List.set_cons_zero, List.set_cons_succ]
            refine held_step (i := 18) rfl (by kernel_rfl) ?_ (fun K hK => ?_)
            · rfl
            generalize (if c = i1 then some (⟨g, 0, none⟩ : Addr) else some ⟨g, i1 * 3, none⟩) = pz
            have z0 := HCM.out _ HK13.out
            have g0 := HFM.out _ HK13.out
            go_simp
            clear z0 g0
            refine hK _ _ (trivial) ?_
            clear hK K
            simp only [List.setIfInBounds_toArray, List.set_cons_zero, List.set_cons_succ]
            refine wpAnyH_done (by kernel_rfl) ?_ _
            have HE := Lib.hid (cr_new HZ.out HB1.out HK13.out HRM.out HM0.out (HHM.out _ HK13.out) HR13.out)
            go_wp2_with fail
            go_ret
            exact HFIN.out _ HE.out.1 HE.out.2
        · have hb1 : (o0 == o) = false := by rw [beq_eq_false_iff_ne]; exact hoo
          have HNX := Lib.hid (HNEXT.out fun h => hoo h.2)
          clear hoo
          go_wp2_with fail
          go_roundw
          case rel => exact ⟨i + 1, by omega, by go_num, HNX, trivial⟩
          case measure => simp [Go.RowKit.intOf]; omega
      · have hb0 : (s0 == s) = false := by rw [beq_eq_false_iff_ne]; exact hss
        have HNX := Lib.hid (HNEXT.out fun h => hss h.1)
        clear hss
        go_wp2_with fail
        go_roundw
        case rel => exact ⟨i + 1, by omega, by go_num, HNX, trivial⟩
        case measure => simp [Go.RowKit.intOf]; omega
    · obtain rfl : i = n := by omega
      have HNO : Hid (∀ p ∈ L, ¬ (p.seq = s ∧ p.off = o)) := fun p hp => by
        obtain ⟨j, hj, rfl⟩ := List.getElem_of_mem hp
        rw [← Ch.ge_in hj]
        exact hno.out j (by rw [← HN.out]; exact hj)
      have HFIN : Hid (RRem R m s o L wr (.returned (.bool false)) wr) :=
        ⟨false, L, rfl, Kept.refl _ _, hT.out.mono fun k _ h => .inl h, hS.out, fun p => ⟨fun h => ⟨h, HNO.out p h⟩, fun h => h.1⟩, Nat.le_refl _, fun h => (by cases h), fun ⟨k, hk⟩ => absurd ⟨rfl, rfl⟩ (HNO.out _ hk)⟩
      clear hlt
      go_wp2_with fail
      go_ret
      exact HFIN.out
end Go.Proofs.Ytlhjofcpcccdpaa
