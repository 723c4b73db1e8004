/-
  The program's Order (a copy, sorted), Choose, Spare.
-/
import Derived.Test.YtmkilbogdenljaaSlOrder
import Derived.Test.YtmkilbogdenljaaSlRefs
import Derived.Test.YtmkilbogdenljaaRowApp
import Derived.Lib.SliceRun
set_option maxRecDepth 100000
namespace Go.Proofs.Ytmkilbogdenljaa
open Go.RowKit
theorem arr_cells {α : Type} {S : Shape α} {w : World} {lo B : Nat} {ad : Addr} {l : List α} (h : Arr S w lo B (some ad) l) (j : Nat) (u : Value) (hu : (S.flat l)[j]? = some u) : w.cell? (ad.add j) = some u := by
  have hm := S.pos
  have hz := S.flat_length l
  have hj : j < l.length * S.m := by
    have := (List.getElem?_eq_some_iff.1 hu).1
    omega
  have h6 : j % S.m < S.m := Nat.mod_lt _ hm
  have hl : j / S.m < l.length := (Nat.div_lt_iff_lt_mul hm).2 hj
  have e := S.flat_at l (j / S.m) (j % S.m) hl h6
  rw [Nat.div_add_mod' j S.m] at e
  have := h.cell (j / S.m) hl (j % S.m) u (e.symm.trans hu)
  rwa [Nat.div_add_mod' j S.m] at this
set_option maxHeartbeats 1000000 in
theorem slclone_any (A : Option Addr) (lo B n cap : Nat) (live : List Gm.R) (w : World) (hn : Hid (live.length = n)) (hn2 : n ≤ 100000) (hb : Hid (Arr regS w lo B A live)) :
    Calls Try.prog 24 #[.slice A n cap] w fun e w' => ∃ v, e = .returned v ∧ ARow regS 40 w' w.heap.size v n live ∧ Below w.heap.size w w' := by
  have q := fun (w : World) => Lib.run_eql_slice_nil (P := Try.prog) w 24 40 A n cap 0 0 Try.underlying24
  cases A with
  | none =>
    have h0 : n = 0 := by
      rcases Nat.eq_zero_or_pos n with h | h
      · exact h
      · obtain ⟨ad, e⟩ := hb.out.some (k := 0) (by rw [hn.out]; exact h)
        cases e
    subst h0
    have hl : live = [] := List.length_eq_zero_iff.1 hn.out
    subst hl
    go_enter Try.func24, Try.ntmps24
    go_wp2
    go_ret
    exact ⟨_, rfl, ARow.nil _ _, Below.refl _ _⟩
  | some ad =>
    obtain ⟨i0, hi0, hz0, hz1, hz2⟩ := info_parts info_reg
    have I0 := Lib.hid (And.intro hi0 (And.intro hz0 (And.intro hz1 hz2))); clear hi0 hz0 hz1 hz2
    have HO := Lib.hid (World.ownsRow_made (base := w.heap.size) (e := 40) (size := 10) w #[] 0 (Nat.le_refl _) (by unfold maxLen; omega) rfl)
    have HB : Hid (Below w.heap.size w (w.alloc (.cells #[] 40))) := (Below.refl _ w).alloc (Nat.le_refl _) _
    have HN : Hid (0 + n ≤ maxLen ∧ (0 + n) * 80 ≤ 140737488355328 ∧ (regS.flat live).length = n * 10) := ⟨by unfold maxLen; omega, by omega, by rw [Shape.flat_length, hn.out]; rfl⟩
    have HC : Hid (∀ (j : Nat) (u : Value), (regS.flat live)[j]? = some u → (w.alloc (.cells #[] 40)).cell? (ad.add j) = some u) := fun j u hu => by
      have h := arr_cells hb.out j u hu
      exact Lib.cell?_alloc_some _ h
    have HEQ := Lib.hid (hn.out)
    clear hn hb
    go_enter Try.func24, Try.ntmps24
    go_wp2_with (at_builtin; refine wpList_append_own _ rfl (.tmp 5) (.tmp 6) 24 rfl w.heap.size 40 i0 _ 10 80 Try.underlying24 I0.out.1 I0.out.2.1 I0.out.2.2.1 I0.out.2.2.2 rfl (by decide) _ 0 [] rfl HO.out ad n cap (regS.flat live) rfl HN.out.2.2 HC.out (regS.flat_one' live) HN.out.1 HN.out.2.1 HB.out.size ?_; intro v1 w1 hown1 hg1 _)
    go_ret
    refine ⟨_, rfl, ?_, HB.out.grown hg1 HB.out.size (fun k hk => Nat.le_of_eq (Option.some.inj hk))⟩
    have := hown1
    rw [Nat.zero_add, List.nil_append] at this
    exact this
set_option maxHeartbeats 1000000 in
theorem slorder_any (A : Option Addr) (lo B n cap : Nat) (live : List Gm.R) (w : World) (hn : Hid (live.length = n)) (hn2 : n ≤ 15) (hb : Hid (Arr regS w lo B A live)) :
    Calls Try.prog 10 #[.slice A n cap] w (OrdIs w (Sl.order live)) := by
  have CC := Lib.hid (slclone_any A lo B n cap live w hn (by omega) hb)
  have CS : Hid (∀ (v : Value) (W : World), ARow regS 40 W w.heap.size v n live → Calls Try.prog 25 #[v, .func (.func 26) #[] #[]] W fun e w' => e = .returned (.tuple #[]) ∧ SrtIs W w.heap.size n v live w') := fun v W h => sorts_any w.heap.size n v live W hn2 h
  have HL : Hid ((Sl.order live).length = n) := (Sl.order_length live).trans hn.out
  clear hn hb
  go_enter Try.func10, Try.ntmps10
  go_wp2_with fail
  refine CC.out.mono ?_
  rintro e w1 ⟨v, rfl, hr, hb1⟩
  have HR := Lib.hid hr
  have HB1 := Lib.hid hb1
  clear hr hb1
  go_wp2_with fail
  refine (CS.out _ _ HR.out).mono ?_
  rintro e w2 ⟨rfl, hr2, hb2⟩
  have HR2 := Lib.hid hr2
  have HB2 := Lib.hid hb2
  clear hr2 hb2
  go_wp2_with fail
  go_ret
  exact ⟨_, rfl, by rw [HL.out]; exact HR2.out, HB1.out.trans HB2.out⟩
end Go.Proofs.Ytmkilbogdenljaa
