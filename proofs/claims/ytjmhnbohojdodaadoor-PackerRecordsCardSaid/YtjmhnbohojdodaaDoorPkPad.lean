/-
  The walks of Pad and Take, the program's and the reference's, and of the reference's Frames and May.
-/
import Derived.Test.YtjmhnbohojdodaaDoorPkRows
import Derived.Test.YtjmhnbohojdodaaDoorFrRow
set_option maxRecDepth 100000
namespace Go.Proofs.YtjmhnbohojdodaaDoor
open Go.RowKit
theorem grow_grow {S : Nat → Prop} {w w' : World} {k : Nat} (h : Grow (Grow S w) w' k) (hs : w.heap.size ≤ w'.heap.size) : Grow S w k := by
  rcases h with h | h
  · exact h
  · exact .inr (Nat.le_trans hs h)
theorem Kept.grow {S : Nat → Prop} {w w' w'' : World} (h : Kept S w w') (k : Kept (Grow S w) w' w'') : Kept S w w'' :=
  h.trans' k fun i hi hlt => hi.resolve_right (by omega)
theorem one_zero (w : World) : Bs (w.alloc (.cells #[.int .u8 0] 5)) (w.heap.size + 1) (some ⟨w.heap.size, 0, none⟩) [0] := fun k hk => by
  obtain rfl : k = 0 := by simpa using hk
  refine ⟨by decide, _, rfl, Nat.lt_succ_self _, ?_⟩
  rw [arr_flat, cell_of_row _ _ _ _ _ _ (heap_alloc_new w _)]
  rfl
theorem rep_next (st : List Nat) (j : Nat) : st ++ List.replicate (j + 1) 0 = (st ++ List.replicate j 0) ++ [0] := by
  rw [List.append_assoc]
  congr 1
  exact List.replicate_succ' ..
section
variable {w : World} {S : Nat → Prop} {g : Nat} {a b c d slot seq : Int} {st : List Nat} {k : Nat}
set_option maxHeartbeats 1000000 in
theorem pkpad_any (hp : Hid (PkIs 66 w S g a b c d slot seq st k)) (hn : st.length ≤ 120773) :
    Calls Tryd.prog 14 #[.pointer (some ⟨g, 0, none⟩)] w fun e w' => e = .returned (.tuple #[]) ∧ PkIs 66 w' (Grow S w) g a b c d slot seq (Pk.pad st) k ∧ Kept S w w' := by
  have HP : Hid (Pk.pad st = st ++ List.replicate ((59 - st.length % 59) % 59) 0) := rfl
  rw [HP.out]
  obtain ⟨m, hm⟩ : ∃ m, m = (59 - st.length % 59) % 59 := ⟨_, rfl⟩
  rw [← hm]
  clear HP
  go_enter Tryd.func14, Tryd.ntmps14
  go_wp2_with fail
  go_loopg [] m (fun gk wr => gk ≤ m ∧ Hid (PkIs 66 wr (Grow S w) g a b c d slot seq (st ++ List.replicate (m - gk) 0) k) ∧ Hid (Kept S w wr))
  case atStart => exact ⟨Nat.le_refl _, by rw [Nat.sub_self, List.replicate_zero, List.append_nil]; exact hp.out.mono fun _ _ h => .inl h, Kept.refl _ _⟩
  case round =>
    obtain ⟨hgk, hpr, hkr⟩ := hrel
    have HPR := hpr
    obtain ⟨A, cp, hh, hg, hr, hne⟩ := hpr.out
    have HL : Hid ((st ++ List.replicate (m - gk) 0).length = st.length + (m - gk)) := by
      show _ = _
      rw [List.length_append, List.length_replicate]
    rw [HL.out] at hh hr
    by_cases h0 : gk = 0
    · subst h0
      have f1 : ((((st.length + (m - 0) : Nat) : Int) % 59) != 0) = false := by simp only [bne_eq_false_iff_eq]; omega
      obtain ⟨-, -, -, -, -, -, z6, -⟩ := pk8 hh
      clear hh hg hr hne hm
      generalize st.length + (m - 0) = q at *
      go_wp2
      go_end0
      exact ⟨rfl, by simpa using HPR.out, hkr.out⟩
    · have f1 : ((((st.length + (m - gk) : Nat) : Int) % 59) != 0) = true := by rw [bne_iff_ne]; omega
      obtain ⟨-, -, -, -, -, -, z6, -⟩ := pk8 hh
      have hq : st.length + (m - gk) ≤ 130000 := by omega
      have HB : Hid (Below wr.heap.size wr (wr.alloc (.cells #[.int .u8 0] 5))) := (Below.refl _ wr).alloc (Nat.le_refl _) _
      have HH := Lib.hid ((HB.out.block g (Array.getElem?_eq_some_iff.1 hh).1).trans hh)
      have HR := Lib.hid ((hr.new HB.out).self)
      have HG := Lib.hid (And.intro hg (And.intro hr hne))
      have HZ := Lib.hid (one_zero wr)
      have HN : Hid (st ++ List.replicate (m - (gk - 1)) 0 = (st ++ List.replicate (m - gk) 0) ++ [0]) := by
        show _ = _
        rw [show m - (gk - 1) = (m - gk) + 1 by omega, rep_next]
      have hone := Nat.pos_of_ne_zero h0
      clear hh hg hr hne hm HL h0
      generalize hst : st ++ List.replicate (m - gk) 0 = s1 at *
      clear hst
      generalize st.length + (m - gk) = q at *
      go_wp2_with (at_builtin; refine append_sbytes rfl (.tmp 15) (.tmp 16) rfl _ q s1 rfl HR.out (some ⟨wr.heap.size, 0, none⟩) (wr.heap.size + 1) 1 1 [0] rfl ⟨(fun e => by cases e), Nat.le_refl _, by decide⟩ rfl HZ.out (by omega) ?_; intro v4 w4 hr4 hk4; obtain ⟨A4, c4, rfl, hs4⟩ := hr4.open_; have HH4 := Lib.hid (own_keeps HH.out HG.out.2.2 hk4); have HR4 := Lib.hid hr4; have HK4 := Lib.hid hk4; clear hr4 hk4 hs4 z6; obtain ⟨-, -, -, -, -, -, z6, -⟩ := pk8 HH4.out; obtain ⟨f6, -⟩ := pk8f HH4.out)
      have HFIN := Lib.hid (pk_grown HH.out HG.out.1 (HG.out.2.1.new HB.out) HG.out.2.2 HR4.out HK4.out HB.out)
      clear z6 f6
      generalize w4.setCell ⟨g, 6, none⟩ (.slice A4 (q + 1) c4) = w5 at *
      go_wp2
      go_roundg (gk - 1)
      case measure => omega
      case rel => exact ⟨by omega, by rw [HN.out]; exact HFIN.out.1.mono fun i _ e => grow_grow e hkr.out.size, hkr.out.grow HFIN.out.2⟩
set_option maxHeartbeats 1000000 in
theorem refpkpad_any (hp : Hid (PkIs 36 w S g a b c d slot seq st k)) (hn : st.length ≤ 120773) :
    Calls Tryd.prog 15 #[.pointer (some ⟨g, 0, none⟩)] w fun e w' => e = .returned (.tuple #[]) ∧ PkIs 36 w' (Grow S w) g a b c d slot seq (Pk.pad st) k ∧ Kept S w w' := by
  have HP : Hid (Pk.pad st = st ++ List.replicate ((59 - st.length % 59) % 59) 0) := rfl
  rw [HP.out]
  obtain ⟨m, hm⟩ : ∃ m, m = (59 - st.length % 59) % 59 := ⟨_, rfl⟩
  rw [← hm]
  clear HP
  go_enter Tryd.func15, Tryd.ntmps15
  go_wp2_with fail
  go_loopg [] m (fun gk wr => gk ≤ m ∧ Hid (PkIs 36 wr (Grow S w) g a b c d slot seq (st ++ List.replicate (m - gk) 0) k) ∧ Hid (Kept S w wr))
  case atStart => exact ⟨Nat.le_refl _, by rw [Nat.sub_self, List.replicate_zero, List.append_nil]; exact hp.out.mono fun _ _ h => .inl h, Kept.refl _ _⟩
  case round =>
    obtain ⟨hgk, hpr, hkr⟩ := hrel
    have HPR := hpr
    obtain ⟨A, cp, hh, hg, hr, hne⟩ := hpr.out
    have HL : Hid ((st ++ List.replicate (m - gk) 0).length = st.length + (m - gk)) := by
      show _ = _
      rw [List.length_append, List.length_replicate]
    rw [HL.out] at hh hr
    by_cases h0 : gk = 0
    · subst h0
      have f1 : ((((st.length + (m - 0) : Nat) : Int) % 59) != 0) = false := by simp only [bne_eq_false_iff_eq]; omega
      obtain ⟨-, -, -, -, -, -, z6, -⟩ := pk8 hh
      clear hh hg hr hne hm
      generalize st.length + (m - 0) = q at *
      go_wp2
      go_end0
      exact ⟨rfl, by simpa using HPR.out, hkr.out⟩
    · have f1 : ((((st.length + (m - gk) : Nat) : Int) % 59) != 0) = true := by rw [bne_iff_ne]; omega
      obtain ⟨-, -, -, -, -, -, z6, -⟩ := pk8 hh
      have hq : st.length + (m - gk) ≤ 130000 := by omega
      have HB : Hid (Below wr.heap.size wr (wr.alloc (.cells #[.int .u8 0] 5))) := (Below.refl _ wr).alloc (Nat.le_refl _) _
      have HH := Lib.hid ((HB.out.block g (Array.getElem?_eq_some_iff.1 hh).1).trans hh)
      have HR := Lib.hid ((hr.new HB.out).self)
      have HG := Lib.hid (And.intro hg (And.intro hr hne))
      have HZ := Lib.hid (one_zero wr)
      have HN : Hid (st ++ List.replicate (m - (gk - 1)) 0 = (st ++ List.replicate (m - gk) 0) ++ [0]) := by
        show _ = _
        rw [show m - (gk - 1) = (m - gk) + 1 by omega, rep_next]
      have hone := Nat.pos_of_ne_zero h0
      clear hh hg hr hne hm HL h0
      generalize hst : st ++ List.replicate (m - gk) 0 = s1 at *
      clear hst
      generalize st.length + (m - gk) = q at *
      go_wp2_with (at_builtin; refine append_sbytes rfl (.tmp 13) (.tmp 14) rfl _ q s1 rfl HR.out (some ⟨wr.heap.size, 0, none⟩) (wr.heap.size + 1) 1 1 [0] rfl ⟨(fun e => by cases e), Nat.le_refl _, by decide⟩ rfl HZ.out (by omega) ?_; intro v4 w4 hr4 hk4; obtain ⟨A4, c4, rfl, hs4⟩ := hr4.open_; have HH4 := Lib.hid (own_keeps HH.out HG.out.2.2 hk4); have HR4 := Lib.hid hr4; have HK4 := Lib.hid hk4; clear hr4 hk4 hs4 z6; obtain ⟨-, -, -, -, -, -, z6, -⟩ := pk8 HH4.out; obtain ⟨f6, -⟩ := pk8f HH4.out)
      have HFIN := Lib.hid (pk_grown HH.out HG.out.1 (HG.out.2.1.new HB.out) HG.out.2.2 HR4.out HK4.out HB.out)
      clear z6 f6
      generalize w4.setCell ⟨g, 6, none⟩ (.slice A4 (q + 1) c4) = w5 at *
      go_wp2
      go_roundg (gk - 1)
      case measure => omega
      case rel => exact ⟨by omega, by rw [HN.out]; exact HFIN.out.1.mono fun i _ e => grow_grow e hkr.out.size, hkr.out.grow HFIN.out.2⟩
end
end Go.Proofs.YtjmhnbohojdodaaDoor
