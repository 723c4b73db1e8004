/-
  The texts PkTake, PkRefTake, PkFrames of this proof, one behind the other.
-/
import Derived.Test.YtgnbmmceffolmaaGreatDoorFoldG
import Derived.Test.YtgnbmmceffolmaaGreatDoorFoldF
section
set_option maxRecDepth 100000
namespace Go.Proofs.YtgnbmmceffolmaaGreatDoor
open Go.RowKit
section
variable {w : World} {S : Nat → Prop} {g : Nat} {a b c d slot seq : Int} {st : List Nat} {k : Nat}
set_option maxHeartbeats 2000000 in
theorem pktake_any (hp : Hid (PkIs 134 w S g a b c d slot seq st k)) (hf : Pk.Fit ⟨a, b, c, d⟩ slot seq st k) (h0 : ¬ S 0) (ht : Hid (TabW w)) (hz : 0 < w.heap.size) :
    Calls Tryz.prog 94 #[.pointer (some ⟨g, 0, none⟩)] w (PkTook 134 w S g a b c d slot seq st k) := by
  have HF := Lib.hid hf
  have h120 := hf.short
  have hfk := hf.full
  have hfull := Pk.full_le hf
  have hspot := Pk.spot_le hf.ok
  have HF1 : Hid (Gm.first ⟨a, b, c, d⟩ slot = Gm.spot ⟨a, b, c, d⟩ slot) := Pk.first_eq hf.ok
  have HFD : Hid (Pk.full st = st.length / 59) := rfl
  have hfd : Pk.full st = st.length / 59 := rfl
  have CF : Hid (∀ W, Calls Tryz.prog 21 #[.agg #[.int .i64 a, .int .i64 b, .int .i64 c, .int .i64 d], .int .i64 slot] W fun r w' => r = .returned (.int .i64 (Gm.spot ⟨a, b, c, d⟩ slot)) ∧ Below W.heap.size W w') := fun W => by rw [← HF1.out]; exact gmfirst_any a b c d slot W
  have HT0 := Lib.hid (Tk.start hp.out)
  obtain ⟨n, hn⟩ : ∃ n, n = Pk.full st - k := ⟨_, rfl⟩
  have HTOOK : Hid (∀ wr col sv fv, Tk 134 w S g a b c d slot seq st k wr col n n (k + n) sv fv → PkTook 134 w S g a b c d slot seq st k (.returned (.tuple #[sv, fv])) wr) := fun wr col sv fv h => by
    rw [hn, show k + (Pk.full st - k) = Pk.full st by omega] at h
    exact h.took
  have HTAB : Hid (∀ W, Kept (fun i => S i ∧ i < w.heap.size) w W → TabW W ∧ 0 < W.heap.size) := fun W hk => ⟨fun i hi => (World.cell?_of_block (hk.block 0 hz fun e => h0 e.1)).trans (ht.out i hi), Nat.lt_of_lt_of_le hz hk.size⟩
  have HFR : Hid (∀ x : Int, ∀ W i, PkIs 134 W (fun i => S i ∧ i < w.heap.size) g a b c d slot seq st i → i < Pk.full st → x = Pk.sec ⟨a, b, c, d⟩ slot i → TabW W → 0 < W.heap.size → Calls Tryz.prog 112 #[.pointer (some ⟨g, 0, none⟩), .int .i64 x, .int .i64 (i : Int)] W fun e w' => ∃ A' c', e = .returned (.slice A' 64 c') ∧ w'.ownsRow W.heap.size 5 1 (.slice A' 64 c') 64 (vals (Pk.frame ⟨a, b, c, d⟩ slot seq st i)) ∧ Below W.heap.size W w') := fun x W i h1 h2 h3 h4 h5 =>
    pkframe_any h1 (hf.take (Nat.le_of_lt h2)) i h2 x h3 h4 h5
  go_enter Tryz.func94, Tryz.ntmps94
  go_wp2_with fail
  go_loopg [2, 3] n (fun gk sv fv wr => gk ≤ n ∧ ∃ col, Hid (Tk 134 w S g a b c d slot seq st k wr col (n - gk) (n - gk) (k + (n - gk)) sv fv))
  case atStart => exact ⟨Nat.le_refl _, fun _ => 0, by rw [Nat.sub_self]; exact HT0.out⟩
  case round =>
    obtain ⟨hgk, col, HT⟩ := hrel
    obtain ⟨A, cp, hh, -, hr, hne⟩ := HT.out.pk
    obtain ⟨z0, z1, z2, z3, z4, z5, z6, z7⟩ := pk8 hh
    have HD : Hid (Below wr.heap.size wr wr.drew) := below_drewN wr 1
    have HTD := Lib.hid (HT.out.new HD.out)
    have HS0 := Lib.hid (sd_here (show wr.drew.heap[g]? = _ from hh))
    by_cases hg0 : gk = 0
    · subst hg0
      rw [Nat.sub_zero] at *
      have f1 : decide (((k + n : Nat) : Int) < (st.length : Int) / 59) = false := by simp only [decide_eq_false_iff_not]; omega
      clear hh hr hne hn hfk hfull hspot HT hf hfd
      generalize hq : st.length = q at *
      clear hq
      generalize k + n = t at *
      go_wp2_with fail
      go_region
      all_goals
        go_wp2
        go_ret2
        exact HTOOK.out _ _ _ _ HTD.out
    · obtain ⟨j, hj⟩ : ∃ j, j = n - gk := ⟨_, rfl⟩
      obtain ⟨t, htj⟩ : ∃ t, t = k + j := ⟨_, rfl⟩
      have hjn : n - (gk - 1) = j + 1 := by omega
      have htn : k + (n - (gk - 1)) = t + 1 := by omega
      have htf : t < Pk.full st := by omega
      rw [← hj, ← htj] at HTD HS0 z7
      have f1 : decide ((t : Int) < (st.length : Int) / 59) = true := by simp only [decide_eq_true_eq]; omega
      have hspot1 : IntKind.i64.wrap (Gm.spot ⟨a, b, c, d⟩ slot + 1) = Gm.spot ⟨a, b, c, d⟩ slot + 1 := by rw [IntKind.wrap_i64]; omega
      have hspot2 : IntKind.i64.wrap (Gm.spot ⟨a, b, c, d⟩ slot + 1 + (t : Int)) = Gm.spot ⟨a, b, c, d⟩ slot + 1 + (t : Int) := by rw [IntKind.wrap_i64]; omega
      have HSEC : Hid (Gm.spot ⟨a, b, c, d⟩ slot + 1 + (t : Int) = Pk.sec ⟨a, b, c, d⟩ slot t) := rfl
      have HSN : Hid (Pk.secs ⟨a, b, c, d⟩ slot k (j + 1) = Pk.secs ⟨a, b, c, d⟩ slot k j ++ [Pk.sec ⟨a, b, c, d⟩ slot t]) := by show _ = _; rw [htj]; exact Pk.secs_next ..
      have HFT : Hid (Pk.frame ⟨a, b, c, d⟩ slot seq st t = Pk.frame ⟨a, b, c, d⟩ slot seq st (k + j)) := by show _ = _; rw [htj]
      have hj1 : j ≤ 1000000 := by omega
      have HJ : Hid (n - (gk - 1) = j + 1 ∧ k + (j + 1) = t + 1) := ⟨hjn, by omega⟩
      have HTF := Lib.hid htf
      have ht1 : t + 1 ≤ 2047 := by omega
      clear hh hr hne hn hfk hspot HT hf hfd hj htj hjn htn htf hfull
      generalize hsp : Gm.spot ⟨a, b, c, d⟩ slot = sp at *
      have HSP := Lib.hid hsp; clear hsp
      generalize hq : st.length = q at *
      have HQ := Lib.hid hq; clear hq
      go_wp2_with fail
      go_region
      all_goals
        generalize wr.drew = w1 at *
        clear z0 z1 z2 z3 z4 z5 z6 z7
        obtain ⟨z0, z1, z2, z3, z4, z5, z6, z7⟩ := pks8 HS0.out
        go_wp2_with fail
        go_region_held3 (fun W => W.cell? ⟨g, 0, none⟩ = some (.int .i64 a) ∧ W.cell? ⟨g, 1, none⟩ = some (.int .i64 b) ∧ W.cell? ⟨g, 2, none⟩ = some (.int .i64 c) ∧ W.cell? ⟨g, 3, none⟩ = some (.int .i64 d) ∧ W.cell? ⟨g, 4, none⟩ = some (.int .i64 slot) ∧ W.cell? ⟨g, 5, none⟩ = some (.int .i64 seq) ∧ W.cell? ⟨g, 6, none⟩ = some (.slice A q cp) ∧ W.cell? ⟨g, 7, none⟩ = some (.int .i64 (t : Int)))
          (first
            | (revert HS1; intro HS1; with_reducible exact pks8 HS1.out)
            | go_keep)
          (first
            | (go_at_call 21; refine (CF.out _).mono ?_; rintro e w2 ⟨rfl, hb2⟩; have HS1 := Lib.hid (HS0.out.next hb2 (by rfl) (by rfl) (by rfl) (by rfl)); clear hb2))
        all_goals
        clear z0 z1 z2 z3 z4 z5 z6 z7
        have HT2 := Lib.hid (HTD.out.new HS1.out.2)
        have HT3 := Lib.hid (HT2.out.new ((Below.refl _ w2).alloc (Nat.le_refl _) (.cells #[.int .i64 (sp + 1 + (t : Int))] 3)))
        have HG3 : Hid ((w2.alloc (.cells #[.int .i64 (sp + 1 + (t : Int))] 3)).heap[w2.heap.size]? = some (.cells #[.int .i64 (sp + 1 + (t : Int))] 3 (0, 0))) := heap_alloc_new _ _
        go_wp2_with (at_builtin; refine BigFrame.wpList_want rfl fun K hK => ?_; refine op_append_one (Sh := intS) (.tmp 40) (.tmp 42) 68 rfl Tryz.underlying68 info_int rfl u2 j (Pk.secs ⟨a, b, c, d⟩ slot k j) rfl HT3.out.secs w2.heap.size 1 (sp + 1 + (t : Int)) rfl HG3.out hj1 (by omega) ?_; intro v4 w4 hr4 hk4; refine hK _ _ ?_; have HR4 := Lib.hid hr4; have HK4 := Lib.hid hk4; clear hr4 hk4 hK K; obtain ⟨col4, HT4⟩ : ∃ col4, Hid (Tk 134 w S g a b c d slot seq st k w4 col4 (j + 1) j t v4 u3) := ⟨_, HT3.out.sec (by rw [HSN.out, ← HSEC.out]; exact HR4.out) HK4.out⟩; clear HT2 HT3 HG3 HR4 HK4 HS0 HS1 HTD; obtain ⟨A4, cp4, hh4, -⟩ := HT4.out.pk; obtain ⟨-, -, -, -, -, -, -, z7⟩ := pk8 hh4; clear hh4)
        go_wp2_with fail
        refine (HFR.out _ w4 t HT4.out.pk HTF.out HSEC.out (HTAB.out _ HT4.out.kept).1 (HTAB.out _ HT4.out.kept).2).mono ?_
        rintro e w5 ⟨A5, c5, rfl, hown5, hb5⟩
        obtain ⟨gf, cf, e, -⟩ := (SRow.of (S := S) hown5).box (by decide)
        injection e with e1 e2 e3
        subst e1 e3
        obtain ⟨col5, HT5, HF5⟩ : ∃ col5, Hid (Tk 134 w S g a b c d slot seq st k w5 col5 (j + 1) j t v4 u3) ∧ Hid (SRow (fun i => col5 i = 3) 5 1 w5 (.slice (some ⟨gf, 0, none⟩) 64 c5) 64 (vals (Pk.frame ⟨a, b, c, d⟩ slot seq st (k + j)))) :=
          ⟨_, HT4.out.paint3 hb5, by rw [← HFT.out]; exact ⟨ownsRow_mono hown5 (Nat.zero_le _), fun i e => paint_self (hown5.lt i e).2 (.inr (hown5.lt i e).1)⟩⟩
        have HB6 : Hid (Below w5.heap.size w5 (w5.alloc (.cells #[.slice (some ⟨gf, 0, none⟩) 64 c5] 27))) := (Below.refl _ w5).alloc (Nat.le_refl _) _
        have HT6 := Lib.hid (HT5.out.new HB6.out)
        have HF6 := Lib.hid (HF5.out.new HB6.out)
        have HG6 : Hid ((w5.alloc (.cells #[.slice (some ⟨gf, 0, none⟩) 64 c5] 27)).heap[w5.heap.size]? = some (.cells #[.slice (some ⟨gf, 0, none⟩) 64 c5] 27 (0, 0))) := heap_alloc_new _ _
        obtain ⟨sl, hs1, hs2, hs3⟩ := HT6.out.frs
        have HSL := Lib.hid (And.intro hs1 hs3)
        clear hs1 hs2 hs3 hown5 hb5 HT5 HF5 HT4 z7
        go_wp2_with (at_builtin; refine BigFrame.wpList_want rfl fun K hK => ?_; refine op_append_one (Sh := slS) (.tmp 44) (.tmp 52) 123 rfl Tryz.underlying123 info_sl rfl u3 j sl rfl HSL.out.1 w5.heap.size 1 (some ⟨gf, 0, none⟩, 64, c5) rfl HG6.out hj1 (by omega) ?_; intro v7 w7 hr7 hk7; refine hK _ _ ?_; have HR7 := Lib.hid hr7; have HK7 := Lib.hid hk7; clear hr7 hk7 hK K; obtain ⟨col7, HT7⟩ : ∃ col7, Hid (Tk 134 w S g a b c d slot seq st k w7 col7 (j + 1) (j + 1) t v4 v7) := ⟨_, HT6.out.fr HSL.out.1 HSL.out.2 HF6.out HR7.out HK7.out⟩; clear HT6 HSL HF6 HR7 HK7 HG6 HB6; obtain ⟨A7, cp7, hh7, -⟩ := HT7.out.pk; obtain ⟨-, -, -, -, -, -, -, z7⟩ := pk8 hh7; obtain ⟨-, f7⟩ := pk8f hh7; have HT8 : Hid (Tk 134 w S g a b c d slot seq st k (w7.setCell ⟨g, 7, none⟩ (.int .i64 ((t : Int) + 1))) col7 (j + 1) (j + 1) (t + 1) v4 v7) := HT7.out.stored (t + 1); clear hh7)
        go_wp2
        generalize w7.setCell ⟨g, 7, none⟩ (.int .i64 ((t : Int) + 1)) = w8 at *
        go_roundg (gk - 1)
        case measure => omega
        case rel => exact ⟨by omega, col7, by rw [HJ.out.1, HJ.out.2]; exact HT8.out⟩
end
end Go.Proofs.YtgnbmmceffolmaaGreatDoor
end
section
set_option maxRecDepth 100000
namespace Go.Proofs.YtgnbmmceffolmaaGreatDoor
open Go.RowKit
theorem wrap_is (x : Int) (h1 : -9223372036854775808 ≤ x) (h2 : x ≤ 9223372036854775807) : IntKind.i64.wrap x = x := by rw [IntKind.wrap_i64]; omega
theorem part_bounds {q cp t : Nat} (h1 : q ≤ cp) (h2 : (t + 1) * 59 ≤ q) (h3 : cp ≤ 9223372036854775807) : 0 < q ∧ ¬ (cp = t * 59) ∧ (0 : Int) ≤ (t : Int) * 59 ∧ (t : Int) * 59 ≤ ((t : Int) + 1) * 59 ∧ ((t : Int) + 1) * 59 ≤ (cp : Int) ∧ (t + 1) * 59 - t * 59 = 59 ∧ 59 ≤ cp - t * 59 ∧ cp - t * 59 ≤ 9223372036854775807 := by omega
theorem part_sl {q cp t : Nat} (h1 : q ≤ cp) (h2 : (t + 1) * 59 ≤ q) (h3 : cp ≤ 9223372036854775807) : (t + 1) * 59 - t * 59 ≤ cp - t * 59 ∧ cp - t * 59 ≤ 9223372036854775807 := by omega
theorem part_len (t : Nat) : (t + 1) * 59 - t * 59 = 59 := by omega
theorem part_num (t : Nat) : (t : Int) * 59 = ((t * 59 : Nat) : Int) ∧ ((t : Int) + 1) * 59 = (((t + 1) * 59 : Nat) : Int) := by omega
theorem part_le (t : Nat) : t * 59 ≤ (t + 1) * 59 := by omega
theorem part_cap {q cp t : Nat} (h1 : q ≤ cp) (h2 : (t + 1) * 59 ≤ q) : (t + 1) * 59 ≤ cp := by omega
theorem part_lt {q cp t : Nat} (h1 : q ≤ cp) (h2 : (t + 1) * 59 ≤ q) : t * 59 < cp := by omega
theorem part_pos {q t : Nat} (h2 : (t + 1) * 59 ≤ q) : 0 < q := by omega
theorem exec_slice_mid {P : Program} {oi : Oper} {a : Act} (x lo hi : Operand) (t : TypeId) (ho : oi.op = .slice t x (some lo) (some hi) none) (e : TypeId) (ht : P.underlying t = some (.slice e)) (hsz : (P.info? e).map (·.size) = some 1) (c N cap : Nat) (X Y : Int) (p q : Nat)
    (hx : a.eval x = .slice (some ⟨c, 0, none⟩) N cap) (hlo : a.eval lo = .int .i64 X) (hhi : a.eval hi = .int .i64 Y) (hX : X = (p : Int)) (hY : Y = (q : Int)) (hpq : p ≤ q) (hq : q ≤ cap) (hlt : p < cap) (w : World) :
    (execOp a.eval oi).run P w = .ok (.value (.slice (some ⟨c, p, none⟩) (q - p) (cap - p))) w := by
  subst hX hY
  cases hi : P.info? e with
  | none => simp [hi] at hsz
  | some i =>
    have hs : i.size = 1 := by simpa [hi] using hsz
    have h1 : ¬ cap = p := by omega
    simp [execOp, ho, hx, hlo, hhi, Instr.sliceAt, Instr.slice, Instr.sliceBounds, Instr.sliceBound, asIntOf, run_underlying ht, sizeOf, typeInfo, hi, hs, hpq, hq, h1, Result.andThen, arr_flat]
theorem Tk.here {T : TypeId} {w wr wr' : World} {S : Nat → Prop} {g : Nat} {a b c d slot seq : Int} {st : List Nat} {k : Nat} {col : Nat → Nat} {js jf jp i : Nat} {sv fv : Value} {o : Obj} (h : Tk T w S g a b c d slot seq st k wr col js jf jp sv fv) (hk : Kept (fun b => col b = i) wr wr') (hi : i ≠ 0) (hb : wr.heap[g]? = some o) : wr'.heap[g]? = some o :=
  (hk.block g (Array.getElem?_eq_some_iff.1 hb).1 (h.far hi g (Array.getElem?_eq_some_iff.1 hb).1 h.pk.has)).trans hb
section
variable {w : World} {S : Nat → Prop} {g : Nat} {a b c d slot seq : Int} {st : List Nat} {k : Nat}
set_option maxHeartbeats 2000000 in
theorem refpktake_any (hp : Hid (PkIs 92 w S g a b c d slot seq st k)) (hf : Pk.Fit ⟨a, b, c, d⟩ slot seq st k) :
    Calls Tryz.prog 78 #[.pointer (some ⟨g, 0, none⟩)] w (PkTook 92 w S g a b c d slot seq st k) := by
  have h120 := hf.short
  have hfk := hf.full
  have hfull := Pk.full_le hf
  have hspot := Pk.spot_le hf.ok
  have hsmall := Gm.spot_small hf.ok.1.1 hf.ok.1.2.1 (Int.le_of_lt hf.ok.1.2.2)
  simp only at hsmall
  have hfd : Pk.full st = st.length / 59 := rfl
  have hsp : Gm.spot ⟨a, b, c, d⟩ slot = 74 + slot * c := rfl
  have HT0 := Lib.hid (Tk.start hp.out)
  obtain ⟨n, hn⟩ : ∃ n, n = Pk.full st - k := ⟨_, rfl⟩
  have HTOOK : Hid (∀ wr col sv fv, Tk 92 w S g a b c d slot seq st k wr col n n (k + n) sv fv → PkTook 92 w S g a b c d slot seq st k (.returned (.tuple #[sv, fv])) wr) := fun wr col sv fv h => by
    rw [hn, show k + (Pk.full st - k) = Pk.full st by omega] at h
    exact h.took
  have HFR : Hid (∀ (x : Int) (i : Nat), i < Pk.full st → x = Pk.sec ⟨a, b, c, d⟩ slot i → ∀ W A n' c', SlIs A n' c' → n' = 59 → Bs W W.heap.size A (Rc.sub st (i * 59) 59) → Calls Tryz.prog 73 #[.int .i64 2, .int .i64 seq, .int .i64 x, .slice A n' c'] W fun e w' => ∃ A' c', e = .returned (.slice A' 64 c') ∧ w'.ownsRow W.heap.size 5 1 (.slice A' 64 c') 64 (vals (Pk.frame ⟨a, b, c, d⟩ slot seq st i)) ∧ Below W.heap.size W w') := fun x i h1 h2 W A n' c' h3 h4 h5 => by
    have hm := Pk.frame_may hf h1
    rw [← h2] at hm
    unfold Fr.may at hm
    have hq := hf.ok.2
    have e1 : ((seq.toNat : Nat) : Int) = seq := by omega
    have e2 : ((x.toNat : Nat) : Int) = x := by omega
    have := reffrenc_row 2 seq.toNat x.toNat A W.heap.size n' c' (Rc.sub st (i * 59) 59) W (by decide) (by omega) (by omega) (Nat.le_refl _) h3 (by show _ = _; rw [(Pk.frame_part hf h1).1, h4]) (by omega) h5
    rw [e1, e2] at this
    unfold Pk.frame
    rw [← h2]
    exact this
  have HLT := Lib.hid hf.lt
  go_enter Tryz.func78, Tryz.ntmps78
  go_wp2_with fail
  go_loopg [4, 5] n (fun gk sv fv wr => gk ≤ n ∧ ∃ col, Hid (Tk 92 w S g a b c d slot seq st k wr col (n - gk) (n - gk) (k + (n - gk)) sv fv))
  case atStart => exact ⟨Nat.le_refl _, fun _ => 0, by rw [Nat.sub_self]; exact HT0.out⟩
  case round =>
    obtain ⟨hgk, col, HT⟩ := hrel
    obtain ⟨A, cp, hh, -, hr, hne⟩ := HT.out.pk
    obtain ⟨z0, z1, z2, z3, z4, z5, z6, z7⟩ := pk8 hh
    have HD : Hid (Below wr.heap.size wr wr.drew) := below_drewN wr 1
    have HTD := Lib.hid (HT.out.new HD.out)
    have HS0 := Lib.hid (sd_here (show wr.drew.heap[g]? = _ from hh))
    by_cases hg0 : gk = 0
    · subst hg0
      rw [Nat.sub_zero] at *
      have f1 : decide ((((k + n : Nat) : Int) + 1) * 59 ≤ (st.length : Int)) = false := by simp only [decide_eq_false_iff_not]; omega
      have m1 : IntKind.i64.wrap (((k + n : Nat) : Int) + 1) = ((k + n : Nat) : Int) + 1 := by rw [IntKind.wrap_i64]; omega
      have m2 : IntKind.i64.wrap ((((k + n : Nat) : Int) + 1) * 59) = (((k + n : Nat) : Int) + 1) * 59 := by rw [IntKind.wrap_i64]; omega
      have hb : k + n ≤ 2047 := by omega
      clear hh hr hne hn hfk hfull hspot HT hf hfd
      generalize hq : st.length = q at *
      clear hq
      generalize k + n = t at *
      go_wp2_with fail
      go_region
      all_goals
        go_wp2
        go_ret2
        exact HTOOK.out _ _ _ _ HTD.out
    · obtain ⟨j, hj⟩ : ∃ j, j = n - gk := ⟨_, rfl⟩
      obtain ⟨t, htj⟩ : ∃ t, t = k + j := ⟨_, rfl⟩
      have hjn : n - (gk - 1) = j + 1 := by omega
      have htf : t < Pk.full st := by omega
      rw [← hj, ← htj] at HTD HS0 z7
      have hj1 : j ≤ 1000000 := by omega
      have HJ : Hid (n - (gk - 1) = j + 1 ∧ k + (j + 1) = t + 1) := ⟨hjn, by omega⟩
      have HTF := Lib.hid htf
      have HGK : Hid (gk - 1 ≤ n ∧ gk - 1 < gk) := ⟨by omega, by omega⟩
      have ht1 : t + 1 ≤ 2047 := by omega
      have htq : (t + 1) * 59 ≤ st.length := by omega
      have HSN : Hid (Pk.secs ⟨a, b, c, d⟩ slot k (j + 1) = Pk.secs ⟨a, b, c, d⟩ slot k j ++ [Pk.sec ⟨a, b, c, d⟩ slot t]) := by show _ = _; rw [htj]; exact Pk.secs_next ..
      have HFT : Hid (Pk.frame ⟨a, b, c, d⟩ slot seq st t = Pk.frame ⟨a, b, c, d⟩ slot seq st (k + j)) := by show _ = _; rw [htj]
      clear hh hr hne hn hfk hspot HT hf hfd hj htj hjn htf hfull hsp hgk
      have f1 : decide (((t : Int) + 1) * 59 ≤ (st.length : Int)) = true := by simp only [decide_eq_true_eq]; omega
      have HSEC : Hid (74 + slot * c + 1 + (t : Int) = Pk.sec ⟨a, b, c, d⟩ slot t) := rfl
      obtain ⟨sc, hsc⟩ : ∃ sc, sc = slot * c := ⟨_, rfl⟩
      rw [← hsc] at HSEC hsmall
      generalize hq : st.length = q at *
      have HQ := Lib.hid hq; clear hq
      have m1 := wrap_is ((t : Int) + 1) (by omega) (by omega)
      have m2 := wrap_is (((t : Int) + 1) * 59) (by omega) (by omega)
      have m3 := wrap_is ((t : Int) * 59) (by omega) (by omega)
      have n1 : wrap64 (slot * c) = sc := by rw [← hsc]; unfold wrap64; omega
      have n2 : wrap64 (74 + sc) = 74 + sc := by unfold wrap64; omega
      have n3 : wrap64 (74 + sc + 1) = 74 + sc + 1 := by unfold wrap64; omega
      have n4 : wrap64 (74 + sc + 1 + (t : Int)) = 74 + sc + 1 + (t : Int) := by unfold wrap64; omega
      have m8 : wrap64 ((t : Int) + 1) = (t : Int) + 1 := by unfold wrap64; omega
      clear hsc
      clear hsmall
      go_wp2_with fail
      go_region
      all_goals
        generalize wr.drew = w1 at *
        clear z0 z1 z2 z3 z4 z5 z6 z7
        obtain ⟨z0, z1, z2, z3, z4, z5, z6, z7⟩ := pks8 HS0.out
        go_wp2_with fail
        have HTE : Hid (Tk 92 w S g a b c d slot seq st k w1.drew col j j t u4 u5) := HTD.out.new (below_drewN w1 1)
        go_region
        all_goals
          generalize w1.drew = w2 at *
          clear z0 z1 z2 z3 z4 z5 z6 z7
          have HT3 := Lib.hid (HTE.out.new ((Below.refl _ w2).alloc (Nat.le_refl _) (.cells #[.int .i64 (74 + sc + 1 + (t : Int))] 3)))
          have HG3 : Hid ((w2.alloc (.cells #[.int .i64 (74 + sc + 1 + (t : Int))] 3)).heap[w2.heap.size]? = some (.cells #[.int .i64 (74 + sc + 1 + (t : Int))] 3 (0, 0))) := heap_alloc_new _ _
          go_wp2_with (at_builtin; refine BigFrame.wpList_want rfl fun K hK => ?_; refine op_append_one (Sh := intS) (.tmp 43) (.tmp 45) 68 rfl Tryz.underlying68 info_int rfl u4 j (Pk.secs ⟨a, b, c, d⟩ slot k j) rfl HT3.out.secs w2.heap.size 1 (74 + sc + 1 + (t : Int)) rfl HG3.out hj1 (by omega) ?_; intro v4 w4 hr4 hk4; refine hK _ _ ?_; have HR4 := Lib.hid hr4; have HK4 := Lib.hid hk4; clear hr4 hk4 hK K)
          obtain ⟨col4, HT4⟩ : ∃ col4, Hid (Tk 92 w S g a b c d slot seq st k w4 col4 (j + 1) j t v4 u5) := ⟨_, HT3.out.sec (by rw [HSN.out, ← HSEC.out]; exact HR4.out) HK4.out⟩
          clear HT3 HG3 HR4 HK4 HS0 HTD HTE
          obtain ⟨A4, cp4, hh4, -, hr4, -⟩ := HT4.out.pk
          rw [HQ.out] at hh4 hr4
          obtain ⟨gs, cc, e, hc1, hc2⟩ := hr4.box (part_pos htq)
          injection e with e1 e2 e3
          subst e1 e3
          unfold maxLen at hc2
          have HBS := Lib.hid ((hr4.bs HLT.out).sub (t * 59) 59)
          have HS4 := Lib.hid (sd_here hh4)
          obtain ⟨-, hcp, b1, b2, b3, -⟩ := part_bounds hc1 htq hc2
          obtain ⟨z0, z1, z2, z3, z4, z5, z6, z7⟩ := pk8 hh4
          clear hh4 hr4
          clear z0 z1 z2 z3 z4 z5 z6 z7
          go_wp2_with fail
          refine wp_region_held_drew (S := fun W => W.heap[g]? = some (.cells #[.int .i64 a, .int .i64 b, .int .i64 c, .int .i64 d, .int .i64 slot, .int .i64 seq, .slice (some ⟨gs, 0, none⟩) q cp4, .int .i64 (t : Int)] 92 (0, 0))) (by kernel_rfl) (HS4.out.1) (fun hH => ?_)
          change wpAnyH _ _ _ _ _ 26 #[false, false, false, false, false, false, false, false, false, false, false, false, false, false, false, false, false, false, false, false, false, false, false, false, false, false] _ _
          refine held_take (i := 0) (v := ?_) (d := some 47) rfl rfl (by kernel_rfl) (by kernel_rfl) (by kernel_rfl) (fun _ _ _ h => h) hH ⟨?_, fun w hSw => ?_⟩ ?_
          rotate_left 1
          · rfl
          · (go_simp; all_goals with_reducible rfl)
          simp only [Act.put, List.setIfInBounds_toArray, List.set_cons_zero, List.set_cons_succ]
          refine held_take (i := 1) (v := ?_) (d := some 48) rfl rfl (by kernel_rfl) (by kernel_rfl) (by kernel_rfl) (fun _ _ _ h => h) hH ⟨?_, fun w hSw => ?_⟩ ?_
          rotate_left 1
          · rfl
          · (go_simp; all_goals with_reducible rfl)
          simp only [Act.put, List.setIfInBounds_toArray, List.set_cons_zero, List.set_cons_succ]
          refine held_take (i := 2) (v := ?_) (d := some 49) rfl rfl (by kernel_rfl) (by kernel_rfl) (by kernel_rfl) (fun _ _ _ h => h) hH ⟨?_, fun w hSw => ?_⟩ ?_
          rotate_left 1
          · rfl
          · (go_simp; all_goals with_reducible rfl)
          simp only [Act.put, List.setIfInBounds_toArray, List.set_cons_zero, List.set_cons_succ]
          refine held_take (i := 3) (v := ?_) (d := some 50) rfl rfl (by kernel_rfl) (by kernel_rfl) (by kernel_rfl) (fun _ _ _ h => h) hH ⟨?_, fun w hSw => ?_⟩ ?_
          rotate_left 1
          · rfl
          · (go_simp; all_goals with_reducible rfl)
          simp only [Act.put, List.setIfInBounds_toArray, List.set_cons_zero, List.set_cons_succ]
          refine held_take (i := 4) (v := ?_) (d := some 51) rfl rfl (by kernel_rfl) (by kernel_rfl) (by kernel_rfl) (fun _ _ _ h => h) hH ⟨?_, fun w hSw => ?_⟩ ?_
          rotate_left 1
          · rfl
          · obtain ⟨z0, z1, z2, z3, z4, z5, z6, z7⟩ := pk8 hSw
            (go_simp; all_goals with_reducible rfl)
          simp only [Act.put, List.setIfInBounds_toArray, List.set_cons_zero, List.set_cons_succ]
          refine held_take (i := 5) (v := ?_) (d := some 52) rfl rfl (by kernel_rfl) (by kernel_rfl) (by kernel_rfl) (fun _ _ _ h => h) hH ⟨?_, fun w hSw => ?_⟩ ?_
          rotate_left 1
          · rfl
          · (go_simp; all_goals with_reducible rfl)
          simp only [Act.put, List.setIfInBounds_toArray, List.set_cons_zero, List.set_cons_succ]
          refine held_take (i := 6) (v := ?_) (d := some 53) rfl rfl (by kernel_rfl) (by kernel_rfl) (by kernel_rfl) (fun _ _ _ h => h) hH ⟨?_, fun w hSw => ?_⟩ ?_
          rotate_left 1
          · rfl
          · (go_simp; all_goals with_reducible rfl)
          simp only [Act.put, List.setIfInBounds_toArray, List.set_cons_zero, List.set_cons_succ]
          refine held_take (i := 7) (v := ?_) (d := some 54) rfl rfl (by kernel_rfl) (by kernel_rfl) (by kernel_rfl) (fun _ _ _ h => h) hH ⟨?_, fun w hSw => ?_⟩ ?_
          rotate_left 1
          · rfl
          · (go_simp; all_goals with_reducible rfl)
          simp only [Act.put, List.setIfInBounds_toArray, List.set_cons_zero, List.set_cons_succ]
          refine held_take (i := 8) (v := ?_) (d := some 55) rfl rfl (by kernel_rfl) (by kernel_rfl) (by kernel_rfl) (fun _ _ _ h => h) hH ⟨?_, fun w hSw => ?_⟩ ?_
          rotate_left 1
          · rfl
          · (go_simp; all_goals with_reducible rfl)
          simp only [Act.put, List.setIfInBounds_toArray, List.set_cons_zero, List.set_cons_succ]
          refine held_take (i := 9) (v := ?_) (d := some 56) rfl rfl (by kernel_rfl) (by kernel_rfl) (by kernel_rfl) (fun _ _ _ h => h) hH ⟨?_, fun w hSw => ?_⟩ ?_
          rotate_left 1
          · rfl
          · obtain ⟨z0, z1, z2, z3, z4, z5, z6, z7⟩ := pk8 hSw
            (go_simp; all_goals with_reducible rfl)
          simp only [Act.put, List.setIfInBounds_toArray, List.set_cons_zero, List.set_cons_succ]
          refine held_take (i := 10) (v := ?_) (d := some 57) rfl rfl (by kernel_rfl) (by kernel_rfl) (by kernel_rfl) (fun _ _ _ h => h) hH ⟨?_, fun w hSw => ?_⟩ ?_
          rotate_left 1
          · rfl
          · (go_simp; all_goals with_reducible rfl)
          simp only [Act.put, List.setIfInBounds_toArray, List.set_cons_zero, List.set_cons_succ]
          refine held_take (i := 11) (v := ?_) (d := some 58) rfl rfl (by kernel_rfl) (by kernel_rfl) (by kernel_rfl) (fun _ _ _ h => h) hH ⟨?_, fun w hSw => ?_⟩ ?_
          rotate_left 1
          · rfl
          · (go_simp; all_goals with_reducible rfl)
          simp only [Act.put, List.setIfInBounds_toArray, List.set_cons_zero, List.set_cons_succ]
          refine held_take (i := 12) (v := ?_) (d := some 59) rfl rfl (by kernel_rfl) (by kernel_rfl) (by kernel_rfl) (fun _ _ _ h => h) hH ⟨?_, fun w hSw => ?_⟩ ?_
          rotate_left 1
          · rfl
          · (go_simp; all_goals with_reducible rfl)
          simp only [Act.put, List.setIfInBounds_toArray, List.set_cons_zero, List.set_cons_succ]
          refine held_take (i := 13) (v := ?_) (d := some 60) rfl rfl (by kernel_rfl) (by kernel_rfl) (by kernel_rfl) (fun _ _ _ h => h) hH ⟨?_, fun w hSw => ?_⟩ ?_
          rotate_left 1
          · rfl
          · obtain ⟨z0, z1, z2, z3, z4, z5, z6, z7⟩ := pk8 hSw
            (go_simp; all_goals with_reducible rfl)
          simp only [Act.put, List.setIfInBounds_toArray, List.set_cons_zero, List.set_cons_succ]
          refine held_take (i := 14) (v := ?_) (d := some 61) rfl rfl (by kernel_rfl) (by kernel_rfl) (by kernel_rfl) (fun _ _ _ h => h) hH ⟨?_, fun w hSw => ?_⟩ ?_
          rotate_left 1
          · rfl
          · (go_simp; all_goals with_reducible rfl)
          simp only [Act.put, List.setIfInBounds_toArray, List.set_cons_zero, List.set_cons_succ]
          refine held_take (i := 15) (v := ?_) (d := some 62) rfl rfl (by kernel_rfl) (by kernel_rfl) (by kernel_rfl) (fun _ _ _ h => h) hH ⟨?_, fun w hSw => ?_⟩ ?_
          rotate_left 1
          · rfl
          · (go_simp; all_goals with_reducible rfl)
          simp only [Act.put, List.setIfInBounds_toArray, List.set_cons_zero, List.set_cons_succ]
          refine held_take (i := 16) (v := ?_) (d := some 63) rfl rfl (by kernel_rfl) (by kernel_rfl) (by kernel_rfl) (fun _ _ _ h => h) hH ⟨?_, fun w hSw => ?_⟩ ?_
          rotate_left 1
          · rfl
          · (go_simp; all_goals with_reducible rfl)
          simp only [Act.put, List.setIfInBounds_toArray, List.set_cons_zero, List.set_cons_succ]
          refine held_take (i := 17) (v := ?_) (d := some 64) rfl rfl (by kernel_rfl) (by kernel_rfl) (by kernel_rfl) (fun _ _ _ h => h) hH ⟨?_, fun w hSw => ?_⟩ ?_
          rotate_left 1
          · rfl
          · (go_simp; all_goals with_reducible rfl)
          simp only [Act.put, List.setIfInBounds_toArray, List.set_cons_zero, List.set_cons_succ]
          refine held_take (i := 18) (v := ?_) (d := some 65) rfl rfl (by kernel_rfl) (by kernel_rfl) (by kernel_rfl) (fun _ _ _ h => h) hH ⟨?_, fun w hSw => ?_⟩ ?_
          rotate_left 1
          · rfl
          · obtain ⟨z0, z1, z2, z3, z4, z5, z6, z7⟩ := pk8 hSw
            (go_simp; all_goals with_reducible rfl)
          simp only [Act.put, List.setIfInBounds_toArray, List.set_cons_zero, List.set_cons_succ]
          refine held_take (i := 19) (v := ?_) (d := some 66) rfl rfl (by kernel_rfl) (by kernel_rfl) (by kernel_rfl) (fun _ _ _ h => h) hH ⟨?_, fun w hSw => ?_⟩ ?_
          rotate_left 1
          · rfl
          · (go_simp; all_goals with_reducible rfl)
          simp only [Act.put, List.setIfInBounds_toArray, List.set_cons_zero, List.set_cons_succ]
          refine held_take (i := 20) (v := ?_) (d := some 67) rfl rfl (by kernel_rfl) (by kernel_rfl) (by kernel_rfl) (fun _ _ _ h => h) hH ⟨?_, fun w hSw => ?_⟩ ?_
          rotate_left 1
          · rfl
          · (go_simp; all_goals with_reducible rfl)
          simp only [Act.put, List.setIfInBounds_toArray, List.set_cons_zero, List.set_cons_succ]
          refine held_take (i := 21) (v := ?_) (d := some 68) rfl rfl (by kernel_rfl) (by kernel_rfl) (by kernel_rfl) (fun _ _ _ h => h) hH ⟨?_, fun w hSw => ?_⟩ ?_
          rotate_left 1
          · rfl
          · refine exec_slice_mid (.tmp 56) (.tmp 61) (.tmp 67) 27 ?_ 5 Tryz.underlying27 (by kernel_rfl) gs q cp4 ((t : Int) * 59) (((t : Int) + 1) * 59) (t * 59) ((t + 1) * 59) ?_ ?_ ?_ ?_ ?_ (part_le t) (part_cap hc1 htq) (part_lt hc1 htq) w
            · rfl
            · rfl
            · rfl
            · rfl
            · first | exact (part_num t).1 | (rw [m3]; exact (part_num t).1)
            · first | exact (part_num t).2 | (rw [m2]; exact (part_num t).2) | (rw [m1, m2]; exact (part_num t).2)
          simp only [Act.put, List.setIfInBounds_toArray, List.set_cons_zero, List.set_cons_succ]
          refine held_step (i := 22) rfl (by kernel_rfl) ?_ (fun K hK => ?_)
          · rfl
          clear hH
          go_simp
          refine (HFR.out _ t HTF.out HSEC.out w4.drew _ _ _ ⟨(fun e => by cases e), part_sl hc1 htq hc2⟩ (part_len t) HBS.out).mono ?_
          rintro e w5 ⟨A5, c5, rfl, hown5, hb5⟩
          obtain ⟨gf, cf, e, -⟩ := (SRow.of (S := S) hown5).box (by decide)
          injection e with e1 e2 e3
          subst e1 e3
          obtain ⟨col5, HT5, HF5⟩ : ∃ col5, Hid (Tk 92 w S g a b c d slot seq st k w5 col5 (j + 1) j t v4 u5) ∧ Hid (SRow (fun i => col5 i = 3) 5 1 w5 (.slice (some ⟨gf, 0, none⟩) 64 c5) 64 (vals (Pk.frame ⟨a, b, c, d⟩ slot seq st (k + j)))) := ⟨_, (HT4.out.new (below_drewN w4 1)).paint3 hb5, by rw [← HFT.out]; exact ⟨ownsRow_mono hown5 (Nat.zero_le _), fun i e => paint_self (hown5.lt i e).2 (.inr (hown5.lt i e).1)⟩⟩
          have HB5 : Hid (Below w4.heap.size w4 w5) := (below_drewN w4 1).trans hb5
          clear hown5 hb5
          have hH := (HS4.out.next HB5.out (by rfl) (by rfl) (by rfl) (by rfl)).1
          refine hK _ _ hH ?_
          clear hK K
          simp only [List.setIfInBounds_toArray, List.set_cons_zero, List.set_cons_succ]
          refine held_step (i := 23) rfl (by kernel_rfl) ?_ (fun K hK => ?_)
          · rfl
          go_simp
          have HB6 : Hid (Below w5.heap.size w5 (w5.alloc (.cells #[.slice (some ⟨gf, 0, none⟩) 64 c5] 27))) := (Below.refl _ w5).alloc (Nat.le_refl _) _
          have HT6 := Lib.hid (HT5.out.new HB6.out)
          have HF6 := Lib.hid (HF5.out.new HB6.out)
          have HG6 : Hid ((w5.alloc (.cells #[.slice (some ⟨gf, 0, none⟩) 64 c5] 27)).heap[w5.heap.size]? = some (.cells #[.slice (some ⟨gf, 0, none⟩) 64 c5] 27 (0, 0))) := heap_alloc_new _ _
          obtain ⟨sl, hs1, hs2, hs3⟩ := HT6.out.frs
          have HSL := Lib.hid (And.intro hs1 hs3)
          clear hs1 hs2 hs3 HT5 HF5
          replace hH := (HB6.out.block g (Array.getElem?_eq_some_iff.1 hH).1).trans hH
          refine hK _ _ hH ?_
          clear hK K
          simp only [List.setIfInBounds_toArray, List.set_cons_zero, List.set_cons_succ]
          refine held_step (i := 24) rfl (by kernel_rfl) ?_ (fun K hK => ?_)
          · rfl
          refine op_append_one (Sh := slS) (.tmp 47) (.tmp 70) 123 rfl Tryz.underlying123 info_sl rfl u5 j sl rfl HSL.out.1 w5.heap.size 1 (some ⟨gf, 0, none⟩, 64, c5) rfl HG6.out hj1 (by omega) ?_
          intro v7 w7 hr7 hk7
          have HR7 := Lib.hid hr7
          have HK7 := Lib.hid hk7
          clear hr7 hk7
          replace hH := HT6.out.here HK7.out (by decide) hH
          refine hK _ _ hH ?_
          clear hK K
          simp only [Act.put, List.setIfInBounds_toArray, List.set_cons_zero, List.set_cons_succ]
          refine held_take (i := 25) (v := ?_) (d := some 5) rfl rfl (by kernel_rfl) (by kernel_rfl) (by kernel_rfl) (fun _ _ _ h => h) hH ⟨?_, fun w hSw => ?_⟩ ?_
          rotate_left 1
          · rfl
          · (go_simp; all_goals with_reducible rfl)
          simp only [Act.put, List.setIfInBounds_toArray, List.set_cons_zero, List.set_cons_succ]
          refine wpAnyH_done (by kernel_rfl) ?_ _
          obtain ⟨col7, HT7⟩ : ∃ col7, Hid (Tk 92 w S g a b c d slot seq st k w7 col7 (j + 1) (j + 1) t v4 v7) := ⟨_, HT6.out.fr HSL.out.1 HSL.out.2 HF6.out HR7.out HK7.out⟩
          clear HT6 HSL HF6 HR7 HK7 HG6 HB6
          obtain ⟨A7, cp7, hh7, -⟩ := HT7.out.pk
          obtain ⟨-, -, -, -, -, -, -, z7⟩ := pk8 hh7
          obtain ⟨-, f7⟩ := pk8f hh7
          have HT8 : Hid (Tk 92 w S g a b c d slot seq st k (w7.setCell ⟨g, 7, none⟩ (.int .i64 ((t : Int) + 1))) col7 (j + 1) (j + 1) (t + 1) v4 v7) := HT7.out.stored (t + 1)
          clear hh7
          go_wp2
          generalize w7.setCell ⟨g, 7, none⟩ (.int .i64 ((t : Int) + 1)) = w8 at *
          go_roundg (gk - 1)
          case measure => exact HGK.out.2
          case rel => exact ⟨HGK.out.1, col7, by rw [HJ.out.1, HJ.out.2]; exact HT8.out⟩
end
end Go.Proofs.YtgnbmmceffolmaaGreatDoor
end
section
set_option maxRecDepth 100000
namespace Go.Proofs.YtgnbmmceffolmaaGreatDoor
open Go.RowKit
theorem FrRow.at {w : World} {S U : Nat → Prop} {A : Option Addr} {n c k : Nat} {fs : List (List Nat)} (h : FrRow w S U (.slice A n c) n fs) (hk : k < n) (hlt : ∀ x ∈ fs.getD k [], x < 256) :
    ∃ ad gf cf, A = some ad ∧ w.cell? (ad.add k) = some (.slice (some ⟨gf, 0, none⟩) 64 cf) ∧ (fs.getD k []).length = 64 ∧ Bs w w.heap.size (some ⟨gf, 0, none⟩) (fs.getD k []) := by
  obtain ⟨sl, h1, -, h3⟩ := h
  obtain ⟨gf, cf, e, hr⟩ := h3 k hk
  have hl := h1.len (Sh := slS)
  obtain ⟨A', c', e', -, ha⟩ := ARow.open_ (S := slS) h1.1
  injection e' with e1
  subst e1
  obtain ⟨ad, rfl, -, -, h4⟩ := ha k (by omega)
  have h5 := h4 0 (.slice (some ⟨gf, 0, none⟩) 64 cf) (by show (slS.cs (sl.getD k (none, 0, 0)))[0]? = _; rw [e]; rfl)
  refine ⟨ad, gf, cf, rfl, by rwa [show k * slS.m + 0 = k from Nat.mul_one k] at h5, ?_, hr.bs hlt⟩
  have := hr.1.1
  rw [vals_length] at this
  omega
section
variable (w : World)
end
end Go.Proofs.YtgnbmmceffolmaaGreatDoor
end
