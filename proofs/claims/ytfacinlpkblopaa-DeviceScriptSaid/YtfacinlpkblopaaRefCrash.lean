/-
  The walk of the reference's Crash.
-/
import Derived.Test.YtfacinlpkblopaaRefOf
namespace Go.Proofs.Ytfacinlpkblopaa
open Go.RowKit Go.Maps
/-- The bytes when the sectors below i have gone through the crash. -/
def half (n : Nat) (s : Flash) (keep : List Bool) (T : List (Int × Int)) (i : Nat) : List Nat :=
  (List.range (n * 64)).map fun p => if p / 64 < i then crashByte s.cur s.old keep T p else crashByte s.cur s.old [] [] p
section
variable {n i : Nat} {s : Flash} {keep : List Bool} {T : List (Int × Int)}
theorem half_len (n : Nat) (s : Flash) (keep : List Bool) (T : List (Int × Int)) (i : Nat) : (half n s keep T i).length = n * 64 := by simp [half]
theorem half_get {p : Nat} (hp : p < n * 64) : (half n s keep T i).getD p 0 = if p / 64 < i then crashByte s.cur s.old keep T p else crashByte s.cur s.old [] [] p := by
  unfold half
  rw [List.getD_eq_getElem?_getD, List.getElem?_map, List.getElem?_range hp]; rfl
theorem half_zero : half n s keep T 0 = oldImg n s := by
  unfold half oldImg crashed
  apply List.map_congr_left
  intro p _
  rw [if_neg (Nat.not_lt_zero _)]
theorem half_end : half n s keep T n = crashed n s.cur s.old keep T := by
  unfold half crashed
  apply List.map_congr_left
  intro p hp
  rw [List.mem_range] at hp
  rw [if_pos (by omega)]
theorem half_no (h : s.old i = none) : half n s keep T (i + 1) = half n s keep T i := by
  unfold half
  apply List.map_congr_left
  intro p _
  by_cases e : p / 64 = i
  · rw [if_pos (by omega), if_neg (by omega)]
    unfold crashByte
    rw [e, h]
  · by_cases e2 : p / 64 < i
    · rw [if_pos e2, if_pos (by omega)]
    · rw [if_neg e2, if_neg (by omega)]
/-- The first m bytes of a sector's new bytes. -/
def secTake (cur : List Nat) (i m : Nat) : List Nat := (cur.drop (i * 64)).take m
theorem secTake_len {cur : List Nat} {m : Nat} (hc : cur.length = n * 64) (hi : i < n) (hm : m ≤ 64) : (secTake cur i m).length = m := by
  unfold secTake; rw [List.length_take, List.length_drop]; omega
theorem secTake_get {cur : List Nat} {m j : Nat} (hj : j < m) : (secTake cur i m)[j]? = cur[i * 64 + j]? := by
  unfold secTake; rw [List.getElem?_take_of_lt hj, List.getElem?_drop]
theorem half_yes {l : List Nat} (hi : i < n) (hc : s.cur.length = n * 64) (h : s.old i = some l) {rest : List Value} {m : Nat} (hm : m = keptBy keep T (dirtyCount i s.old)) :
    splice (vals (half n s keep T i) ++ rest) (i * 64) (vals (secTake s.cur i m)) = vals (half n s keep T (i + 1)) ++ rest := by
  have hm64 : m ≤ 64 := by rw [hm]; exact keptBy_le _ _ _
  have hl := half_len n s keep T i
  have hsl := secTake_len hc hi hm64
  have e1 : (vals (half n s keep T i) ++ rest).take (i * 64) = vals ((half n s keep T i).take (i * 64)) := by
    rw [List.take_append_of_le_length (by rw [vals_length]; omega)]; simp [vals]
  have e2 : (vals (half n s keep T i) ++ rest).drop (i * 64 + m) = vals ((half n s keep T i).drop (i * 64 + m)) ++ rest := by
    rw [List.drop_append_of_le_length (by rw [vals_length]; omega)]; simp [vals]
  unfold splice
  rw [vals_length, hsl, e1, e2]
  have e3 : (half n s keep T i).take (i * 64) ++ secTake s.cur i m ++ (half n s keep T i).drop (i * 64 + m) = half n s keep T (i + 1) := by
    refine list_ext (k := n * 64) (by rw [List.length_append, List.length_append, List.length_take, List.length_drop, hsl, hl]; omega) (half_len _ _ _ _ _) (fun p hp => ?_)
    rw [half_get hp]
    simp only [List.getD_eq_getElem?_getD]
    by_cases h1 : p < i * 64
    · rw [if_pos (by omega), List.append_assoc, List.getElem?_append_left (by rw [List.length_take]; omega), List.getElem?_take_of_lt h1, ← List.getD_eq_getElem?_getD, half_get hp, if_pos (by omega)]
    · by_cases h2 : p < i * 64 + m
      · rw [if_pos (by omega), List.getElem?_append_left (by rw [List.length_append, List.length_take, hsl]; omega), List.getElem?_append_right (by rw [List.length_take]; omega), List.length_take, Nat.min_eq_left (by omega), secTake_get (by omega), show i * 64 + (p - i * 64) = p by omega, ← List.getD_eq_getElem?_getD]
        have e : p / 64 = i := by omega
        unfold crashByte
        rw [e, h]
        dsimp only
        rw [if_pos (by rw [← hm]; omega)]
      · rw [List.getElem?_append_right (by rw [List.length_append, List.length_take, hsl]; omega), List.getElem?_drop, List.length_append, List.length_take, hsl, Nat.min_eq_left (by omega), show i * 64 + m + (p - (i * 64 + m)) = p by omega, ← List.getD_eq_getElem?_getD, half_get hp]
        by_cases e : p / 64 = i
        · rw [if_neg (by omega), if_pos (by omega)]
          unfold crashByte
          rw [e, h]
          dsimp only
          rw [keptBy_nil, if_neg (by omega), if_neg (by rw [← hm]; omega)]
        · rw [if_neg (by omega), if_neg (by omega)]
  rw [← e3]
  simp [vals]
end
theorem run_slice_mid {P : Program} {t e : TypeId} (ht : P.underlying t = some (.slice e)) (hsz : (P.info? e).map (·.size) = some 1) (c N cap p q : Nat) (hpq : p ≤ q) (hq : q ≤ cap) (hlt : p < cap) (w : World) :
    (Instr.sliceAt t (.slice (some ⟨c, 0, none⟩) N cap) (some (.int .i64 (p : Int))) (some (.int .i64 (q : Int))) none).run P w = .ok (.slice (some ⟨c, p, none⟩) (q - p) (cap - p)) w := by
  cases hi : P.info? e with
  | none => simp [hi] at hsz
  | some i =>
    have hs : i.size = 1 := by simpa [hi] using hsz
    have h1 : ¬ cap = p := by omega
    simp [Instr.sliceAt, Instr.slice, Instr.sliceBounds, Instr.sliceBound, asIntOf, run_underlying ht, sizeOf, typeInfo, hi, hs, hpq, hq, h1, Result.andThen, add_flat]
/-- 's[p:q]' of a slice at the head of a block, in a region that stands still. -/
theorem wpStill_slice_mid {P : Program} {ops : Array Oper} {rest : List Oper} {o : Oper} {a : Act} {w : World} {Q : Act → Prop} (hw : Region.wanted o (yielded ops a.tmps) = true) (x lo hi : Operand) (t : TypeId)
    (ho : o.op = .slice t x (some lo) (some hi) none) (e : TypeId) (ht : P.underlying t = some (.slice e)) (hsz : (P.info? e).map (·.size) = some 1) (c N cap : Nat) (X Y : Int) (p q : Nat)
    (hx : a.eval x = .slice (some ⟨c, 0, none⟩) N cap) (hlo : a.eval lo = .int .i64 X) (hhi : a.eval hi = .int .i64 Y) (hX : X = (p : Int)) (hY : Y = (q : Int)) (hpq : p ≤ q) (hq : q ≤ cap) (hlt : p < cap)
    (h : wpStill P ops w Q rest (a.put o.dst (.slice (some ⟨c, p, none⟩) (q - p) (cap - p)))) : wpStill P ops w Q (o :: rest) a := by
  refine wpStill_step fun K hK => ?_
  rw [if_pos hw]
  subst hX hY
  have hrun := run_slice_mid (P := P) ht hsz c N cap p q hpq hq hlt
  unfold Oper.still
  simp [execOp, ho, hx, hlo, hhi, hrun, Result.andThen, Oper.stillUpon]
  exact hK _ h
/-- What holds at the head of the loop's rounds: W is the world behind Of. -/
structure CAt (w W wr : World) (o' v' n : Nat) (s : Flash) (keep : List Bool) (T : List (Int × Int)) (i : Nat) (ro rv : List Value) : Prop where
  olds : VRow wr o' (half n s keep T i) ro
  news : VRow wr v' (half n s keep T i) rv
  kept : Kept (fun k => k = o' ∨ k = v') W wr
  below : Below w.heap.size w wr
theorem CAt.next {w W wr wx : World} {o' v' n : Nat} {s : Flash} {keep : List Bool} {T : List (Int × Int)} {i : Nat} {ro rv : List Value} (h : CAt w W wr o' v' n s keep T i ro rv) (hb : Below wr.heap.size wr wx) : CAt w W wx o' v' n s keep T i ro rv :=
  ⟨(hb.block o' (Array.getElem?_eq_some_iff.1 h.olds).1).trans h.olds, (hb.block v' (Array.getElem?_eq_some_iff.1 h.news).1).trans h.news, h.kept.trans (Kept.of_new hb), h.below.trans (hb.mono h.below.size)⟩
theorem CAt.drew {w W wr : World} {o' v' n : Nat} {s : Flash} {keep : List Bool} {T : List (Int × Int)} {i : Nat} {ro rv : List Value} (h : CAt w W wr o' v' n s keep T i ro rv) : CAt w W wr.drew o' v' n s keep T i ro rv :=
  ⟨h.olds, h.news, h.kept.drewN 1, h.below.drew⟩
set_option maxRecDepth 100000 in
set_option maxHeartbeats 2000000 in
theorem rcrash_any {g o v t n lo : Nat} {s : Flash} (w : World) (Ak At : Option Addr) (nk ck nt ct : Nat) (keep : List Bool) (T : List (Int × Int)) (hnt : nt ≤ 9223372036854775807) (hlk : Hid (keep.length = nk)) (hlt : Hid (T.length = nt))
    (hbk : Hid (Bls w w.heap.size Ak keep)) (hbt : Hid (Trs w w.heap.size At T)) (hF : FlashOk n s) (hd : Hid (RDev w g o v t n lo s)) :
    Calls Try.prog 21 #[.pointer (some ⟨g, 0, none⟩), .slice Ak nk ck, .slice At nt ct] w (RMade w n (crashed n s.cur s.old keep T)) := by
  have hn1 := hF.n1
  have hn2 := hF.n2
  have HF := Lib.hid hF; clear hF
  obtain ⟨ro, rv, left, hh, ho, hv, ht, hf, hlo1, hhi, hco, hcv, hr⟩ := hd.out
  obtain ⟨⟨c0, c1, c2, -, -, -, -⟩, -⟩ := rd7 hh
  have HP := Lib.hid (And.intro hh (And.intro ho (And.intro hv ht)))
  clear hh ho hv ht hf hr hlo1 hhi
  have HL : Hid ((oldImg n s).length = n * 64) := oldImg_len n s
  have HO : Hid (w.heap[o]? = some (.cells (vals (oldImg n s) ++ ro).toArray 5 (0, 0))) := HP.out.2.1
  go_enter Try.func21, Try.ntmps21
  go_wp2_with (go_at_call 32; refine (of_any o n _ (oldImg n s) ro w hn1 hn2 HL HO).mono ?_; rintro e w1 ⟨g', o', v', t', rfl, hd', hg1, ho1, hv1, ht1, hb1⟩; have HD' := Lib.hid hd'; have HB1 := Lib.hid hb1; clear hd' hb1; have HG1 : Hid (w1.heap[g]? = w.heap[g]?) := HB1.out.block g hd.out.lt.1; obtain ⟨⟨d0, d1, d2, -, -, -, -⟩, -⟩ := rd7 (HG1.out.trans HP.out.1))
  obtain ⟨ro', rv', left', hh', ho', hv', ht', hf', hlo', hhi', hco', hcv', hr'⟩ := HD'.out
  have HP' := Lib.hid (And.intro hh' (And.intro ht' (And.intro hf' (And.intro hlo' (And.intro hhi' hr')))))
  have HC0 : Hid (CAt w w1 w1 o' v' n s keep T 0 ro' rv') := by
    rw [oldImg_fresh HL.out] at ho'
    refine ⟨?_, ?_, Kept.refl _ _, HB1.out⟩
    · show VRow w1 o' (half n s keep T 0) ro'
      rw [half_zero]; exact ho'
    · show VRow w1 v' (half n s keep T 0) rv'
      rw [half_zero]; exact hv'
  clear hh' ho' hv' ht' hf' hlo' hhi' hr' c0 c1 c2 d0 d1 d2 HG1 HO
  have HI : Hid ((Try.prog.info? 5).map (·.size) = some 1) := by show _ = _; kernel_rfl
  have HCUR : Hid (s.cur.length = n * 64) := HF.out.len
  go_loopw [8, 21] (fun kv iv wr => ∃ i : Nat, i ≤ n ∧ iv = .int .i64 (i : Int) ∧ kv = .int .i64 (dirtyCount i s.old : Int) ∧ Hid (CAt w w1 wr o' v' n s keep T i ro' rv')) (fun _ iv _ => n - (RowKit.intOf iv).toNat)
  case atStart => exact ⟨0, Nat.zero_le _, rfl, rfl, HC0⟩
  case round =>
    obtain ⟨i, hi, rfl, rfl, hR⟩ := hrel
    by_cases hin : i < n
    · have HGr : Hid (wr.heap[g]? = w.heap[g]?) := hR.out.below.block g hd.out.lt.1
      obtain ⟨⟨-, -, c2, -, -, -, -⟩, -⟩ := rd7 (HGr.out.trans HP.out.1)
      have HTr : Hid (BRow wr t (dirtL n s.old)) := (hR.out.below.block t hd.out.lt.2.2.2).trans HP.out.2.2.2
      obtain ⟨hc, -⟩ := HTr.out.cell (j := i) (by rw [dirtL_len]; exact hin)
      rw [dirtL_get hin] at hc
      have hcn := Lib.hid (count_next i s.old)
      have hle := count_le i s.old
      cases hb : s.old i with
      | none =>
        rw [hb] at hc
        have HB := Lib.hid hb; clear hb
        go_wp2
        go_roundw
        case rel =>
          refine ⟨i + 1, by omega, by go_num, congrArg (Value.int IntKind.i64) (by rw [hcn.out, HB.out]; simp), ?_⟩
          have h := hR.out
          exact ⟨by rw [half_no HB.out]; exact h.olds, by rw [half_no HB.out]; exact h.news, h.kept, h.below⟩
        case measure => simp [RowKit.intOf]; omega
      | some l =>
        rw [hb] at hc
        have HB := Lib.hid hb; clear hb
        have HBK : Hid (Bls wr wr.heap.size Ak keep) := hbk.out.up' hR.out.below
        have HBT : Hid (Trs wr wr.heap.size At T) := (hbt.out.below hR.out.below (Nat.le_refl _)).up hR.out.below.size
        go_wp2_with (go_at_call 41; refine (rkept_any (dirtyCount i s.old) Ak At nk ck nt ct keep T wr hnt hlk hlt HBK HBT).mono ?_; rintro e wa ⟨rfl, hba⟩; have HRa : Hid (CAt w w1 wa o' v' n s keep T i ro' rv') := hR.out.next hba; clear hba; have hx64 := keptBy_le keep T (dirtyCount i s.old); generalize hx : keptBy keep T (dirtyCount i s.old) = x at hx64 ⊢; have HX := Lib.hid hx.symm; clear hx; have HGa : Hid (wa.heap[g]? = w.heap[g]?) := HRa.out.below.block g hd.out.lt.1; obtain ⟨⟨-, e1, -, -, -, -, -⟩, -⟩ := rd7 (HGa.out.trans HP.out.1); have HGa' : Hid (wa.heap[g']? = w1.heap[g']?) := HRa.out.kept.block g' HD'.out.lt.1 (by have := HD'.out.apart; omega); obtain ⟨⟨e0', e1', -, -, -, -, -⟩, -⟩ := rd7 (HGa'.out.trans HP'.out.1))
        have HW1 : Hid (IntKind.i64.wrap ((i : Int) * 64) = ((i * 64 : Nat) : Int)) := by show _ = _; rw [IntKind.wrap_i64]; omega
        have HW2 : Hid (IntKind.i64.wrap (IntKind.i64.wrap ((i : Int) * 64) + (x : Int)) = ((i * 64 + x : Nat) : Int)) := by show _ = _; rw [HW1.out, IntKind.wrap_i64]; omega
        have hb1 : i * 64 + x ≤ n * 64 + rv'.length := by omega
        have hb2 : i * 64 < n * 64 + rv'.length := by omega
        have hb3 : i * 64 + x ≤ n * 64 + rv.length := by omega
        have hb4 : i * 64 < n * 64 + rv.length := by omega
        refine wp_region_still_tail 22 (by kernel_rfl) (by kernel_rfl) ?_
        simp only [List.take_succ_cons, List.take_zero, List.drop_succ_cons, List.drop_zero]
        iterate 10 still_step
        refine wpStill_slice_mid rfl (.tmp 39) (.tmp 41) (.tmp 45) 27 rfl 5 Try.underlying27 HI.out v' (n * 64) (n * 64 + rv'.length) _ _ (i * 64) (i * 64 + x) rfl rfl rfl HW1.out HW2.out (Nat.le_add_right _ _) hb1 hb2 ?_
        iterate 10 still_step
        refine wpStill_slice_mid rfl (.tmp 50) (.tmp 52) (.tmp 56) 27 rfl 5 Try.underlying27 HI.out v (n * 64) (n * 64 + rv.length) _ _ (i * 64) (i * 64 + x) rfl rfl rfl HW1.out HW2.out (Nat.le_add_right _ _) hb3 hb4 ?_
        refine wpStill_nil ?_
        change wpList _ _ _ _ _ wa.drew
        have HRb : Hid (CAt w w1 wa.drew o' v' n s keep T i ro' rv') := HRa.out.drew
        clear HRa HGa HGa' e1 e0' e1' HBK HBT hR HGr HTr c2 hc
        generalize wa.drew = wb at HRb ⊢
        have HS : Hid ((vals (secTake s.cur i x)).length = x ∧ (vals (secTake s.cur i x)).length = Nat.min (i * 64 + x - i * 64) x ∧ True) := by
          have h := secTake_len HCUR.out hin hx64
          refine ⟨by rw [vals_length, h], ?_, trivial⟩
          rw [vals_length, h, Nat.add_sub_cancel_left]; exact (Nat.min_self _).symm
        have HSRC : Hid (∀ wz, Below w.heap.size w wz → ∀ j u, (vals (secTake s.cur i x))[j]? = some u → wz.cell? ((⟨v, i * 64, none⟩ : Addr).add j) = some u) := fun wz hz j u hu => by
          have hj : j < x := by have h := (List.getElem?_eq_some_iff.1 hu).1; rw [HS.out.1] at h; exact h
          have hlen := HCUR.out
          rw [add_flat, cell_of_row wz v (i * 64 + j) _ _ _ ((hz.block v hd.out.lt.2.2.1).trans HP.out.2.2.1), List.getElem?_toArray, List.getElem?_append_left (by rw [vals_length]; omega)]
          unfold vals at hu ⊢
          rw [List.getElem?_map, secTake_get hj] at hu
          rw [List.getElem?_map]; exact hu
        refine wpList_copy_into rfl (.tmp 46) (.tmp 57) 27 27 rfl 5 Try.underlying27 HI.out (some ⟨v', i * 64, none⟩) (some ⟨v, i * 64, none⟩) x (n * 64 + rv'.length - i * 64) (i * 64 + x - i * 64) (n * 64 + rv.length - i * 64) rfl rfl v' (i * 64) (vals (half n s keep T i) ++ rv') 5 HRb.out.news (vals (secTake s.cur i x)) HS.out.2.1 ?_ ?_ (vals_one _) x HS.out.1 ?_
        · intro hp
          exact ⟨rfl, _, rfl, HSRC.out wb HRb.out.below⟩
        · rw [HS.out.1, List.length_append, vals_length, half_len]
          omega
        intro wc hwc hkc
        have HC : Hid (VRow wc v' (half n s keep T (i + 1)) rv' ∧ VRow wc o' (half n s keep T i) ro' ∧ Kept (fun k => k = o' ∨ k = v') w1 wc ∧ Below w.heap.size w wc) := by
          rw [half_yes hin HCUR.out HB.out HX.out] at hwc
          have hk2 : Kept (fun k => k = o' ∨ k = v') w1 wc := HRb.out.kept.trans (hkc.mono fun k _ e => .inr e)
          exact ⟨hwc, (hkc.block o' (Array.getElem?_eq_some_iff.1 HRb.out.olds).1 HD'.out.apart.2.2.2.1).trans HRb.out.olds, hk2, HB1.out.trans (hk2.below HB1.out.size (fun k e => by omega))⟩
        clear hwc hkc HRb
        obtain ⟨⟨-, e1, -, -, -, -, -⟩, -⟩ := rd7 ((HC.out.2.2.2.block g hd.out.lt.1).trans HP.out.1)
        have HGc : Hid (wc.heap[g']? = w1.heap[g']?) := HC.out.2.2.1.block g' HD'.out.lt.1 (by have := HD'.out.apart; omega)
        obtain ⟨⟨e0', -, -, -, -, -, -⟩, -⟩ := rd7 (HGc.out.trans HP'.out.1)
        go_wp2_with fail
        have hb5 : i * 64 + x ≤ n * 64 + ro'.length := by omega
        have hb6 : i * 64 < n * 64 + ro'.length := by omega
        refine wp_region_still_tail 22 (by kernel_rfl) (by kernel_rfl) ?_
        simp only [List.take_succ_cons, List.take_zero, List.drop_succ_cons, List.drop_zero]
        iterate 10 still_step
        refine wpStill_slice_mid rfl (.tmp 62) (.tmp 64) (.tmp 68) 27 rfl 5 Try.underlying27 HI.out o' (n * 64) (n * 64 + ro'.length) _ _ (i * 64) (i * 64 + x) rfl rfl rfl HW1.out HW2.out (Nat.le_add_right _ _) hb5 hb6 ?_
        iterate 10 still_step
        refine wpStill_slice_mid rfl (.tmp 73) (.tmp 75) (.tmp 79) 27 rfl 5 Try.underlying27 HI.out v (n * 64) (n * 64 + rv.length) _ _ (i * 64) (i * 64 + x) rfl rfl rfl HW1.out HW2.out (Nat.le_add_right _ _) hb3 hb4 ?_
        refine wpStill_nil ?_
        change wpList _ _ _ _ _ wc.drew
        have HD8 : Hid (VRow wc.drew v' (half n s keep T (i + 1)) rv' ∧ VRow wc.drew o' (half n s keep T i) ro' ∧ Kept (fun k => k = o' ∨ k = v') w1 wc.drew ∧ Below w.heap.size w wc.drew) := ⟨HC.out.1, HC.out.2.1, HC.out.2.2.1.drewN 1, HC.out.2.2.2.drew⟩
        clear HC HGc e1 e0'
        generalize wc.drew = wd at HD8 ⊢
        refine wpList_copy_into rfl (.tmp 69) (.tmp 80) 27 27 rfl 5 Try.underlying27 HI.out (some ⟨o', i * 64, none⟩) (some ⟨v, i * 64, none⟩) x (n * 64 + ro'.length - i * 64) (i * 64 + x - i * 64) (n * 64 + rv.length - i * 64) rfl rfl o' (i * 64) (vals (half n s keep T i) ++ ro') 5 HD8.out.2.1 (vals (secTake s.cur i x)) HS.out.2.1 ?_ ?_ (vals_one _) x HS.out.1 ?_
        · intro hp
          exact ⟨rfl, _, rfl, HSRC.out wd HD8.out.2.2.2⟩
        · rw [HS.out.1, List.length_append, vals_length, half_len]
          omega
        intro we hwe hke
        have HE : Hid (CAt w w1 we o' v' n s keep T (i + 1) ro' rv') := by
          rw [half_yes hin HCUR.out HB.out HX.out] at hwe
          have hk2 : Kept (fun k => k = o' ∨ k = v') w1 we := HD8.out.2.2.1.trans (hke.mono fun k _ e => .inl e)
          exact ⟨hwe, (hke.block v' (Array.getElem?_eq_some_iff.1 HD8.out.1).1 (fun e => HD'.out.apart.2.2.2.1 e.symm)).trans HD8.out.1, hk2, HB1.out.trans (hk2.below HB1.out.size (fun k e => by omega))⟩
        clear hwe hke HD8
        go_wp2
        go_roundw
        case rel => exact ⟨i + 1, by omega, by go_num, congrArg (Value.int IntKind.i64) (by rw [hcn.out, HB.out]; simp), HE⟩
        case measure => simp [RowKit.intOf]; omega
    · go_wp2
      go_ret
      obtain rfl : i = n := by omega
      have h := hR.out
      obtain ⟨a1, a2, a3, a4, a5, a6⟩ := HD'.out.apart
      have hn := h.news
      have ho := h.olds
      rw [half_end] at hn ho
      refine ⟨g', o', v', t', rfl, ⟨ro', rv', left', (h.kept.block g' HD'.out.lt.1 (by omega)).trans HP'.out.1, ?_, hn, (h.kept.block t' HD'.out.lt.2.2.2 (by omega)).trans HP'.out.2.1, HP'.out.2.2.1, HP'.out.2.2.2.1, HP'.out.2.2.2.2.1, hco', hcv', HP'.out.2.2.2.2.2⟩, hg1, ho1, hv1, ht1, h.below⟩
      rw [oldImg_fresh (crashed_len _ _ _ _ _)]
      exact ho
end Go.Proofs.Ytfacinlpkblopaa
