/-
  The reference's Tail, Foreign, sum of capacities, Choose, Spare, Cut, and two lists of regions compared.
-/
import Derived.Test.YtmkilbogdenljaaSlRef
import Derived.Test.YtmkilbogdenljaaGmRefFree
import Derived.Test.YtmkilbogdenljaaRegEq
set_option maxRecDepth 100000
namespace Go.Proofs.Ytmkilbogdenljaa
open Go.RowKit
theorem ord_open {w w1 : World} {l : List Gm.R} {r : Ending} (h : OrdIs w l r w1) : ∃ (A : Option Addr) (c : Nat), r = .returned (.slice A l.length c) ∧ SlIs A l.length c ∧ Arr regS w1 w.heap.size w1.heap.size A l ∧ Below w.heap.size w w1 := by
  obtain ⟨v, rfl, h1, h2⟩ := h
  obtain ⟨A, c, rfl, h3, h4⟩ := h1.open_
  exact ⟨A, c, rfl, h3, h4, h2⟩
set_option maxHeartbeats 2000000 in
theorem refsltail_any (A : Option Addr) (lo B n cap : Nat) (live : List Gm.R) (next : Int) (w : World) (hB : B ≤ w.heap.size) (hn : Hid (live.length = n)) (hn2 : n ≤ 100000) (hb : Hid (Arr regS w lo B A live)) :
    Calls Try.prog 13 #[.slice A n cap, .int .i64 next] w fun e w' => e = .returned (.int .i64 (Sl.tail live next)) ∧ Below w.heap.size w w' := by
  have CO := Lib.hid (refslorder_any A lo B n cap live w hB hn hn2 hb)
  unfold Sl.tail
  have hlen : (Sl.order live).length = n := (Sl.order_length live).trans hn.out
  generalize Sl.order live = L at *
  cases L with
  | nil =>
    go_enter Try.func13, Try.ntmps13
    go_wp2_with fail
    refine CO.out.mono ?_
    rintro e w1 h1
    obtain ⟨A1, c1, rfl, -, -, hb1⟩ := ord_open h1
    have HB1 := Lib.hid hb1
    clear h1 hb1 CO hlen
    rw [List.length_nil]
    go_wp2_with fail
    go_loopw [10] (fun iv wr => iv = .int .i64 0 ∧ wr = w1) (fun _ _ => 0)
    case atStart => exact ⟨rfl, rfl⟩
    case round =>
      obtain ⟨rfl, rfl⟩ := hrel
      go_wp2_with fail
      go_ret
      exact ⟨rfl, HB1.out⟩
  | cons r t =>
    go_enter Try.func13, Try.ntmps13
    go_wp2_with fail
    refine CO.out.mono ?_
    rintro e w1 h1
    obtain ⟨A1, c1, rfl, -, ha1, hb1⟩ := ord_open h1
    have HB1 := Lib.hid hb1
    have HA1 := Lib.hid ha1
    clear h1 hb1 ha1 CO
    obtain ⟨m, hm⟩ : ∃ m, (r :: t).length = m := ⟨_, rfl⟩
    rw [hm]
    have HMP : Hid (0 < m) := by rw [← hm]; exact Nat.succ_pos _
    obtain ⟨ad, rfl⟩ := HA1.out.some (k := 0) (Nat.succ_pos _)
    go_wp2_with fail
    go_loopw [10] (fun iv wr => ∃ k : Nat, k = 0 ∧ iv = .int .i64 (k : Int) ∧ wr = w1) (fun _ _ => 0)
    case atStart => exact ⟨0, rfl, rfl, rfl⟩
    case round =>
      obtain ⟨k, hk, rfl, rfl⟩ := hrel
      have hlt : k < m := by have := HMP.out; omega
      have hk0 : ((k : Int) == 0) = true := by rw [beq_iff_eq]; omega
      obtain ⟨m0, m1, m2, m3, m4, m5, m6, m7, m8, m9⟩ := regs_at HA1.out k (by rw [hm]; exact hlt) r (by rw [hk]; rfl)
      clear hk
      go_upto_region 4 with fail
      have HX := Lib.hid (heap_alloc_new wr (.cells #[.int .i64 r.ver, .int .i64 r.slot, .int .i64 r.lay, .int .i64 r.seq, .int .i64 r.tail, .int .i64 r.now, .int .i64 r.l.id, .int .i64 r.l.ver, .int .i64 r.l.rs, .int .i64 r.l.reg] 40))
      have HB2 : Hid (Below w.heap.size w (wr.alloc (.cells #[.int .i64 r.ver, .int .i64 r.slot, .int .i64 r.lay, .int .i64 r.seq, .int .i64 r.tail, .int .i64 r.now, .int .i64 r.l.id, .int .i64 r.l.ver, .int .i64 r.l.rs, .int .i64 r.l.reg] 40))) := HB1.out.alloc HB1.out.size _
      clear m0 m1 m2 m3 m4 m5 m6 m7 m8 m9
      generalize wr.alloc (.cells #[.int .i64 r.ver, .int .i64 r.slot, .int .i64 r.lay, .int .i64 r.seq, .int .i64 r.tail, .int .i64 r.now, .int .i64 r.l.id, .int .i64 r.l.ver, .int .i64 r.l.rs, .int .i64 r.l.reg] 40) = w2 at *
      obtain ⟨m0, m1, m2, m3, m4, m5, m6, m7, m8, m9⟩ := ten_cells HX.out
      go_wp2_with fail
      go_ret
      exact ⟨rfl, HB2.out⟩
set_option maxHeartbeats 2000000 in
theorem refslforeign_any (a b c d : Int) (A : Option Addr) (lo B n cap : Nat) (live : List Gm.R) (w : World) (hB : B ≤ w.heap.size) (hn : Hid (live.length = n)) (hn2 : n ≤ 100000) (hb : Hid (Arr regS w lo B A live)) :
    Calls Try.prog 15 #[.agg #[.int .i64 a, .int .i64 b, .int .i64 c, .int .i64 d], .slice A n cap] w (OrdIs w (Sl.foreign ⟨a, b, c, d⟩ live)) := by
  have CO : Hid (∀ W, Below w.heap.size w W → Calls Try.prog 11 #[.slice A n cap] W (OrdIs W (Sl.order live))) := fun W hW => refslorder_any A lo B n cap live W (Nat.le_trans hB hW.size) hn hn2 (Lib.hid (hb.out.below hW hB))
  have HS0 := Lib.hid (sd_new w #[.int .i64 a, .int .i64 b, .int .i64 c, .int .i64 d] 23)
  have hlen : (Sl.order live).length = n := (Sl.order_length live).trans hn.out
  have HF : Hid (∀ k, k < n → (((Sl.order live).take (k + 1)).filter fun r => decide (r.l.id ≠ a)) = ((Sl.order live).take k).filter (fun r => decide (r.l.id ≠ a)) ++ (if (((Sl.order live).getD k Gm.R0).l.id != a) = true then [(Sl.order live).getD k Gm.R0] else [])) := fun k hk => by
    rw [List.take_succ_eq_append_getElem (by omega), List.filter_append, List.getD_eq_getElem?_getD, List.getElem?_eq_getElem (by omega)]
    congr 1
    simp only [List.filter_cons, List.filter_nil, Option.getD_some, bne_iff_ne, ne_eq, decide_eq_true_eq]
  have HFE : Hid (((Sl.order live).take n).filter (fun r => decide (r.l.id ≠ a)) = Sl.foreign ⟨a, b, c, d⟩ live) := by
    rw [← hlen, List.take_length]; rfl
  have HLE : Hid (∀ k, (((Sl.order live).take k).filter fun r => decide (r.l.id ≠ a)).length ≤ n) := fun k => Nat.le_trans (List.length_filter_le _ _) (by rw [List.length_take]; omega)
  unfold OrdIs
  rw [← HFE.out]
  have HL := Lib.hid hlen
  clear hlen HFE
  generalize Sl.order live = L at *
  have HZ : Hid (((L.take 0).filter fun r => decide (r.l.id ≠ a)) = []) := rfl
  generalize hfr : (fun k : Nat => (L.take k).filter fun r => decide (r.l.id ≠ a)) = fr at *
  have e : ∀ k, ((L.take k).filter fun r => decide (r.l.id ≠ a)) = fr k := fun k => by rw [← hfr]
  simp only [e] at HF HLE HZ ⊢
  clear hfr e
  go_enter Try.func15, Try.ntmps15
  go_upto_region 1 with fail
  generalize w.alloc (.cells #[.int .i64 a, .int .i64 b, .int .i64 c, .int .i64 d] 23) = w0 at *
  go_wp2_with fail
  refine (CO.out _ HS0.out.2).mono ?_
  rintro e w1 h1
  obtain ⟨A1, c1, rfl, -, ha1, hb1⟩ := ord_open h1
  have HS1 := Lib.hid (HS0.out.next hb1 (by rfl) (by rfl) (by rfl) (by rfl))
  have HA1 := Lib.hid ha1
  have HSZ : Hid (w.heap.size ≤ w1.heap.size) := HS1.out.2.size
  have HLT := Lib.hid HS1.out.lt
  clear h1 hb1 ha1 CO HS0
  rw [HL.out]
  go_wp2_with fail
  go_loopw [5, 11] (fun ov iv wr => ∃ k : Nat, k ≤ n ∧ iv = .int .i64 (k : Int) ∧ Hid (ARow regS 40 wr w1.heap.size ov (fr k).length (fr k)) ∧ Hid (Sd w w.heap.size (.cells #[.int .i64 a, .int .i64 b, .int .i64 c, .int .i64 d] 23 (0, 0)) wr) ∧ Hid (Below w1.heap.size w1 wr)) (fun _ i _ => n - (intOf i).toNat)
  case atStart => exact ⟨0, Nat.zero_le _, rfl, by rw [HZ.out]; exact ARow.nil _ _, HS1, Below.refl _ _⟩
  case round =>
    clear HS1
    obtain ⟨k, hk, rfl, HR, HS, HB⟩ := hrel
    by_cases hlt : k < n
    · obtain ⟨r, hr⟩ : ∃ r, L.getD k Gm.R0 = r := ⟨_, rfl⟩
      obtain ⟨ad, rfl⟩ := HA1.out.some (k := k) (by rw [HL.out]; exact hlt)
      obtain ⟨m0, m1, m2, m3, m4, m5, m6, m7, m8, m9⟩ := regs_at (HA1.out.below HB.out (Nat.le_refl _)) k (by rw [HL.out]; exact hlt) r hr
      have HNX := Lib.hid (HF.out k hlt)
      have hle := HLE.out k
      rw [hr] at HNX
      clear hr
      go_upto_region 5 with fail
      have HX := Lib.hid (heap_alloc_new wr (.cells #[.int .i64 r.ver, .int .i64 r.slot, .int .i64 r.lay, .int .i64 r.seq, .int .i64 r.tail, .int .i64 r.now, .int .i64 r.l.id, .int .i64 r.l.ver, .int .i64 r.l.rs, .int .i64 r.l.reg] 40))
      have HS2 : Hid (Sd w w.heap.size _ (wr.alloc (.cells #[.int .i64 r.ver, .int .i64 r.slot, .int .i64 r.lay, .int .i64 r.seq, .int .i64 r.tail, .int .i64 r.now, .int .i64 r.l.id, .int .i64 r.l.ver, .int .i64 r.l.rs, .int .i64 r.l.reg] 40))) := HS.out.next ((Below.refl _ wr).alloc (Nat.le_refl _) _) rfl rfl rfl rfl
      have HR2 := Lib.hid (HR.out.made (.cells #[.int .i64 r.ver, .int .i64 r.slot, .int .i64 r.lay, .int .i64 r.seq, .int .i64 r.tail, .int .i64 r.now, .int .i64 r.l.id, .int .i64 r.l.ver, .int .i64 r.l.rs, .int .i64 r.l.reg] 40))
      have HB2 : Hid (Below w1.heap.size w1 (wr.alloc (.cells #[.int .i64 r.ver, .int .i64 r.slot, .int .i64 r.lay, .int .i64 r.seq, .int .i64 r.tail, .int .i64 r.now, .int .i64 r.l.id, .int .i64 r.l.ver, .int .i64 r.l.rs, .int .i64 r.l.reg] 40))) := HB.out.alloc HB.out.size _
      clear m0 m1 m2 m3 m4 m5 m6 m7 m8 m9 HS HR HB
      generalize wr.alloc (.cells #[.int .i64 r.ver, .int .i64 r.slot, .int .i64 r.lay, .int .i64 r.seq, .int .i64 r.tail, .int .i64 r.now, .int .i64 r.l.id, .int .i64 r.l.ver, .int .i64 r.l.rs, .int .i64 r.l.reg] 40) = w2 at *
      obtain ⟨m0, m1, m2, m3, m4, m5, m6, m7, m8, m9⟩ := ten_cells HX.out
      obtain ⟨y0, y1, y2, y3⟩ := four_cells HS2.out.1
      cases hc : (r.l.id != a) with
      | true =>
        rw [hc, if_pos rfl] at HNX
        have HS3 : Hid (Sd w w.heap.size _ (w2.alloc (.cells #[.int .i64 r.ver, .int .i64 r.slot, .int .i64 r.lay, .int .i64 r.seq, .int .i64 r.tail, .int .i64 r.now, .int .i64 r.l.id, .int .i64 r.l.ver, .int .i64 r.l.rs, .int .i64 r.l.reg] 40))) := HS2.out.next ((Below.refl _ w2).alloc (Nat.le_refl _) _) rfl rfl rfl rfl
        have HR3 := Lib.hid (HR2.out.made (.cells #[.int .i64 r.ver, .int .i64 r.slot, .int .i64 r.lay, .int .i64 r.seq, .int .i64 r.tail, .int .i64 r.now, .int .i64 r.l.id, .int .i64 r.l.ver, .int .i64 r.l.rs, .int .i64 r.l.reg] 40))
        have HB3 : Hid (Below w1.heap.size w1 (w2.alloc (.cells #[.int .i64 r.ver, .int .i64 r.slot, .int .i64 r.lay, .int .i64 r.seq, .int .i64 r.tail, .int .i64 r.now, .int .i64 r.l.id, .int .i64 r.l.ver, .int .i64 r.l.rs, .int .i64 r.l.reg] 40))) := HB2.out.alloc HB2.out.size _
        have HG3 : Hid ((w2.alloc (.cells #[.int .i64 r.ver, .int .i64 r.slot, .int .i64 r.lay, .int .i64 r.seq, .int .i64 r.tail, .int .i64 r.now, .int .i64 r.l.id, .int .i64 r.l.ver, .int .i64 r.l.rs, .int .i64 r.l.reg] 40)).heap[w2.heap.size]? = some (.cells (regS.cs r).toArray 40 (0, 0))) := heap_alloc_new _ _
        clear HX HS2 HR2 HB2
        go_wp2_with (at_builtin; refine wpList_append_arr (S := regS) 24 Try.underlying24 info_reg rfl rfl (.tmp 21) (.tmp 23) rfl w2.heap.size 1 r rfl HR3.out rfl HG3.out (by unfold maxLen; omega) (by omega) HB3.out.size ?_; intro v4 w4 hr4 hb4 hx4)
        have HR4 := Lib.hid hr4
        have HS4 : Hid (Sd w w.heap.size _ w4) := ⟨block_next HS3.out.1 hb4 HLT.out, HS3.out.2.trans (hb4.mono HSZ.out)⟩
        have HB4 : Hid (Below w1.heap.size w1 w4) := HB3.out.trans hb4
        clear hr4 hb4 hx4 HR3 HG3 HS3 HB3
        go_wp2_with fail
        exact ⟨⟨k + 1, by omega, by go_num, by rw [HNX.out, List.length_append]; exact HR4, HS4, HB4⟩, by simp [intOf]; omega⟩
      | false =>
        rw [hc, if_neg (by decide), List.append_nil] at HNX
        go_wp2_with fail
        exact ⟨⟨k + 1, by omega, by go_num, by rw [HNX.out]; exact HR2, HS2, HB2⟩, by simp [intOf]; omega⟩
    · obtain rfl : k = n := by omega
      go_wp2_with fail
      go_ret
      exact ⟨_, rfl, ord_mono HR.out HSZ.out, HS.out.2⟩
end Go.Proofs.Ytmkilbogdenljaa
