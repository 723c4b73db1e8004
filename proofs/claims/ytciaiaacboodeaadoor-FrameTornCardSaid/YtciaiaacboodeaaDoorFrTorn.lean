/-
  The walk of the statement on torn frames.
-/
import Derived.Test.YtciaiaacboodeaaDoorFrLaws
import Derived.OwnWalk
import Derived.ChangeKeysEq
import Derived.RegionTactic
import Derived.BigRegion
import Derived.Deep.RegionHeld3
namespace Go.Proofs.YtciaiaacboodeaaDoor
open Go.RowKit Go.WideMaps
theorem eqi {P : Program} (w : World) {e : TypeId} {k : IntKind} (he : P.underlying e = some (.int k)) (d : Nat) (a b : Int) : (Op.equalIn (d + 1) e (.int k a) (.int k b)).run P w = .ok (a == b) w := by
  simp [Op.equalIn, run_underlying he]
theorem parti {P : Program} (w : World) {e : TypeId} {k : IntKind} (he : P.underlying e = some (.int k)) (cs : Array Value) (j : Nat) (v : Value) (hv : cs[j]? = some v) : (part e cs j).run P w = .ok v w := by
  simp [part, isAgg, run_underlying he, hv]
theorem eq4 {P : Program} (w : World) {t e : TypeId} {i : TypeInfo} (hu : P.underlying t = some (.array 4 e)) (he : P.underlying e = some (.int .u8)) (hi : P.info? e = some i) (hc : P.cellsOf e = 1) (a b c d : Int) :
    (Op.equalIn 10000 t (.agg #[.int .u8 a, .int .u8 b, .int .u8 c, .int .u8 d]) (.agg #[.int .u8 0, .int .u8 0, .int .u8 0, .int .u8 0])).run P w = .ok (a == 0 && (b == 0 && (c == 0 && d == 0))) w := by
  rw [run_equalIn_array w 9999 _ _ hu hi, hc]
  have q : ∀ y0 y1 y2 y3 : Value, (part e #[y0, y1, y2, y3] (0 * 1)).run P w = .ok y0 w ∧ (part e #[y0, y1, y2, y3] (1 * 1)).run P w = .ok y1 w ∧ (part e #[y0, y1, y2, y3] (2 * 1)).run P w = .ok y2 w ∧ (part e #[y0, y1, y2, y3] (3 * 1)).run P w = .ok y3 w :=
    fun _ _ _ _ => ⟨parti w he _ _ _ rfl, parti w he _ _ _ rfl, parti w he _ _ _ rfl, parti w he _ _ _ rfl⟩
  simp only [List.range, List.range.loop, Op.eqItems, Sem.run_bind, (q _ _ _ _).1, (q _ _ _ _).2.1, (q _ _ _ _).2.2.1, (q _ _ _ _).2.2.2, Result.andThen_ok, eqi w he 9998, Sem.run_ite, Sem.run_pure]
  cases (a == 0) <;> cases (b == 0) <;> cases (c == 0) <;> cases (d == 0) <;> rfl
theorem nine_cells {w : World} {g : Nat} {a b c d e f h i j : Value} {t : TypeId} (H : w.heap[g]? = some (.cells #[a, b, c, d, e, f, h, i, j] t (0, 0))) :
    w.cell? ⟨g, 0, none⟩ = some a ∧ w.cell? ⟨g, 1, none⟩ = some b ∧ w.cell? ⟨g, 2, none⟩ = some c ∧ w.cell? ⟨g, 3, none⟩ = some d ∧ w.cell? ⟨g, 4, none⟩ = some e ∧ w.cell? ⟨g, 5, none⟩ = some f ∧ w.cell? ⟨g, 6, none⟩ = some h ∧ w.cell? ⟨g, 7, none⟩ = some i ∧ w.cell? ⟨g, 8, none⟩ = some j := by
  refine ⟨?_, ?_, ?_, ?_, ?_, ?_, ?_, ?_, ?_⟩ <;> (rw [cell_of_row w g _ _ t (0, 0) H]; rfl)
/-- The boxes that the statement makes: what came in, the place, the change. -/
def TornAt (w : World) (o0 o1 o2 : Obj) (gp gx : Nat) (W : World) : Prop := W.heap[w.heap.size]? = some o0 ∧ W.heap[gp]? = some o1 ∧ W.heap[gx]? = some o2 ∧ Below w.heap.size w W
theorem TornAt.next {w W W' W'' : World} {o0 o1 o2 : Obj} {gp gx : Nat} (h : TornAt w o0 o1 o2 gp gx W) (k : Below W'.heap.size W' W'') (e1 : W'.heap = W.heap) (e2 : W'.os = W.os) (e3 : W'.tape = W.tape) (e4 : W'.output = W.output) : TornAt w o0 o1 o2 gp gx W'' := by
  have a : Sd w w.heap.size o0 W'' := Sd.next ⟨h.1, h.2.2.2⟩ k e1 e2 e3 e4
  have b : Sd w gp o1 W'' := Sd.next ⟨h.2.1, h.2.2.2⟩ k e1 e2 e3 e4
  have c : Sd w gx o2 W'' := Sd.next ⟨h.2.2.1, h.2.2.2⟩ k e1 e2 e3 e4
  exact ⟨a.1, b.1, c.1, a.2⟩
theorem torn_made {w w0 : World} {o0 o1 o2 : Obj} (h0 : w0.heap[w.heap.size]? = some o0) (hb : Below w.heap.size w w0) (hs : w.heap.size ≤ w0.heap.size) :
    TornAt w o0 o1 o2 w0.heap.size (w0.heap.size + 1) ((w0.alloc o1).alloc o2).drew ∧ TornAt w o0 o1 o2 (w0.heap.size + 1) w0.heap.size ((w0.alloc o2).alloc o1).drew := by
  have hl := (Array.getElem?_eq_some_iff.1 h0).1
  refine ⟨⟨?_, ?_, ?_, ?_⟩, ⟨?_, ?_, ?_, ?_⟩⟩
  · exact (heap_alloc_old _ _ (by simp; omega)).trans ((heap_alloc_old _ _ hl).trans h0)
  · exact (heap_alloc_old _ _ (by simp)).trans (heap_alloc_new w0 _)
  · exact alloc_at (w := w0.alloc _) (by simp)
  · exact below_drawn ((hb.alloc hs _).alloc (by simp; omega) _) 1
  · exact (heap_alloc_old _ _ (by simp; omega)).trans ((heap_alloc_old _ _ hl).trans h0)
  · exact alloc_at (w := w0.alloc _) (by simp)
  · exact (heap_alloc_old _ _ (by simp)).trans (heap_alloc_new w0 _)
  · exact below_drawn ((hb.alloc hs _).alloc (by simp; omega) _) 1
theorem wrap58 (n : Int) : ∃ (t : Int) (m : Nat), n.tmod 58 = t ∧ -58 < t ∧ t < 58 ∧ (t + 58) % 58 = (m : Int) ∧ m < 58 := by
  have h1 : (n.tmod 58).natAbs = n.natAbs % 58 := Int.natAbs_tmod n 58
  exact ⟨_, ((n.tmod 58 + 58) % 58).toNat, rfl, by omega, by omega, by omega, by omega⟩
set_option maxHeartbeats 2000000 in
set_option maxRecDepth 100000 in
theorem frametorn_any (k s x at0 : Int) (x0 x1 x2 x3 : Nat) (A : Option Addr) (n c : Nat) (l : List Nat) (w : World) (hs63 : s ≤ 9223372036854775807) (hs : SlIs A n c) (hb : Hid (l.length = n ∧ Bs w w.heap.size A l)) (hx0 : x0 < 256) (hx1 : x1 < 256) (hx2 : x2 < 256) (hx3 : x3 < 256) (ht : Hid (TabW w)) (hz : 0 < w.heap.size) :
    Calls Tryd.prog 7 #[.agg #[.int .i64 k, .int .i64 s, .int .i64 x, .slice A n c, .int .i64 at0, .int .u8 (x0 : Int), .int .u8 (x1 : Int), .int .u8 (x2 : Int), .int .u8 (x3 : Int)]] w fun e w' => e = .returned (.bool true) ∧ Below w.heap.size w w' := by
  obtain ⟨m, hm⟩ := min_is n 59
  obtain ⟨a1, a2⟩ := min_bs hb.out.1 hb.out.2 hm
  have q := min_sl hs hm
  have hm59 : m ≤ 59 := by unfold MinIs at hm; omega
  have HAW : Hid (∀ W, Below w.heap.size w W → Calls Tryd.prog 14 #[] W fun e w' => e = .returned (.bool true) ∧ Below W.heap.size W w') := fun W hW => frawake_any W (ht.out.below hW hz) (Nat.lt_of_lt_of_le hz hW.size)
  have HEN : Hid (∀ W, Below w.heap.size w W → Calls Tryd.prog 12 #[.int .i64 k, .int .i64 s, .int .i64 x, .slice A m c] W (FrEnc W (Fr.enc k s x (l.take m)) (Fr.err k s x m))) := fun W hW =>
    frencode_any k s x A w.heap.size m c _ W hs63 hW.size q a1 (a2.below hW (Nat.le_refl _)) (ht.out.below hW hz) (Nat.lt_of_lt_of_le hz hW.size)
  have hnc := hs.2.1
  have hc63 := hs.2.2
  unfold FrEnc at HEN
  obtain ⟨i0, hi, hz0, hz1, hz2⟩ := info_parts info_u8
  have heq0 := fun w : World => eq4 w (P := Tryd.prog) Tryd.underlying44 Tryd.underlying5 hi (by kernel_rfl) (x0 : Int) x1 x2 x3
  clear hi hz0 hz1 hz2 hs q
  go_enter Tryd.func7, Tryd.ntmps7
  go_upto_region 1 with fail
  have HS0 : Hid ((w.alloc (.cells #[.int .i64 k, .int .i64 s, .int .i64 x, .slice A n c, .int .i64 at0, .int .u8 (x0 : Int), .int .u8 (x1 : Int), .int .u8 (x2 : Int), .int .u8 (x3 : Int)] 46)).heap[w.heap.size]? = some (.cells #[.int .i64 k, .int .i64 s, .int .i64 x, .slice A n c, .int .i64 at0, .int .u8 (x0 : Int), .int .u8 (x1 : Int), .int .u8 (x2 : Int), .int .u8 (x3 : Int)] 46 (0, 0))) := heap_alloc_new _ _
  have HB0 : Hid (Below w.heap.size w (w.alloc (.cells #[.int .i64 k, .int .i64 s, .int .i64 x, .slice A n c, .int .i64 at0, .int .u8 (x0 : Int), .int .u8 (x1 : Int), .int .u8 (x2 : Int), .int .u8 (x3 : Int)] 46))) := (Below.refl _ w).alloc (Nat.le_refl _) _
  generalize w.alloc (.cells #[.int .i64 k, .int .i64 s, .int .i64 x, .slice A n c, .int .i64 at0, .int .u8 (x0 : Int), .int .u8 (x1 : Int), .int .u8 (x2 : Int), .int .u8 (x3 : Int)] 46) = w0 at *
  go_cut [3, 4, 5] (fun s3 s4 s5 wx => ∃ gp gx, s3 = .pointer (some ⟨gp, 0, none⟩) ∧ s4 = .int .i64 at0 ∧ s5 = .pointer (some ⟨gx, 0, none⟩) ∧ w.heap.size < gp ∧ w.heap.size < gx ∧ Hid (TornAt w (.cells #[.int .i64 k, .int .i64 s, .int .i64 x, .slice A n c, .int .i64 at0, .int .u8 (x0 : Int), .int .u8 (x1 : Int), .int .u8 (x2 : Int), .int .u8 (x3 : Int)] 46 (0, 0)) (.cells #[.int .i64 k, .int .i64 s, .int .i64 x] 33 (0, 0)) (.cells #[.int .u8 (x0 : Int), .int .u8 (x1 : Int), .int .u8 (x2 : Int), .int .u8 (x3 : Int)] 44 (0, 0)) gp gx wx))
  case first =>
    obtain ⟨c0, c1, c2, c3, c4, c5, c6, c7, c8⟩ := nine_cells HS0.out
    have hlt : w.heap.size < w0.heap.size := (Array.getElem?_eq_some_iff.1 HS0.out).1
    have n1 : w0.heap.size ≠ w.heap.size := by omega
    have n2 : w0.heap.size + 1 ≠ w.heap.size := by omega
    have HLT0 := Lib.hid hlt
    clear hlt
    go_region_held3 (fun W => W.cell? ⟨w.heap.size, 0, none⟩ = some (.int .i64 k) ∧ W.cell? ⟨w.heap.size, 1, none⟩ = some (.int .i64 s) ∧ W.cell? ⟨w.heap.size, 2, none⟩ = some (.int .i64 x) ∧ W.cell? ⟨w.heap.size, 4, none⟩ = some (.int .i64 at0) ∧ W.cell? ⟨w.heap.size, 5, none⟩ = some (.int .u8 (x0 : Int)) ∧ W.cell? ⟨w.heap.size, 6, none⟩ = some (.int .u8 (x1 : Int)) ∧ W.cell? ⟨w.heap.size, 7, none⟩ = some (.int .u8 (x2 : Int)) ∧ W.cell? ⟨w.heap.size, 8, none⟩ = some (.int .u8 (x3 : Int)))
      (first
        | go_keep)
      (first
        | fail)
    all_goals
      go_wp2_with fail
      go_meet
      first
        | exact ⟨_, _, rfl, rfl, rfl, HLT0.out, Nat.lt_succ_of_lt HLT0.out, (torn_made HS0.out HB0.out (Nat.le_of_lt HLT0.out)).1⟩
        | exact ⟨_, _, rfl, rfl, rfl, Nat.lt_succ_of_lt HLT0.out, HLT0.out, (torn_made HS0.out HB0.out (Nat.le_of_lt HLT0.out)).2⟩
  case rest =>
    obtain ⟨gp, gx, rfl, rfl, rfl, hgp, hgx, HT1⟩ := hcut
    clear HS0 HB0
    obtain ⟨c0, c1, c2, c3, c4, c5, c6, c7, c8⟩ := nine_cells HT1.out.1
    generalize wc = w1 at *
    go_upto_region 2 with fail
    go_cut [6] (fun s wx => s = .slice A m c ∧ w1 = wx)
    case first =>
      unfold MinIs at hm
      rcases hm with ⟨i0, rfl⟩ | ⟨i0, rfl⟩
      all_goals
        go_wp2_with fail
        go_meet
        exact ⟨rfl, rfl⟩
    case rest =>
      obtain ⟨rfl, rfl⟩ := hcut
      clear c0 c1 c2 c3 c4 c5 c6 c7 c8
      obtain ⟨y0, y1, y2⟩ := three_cells HT1.out.2.1
      go_wp2_with fail
      refine (HEN.out _ HT1.out.2.2.2).mono ?_
      rintro e w2 ⟨A2, n2, c2, rfl, hs2, h0, hne, hb2⟩
      have HT2 := Lib.hid (HT1.out.next hb2 (by rfl) (by rfl) (by rfl) (by rfl))
      have HB12 := Lib.hid hb2
      clear hb2 y0 y1 y2
      by_cases hma : Fr.may k s x
      · have he : Fr.err k s x m = 0 := by unfold Fr.err; rw [if_pos hma, if_neg (by omega)]
        obtain ⟨rfl, hown⟩ := h0 he
        rw [he]
        have HLT : Hid (∀ y ∈ Fr.enc k s x (l.take m), y < 256) := Fr.enc_lt _ _ _ _ ⟨hma.1, hma.2.1⟩ a2.lt
        have hlen : (l.take m).length ≤ 59 := by rw [a1]; exact hm59
        have HLE : Hid ((Fr.enc k s x (l.take m)).length = 64) := Fr.enc_length _ _ _ _ hlen
        clear h0 hne hs2 he
        have HO2 := Lib.hid hown
        clear hown
        obtain ⟨x0c, x1c, x2c, x3c⟩ := four_cells HT2.out.2.2.1
        by_cases hx : x0 = 0 ∧ x1 = 0 ∧ x2 = 0 ∧ x3 = 0
        · have hb0 : ((x0 : Int) == 0 && ((x1 : Int) == 0 && ((x2 : Int) == 0 && (x3 : Int) == 0))) = true := by
            obtain ⟨rfl, rfl, rfl, rfl⟩ := hx; rfl
          rw [hb0] at heq0
          clear hb0 hx
          go_wp2_with (go_at_call 14; refine (HAW.out _ HT2.out.2.2.2).mono ?_; rintro e w3 ⟨rfl, hb3⟩; have HT3 := Lib.hid (HT2.out.next hb3 (by rfl) (by rfl) (by rfl) (by rfl)); clear hb3)
          go_ret
          exact ⟨rfl, HT3.out.2.2.2⟩
        · have hb0 : ((x0 : Int) == 0 && ((x1 : Int) == 0 && ((x2 : Int) == 0 && (x3 : Int) == 0))) = false := by
            rw [Bool.eq_false_iff]
            intro e
            simp only [Bool.and_eq_true, beq_iff_eq] at e
            exact hx ⟨by omega, by omega, by omega, by omega⟩
          rw [hb0] at heq0
          have HX := Lib.hid hx; clear hb0 hx
          go_upto_region 8 with fail
          clear x0c x1c x2c x3c heq0
          go_cut [4] (fun s wx => ∃ a : Nat, s = .int .i64 (a : Int) ∧ a < 58 ∧ w2 = wx)
          case first =>
            obtain ⟨t, a, e1, t1, t2, e2, ha⟩ := wrap58 at0
            go_wp2_with fail
            go_meet
            exact ⟨a, by rw [e2], ha, rfl⟩
          case rest =>
            obtain ⟨a, rfl, ha, rfl⟩ := hcut
            go_upto_if 57 with fail
            go_cut [4] (fun s wx => ∃ p : Nat, s = .int .i64 (p : Int) ∧ (p + 4 ≤ 60 ∨ p = 60) ∧ w2 = wx)
            case first =>
              by_cases h57 : a = 57
              · have hd : ((a : Int) == 57) = true := by rw [beq_iff_eq]; omega
                go_wp2_with fail
                go_meet
                exact ⟨60, rfl, .inr rfl, rfl⟩
              · have hd : ((a : Int) == 57) = false := by rw [beq_eq_false_iff_ne]; omega
                go_wp2_with fail
                go_meet
                exact ⟨a, rfl, .inl (by omega), rfl⟩
            case rest =>
              obtain ⟨p, rfl, hp, rfl⟩ := hcut
              have HTN := Lib.hid (Fr.torn k s x (l.take m) p x0 x1 x2 x3 hlen hx0 hx1 hx2 hx3 HX.out hp)
              have HNG : Hid (∀ W, Below w.heap.size w W → ∀ (A : Option Addr) (c : Nat), SlIs A 64 c → Bs W W.heap.size A (Crc.md (Fr.enc k s x (l.take m)) p [x0, x1, x2, x3] 4) → Calls Tryd.prog 17 #[.int .i64 k, .int .i64 s, .int .i64 x, .slice A 64 c] W (NoFr W)) := fun W hW A c h1 h2 =>
                (frdecode_any k s x A W.heap.size 64 c _ W hs63 (Nat.le_refl _) h1 (by show _ = _; rw [Crc.md_length, HLE.out]) h2 (ht.out.below hW hz) (Nat.lt_of_lt_of_le hz hW.size)).mono fun _ _ h => h.elim (fun h => absurd h.1 HTN.out) (fun h => h.2)
              clear HTN hma hlen HEN
              generalize Fr.enc k s x (l.take m) = en at *
              have hxs : Hid (∀ j, [x0, x1, x2, x3].getD j 0 < 256) := fun j => by
                match j with
                | 0 => exact hx0
                | 1 => exact hx1
                | 2 => exact hx2
                | 3 => exact hx3
                | _ + 4 => exact Nat.zero_lt_succ _
              have HLM : Hid (∀ j, (Crc.md en p [x0, x1, x2, x3] j).length = 64) := fun j => by rw [Crc.md_length, HLE.out]
              have HM : Hid (∀ j, ∀ y ∈ Crc.md en p [x0, x1, x2, x3] j, y < 256) := Crc.md_lt en p [x0, x1, x2, x3] HLT.out hxs.out
              obtain ⟨g, rfl, hg1, hg2⟩ : ∃ g, A2 = some ⟨g, 0, none⟩ ∧ w1.heap.size ≤ g ∧ g < w2.heap.size := by
                obtain ⟨B2, c2', hv, -, -, -, -, hB2⟩ := own_bytes HO2.out HLT.out
                injection hv with hv _ _
                subst hv
                rcases hB2 with ⟨_, e, _⟩ | h
                · omega
                · exact h
              have HG : Hid (w1.heap.size ≤ g) := hg1
              have hgx1 : gx < w1.heap.size := (Array.getElem?_eq_some_iff.1 HT1.out.2.2.1).1
              have hnew : Hid (∀ j, j < 4 → w1.cell? ⟨gx, j, none⟩ = some (.int .u8 (([x0, x1, x2, x3].getD j 0 : Nat) : Int))) := fun j hj => by
                rw [cell_of_row _ _ _ _ _ _ HT1.out.2.2.1]
                obtain rfl | rfl | rfl | rfl : j = 0 ∨ j = 1 ∨ j = 2 ∨ j = 3 := by omega
                all_goals rfl
              have hp60 : p ≤ 60 := by omega
              clear hp hg2 hgp hgx HX HT2
              go_wp2_with fail
              go_loopw [9] (fun iv wr => ∃ j : Nat, j ≤ 4 ∧ iv = .int .i64 (j : Int) ∧ Hid (wr.ownsRow w1.heap.size 5 1 (.slice (some ⟨g, 0, none⟩) 64 c2) 64 (vals (Crc.md en p [x0, x1, x2, x3] j))) ∧ Hid (Below w1.heap.size w1 wr)) (fun iv _ => 4 - (intOf iv).toNat)
              case atStart => exact ⟨0, Nat.zero_le _, rfl, HO2.out, HB12.out⟩
              case round =>
                obtain ⟨j, hj, rfl, hown, hbel⟩ := hrel
                by_cases hlt4 : j < 4
                · have hy := getD_lt (HM.out j) (p + j)
                  have hxj := hxs.out j
                  have hpj : p + j < 64 := by omega
                  have hpj1 : (0 : Int) ≤ (p : Int) + (j : Int) := by omega
                  have hpj2 : (p : Int) + (j : Int) < 64 := by omega
                  have hcell : wr.cell? ⟨g, p + j, none⟩ = some (.int .u8 (((Crc.md en p [x0, x1, x2, x3] j).getD (p + j) 0 : Nat) : Int)) := by
                    rw [hown.out.cellAt (p + j) (by omega)]
                    exact vals_at (by rw [HLM.out j]; exact hpj)
                  have hfz : wr.frozen? ⟨g, p + j, none⟩ = false := hown.out.frozenAt _
                  have hbx : wr.cell? ⟨gx, j, none⟩ = some (.int .u8 (([x0, x1, x2, x3].getD j 0 : Nat) : Int)) := (hbel.out.cell hgx1).trans (hnew.out j hlt4)
                  have hst : Hid (vals (Crc.md en p [x0, x1, x2, x3] (j + 1)) = (vals (Crc.md en p [x0, x1, x2, x3] j)).set (p + j) (.int .u8 (((Crc.md en p [x0, x1, x2, x3] j).getD (p + j) 0 ^^^ [x0, x1, x2, x3].getD j 0 : Nat) : Int))) := by
                    show _ = _
                    rw [vals_set]; rfl
                  generalize (Crc.md en p [x0, x1, x2, x3] j).getD (p + j) 0 = y at hy hcell hst
                  generalize [x0, x1, x2, x3].getD j 0 = z at hxj hbx hst
                  have ex := u8_xor_nat y z hy hxj
                  generalize y ^^^ z = u at ex hst
                  go_wp2
                  go_region
                  go_wp2
                  go_roundw
                  case rel =>
                    have h1 := (hown.out.stored (p + j) (.int .u8 (u : Int))).1
                    rw [← hst.out] at h1
                    have h2 := hbel.out.setCell (p := ⟨g, p + j, none⟩) HG.out (.int .u8 (u : Int))
                    exact ⟨j + 1, by omega, by go_num, h1, h2.drew⟩
                  case measure => simp [intOf]; omega
                · obtain rfl : j = 4 := by omega
                  have HTW := Lib.hid (HT1.out.next hbel.out (by rfl) (by rfl) (by rfl) (by rfl))
                  obtain ⟨B3, c3, hv3, hbs3, hlen3, hn3, hm3, ho3⟩ := own_bytes hown.out (HM.out 4)
                  injection hv3 with hv3 _ hv5
                  subst hv3 hv5
                  have HDC := Lib.hid (HNG.out wr HTW.out.2.2.2 _ _ (sl_own hn3 hm3 ho3) hbs3)
                  clear hbs3 hlen3 hn3 hm3 ho3
                  obtain ⟨y0, y1, y2⟩ := three_cells HTW.out.2.1
                  go_wp2_with fail
                  refine HDC.out.mono ?_
                  rintro e w5 ⟨rfl, hb5⟩
                  have HT5 := Lib.hid (HTW.out.next hb5 (by rfl) (by rfl) (by rfl) (by rfl))
                  clear hb5 y0 y1 y2
                  go_wp2_with fail
                  refine (HAW.out _ HT5.out.2.2.2).mono ?_
                  rintro e w6 ⟨rfl, hb6⟩
                  have HT6 := Lib.hid (HT5.out.next hb6 (by rfl) (by rfl) (by rfl) (by rfl))
                  clear hb6
                  go_wp2
                  go_ret
                  exact ⟨rfl, HT6.out.2.2.2⟩
      · have he : Fr.err k s x m = 2 := by unfold Fr.err; rw [if_neg hma]
        rw [he]
        clear he hma h0 hne hs2
        go_wp2_with (go_at_call 14; refine (HAW.out _ HT2.out.2.2.2).mono ?_; rintro e w3 ⟨rfl, hb3⟩; have HT3 := Lib.hid (HT2.out.next hb3 (by rfl) (by rfl) (by rfl) (by rfl)); clear hb3)
        go_ret
        exact ⟨rfl, HT3.out.2.2.2⟩
end Go.Proofs.YtciaiaacboodeaaDoor
