/-
  The law PackerScript.
-/
import Derived.Test.YtepbdicglgjcjaaDoorPkRestF
import Derived.Deep.DeepCutAuto
import Derived.Deep.CutBlock
set_option maxRecDepth 100000
namespace Go.Proofs.YtepbdicglgjcjaaDoor
open Go.RowKit
theorem pkis_new {w : World} {a b c d slot seq : Int} {T : TypeId} : PkIs T (w.alloc (.cells #[.int .i64 a, .int .i64 b, .int .i64 c, .int .i64 d, .int .i64 slot, .int .i64 seq, .slice none 0 0, .int .i64 0] T)) (fun k => w.heap.size ≤ k) w.heap.size a b c d slot seq [] 0 := by
  exact ⟨none, 0, heap_alloc_new _ _, Nat.le_refl _, SRow.nil, fun ad e => by cases e⟩
theorem kind_ways (x : Int) : ((x == 0) = true ∧ (x == 1) = false ∧ (x == 2) = false) ∨ ((x == 0) = false ∧ (x == 1) = true ∧ (x == 2) = false) ∨ ((x == 0) = false ∧ (x == 1) = false ∧ (x == 2) = true) ∨ ((x == 0) = false ∧ (x == 1) = false ∧ (x == 2) = false) := by
  simp only [beq_iff_eq, beq_eq_false_iff_ne]
  omega
set_option maxHeartbeats 8000000 in
theorem packerscript_any (a b c d slot seq : Int) (A : Option Addr) (n cap : Nat) (l : List Cl) (w : World) (hl : Hid (l.length = n)) (hb : Hid (ClsAt w w.heap.size A l ∧ ∀ k, k < n → (l.getD k Cl0).off ≤ 9223372036854775807)) (ht : Hid (TabW w)) (hz : 0 < w.heap.size) :
    Calls Tryd.prog 3 #[.agg #[.int .i64 a, .int .i64 b, .int .i64 c, .int .i64 d, .int .i64 slot, .int .i64 seq, .slice A n cap]] w fun e w' => e = .returned (.bool true) ∧ Below w.heap.size w w' := by
  have HN := Lib.hid (fun W => pknew_any a b c d slot seq W)
  have HM := Lib.hid (fun W => refpkmay_any a b c d slot seq W)
  have HA : Hid (∀ W, Below w.heap.size w W → Calls Tryd.prog 9 #[] W fun e w' => e = .returned (.bool true) ∧ Below W.heap.size W w') := fun W hb => pkawake_any W (Lib.hid (ht.out.below hb hz)) (Nat.lt_of_lt_of_le hz hb.size)
  have HX0 := Lib.hid (heap_alloc_new w (.cells #[.int .i64 a, .int .i64 b, .int .i64 c, .int .i64 d, .int .i64 slot, .int .i64 seq, .slice A n cap] 26))
  have HB0 : Hid (Below w.heap.size w (w.alloc (.cells #[.int .i64 a, .int .i64 b, .int .i64 c, .int .i64 d, .int .i64 slot, .int .i64 seq, .slice A n cap] 26))) := (Below.refl _ w).alloc (Nat.le_refl _) _
  unfold PkNew at HN
  go_enter Tryd.func3, Tryd.ntmps3
  go_upto_region 1 with fail
  generalize w.alloc (.cells #[.int .i64 a, .int .i64 b, .int .i64 c, .int .i64 d, .int .i64 slot, .int .i64 seq, .slice A n cap] 26) = w0 at *
  go_cut [3, 4, 5, 6] (fun s3 s4 s5 s6 wx => s3 = .pointer (some ⟨w0.heap.size, 0, none⟩) ∧ s4 = .int .i64 slot ∧ s5 = .int .i64 seq ∧ s6 = .slice A n cap ∧ Hid (Sd w0 w0.heap.size (.cells #[.int .i64 a, .int .i64 b, .int .i64 c, .int .i64 d] 23 (0, 0)) wx))
  case first =>
    obtain ⟨x0, x1, x2, x3, x4, x5, x6⟩ := seven_cells HX0.out
    have HX1 : Hid ((w0.alloc (.cells #[.int .i64 0, .int .i64 0, .int .i64 0, .int .i64 0] 23)).heap[w.heap.size]? = some (.cells #[.int .i64 a, .int .i64 b, .int .i64 c, .int .i64 d, .int .i64 slot, .int .i64 seq, .slice A n cap] 26 (0, 0))) := (((Below.refl _ w0).alloc (Nat.le_refl _) _).block _ (Array.getElem?_eq_some_iff.1 HX0.out).1).trans HX0.out
    obtain ⟨y0, y1, y2, y3, y4, y5, y6⟩ := seven_cells HX1.out
    have HX2 : Hid ((w0.alloc (.cells #[.int .i64 a, .int .i64 b, .int .i64 c, .int .i64 d] 23)).heap[w.heap.size]? = some (.cells #[.int .i64 a, .int .i64 b, .int .i64 c, .int .i64 d, .int .i64 slot, .int .i64 seq, .slice A n cap] 26 (0, 0))) := (((Below.refl _ w0).alloc (Nat.le_refl _) _).block _ (Array.getElem?_eq_some_iff.1 HX0.out).1).trans HX0.out
    obtain ⟨z0, z1, z2, z3, z4, z5, z6⟩ := seven_cells HX2.out
    go_region
    have HS0 : Hid (Sd w0 w0.heap.size (.cells #[.int .i64 a, .int .i64 b, .int .i64 c, .int .i64 d] 23 (0, 0)) (w0.alloc (.cells #[.int .i64 a, .int .i64 b, .int .i64 c, .int .i64 d] 23)).drew) := by
      have h := sd_new w0 #[.int .i64 a, .int .i64 b, .int .i64 c, .int .i64 d] 23
      exact ⟨h.1, h.2.trans ((below_drewN _ 1).mono h.2.size)⟩
    (try go_wp2_with fail)
    go_meet
    exact ⟨rfl, rfl, rfl, rfl, HS0.out⟩
  case rest =>
    obtain ⟨rfl, rfl, rfl, rfl, HS0⟩ := hcut
    generalize wc = w1 at *
    have HT0 : Hid (TabW w0 ∧ 0 < w0.heap.size) := ⟨ht.out.below HB0.out hz, Nat.lt_of_lt_of_le hz HB0.out.size⟩
    have HC0 := Lib.hid (hb.out.1.below HB0.out (Nat.le_refl _))
    obtain ⟨z0, z1, z2, z3⟩ := four_cells HS0.out.1
    go_wp2_with fail
    refine (HN.out _).mono ?_
    rintro e w2 ⟨p, rfl, hb2, hno, hokp⟩
    have HS2 := Lib.hid (HS0.out.next hb2 (by rfl) (by rfl) (by rfl) (by rfl))
    have HB2 := Lib.hid hb2
    clear z0 z1 z2 z3 hb2
    obtain ⟨z0, z1, z2, z3⟩ := four_cells HS2.out.1
    go_wp2_with fail
    refine (HM.out _).mono ?_
    rintro e w3 ⟨rfl, hb3⟩
    have HS3 := Lib.hid (HS2.out.next hb3 (by rfl) (by rfl) (by rfl) (by rfl))
    have HB3 := Lib.hid hb3
    clear hb3 z0 z1 z2 z3
    by_cases hok : Pk.ok ⟨a, b, c, d⟩ slot seq
    · obtain ⟨g, rfl, hgp, hp2⟩ := hokp hok
      rw [Pk.may_zero hok]
      have HP2 := Lib.hid hp2
      have HFIT : Hid (Pk.Fit ⟨a, b, c, d⟩ slot seq [] 0) := Pk.Fit.start hok
      clear hokp hno hok hgp hp2 HN HM
      obtain ⟨z0, z1, z2, z3⟩ := four_cells HS3.out.1
      go_wp2_with fail
      obtain ⟨gq, hgq⟩ : ∃ x, x = w3.heap.size := ⟨_, rfl⟩
      obtain ⟨col, HST⟩ : ∃ col, Hid (StS w0 a b c d slot seq (w3.alloc (.cells #[.int .i64 a, .int .i64 b, .int .i64 c, .int .i64 d, .int .i64 slot, .int .i64 seq, .slice none 0 0, .int .i64 0] 36)) col g [] 0 w3.heap.size [] 0) := by
        have hc2 := (Col.none w1 w0.heap.size).paint HS0.out.2.size HB2.out.size 1
        have hp2 := (HP2.out.first (c := fun _ => 0) 1).new HB3.out
        have hlt1 := (Array.getElem?_eq_some_iff.1 HS0.out.1).1
        have hal : Below w3.heap.size w3 (w3.alloc (.cells #[.int .i64 a, .int .i64 b, .int .i64 c, .int .i64 d, .int .i64 slot, .int .i64 seq, .slice none 0 0, .int .i64 0] 36)) := (Below.refl _ _).alloc (Nat.le_refl _) _
        have hc3 := (hc2.next HB3.out.size).paint HS3.out.2.size hal.size 2
        have hlt3 := (Array.getElem?_eq_some_iff.1 HS3.out.1).1
        refine ⟨paint (paint (fun _ => 0) w1 w2 1) w3 (w3.alloc (.cells #[.int .i64 a, .int .i64 b, .int .i64 c, .int .i64 d, .int .i64 slot, .int .i64 seq, .slice none 0 0, .int .i64 0] 36)) 2, hc3, HS3.out.2.trans (hal.mono HS3.out.2.size), ⟨(hal.block _ hlt3).trans HS3.out.1, by rw [paint_old hlt3, paint_old hlt1]⟩, ?_, pkis_new.first 2⟩
        exact (hp2.mono fun x hx e => paint_keep hx e).new hal
      clear HP2 HS0 HS2 HS3 HB2 HB3 z0 z1 z2 z3 hgq gq
      generalize w3.alloc (.cells #[.int .i64 a, .int .i64 b, .int .i64 c, .int .i64 d, .int .i64 slot, .int .i64 seq, .slice none 0 0, .int .i64 0] 36) = w4 at *
      generalize w3.heap.size = q at *
      go_loopw [11] (fun iv wr => ∃ (i : Nat) (st : List Nat) (k : Nat) (col : Nat → Nat), iv = .int .i64 (i : Int) ∧ i ≤ 20 ∧ Hid (StS w0 a b c d slot seq wr col g st k q st k) ∧ Hid (Pk.Fit ⟨a, b, c, d⟩ slot seq st k)) (fun i _ => 20 - (Go.RowKit.intOf i).toNat)
      case atStart => exact ⟨0, [], 0, col, rfl, by decide, HST.out, HFIT.out⟩
      case round =>
        clear HST HFIT
        obtain ⟨i, st, k, col, rfl, hi20, HST, HFIT⟩ := hrel
        rcases loop_ways i n 20 20 rfl with ⟨f1, f1'⟩ | ⟨f1, f1', f3⟩ | ⟨hin, hi, f1, f1', f3⟩
        · go_wp2_with fail
          refine (HA.out _ (HB0.out.trans (HST.out.up.mono HB0.out.size))).mono ?_
          rintro e w5 ⟨rfl, hb5⟩
          have HZ := Lib.hid ((HB0.out.trans (HST.out.up.mono HB0.out.size)).trans (hb5.mono (HB0.out.trans (HST.out.up.mono HB0.out.size)).size))
          go_wp2
          go_ret
          exact ⟨rfl, HZ.out⟩
        · go_wp2_with fail
          refine (HA.out _ (HB0.out.trans (HST.out.up.mono HB0.out.size))).mono ?_
          rintro e w5 ⟨rfl, hb5⟩
          have HZ := Lib.hid ((HB0.out.trans (HST.out.up.mono HB0.out.size)).trans (hb5.mono (HB0.out.trans (HST.out.up.mono HB0.out.size)).size))
          go_wp2
          go_ret
          exact ⟨rfl, HZ.out⟩
        · obtain ⟨ad, hA⟩ := HC0.out.1.some (k := i) (by rw [hl.out]; exact hin)
          subst hA
          have hca := HC0.out.below HST.out.up HB0.out.size
          obtain ⟨o, ho⟩ : ∃ o, l.getD i Cl0 = o := ⟨_, rfl⟩
          obtain ⟨e0, e1, e2, e3, e4, e5, e6⟩ := cls_at hca.1 i (by rw [hl.out]; exact hin) o ho
          have HR0 := Lib.hid (HC0.out.2 i (by rw [hl.out]; exact hin))
          rw [ho] at HR0
          have HOF : Hid (o.off ≤ 9223372036854775807) := by rw [← ho]; exact hb.out.2 i hin
          have HQO : Hid (w0.heap.size < wr.heap.size) := (Array.getElem?_eq_some_iff.1 HST.out.box.1).1
          have hib : (i : Int) < 20 := by omega
          have hib2 : (i : Int) < (n : Int) := by omega
          clear hca ho
          go_upto_region 13 with fail
          have HST5 := Lib.hid (HST.out.new ((Below.refl _ wr).alloc (Nat.le_refl _) (.cells #[.int .i64 o.kd, .int .i64 o.r.kd, .slice o.r.A1 o.r.n1 o.r.c1, .slice o.r.A2 o.r.n2 o.r.c2, .int .i64 o.r.x, .int .i64 o.off, .int .i64 o.n] 40)))
          have HOX := Lib.hid (Free.made HST.out.colr (.cells #[.int .i64 o.kd, .int .i64 o.r.kd, .slice o.r.A1 o.r.n1 o.r.c1, .slice o.r.A2 o.r.n2 o.r.c2, .int .i64 o.r.x, .int .i64 o.off, .int .i64 o.n] 40))
          generalize wr.alloc (.cells #[.int .i64 o.kd, .int .i64 o.r.kd, .slice o.r.A1 o.r.n1 o.r.c1, .slice o.r.A2 o.r.n2 o.r.c2, .int .i64 o.r.x, .int .i64 o.off, .int .i64 o.n] 40) = w5 at *
          generalize wr.heap.size = qo at *
          clear HST e0 e1 e2 e3 e4 e5 e6
          obtain ⟨y0, y1, y2, y3, y4, y5, y6⟩ := seven_cells HOX.out.1
          go_upto_block 2 with fail
          go_cut [] (fun wx => ∃ st' k' col', Hid (StS w0 a b c d slot seq wx col' g st' k' q st' k') ∧ Hid (Pk.Fit ⟨a, b, c, d⟩ slot seq st' k'))
          case first =>
            rcases kind_ways o.kd with ⟨t0, t1, t2⟩ | ⟨t0, t1, t2⟩ | ⟨t0, t1, t2⟩ | ⟨t0, t1, t2⟩
            · go_wp2_with fail
              refine (shortrec_any o.r _ ⟨HR0.out.1.1, HR0.out.2.1⟩).mono ?_
              rintro e w6 ⟨rfl, hb6⟩
              have HST6 := Lib.hid (HST5.out.new hb6)
              have HOX6 := Lib.hid (HOX.out.new hb6)
              clear hb6 y0 y1 y2 y3 y4 y5 y6
              obtain ⟨⟨y0, y1, y2, y3, y4, y5, y6⟩, f1, f2, f3, f4⟩ := op_cells HOX6.out.1
              go_upto_region 21 with fail
              have HP7 := Lib.hid (op_put (b' := .int .i64 o.r.short.kd) (c' := .slice o.r.short.A1 o.r.short.n1 o.r.short.c1) (d' := .slice o.r.short.A2 o.r.short.n2 o.r.short.c2) (e' := .int .i64 o.r.short.x) HOX6.out.1)
              generalize (((w6.setCell ⟨qo, 1, none⟩ (.int .i64 o.r.short.kd)).setCell ⟨qo, 2, none⟩ (.slice o.r.short.A1 o.r.short.n1 o.r.short.c1)).setCell ⟨qo, 3, none⟩ (.slice o.r.short.A2 o.r.short.n2 o.r.short.c2)).setCell ⟨qo, 4, none⟩ (.int .i64 o.r.short.x) = w7 at *
              have HST7 := Lib.hid (HST6.out.far HP7.out.2 (fun j e => by rw [e]; exact HOX6.out.2) (fun j e => by rw [e]; exact HQO.out))
              have HOX7 : Hid (Free col w7 qo (.cells #[.int .i64 o.kd, .int .i64 o.r.short.kd, .slice o.r.short.A1 o.r.short.n1 o.r.short.c1, .slice o.r.short.A2 o.r.short.n2 o.r.short.c2, .int .i64 o.r.short.x, .int .i64 o.off, .int .i64 o.n] 40 (0, 0))) := ⟨HP7.out.1, HOX6.out.2⟩
              have HRS : Hid (∀ W, Below w0.heap.size w0 W → o.r.short.here W w.heap.size) := fun W hW => (HR0.out.below hW HB0.out.size).short
              have HS62 : Hid (o.r.short.n1 ≤ 140737488355328 ∧ o.r.short.n2 ≤ 140737488355328) := by show min _ _ ≤ _ ∧ min _ _ ≤ _; omega
              have HSZ : Hid (w.heap.size ≤ w0.heap.size) := HB0.out.size
              have HLTR : Hid ((∀ x ∈ o.r.short.r.key, x < 256) ∧ ∀ x ∈ o.r.short.r.val, x < 256) := HR0.out.short.lt
              clear HST6 HOX6 HP7 y0 y1 y2 y3 y4 y5 y6 f1 f2 f3 f4
              obtain ⟨⟨y0, y1, y2, y3, y4, y5, y6⟩, -⟩ := op_cells HOX7.out.1
              go_wp2_with fail
              obtain ⟨v1, hv1⟩ : ∃ v : Int, (if Pk.err ⟨a, b, c, d⟩ st ⟨o.r.short.kd, o.r.short.key, o.r.short.val, o.r.short.x⟩ = 0 then (st.length : Int) else 0) = v := ⟨_, rfl⟩
              obtain ⟨v2, hv2⟩ : ∃ v : Int, (if Pk.err ⟨a, b, c, d⟩ st ⟨o.r.short.kd, o.r.short.key, o.r.short.val, o.r.short.x⟩ = 0 then (Rc.len ⟨o.r.short.kd, o.r.short.key, o.r.short.val, o.r.short.x⟩ : Int) else 0) = v := ⟨_, rfl⟩
              obtain ⟨v3, hv3⟩ : ∃ v : Int, Pk.err ⟨a, b, c, d⟩ st ⟨o.r.short.kd, o.r.short.key, o.r.short.val, o.r.short.x⟩ = v := ⟨_, rfl⟩
              have HV1 := Lib.hid hv1
              have HV2 := Lib.hid hv2
              have HV3 := Lib.hid hv3
              clear hv1 hv2 hv3
              refine (pkput_any o.r.short.kd o.r.short.x o.r.short.key o.r.short.val o.r.short.A1 o.r.short.A2 w.heap.size o.r.short.n1 o.r.short.c1 o.r.short.n2 o.r.short.c2 (Nat.le_trans HSZ.out HST7.out.up.size) (Lib.hid (HRS.out _ HST7.out.up)) (Lib.hid HST7.out.p) HFIT.out (Lib.hid (HST7.out.tab HT0.out.1 HT0.out.2).1) (HST7.out.tab HT0.out.1 HT0.out.2).2).mono ?_
              rintro e w8 ⟨he, hp8, hk8⟩
              rw [HV1.out, HV2.out, HV3.out] at he
              subst he
              have HST8 := Lib.hid (HST7.out.onP hp8 hk8)
              have HOX8 := Lib.hid (HOX7.out.other hk8 (by decide) 1)
              clear hp8 hk8 HST7 HOX7 y0 y1 y2 y3 y4 y5 y6
              generalize paint col w7 w8 1 = col8 at *
              obtain ⟨⟨y0, y1, y2, y3, y4, y5, y6⟩, -⟩ := op_cells HOX8.out.1
              go_wp2_with fail
              refine (refpkput_any o.r.short.kd o.r.short.x o.r.short.key o.r.short.val o.r.short.A1 o.r.short.A2 w.heap.size o.r.short.n1 o.r.short.c1 o.r.short.n2 o.r.short.c2 (Nat.le_trans HSZ.out HST8.out.up.size) (Lib.hid (HRS.out _ HST8.out.up)) (Lib.hid HST8.out.q) HFIT.out HS62.out).mono ?_
              rintro e w9 ⟨he, hp9, hk9⟩
              rw [HV1.out, HV2.out, HV3.out] at he
              subst he
              clear HV1 HV2 HV3
              have HST9 := Lib.hid (HST8.out.onQ hp9 hk9)
              have HFIT9 : Hid (Pk.Fit ⟨a, b, c, d⟩ slot seq (Pk.put ⟨a, b, c, d⟩ seq st ⟨o.r.short.kd, o.r.short.key, o.r.short.val, o.r.short.x⟩) k) := HFIT.out.put _ HLTR.out.1 HLTR.out.2
              clear hp9 hk9 HST8 HOX8 y0 y1 y2 y3 y4 y5 y6
              have g1 : (v1 != v1) = false := by simp
              have g2 : (v2 != v2) = false := by simp
              have g3 : (v3 != v3) = false := by simp
              (try go_wp2_with fail)
              go_meet
              exact ⟨_, _, _, HST9.out, HFIT9.out⟩
            · go_wp2_with fail
              refine (pkpad_any (Lib.hid HST5.out.p) HFIT.out.short).mono ?_
              rintro e w6 ⟨rfl, hp6, hk6⟩
              have HST6 := Lib.hid (HST5.out.onP hp6 hk6)
              clear hp6 hk6
              generalize paint col w5 w6 1 = col6 at *
              go_wp2_with fail
              refine (refpkpad_any (Lib.hid HST6.out.q) HFIT.out.short).mono ?_
              rintro e w7 ⟨rfl, hp7, hk7⟩
              have HST7 := Lib.hid (HST6.out.onQ hp7 hk7)
              clear hp7 hk7
              (try go_wp2_with fail)
              go_meet
              exact ⟨_, _, _, HST7.out, HFIT.out.pad⟩
            · have hfl := Pk.full_le HFIT.out
              obtain ⟨N, hN⟩ : ∃ N, N = Pk.full st - k := ⟨_, rfl⟩
              have HNN : Hid (N ≤ 1000000) := by show _ ≤ _; omega
              have HFL : Hid (∀ x, x < N → ∀ y ∈ (Pk.frames ⟨a, b, c, d⟩ slot seq st k N).getD x [], y < 256) := fun x hx y hy => by
                have hf2 := HFIT.out.full
                unfold Pk.frames at hy
                rw [List.getD_eq_getElem?_getD, List.getElem?_map, List.getElem?_range' hx] at hy
                simp only [Option.map_some, Option.getD_some, Nat.one_mul] at hy
                exact Pk.frame_lt HFIT.out (by omega) y hy
              have HSLN := Lib.hid (Pk.secs_length ⟨a, b, c, d⟩ slot k N)
              have HFT : Hid (Pk.Fit ⟨a, b, c, d⟩ slot seq st (Pk.full st)) := HFIT.out.take (Nat.le_refl _)
              have HN0 := Lib.hid hN
              clear hN hfl
              go_wp2_with fail
              refine (pktake_any (Lib.hid HST5.out.p) HFIT.out (fun e => by have := HST5.out.colr.2 0 (by rw [e]; decide); have := HT0.out.2; omega) (Lib.hid (HST5.out.tab HT0.out.1 HT0.out.2).1) (HST5.out.tab HT0.out.1 HT0.out.2).2).mono ?_
              rintro e w6 ⟨v1, v2, rfl, hs6, hf6, hp6, hk6⟩
              rw [← HN0.out] at hs6 hf6
              have HST6 := Lib.hid (HST5.out.tookP hp6 hk6)
              have HV1 := Lib.hid (hs6.first (c := col) 5)
              have HV2 := Lib.hid (hf6.first (c := col) 5)
              clear hs6 hf6 hp6 hk6 HST5 HOX y0 y1 y2 y3 y4 y5 y6
              generalize paint col w5 w6 5 = col6 at *
              go_wp2_with fail
              refine (refpktake_any (Lib.hid HST6.out.q) HFIT.out).mono ?_
              rintro e w7 ⟨v3, v4, rfl, hs7, hf7, hp7, hk7⟩
              rw [← HN0.out] at hs7 hf7
              have HST7 := Lib.hid (HST6.out.tookQ hp7 hk7)
              have HV3 := Lib.hid (HV1.out.other hk7 (by decide) 5)
              have HV4 := Lib.hid (HV2.out.other hk7 (by decide) (by decide) 5)
              have HV5 := Lib.hid hs7
              have HV6 := Lib.hid hf7
              clear hs7 hf7 hp7 hk7 HST6 HV1 HV2
              generalize paint col6 w6 w7 5 = col7 at *
              have HINT : Hid (∀ W, Below w7.heap.size w7 W → Calls Tryd.prog 17 #[v1, v3] W fun r w' => r = .returned (.bool true) ∧ Below W.heap.size W w') := fun W hW => by
                obtain ⟨B1, d1, rfl, hq1, ha1⟩ := ARow.open_ (S := intS) (show ARow intS 3 W 0 _ N _ from (HV3.out.new hW).1)
                obtain ⟨B2, d2, rfl, hq2, ha2⟩ := ARow.open_ (S := intS) (show ARow intS 3 W 0 _ N _ from (HV5.out.new hW).1)
                have h := refints_any B1 B2 0 W.heap.size 0 W.heap.size N N d1 d2 _ _ W HSLN HSLN (by have := HNN.out; omega) (by have := HNN.out; omega) (Lib.hid ha1) (Lib.hid ha2)
                rwa [decide_eq_true rfl] at h
              have HFRM : Hid (∀ W, Below w7.heap.size w7 W → Calls Tryd.prog 18 #[v2, v4] W fun r w' => r = .returned (.bool true) ∧ Below W.heap.size W w') := fun W hW =>
                refframes_any v2 v4 N _ W (Lib.hid (HV4.out.new hW)) (Lib.hid (HV6.out.new hW)) HNN.out HFL
              go_wp2_with fail
              refine (HINT.out _ (Below.refl _ _)).mono ?_
              rintro e w8 ⟨rfl, hb8⟩
              have HB8 := Lib.hid hb8
              clear hb8
              go_wp2_with fail
              refine (HFRM.out _ HB8.out).mono ?_
              rintro e w9 ⟨rfl, hb9⟩
              have HST9 := Lib.hid (HST7.out.new (HB8.out.trans (hb9.mono HB8.out.size)))
              clear hb9
              (try go_wp2_with fail)
              go_meet
              exact ⟨_, _, _, HST9.out, HFT.out⟩
            · obtain ⟨A', cp', hh, -, hrow, -⟩ := HST5.out.q
              have HPB := Lib.hid hh
              have HROW := Lib.hid hrow
              have HLTS : Hid (∀ x ∈ st, x < 256) := HFIT.out.lt
              have HSHORT : Hid (st.length ≤ 120773) := HFIT.out.short
              clear hh hrow
              obtain ⟨off, hoff⟩ : ∃ off, o.off = off := ⟨_, rfl⟩
              obtain ⟨m, hm⟩ : ∃ m, o.n = m := ⟨_, rfl⟩
              rw [hoff, hm] at HOX
              have HO63 : Hid (off ≤ 9223372036854775807) := by rw [← hoff]; exact HOF.out
              clear hoff hm y0 y1 y2 y3 y4 y5 y6
              have HC15 : Hid (∀ W, Below w5.heap.size w5 W → (W.cell? ⟨qo, 5, none⟩ = some (.int .i64 off) ∧ W.cell? ⟨qo, 6, none⟩ = some (.int .i64 m)) ∧ W.cell? ⟨q, 6, none⟩ = some (.slice A' st.length cp')) := fun W hW => by
                obtain ⟨⟨_, _, _, _, _, a5, a6⟩, -⟩ := op_cells (HOX.out.new hW).1
                exact ⟨⟨a5, a6⟩, (pk8 ((hW.block q (Array.getElem?_eq_some_iff.1 HPB.out).1).trans HPB.out)).2.2.2.2.2.2.1⟩
              have HBD15 : Hid (Below w5.heap.size w5 w5.drew) := below_drewN w5 1
              have HBD16 : Hid (Below w5.heap.size w5 w5.drew.drew) := below_drewN w5 2
              have HBY : Hid (∀ W, Below w5.heap.size w5 W → Calls Tryd.prog 20 #[.pointer (some ⟨g, 0, none⟩), .int .i64 off, .int .i64 m] W (Cloned W (Pk.part st off m).length (Pk.part st off m))) := fun W hW => pkbytes_any off m (Lib.hid (HST5.out.new hW).p) HLTS.out HSHORT.out HO63.out
              have HPLT : Hid (∀ x ∈ Pk.part st off m, x < 256) := fun x hx => by
                unfold Pk.part at hx
                split at hx
                · exact HLTS.out x (by unfold Rc.sub at hx; exact List.mem_of_mem_drop (List.mem_of_mem_take hx))
                · cases hx
              rcases read_ways off m st.length HSHORT.out with hno | ⟨p1, p2, p3, p4, w1x, w2x, p, j, hop, hmk, hpk⟩
              · have HPART : Hid (Pk.part st off m = []) := by
                  show _ = _
                  unfold Pk.part
                  rw [if_neg]
                  rintro ⟨q1, q2, q3⟩
                  rcases hno with p1 | ⟨p1, p2⟩ | ⟨p1, p2, p3⟩ | ⟨p1, p2, p3, p4, -⟩
                  · simp only [decide_eq_false_iff_not] at p1; omega
                  · simp only [decide_eq_false_iff_not] at p2; omega
                  · simp only [decide_eq_false_iff_not] at p3; omega
                  · simp only [decide_eq_false_iff_not] at p4; omega
                rw [HPART.out] at HBY HPLT
                go_upto_region 15 with fail
                refine want_test (by intro c a a' w e h; obtain ⟨t, df⟩ := a; obtain ⟨t', df'⟩ := a'; simp only at e; subst e; exact h) _ w5 qo q off m A' st.length cp' rfl rfl rfl rfl HC15 false (.inl ⟨rfl, hno⟩) (fun a' hsz hdf hv hO => ?_)
                obtain ⟨ms, hml, hme, rfl⟩ := pk_frame_at _ a' 78 31 215 hsz hdf hO rfl (by decide)
                have hv := (hme 30 (by decide)).trans hv
                clear hsz hdf hO hme
                obtain ⟨x78, x79, x80, x81, x82, x83, x84, x85, x86, x87, x88, x89, x90, x91, x92, x93, x94, x95, x96, x97, x98, x99, x100, x101, x102, x103, x104, x105, x106, x107, eml⟩ := list_31 _ _ hml hv
                subst eml
                clear hml hv
                simp only [List.take_succ_cons, List.take_zero, List.drop_succ_cons, List.drop_zero, List.cons_append, List.nil_append]
                have HST6 := Lib.hid (HST5.out.new HBD15.out)
                obtain ⟨⟨x5, x6⟩, -⟩ := HC15.out _ HBD15.out
                have HBY6 := Lib.hid (HBY.out _ HBD15.out)
                generalize w5.drew = w6 at *
                go_wp2_with fail
                refine HBY6.out.mono ?_
                rintro e w7 ⟨v7, rfl, hown7, hb7⟩
                obtain ⟨A7, c7, rfl, hbs7, -⟩ := own_bytes hown7 HPLT.out
                have HBS7 := Lib.hid hbs7
                have HST7 := Lib.hid (HST6.out.new hb7)
                clear hown7 hb7 hbs7
                go_wp2_with fail
                refine (refeq_any A7 none w7.heap.size w7.heap.size 0 0 c7 0 [] [] w7 rfl rfl (by decide) (by decide) HBS7 (Lib.hid fun j hj => absurd hj (by simp))).mono ?_
                rintro e w9 ⟨rfl, q9, rfl⟩
                rw [decide_eq_true rfl]
                have HST9 := Lib.hid (HST7.out.new (below_drewN w7 q9))
                (try go_wp2_with fail)
                go_meet
                exact ⟨_, _, _, HST9.out, HFIT.out⟩
              · have HL := Lib.hid (Rc.sub_length st p j hpk)
                have HPART : Hid (Pk.part st off m = Rc.sub st p j) := by
                  show _ = _
                  unfold Pk.part
                  rw [hop, hmk, if_pos (by omega), Int.toNat_natCast, Int.toNat_natCast]
                rw [HPART.out, HL.out] at HBY
                rw [HPART.out] at HPLT
                have HK62 : Hid (j ≤ 140737488355328) := by have := HSHORT.out; show _ ≤ _; omega
                have HFORM : Hid ((A' = none ∧ st.length = 0 ∨ ∃ g, A' = some ⟨g, 0, none⟩) ∧ st.length ≤ cp' ∧ p + j ≤ cp') := by
                  rcases HROW.out.1.2 with ⟨e, e2⟩ | ⟨gs, cap', cur, e, _, _, hc1, _, _, _⟩
                  · injection e with e0 e1 e3
                    exact ⟨.inl ⟨e0, e1⟩, by omega, by omega⟩
                  · injection e with e0 e1 e3
                    subst e3
                    exact ⟨.inr ⟨gs, e0⟩, hc1, by omega⟩
                have HEQ : Hid (∀ W A8 c8, Bs W W.heap.size A8 (Rc.sub st p j) → Below w5.heap.size w5 W → Calls Tryd.prog 19 #[.slice A8 j c8, .slice (cutTo A' cp' p) j (cp' - p)] W (SaysQuiet true W)) := fun W A8 c8 h1 h2 => by
                  have h := refeq_any A8 (cutTo A' cp' p) W.heap.size W.heap.size j j c8 (cp' - p) (Rc.sub st p j) (Rc.sub st p j) W HL HL HK62.out HK62.out (Lib.hid h1) (Lib.hid (bs_cut ((HROW.out.new h2).bs HLTS.out) HFORM.out.1 hpk HFORM.out.2.1))
                  rwa [decide_eq_true rfl] at h
                have HCUT := Lib.hid HFORM.out.2.2
                have HPC : Hid (off + m = ((p + j : Nat) : Int)) := by show _ = _; rw [hop, hmk]; omega
                have HOP := Lib.hid hop
                clear hop hmk hpk HFORM HK62 HL
                go_upto_region 15 with fail
                refine want_test (by intro c a a' w e h; obtain ⟨t, df⟩ := a; obtain ⟨t', df'⟩ := a'; simp only at e; subst e; exact h) _ w5 qo q off m A' st.length cp' rfl rfl rfl rfl HC15 true (.inr ⟨rfl, p1, p2, p3, p4, w1x⟩) (fun a' hsz hdf hv hO => ?_)
                obtain ⟨ms, hml, hme, rfl⟩ := pk_frame_at _ a' 78 31 215 hsz hdf hO rfl (by decide)
                have hv := (hme 30 (by decide)).trans hv
                clear hsz hdf hO hme
                obtain ⟨x78, x79, x80, x81, x82, x83, x84, x85, x86, x87, x88, x89, x90, x91, x92, x93, x94, x95, x96, x97, x98, x99, x100, x101, x102, x103, x104, x105, x106, x107, eml⟩ := list_31 _ _ hml hv
                subst eml
                clear hml hv
                simp only [List.take_succ_cons, List.take_zero, List.drop_succ_cons, List.drop_zero, List.cons_append, List.nil_append]
                go_upto_region 16 with fail
                refine want_cut (by intro c a a' w e h; obtain ⟨t, df⟩ := a; obtain ⟨t', df'⟩ := a'; simp only at e; subst e; exact h) _ w5.drew qo q off m A' st.length cp' rfl rfl rfl rfl (Lib.hid fun W hW => HC15.out W (HBD15.out.trans (hW.mono HBD15.out.size))) p j HCUT HPC HOP w2x (fun a' hsz hdf hv hO => ?_)
                obtain ⟨ms, hml, hme, rfl⟩ := pk_frame_at2 _ a' 23 109 12 215 (by decide) hsz hdf hv hO rfl (by decide)
                clear hsz hdf hv hO hme
                obtain ⟨x109, x110, x111, x112, x113, x114, x115, x116, x117, x118, x119, x120, eml⟩ := list_12 _ hml
                subst eml
                clear hml
                simp only [List.set_cons_succ, List.set_cons_zero, List.take_succ_cons, List.take_zero, List.drop_succ_cons, List.drop_zero, List.cons_append, List.nil_append]
                have HST6 := Lib.hid (HST5.out.new HBD16.out)
                obtain ⟨⟨x5, x6⟩, -⟩ := HC15.out _ HBD16.out
                have HBY6 := Lib.hid (HBY.out _ HBD16.out)
                have HBD6 := HBD16
                generalize w5.drew.drew = w6 at *
                go_wp2_with fail
                refine HBY6.out.mono ?_
                rintro e w7 ⟨v7, rfl, hown7, hb7⟩
                obtain ⟨A7, c7, rfl, hbs7, -⟩ := own_bytes hown7 HPLT.out
                have HBS7 := Lib.hid hbs7
                have HST7 := Lib.hid (HST6.out.new hb7)
                have HBD7 := Lib.hid (HBD6.out.trans (hb7.mono HBD6.out.size))
                clear hown7 hb7 hbs7
                go_wp2_with fail
                refine (HEQ.out _ _ _ HBS7.out HBD7.out).mono ?_
                rintro e w9 ⟨rfl, q9, rfl⟩
                have HST9 := Lib.hid (HST7.out.new (below_drewN w7 q9))
                (try go_wp2_with fail)
                go_meet
                exact ⟨_, _, _, HST9.out, HFIT.out⟩
          case rest =>
            obtain ⟨st', k', col', HST', HFIT'⟩ := hcut
            generalize wc = w6 at *
            clear HST5 HOX HFIT HR0 y0 y1 y2 y3 y4 y5 y6
            obtain ⟨A', cp', hh, -⟩ := HST'.out.q
            have HPB := Lib.hid hh
            clear hh
            have HC33 : Hid (∀ W, Below w6.heap.size w6 W → (W.cell? ⟨w0.heap.size, 0, none⟩ = some (.int .i64 a) ∧ W.cell? ⟨w0.heap.size, 1, none⟩ = some (.int .i64 b) ∧ W.cell? ⟨w0.heap.size, 2, none⟩ = some (.int .i64 c) ∧ W.cell? ⟨w0.heap.size, 3, none⟩ = some (.int .i64 d)) ∧ W.cell? ⟨q, 6, none⟩ = some (.slice A' st'.length cp')) := fun W hW =>
              ⟨four_cells (HST'.out.new hW).box.1, (pk8 ((hW.block q (Array.getElem?_eq_some_iff.1 HPB.out).1).trans HPB.out)).2.2.2.2.2.2.1⟩
            have HBD : Hid (Below w6.heap.size w6 w6.drew) := below_drewN w6 1
            have hcc := Pk.cap_eq HFIT'.out.ok.1.1
            have hnums := Gm.form_nums HFIT'.out.ok.1.1
            have hcap : (c - 1) * 59 = (Pk.cap ⟨a, b, c, d⟩ : Int) := by unfold Pk.cap; simp only at hnums ⊢; omega
            have HCC : Hid (∀ W, Calls Tryd.prog 23 #[.agg #[.int .i64 a, .int .i64 b, .int .i64 c, .int .i64 d]] W fun r w' => r = .returned (.int .i64 (Pk.cap ⟨a, b, c, d⟩ : Int)) ∧ Below W.heap.size W w') := fun W => by
              rw [← hcap]
              exact refpkcap_any a b c d (by simp only at hnums; omega) (by simp only at hnums; omega) W
            have HOFF : Hid (∀ W, Below w6.heap.size w6 W → Calls Tryd.prog 21 #[.pointer (some ⟨g, 0, none⟩)] W fun e w' => e = .returned (.int .i64 (st'.length : Int)) ∧ W = w') := fun W hW => pkoff_any (Lib.hid (HST'.out.new hW).p)
            have HROOM : Hid (∀ W, Below w6.heap.size w6 W → Calls Tryd.prog 22 #[.pointer (some ⟨g, 0, none⟩)] W fun e w' => e = .returned (.int .i64 ((Pk.cap ⟨a, b, c, d⟩ : Int) - (st'.length : Int))) ∧ Below W.heap.size W w') := fun W hW => pkroom_any (Lib.hid (HST'.out.new hW).p) HFIT'.out
            have a1 : IntKind.i64.wrap ((Pk.cap ⟨a, b, c, d⟩ : Int) - (st'.length : Int)) = (Pk.cap ⟨a, b, c, d⟩ : Int) - (st'.length : Int) := by
              have h2 := HFIT'.out.le
              have h3 := hcc.2.2.1
              rw [IntKind.wrap_i64]; omega
            clear hcc hnums hcap
            generalize hsn : st'.length = sn at *
            have HSN := Lib.hid hsn
            clear hsn
            generalize hC : Pk.cap ⟨a, b, c, d⟩ = C at *
            have HCN := Lib.hid hC
            clear hC
            clear HPB
            go_upto_region 33 with fail
            refine want_rest (by intro c a a' w e h; obtain ⟨t, df⟩ := a; obtain ⟨t', df'⟩ := a'; simp only at e; subst e; exact h) _ w6 w0.heap.size g q a b c d A' sn cp' C rfl rfl rfl rfl rfl HC33 HOFF HROOM HCC a1 (fun a' W hsz hdf hv hO hbW => ?_)
            have HST9 := Lib.hid (HST'.out.new hbW)
            clear hbW
            obtain ⟨ms, hml, hme, rfl⟩ := pk_frame_at _ a' 193 21 215 hsz hdf hO rfl (by decide)
            have hv := (hme 20 (by decide)).trans hv
            clear hsz hdf hO hme HC33 HOFF HROOM HCC a1
            obtain ⟨x193, x194, x195, x196, x197, x198, x199, x200, x201, x202, x203, x204, x205, x206, x207, x208, x209, x210, x211, x212, eml⟩ := list_21 _ _ hml hv
            subst eml
            clear hml hv
            simp only [List.take_succ_cons, List.take_zero, List.drop_succ_cons, List.drop_zero, List.cons_append, List.nil_append]
            go_wp2
            go_roundw
            case rel => exact ⟨i + 1, st', k', col', by go_num, by omega, HST9.out, HFIT'.out⟩
            case measure => simp [Go.RowKit.intOf]; omega
    · obtain rfl := hno hok
      have hne := Pk.may_ne hok
      generalize Pk.may ⟨a, b, c, d⟩ slot seq = er at *
      have f1 : (er != 0) = true := by simpa using hne
      have f2 : (er == er) = true := by simp
      clear hokp hno hok HN HM
      go_wp2_with fail
      refine (HA.out _ (HB0.out.trans (HS3.out.2.mono HB0.out.size))).mono ?_
      rintro e w4 ⟨rfl, hb4⟩
      have HZ := Lib.hid ((HB0.out.trans (HS3.out.2.mono HB0.out.size)).trans (hb4.mono (HB0.out.trans (HS3.out.2.mono HB0.out.size)).size))
      go_wp2
      go_ret
      exact ⟨rfl, HZ.out⟩
end Go.Proofs.YtepbdicglgjcjaaDoor
