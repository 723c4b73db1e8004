/-
  The walk of the statement on a sketch beside its definition.
-/
import Derived.Test.YtbhmlfgofemjlaaSkAwake
import Derived.Test.YtbhmlfgofemjlaaSkRows
import Derived.Test.YtbhmlfgofemjlaaSkRef
set_option maxRecDepth 100000
namespace Go.Proofs.Ytbhmlfgofemjlaa
open Go.RowKit
/-- A sketch and the definition's, side by side. -/
structure SkTwo (B : Nat) (w : World) (s : Sk.St) : Prop where
  a : SkIn 41 .u8 w B s
  b : SkIn 30 .i64 w (B + 1) s
  ok : Sk.Ok s
section
variable {B : Nat} {s : Sk.St} {w w' w'' : World}
theorem SkTwo.few (h : SkTwo B w s) : s.n < 1000000 := by have := h.ok.lt; omega
theorem SkTwo.touch (h : SkTwo B w s) {N : Nat} (h1 : SkIn 41 .u8 w' B (Sk.touch s N)) (h2 : SkIn 30 .i64 w'' (B + 1) (Sk.touch s N)) (o2 : On (B + 1) w' w'') : SkTwo B w'' (Sk.touch s N) :=
  ⟨h1.kept o2.1 (fun e => Nat.succ_ne_self B e.symm), h2, Sk.ok_touch h.ok N⟩
theorem SkTwo.drewN (h : SkTwo B w s) (n : Nat) : SkTwo B (w.drewN n) s := ⟨h.a.drewN n, h.b.drewN n, h.ok⟩
end
theorem mod200 (x : Int) : ∃ j : Nat, j < 200 ∧ (wrap64 (x.tmod 200 + 200)).tmod 200 = (j : Int) := by
  have h2 : x.tmod 200 < 200 := Int.tmod_lt_of_pos x (by omega)
  have h3 : -200 < x.tmod 200 := Int.lt_tmod_of_pos x (by omega)
  have h4 : wrap64 (x.tmod 200 + 200) = x.tmod 200 + 200 := IntWalk.wrap64_in _ ⟨by omega, by omega⟩
  have h5 : 0 ≤ (x.tmod 200 + 200).tmod 200 := Int.tmod_nonneg _ (by omega)
  have h6 : (x.tmod 200 + 200).tmod 200 < 200 := Int.tmod_lt_of_pos _ (by omega)
  refine ⟨((x.tmod 200 + 200).tmod 200).toNat, by omega, ?_⟩
  rw [h4]; omega
set_option maxHeartbeats 4000000 in
theorem skscript_any (A : Option Addr) (n c : Nat) (l : List Nat) (D : Option Addr) (m d : Nat) (ts : List Int) (w : World) (hs : SlIs A n c) (hl : Hid (l.length = n)) (hb : Hid (Arr u64S w 0 w.heap.size A l)) (hr : Hid (∀ k, k < n → l.getD k 0 < 18446744073709551616))
    (hs2 : SlIs D m d) (hl2 : Hid (ts.length = m)) (hb2 : Hid (Arr intS w 0 w.heap.size D ts)) :
    Calls Try.prog 3 #[.slice A n c, .slice D m d] w fun e w' => e = .returned (.bool true) ∧ Below w.heap.size w w' := by
  have hcap := hs.2.2
  have hnc := hs.2.1
  have hcap2 := hs2.2.2
  have hnc2 := hs2.2.1
  obtain ⟨B, hB⟩ : ∃ B, w.heap.size = B := ⟨_, rfl⟩
  have HB0 : Hid (B ≤ w.heap.size) := Nat.le_of_eq hB.symm
  have CN := Lib.hid (sknew_any w)
  have HS1 := Lib.hid (SkIn.new 41 .u8 w)
  have HB1 := Lib.hid (below_new w (.cells (skc .u8 Sk.new).toArray 41 (0, 0)))
  have hz1 : (w.alloc (.cells (skc .u8 Sk.new).toArray 41 (0, 0))).heap.size = B + 1 := by simp [hB]
  rw [hB] at CN HS1 HB1 hb hb2
  rw [hB]
  generalize w.alloc (.cells (skc .u8 Sk.new).toArray 41 (0, 0)) = w1 at *
  have HT2 := Lib.hid (SkIn.new 30 .i64 w1)
  have HB2 := Lib.hid (below_new w1 (.cells (skc .i64 Sk.new).toArray 30 (0, 0)))
  have HS2 := Lib.hid (HS1.out.kept (Kept.of_below HB2.out) (show ¬ w1.heap.size ≤ B by omega))
  have HB2' := Lib.hid (HB1.out.trans (HB2.out.mono (show B ≤ w1.heap.size by omega)))
  rw [hz1] at HT2
  have HST : Hid (SkTwo B (w1.alloc (.cells (skc .i64 Sk.new).toArray 30 (0, 0))) Sk.new) := ⟨HS2.out, HT2.out, Sk.ok_new⟩
  have hz := (zero_of_info refsk_zero).1
  have hsz := (zero_of_info refsk_zero).2
  generalize (skc .i64 Sk.new).toArray = C at *
  clear hB HS1 HB1 HB2 HS2 HT2
  go_enter Try.func3, Try.ntmps3
  go_wp2_with fail
  refine CN.out.mono ?_
  rintro e w1' ⟨rfl, rfl⟩
  clear CN
  go_upto_block 0 with fail
  generalize w1'.alloc (.cells C 30 (0, 0)) = w2 at *
  clear hz hsz hz1
  go_cut [7] (fun _ wx => Hid (Below B w wx))
  case first =>
    go_wp2_with fail
    go_loopw [7] (fun iv wr => ∃ i : Nat, i ≤ n ∧ i ≤ 10 ∧ iv = .int .i64 (i : Int) ∧ Hid (∃ s, SkTwo B wr s) ∧ Hid (Below B w wr)) (fun iv _ => n - (intOf iv).toNat)
    case atStart => exact ⟨0, Nat.zero_le _, Nat.zero_le _, rfl, ⟨_, HST.out⟩, HB2'⟩
    case round =>
      clear HST HB2'
      obtain ⟨i, hi, hi2, rfl, HE, HB⟩ := hrel
      by_cases hlt : i < n ∧ i < 10
      · obtain ⟨hlt, hlt2⟩ := hlt
        obtain ⟨ad, rfl⟩ := hb.out.some (k := i) (by rw [hl.out]; exact hlt)
        obtain ⟨x, hx⟩ : ∃ x, l.getD i 0 = x := ⟨_, rfl⟩
        have HX : Hid (x < 18446744073709551616) := by have := hr.out i hlt; rw [hx] at this; exact this
        have HM := Lib.hid (fun W (hW : Below B w W) => (u64s_at (hb.out.below hW (Nat.le_refl _)) i (by rw [hl.out]; exact hlt)).trans (by rw [hx]))
        have hd1 : decide ((i : Int) < (n : Int)) = true := decide_eq_true (by omega)
        have hd2 : decide ((i : Int) < 10) = true := decide_eq_true (by omega)
        clear hx
        go_upto_if 27 with fail
        go_cut [8] (fun nv wx => wx = wr ∧ ∃ t : Nat, t ≤ 200 ∧ nv = .int .i64 (t : Int))
        case first =>
          by_cases him : i < m
          · obtain ⟨ad2, rfl⟩ := hb2.out.some (k := i) (by rw [hl2.out]; exact him)
            have c0 := ints_at (hb2.out.below HB.out (Nat.le_refl _)) i (by rw [hl2.out]; exact him)
            generalize ts.getD i 0 = u at *
            obtain ⟨j, hj, hju⟩ := mod200 u
            go_wp2_with fail
            go_meet
            exact ⟨rfl, j, by omega, rfl⟩
          · go_wp2_with fail
            go_meet
            exact ⟨rfl, 1, by omega, rfl⟩
        case rest =>
          obtain ⟨rfl, t, ht, rfl⟩ := hcut
          generalize wc = wr at *
          go_wp2_with fail
          clear hd1 hd2
          go_loopw [9] (fun kv wx => ∃ k : Nat, k ≤ t ∧ kv = .int .i64 (k : Int) ∧ Hid (∃ s, SkTwo B wx s) ∧ Hid (Below B w wx)) (fun kv _ => t - (intOf kv).toNat)
          case atStart => exact ⟨0, Nat.zero_le _, rfl, HE, HB⟩
          case round =>
            clear HE HB
            obtain ⟨k, hk, rfl, HE, HB⟩ := hrel
            by_cases hkt : k < t
            · obtain ⟨s, hss⟩ := HE.out
              have HS := Lib.hid hss
              clear HE hss
              have m0 := HM.out _ HB.out
              have HZ := Lib.hid (Nat.le_trans HB0.out HB.out.size)
              have CT := Lib.hid (sktouch_any B x s _ HX.out HS.out.few (Lib.hid HS.out.a))
              go_wp2_with fail
              refine CT.out.mono ?_
              rintro e w3 ⟨rfl, h3, o3⟩
              have HB3 := Lib.hid (HB.out.trans (o3.below HZ.out (Nat.le_refl _)))
              have CR := Lib.hid (refsktouch_any (B + 1) x s w3 HX.out HS.out.few (Lib.hid (HS.out.b.kept o3.1 (Nat.succ_ne_self B))))
              have HT := Lib.hid (fun W h2 o2 => HS.out.touch (w'' := W) h3 h2 o2)
              clear m0 CT h3 o3
              have m0 := HM.out _ HB3.out
              have HZ3 := Lib.hid (Nat.le_trans HB0.out HB3.out.size)
              go_wp2_with fail
              refine CR.out.mono ?_
              rintro e w4 ⟨rfl, h4, o4⟩
              have HB4 := Lib.hid (HB3.out.trans (o4.below HZ3.out (Nat.le_succ _)))
              have HT4 := Lib.hid (HT.out _ h4 o4)
              clear m0 CR h4 o4 HT HB3 HZ3 HS HB HZ
              go_wp2_with fail
              go_roundw
              case rel => exact ⟨k + 1, by omega, by go_num, ⟨_, HT4.out⟩, HB4⟩
              case measure => simp [intOf]; omega
            · obtain ⟨s, hss⟩ := HE.out
              have HS := Lib.hid hss
              clear HE hss
              have c0 := HS.out.b.num
              have CT := Lib.hid (fun N => sktouches_any B s (wr.drewN N) (Lib.hid (HS.out.drewN N).a))
              have hne : ((s.n : Int) != (s.n : Int)) = false := by simp
              have hne2 : (s.n != s.n) = false := by simp
              go_wp2_with fail
              go_quiet (first | (go_at_call 9; refine Calls.quiet_of_same (CT.out _)))
              have HS5 := Lib.hid (HS.out.drewN nq)
              have HB5 := Lib.hid (below_drawn HB.out nq)
              generalize wr.drewN nq = w5 at *
              clear hne hne2 c0 CT HS HB
              go_wp2_with fail
              clear HX HM
              go_loopw [10] (fun jv wx => ∃ j : Nat, j ≤ n ∧ j ≤ 10 ∧ jv = .int .i64 (j : Int) ∧ Hid (SkTwo B wx s) ∧ Hid (Below B w wx)) (fun jv _ => n - (intOf jv).toNat)
              case atStart => exact ⟨0, Nat.zero_le _, Nat.zero_le _, rfl, HS5, HB5⟩
              case round =>
                clear HS5 HB5
                obtain ⟨j, hj, hj2, rfl, HS, HB⟩ := hrel
                by_cases hjt : j < n ∧ j < 10
                · obtain ⟨hjt, hjt2⟩ := hjt
                  obtain ⟨y, hy⟩ : ∃ y, l.getD j 0 = y := ⟨_, rfl⟩
                  have HY : Hid (y < 18446744073709551616) := by have := hr.out j hjt; rw [hy] at this; exact this
                  have m0 := u64s_at (hb.out.below HB.out (Nat.le_refl _)) j (by rw [hl.out]; exact hjt)
                  rw [hy] at m0
                  clear hy
                  have CE := Lib.hid (fun N => skest_any B y s (wr.drewN N) HY.out (Lib.hid (HS.out.drewN N).a))
                  have CR := Lib.hid (fun N => refskest_any (B + 1) y s (wr.drewN N) HY.out (Lib.hid (HS.out.drewN N).b))
                  generalize Sk.est s y = z at *
                  have hne : ((z : Int) != (z : Int)) = false := by simp
                  have hne2 : (z != z) = false := by simp
                  go_wp2_with fail
                  go_quiet (first | (go_at_call 10; refine Calls.quiet_of (CE.out _)) | (go_at_call 11; refine Calls.quiet_of (CR.out _)))
                  have HS5 := Lib.hid (HS.out.drewN nq)
                  have HB5 := Lib.hid (below_drawn HB.out nq)
                  generalize wr.drewN nq = w5 at *
                  clear CE CR m0 HS HB
                  go_wp2_with fail
                  go_roundw
                  case rel => exact ⟨j + 1, by omega, by omega, by go_num, HS5, HB5⟩
                  case measure => simp [intOf]; omega
                · have HE : Hid (∃ s, SkTwo B wr s) := ⟨s, HS.out⟩
                  clear HS
                  by_cases hjt2 : j < n
                  · have h10 : j = 10 := by omega
                    have hd : decide ((j : Int) < 10) = false := decide_eq_false (by omega)
                    clear hjt
                    go_wp2_with fail
                    go_roundw
                    case rel => exact ⟨i + 1, by omega, by omega, by go_num, HE, HB⟩
                    case measure => simp [intOf]; omega
                  · clear hjt
                    go_wp2_with fail
                    go_roundw
                    case rel => exact ⟨i + 1, by omega, by omega, by go_num, HE, HB⟩
                    case measure => simp [intOf]; omega
      · by_cases hlt2 : i < n
        · have h10 : i = 10 := by omega
          have hd : decide ((i : Int) < 10) = false := decide_eq_false (by omega)
          clear hlt
          go_wp2_with fail
          go_meet
          exact HB
        · clear hlt
          go_wp2_with fail
          go_meet
          exact HB
  case rest =>
    clear HST HB2'
    have HB2 := hcut
    have HZ2 := Lib.hid (Nat.le_trans HB0.out HB2.out.size)
    clear hcut
    generalize wc = w3 at *
    go_wp2_with fail
    refine (skawake_any _).mono ?_
    rintro e w4 ⟨rfl, hb4⟩
    have HB4 := Lib.hid (HB2.out.trans (hb4.mono HZ2.out))
    clear hb4
    go_wp2_with fail
    go_ret
    exact ⟨rfl, HB4.out⟩
end Go.Proofs.Ytbhmlfgofemjlaa
