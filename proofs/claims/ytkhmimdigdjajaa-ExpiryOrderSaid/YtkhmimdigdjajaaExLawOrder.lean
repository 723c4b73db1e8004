/-
  The walk of the statement on Due in two steps.
-/
import Derived.Test.YtkhmimdigdjajaaExAwake
set_option maxRecDepth 100000
namespace Go.Proofs.Ytkhmimdigdjajaa
open Go.RowKit Go.Maps
/-- Two queues side by side. -/
structure YSt (B : Nat) (w : World) (p q : Nat) (S T : Nat → Prop) (M : Nat) (L K : List Ex.On) : Prop where
  s : QSt B w p S M L
  t : QSt B w q T M K
  d : ∀ k, S k → ¬ T k
section
variable {B p q M : Nat} {w w' : World} {S T : Nat → Prop} {L K L' K' : List Ex.On}
theorem YSt.next (h : YSt B w p q S T M L K) (hb : Below w.heap.size w w') : YSt B w' p q S T M L K := ⟨h.s.next hb, h.t.next hb, h.d⟩
theorem YSt.sameS (h : YSt B w p q S T M L K) (hk : Kept S w w') (ht : Que M w' S p L') : YSt B w' p q S T M L' K := ⟨h.s.same hk ht, h.t.far hk fun k ht hs => h.d k hs ht, h.d⟩
theorem YSt.sameT (h : YSt B w p q S T M L K) (hk : Kept T w w') (ht : Que M w' T q K') : YSt B w' p q S T M L K' := ⟨h.s.far hk h.d, h.t.same hk ht, h.d⟩
theorem YSt.addS (h : YSt B w p q S T M L K) (hB : B ≤ w.heap.size) (hk : Kept S w w') (ht : Que (M + 1) w' (Snc S w w') p L') : YSt B w' p q (Snc S w w') T (M + 1) L' K :=
  have h2 := h.t.far hk fun k ht hs => h.d k hs ht
  ⟨h.s.snc hB hk ht, ⟨h2.s, h2.t.more (Nat.le_succ _)⟩, fun k hs ht => hs.elim (fun hs => h.d k hs ht) fun hs => Nat.lt_irrefl _ (Nat.lt_of_lt_of_le (h.t.s k ht).2 hs.1)⟩
theorem YSt.addT (h : YSt B w p q S T (M + 1) L K) (hB : B ≤ w.heap.size) (hk : Kept T w w') (ht : Que (M + 2) w' (Snc T w w') q K') : YSt B w' p q S (Snc T w w') (M + 2) L K' :=
  have h2 := h.s.far hk h.d
  ⟨⟨h2.s, h2.t.more (Nat.le_succ _)⟩, h.t.snc hB hk ht, fun k hs ht => ht.elim (h.d k hs) fun ht => Nat.lt_irrefl _ (Nat.lt_of_lt_of_le (h.s.s k hs).2 ht.1)⟩
theorem YSt.belowS (h : YSt B w p q S T M L K) (hB : B ≤ w.heap.size) (hk : Kept S w w') : Below B w w' := h.s.below hB hk
theorem YSt.belowT (h : YSt B w p q S T M L K) (hB : B ≤ w.heap.size) (hk : Kept T w w') : Below B w w' := h.t.below hB hk
end
set_option maxHeartbeats 4000000 in
theorem exorder_any (A : Option Addr) (n c : Nat) (l : List ByteArray) (A2 : Option Addr) (n2 c2 : Nat) (l2 : List Int) (xa xb : Int) (w : World) (hs : SlIs A n c) (hs2 : SlIs A2 n2 c2) (hl : Hid (l.length = n)) (hb : Hid (Arr strS w 0 w.heap.size A l)) (hl2 : Hid (l2.length = n2)) (hb2 : Hid (Arr intS w 0 w.heap.size A2 l2)) :
    Calls Try.prog 4 #[.agg #[.slice A n c, .slice A2 n2 c2, .int .i64 xa, .int .i64 xb]] w fun e w' => e = .returned (.bool true) ∧ Below w.heap.size w w' := by
  have hcap := hs.2.2
  have hnc := hs.2.1
  have hcap2 := hs2.2.2
  have hnc2 := hs2.2.1
  obtain ⟨B, hB⟩ : ∃ B, w.heap.size = B := ⟨_, rfl⟩
  rw [hB] at hb hb2
  have HX1 := Lib.hid (heap_alloc_new w (.cells #[.slice A n c, .slice A2 n2 c2, .int .i64 xa, .int .i64 xb] 45 (0, 0)))
  have HL1 : Hid (Below w.heap.size w (w.alloc (.cells #[.slice A n c, .slice A2 n2 c2, .int .i64 xa, .int .i64 xb] 45 (0, 0)))) := (Below.refl _ _).alloc (Nat.le_refl _) _
  rw [hB] at HX1 HL1
  rw [hB]
  have HB0 : Hid (B ≤ w.heap.size) := Nat.le_of_eq hB.symm
  have HBE := Lib.hid hB
  go_enter Try.func4, Try.ntmps4
  go_upto_region 1 with fail
  (try rw [hB])
  clear hB
  generalize w.alloc (.cells #[.slice A n c, .slice A2 n2 c2, .int .i64 xa, .int .i64 xb] 45 (0, 0)) = w1 at *
  have x0 : w1.cell? ⟨B, 0, none⟩ = some (.slice A n c) := cell_of_row _ _ 0 _ _ _ HX1.out
  have x1 : w1.cell? ⟨B, 1, none⟩ = some (.slice A2 n2 c2) := cell_of_row _ _ 1 _ _ _ HX1.out
  have x2 : w1.cell? ⟨B, 2, none⟩ = some (.int .i64 xa) := cell_of_row _ _ 2 _ _ _ HX1.out
  have x3 : w1.cell? ⟨B, 3, none⟩ = some (.int .i64 xb) := cell_of_row _ _ 3 _ _ _ HX1.out
  clear HX1
  go_quiet (fail)
  have HB1 : Hid (Below B w (w1.drewN nq)) := below_drawn HL1.out _
  clear x0 x1 x2 x3 HL1
  generalize w1.drewN nq = w2 at *
  have HZ2 : Hid (B ≤ w2.heap.size) := by show _ ≤ _; have := HB1.out.size; have := HB0.out; omega
  have CN := Lib.hid exnew_any
  go_wp2_with fail
  refine (CN.out _).mono ?_
  rintro e w3 ⟨rfl, hb3, hz3, hT3⟩
  have HB3 : Hid (Below B w w3) := HB1.out.trans (hb3.mono HZ2.out)
  have HZ3 : Hid (B ≤ w3.heap.size) := by show _ ≤ _; have := HZ2.out; omega
  have HQ3 : Hid (QSt B w3 w2.heap.size (fun k => k = w2.heap.size) 0 []) := ⟨fun k e => by rw [e]; exact ⟨HZ2.out, by omega⟩, hT3⟩
  have HN3 := Lib.hid hz3
  clear hb3 hz3 hT3
  generalize w2.heap.size = p at *
  go_wp2_with fail
  refine (CN.out _).mono ?_
  rintro e w4 ⟨rfl, hb4, hz4, hT4⟩
  have HB4 : Hid (Below B w w4) := HB3.out.trans (hb4.mono HZ3.out)
  have HS4 : Hid (YSt B w4 p w3.heap.size (fun k => k = p) (fun k => k = w3.heap.size) 0 [] []) := ⟨HQ3.out.next hb4, ⟨fun k e => by rw [e]; exact ⟨HZ3.out, by omega⟩, hT4⟩, fun k e1 e2 => by have := HN3.out; omega⟩
  clear hb4 hz4 hT4 HQ3 HB3 HB1 HN3
  generalize w3.heap.size = q at *
  obtain ⟨N, hN, hN1, hN2, hN3⟩ : ∃ N : Nat, (if (20 : Int) < (if n2 < n then (n2 : Int) else (n : Int)) then (20 : Int) else (if n2 < n then (n2 : Int) else (n : Int))) = (N : Int) ∧ N ≤ n ∧ N ≤ n2 ∧ N ≤ 20 := by
    refine ⟨min (min n n2) 20, ?_, by omega, by omega, by omega⟩
    split <;> split at * <;> omega
  go_upto_block 0 with fail
  (try rw [hN])
  clear hN
  go_cut [7, 8] (fun s7 s8 wx => s7 = .pointer (some ⟨p, 0, none⟩) ∧ s8 = .pointer (some ⟨q, 0, none⟩) ∧ Hid (∃ S T L, YSt B wx p q S T 40 L L) ∧ Hid (Below B w wx))
  case first =>
    go_wp2_with fail
    go_loopw [10, 11] (fun iv _ wr => ∃ k : Nat, k ≤ N ∧ iv = .int .i64 (k : Int) ∧ Hid (∃ S T L, YSt B wr p q S T (2 * k) L L) ∧ Hid (Below B w wr)) (fun i _ _ => N - (Go.RowKit.intOf i).toNat)
    case atStart => exact ⟨0, Nat.zero_le _, rfl, ⟨_, _, _, HS4.out⟩, HB4⟩
    case round =>
      clear HS4 HB4
      obtain ⟨k, hk, rfl, hstt, hbel⟩ := hrel
      obtain ⟨S, T, L, hst⟩ := hstt.out
      have HS := Lib.hid hst
      have HZ : Hid (B ≤ wr.heap.size) := by show _ ≤ _; have := hbel.out.size; have := HB0.out; omega
      clear hstt hst
      by_cases hlt : k < N
      · obtain ⟨ad, rfl⟩ := hb.out.some (k := k) (by rw [hl.out]; omega)
        obtain ⟨ad2, rfl⟩ := hb2.out.some (k := k) (by rw [hl2.out]; omega)
        obtain ⟨ky, hky⟩ : ∃ x, l.getD k ⟨#[]⟩ = x := ⟨_, rfl⟩
        obtain ⟨a, ha⟩ : ∃ a, l2.getD k 0 = a := ⟨_, rfl⟩
        have m0 := strs_at (hb.out.below hbel.out (Nat.le_refl _)) k (by rw [hl.out]; omega) ky hky
        have n0 := ints_at (hb2.out.below hbel.out (Nat.le_refl _)) k (by rw [hl2.out]; omega)
        rw [ha] at n0
        obtain ⟨m, hm⟩ : ∃ m, m = min ky.size 10 := ⟨_, rfl⟩
        have hmi : min (ky.size : Int) 10 = (m : Int) := by omega
        have hmi2 : (if (10 : Int) < (ky.size : Int) then (10 : Int) else (ky.size : Int)) = (m : Int) := by split <;> omega
        have hm1 : m ≤ ky.size := by omega
        have hcut : ky.extract 0 m = ten ky := by rw [hm]; rfl
        have HTS := Lib.hid (ten_size ky)
        have hkn : k < n := by omega
        have hkn2 : k < n2 := by omega
        have HA := Lib.hid ha
        clear hm hky ha
        go_upto_region 7 with fail
        go_region
        clear m0 hmi hmi2 hm1
        generalize ten ky = t at *
        clear hcut
        have HDR : Hid (Below wr.heap.size wr wr.drew) := ⟨rfl, rfl, rfl, Nat.le_refl _, fun _ _ => rfl⟩
        have HS5 := Lib.hid (HS.out.next HDR.out)
        have HB5 : Hid (Below B w wr.drew) := hbel.out.trans (HDR.out.mono HZ.out)
        have HZ5 : Hid (B ≤ wr.drew.heap.size) := HZ.out
        have n1 : wr.drew.cell? (ad2.add k) = some (.int .i64 a) := n0
        clear HS hbel HZ HDR n0
        generalize wr.drew = w5 at *
        have CP := Lib.hid (exput_any (2 * k) p t a L S w5 (by omega) HTS.out (Lib.hid HS5.out.s.t))
        go_wp2_with fail
        refine CP.out.mono ?_
        rintro e w6 ⟨rfl, hk6, hT6⟩
        have HS6 := Lib.hid (HS5.out.addS HZ5.out hk6 hT6)
        have HB6 := Lib.hid (HB5.out.trans (HS5.out.belowS HZ5.out hk6))
        have HZ6 : Hid (B ≤ w6.heap.size) := Nat.le_trans HZ5.out hk6.size
        generalize Snc S w5 w6 = S6 at *
        clear n1 hk6 hT6 CP HS5 HB5
        have n1 := ints_at (hb2.out.below HB6.out (Nat.le_refl _)) k (by rw [hl2.out]; exact hkn2)
        rw [HA.out] at n1
        have CP := Lib.hid (exput_any (2 * k + 1) q t a L T w6 (by omega) HTS.out (Lib.hid HS6.out.t.t))
        go_wp2_with fail
        refine CP.out.mono ?_
        rintro e w7 ⟨rfl, hk7, hT7⟩
        have HS7 := Lib.hid (HS6.out.addT HZ6.out hk7 hT7)
        have HB7 := Lib.hid (HB6.out.trans (HS6.out.belowT HZ6.out hk7))
        generalize Snc T w6 w7 = T7 at *
        clear n1 hk7 hT7 CP HS6 HB6
        go_wp2_with fail
        go_roundw
        case rel => exact ⟨k + 1, by omega, by go_num, ⟨S6, T7, Ex.put L t a, HS7.out⟩, HB7⟩
        case measure => simp [Go.RowKit.intOf]; omega
      · have HE : Hid (∃ S T L, YSt B wr p q S T 40 L L) := ⟨S, T, L, ⟨HS.out.s.s, HS.out.s.t.more (by omega)⟩, ⟨HS.out.t.s, HS.out.t.t.more (by omega)⟩, HS.out.d⟩
        clear HS
        go_wp2_with fail
        go_meet
        exact ⟨rfl, rfl, HE, hbel⟩
  case rest =>
    clear HS4 HB4
    obtain ⟨rfl, rfl, hS, hB2⟩ := hcut
    obtain ⟨S, T, L, hst⟩ := hS.out
    generalize wc = w5 at *
    have HS5 := Lib.hid hst
    have HZ5 : Hid (B ≤ w5.heap.size) := by show _ ≤ _; have := hB2.out.size; have := HB0.out; omega
    clear hS hst hb hl hb2 hl2
    obtain ⟨a, b, hmin, hmax, hab⟩ : ∃ a b : Int, min xa xb = a ∧ max xa xb = b ∧ a ≤ b := ⟨_, _, rfl, rfl, by omega⟩
    have HAB : Hid (a ≤ b) := hab
    clear hab
    have HLM : Hid (L.length ≤ 40) := HS5.out.s.t.length
    have HSL : Hid (∀ k, S k → k < w5.heap.size) := fun k h => (HS5.out.s.s k h).2
    have HTL : Hid (∀ k, T k → k < w5.heap.size) := fun k h => (HS5.out.t.s k h).2
    have CD := Lib.hid (exdue_any 40 p b L S w5 (by decide) (Lib.hid HS5.out.s.t))
    go_wp2_with fail
    refine CD.out.mono ?_
    rintro e w6 ⟨v1, rfl, hr6, hk6, hT6⟩
    have HS6 := Lib.hid (HS5.out.sameS hk6 hT6)
    have HB6 := Lib.hid (hB2.out.trans (HS5.out.belowS HZ5.out hk6))
    have HZ6 : Hid (B ≤ w6.heap.size) := Nat.le_trans HZ5.out hk6.size
    have HZ56 : Hid (w5.heap.size ≤ w6.heap.size) := hk6.size
    obtain ⟨V1, c1, rfl, hsl1, harr1⟩ := hr6.open_
    have HV1 := Lib.hid harr1
    clear hmin hmax hr6 hk6 hT6 CD HS5 hB2 harr1
    have CD := Lib.hid (exdue_any 40 q a L T w6 (by decide) (Lib.hid HS6.out.t.t))
    go_wp2_with fail
    refine CD.out.mono ?_
    rintro e w7 ⟨v2, rfl, hr7, hk7, hT7⟩
    have HS7 := Lib.hid (HS6.out.sameT hk7 hT7)
    have HB7 := Lib.hid (HB6.out.trans (HS6.out.belowT HZ6.out hk7))
    have HZ7 : Hid (B ≤ w7.heap.size ∧ w6.heap.size ≤ w7.heap.size) := ⟨Nat.le_trans HZ6.out hk7.size, hk7.size⟩
    have HV1b : Hid (Arr strS w7 w5.heap.size w6.heap.size V1 (Ex.keys (Ex.due b L))) := HV1.out.kept hk7 (Nat.le_refl _) fun k h1 _ h2 => by have := HTL.out k h2; omega
    have HR7 := Lib.hid hr7
    clear hr7 hk7 hT7 CD HS6 HB6 HV1
    have CD := Lib.hid (exdue_any 40 q b (Ex.left a L) T w7 (by decide) (Lib.hid HS7.out.t.t))
    obtain ⟨e1, e2⟩ := Ex.due_two HAB.out L
    have HL1 : Hid (Ex.keys (Ex.due a L) ++ Ex.keys (Ex.due b (Ex.left a L)) = Ex.keys (Ex.due b L)) := by
      show _ = _
      rw [← e1]
      unfold Ex.keys
      rw [List.map_append]
    have HL2 : Hid ((Ex.keys (Ex.due a L)).length ≤ 40 ∧ (Ex.keys (Ex.due b (Ex.left a L))).length ≤ 40) := by
      have h0 := HS7.out.t.t.length
      have h1 := Ex.due_length b (Ex.left a L)
      have h2 := HLM.out
      have h3 := Ex.due_length a L
      unfold Ex.keys
      rw [List.length_map, List.length_map]
      exact ⟨by omega, by omega⟩
    have HE2 := Lib.hid e2
    clear e1 e2
    go_wp2_with fail
    refine CD.out.mono ?_
    rintro e w8 ⟨v3, rfl, hr8, hk8, hT8⟩
    rw [HE2.out] at hT8
    have HS8 := Lib.hid (HS7.out.sameT hk8 hT8)
    have HB8 := Lib.hid (HB7.out.trans (HS7.out.belowT HZ7.out.1 hk8))
    have HZ8 : Hid (B ≤ w8.heap.size ∧ w7.heap.size ≤ w8.heap.size) := ⟨Nat.le_trans HZ7.out.1 hk8.size, hk8.size⟩
    have HV1c : Hid (Arr strS w8 w5.heap.size w6.heap.size V1 (Ex.keys (Ex.due b L))) := HV1b.out.kept hk8 HZ7.out.2 fun k h1 _ h2 => by have := HTL.out k h2; omega
    have HR8 : Hid (SRow (fun k => w6.heap.size ≤ k) 9 strS.m w8 v2 (Ex.keys (Ex.due a L)).length (strS.flat (Ex.keys (Ex.due a L)))) := (SRow.ofRow HR7.out).kept hk8 fun k _ h1 h2 => by have := HTL.out k h2; have := HZ56.out; have h1 : w6.heap.size ≤ k := h1; omega
    have HR9 := Lib.hid (SRow.ofRow hr8)
    have HLX : Hid ((Ex.keys (Ex.due a L)).length + (Ex.keys (Ex.due b (Ex.left a L))).length ≤ 1000000) := by show _ ≤ _; have := HL2.out; omega
    have HLY : Hid (((Ex.keys (Ex.due a L)).length + (Ex.keys (Ex.due b (Ex.left a L))).length) * 16 ≤ 140737488355328) := by show _ ≤ _; have := HL2.out; omega
    clear hr8 hk8 hT8 CD HS7 HB7 HV1b HR7
    have CA := Lib.hid exawake_any
    generalize hd1 : Ex.keys (Ex.due a L) = D1 at *
    generalize hd2 : Ex.keys (Ex.due b (Ex.left a L)) = D2 at *
    generalize hd3 : Ex.keys (Ex.due b L) = D3 at *
    clear hd1 hd2 hd3 HE2
    go_wp2_with (at_builtin; refine append_all (Sh := strS) (by rfl) (.tmp 70) (.tmp 73) 34 rfl Try.underlying34 info_str rfl v2 _ _ rfl HR8.out v3 _ _ rfl HR9.out HLX.out HLY.out ?_; intro v4 w9 hr9 hk9; obtain ⟨V4, c4, rfl, hsl4⟩ := hr9.open_; have HR10 := Lib.hid hr9; have HK9 := Lib.hid hk9; clear hr9 hk9 hsl4)
    have HS9 : Hid (YSt B w9 p q S T 40 (Ex.left b L) (Ex.left b L)) := ⟨HS8.out.s.far HK9.out fun k h1 h2 => by have := HSL.out k h1; have := HZ56.out; have h2 : w6.heap.size ≤ k := h2; omega, HS8.out.t.far HK9.out fun k h1 h2 => by have := HTL.out k h1; have := HZ56.out; have h2 : w6.heap.size ≤ k := h2; omega, HS8.out.d⟩
    have HZ68 : Hid (w6.heap.size ≤ w8.heap.size) := Nat.le_trans HZ7.out.2 HZ8.out.2
    have HB9 : Hid (Below B w w9) := HB8.out.trans (HK9.out.below HZ8.out.1 fun k h => Nat.le_trans HZ6.out h)
    have HV1d : Hid (Arr strS w9 w5.heap.size w6.heap.size V1 D3) := HV1c.out.kept HK9.out HZ68.out fun k _ h1 h2 => by have h2 : w6.heap.size ≤ k := h2; omega
    have HZ9 : Hid (B ≤ w9.heap.size ∧ w6.heap.size ≤ w9.heap.size) := ⟨Nat.le_trans HZ8.out.1 HK9.out.size, Nat.le_trans HZ68.out HK9.out.size⟩
    have HV4 : Hid (Arr strS w9 0 w9.heap.size V4 D3) := by
      have h4 : ARow strS 9 w9 0 (.slice V4 (D1.length + D2.length) c4) (D1.length + D2.length) (D1 ++ D2) := HR10.out.1
      obtain ⟨A', c', e', -, h5⟩ := h4.open_
      injection e' with e1
      subst e1
      rw [HL1.out] at h5
      exact h5
    have HD3 : Hid (D3.length = D1.length + D2.length ∧ D3.length ≤ 80) := by
      have := HL2.out
      rw [← HL1.out, List.length_append]
      exact ⟨rfl, by omega⟩
    clear HS8 HB8 HV1c HR8 HR9 HR10 HK9 HLX HLY
    go_wp2_with fail
    refine (CA.out _).mono ?_
    rintro e w10 ⟨rfl, hb10⟩
    have HS10 := Lib.hid (HS9.out.next hb10)
    have HB10 := Lib.hid (HB9.out.trans (hb10.mono HZ9.out.1))
    have HZ10 : Hid (B ≤ w10.heap.size) := Nat.le_trans HZ9.out.1 hb10.size
    have CC := Lib.hid (exstrings_any V1 V4 w5.heap.size w6.heap.size 0 w9.heap.size (D1.length + D2.length) c1 c4 D3 w10 HD3.out.1 (by have := HD3.out; omega) (HV1d.out.below hb10 HZ9.out.2) (HV4.out.below hb10 (Nat.le_refl _)))
    rw [HD3.out.1]
    clear hb10 HS9 HB9 HV1d HV4 CA
    go_wp2_with fail
    refine CC.out.mono ?_
    rintro e w11 ⟨rfl, hb11⟩
    have HS11 := Lib.hid (HS10.out.next hb11)
    have HB11 := Lib.hid (HB10.out.trans (hb11.mono HZ10.out))
    have CL1 := Lib.hid (exlen_any 40 p (Ex.left b L).length (Ex.left b L) S w11 rfl (Lib.hid HS11.out.s.t))
    have CL2 := Lib.hid (exlen_any 40 q (Ex.left b L).length (Ex.left b L) T w11 rfl (Lib.hid HS11.out.t.t))
    clear hb11 HS10 HB10 CC
    go_wp2_with fail
    refine CL1.out.mono ?_
    rintro e w12 ⟨rfl, rfl⟩
    go_wp2_with fail
    refine CL2.out.mono ?_
    rintro e w13 ⟨rfl, rfl⟩
    go_wp2_with fail
    go_ret
    exact ⟨rfl, HB11.out⟩
end Go.Proofs.Ytkhmimdigdjajaa
