/-
  The reference's Seqs, and the comparison of items with the reference's.
-/
import Derived.Test.YtlhjofcpcccdpaaChRef
set_option maxRecDepth 100000
namespace Go.Proofs.Ytlhjofcpcccdpaa
open Go.RowKit Go.Maps
/-- What the reference's Seqs answers. -/
def RSeqs (L : List Ch.Ent) (w : World) (e : Ending) (w' : World) : Prop :=
  ∃ v, e = .returned v ∧ ARow intS 3 w' w.heap.size v (Ch.sqs L).length (Ch.sqs L) ∧ Below w.heap.size w w'
theorem srow_base {S : Nat → Prop} {t : TypeId} {z n B : Nat} {w : World} {v : Value} {xs : List Value} (h : SRow S t z w v n xs) (hs : ∀ k, S k → B ≤ k) : w.ownsRow B t z v n xs := by
  refine ⟨h.1.1, ?_⟩
  rcases h.1.2 with h0 | ⟨g, cap, cur, h1, -, h3⟩
  · exact .inl h0
  · exact .inr ⟨g, cap, cur, h1, hs g (h.2 g (by rw [h1]; rfl)), h3⟩
set_option maxHeartbeats 4000000 in
theorem refseqs_any (m : Nat) (L : List Ch.Ent) (R : Nat → Prop) (w : World) (hL : L.length ≤ 1000) (hT : Hid (CR R w m L)) :
    Calls Try.prog 17 #[.pointer (some ⟨m, 0, none⟩)] w (RSeqs L w) := by
  obtain ⟨A, c, hR, hm, hr, hsl, ha, hA⟩ := hT.out.open_
  obtain ⟨n, hn⟩ : ∃ n, L.length = n := ⟨_, rfl⟩
  have HA := Lib.hid ha
  have HAA := Lib.hid hA
  have hcap := hsl.2.2
  have hnc := hsl.2.1
  have c0 := one_cell_of hm
  rw [hn] at hL hnc c0
  have HN := Lib.hid hn
  obtain ⟨B, hB⟩ : ∃ B, w.heap.size = B := ⟨_, rfl⟩
  rw [hB] at HA
  have HB := Lib.hid hB
  clear hm hr ha hsl hn hA hR
  go_enter Try.func17, Try.ntmps17
  go_wp2_with fail
  clear c0
  go_loopw [3, 11] (fun v iv wr => ∃ i : Nat, i ≤ n ∧ iv = .int .i64 (i : Int) ∧ Hid (SRow (fun k => B ≤ k) 3 1 wr v (Ch.sqs (L.take i)).length (intS.flat (Ch.sqs (L.take i)))) ∧ Hid (Below B w wr)) (fun _ i _ => n - (Go.RowKit.intOf i).toNat)
  case atStart => exact ⟨0, Nat.zero_le _, rfl, SRow.nil, Below.refl _ _⟩
  case round =>
    obtain ⟨i, hi, rfl, hrow, hbel⟩ := hrel
    generalize hv : u3 = v at *
    clear hv
    by_cases hlt : i < n
    · have hiL : i < L.length := by rw [HN.out]; exact hlt
      obtain ⟨ad, rfl⟩ := HA.out.some hiL
      obtain ⟨g, rfl⟩ : ∃ g, ad = ⟨g, 0, none⟩ := by
        rcases HAA.out with h | ⟨g, h, -⟩
        · cases h
        · injection h with h; exact ⟨g, h⟩
      obtain ⟨⟨s0, o0, k0⟩, hp⟩ : ∃ p, Ch.ge L i = p := ⟨_, rfl⟩
      obtain ⟨m0, m1, m2⟩ := ents_at (HA.out.below hbel.out (Nat.le_refl _)) i hiL _ _ _ hp
      have HNX := Lib.hid (Ch.sqs_next hiL)
      rw [hp] at HNX
      have HLE : Hid ((Ch.sqs (L.take i)).length ≤ 1000) := by
        show _ ≤ _
        have h1 := Ch.sqs_le _ (L.take i) rfl
        have h2 := List.length_take_le i L
        omega
      have HX1 := Lib.hid (heap_alloc_new wr (.cells #[.int .i64 s0, .int .i64 o0, .string k0] 38))
      have HL1 : Hid (Below wr.heap.size wr (wr.alloc (.cells #[.int .i64 s0, .int .i64 o0, .string k0] 38))) := (Below.refl _ _).alloc (Nat.le_refl _) _
      have HZ : Hid (B ≤ wr.heap.size) := HB.out ▸ hbel.out.size
      have HB1 := Lib.hid (hbel.out.trans (HL1.out.mono HZ.out))
      have HR1 := Lib.hid (hrow.out.new HL1.out)
      clear hp
      go_upto_region 5 with fail
      clear m0 m1 m2 hrow hbel HL1
      generalize wr.alloc (.cells #[.int .i64 s0, .int .i64 o0, .string k0] 38) = w1 at *
      generalize wr.heap.size = x at *
      obtain ⟨x0, x1, x2⟩ := three_cells_at HX1.out
      have hro : ARow intS 3 w1 0 v (Ch.sqs (L.take i)).length (Ch.sqs (L.take i)) := HR1.out.1
      obtain ⟨Av, cv, hvv, hslv, hav⟩ := hro.open_
      obtain ⟨q, hq⟩ : ∃ q, (Ch.sqs (L.take i)).length = q := ⟨_, rfl⟩
      rw [hq] at hvv hslv
      have HQ := Lib.hid hq
      subst hvv
      have HXD : ∀ N, Hid ((w1.drewN N).heap[x]? = some (.cells #[.int .i64 s0, .int .i64 o0, .string k0] 38 (0, 0))) := fun N => HX1.out
      have HBD : ∀ N, Hid (Below B w (w1.drewN N)) := fun N => ⟨HB1.out.os, HB1.out.tape, HB1.out.output, HB1.out.size, HB1.out.block⟩
      have HRD : ∀ N, Hid (SRow (fun k => B ≤ k) 3 1 (w1.drewN N) (.slice Av q cv) q (intS.flat (Ch.sqs (L.take i)))) := fun N => by
        have h := HR1.out.new (below_drewN w1 N)
        rwa [HQ.out] at h
      by_cases hq0 : q = 0
      · subst hq0
        have hnil : Ch.sqs (L.take i) = [] := List.eq_nil_of_length_eq_zero HQ.out
        rw [hnil] at HNX HRD
        rw [if_neg (by intro h; cases h), List.nil_append] at HNX
        clear hav hslv hnil hro HR1 hq HQ
        go_quiet (fail)
        have HX2 := HXD nq
        have HB2 := HBD nq
        have HR2 := HRD nq
        clear HXD HBD HRD x0 x1 x2
        generalize w1.drewN nq = w2 at *
        obtain ⟨x0, x1, x2⟩ := three_cells_at HX2.out
        have HX3 := Lib.hid (heap_alloc_new w2 (.cells #[.int .i64 s0] 3))
        have HL3 : Hid (Below w2.heap.size w2 (w2.alloc (.cells #[.int .i64 s0] 3))) := (Below.refl _ _).alloc (Nat.le_refl _) _
        have HZ2 : Hid (B ≤ w2.heap.size) := HB.out ▸ HB2.out.size
        have HB3 := Lib.hid (HB2.out.trans (HL3.out.mono HZ2.out))
        have HR3 := Lib.hid (HR2.out.new HL3.out)
        have HZ3 : Hid (B ≤ (w2.alloc (.cells #[.int .i64 s0] 3)).heap.size) := Nat.le_trans HZ2.out HL3.out.size
        clear HL3 HB2 HR2 HX2
        go_wp2_with (at_builtin; refine append_one (Sh := intS) (by rfl) (.tmp 29) (.tmp 32) 40 rfl Try.underlying40 info_num rfl _ 0 _ rfl HR3.out w2.heap.size 1 s0 rfl HX3.out (Nat.zero_le _) (by decide) ?_; intro v4 w4 hr4 hk4; have HR4 := Lib.hid (hr4.mono fun k _ h => h.elim id fun h => Nat.le_trans HZ3.out h); have HB4 := Lib.hid (HB3.out.trans (hk4.below HZ3.out fun k h => h)); clear hr4 hk4)
        go_roundw
        case rel => exact ⟨i + 1, by omega, by go_num, by rw [HNX.out]; exact HR4, HB4⟩
        case measure => simp [Go.RowKit.intOf]; omega
      · obtain ⟨j, hj⟩ : ∃ j, q = j + 1 := ⟨q - 1, by omega⟩
        have hjq : j < q := by omega
        obtain ⟨ad, rfl⟩ := hav.some (k := j) (by rw [HQ.out]; exact hjq)
        have cl := ints_at hav j (by rw [HQ.out]; exact hjq)
        obtain ⟨y, hy⟩ : ∃ y, (Ch.sqs (L.take i)).getD j 0 = y := ⟨_, rfl⟩
        rw [hy] at cl
        have hlast : (Ch.sqs (L.take i)).getLast? = some y := by
          rw [List.getLast?_eq_getElem?, HQ.out, show q - 1 = j by omega, ← hy, List.getD_eq_getElem?_getD, List.getElem?_eq_getElem (by rw [HQ.out]; exact hjq)]
          rfl
        rw [hlast] at HNX
        have hj9 : q ≤ 1000 := by have := HLE.out; rw [HQ.out] at this; exact this
        have hcv : q ≤ cv := hslv.2.1
        have hcv2 : cv ≤ 9223372036854775807 := hslv.2.2
        have hb0 : ((q : Int) == 0) = false := by rw [beq_eq_false_iff_ne]; omega
        have hb1 : (q == 0) = false := by rw [beq_eq_false_iff_ne]; omega
        have hwr2 : (q : Int) - 1 = (j : Int) := by omega
        have hwr : IntKind.i64.wrap (j : Int) = (j : Int) := by rw [IntKind.wrap_i64]; omega
        have HJ1 : Hid ((Ch.sqs (L.take i)).length = q) := HQ.out
        clear hav hslv hro HR1 hq HQ hy hlast hq0 HLE hj
        by_cases hys : y = s0
        · subst hys
          rw [if_pos rfl] at HNX
          have hne : (y != y) = false := by simp
          go_quiet (fail)
          have HB2 := HBD nq
          have HR2 := HRD nq
          clear HXD HBD HRD
          go_wp2_with fail
          go_roundw
          case rel => exact ⟨i + 1, by omega, by go_num, by rw [HNX.out, HJ1.out]; exact HR2, HB2⟩
          case measure => simp [Go.RowKit.intOf]; omega
        · rw [if_neg (fun h => hys (Option.some.inj h))] at HNX
          have hne : (y != s0) = true := by rw [bne_iff_ne]; exact hys
          clear hys
          go_quiet (fail)
          have HX2 := HXD nq
          have HB2 := HBD nq
          have HR2 := HRD nq
          clear HXD HBD HRD x0 x1 x2
          generalize w1.drewN nq = w2 at *
          obtain ⟨x0, x1, x2⟩ := three_cells_at HX2.out
          have HX3 := Lib.hid (heap_alloc_new w2 (.cells #[.int .i64 s0] 3))
          have HL3 : Hid (Below w2.heap.size w2 (w2.alloc (.cells #[.int .i64 s0] 3))) := (Below.refl _ _).alloc (Nat.le_refl _) _
          have HZ2 : Hid (B ≤ w2.heap.size) := HB.out ▸ HB2.out.size
          have HB3 := Lib.hid (HB2.out.trans (HL3.out.mono HZ2.out))
          have HR3 := Lib.hid (HR2.out.new HL3.out)
          have HZ3 : Hid (B ≤ (w2.alloc (.cells #[.int .i64 s0] 3)).heap.size) := Nat.le_trans HZ2.out HL3.out.size
          clear HL3 HB2 HR2 HX2
          go_wp2_with (at_builtin; refine append_one (Sh := intS) (by rfl) (.tmp 29) (.tmp 32) 40 rfl Try.underlying40 info_num rfl _ q _ rfl HR3.out w2.heap.size 1 s0 rfl HX3.out (by omega) (by omega) ?_; intro v4 w4 hr4 hk4; have HR4 := Lib.hid (hr4.mono fun k _ h => h.elim id fun h => Nat.le_trans HZ3.out h); have HB4 := Lib.hid (HB3.out.trans (hk4.below HZ3.out fun k h => h)); clear hr4 hk4)
          go_roundw
          case rel => exact ⟨i + 1, by omega, by go_num, by rw [HNX.out, List.length_append, HJ1.out]; exact HR4, HB4⟩
          case measure => simp [Go.RowKit.intOf]; omega
    · obtain rfl : i = n := by omega
      have HE : Hid (L.take i = L) := List.take_of_length_le (by rw [HN.out]; exact Nat.le_refl _)
      rw [HE.out] at hrow
      clear HE hlt
      go_wp2_with fail
      go_ret
      exact ⟨v, rfl, srow_base hrow.out fun k h => by rw [HB.out]; exact h, by rw [HB.out]; exact hbel.out⟩
end Go.Proofs.Ytlhjofcpcccdpaa
