/-
  The walk of Items.
-/
import Derived.Test.YtlhjofcpcccdpaaChRem
import Derived.Test.YtlhjofcpcccdpaaChSort
import Derived.Maps.StringElems
set_option maxRecDepth 100000
namespace Go.Proofs.Ytlhjofcpcccdpaa
open Go.RowKit Go.Maps
theorem info_item : (Try.prog.info? 45).map (fun i => (i.zero, i.size, i.bytes)) = some (some (.agg (itc Ch.It0).toArray), itS.m, 24) := by kernel_rfl
/-- Items in a row of the call's own, in ascending order. -/
def ItemsIs (l : List Ch.It) (w : World) (e : Ending) (w' : World) : Prop :=
  ∃ g c, e = .returned (.slice (some ⟨g, 0, none⟩) l.length c) ∧ l.length ≤ c ∧ c ≤ maxLen ∧ w.heap.size ≤ g ∧ g < w'.heap.size ∧ Arr itS w' w.heap.size w'.heap.size (some ⟨g, 0, none⟩) l ∧ (∀ j, j < l.length * 2 → w'.frozen? ⟨g, j, none⟩ = false) ∧ Below w.heap.size w w'
theorem grown_new {w w' : World} (h : Below w.heap.size w w') : w.grownBy w' none := ⟨h.os, h.tape, h.output, h.size, fun i hi _ => h.block i hi⟩
/-- What the loop over a region's map has met. -/
structure Met (l K : List Ch.It) (left : Lit → Bool) (cnt : Nat) : Prop where
  mem : ∀ p, p ∈ K ↔ p ∈ l ∧ left (.int .i64 p.1) = false
  dif : K.Pairwise fun p q => p.1 ≠ q.1
  len : K.length + cnt ≤ l.length
theorem Met.first {l : List Ch.It} : Met l [] (Maps.has (Ch.dat fI l)) (Maps.size (Ch.dat fI l)) := by
  refine ⟨fun p => ⟨fun h => (by cases h), fun ⟨h, h2⟩ => ?_⟩, List.Pairwise.nil, by rw [Ch.dat_size]; simp⟩
  rw [Ch.dat_yes fI h] at h2
  cases h2
theorem Met.step {l K : List Ch.It} {left : Lit → Bool} {cnt cnt' : Nat} (h : Met l K left cnt) (hU : Ch.Up l) {x : Int} {k : ByteArray} (hl : left (.int .i64 x) = true) (ha : ∀ zd, (Ch.dat fI l).atKey (.int .i64 x) zd = fI k) (hc : cnt' < cnt) : (x, k) ∈ l ∧ Met l (K ++ [(x, k)]) (fun z => left z && !z.sameKey (.int .i64 x)) cnt' := by
  have hm : (x, k) ∈ l := by
    by_cases hex : ∃ k', (x, k') ∈ l
    · obtain ⟨k', hk'⟩ := hex
      have := ha (fI k)
      rw [Ch.dat_at fI hU hk'] at this
      unfold fI at this
      injection this with this
      injection this with this
      rw [← this]; exact hk'
    · have h1 := ha (.lit (.bool true))
      rw [Ch.dat_no fI fun a h => hex ⟨a, h⟩] at h1
      unfold fI at h1
      cases h1
  refine ⟨hm, fun p => ?_, List.pairwise_append.2 ⟨h.dif, List.pairwise_singleton _ _, fun p hp q hq e => ?_⟩, ?_⟩
  · rw [List.mem_append, h.mem p, Ch.same_int, List.mem_singleton]
    constructor
    · rintro (⟨h1, h2⟩ | rfl)
      · exact ⟨h1, by rw [h2]; rfl⟩
      · exact ⟨hm, by simp⟩
    · rintro ⟨h1, h2⟩
      by_cases e : p.1 = x
      · obtain ⟨p1, p2⟩ := p
        have e : p1 = x := e
        subst e
        rw [Ch.up_one hU h1 hm]
        exact .inr rfl
      · rw [decide_eq_false e] at h2
        exact .inl ⟨h1, by simpa using h2⟩
  · rw [List.mem_singleton.1 hq] at e
    have := ((h.mem p).1 hp).2
    rw [e, hl] at this
    cases this
  · have := h.len
    rw [List.length_append, List.length_singleton]
    omega
theorem Met.last {l K : List Ch.It} {left : Lit → Bool} {cnt : Nat} (h : Met l K left cnt) (hU : Ch.Up l) (hl : ∀ z, left z = false) : K.Perm l := by
  have nd : ∀ {l : List Ch.It}, l.Pairwise (fun p q => p.1 ≠ q.1) → l.Nodup := fun h => h.imp fun h e => h (by rw [e])
  exact (List.perm_ext_iff_of_nodup (nd h.dif) (nd (hU.imp fun h => Int.ne_of_lt h))).2 fun p => (h.mem p).trans ⟨fun h => h.1, fun h => ⟨h, hl _⟩⟩
/-- What is sorted, and has the members of an ascending list, is the list. -/
theorem sorted_is {l L : List Ch.It} (hU : Ch.Up l) (hp : L.Perm l) (hs : L.Pairwise fun p q => p.1 ≤ q.1) : L = l := by
  have hd : L.Pairwise fun p q => p.1 ≠ q.1 := (hp.pairwise_iff fun h e => h e.symm).2 (hU.imp fun h => Int.ne_of_lt h)
  refine Ch.up_eq ?_ hU fun p => hp.mem_iff
  exact (hs.and hd).imp fun h => Int.lt_iff_le_and_ne.2 h
set_option maxHeartbeats 4000000 in
theorem chitems_any (M q : Nat) (s : Int) (H : Int → List Ch.It) (S : Nat → Prop) (w : World) (hM : M ≤ 1000000) (hs : (Lit.int .i64 s).wf = true) (hT : Chn M w S q H) :
    Calls Try.prog 14 #[.pointer (some ⟨q, 0, none⟩), .int .i64 s] w (ItemsIs (H s) w) := by
  obtain ⟨hS, hG, mb, mi, hq, hlk, hL⟩ := hT.look hs
  have c0 := one_cell_of hq
  have hlk1 := hlk w rfl
  obtain ⟨i0, hi0, hz0, hz1, hz2⟩ := arr_info info_item
  have I0 := Lib.hid (And.intro hi0 (And.intro hz0 (And.intro hz1 hz2)))
  clear hlk hT hi0 hz0 hz1 hz2
  rcases hL with ⟨rfl, hH⟩ | ⟨b, l, i, rfl, rfl, hI, hil, -, -⟩
  · rw [hH]
    have hlen : (Builtin.len_ #[52] 3 #[.map none]).run Try.prog w = .ok (.int .i64 0) w := Maps.len_nil Try.underlying52 _
    have HB1 : Hid (i0.bytes * 0 ≤ 281474976710656) := by show _ ≤ _; omega
    clear hq hS hG hH
    go_enter Try.func14, Try.ntmps14
    go_wp2_with (at_make; refine wpList_make_own _ rfl _ _ 34 rfl w.heap.size 45 i0 (.agg (itc Ch.It0).toArray) 2 Try.underlying34 I0.out.1 I0.out.2.1 I0.out.2.2.1 .i64 .i64 _ 0 rfl rfl rfl HB1.out (Nat.zero_le _) (Nat.le_refl _) ?_; intro w0 hown0 hg0; have HW0 := Lib.hid hown0; have HG0 := Lib.hid hg0; have hrg := run_range_nilMap (P := Try.prog) w0 52 3 9 Try.underlying52; have hnx : ∀ ty, (Instr.next (.pointer (some ⟨w0.heap.size, 0, none⟩)) false ty).run Try.prog (w0.alloc (.mapIter none 0 #[] 0)) = _ := fun ty => run_next_nilMap w0 ty 0 0 #[]; clear hown0 hg0)
    have HIT : Hid (Below w0.heap.size w0 (w0.alloc (.mapIter none 0 #[] 0))) := (Below.refl _ _).alloc (Nat.le_refl _) _
    have HBE : Hid (Below w.heap.size w (w0.alloc (.mapIter none 0 #[] 0))) := ((Below.refl _ _).grown HG0.out (Nat.le_refl _) fun _ e => (by cases e)).trans (HIT.out.mono HG0.out.size)
    have HRW : Hid ((w0.alloc (.mapIter none 0 #[] 0)).ownsRow w.heap.size 45 2 (.slice (some ⟨w.heap.size, 0, none⟩) 0 0) 0 (itS.flat [])) := HW0.out.kept (grown_new HIT.out) (.inr fun e => by cases e)
    clear HW0 HG0 HIT
    generalize w0.alloc (.mapIter none 0 #[] 0) = w1 at *
    obtain ⟨g, hg⟩ : ∃ g, w.heap.size = g := ⟨_, rfl⟩
    have HGS := Lib.hid hg
    rw [hg] at HRW HBE ⊢
    have HGL := Lib.hid (irow_holds (L := []) rfl HRW.out).2.1
    clear hrg hg
    go_loopw [6] (fun v wr => v = .slice (some ⟨g, 0, none⟩) 0 0 ∧ wr = w1) (fun _ _ => 0)
    case atStart => exact ⟨rfl, rfl⟩
    case round =>
      obtain ⟨rfl, rfl⟩ := hrel
      have HC : Hid (Calls Try.prog 20 #[.slice (some ⟨g, 0, none⟩) 0 0, .func (.func 21) #[] #[]] wr fun e w' => e = .returned (.tuple #[]) ∧ ∃ L' : List Ch.It, L'.Perm [] ∧ L'.Pairwise (fun p q => p.1 ≤ q.1) ∧ Go.Sort.HoldsK itc 2 w' g 0 L'.toArray ∧ Below g wr w') := isort_any g 0 [] wr (Nat.zero_le _) (irow_holds rfl HRW.out).1 (irow_holds (L := []) rfl HRW.out).2.1
      clear HRW
      go_wp2_with (go_at_call 20; refine HC.out.mono ?_; rintro e w2 ⟨rfl, L', hp, -, hh, hb⟩; have HB := Lib.hid hb; clear hh hp hb)
      go_ret
      have hgs : g < w2.heap.size := Nat.lt_of_lt_of_le HGL.out HB.out.size
      exact ⟨g, 0, rfl, Nat.le_refl _, Nat.zero_le _, Nat.le_of_eq HGS.out, hgs, Arr.nil, fun j hj => absurd hj (Nat.not_lt_zero _), by rw [HGS.out]; exact HBE.out.trans HB.out⟩
  · obtain ⟨n, hn⟩ : ∃ n, (H s).length = n := ⟨_, rfl⟩
    have hnM : n ≤ M := hn ▸ hG.le s
    have HG := Lib.hid hG
    have HOW := Lib.hid (hI.blk s i hil).2.2.2
    have hlen : (Builtin.len_ #[52] 3 #[.map (some i)]).run Try.prog w = .ok (.int .i64 (n : Int)) w := by
      have := HOW.out.len Try.underlying52 3
      rwa [Ch.dat_size, hn] at this
    have HN := Lib.hid hn
    have HB1 : Hid (i0.bytes * n ≤ 281474976710656) := by show _ ≤ _; rw [I0.out.2.2.2]; omega
    have HB2 : Hid (n ≤ maxLen) := by show _ ≤ _; unfold maxLen; omega
    clear hq hS hG hI hil hn
    go_enter Try.func14, Try.ntmps14
    go_wp2_with (first
      | (at_make; refine wpList_make_own _ rfl _ _ 34 rfl w.heap.size 45 i0 (.agg (itc Ch.It0).toArray) 2 Try.underlying34 I0.out.1 I0.out.2.1 I0.out.2.2.1 .i64 .i64 _ n rfl rfl rfl HB1.out HB2.out (Nat.le_refl _) ?_; intro w0 hown0 hg0; have HW0 := Lib.hid hown0; have HG0 := Lib.hid hg0; have HO0 := Lib.hid (HOW.out.kept hg0 (by simp)); clear hown0 hg0)
      | (at_range; refine wpList_range_own _ rfl _ 52 rfl 3 9 chLaw Try.underlying52 chStr i _ _ rfl HO0.out ?_; intro w1 hrg1 hg1 hs1; have HR1 := Lib.hid hrg1; have HG1 := Lib.hid hg1; clear hrg1 hg1))
    go_frame
    obtain ⟨g, hg⟩ : ∃ g, w.heap.size = g := ⟨_, rfl⟩
    obtain ⟨r, hr⟩ : ∃ r, w0.heap.size = r := ⟨_, rfl⟩
    have HGR : Hid (i < g ∧ g < r) := by
      show _ ∧ _
      rw [← hg, ← hr]
      exact ⟨HOW.out.lt, (HW0.out.lt _ rfl).2⟩
    have HBE : Hid (Below g w w1) := by
      show Below _ _ _
      rw [← hg]
      exact ((Below.refl _ _).grown HG0.out (Nat.le_refl _) fun _ e => (by cases e)).trans ((Below.refl _ _).grown HG1.out HG0.out.size fun _ e => (by cases e))
    have HRW : Hid (w1.ownsRow g 45 2 (.slice (some ⟨g, 0, none⟩) 0 n) 0 []) := by
      show World.ownsRow _ _ _ _ _ _ _
      rw [← hg]
      exact HW0.out.kept HG1.out (.inr fun e => by cases e)
    rw [hr] at HR1
    have HGS := Lib.hid hg
    rw [hg, hr]
    clear hg hr HW0 HG0 HO0 HG1 hs1
    go_loopw [6] (fun v wr => ∃ K left cnt, v = .slice (some ⟨g, 0, none⟩) K.length n ∧ Hid (Met (H s) K left cnt) ∧ Hid (wr.ownsRow g 45 2 (.slice (some ⟨g, 0, none⟩) K.length n) K.length (itS.flat K)) ∧ Hid (wr.ranges Try.prog 3 chStr i r (H s).length (Ch.dat fI (H s)) left cnt) ∧ Hid (Below g w wr)) (fun _ wr => wr.rangeLeft i r)
    case atStart => exact ⟨[], _, _, rfl, Met.first, HRW, HR1, HBE⟩
    case round =>
      obtain ⟨K, left, cnt, rfl, hmet, hrow, hran, hbel⟩ := hrel
      clear HRW HR1 HBE
      go_wp2_with (at_next; refine wpList_next_ranges _ rfl _ rfl 3 chLaw chStr (Value.int .i64) Value.string (fun key kl hkey => by obtain ⟨x, rfl, _⟩ := Maps.keyOf_int_inv Try.underlying3 hkey; exact ⟨x, rfl⟩) (fun v y hv => by obtain ⟨k, rfl, _⟩ := chStr_inv hv; exact ⟨k, rfl⟩) i r _ _ _ _ rfl hran.out ?_ ?_)
      · intro _ hl0
        have HP : Hid (K.Perm (H s)) := hmet.out.last (HG.out.up s) hl0
        have HKL : Hid (K.length = n) := HP.out.length_eq.trans HN.out
        have HC := Lib.hid (isort_any g n K wr (by rw [HKL.out]; omega) (irow_holds rfl hrow.out).1 (irow_holds rfl hrow.out).2.1)
        clear hl0
        go_wp2_with (go_at_call 20; refine HC.out.mono ?_; rintro e w2 ⟨rfl, L', hp, hso, hh, hb⟩; have HH := Lib.hid hh; have HL := Lib.hid (sorted_is (HG.out.up s) (hp.trans HP.out) hso); have HB := Lib.hid hb; clear hh hp hso hb)
        go_ret
        have hgs := (irow_holds rfl hrow.out).2.1
        have hHH := HH.out
        rw [HL.out] at hHH
        have hgl := Nat.lt_of_lt_of_le hgs HB.out.size
        rw [HKL.out, ← HN.out]
        refine ⟨g, (H s).length, rfl, Nat.le_refl _, ?_, Nat.le_of_eq HGS.out, hgl, iholds_arr hHH (Nat.le_of_eq HGS.out) hgl, fun j hj => iholds_frozen hHH j hj, ?_⟩
        · rw [HN.out]; exact HB2.out
        · rw [HGS.out]; exact hbel.out.trans HB.out
      · intro x k kl y1 y2 w2 cnt2 hkey hlk hval hat hrg2 hlt2 hg2 hs2 hen
        obtain ⟨x', ex, rfl, hwx⟩ := Maps.keyOf_int_inv Try.underlying3 hkey
        cases ex
        obtain ⟨k', ek, hy⟩ := chStr_inv hval
        cases ek
        obtain ⟨rfl, rfl⟩ := Prod.mk.inj hy
        have hst := hmet.out.step (HG.out.up s) hlk hat hlt2
        have HST := Lib.hid hst.2
        have HKZ : Hid (k.size ≤ 1048576) := HG.out.small s _ hst.1
        have HBe2 : Hid (Below g w w2) := hbel.out.trans ((Below.refl _ _).grown hg2 (Nat.le_of_lt (show g < wr.heap.size from (hrow.out.lt _ rfl).2)) fun j e => by have := Option.some.inj e; have := HGR.out; omega)
        have HRW2 : Hid (w2.ownsRow g 45 2 (.slice (some ⟨g, 0, none⟩) K.length n) K.length (itS.flat K)) := hrow.out.kept hg2 (.inr fun e => by have e2 : g = r := Option.some.inj e; have := HGR.out; omega)
        have HRN2 := Lib.hid hrg2
        have HLN : Hid (K.length + 1 ≤ n) := by
          show _ ≤ _
          have := hst.2.len
          rw [List.length_append, List.length_singleton, HN.out] at this
          omega
        have HME : Hid (wr.rangeLeft i r = cnt) := hran.out.left_eq
        have HGW : Hid (g ≤ w2.heap.size) := Nat.le_of_lt (HRW2.out.lt _ rfl).2
        clear hst hlk hat hg2 hrg2 hbel hrow hran hmet hs2 hkey hval
        go_wp2_with (first
          | (go_at_call 19; refine (strclone_any k HKZ.out _).mono ?_; rintro e w3 ⟨rfl, hb3⟩; have HB3 := Lib.hid (HBe2.out.trans (hb3.mono HGW.out)); have HRW3 := Lib.hid (HRW2.out.kept (grown_new hb3) (.inr fun e => by cases e)); have HRN3 := Lib.hid (HRN2.out.kept (grown_new hb3) (by simp) (by simp)); have HGW3 := Lib.hid (Nat.le_trans HGW.out hb3.size); clear hb3)
          | (at_builtin; refine wpList_append_fits _ rfl (.tmp 27) (.tmp 32) 34 rfl g 45 i0 2 Try.underlying34 I0.out.1 I0.out.2.2.1 g K.length n (itS.flat K) rfl (HRW3.out.alloc _) ⟨w3.heap.size, 0, none⟩ 1 1 (itc (x, k)) rfl rfl (fun j u hu => ?_) (itc_one _) HLN.out ?_
             · rw [arr_flat, Nat.zero_add, cell_of_row _ _ j _ _ _ (heap_alloc_new w3 _), List.getElem?_toArray]; exact hu
             intro w5 hown5 hg5
             have HRW5 := Lib.hid hown5
             have HB5 : Hid (Below g w w5) := (HB3.out.trans ((Below.refl _ _).alloc HGW3.out _)).trans ((Below.refl _ _).grown hg5 (by simp; have := HGW3.out; omega) fun j e => Nat.le_of_eq (Option.some.inj e))
             have HRN5 := Lib.hid ((HRN3.out.alloc _).kept hg5 (fun e => by have := Option.some.inj e; have := HGR.out; omega) (fun e => by have := Option.some.inj e; have := HGR.out; omega))
             clear hown5 hg5))
        go_roundw
        case rel => exact ⟨K ++ [(x, k)], _, cnt2, by rw [List.length_append]; rfl, HST, by show World.ownsRow _ _ _ _ _ _ _; rw [List.length_append, Shape.flat_append, Shape.flat_one]; exact HRW5.out, HRN5, HB5⟩
        case measure => rw [HME.out, HRN5.out.left_eq]; exact hlt2
end Go.Proofs.Ytlhjofcpcccdpaa
