/-
  The walks of Drop and Seqs.
-/
import Derived.Test.YtlhjofcpcccdpaaChItems
import Derived.Test.YtlhjofcpcccdpaaIter
set_option maxRecDepth 100000
namespace Go.Proofs.Ytlhjofcpcccdpaa
open Go.RowKit Go.Maps
theorem arr_grown {α : Type} {Sh : Shape α} {w w' : World} {lo B b : Nat} {A : Option Addr} {l : List α} (h : Arr Sh w lo B A l) (hg : w.grownBy w' (some b)) (hb : b < lo) : Arr Sh w' lo B A l := fun k hk => by
  obtain ⟨ad, h1, h2, h3, h4⟩ := h k hk
  refine ⟨ad, h1, h2, h3, fun j v e => ?_⟩
  have hc := h4 j v e
  have hlt := World.block_lt_of_cell? w _ hc
  rw [add_block] at hlt
  exact (World.cell?_of_block (by rw [add_block]; exact hg.block _ hlt fun e => by have := Option.some.inj e; omega)).trans hc
/-- What Drop leaves. -/
def ChDrop (M : Nat) (S : Nat → Prop) (q : Nat) (H : Int → List Ch.It) (s : Int) (w : World) (e : Ending) (w' : World) : Prop :=
  ∃ g c, e = .returned (.slice (some ⟨g, 0, none⟩) (H s).length c) ∧ (H s).length ≤ c ∧ c ≤ maxLen ∧ w.heap.size ≤ g ∧ g < w'.heap.size ∧ Arr itS w' w.heap.size w'.heap.size (some ⟨g, 0, none⟩) (H s) ∧ Kept S w w' ∧ Chn M w' S q (Ch.drop H s)
theorem Ch.drop_no {H : Int → List Ch.It} {s : Int} (h : H s = []) : Ch.drop H s = H := funext fun t => by
  unfold Ch.drop
  split
  · rename_i e; rw [e, h]
  · rfl
set_option maxHeartbeats 2000000 in
theorem chdrop_any (M q : Nat) (s : Int) (H : Int → List Ch.It) (S : Nat → Prop) (w : World) (hM : M ≤ 1000000) (hs : (Lit.int .i64 s).wf = true) (hT : Chn M w S q H) :
    Calls Try.prog 12 #[.pointer (some ⟨q, 0, none⟩), .int .i64 s] w (ChDrop M S q H s w) := by
  have HC := Lib.hid (chitems_any M q s H S w hM hs hT)
  have HT := Lib.hid hT
  have HKY := Lib.hid (chKey hs)
  clear hT hs
  go_enter Try.func12, Try.ntmps12
  go_wp2_with fail
  refine HC.out.mono ?_
  rintro e w1 ⟨g, c, rfl, hc1, hc2, hg1, hg2, harr, -, hb⟩
  have HT1 := HT.out.next hb
  have HR := Lib.hid (And.intro hc1 (And.intro hc2 (And.intro hg1 (And.intro hg2 (And.intro harr hb)))))
  clear hc1 hc2 hg1 hg2 harr hb HC
  obtain ⟨mb, hS, hq, hG, hL⟩ := HT1
  have c0 := one_cell_of hq
  have HGD : Hid (Good M (Ch.drop H s)) := ⟨Ch.drop_up hG.up s, fun t => by
    unfold Ch.drop; split
    · exact Nat.zero_le _
    · exact hG.le t, fun t p hp => by
    unfold Ch.drop at hp; split at hp
    · cases hp
    · exact hG.small t p hp⟩
  have HSQ := Lib.hid hS
  have HQ := Lib.hid hq
  clear hS hG hq
  rcases hL with ⟨rfl, hH⟩ | ⟨b, l, rfl, hI, hne, hl⟩
  · have hdel : ∀ ty, (Builtin.delete_ #[49, 3] ty #[.map none, .int .i64 s]).run Try.prog w1 = .ok (.tuple #[]) w1 := fun ty => Maps.drop_nil chLaw Try.underlying49 HKY.out ty
    have HE : Hid (Chn M w1 S q (Ch.drop H s)) := by rw [Ch.drop_no (hH s)]; exact HT.out.next HR.out.2.2.2.2.2
    clear hH
    go_wp2_with fail
    go_ret
    exact ⟨g, c, rfl, HR.out.1, HR.out.2.1, HR.out.2.2.1, HR.out.2.2.2.1, HR.out.2.2.2.2.1, Kept.of_new HR.out.2.2.2.2.2, HE.out⟩
  · have HI := Lib.hid hI
    have HNE := Lib.hid hne
    have HLM : Hid (l.length ≤ M) := hl
    have HBW : Hid (b < w.heap.size) := by
      obtain ⟨mb', -, hq', -, hL'⟩ := HT.out
      have hlt := (Array.getElem?_eq_some_iff.1 hq').1
      have e : w1.heap[q]? = _ := (HR.out.2.2.2.2.2.block q hlt).trans hq'
      rw [HQ.out] at e
      injection e with e; injection e with e; injection e with e; injection e with e
      injection e with e
      subst e
      rcases hL' with ⟨h, -⟩ | ⟨b', l', h, hI', -⟩
      · cases h
      · rw [Option.some.inj h]; exact hI'.own.lt
    clear hI hne hl
    go_wp2_with (at_delete; refine wpList_delete_own _ rfl _ _ 49 3 rfl 52 chLaw Try.underlying49 chRaw b _ _ rfl HI.out.own _ (.int .i64 s) rfl HKY.out ?_; intro w2 hown2 hturn2; have HI2 := Lib.hid (HI.out.gone hown2 hturn2.grown); have HG2 := Lib.hid hturn2.grown; clear hown2 hturn2)
    go_ret
    have hk12 : Kept S w1 w2 := Kept.of_grown HG2.out fun k e => Option.some.inj e ▸ HI.out.ib
    refine ⟨g, c, rfl, HR.out.1, HR.out.2.1, HR.out.2.2.1, Nat.lt_of_lt_of_le HR.out.2.2.2.1 HG2.out.size, (arr_grown HR.out.2.2.2.2.1 HG2.out HBW.out).up HG2.out.size, (Kept.of_new HR.out.2.2.2.2.2 : Kept S w w1).trans hk12, some b, HSQ.out, (HG2.out.block q (Array.getElem?_eq_some_iff.1 HQ.out).1 fun e => HI.out.ne (Option.some.inj e).symm).trans HQ.out, HGD.out, .inr ⟨b, Ch.cut s l, rfl, HI2.out, fun t j hj => ?_, Nat.le_trans (Ch.cut_le _ _) HLM.out⟩⟩
    obtain ⟨m, hts⟩ := Ch.mem_cut.1 hj
    unfold Ch.drop
    rw [if_neg hts]
    exact HNE.out t j m
/-- What Seqs answers: the numbers in ascending order, in a row of the call's own. -/
def SeqsIs (H : Int → List Ch.It) (w : World) (e : Ending) (w' : World) : Prop :=
  ∃ v ss, e = .returned v ∧ ARow intS 3 w' w.heap.size v ss.length ss ∧ ss.Pairwise (· < ·) ∧ (∀ x, x ∈ ss ↔ H x ≠ []) ∧ Below w.heap.size w w'
theorem ints_flat (l : List Int) : l.map encZ = intS.flat l := by
  unfold Shape.flat
  induction l with
  | nil => rfl
  | cons a t ih => rw [List.map_cons, ih]; rfl
theorem asc_sort {ss l : List Int} (hp : ss.Perm l) (hl : l.Pairwise (· < ·)) : ss.mergeSort (fun x y => decide (x ≤ y)) = l := by
  have h1 : (ss.mergeSort (fun x y => decide (x ≤ y))).Pairwise fun a b => decide (a ≤ b) = true := List.pairwise_mergeSort (fun a b c h1 h2 => by simp only [decide_eq_true_eq] at *; omega) (fun a b => by simp only [Bool.or_eq_true, decide_eq_true_eq]; omega) ss
  refine List.Perm.eq_of_pairwise (le := fun a b => a ≤ b) (fun a b _ _ h1 h2 => Int.le_antisymm h1 h2) (h1.imp fun h => of_decide_eq_true h) (hl.imp fun h => Int.le_of_lt h) ((List.mergeSort_perm _ _).trans hp)
/-- slices.Sorted at what maps.Keys handed back for no map. -/
theorem sorted_none (w : World) : Calls Try.prog 23 #[.func (.func 31) #[] #[.pointer (some ⟨w.heap.size, 0, none⟩)]] (w.alloc (.cells #[.map none] 49)) fun e w' =>
    ∃ v, e = .returned v ∧ w'.ownsRow (w.alloc (.cells #[.map none] 49)).heap.size 3 1 v 0 [] ∧ Below (w.alloc (.cells #[.map none] 49)).heap.size (w.alloc (.cells #[.map none] 49)) w' := by
  have hseq : SeqGives Fence.wide 2 Try.prog 31 #[.pointer (some ⟨w.heap.size, 0, none⟩)] encZ (fun ss => ss = []) 0 (w.alloc (.cells #[.map none] 49)) :=
    AnyZI.keys_gives_nil (ρ := Try.keysA_ren) { Try.keysA with } Fence.wide _ trivial rfl w.heap.size _ (by simp) (one_cell_of (heap_alloc_new w _))
  refine ((callsIn_wide (n := 5)).1 (AnyZI.sorted_in Try.sortedA Fence.wide 5 trivial trivial trivial trivial rfl (by omega) (Try.sortsA _) (enters_of Try.func30 (by kernel_rfl) rfl) 31 #[.pointer (some ⟨w.heap.size, 0, none⟩)] trivial (enters_of Try.func31 (by kernel_rfl) rfl) _ _ (Nat.zero_le _) (by omega) _ hseq)).mono ?_
  rintro e w' ⟨v, ss, rfl, rfl, hrow, -, hb⟩
  rw [List.mergeSort_nil, List.map_nil] at hrow
  exact ⟨v, rfl, hrow, hb⟩
set_option maxHeartbeats 2000000 in
theorem chseqs_any (M q : Nat) (H : Int → List Ch.It) (S : Nat → Prop) (w : World) (hM : M ≤ 1000000) (hT : Chn M w S q H) :
    Calls Try.prog 16 #[.pointer (some ⟨q, 0, none⟩)] w (SeqsIs H w) := by
  obtain ⟨mb, hS, hq, hG, hL⟩ := hT
  have c0 := one_cell_of hq
  clear hS hG hq
  rcases hL with ⟨rfl, hH⟩ | ⟨b, l, rfl, hI, hne, hl⟩
  · have HC := Lib.hid (sorted_none w)
    have HH := Lib.hid hH
    clear hH
    go_enter Try.func16, Try.ntmps16
    go_wp2_with (first
      | (go_at_call 24; refine (Try.maps_Keys_int _ _).mono ?_; rintro e w3 ⟨rfl, rfl⟩)
      | (go_at_call 23; refine HC.out.mono ?_; rintro e w4 ⟨v, rfl, hrow, hb⟩; have HR := Lib.hid hrow; have HB := Lib.hid hb; clear hrow hb))
    go_ret
    have hb1 : Below w.heap.size w (w.alloc (.cells #[.map none] 49)) := (Below.refl _ _).alloc (Nat.le_refl _) _
    exact ⟨v, [], rfl, ownsRow_mono HR.out hb1.size, List.Pairwise.nil, fun x => ⟨fun h => (by cases h), fun h => absurd (HH.out x) h⟩, hb1.trans (HB.out.mono hb1.size)⟩
  · have HC := Lib.hid (Try.slices_Sorted_int b _ _ chRaw w hI.own (by rw [Ch.dat_size]; unfold maxLen; omega) (by rw [Ch.dat_size]; omega))
    have HK : Hid (∀ x, x ∈ l.map (fun p => p.1) ↔ H x ≠ []) := fun x => by
      rw [List.mem_map]
      constructor
      · rintro ⟨⟨s, i⟩, hp, rfl⟩; exact hne s i hp
      · intro h; obtain ⟨i, hi⟩ := hI.all x h; exact ⟨_, hi, rfl⟩
    have HU : Hid ((l.map (fun p => p.1)).Pairwise (· < ·)) := List.pairwise_map.2 hI.up
    clear hI hne hl
    go_enter Try.func16, Try.ntmps16
    go_wp2_with (first
      | (go_at_call 24; refine (Try.maps_Keys_int _ _).mono ?_; rintro e w3 ⟨rfl, rfl⟩)
      | (go_at_call 23; refine HC.out.mono ?_; rintro e w4 ⟨v, ss, rfl, hp, hrow, -, hb⟩; have HR := Lib.hid hrow; have HP := Lib.hid hp; have HB := Lib.hid hb; clear hrow hb hp))
    go_ret
    have hb1 : Below w.heap.size w (w.alloc (.cells #[.map (some b)] 49)) := (Below.refl _ _).alloc (Nat.le_refl _) _
    have hp := HP.out
    rw [Ch.dat_keys] at hp
    have hr := HR.out
    rw [asc_sort hp HU.out, hp.length_eq, ints_flat] at hr
    exact ⟨v, l.map (fun p => p.1), rfl, ownsRow_mono hr hb1.size, HU.out, HK.out, hb1.trans (HB.out.mono hb1.size)⟩
end Go.Proofs.Ytlhjofcpcccdpaa
