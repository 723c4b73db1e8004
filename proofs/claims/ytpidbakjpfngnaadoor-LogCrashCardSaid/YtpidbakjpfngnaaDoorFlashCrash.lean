/-
  The walk of flashdev's Crash.
-/
import Derived.Test.YtpidbakjpfngnaaDoorFlashB
import Derived.Test.YtpidbakjpfngnaaDoorIter
set_option maxRecDepth 100000
namespace Go.Proofs.YtpidbakjpfngnaaDoor
open Go.RowKit Go.Maps

/-- Integers read through a slice, in blocks from lo on. -/
def Its (w : World) (lo : Nat) (A : Option Addr) (l : List Nat) : Prop := ∀ k, k < l.length → ∃ ad, A = some ad ∧ lo ≤ ad.block ∧ w.cell? (ad.add k) = some (.int .i64 ((l.getD k 0 : Nat) : Int))
theorem Its.kept {S : Nat → Prop} {w w' : World} {lo : Nat} {A : Option Addr} {l : List Nat} (h : Its w lo A l) (hk : Kept S w w') (hs : ∀ k, S k → k < lo) : Its w' lo A l := fun k hl => by
  obtain ⟨ad, rfl, h3, h4⟩ := h k hl
  refine ⟨ad, rfl, h3, (World.cell?_of_block (hk.block _ (World.block_lt_of_cell? _ _ h4) ?_)).trans h4⟩
  rw [add_block]
  intro hS
  have := hs _ hS
  omega
theorem own_ints {w : World} {base : Nat} {v : Value} {k : Nat} {l : List Nat} (h : w.ownsRow base 3 1 v k (ivals l)) : ∃ A cap, v = .slice A k cap ∧ Its w base A l ∧ l.length = k := by
  have hl : l.length = k := by have := h.1; unfold ivals at this; rw [List.length_map] at this; omega
  rcases h.2 with ⟨rfl, rfl⟩ | ⟨g, cap, cur, rfl, hb, hg, hnc, hcm, hsz, htk⟩
  · exact ⟨none, 0, rfl, fun j hj => absurd hj (by omega), hl⟩
  · exact ⟨_, cap, rfl, fun j hj => ⟨_, rfl, hb, h.cells (g := g) rfl j _ (ivals_at hj)⟩, hl⟩
/-- A device, opened. -/
def DevOpen (w : World) (g c m n : Nat) (s : Flash) (rest : List Value) (D : DataW Value) : Prop :=
  w.heap[g]? = some (.cells #[.slice (some ⟨c, 0, none⟩) (n * 64) (n * 64 + rest.length), .map (some m), .int .i64 (s.wr : Int), .bool s.fused, .int .i64 s.fuse, .bool s.dead] 66 (0, 0)) ∧
    w.heap[c]? = some (.cells (vals s.cur ++ rest).toArray 5 (0, 0)) ∧
    w.ownsMap Tryd.prog 3 rawElem m (Maps.size D) D ∧ OldIs D n s.old ∧ s.cur.length = n * 64 ∧ (∀ x ∈ s.cur, x < 256) ∧
    1 ≤ n ∧ n ≤ 1048576 ∧ n * 64 + rest.length ≤ 9223372036854775807 ∧ g ≠ c ∧ (s.fused = true → 0 ≤ s.fuse ∧ s.fuse ≤ 9223372036854775807)
theorem DevOpen.shut {w : World} {g c m n : Nat} {s : Flash} {rest : List Value} {D : DataW Value} (h : DevOpen w g c m n s rest D) : Dev w g c m n s := ⟨rest, D, h⟩
theorem DevOpen.row {w w' : World} {g c m n : Nat} {s : Flash} {rest : List Value} {D : DataW Value} {cur' : List Nat} (h : DevOpen w g c m n s rest D) (hk : Kept (fun k => k = c) w w') (hc' : w'.heap[c]? = some (.cells (vals cur' ++ rest).toArray 5 (0, 0))) (hl : cur'.length = n * 64) (hb : ∀ x ∈ cur', x < 256) :
    Dev w' g c m n { s with cur := cur' } := dev_row h.shut h.1 h.2.2.1 h.2.2.2.1 h.2.2.2.2.2.2.2.2.1 hk hc' hl hb
/-- 'sector', its result written out. -/
theorem sector_exact {g c n i : Nat} {rest : List Value} {a1 a2 a3 a4 a5 : Value} {w : World} (hh : Hid (w.heap[g]? = some (.cells #[.slice (some ⟨c, 0, none⟩) (n * 64) (n * 64 + rest.length), a1, a2, a3, a4, a5] 66 (0, 0)))) (hi : i < n) (hcap : n * 64 + rest.length ≤ 9223372036854775807) :
    Calls Tryd.prog 40 #[.pointer (some ⟨g, 0, none⟩), .int .i64 (i : Int)] w fun e w' => e = .returned (.slice (some ⟨c, i * 64, none⟩) 64 (n * 64 + rest.length - i * 64)) ∧ w' = w := by
  obtain ⟨⟨c0, -⟩, -⟩ := rd6 hh.out
  have hcn : ¬ (n * 64 + rest.length = i * 64) := by omega
  go_enter Tryd.func40, Tryd.ntmps40
  go_wp2
  go_ret
  exact ⟨congrArg (fun k => Ending.returned (.slice (some ⟨c, i * 64, none⟩) k (n * 64 + rest.length - i * 64))) (by omega), rfl⟩
/-- 'm[k]' at an own map whose elements read as they stand. -/
theorem wpList_lookup_raw {H : Type} {P : Program} (w : World) {ops : Array Oper} {rest : List Oper} {o : Oper} {a : Act} {Q : Exit → Act → World → Prop}
    (hg : o.guard = none) (m x : Operand) (t : TypeId) (hop : o.op = Op.lookup t m x false) (k e : TypeId) (K : Keyed P k) (ht : P.underlying t = some (.map k e)) {R : Value → Option (DataW H × List MemPlace)}
    {z : Value} (hz : (zeroValue e).run P w = .ok z w) (zd : DataW H) (zp : List MemPlace) (hzd : R z = some (zd, zp)) (b n : Nat) (D : DataW H)
    (hm : a.eval m = .map (some b)) (hown : w.ownsMap P k R b n D) (key : Value) (kl : Lit) (hx : a.eval x = key) (hkey : keyOf P k key = some kl)
    (hK : ∀ v ps, R v = some (D.atKey kl zd, ps) → wpList P ops Q rest (a.put o.dst v) w) : wpList P ops Q (o :: rest) a w := by
  refine wpList_plain hg fun K' hK' => ?_
  obtain ⟨v, ps, hrun, hv⟩ := hown.lookup K ht hz hzd hkey
  unfold Oper.wp
  simp [execOp, hop, hm, hx, hrun, Result.andThen]
  exact hK' _ _ (hK v ps hv)
/-- 's[k:]' of an array variable. -/
theorem run_slice_arr {P : Program} {t e : TypeId} {n : Nat} (ht : P.underlying t = some (.array n e)) (hsz : (P.info? e).map (·.size) = some 1) (V k : Nat) (hk : k ≤ n) :
    ∃ A, (k < n → A = some ⟨V, k, none⟩) ∧ ∀ w, (Instr.sliceAt t (.pointer (some ⟨V, 0, none⟩)) (some (.int .i64 (k : Int))) none none).run P w = .ok (.slice A (n - k) (n - k)) w := by
  refine ⟨some (if n = k then ⟨V, 0, none⟩ else (⟨V, 0, none⟩ : Addr).add k), fun h => ?_, fun w => ?_⟩
  · rw [if_neg (by omega), Addr.add_mid, Nat.zero_add]
  · cases hq : P.info? e with
    | none => simp [hq] at hsz
    | some i =>
      have hs : i.size = 1 := by simpa [hq] using hsz
      simp [Instr.sliceAt, Instr.sureAddr, Instr.sliceBounds, Instr.sliceBound, asIntOf, run_underlying ht, sizeOf, typeInfo, hq, hs, hk, Result.andThen]
/-- What a Crash leaves. -/
def Crashed (w : World) (n : Nat) (l : List Nat) (e : Ending) (w' : World) : Prop :=
  ∃ g c m, e = .returned (.pointer (some ⟨g, 0, none⟩)) ∧ Dev w' g c m n (Flash.fresh l) ∧ w.heap.size ≤ g ∧ w.heap.size ≤ c ∧ w.heap.size ≤ m ∧ Below w.heap.size w w'
/-- What holds at the head of a crash's rounds. -/
structure Rnd (w wr : World) (g1 c1 m1 n lo : Nat) (s : Flash) (keep : List Bool) (T : List (Int × Int)) (k : Nat) (l : List Nat) (A : Option Addr) (G : Nat) (L : List Nat) : Prop where
  dev : Dev wr g1 c1 m1 n (Flash.fresh l)
  done : Done n s.cur s.old keep T k l
  its : Its wr lo A (dirtyList n s.old)
  row : IRow wr G L
  below : Below w.heap.size w wr
/-- A round's frame: new blocks, and the contents. -/
theorem Rnd.next {w wr w' : World} {g1 c1 m1 n lo : Nat} {s : Flash} {keep : List Bool} {T : List (Int × Int)} {k : Nat} {l : List Nat} {A : Option Addr} {G : Nat} {L : List Nat} (h : Rnd w wr g1 c1 m1 n lo s keep T k l A G L)
    (hk : Kept (fun j => j = c1) wr w') (hG : lo ≤ G) (hc : c1 < lo) (hw : w.heap.size ≤ c1) : Its w' lo A (dirtyList n s.old) ∧ IRow w' G L ∧ Below w.heap.size w w' := by
  have hlt : G < wr.heap.size := (Array.getElem?_eq_some_iff.1 h.row).1
  refine ⟨h.its.kept hk (fun j e => by omega), (hk.block G hlt (by omega)).trans h.row, h.below.trans ?_⟩
  exact hk.below h.below.size (fun j e => by omega)
theorem Bls.up {w : World} {B C : Nat} {A : Option Addr} {l : List Bool} (h : Bls w B A l) (hB : B ≤ C) : Bls w C A l := fun k hk => by
  obtain ⟨ad, h2, h3, h4⟩ := h k hk
  exact ⟨ad, h2, by omega, h4⟩
theorem Trs.up {w : World} {B C : Nat} {A : Option Addr} {l : List (Int × Int)} (h : Trs w B A l) (hB : B ≤ C) : Trs w C A l := fun k hk => by
  obtain ⟨ad, h2, h3, h4⟩ := h k hk
  exact ⟨ad, h2, by omega, h4⟩
theorem old_look_some {D : DataW Value} {n i : Nat} {old : Nat → Option (List Nat)} (h : OldIs D n old) (hi : i < n) {l : List Nat} (ho : old i = some l) {v : Value} {ps : List MemPlace} (hv : rawElem v = some (D.atKey (.int .i64 (i : Int)) (.held (oldVal (List.replicate 64 0))), ps)) :
    v = .agg (vals l).toArray := by
  have := old_look h hi hv
  rw [ho] at this
  exact this
/-- The keys of the old sectors, sorted, in a row of the call's own. -/
theorem sorted_row {w w4 : World} {n N b base : Nat} {D : DataW Value} {old : Nat → Option (List Nat)} {v : Value} {ss : List Int} (hm : w.ownsMap Tryd.prog 3 rawElem b N D) (ho : OldIs D n old) (hS : ss.Perm (intKeys D))
    (hrow : w4.ownsRow base 3 1 v ss.length ((ss.mergeSort (fun x y => decide (x ≤ y))).map encZ)) : ∃ A cap nd, v = .slice A nd cap ∧ Hid (nd = (dirtyList n old).length) ∧ Its w4 base A (dirtyList n old) := by
  have hp := (size_dirty hm ho).1
  have hlen : ss.length = (dirtyList n old).length := by
    have h1 := hS.length_eq
    have h2 := hp.length_eq
    rw [List.length_map] at h2
    omega
  rw [sorted_dirty hp hS, List.map_map] at hrow
  have e : (dirtyList n old).map (encZ ∘ fun i : Nat => (i : Int)) = ivals (dirtyList n old) := rfl
  rw [e] at hrow
  obtain ⟨A, cap, rfl, h2, h3⟩ := own_ints hrow
  exact ⟨A, cap, ss.length, rfl, hlen, h2⟩
section
variable {g c m n : Nat} {s : Flash} {w : World}
set_option maxHeartbeats 2000000 in
theorem crash_any (Ak At : Option Addr) (nk ck nt ct : Nat) (keep : List Bool) (T : List (Int × Int)) (hnt : nt ≤ 9223372036854775807) (hlk : Hid (keep.length = nk)) (hlt : Hid (T.length = nt))
    (hbk : Hid (Bls w w.heap.size Ak keep)) (hbt : Hid (Trs w w.heap.size At T)) (hd : Hid (Dev w g c m n s)) :
    Calls Tryd.prog 24 #[.pointer (some ⟨g, 0, none⟩), .slice Ak nk ck, .slice At nt ct] w (Crashed w n (crashed n s.cur s.old keep T)) := by
  have hn := hd.out.n_le
  have HCL : Hid (s.cur.length = n * 64) := hd.out.cur_len
  have HCB : Hid (Bs w w.heap.size (some ⟨c, 0, none⟩) s.cur) := hd.out.bytes
  obtain ⟨rest, D, hh, hc, hm, ho, hl, hb, hn1, hn2, hcap, hgc, hfu⟩ := hd.out
  obtain ⟨⟨f0, f1, -⟩, -⟩ := rd6 hh
  have HM := Lib.hid (And.intro hm ho)
  have HSZ : Hid (Maps.size D ≤ n) := by rw [(size_dirty hm ho).2]; exact dirty_le n s.old
  have hgl := hd.out.lt.1
  clear hh hc hm ho hl hb hfu
  go_enter Tryd.func24, Tryd.ntmps24
  go_wp2_with (first
    | (go_at_call 36; refine (clone_any _ _ _ _ _ _ (fun e => by cases e) HCL (by omega) HCB).mono ?_; rintro e w1 ⟨v1, rfl, hown1, hb1⟩
       obtain ⟨c1, rest1, rfl, hc1, hrow1, hl1, hm1⟩ := own_block hown1 (by omega)
       have HC := Lib.hid (And.intro hrow1 (And.intro hl1 (show n * 64 + rest1.length ≤ 9223372036854775807 from hm1))); clear hown1 hrow1 hl1 hm1
       have HB1 := Lib.hid hb1; clear hb1)
    | (go_at_call 26; refine (holding_any c1 n _ s.cur rest1 _ HC.out.1 rfl HCL HCB.out.lt hn1 hn2 HC.out.2.2).mono ?_; rintro e w2 ⟨g1, m1, rfl, hd2, hg1, hm1, hb2⟩
       have HB2 : Hid (Below w.heap.size w w2) := HB1.out.trans (hb2.mono HB1.out.size)
       have HD2 := Lib.hid hd2; clear hd2 hb2
       have q1 := (HB2.out.cell (p := ⟨g, 1, none⟩) hgl).trans f1)
    | (go_at_call 38; refine (Tryd.maps_Keys_int _ _).mono ?_; rintro e w3 ⟨rfl, rfl⟩)
    | (go_at_call 37; refine (Tryd.slices_Sorted_int m _ D rawElem w2 (ownsMap_block HM.out.1 (HB2.out.block m HM.out.1.lt)) (by have := HSZ.out; unfold maxLen; omega) (by have := HSZ.out; omega)).mono ?_; rintro e w4 ⟨v4, ss, rfl, hS, hrow, hnil, hb4⟩
       obtain ⟨A, capD, nd, rfl, HND, hits⟩ := sorted_row HM.out.1 HM.out.2 hS hrow
       have hnd : nd ≤ n := by rw [HND.out]; exact dirty_le n s.old
       have HB4 : Hid (Below w2.heap.size w2 w4) := ((Below.refl _ w2).alloc (Nat.le_refl _) _).trans (hb4.mono (by simp))
       have HI4 : Hid (Its w4 (w2.heap.size + 1) A (dirtyList n s.old)) := fun k hk => by
         obtain ⟨ad, e1, e2, e3⟩ := hits k hk
         exact ⟨ad, e1, by simpa using e2, e3⟩
       have HS4 : Hid (w2.heap.size + 1 ≤ w4.heap.size) := Lib.hid (by have := hb4.size; simpa using this)
       have HW4 : Hid (Below w.heap.size w w4) := HB2.out.trans (HB4.out.mono HB2.out.size)
       have HK4 : Hid (Bls w4 w4.heap.size Ak keep) := (hbk.out.below HW4.out (Nat.le_refl _)).up HW4.out.size
       have HT4 : Hid (Trs w4 w4.heap.size At T) := (hbt.out.below HW4.out (Nat.le_refl _)).up HW4.out.size
       clear hS hrow hnil hb4 hits)
    | (go_at_call 39; refine (survivors_any nd (by omega) Ak At nk ck nt ct keep T _ hnt hlk hlt HK4 HT4).mono ?_; rintro e w5 ⟨G, L, rfl, hG, hrow5, hLl, hLg, hb5⟩
       have HR5 : Hid (Rnd w w5 g1 c1 m1 n (w2.heap.size + 1) s keep T 0 s.cur A G L) :=
         ⟨(HD2.out.below HB4.out HD2.out.lt.1 HD2.out.lt.2.1 HD2.out.lt.2.2).below hb5 (Nat.lt_of_lt_of_le HD2.out.lt.1 HB4.out.size) (Nat.lt_of_lt_of_le HD2.out.lt.2.1 HB4.out.size) (Nat.lt_of_lt_of_le HD2.out.lt.2.2 HB4.out.size),
          done_start HCL.out HCB.out.lt, fun k hk => by
            obtain ⟨ad, e1, e2, e3⟩ := HI4.out k hk
            exact ⟨ad, e1, e2, (World.cell?_of_block (hb5.block _ (World.block_lt_of_cell? _ _ e3))).trans e3⟩,
          hrow5, HW4.out.trans (hb5.mono HW4.out.size)⟩
       have HLG : Hid (w2.heap.size + 1 ≤ G ∧ L.length = nd ∧ (∀ j, j < nd → L.getD j 0 = keptBy keep T j) ∧ c1 < w2.heap.size + 1 ∧ w.heap.size ≤ c1) := ⟨Nat.le_trans HS4.out hG, hLl, hLg, Nat.lt_succ_of_lt HD2.out.lt.2.1, by assumption⟩
       clear hrow5 hG hLl hLg hb5))
  clear HK4 HT4 HI4
  go_loopw [34] (fun iv wr => ∃ (k : Nat) (l : List Nat), k ≤ nd ∧ iv = .int .i64 (k : Int) ∧ Hid (Rnd w wr g1 c1 m1 n (w2.heap.size + 1) s keep T k l A G L)) (fun iv _ => nd - (RowKit.intOf iv).toNat)
  case atStart => exact ⟨0, s.cur, Nat.zero_le _, rfl, HR5⟩
  case round =>
    clear HR5
    obtain ⟨k, l, hk, rfl, hR⟩ := hrel
    by_cases hkn : k < nd
    · obtain ⟨adA, rfl, hloA, hcell⟩ := hR.out.its k (by rw [← HND.out]; exact hkn)
      have hrk := dirty_rank s.old n k (by rw [← HND.out]; exact hkn)
      generalize hi : (dirtyList n s.old).getD k 0 = i at hcell hrk
      obtain ⟨hin, hos, -⟩ := hrk
      obtain ⟨lo, hlo⟩ := Option.isSome_iff_exists.1 hos
      have HLO := Lib.hid (And.intro hlo (And.intro (HM.out.2.len i lo hlo) hi)); clear hlo hi hos
      have hLk := HLG.out.2.2.1 k hkn
      obtain ⟨hcL, -⟩ := hR.out.row.cell (j := k) (by rw [HLG.out.2.1]; exact hkn)
      generalize L.getD k 0 = x at hcL hLk
      have hx64 : x ≤ 64 := by rw [hLk]; exact keptBy_le keep T k
      have HX := Lib.hid hLk; clear hLk
      have q2 := (hR.out.below.cell (p := ⟨g, 1, none⟩) hgl).trans f1
      have HMr : Hid (wr.ownsMap Tryd.prog 3 rawElem m (Maps.size D) D) := ownsMap_block HM.out.1 (hR.out.below.block m HM.out.1.lt)
      have HK : Hid (keyOf Tryd.prog 3 (.int .i64 (i : Int)) = some (.int .i64 (i : Int))) := keyInt i (by omega)
      have HI : Hid ((Tryd.prog.info? 5).map (·.size) = some 1 ∧ (Tryd.prog.info? 76).map (·.size) = some (vals lo).length ∧ (vals lo).length = 64) :=
        ⟨by kernel_rfl, by rw [vals_length, HLO.out.2.1.1]; exact size64, by rw [vals_length, HLO.out.2.1.1]⟩
      go_wp2_with (first
        | (at_lookup; refine wpList_lookup_raw _ rfl _ _ 64 rfl 3 76 lawI Tryd.underlying64 (zero64 _) (.held (oldVal (List.replicate 64 0))) [] rfl m _ D rfl HMr.out _ _ rfl HK.out ?_; intro v ps hv; obtain rfl := old_look_some HM.out.2 hin HLO.out.1 hv; clear hv)
        | (with_reducible refine wpList_store_var rfl 76 (.tmp 12) (.tmp 44) rfl wr.heap.size (vals lo) rfl rfl 76 ?_ HI.out.2.1 (vals_one _) ?_
           · exact ⟨_, heap_alloc_new _ _, by rw [HI.out.2.2]; rfl⟩
           intro wa hwa hka))
      have ka : Kept (fun j => j = wr.heap.size) wr wa := (Kept.alloc wr _).trans hka
      obtain ⟨d1, d2, d3⟩ := hR.out.dev.lt
      have HRa : Hid (Rnd w wa g1 c1 m1 n (w2.heap.size + 1) s keep T k l (some adA) G L ∧ wa.heap[wr.heap.size]? = some (.cells (vals lo).toArray 76 (0, 0)) ∧ wr.heap.size ≠ c1) := by
        have k0 : Kept (fun j => j = c1) wr wa := ka.mono (fun j h e => absurd h (by omega))
        obtain ⟨r1, r2, r3⟩ := hR.out.next k0 HLG.out.1 HLG.out.2.2.2.1 HLG.out.2.2.2.2
        exact ⟨⟨hR.out.dev.kept ka (by omega) (by omega) (by omega), hR.out.done, r1, r2, r3⟩, hwa, by omega⟩
      clear hwa hka ka HMr q2 hcell hcL
      obtain ⟨hcL, -⟩ := HRa.out.1.row.cell (j := k) (by rw [HLG.out.2.1]; exact hkn)
      have hLk : L.getD k 0 = x := by rw [HLG.out.2.2.1 k hkn]; exact HX.out.symm
      rw [hLk] at hcL
      clear hLk
      obtain ⟨restr, Dr, hopen⟩ := HRa.out.1.dev
      have HV : Hid (DevOpen wa g1 c1 m1 n (Flash.fresh l) restr Dr) := hopen
      have hcapr := HV.out.2.2.2.2.2.2.2.2.1
      clear hopen
      obtain ⟨A1, hA1, hr1⟩ := run_slice_tail (P := Tryd.prog) Tryd.underlying28 HI.out.1 c1 (i * 64) 64 (n * 64 + restr.length - i * 64) x hx64 (by omega)
      obtain ⟨A2, hA2, hr2⟩ := run_slice_arr (P := Tryd.prog) Tryd.underlying76 HI.out.1 wr.heap.size x hx64
      have HA := Lib.hid (And.intro hA1 hA2); clear hA1 hA2
      refine wp_region_still_tail 13 (by kernel_rfl) (by kernel_rfl) ?_
      simp only [List.take_succ_cons, List.take_zero, List.drop_succ_cons, List.drop_zero]
      iterate 2 still_step
      still_call (sector_exact (i := i) (rest := restr) HV.out.1 hin hcapr)
      iterate 10 still_step
      refine wpStill_nil ?_
      clear hr1 hr2 hcL
      change wpList _ _ _ _ _ wa.drew
      have HRb : Hid (Rnd w wa.drew g1 c1 m1 n (w2.heap.size + 1) s keep T k l (some adA) G L ∧ wa.drew.heap[wr.heap.size]? = some (.cells (vals lo).toArray 76 (0, 0)) ∧ wr.heap.size ≠ c1) :=
        ⟨⟨HRa.out.1.dev, HRa.out.1.done, HRa.out.1.its, HRa.out.1.row, HRa.out.1.below.drew⟩, HRa.out.2.1, HRa.out.2.2⟩
      have HV2 : Hid (DevOpen wa.drew g1 c1 m1 n (Flash.fresh l) restr Dr) := HV
      generalize wa.drew = wb at HRb HV2 ⊢
      clear HRa HV hR
      have HC2 : Hid (wb.heap[c1]? = some (.cells (vals l ++ restr).toArray 5 (0, 0)) ∧ l.length = n * 64) := ⟨HV2.out.2.1, HV2.out.2.2.2.2.1⟩
      have HD : Hid ((vals (lo.drop x)).length = 64 - x ∧ (vals (lo.drop x)).length = Nat.min (64 - x) (64 - x)) := by
        have h1 := HI.out.2.2
        rw [vals_length] at h1
        constructor
        · rw [vals_length, List.length_drop, h1]
        · rw [vals_length, List.length_drop, h1]; exact (Nat.min_self _).symm
      go_wp2_with (first
        | (with_reducible refine wpList_copy_into rfl (.tmp 52) (.tmp 57) 28 28 rfl 5 Tryd.underlying28 HI.out.1 A1 A2 (64 - x) (n * 64 + restr.length - i * 64 - x) (64 - x) (64 - x) rfl rfl c1 (i * 64 + x) (vals l ++ restr) 5 HC2.out.1 (vals (lo.drop x)) HD.out.2 ?_ ?_ (vals_one _) (64 - x) HD.out.1 ?_
           · intro hp
             rw [HD.out.1] at hp
             refine ⟨HA.out.1 (by omega), _, HA.out.2 (by omega), fun j v hv => ?_⟩
             rw [add_flat, cell_of_row wb wr.heap.size (x + j) _ _ _ HRb.out.2.1, List.getElem?_toArray]
             unfold vals at hv ⊢
             rw [List.getElem?_map, List.getElem?_drop] at hv
             rw [List.getElem?_map]
             exact hv
           · rw [HD.out.1, List.length_append, vals_length, HC2.out.2]
             omega
           intro wc hwc hkc))
      have hl64 : lo.length = 64 := HLO.out.2.1.1
      have hx : x = keptBy keep T k := HX.out
      rw [splice_torn HC2.out.2 hin hx64 hl64] at hwc
      obtain ⟨r1, r2, r3⟩ := HRb.out.1.next hkc HLG.out.1 HLG.out.2.2.2.1 HLG.out.2.2.2.2
      have hdn := done_next HRb.out.1.done (by rw [← HND.out]; exact hkn) HLO.out.2.2 HLO.out.1 HLO.out.2.1
      rw [← hx] at hdn
      have hdev : Dev wc g1 c1 m1 n (Flash.fresh (putSec l i (tornSec l i x lo))) := HV2.out.row hkc hwc hdn.len hdn.lt
      go_roundw
      case rel => exact ⟨k + 1, _, by omega, by go_num, ⟨hdev, hdn, r1, r2, r3⟩⟩
      case measure => simp [RowKit.intOf]; omega
    · go_wp2
      go_ret
      obtain rfl : k = nd := by omega
      have hs1 := HB1.out.size
      have e := done_end hR.out.done HND.out
      refine ⟨g1, c1, m1, rfl, ?_, Nat.le_trans hs1 hg1, by assumption, Nat.le_trans hs1 hm1, hR.out.below⟩
      rw [← e]
      exact hR.out.dev
end
end Go.Proofs.YtpidbakjpfngnaaDoor
