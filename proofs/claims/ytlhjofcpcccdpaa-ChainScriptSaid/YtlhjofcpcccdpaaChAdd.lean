/-
  The walk of Add.
-/
import Derived.Test.YtlhjofcpcccdpaaChNew
import Derived.Test.YtlhjofcpcccdpaaSetAt
import Derived.Test.YtlhjofcpcccdpaaHold
set_option maxRecDepth 100000
namespace Go.Proofs.Ytlhjofcpcccdpaa
open Go.RowKit Go.Maps
theorem own_made (w : World) (R : Value → Option (DataW Value × List MemPlace)) : (w.alloc (.map #[] 0)).ownsMap Try.prog 3 R w.heap.size 0 (.map []) := World.ownsMap_made w _ _ R
/-- 'm[k] = v' at an operation. -/
theorem op_update_own {P : Program} {w : World} {o : Oper} {a : Act} {K : Act → World → Prop} {Q : Exit → Act → World → Prop} (m x v : Operand) (t : TypeId) (hop : o.op = Op.mapUpdate t m x v) (k e : TypeId) (Kd : Keyed P k) (ht : P.underlying t = some (.map k e)) (R : Value → Option (DataW Value × List MemPlace)) (b n : Nat) (D : DataW Value)
    (hm : a.eval m = .map (some b)) (hown : w.ownsMap P k R b n D) (hn : n < maxLen) (key val : Value) (kl : Lit) (hx : a.eval x = key) (hv : a.eval v = val) (hkey : keyOf P k key = some kl) (d : DataW Value) (ps : List MemPlace) (hval : R val = some (d, ps))
    (h : ∀ w', w'.ownsMap P k R b (n + 1) (D.put kl d) → w.grownBy w' (some b) → K (a.put o.dst undef) w') : o.wp P a w K Q := by
  obtain ⟨w', hrun, r1, r2⟩ := hown.update Kd ht hn hkey hval
  unfold Oper.wp
  simp [execOp, hop, hm, hx, hv, hrun, Result.andThen]
  exact h w' r1 r2
/-- The chain has its map of regions. -/
def Add1 (M : Nat) (S : Nat → Prop) (q : Nat) (H : Int → List Ch.It) (w w1 : World) : Prop :=
  ∃ b l, Kept S w w1 ∧ w1.heap[q]? = some (.cells #[.map (some b)] 51 (0, 0)) ∧ Idx w1 (Snc S w w1) q b l H ∧ (∀ s i, (s, i) ∈ l → H s ≠ []) ∧ l.length ≤ M
/-- The region has its map of items. -/
def Add2 (M : Nat) (S : Nat → Prop) (q : Nat) (H : Int → List Ch.It) (s : Int) (w w2 : World) : Prop :=
  ∃ b l i, Kept S w w2 ∧ w2.heap[q]? = some (.cells #[.map (some b)] 51 (0, 0)) ∧ Idx w2 (Snc S w w2) q b l H ∧ (s, i) ∈ l ∧ (∀ t j, (t, j) ∈ l → t ≠ s → H t ≠ []) ∧ l.length ≤ M + 1
/-- What Add leaves. -/
def ChAdd (M : Nat) (S : Nat → Prop) (q : Nat) (H : Int → List Ch.It) (s o : Int) (k : ByteArray) (w : World) (e : Ending) (w' : World) : Prop :=
  e = .returned (.tuple #[]) ∧ Kept S w w' ∧ Chn (M + 1) w' (Snc S w w') q (Ch.add H s o k)
theorem Snc.up {S : Nat → Prop} {w w1 w2 : World} {k : Nat} (h1 : w.heap.size ≤ w1.heap.size) (h2 : w1.heap.size ≤ w2.heap.size) (h : Snc (Snc S w w1) w1 w2 k) : Snc S w w2 k := by
  rcases h with (h | h) | h
  · exact .inl h
  · exact .inr ⟨h.1, Nat.lt_of_lt_of_le h.2 h2⟩
  · exact .inr ⟨Nat.le_trans h1 h.1, h.2⟩
theorem Kept.snc {S : Nat → Prop} {w w1 w2 : World} (h : Kept S w w1) (k : Kept (Snc S w w1) w1 w2) : Kept S w w2 := h.trans' k fun i hi hlt => hi.elim id fun hi => by omega
theorem add1_first {M : Nat} {S : Nat → Prop} {q : Nat} {H : Int → List Ch.It} {w : World} (hS : S q) (hq : w.heap[q]? = some (.cells #[.map none] 51 (0, 0))) (hH : ∀ s, H s = []) : Add1 M S q H w ((w.alloc (.map #[] 0)).setCell ⟨q, 0, none⟩ (.map (some w.heap.size))) := by
  have hlt := (Array.getElem?_eq_some_iff.1 hq).1
  have hb : Below w.heap.size w (w.alloc (.map #[] 0)) := (Below.refl _ _).alloc (Nat.le_refl _) _
  have hq1 : (w.alloc (.map #[] 0)).heap[q]? = some (.cells #[.map none] 51 (0, 0)) := (hb.block q hlt).trans hq
  have hsz : (w.alloc (.map #[] 0)).heap.size = w.heap.size + 1 := by simp
  have hsz2 : ((w.alloc (.map #[] 0)).setCell ⟨q, 0, none⟩ (.map (some w.heap.size))).heap.size = w.heap.size + 1 := by rw [← hsz]; simp [World.setCell]
  refine ⟨w.heap.size, [], (Kept.of_new hb : Kept S w _).trans (Kept.setCell _ _ _ hS), one_set hq1 _, Idx.first hH ?_ (.inr ⟨Nat.le_refl _, by omega⟩) (by omega), fun _ _ h => (by cases h), Nat.zero_le _⟩
  exact own_block (own_made w _) (set_past rfl (by omega) 0 _)
theorem add2_more {M : Nat} {S : Nat → Prop} {q b : Nat} {H : Int → List Ch.It} {s : Int} {l : List (Int × Nat)} {w w1 w2 : World} {N : Nat} (hk : Kept S w w1) (hq : w1.heap[q]? = some (.cells #[.map (some b)] 51 (0, 0))) (hi : Idx w1 (Snc S w w1) q b l H) (hne : ∀ s i, (s, i) ∈ l → H s ≠ []) (hl : l.length ≤ M) (hs : ∀ i, (s, i) ∉ l)
    (hw : w2.ownsMap Try.prog 3 chRaw b N ((Ch.dat fO l).put (.int .i64 s) (fO w1.heap.size))) (hg : (w1.alloc (.map #[] 0)).grownBy w2 (some b)) : Add2 M S q H s w w2 := by
  have hlt := (Array.getElem?_eq_some_iff.1 hq).1
  have hb : Below w1.heap.size w1 (w1.alloc (.map #[] 0)) := (Below.refl _ _).alloc (Nat.le_refl _) _
  have hk2 : Kept (Snc S w w1) w1 w2 := (Kept.of_new hb : Kept (Snc S w w1) w1 _).trans (Kept.of_grown hg fun k e => Option.some.inj e ▸ hi.ib)
  refine ⟨b, Ch.pt s w1.heap.size l, w1.heap.size, hk.snc hk2, ?_, (hi.more hlt hs hb (own_made w1 _) hw hg).mono fun k _ h => Snc.up hk.size hk2.size h, Ch.mem_pt.2 (.inl rfl), fun t j hj hts => ?_, Nat.le_trans (Ch.pt_le _ _ _) (Nat.succ_le_succ hl)⟩
  · exact (hg.block q (Nat.lt_of_lt_of_le hlt hb.size) fun e => hi.ne (Option.some.inj e).symm).trans ((hb.block q hlt).trans hq)
  · rcases Ch.mem_pt.1 hj with e | ⟨m, -⟩
    · exact absurd (Prod.mk.inj e).1 hts
    · exact hne t j m
theorem add3 {M : Nat} {S : Nat → Prop} {q b i : Nat} {H : Int → List Ch.It} {s o : Int} {k : ByteArray} {l : List (Int × Nat)} {w w2 w3 w4 : World} {N : Nat} (hG : Good M H) (hS : S q) (hks : k.size ≤ 1048576) (hk : Kept S w w2) (hq : w2.heap[q]? = some (.cells #[.map (some b)] 51 (0, 0))) (hi : Idx w2 (Snc S w w2) q b l H) (hil : (s, i) ∈ l) (hne : ∀ t j, (t, j) ∈ l → t ≠ s → H t ≠ []) (hl : l.length ≤ M + 1)
    (hb : Below w2.heap.size w2 w3) (hw : w4.ownsMap Try.prog 3 chStr i N ((Ch.dat fI (H s)).put (.int .i64 o) (fI k))) (hg : w3.grownBy w4 (some i)) : ChAdd M S q H s o k w (.returned (.tuple #[])) w4 := by
  have hlt := (Array.getElem?_eq_some_iff.1 hq).1
  obtain ⟨g1, g2, g3, g4⟩ := hi.blk s i hil
  have hk3 : Kept (Snc S w w2) w2 w4 := (Kept.of_new hb : Kept (Snc S w w2) w2 w3).trans (Kept.of_grown hg fun k e => Option.some.inj e ▸ g1)
  rw [Ch.dat_put] at hw
  refine ⟨rfl, hk.snc hk3, some b, .inl hS, ?_, ⟨Ch.add_up hG.up s o k, fun t => ?_, fun t p hp => ?_⟩, .inr ⟨b, l, rfl, ((hi.next hb).inner hil hw hg).mono fun k _ h => Snc.up hk.size hk3.size (.inl h), fun t j hj => ?_, hl⟩⟩
  · exact (hg.block q (Nat.lt_of_lt_of_le hlt hb.size) fun e => g2 (Option.some.inj e).symm).trans ((hb.block q hlt).trans hq)
  · unfold Ch.add
    split
    · exact Nat.le_trans (Ch.pt_le _ _ _) (Nat.succ_le_succ (hG.le s))
    · exact Nat.le_succ_of_le (hG.le t)
  · unfold Ch.add at hp
    split at hp
    · rcases Ch.mem_pt.1 hp with rfl | ⟨hp, -⟩
      · exact hks
      · exact hG.small s p hp
    · exact hG.small t p hp
  · unfold Ch.add
    split
    · exact Ch.pt_ne _ _ _
    · rename_i hne2
      exact hne t j hj hne2
set_option maxHeartbeats 2000000 in
theorem chadd_any (M q : Nat) (s o : Int) (k : ByteArray) (H : Int → List Ch.It) (S : Nat → Prop) (w : World) (hM : M ≤ 1000000) (hks : k.size ≤ 1048576) (hs : (Lit.int .i64 s).wf = true) (ho : (Lit.int .i64 o).wf = true) (hT : Chn M w S q H) :
    Calls Try.prog 7 #[.pointer (some ⟨q, 0, none⟩), .int .i64 s, .int .i64 o, .string k] w (ChAdd M S q H s o k w) := by
  obtain ⟨mb, hS, hq, hG, hT⟩ := hT
  have hmm := @run_makeMap Try.prog
  have HG := Lib.hid hG
  have HS := Lib.hid hS
  have HKS := Lib.hid hks
  have HO := Lib.hid ho
  have HSW := Lib.hid hs
  have c0 := one_cell_of hq
  have hcmp : ∀ W : World, (binOp .eql 49 (.map mb) (.map none)).run Try.prog W = .ok (.bool mb.isNone) W := fun W => by cases mb <;> kernel_rfl
  clear hG hS hks ho hs
  go_enter Try.func7, Try.ntmps7
  go_upto_if 14 with fail
  go_cut [0] (fun s0 wx => s0 = .pointer (some ⟨q, 0, none⟩) ∧ Hid (Add1 M S q H w wx))
  case first =>
    rcases hT with ⟨rfl, hH⟩ | ⟨b, l, rfl, hI, hne, hl⟩
    · have HE := Lib.hid (add1_first (M := M) HS.out hq hH)
      have f0 : (w.alloc (.map #[] 0)).frozen? ⟨q, 0, none⟩ = false := frozen_of_row _ q _ _ _ (((Below.refl w.heap.size w).alloc (Nat.le_refl _) (.map #[] 0)).block q (Array.getElem?_eq_some_iff.1 hq).1 |>.trans hq)
      have d0 : (w.alloc (.map #[] 0)).cell? ⟨q, 0, none⟩ = some (.map none) := one_cell_of (((Below.refl w.heap.size w).alloc (Nat.le_refl _) (.map #[] 0)).block q (Array.getElem?_eq_some_iff.1 hq).1 |>.trans hq)
      clear hH hq
      go_wp2_with fail
      go_meet
      exact ⟨rfl, HE⟩
    · have HE : Hid (Add1 M S q H w w) := ⟨b, l, Kept.refl _ _, hq, hI.mono fun k _ h => .inl h, hne, hl⟩
      clear hI hne hl hq
      go_wp2_with fail
      go_meet
      exact ⟨rfl, HE⟩
  case rest =>
    obtain ⟨rfl, h1⟩ := hcut
    obtain ⟨b, l, hk, hq1, hI, hne, hl⟩ := h1.out
    generalize wc = w1 at *
    have c1 := one_cell_of hq1
    obtain ⟨mi, hlk, hmi⟩ : ∃ mi : Option Nat, (∀ W, W.heap[b]? = w1.heap[b]? → (Instr.lookup 49 (.map (some b)) (.int .i64 s) false).run Try.prog W = .ok (.map mi) W) ∧ ((∃ i, mi = some i ∧ (s, i) ∈ l) ∨ (mi = none ∧ ∀ i, (s, i) ∉ l)) := by
      rcases hI.look HSW.out with ⟨i, h1, h2⟩ | ⟨h1, -, h2⟩
      · exact ⟨_, h2, .inl ⟨i, rfl, h1⟩⟩
      · exact ⟨_, h2, .inr ⟨rfl, h1⟩⟩
    have hlk1 := hlk w1 rfl
    have hcmp2 : ∀ W : World, (binOp .eql 52 (.map mi) (.map none)).run Try.prog W = .ok (.bool mi.isNone) W := fun W => by cases mi <;> kernel_rfl
    clear hcmp hlk hT h1 c0
    go_upto_if 25 with fail
    clear hlk1 hcmp2
    go_cut [0] (fun s0 wx => s0 = .pointer (some ⟨q, 0, none⟩) ∧ Hid (Add2 M S q H s w wx))
    case first =>
      rcases hmi with ⟨i, rfl, hil⟩ | ⟨rfl, hno⟩
      · have HE : Hid (Add2 M S q H s w w1) := ⟨b, l, i, hk, hq1, hI, hil, fun t j hj _ => hne t j hj, Nat.le_succ_of_le hl⟩
        clear hI hne hl hq1 hk hil
        go_wp2_with fail
        go_meet
        exact ⟨rfl, HE⟩
      · have HE := Lib.hid (fun w2 N => add2_more (w2 := w2) (N := N) hk hq1 hI hne hl hno)
        have HOW : Hid ((w1.alloc (.map #[] 0)).ownsMap Try.prog 3 chRaw b l.length (Ch.dat fO l)) := hI.own.alloc _
        have HNM : Hid (l.length < maxLen) := by show _ < _; unfold maxLen; omega
        clear hI hne hl hq1 hk hno
        go_wp2_with (at_mapUpdate; refine wpList_mapUpdate_own _ rfl _ _ _ 49 rfl 3 52 chLaw Try.underlying49 chRaw b _ _ rfl HOW.out HNM.out (.int .i64 s) (.map (some w1.heap.size)) (.int .i64 s) rfl rfl (chKey HSW.out) (fO w1.heap.size) [] rfl ?_; intro w2 hown2 hg2; have HE2 := Lib.hid (HE.out _ _ hown2 hg2); clear hown2 hg2)
        go_meet
        exact ⟨rfl, HE2⟩
    case rest =>
      obtain ⟨rfl, h2⟩ := hcut
      obtain ⟨b, l, i, hk, hq2, hI, hil, hne, hl⟩ := h2.out
      generalize wc = w2 at *
      have HKS2 := HKS.out
      have hlk0 : ∀ W : World, W.heap[q]? = w2.heap[q]? → W.heap[b]? = w2.heap[b]? → W.cell? ⟨q, 0, none⟩ = some (.map (some b)) ∧ (Instr.lookup 49 (.map (some b)) (.int .i64 s) false).run Try.prog W = .ok (.map (some i)) W := by
        rcases hI.look HSW.out with ⟨i', h1, h2⟩ | ⟨h1, -, h2⟩
        · obtain rfl := Ch.up_one hI.up hil h1
          exact fun W hW hW2 => ⟨one_cell_of (hW.trans hq2), h2 W hW2⟩
        · exact absurd hil (h1 i)
      have hql := (Array.getElem?_eq_some_iff.1 hq2).1
      have hbl := hI.own.lt
      obtain ⟨-, hiq, hib, -⟩ := hI.blk s i hil
      have HLK : Hid (∀ W, Below w2.heap.size w2 W → W.cell? ⟨q, 0, none⟩ = some (.map (some b)) ∧ (Instr.lookup 49 (.map (some b)) (.int .i64 s) false).run Try.prog W = .ok (.map (some i)) W) := fun W hW => hlk0 W (hW.block q hql) (hW.block b hbl)
      have HLK2 : Hid (∀ W W', Below w2.heap.size w2 W → W.grownBy W' (some i) → W'.cell? ⟨q, 0, none⟩ = some (.map (some b)) ∧ (Instr.lookup 49 (.map (some b)) (.int .i64 s) false).run Try.prog W' = .ok (.map (some i)) W') := fun W W' hW hg =>
        hlk0 W' ((hg.block q (Nat.lt_of_lt_of_le hql hW.size) fun e => hiq (Option.some.inj e).symm).trans (hW.block q hql)) ((hg.block b (Nat.lt_of_lt_of_le hbl hW.size) fun e => hib (Option.some.inj e).symm).trans (hW.block b hbl))
      have HFIN : Hid (∀ w3 w4 N, Below w2.heap.size w2 w3 → w4.ownsMap Try.prog 3 chStr i N ((Ch.dat fI (H s)).put (.int .i64 o) (fI k)) → w3.grownBy w4 (some i) → ChAdd M S q H s o k w (.returned (.tuple #[])) w4) := fun w3 w4 N h1 h2 h3 => add3 HG.out HS.out HKS.out hk hq2 hI hil hne hl h1 h2 h3
      have HOWN : Hid (∀ W, Below w2.heap.size w2 W → W.ownsMap Try.prog 3 chStr i (H s).length (Ch.dat fI (H s))) := fun W hW => own_block (hI.blk s i hil).2.2.2 (hW.block i (hI.blk s i hil).2.2.2.lt)
      have HNM : Hid ((H s).length < maxLen) := by show _ < _; have := HG.out.le s; unfold maxLen; omega
      have HBa : Hid (Below w2.heap.size w2 w2.drew) := ⟨rfl, rfl, rfl, Nat.le_refl _, fun _ _ => rfl⟩
      clear hk hq2 hI hil hne hl h2 hmi c1 hlk0 hql hbl hiq hib
      go_upto_region 5 with fail
      refine wp_region_held_drew (S := fun W => W.cell? ⟨q, 0, none⟩ = some (.map (some b)) ∧ (Instr.lookup 49 (.map (some b)) (.int .i64 s) false).run Try.prog W = .ok (.map (some i)) W) (by kernel_rfl) (HLK.out _ HBa.out) (fun hH => ?_)
      change wpAnyH _ _ _ _ _ 10 #[false, false, false, false, false, false, false, false, false, false] _ _
      clear hH
      generalize w2.drew = wa at *
      refine held_take (i := 0) (v := ?_) (d := some 32) rfl rfl (by kernel_rfl) (by kernel_rfl) (by kernel_rfl) (fun _ _ _ h => h) (HLK.out _ HBa.out) ⟨?_, fun w hSw => ?_⟩ ?_
      rotate_left 1
      · rfl
      · (go_simp; all_goals with_reducible rfl)
      simp only [Act.put, List.setIfInBounds_toArray, List.set_cons_zero, List.set_cons_succ]
      refine held_take (i := 1) (v := ?_) (d := some 33) rfl rfl (by kernel_rfl) (by kernel_rfl) (by kernel_rfl) (fun _ _ _ h => h) (HLK.out _ HBa.out) ⟨?_, fun w hSw => ?_⟩ ?_
      rotate_left 1
      · rfl
      · (go_simp; all_goals with_reducible rfl)
      simp only [Act.put, List.setIfInBounds_toArray, List.set_cons_zero, List.set_cons_succ]
      refine held_take (i := 2) (v := ?_) (d := some 34) rfl rfl (by kernel_rfl) (by kernel_rfl) (by kernel_rfl) (fun _ _ _ h => h) (HLK.out _ HBa.out) ⟨?_, fun w hSw => ?_⟩ ?_
      rotate_left 1
      · rfl
      · (go_simp; all_goals with_reducible rfl)
      simp only [Act.put, List.setIfInBounds_toArray, List.set_cons_zero, List.set_cons_succ]
      refine held_take (i := 3) (v := ?_) (d := some 35) rfl rfl (by kernel_rfl) (by kernel_rfl) (by kernel_rfl) (fun _ _ _ h => h) (HLK.out _ HBa.out) ⟨?_, fun w hSw => ?_⟩ ?_
      rotate_left 1
      · rfl
      · obtain ⟨y1, y2⟩ := hSw
        (go_simp; all_goals with_reducible rfl)
      simp only [Act.put, List.setIfInBounds_toArray, List.set_cons_zero, List.set_cons_succ]
      refine held_take (i := 4) (v := ?_) (d := some 36) rfl rfl (by kernel_rfl) (by kernel_rfl) (by kernel_rfl) (fun _ _ _ h => h) (HLK.out _ HBa.out) ⟨?_, fun w hSw => ?_⟩ ?_
      rotate_left 1
      · rfl
      · (go_simp; all_goals with_reducible rfl)
      simp only [Act.put, List.setIfInBounds_toArray, List.set_cons_zero, List.set_cons_succ]
      refine held_take (i := 5) (v := ?_) (d := some 37) rfl rfl (by kernel_rfl) (by kernel_rfl) (by kernel_rfl) (fun _ _ _ h => h) (HLK.out _ HBa.out) ⟨?_, fun w hSw => ?_⟩ ?_
      rotate_left 1
      · rfl
      · obtain ⟨y1, y2⟩ := hSw
        (go_simp; all_goals with_reducible rfl)
      simp only [Act.put, List.setIfInBounds_toArray, List.set_cons_zero, List.set_cons_succ]
      refine held_take (i := 6) (v := ?_) (d := some 38) rfl rfl (by kernel_rfl) (by kernel_rfl) (by kernel_rfl) (fun _ _ _ h => h) (HLK.out _ HBa.out) ⟨?_, fun w hSw => ?_⟩ ?_
      rotate_left 1
      · rfl
      · (go_simp; all_goals with_reducible rfl)
      simp only [Act.put, List.setIfInBounds_toArray, List.set_cons_zero, List.set_cons_succ]
      refine held_take (i := 7) (v := ?_) (d := some 39) rfl rfl (by kernel_rfl) (by kernel_rfl) (by kernel_rfl) (fun _ _ _ h => h) (HLK.out _ HBa.out) ⟨?_, fun w hSw => ?_⟩ ?_
      rotate_left 1
      · rfl
      · (go_simp; all_goals with_reducible rfl)
      simp only [Act.put, List.setIfInBounds_toArray, List.set_cons_zero, List.set_cons_succ]
      refine held_step (i := 8) rfl (by kernel_rfl) ?_ (fun K hK => ?_)
      · rfl
      go_simp
      refine (strclone_any k HKS.out wa).mono ?_
      rintro e w1x ⟨rfl, hb1⟩
      have HB1 := Lib.hid (HBa.out.trans (hb1.mono HBa.out.size))
      clear hb1
      refine hK _ _ (HLK.out _ HB1.out) ?_
      clear hK K
      simp only [List.setIfInBounds_toArray, List.set_cons_zero, List.set_cons_succ]
      refine held_step (i := 9) rfl (by kernel_rfl) ?_ (fun K hK => ?_)
      · rfl
      refine op_update_own (.tmp 37) (.tmp 38) (.tmp 40) 52 rfl 3 9 chLaw Try.underlying52 chStr i _ _ rfl (HOWN.out _ HB1.out) HNM.out (.int .i64 o) (.string k) (.int .i64 o) rfl rfl (chKey HO.out) (fI k) [] rfl ?_
      intro w2x hown2 hg2
      have HE2 := Lib.hid (HFIN.out _ _ _ HB1.out hown2 hg2)
      have HF2 := Lib.hid (HLK2.out _ _ HB1.out hg2)
      clear hown2 hg2
      refine hK _ _ (HF2.out) ?_
      clear hK K
      simp only [Act.put, List.setIfInBounds_toArray, List.set_cons_zero, List.set_cons_succ]
      refine wpAnyH_done (by kernel_rfl) ?_ _
      (try go_wp2_with fail)
      go_end0
      exact HE2.out
end Go.Proofs.Ytlhjofcpcccdpaa
