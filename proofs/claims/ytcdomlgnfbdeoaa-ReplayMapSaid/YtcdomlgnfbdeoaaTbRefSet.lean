/-
  The reference's list of pairs: Set and Delete.
-/
import Derived.Test.YtcdomlgnfbdeoaaTbRefGet
import Derived.Test.YtcdomlgnfbdeoaaHold
set_option maxRecDepth 100000
namespace Go.Proofs.Ytcdomlgnfbdeoaa
open Go.RowKit
/-- Blocks of a set, and those made since. -/
def Since (R : Nat → Prop) (w w' : World) (k : Nat) : Prop := R k ∨ (w.heap.size ≤ k ∧ k < w'.heap.size)
theorem op_append_srow' {P : Program} {w : World} {S : Nat → Prop} {o : Oper} {a : Act} {K : Act → World → Prop} {Q : Exit → Act → World → Prop} (d : Tmp) (hd : o.dst = some d) (s x : Operand) (t : TypeId)
    (ho : o.op = .call { callee := .builtin .append, args := #[s, x], argTypes := #[t, t] })
    (e : TypeId) (z : Value) (size bytes : Nat) (ht : P.underlying t = some (.slice e)) (hi : (P.info? e).map (fun i => (i.zero, i.size, i.bytes)) = some (some z, size, bytes))
    (hzs : z.cells.size = size) (hsz : 0 < size)
    (v : Value) (n : Nat) (xs : List Value) (hs : a.eval s = v) (hown : SRow S e size w v n xs)
    (A : Option Addr) (m c : Nat) (news : List Value) (hx : a.eval x = .slice A m c) (hA : A = none → m = 0 ∧ c = 0) (hl : news.length = m * size)
    (hnews : ∀ ad, A = some ad → ∀ j u, news[j]? = some u → w.cell? (ad.add j) = some u) (h1 : ∀ u ∈ news, u.oneCell' = true)
    (h63 : n + m ≤ maxLen) (hbytes : (n + m) * bytes ≤ 140737488355328)
    (h : ∀ v' w', SRow (Grow S w) e size w' v' (n + m) (xs ++ news) → Kept S w w' → K (a.put (some d) v') w') : o.wp P a w K Q :=
  op_append_srow s x t ho e z size bytes ht hi hzs hsz v n xs hs hown A m c news hx hA hl hnews h1 h63 hbytes fun v' w' h1 h2 => by rw [hd]; exact h v' w' h1 h2
theorem ref_new {R : Nat → Prop} {w w1 w4 : World} {m n z : Nat} {v v4 : Value} {xs : List Value} (hz : w1.heap.size = z) (hb1 : Below w.heap.size w w1) (hk : Kept (fun k => z ≤ k) w1 w4) (hR : R m) (hm0 : m < w.heap.size) (hm : w4.heap[m]? = some (.cells #[v] 57 (0, 0))) (hr : SRow (fun k => z ≤ k) 38 6 w4 v4 n xs) :
    Kept R w (w4.setCell ⟨m, 0, none⟩ v4) ∧ (∀ L' : List Tb.Pr, xs = prS.flat L' → RT (Since R w (w4.setCell ⟨m, 0, none⟩ v4)) (w4.setCell ⟨m, 0, none⟩ v4) m L') := by
  subst hz
  have h1 : Kept R w w4 := (Kept.of_new hb1 : Kept R w w1).trans' hk fun i hi hlt => by have := hb1.size; omega
  refine ⟨h1.trans (Kept.setCell w4 ⟨m, 0, none⟩ v4 hR), fun L' e => ?_⟩
  subst e
  have hn : L'.length = n := hr.len (Sh := prS)
  refine ⟨v4, .inl hR, ?_, ?_⟩
  · have := set_at (cs := [v]) hm 0 v4
    exact this
  · rw [hn]
    have h2 := hr.kept (Kept.setCell (S := fun k => k = m) w4 ⟨m, 0, none⟩ v4 rfl) fun k _ h e => by have := hb1.size; omega
    exact h2.mono fun k hl h => ⟨.inr ⟨Nat.le_trans hb1.size h, hl⟩, by have := hb1.size; omega⟩
/-- What the reference's Set does. -/
def RSet (R : Nat → Prop) (m : Nat) (k : ByteArray) (x : Tb.En) (L : List Tb.Pr) (w : World) (e : Ending) (w' : World) : Prop :=
  e = .returned (.tuple #[]) ∧ Kept R w w' ∧ ∃ L', RT (Since R w w') w' m L' ∧ Tb.Srt L' ∧ (((∃ y, (k, y) ∈ L) ∧ L'.length = L.length) ∨ ((∀ y, (k, y) ∉ L) ∧ L'.length = L.length + 1)) ∧ ∀ k' e', (k', e') ∈ L' ↔ (k = k' ∧ x = e') ∨ (k ≠ k' ∧ (k', e') ∈ L)
theorem set_iff {k k' : ByteArray} {e e' : Tb.En} {P : Prop} : ((k' = k ∧ e' = e) ∨ (k' ≠ k ∧ P)) ↔ ((k = k' ∧ e = e') ∨ (k ≠ k' ∧ P)) := by
  constructor
  · rintro (⟨h1, h2⟩ | ⟨h1, h2⟩)
    · exact .inl ⟨h1.symm, h2.symm⟩
    · exact .inr ⟨fun e => h1 e.symm, h2⟩
  · rintro (⟨h1, h2⟩ | ⟨h1, h2⟩)
    · exact .inl ⟨h1.symm, h2.symm⟩
    · exact .inr ⟨fun e => h1 e.symm, h2⟩
theorem take_len {L : List Tb.Pr} {i : Nat} (hi : i ≤ L.length) : (prS.flat (L.take i)).length = i * 6 := by rw [prS.flat_length, List.length_take, Nat.min_eq_left hi]; rfl
theorem drop_len {L : List Tb.Pr} {i n : Nat} (hn : L.length = n) : (prS.flat (L.drop i)).length = (n - i) * 6 := by rw [prS.flat_length, List.length_drop, hn]; rfl
theorem row_back_if {S : Nat → Prop} {w : World} {g n c : Nat} {L : List Tb.Pr} (h : SRow S 38 6 w (.slice (some ⟨g, 0, none⟩) n c) n (prS.flat L)) (i : Nat) (hi : i ≤ L.length) : ∀ ad, (if c = i then some (⟨g, 0, none⟩ : Addr) else some ⟨g, i * 6, none⟩) = some ad → ∀ j u, (prS.flat (L.drop i))[j]? = some u → w.cell? (ad.add j) = some u := fun ad e j u hu => by
  split at e
  · rename_i hc
    obtain ⟨A', c', e', hs⟩ := h.open_
    injection e' with _ _ e3
    subst e3
    have hl := h.len (Sh := prS)
    have := hs.2.1
    rw [List.drop_eq_nil_of_le (by omega)] at hu
    cases hu
  · exact row_back h i hi ad e j u hu
set_option maxHeartbeats 8000000 in
theorem refset_any (m : Nat) (k : ByteArray) (e0 e1 e2 e3 : Int) (e4 : Bool) (L : List Tb.Pr) (R : Nat → Prop) (w : World) (hL : L.length ≤ 1000) (hS : Hid (Tb.Srt L)) (hT : Hid (RT R w m L)) :
    Calls Try.prog 20 #[.pointer (some ⟨m, 0, none⟩), .string k, .agg #[.int .i64 e0, .int .i64 e1, .int .i64 e2, .int .i64 e3, .bool e4]] w (RSet R m k ⟨e0, e1, e2, e3, e4⟩ L w) := by
  have HB : Hid (Below w.heap.size w (w.alloc (.cells #[.int .i64 e0, .int .i64 e1, .int .i64 e2, .int .i64 e3, .bool e4] 36))) := (Below.refl _ w).alloc (Nat.le_refl _) _
  have HX : Hid ((w.alloc (.cells #[.int .i64 e0, .int .i64 e1, .int .i64 e2, .int .i64 e3, .bool e4] 36)).heap[w.heap.size]? = some (.cells #[.int .i64 e0, .int .i64 e1, .int .i64 e2, .int .i64 e3, .bool e4] 36 (0, 0))) := heap_alloc_new w _
  have HT0 := Lib.hid (hT.out.next HB.out)
  have HM0 : Hid (m < w.heap.size) := by
    obtain ⟨v, -, h, -⟩ := hT.out
    exact (Array.getElem?_eq_some_iff.1 h).1
  go_enter Try.func20, Try.ntmps20
  go_upto_region 1 with fail
  generalize w.alloc (.cells #[.int .i64 e0, .int .i64 e1, .int .i64 e2, .int .i64 e3, .bool e4] 36) = w0 at *
  obtain ⟨x0, hx0⟩ : ∃ x, w.heap.size = x := ⟨_, rfl⟩
  rw [hx0] at HX
  have HXS := Lib.hid hx0
  rw [hx0]
  go_wp2_with fail
  refine (refat_any m k L R w0 hL HT0).mono ?_
  rintro e w1 ⟨i, b, rfl, hat, hb, hb1⟩
  have HB1 : Hid (Below w.heap.size w w1) := HB.out.trans (hb1.mono HB.out.size)
  have HX1 : Hid (w1.heap[x0]? = some (.cells #[.int .i64 e0, .int .i64 e1, .int .i64 e2, .int .i64 e3, .bool e4] 36 (0, 0))) := (hb1.block x0 (Array.getElem?_eq_some_iff.1 HX.out).1).trans HX.out
  have HT1 := Lib.hid (HT0.out.next hb1)
  have HAT := Lib.hid hat
  obtain ⟨n, hn⟩ : ∃ n, L.length = n := ⟨_, rfl⟩
  have hin : i ≤ n := hn ▸ hat.1
  obtain ⟨A, c, hRm, hm, hr, hsl, ha, hA⟩ := HT1.out.open_
  rw [hn] at hm hr hsl hL
  have HRM := Lib.hid hRm
  have HHM0 := Lib.hid hm
  have HRV0 := Lib.hid hr
  have HAR := Lib.hid ha
  have HN := Lib.hid hn
  have hcap := hsl.2.2
  have hnc := hsl.2.1
  clear hat hb1 HB HX HT0 hx0 hRm hm hr ha hn HT1
  rcases hb with ⟨rfl, hi, hk⟩ | ⟨rfl, hno⟩
  · obtain ⟨ad, rfl⟩ := HAR.out.some hi
    obtain ⟨g, rfl, hgs, hgR, hgm⟩ : ∃ g, ad = ⟨g, 0, none⟩ ∧ g < w1.heap.size ∧ R g ∧ g ≠ m := by
      rcases hA with h | ⟨g, h, h2⟩
      · cases h
      · injection h with h; exact ⟨g, h, h2⟩
    have hi2 : i < n := HN.out ▸ hi
    have HRW := Lib.hid (row_entry HRV0.out i hi e0 e1 e2 e3 e4)
    have c0 := box_cell HHM0.out
    obtain ⟨⟨kk, f0, f1, f2, f3, f4⟩, hp⟩ : ∃ p : Tb.Pr, Tb.gp L i = p := ⟨_, rfl⟩
    obtain ⟨-, d1, d2, d3, d4, d5⟩ := prs_at HAR.out i hi _ _ _ _ _ _ hp
    have g1 := row_frozen HRV0.out (i * 6 + 1)
    have g2 := row_frozen HRV0.out (i * 6 + 2)
    have g3 := row_frozen HRV0.out (i * 6 + 3)
    have g4 := row_frozen HRV0.out (i * 6 + 4)
    have g5 := row_frozen HRV0.out (i * 6 + 5)
    obtain ⟨x1, x2, x3, x4, x5⟩ := five_cells HX1.out
    have HSE := Lib.hid (Tb.srt_set hS.out hi hk ⟨e0, e1, e2, e3, e4⟩)
    rw [hk] at HRW
    have HMEM : Hid (∃ y, (k, y) ∈ L) := ⟨_, Tb.At.mem hi hk⟩
    have HFIN : Hid (∀ w', w' = (((((w1.setCell ⟨g, i * 6 + 1, none⟩ (.int .i64 e0)).setCell ⟨g, i * 6 + 2, none⟩ (.int .i64 e1)).setCell ⟨g, i * 6 + 3, none⟩ (.int .i64 e2)).setCell ⟨g, i * 6 + 4, none⟩ (.int .i64 e3)).setCell ⟨g, i * 6 + 5, none⟩ (.bool e4)).drew → RSet R m k ⟨e0, e1, e2, e3, e4⟩ L w (.returned (.tuple #[])) w') := fun w' e => by
      subst e
      have hk5 : Kept (fun k => k = g) w1 (((((w1.setCell ⟨g, i * 6 + 1, none⟩ (.int .i64 e0)).setCell ⟨g, i * 6 + 2, none⟩ (.int .i64 e1)).setCell ⟨g, i * 6 + 3, none⟩ (.int .i64 e2)).setCell ⟨g, i * 6 + 4, none⟩ (.int .i64 e3)).setCell ⟨g, i * 6 + 5, none⟩ (.bool e4)) := five_kept w1 g (i * 6 + 1) _ _ _ _ _ rfl
      have hk6 := kept_drew hk5
      have hkR : Kept R w1 _ := hk6.mono fun k _ e => e ▸ hgR
      refine ⟨rfl, (Kept.of_new HB1.out : Kept R w w1).trans hkR, L.set i (k, ⟨e0, e1, e2, e3, e4⟩), ⟨_, .inl HRM.out, (hk6.block m (Array.getElem?_eq_some_iff.1 HHM0.out).1 (fun e => hgm e.symm)).trans HHM0.out, ?_⟩, HSE.out.1, .inl ⟨HMEM.out, List.length_set⟩, fun k' e' => (HSE.out.2 k' e').trans set_iff⟩
      rw [List.length_set, HN.out]
      exact (HRW.out.mono fun k _ h => ⟨.inl h.1, h.2⟩).new ⟨rfl, rfl, rfl, Nat.le_refl _, fun _ _ => rfl⟩
    clear hsl hA hp HSE HMEM HRW hgs hgR hgm hk
    go_upto_region 3 with fail
    go_region
    go_wp2_with fail
    (try simp only [Exit.inBlock, Exit.then]); refine bodyPost_ret (results_none rfl _ _ _) rfl ?_
    exact HFIN.out _ rfl
  · obtain ⟨z, hz⟩ : ∃ z, w1.heap.size = z := ⟨_, rfl⟩
    have HZ := Lib.hid hz
    have hnot : ∀ y, (k, y) ∉ L := fun y hy => by
      obtain ⟨h1, h2⟩ := HAT.out.found hS.out y hy
      exact hno ⟨h1, by rw [h2]⟩
    have hsi := Tb.srt_ins hS.out HAT.out hno ⟨e0, e1, e2, e3, e4⟩
    have hfin : ∀ w', Kept R w w' → (∀ L' : List Tb.Pr, prS.flat (L.take i ++ [(k, ⟨e0, e1, e2, e3, e4⟩)]) ++ prS.flat (L.drop i) = prS.flat L' → RT (Since R w w') w' m L') → RSet R m k ⟨e0, e1, e2, e3, e4⟩ L w (.returned (.tuple #[])) w' := fun w' hk hr => by
      refine ⟨rfl, hk, L.take i ++ ((k, ⟨e0, e1, e2, e3, e4⟩) :: L.drop i), hr _ (by rw [← prS.flat_append, List.append_assoc]; rfl), hsi.1, .inr ⟨hnot, ?_⟩, fun k' e' => (hsi.2 k' e').trans set_iff⟩
      rw [List.length_append, List.length_cons, List.length_take, List.length_drop, HN.out, Nat.min_eq_left hin]
      omega
    have HFIN := Lib.hid hfin
    have HC : Hid (∀ W, Kept (fun k => z ≤ k) w1 W → W.cell? ⟨x0, 0, none⟩ = some (.int .i64 e0) ∧ W.cell? ⟨x0, 1, none⟩ = some (.int .i64 e1) ∧ W.cell? ⟨x0, 2, none⟩ = some (.int .i64 e2) ∧ W.cell? ⟨x0, 3, none⟩ = some (.int .i64 e3) ∧ W.cell? ⟨x0, 4, none⟩ = some (.bool e4)) := fun W hW => by
      have hl := (Array.getElem?_eq_some_iff.1 HX1.out).1
      exact five_cells ((hW.block x0 hl (by omega)).trans HX1.out)
    have hx0m : x0 ≠ m := fun e => by have := HM0.out; have := HXS.out; omega
    have HC2 : Hid (∀ W, Kept (fun k => z ≤ k) w1 W → ∀ u, (W.setCell ⟨m, 0, none⟩ u).cell? ⟨x0, 0, none⟩ = some (.int .i64 e0) ∧ (W.setCell ⟨m, 0, none⟩ u).cell? ⟨x0, 1, none⟩ = some (.int .i64 e1) ∧ (W.setCell ⟨m, 0, none⟩ u).cell? ⟨x0, 2, none⟩ = some (.int .i64 e2) ∧ (W.setCell ⟨m, 0, none⟩ u).cell? ⟨x0, 3, none⟩ = some (.int .i64 e3) ∧ (W.setCell ⟨m, 0, none⟩ u).cell? ⟨x0, 4, none⟩ = some (.bool e4)) := fun W hW u => by
      have hl := (Array.getElem?_eq_some_iff.1 HX1.out).1
      exact five_cells (set_past ((hW.block x0 hl (by omega)).trans HX1.out) hx0m 0 u)
    have HHM : Hid (∀ W, Kept (fun k => z ≤ k) w1 W → W.heap[m]? = some (.cells #[.slice A n c] 57 (0, 0))) := fun W hW => by
      have hl := (Array.getElem?_eq_some_iff.1 HHM0.out).1
      exact (hW.block m hl (by omega)).trans HHM0.out
    have HCM : Hid (∀ W, Kept (fun k => z ≤ k) w1 W → W.cell? ⟨m, 0, none⟩ = some (.slice A n c)) := fun W hW => box_cell (HHM.out W hW)
    have HFM : Hid (∀ W, Kept (fun k => z ≤ k) w1 W → W.frozen? ⟨m, 0, none⟩ = false) := fun W hW => frozen_of_row W m _ _ _ (HHM.out W hW)
    have HRV : Hid (∀ W, Kept (fun k => z ≤ k) w1 W → SRow (fun k => R k ∧ k ≠ m) 38 6 W (.slice A n c) n (prS.flat L)) := fun W hW => HRV0.out.kept hW fun k hl _ => by omega
    have HLT : Hid ((prS.flat (L.take i)).length = i * 6) := take_len (by rw [HN.out]; exact hin)
    have HLD : Hid ((prS.flat (L.drop i)).length = (n - i) * 6) := drop_len HN.out
    have HIL : Hid (i ≤ L.length) := by show _ ≤ _; rw [HN.out]; exact hin
    have c0 := HCM.out w1 (Kept.refl _ _)
    have HB1 := HB1
    clear hfin hsi hnot hno hx0m
    clear hz
    rcases hA with rfl | ⟨g, rfl, -, -, -⟩
    · obtain ⟨rfl, rfl⟩ := hsl.1 rfl
      obtain rfl : i = 0 := by omega
      clear hsl hcap hnc hL hin
      go_wp2_with (at_builtin; refine BigFrame.wpList_want rfl fun K hK => ?_; refine Classical.byContradiction fun hstop => ?_)
      refine hstop ?_
      refine op_append_srow (.const (.slice none 0 0)) (.tmp 29) 28 rfl 38 _ 6 56 Try.underlying28 info_pair (by rfl) (by decide) (.slice none 0 0) 0 [] rfl (SRow.nil (S := fun k => z ≤ k)) _ _ _ (prS.flat (L.take 0)) rfl (fun _ => ⟨by omega, by omega⟩) HLT.out (fun ad e => by cases e) (Shape.flat_one' prS _) (by unfold maxLen; omega) (by omega) ?_
      intro vz wz hr2 hk2
      refine hK _ _ ?_
      have HRz : Hid (SRow (fun k => z ≤ k) 38 6 wz vz 0 (prS.flat (L.take 0))) := by rw [Nat.zero_add, List.nil_append] at hr2; exact hr2.mono fun k _ h => h.elim id fun h => by have := HZ.out; have h : w1.heap.size ≤ k := h; omega
      have HKz := Lib.hid hk2
      clear hr2 hk2 hstop hK K
      go_upto_region 5 with fail
      have HKa : Hid (Kept (fun k => z ≤ k) w1 wz.drew) := kept_drew HKz.out
      have HRa : Hid (SRow (fun k => z ≤ k) 38 6 wz.drew vz _ _) := HRz.out.new ⟨rfl, rfl, rfl, Nat.le_refl _, fun _ _ => rfl⟩
      clear HKz HRz
      refine wp_region_held_drew (S := fun W => W.cell? ⟨x0, 0, none⟩ = some (.int .i64 e0) ∧ W.cell? ⟨x0, 1, none⟩ = some (.int .i64 e1) ∧ W.cell? ⟨x0, 2, none⟩ = some (.int .i64 e2) ∧ W.cell? ⟨x0, 3, none⟩ = some (.int .i64 e3) ∧ W.cell? ⟨x0, 4, none⟩ = some (.bool e4)) (by kernel_rfl) (HC.out _ HKa.out) (fun hH => ?_)
      change wpAnyH _ _ _ _ _ 17 #[false, false, false, false, false, false, false, false, false, false, false, false, false, false, false, false, false] _ _
      clear hH
      generalize wz.drew = wa at *
      refine held_take (i := 0) (v := ?_) (d := some 31) rfl rfl (by kernel_rfl) (by kernel_rfl) (by kernel_rfl) (fun _ _ _ h => h) (HC.out _ HKa.out) ⟨?_, fun w hSw => ?_⟩ ?_
      rotate_left 1
      · rfl
      · (go_simp; all_goals with_reducible rfl)
      simp only [Act.put, List.setIfInBounds_toArray, List.set_cons_zero, List.set_cons_succ]
      refine held_take (i := 1) (v := ?_) (d := some 32) rfl rfl (by kernel_rfl) (by kernel_rfl) (by kernel_rfl) (fun _ _ _ h => h) (HC.out _ HKa.out) ⟨?_, fun w hSw => ?_⟩ ?_
      rotate_left 1
      · rfl
      · (go_simp; all_goals with_reducible rfl)
      simp only [Act.put, List.setIfInBounds_toArray, List.set_cons_zero, List.set_cons_succ]
      refine held_take (i := 2) (v := ?_) (d := some 33) rfl rfl (by kernel_rfl) (by kernel_rfl) (by kernel_rfl) (fun _ _ _ h => h) (HC.out _ HKa.out) ⟨?_, fun w hSw => ?_⟩ ?_
      rotate_left 1
      · rfl
      · (go_simp; all_goals with_reducible rfl)
      simp only [Act.put, List.setIfInBounds_toArray, List.set_cons_zero, List.set_cons_succ]
      refine held_take (i := 3) (v := ?_) (d := some 34) rfl rfl (by kernel_rfl) (by kernel_rfl) (by kernel_rfl) (fun _ _ _ h => h) (HC.out _ HKa.out) ⟨?_, fun w hSw => ?_⟩ ?_
      rotate_left 1
      · rfl
      · obtain ⟨y1, y2, y3, y4, y5⟩ := hSw
        (go_simp; all_goals with_reducible rfl)
      simp only [Act.put, List.setIfInBounds_toArray, List.set_cons_zero, List.set_cons_succ]
      refine held_take (i := 4) (v := ?_) (d := some 35) rfl rfl (by kernel_rfl) (by kernel_rfl) (by kernel_rfl) (fun _ _ _ h => h) (HC.out _ HKa.out) ⟨?_, fun w hSw => ?_⟩ ?_
      rotate_left 1
      · rfl
      · (go_simp; all_goals with_reducible rfl)
      simp only [Act.put, List.setIfInBounds_toArray, List.set_cons_zero, List.set_cons_succ]
      refine held_take (i := 7) (v := ?_) (d := some 38) rfl rfl (by kernel_rfl) (by kernel_rfl) (by kernel_rfl) (fun _ _ _ h => h) (HC.out _ HKa.out) ⟨?_, fun w hSw => ?_⟩ ?_
      rotate_left 1
      · rfl
      · (go_simp; all_goals with_reducible rfl)
      simp only [Act.put, List.setIfInBounds_toArray, List.set_cons_zero, List.set_cons_succ]
      refine held_take (i := 8) (v := ?_) (d := some 39) rfl rfl (by kernel_rfl) (by kernel_rfl) (by kernel_rfl) (fun _ _ _ h => h) (HC.out _ HKa.out) ⟨?_, fun w hSw => ?_⟩ ?_
      rotate_left 1
      · rfl
      · (go_simp; all_goals with_reducible rfl)
      simp only [Act.put, List.setIfInBounds_toArray, List.set_cons_zero, List.set_cons_succ]
      refine held_take (i := 9) (v := ?_) (d := some 40) rfl rfl (by kernel_rfl) (by kernel_rfl) (by kernel_rfl) (fun _ _ _ h => h) (HC.out _ HKa.out) ⟨?_, fun w hSw => ?_⟩ ?_
      rotate_left 1
      · rfl
      · (go_simp; all_goals with_reducible rfl)
      simp only [Act.put, List.setIfInBounds_toArray, List.set_cons_zero, List.set_cons_succ]
      refine held_take (i := 11) (v := ?_) (d := some 42) rfl rfl (by kernel_rfl) (by kernel_rfl) (by kernel_rfl) (fun _ _ _ h => h) (HC.out _ HKa.out) ⟨?_, fun w hSw => ?_⟩ ?_
      rotate_left 1
      · rfl
      · (go_simp; all_goals with_reducible rfl)
      simp only [Act.put, List.setIfInBounds_toArray, List.set_cons_zero, List.set_cons_succ]
      refine hold_two (i := 5) (j := 10) rfl rfl (by kernel_rfl) (by rfl) (by rfl) (fun K hK => ?_) (fun K hK => ?_)
      · go_simp
        have HL1 : Hid (Below wa.heap.size wa (wa.alloc (.cells #[.string k, .int .i64 e0, .int .i64 e1, .int .i64 e2, .int .i64 e3, .bool e4] 38))) := (Below.refl _ _).alloc (Nat.le_refl _) _
        have HX1 := Lib.hid (heap_alloc_new wa (.cells #[.string k, .int .i64 e0, .int .i64 e1, .int .i64 e2, .int .i64 e3, .bool e4] 38))
        have HK1 := Lib.hid (HKa.out.trans (Kept.alloc wa (.cells #[.string k, .int .i64 e0, .int .i64 e1, .int .i64 e2, .int .i64 e3, .bool e4] 38)))
        have HR1 := Lib.hid (HRa.out.new HL1.out)
        clear HL1
        generalize wa.alloc (.cells #[.string k, .int .i64 e0, .int .i64 e1, .int .i64 e2, .int .i64 e3, .bool e4] 38) = w1x at *
        generalize wa.heap.size = q1 at *
        refine hK _ _ (HC.out _ HK1.out) ?_
        clear hK K
        simp only [List.setIfInBounds_toArray, List.set_cons_zero, List.set_cons_succ]
        refine hold_two (i := 6) (j := 10) rfl rfl (by kernel_rfl) (by rfl) (by rfl) (fun K hK => ?_) (fun K hK => ?_)
        · refine op_append_one' (Sh := prS) 37 rfl (.tmp 32) (.tmp 36) 28 rfl Try.underlying28 info_pair rfl vz 0 (L.take 0) rfl HR1.out q1 1 (k, ⟨e0, e1, e2, e3, e4⟩) rfl HX1.out (by omega) (by omega) ?_
          intro v2 w2x hr2 hk2
          have HR2 := Lib.hid (hr2.mono fun k _ h => h.elim id fun h => by have := HZ.out; have := HK1.out.size; have h : w1x.heap.size ≤ k := h; omega)
          have HK2 := Lib.hid (HK1.out.trans hk2)
          clear hr2 hk2
          refine hK _ _ (HC.out _ HK2.out) ?_
          clear hK K
          simp only [Act.put, List.setIfInBounds_toArray, List.set_cons_zero, List.set_cons_succ]
          refine held_step (i := 10) rfl (by kernel_rfl) ?_ (fun K hK => ?_)
          · rfl
          have z0 := HCM.out _ HK2.out
          go_simp
          clear z0
          refine hK _ _ (HC.out _ HK2.out) ?_
          clear hK K
          simp only [List.setIfInBounds_toArray, List.set_cons_zero, List.set_cons_succ]
          refine held_take (i := 12) (v := ?_) (d := some 43) rfl rfl (by kernel_rfl) (by kernel_rfl) (by kernel_rfl) (fun _ _ _ h => h) (HC.out _ HK2.out) ⟨?_, fun w hSw => ?_⟩ ?_
          rotate_left 1
          · rfl
          · (go_simp; all_goals with_reducible rfl)
          simp only [Act.put, List.setIfInBounds_toArray, List.set_cons_zero, List.set_cons_succ]
          refine held_step (i := 13) rfl (by kernel_rfl) ?_ (fun K hK => ?_)
          · rfl
          refine op_append_srow' 44 rfl (.tmp 37) (.tmp 43) 28 rfl 38 _ 6 56 Try.underlying28 info_pair (by rfl) (by decide) v2 (0 + 1) (prS.flat (L.take 0 ++ [(k, ⟨e0, e1, e2, e3, e4⟩)])) rfl HR2.out _ _ _ (prS.flat (L.drop 0)) rfl (fun _ => ⟨by omega, by omega⟩) HLD.out (fun ad e => by cases e) (Shape.flat_one' prS _) (by unfold maxLen; omega) (by omega) ?_
          intro v4 w4x hr4 hk4
          have HK4 := Lib.hid (HK2.out.trans hk4)
          have HR4 := Lib.hid (hr4.mono fun k _ h => h.elim id fun h => by have := HZ.out; have := HK2.out.size; have h : w2x.heap.size ≤ k := h; omega)
          clear hr4 hk4
          obtain ⟨A4, c4, ev4, -⟩ := HR4.out.open_
          subst ev4
          refine hK _ _ (HC.out _ HK4.out) ?_
          clear hK K
          simp only [Act.put, List.setIfInBounds_toArray, List.set_cons_zero, List.set_cons_succ]
          refine held_take (i := 14) (v := ?_) (d := some 45) rfl rfl (by kernel_rfl) (by kernel_rfl) (by kernel_rfl) (fun _ _ _ h => h) (HC.out _ HK4.out) ⟨?_, fun w hSw => ?_⟩ ?_
          rotate_left 1
          · rfl
          · (go_simp; all_goals with_reducible rfl)
          simp only [Act.put, List.setIfInBounds_toArray, List.set_cons_zero, List.set_cons_succ]
          refine held_take (i := 15) (v := ?_) (d := some 46) rfl rfl (by kernel_rfl) (by kernel_rfl) (by kernel_rfl) (fun _ _ _ h => h) (HC.out _ HK4.out) ⟨?_, fun w hSw => ?_⟩ ?_
          rotate_left 1
          · rfl
          · (go_simp; all_goals with_reducible rfl)
          simp only [Act.put, List.setIfInBounds_toArray, List.set_cons_zero, List.set_cons_succ]
          refine held_step (i := 16) rfl (by kernel_rfl) ?_ (fun K hK => ?_)
          · rfl
          have z0 := HCM.out _ HK4.out
          have g0 := HFM.out _ HK4.out
          go_simp
          clear z0 g0
          refine hK _ _ (HC2.out _ HK4.out _) ?_
          clear hK K
          simp only [List.setIfInBounds_toArray, List.set_cons_zero, List.set_cons_succ]
          refine wpAnyH_done (by kernel_rfl) ?_ _
          have HE := Lib.hid (ref_new HZ.out HB1.out HK4.out HRM.out HM0.out (HHM.out _ HK4.out) HR4.out)
          go_wp2_with fail
          go_end0
          exact HFIN.out _ HE.out.1 HE.out.2
        · have z0 := HCM.out _ HK1.out
          go_simp
          clear z0
          refine hK _ _ (HC.out _ HK1.out) ?_
          clear hK K
          simp only [List.setIfInBounds_toArray, List.set_cons_zero, List.set_cons_succ]
          refine held_take (i := 12) (v := ?_) (d := some 43) rfl rfl (by kernel_rfl) (by kernel_rfl) (by kernel_rfl) (fun _ _ _ h => h) (HC.out _ HK1.out) ⟨?_, fun w hSw => ?_⟩ ?_
          rotate_left 1
          · rfl
          · (go_simp; all_goals with_reducible rfl)
          simp only [Act.put, List.setIfInBounds_toArray, List.set_cons_zero, List.set_cons_succ]
          refine held_step (i := 6) rfl (by kernel_rfl) ?_ (fun K hK => ?_)
          · rfl
          refine op_append_one' (Sh := prS) 37 rfl (.tmp 32) (.tmp 36) 28 rfl Try.underlying28 info_pair rfl vz 0 (L.take 0) rfl HR1.out q1 1 (k, ⟨e0, e1, e2, e3, e4⟩) rfl HX1.out (by omega) (by omega) ?_
          intro v7 w7x hr7 hk7
          have HR7 := Lib.hid (hr7.mono fun k _ h => h.elim id fun h => by have := HZ.out; have := HK1.out.size; have h : w1x.heap.size ≤ k := h; omega)
          have HK7 := Lib.hid (HK1.out.trans hk7)
          clear hr7 hk7
          refine hK _ _ (HC.out _ HK7.out) ?_
          clear hK K
          simp only [Act.put, List.setIfInBounds_toArray, List.set_cons_zero, List.set_cons_succ]
          refine held_step (i := 13) rfl (by kernel_rfl) ?_ (fun K hK => ?_)
          · rfl
          refine op_append_srow' 44 rfl (.tmp 37) (.tmp 43) 28 rfl 38 _ 6 56 Try.underlying28 info_pair (by rfl) (by decide) v7 (0 + 1) (prS.flat (L.take 0 ++ [(k, ⟨e0, e1, e2, e3, e4⟩)])) rfl HR7.out _ _ _ (prS.flat (L.drop 0)) rfl (fun _ => ⟨by omega, by omega⟩) HLD.out (fun ad e => by cases e) (Shape.flat_one' prS _) (by unfold maxLen; omega) (by omega) ?_
          intro v8 w8x hr8 hk8
          have HK8 := Lib.hid (HK7.out.trans hk8)
          have HR8 := Lib.hid (hr8.mono fun k _ h => h.elim id fun h => by have := HZ.out; have := HK7.out.size; have h : w7x.heap.size ≤ k := h; omega)
          clear hr8 hk8
          obtain ⟨A8, c8, ev8, -⟩ := HR8.out.open_
          subst ev8
          refine hK _ _ (HC.out _ HK8.out) ?_
          clear hK K
          simp only [Act.put, List.setIfInBounds_toArray, List.set_cons_zero, List.set_cons_succ]
          refine held_take (i := 14) (v := ?_) (d := some 45) rfl rfl (by kernel_rfl) (by kernel_rfl) (by kernel_rfl) (fun _ _ _ h => h) (HC.out _ HK8.out) ⟨?_, fun w hSw => ?_⟩ ?_
          rotate_left 1
          · rfl
          · (go_simp; all_goals with_reducible rfl)
          simp only [Act.put, List.setIfInBounds_toArray, List.set_cons_zero, List.set_cons_succ]
          refine held_take (i := 15) (v := ?_) (d := some 46) rfl rfl (by kernel_rfl) (by kernel_rfl) (by kernel_rfl) (fun _ _ _ h => h) (HC.out _ HK8.out) ⟨?_, fun w hSw => ?_⟩ ?_
          rotate_left 1
          · rfl
          · (go_simp; all_goals with_reducible rfl)
          simp only [Act.put, List.setIfInBounds_toArray, List.set_cons_zero, List.set_cons_succ]
          refine held_step (i := 16) rfl (by kernel_rfl) ?_ (fun K hK => ?_)
          · rfl
          have z0 := HCM.out _ HK8.out
          have g0 := HFM.out _ HK8.out
          go_simp
          clear z0 g0
          refine hK _ _ (HC2.out _ HK8.out _) ?_
          clear hK K
          simp only [List.setIfInBounds_toArray, List.set_cons_zero, List.set_cons_succ]
          refine wpAnyH_done (by kernel_rfl) ?_ _
          have HE := Lib.hid (ref_new HZ.out HB1.out HK8.out HRM.out HM0.out (HHM.out _ HK8.out) HR8.out)
          go_wp2_with fail
          go_end0
          exact HFIN.out _ HE.out.1 HE.out.2
      · have z0 := HCM.out _ HKa.out
        go_simp
        clear z0
        refine hK _ _ (HC.out _ HKa.out) ?_
        clear hK K
        simp only [List.setIfInBounds_toArray, List.set_cons_zero, List.set_cons_succ]
        refine held_take (i := 12) (v := ?_) (d := some 43) rfl rfl (by kernel_rfl) (by kernel_rfl) (by kernel_rfl) (fun _ _ _ h => h) (HC.out _ HKa.out) ⟨?_, fun w hSw => ?_⟩ ?_
        rotate_left 1
        · rfl
        · (go_simp; all_goals with_reducible rfl)
        simp only [Act.put, List.setIfInBounds_toArray, List.set_cons_zero, List.set_cons_succ]
        refine held_step (i := 5) rfl (by kernel_rfl) ?_ (fun K hK => ?_)
        · rfl
        go_simp
        have HL11 : Hid (Below wa.heap.size wa (wa.alloc (.cells #[.string k, .int .i64 e0, .int .i64 e1, .int .i64 e2, .int .i64 e3, .bool e4] 38))) := (Below.refl _ _).alloc (Nat.le_refl _) _
        have HX11 := Lib.hid (heap_alloc_new wa (.cells #[.string k, .int .i64 e0, .int .i64 e1, .int .i64 e2, .int .i64 e3, .bool e4] 38))
        have HK11 := Lib.hid (HKa.out.trans (Kept.alloc wa (.cells #[.string k, .int .i64 e0, .int .i64 e1, .int .i64 e2, .int .i64 e3, .bool e4] 38)))
        have HR11 := Lib.hid (HRa.out.new HL11.out)
        clear HL11
        generalize wa.alloc (.cells #[.string k, .int .i64 e0, .int .i64 e1, .int .i64 e2, .int .i64 e3, .bool e4] 38) = w11x at *
        generalize wa.heap.size = q11 at *
        refine hK _ _ (HC.out _ HK11.out) ?_
        clear hK K
        simp only [List.setIfInBounds_toArray, List.set_cons_zero, List.set_cons_succ]
        refine held_step (i := 6) rfl (by kernel_rfl) ?_ (fun K hK => ?_)
        · rfl
        refine op_append_one' (Sh := prS) 37 rfl (.tmp 32) (.tmp 36) 28 rfl Try.underlying28 info_pair rfl vz 0 (L.take 0) rfl HR11.out q11 1 (k, ⟨e0, e1, e2, e3, e4⟩) rfl HX11.out (by omega) (by omega) ?_
        intro v12 w12x hr12 hk12
        have HR12 := Lib.hid (hr12.mono fun k _ h => h.elim id fun h => by have := HZ.out; have := HK11.out.size; have h : w11x.heap.size ≤ k := h; omega)
        have HK12 := Lib.hid (HK11.out.trans hk12)
        clear hr12 hk12
        refine hK _ _ (HC.out _ HK12.out) ?_
        clear hK K
        simp only [Act.put, List.setIfInBounds_toArray, List.set_cons_zero, List.set_cons_succ]
        refine held_step (i := 13) rfl (by kernel_rfl) ?_ (fun K hK => ?_)
        · rfl
        refine op_append_srow' 44 rfl (.tmp 37) (.tmp 43) 28 rfl 38 _ 6 56 Try.underlying28 info_pair (by rfl) (by decide) v12 (0 + 1) (prS.flat (L.take 0 ++ [(k, ⟨e0, e1, e2, e3, e4⟩)])) rfl HR12.out _ _ _ (prS.flat (L.drop 0)) rfl (fun _ => ⟨by omega, by omega⟩) HLD.out (fun ad e => by cases e) (Shape.flat_one' prS _) (by unfold maxLen; omega) (by omega) ?_
        intro v13 w13x hr13 hk13
        have HK13 := Lib.hid (HK12.out.trans hk13)
        have HR13 := Lib.hid (hr13.mono fun k _ h => h.elim id fun h => by have := HZ.out; have := HK12.out.size; have h : w12x.heap.size ≤ k := h; omega)
        clear hr13 hk13
        obtain ⟨A13, c13, ev13, -⟩ := HR13.out.open_
        subst ev13
        refine hK _ _ (HC.out _ HK13.out) ?_
        clear hK K
        simp only [Act.put, List.setIfInBounds_toArray, List.set_cons_zero, List.set_cons_succ]
        refine held_take (i := 14) (v := ?_) (d := some 45) rfl rfl (by kernel_rfl) (by kernel_rfl) (by kernel_rfl) (fun _ _ _ h => h) (HC.out _ HK13.out) ⟨?_, fun w hSw => ?_⟩ ?_
        rotate_left 1
        · rfl
        · (go_simp; all_goals with_reducible rfl)
        simp only [Act.put, List.setIfInBounds_toArray, List.set_cons_zero, List.set_cons_succ]
        refine held_take (i := 15) (v := ?_) (d := some 46) rfl rfl (by kernel_rfl) (by kernel_rfl) (by kernel_rfl) (fun _ _ _ h => h) (HC.out _ HK13.out) ⟨?_, fun w hSw => ?_⟩ ?_
        rotate_left 1
        · rfl
        · (go_simp; all_goals with_reducible rfl)
        simp only [Act.put, List.setIfInBounds_toArray, List.set_cons_zero, List.set_cons_succ]
        refine held_step (i := 16) rfl (by kernel_rfl) ?_ (fun K hK => ?_)
        · rfl
        have z0 := HCM.out _ HK13.out
        have g0 := HFM.out _ HK13.out
        go_simp
        clear z0 g0
        refine hK _ _ (HC2.out _ HK13.out _) ?_
        clear hK K
        simp only [List.setIfInBounds_toArray, List.set_cons_zero, List.set_cons_succ]
        refine wpAnyH_done (by kernel_rfl) ?_ _
        have HE := Lib.hid (ref_new HZ.out HB1.out HK13.out HRM.out HM0.out (HHM.out _ HK13.out) HR13.out)
        go_wp2_with fail
        go_end0
        exact HFIN.out _ HE.out.1 HE.out.2
    · clear hsl
      go_wp2_with (at_builtin; refine BigFrame.wpList_want rfl fun K hK => ?_; refine Classical.byContradiction fun hstop => ?_)
      refine hstop ?_
      refine op_append_srow (.const (.slice none 0 0)) (.tmp 29) 28 rfl 38 _ 6 56 Try.underlying28 info_pair (by rfl) (by decide) (.slice none 0 0) 0 [] rfl (SRow.nil (S := fun k => z ≤ k)) _ _ _ (prS.flat (L.take i)) rfl (fun e => by cases e) HLT.out (row_front (HRV.out _ (Kept.refl _ _)) i) (Shape.flat_one' prS _) (by unfold maxLen; omega) (by omega) ?_
      intro vz wz hr2 hk2
      refine hK _ _ ?_
      have HRz : Hid (SRow (fun k => z ≤ k) 38 6 wz vz i (prS.flat (L.take i))) := by rw [Nat.zero_add, List.nil_append] at hr2; exact hr2.mono fun k _ h => h.elim id fun h => by have := HZ.out; have h : w1.heap.size ≤ k := h; omega
      have HKz := Lib.hid hk2
      clear hr2 hk2 hstop hK K
      go_upto_region 5 with fail
      have HKa : Hid (Kept (fun k => z ≤ k) w1 wz.drew) := kept_drew HKz.out
      have HRa : Hid (SRow (fun k => z ≤ k) 38 6 wz.drew vz _ _) := HRz.out.new ⟨rfl, rfl, rfl, Nat.le_refl _, fun _ _ => rfl⟩
      clear HKz HRz
      refine wp_region_held_drew (S := fun W => W.cell? ⟨x0, 0, none⟩ = some (.int .i64 e0) ∧ W.cell? ⟨x0, 1, none⟩ = some (.int .i64 e1) ∧ W.cell? ⟨x0, 2, none⟩ = some (.int .i64 e2) ∧ W.cell? ⟨x0, 3, none⟩ = some (.int .i64 e3) ∧ W.cell? ⟨x0, 4, none⟩ = some (.bool e4)) (by kernel_rfl) (HC.out _ HKa.out) (fun hH => ?_)
      change wpAnyH _ _ _ _ _ 17 #[false, false, false, false, false, false, false, false, false, false, false, false, false, false, false, false, false] _ _
      clear hH
      generalize wz.drew = wa at *
      refine held_take (i := 0) (v := ?_) (d := some 31) rfl rfl (by kernel_rfl) (by kernel_rfl) (by kernel_rfl) (fun _ _ _ h => h) (HC.out _ HKa.out) ⟨?_, fun w hSw => ?_⟩ ?_
      rotate_left 1
      · rfl
      · (go_simp; all_goals with_reducible rfl)
      simp only [Act.put, List.setIfInBounds_toArray, List.set_cons_zero, List.set_cons_succ]
      refine held_take (i := 1) (v := ?_) (d := some 32) rfl rfl (by kernel_rfl) (by kernel_rfl) (by kernel_rfl) (fun _ _ _ h => h) (HC.out _ HKa.out) ⟨?_, fun w hSw => ?_⟩ ?_
      rotate_left 1
      · rfl
      · (go_simp; all_goals with_reducible rfl)
      simp only [Act.put, List.setIfInBounds_toArray, List.set_cons_zero, List.set_cons_succ]
      refine held_take (i := 2) (v := ?_) (d := some 33) rfl rfl (by kernel_rfl) (by kernel_rfl) (by kernel_rfl) (fun _ _ _ h => h) (HC.out _ HKa.out) ⟨?_, fun w hSw => ?_⟩ ?_
      rotate_left 1
      · rfl
      · (go_simp; all_goals with_reducible rfl)
      simp only [Act.put, List.setIfInBounds_toArray, List.set_cons_zero, List.set_cons_succ]
      refine held_take (i := 3) (v := ?_) (d := some 34) rfl rfl (by kernel_rfl) (by kernel_rfl) (by kernel_rfl) (fun _ _ _ h => h) (HC.out _ HKa.out) ⟨?_, fun w hSw => ?_⟩ ?_
      rotate_left 1
      · rfl
      · obtain ⟨y1, y2, y3, y4, y5⟩ := hSw
        (go_simp; all_goals with_reducible rfl)
      simp only [Act.put, List.setIfInBounds_toArray, List.set_cons_zero, List.set_cons_succ]
      refine held_take (i := 4) (v := ?_) (d := some 35) rfl rfl (by kernel_rfl) (by kernel_rfl) (by kernel_rfl) (fun _ _ _ h => h) (HC.out _ HKa.out) ⟨?_, fun w hSw => ?_⟩ ?_
      rotate_left 1
      · rfl
      · (go_simp; all_goals with_reducible rfl)
      simp only [Act.put, List.setIfInBounds_toArray, List.set_cons_zero, List.set_cons_succ]
      refine held_take (i := 7) (v := ?_) (d := some 38) rfl rfl (by kernel_rfl) (by kernel_rfl) (by kernel_rfl) (fun _ _ _ h => h) (HC.out _ HKa.out) ⟨?_, fun w hSw => ?_⟩ ?_
      rotate_left 1
      · rfl
      · (go_simp; all_goals with_reducible rfl)
      simp only [Act.put, List.setIfInBounds_toArray, List.set_cons_zero, List.set_cons_succ]
      refine held_take (i := 8) (v := ?_) (d := some 39) rfl rfl (by kernel_rfl) (by kernel_rfl) (by kernel_rfl) (fun _ _ _ h => h) (HC.out _ HKa.out) ⟨?_, fun w hSw => ?_⟩ ?_
      rotate_left 1
      · rfl
      · (go_simp; all_goals with_reducible rfl)
      simp only [Act.put, List.setIfInBounds_toArray, List.set_cons_zero, List.set_cons_succ]
      refine held_take (i := 9) (v := ?_) (d := some 40) rfl rfl (by kernel_rfl) (by kernel_rfl) (by kernel_rfl) (fun _ _ _ h => h) (HC.out _ HKa.out) ⟨?_, fun w hSw => ?_⟩ ?_
      rotate_left 1
      · rfl
      · (go_simp; all_goals with_reducible rfl)
      simp only [Act.put, List.setIfInBounds_toArray, List.set_cons_zero, List.set_cons_succ]
      refine held_take (i := 11) (v := ?_) (d := some 42) rfl rfl (by kernel_rfl) (by kernel_rfl) (by kernel_rfl) (fun _ _ _ h => h) (HC.out _ HKa.out) ⟨?_, fun w hSw => ?_⟩ ?_
      rotate_left 1
      · rfl
      · (go_simp; all_goals with_reducible rfl)
      simp only [Act.put, List.setIfInBounds_toArray, List.set_cons_zero, List.set_cons_succ]
      refine hold_two (i := 5) (j := 10) rfl rfl (by kernel_rfl) (by rfl) (by rfl) (fun K hK => ?_) (fun K hK => ?_)
      · go_simp
        have HL1 : Hid (Below wa.heap.size wa (wa.alloc (.cells #[.string k, .int .i64 e0, .int .i64 e1, .int .i64 e2, .int .i64 e3, .bool e4] 38))) := (Below.refl _ _).alloc (Nat.le_refl _) _
        have HX1 := Lib.hid (heap_alloc_new wa (.cells #[.string k, .int .i64 e0, .int .i64 e1, .int .i64 e2, .int .i64 e3, .bool e4] 38))
        have HK1 := Lib.hid (HKa.out.trans (Kept.alloc wa (.cells #[.string k, .int .i64 e0, .int .i64 e1, .int .i64 e2, .int .i64 e3, .bool e4] 38)))
        have HR1 := Lib.hid (HRa.out.new HL1.out)
        clear HL1
        generalize wa.alloc (.cells #[.string k, .int .i64 e0, .int .i64 e1, .int .i64 e2, .int .i64 e3, .bool e4] 38) = w1x at *
        generalize wa.heap.size = q1 at *
        refine hK _ _ (HC.out _ HK1.out) ?_
        clear hK K
        simp only [List.setIfInBounds_toArray, List.set_cons_zero, List.set_cons_succ]
        refine hold_two (i := 6) (j := 10) rfl rfl (by kernel_rfl) (by rfl) (by rfl) (fun K hK => ?_) (fun K hK => ?_)
        · refine op_append_one' (Sh := prS) 37 rfl (.tmp 32) (.tmp 36) 28 rfl Try.underlying28 info_pair rfl vz i (L.take i) rfl HR1.out q1 1 (k, ⟨e0, e1, e2, e3, e4⟩) rfl HX1.out (by omega) (by omega) ?_
          intro v2 w2x hr2 hk2
          have HR2 := Lib.hid (hr2.mono fun k _ h => h.elim id fun h => by have := HZ.out; have := HK1.out.size; have h : w1x.heap.size ≤ k := h; omega)
          have HK2 := Lib.hid (HK1.out.trans hk2)
          clear hr2 hk2
          refine hK _ _ (HC.out _ HK2.out) ?_
          clear hK K
          simp only [Act.put, List.setIfInBounds_toArray, List.set_cons_zero, List.set_cons_succ]
          refine held_step (i := 10) rfl (by kernel_rfl) ?_ (fun K hK => ?_)
          · rfl
          have z0 := HCM.out _ HK2.out
          go_simp
          clear z0
          refine hK _ _ (HC.out _ HK2.out) ?_
          clear hK K
          simp only [List.setIfInBounds_toArray, List.set_cons_zero, List.set_cons_succ]
          refine held_take (i := 12) (v := ?_) (d := some 43) rfl rfl (by kernel_rfl) (by kernel_rfl) (by kernel_rfl) (fun _ _ _ h => h) (HC.out _ HK2.out) ⟨?_, fun w hSw => ?_⟩ ?_
          rotate_left 1
          · rfl
          · (go_simp; all_goals with_reducible rfl)
          simp only [Act.put, List.setIfInBounds_toArray, List.set_cons_zero, List.set_cons_succ]
          refine held_step (i := 13) rfl (by kernel_rfl) ?_ (fun K hK => ?_)
          · rfl
          refine op_append_srow' 44 rfl (.tmp 37) (.tmp 43) 28 rfl 38 _ 6 56 Try.underlying28 info_pair (by rfl) (by decide) v2 (i + 1) (prS.flat (L.take i ++ [(k, ⟨e0, e1, e2, e3, e4⟩)])) rfl HR2.out _ _ _ (prS.flat (L.drop i)) rfl (fun e => by split at e <;> cases e) HLD.out (row_back_if (HRV.out _ HK2.out) i HIL.out) (Shape.flat_one' prS _) (by unfold maxLen; omega) (by omega) ?_
          intro v4 w4x hr4 hk4
          have HK4 := Lib.hid (HK2.out.trans hk4)
          have HR4 := Lib.hid (hr4.mono fun k _ h => h.elim id fun h => by have := HZ.out; have := HK2.out.size; have h : w2x.heap.size ≤ k := h; omega)
          clear hr4 hk4
          obtain ⟨A4, c4, ev4, -⟩ := HR4.out.open_
          subst ev4
          refine hK _ _ (HC.out _ HK4.out) ?_
          clear hK K
          simp only [Act.put, List.setIfInBounds_toArray, List.set_cons_zero, List.set_cons_succ]
          refine held_take (i := 14) (v := ?_) (d := some 45) rfl rfl (by kernel_rfl) (by kernel_rfl) (by kernel_rfl) (fun _ _ _ h => h) (HC.out _ HK4.out) ⟨?_, fun w hSw => ?_⟩ ?_
          rotate_left 1
          · rfl
          · (go_simp; all_goals with_reducible rfl)
          simp only [Act.put, List.setIfInBounds_toArray, List.set_cons_zero, List.set_cons_succ]
          refine held_take (i := 15) (v := ?_) (d := some 46) rfl rfl (by kernel_rfl) (by kernel_rfl) (by kernel_rfl) (fun _ _ _ h => h) (HC.out _ HK4.out) ⟨?_, fun w hSw => ?_⟩ ?_
          rotate_left 1
          · rfl
          · (go_simp; all_goals with_reducible rfl)
          simp only [Act.put, List.setIfInBounds_toArray, List.set_cons_zero, List.set_cons_succ]
          refine held_step (i := 16) rfl (by kernel_rfl) ?_ (fun K hK => ?_)
          · rfl
          generalize (if c = i then some (⟨g, 0, none⟩ : Addr) else some ⟨g, i * 6, none⟩) = pz
          have z0 := HCM.out _ HK4.out
          have g0 := HFM.out _ HK4.out
          go_simp
          clear z0 g0
          refine hK _ _ (HC2.out _ HK4.out _) ?_
          clear hK K
          simp only [List.setIfInBounds_toArray, List.set_cons_zero, List.set_cons_succ]
          refine wpAnyH_done (by kernel_rfl) ?_ _
          have HE := Lib.hid (ref_new HZ.out HB1.out HK4.out HRM.out HM0.out (HHM.out _ HK4.out) HR4.out)
          go_wp2_with fail
          go_end0
          exact HFIN.out _ HE.out.1 HE.out.2
        · have z0 := HCM.out _ HK1.out
          go_simp
          clear z0
          refine hK _ _ (HC.out _ HK1.out) ?_
          clear hK K
          simp only [List.setIfInBounds_toArray, List.set_cons_zero, List.set_cons_succ]
          refine held_take (i := 12) (v := ?_) (d := some 43) rfl rfl (by kernel_rfl) (by kernel_rfl) (by kernel_rfl) (fun _ _ _ h => h) (HC.out _ HK1.out) ⟨?_, fun w hSw => ?_⟩ ?_
          rotate_left 1
          · rfl
          · (go_simp; all_goals with_reducible rfl)
          simp only [Act.put, List.setIfInBounds_toArray, List.set_cons_zero, List.set_cons_succ]
          refine held_step (i := 6) rfl (by kernel_rfl) ?_ (fun K hK => ?_)
          · rfl
          refine op_append_one' (Sh := prS) 37 rfl (.tmp 32) (.tmp 36) 28 rfl Try.underlying28 info_pair rfl vz i (L.take i) rfl HR1.out q1 1 (k, ⟨e0, e1, e2, e3, e4⟩) rfl HX1.out (by omega) (by omega) ?_
          intro v7 w7x hr7 hk7
          have HR7 := Lib.hid (hr7.mono fun k _ h => h.elim id fun h => by have := HZ.out; have := HK1.out.size; have h : w1x.heap.size ≤ k := h; omega)
          have HK7 := Lib.hid (HK1.out.trans hk7)
          clear hr7 hk7
          refine hK _ _ (HC.out _ HK7.out) ?_
          clear hK K
          simp only [Act.put, List.setIfInBounds_toArray, List.set_cons_zero, List.set_cons_succ]
          refine held_step (i := 13) rfl (by kernel_rfl) ?_ (fun K hK => ?_)
          · rfl
          refine op_append_srow' 44 rfl (.tmp 37) (.tmp 43) 28 rfl 38 _ 6 56 Try.underlying28 info_pair (by rfl) (by decide) v7 (i + 1) (prS.flat (L.take i ++ [(k, ⟨e0, e1, e2, e3, e4⟩)])) rfl HR7.out _ _ _ (prS.flat (L.drop i)) rfl (fun e => by split at e <;> cases e) HLD.out (row_back_if (HRV.out _ HK7.out) i HIL.out) (Shape.flat_one' prS _) (by unfold maxLen; omega) (by omega) ?_
          intro v8 w8x hr8 hk8
          have HK8 := Lib.hid (HK7.out.trans hk8)
          have HR8 := Lib.hid (hr8.mono fun k _ h => h.elim id fun h => by have := HZ.out; have := HK7.out.size; have h : w7x.heap.size ≤ k := h; omega)
          clear hr8 hk8
          obtain ⟨A8, c8, ev8, -⟩ := HR8.out.open_
          subst ev8
          refine hK _ _ (HC.out _ HK8.out) ?_
          clear hK K
          simp only [Act.put, List.setIfInBounds_toArray, List.set_cons_zero, List.set_cons_succ]
          refine held_take (i := 14) (v := ?_) (d := some 45) rfl rfl (by kernel_rfl) (by kernel_rfl) (by kernel_rfl) (fun _ _ _ h => h) (HC.out _ HK8.out) ⟨?_, fun w hSw => ?_⟩ ?_
          rotate_left 1
          · rfl
          · (go_simp; all_goals with_reducible rfl)
          simp only [Act.put, List.setIfInBounds_toArray, List.set_cons_zero, List.set_cons_succ]
          refine held_take (i := 15) (v := ?_) (d := some 46) rfl rfl (by kernel_rfl) (by kernel_rfl) (by kernel_rfl) (fun _ _ _ h => h) (HC.out _ HK8.out) ⟨?_, fun w hSw => ?_⟩ ?_
          rotate_left 1
          · rfl
          · (go_simp; all_goals with_reducible rfl)
          simp only [Act.put, List.setIfInBounds_toArray, List.set_cons_zero, List.set_cons_succ]
          refine held_step (i := 16) rfl (by kernel_rfl) ?_ (fun K hK => ?_)
          · rfl
          generalize (if c = i then some (⟨g, 0, none⟩ : Addr) else some ⟨g, i * 6, none⟩) = pz
          have z0 := HCM.out _ HK8.out
          have g0 := HFM.out _ HK8.out
          go_simp
          clear z0 g0
          refine hK _ _ (HC2.out _ HK8.out _) ?_
          clear hK K
          simp only [List.setIfInBounds_toArray, List.set_cons_zero, List.set_cons_succ]
          refine wpAnyH_done (by kernel_rfl) ?_ _
          have HE := Lib.hid (ref_new HZ.out HB1.out HK8.out HRM.out HM0.out (HHM.out _ HK8.out) HR8.out)
          go_wp2_with fail
          go_end0
          exact HFIN.out _ HE.out.1 HE.out.2
      · have z0 := HCM.out _ HKa.out
        go_simp
        clear z0
        refine hK _ _ (HC.out _ HKa.out) ?_
        clear hK K
        simp only [List.setIfInBounds_toArray, List.set_cons_zero, List.set_cons_succ]
        refine held_take (i := 12) (v := ?_) (d := some 43) rfl rfl (by kernel_rfl) (by kernel_rfl) (by kernel_rfl) (fun _ _ _ h => h) (HC.out _ HKa.out) ⟨?_, fun w hSw => ?_⟩ ?_
        rotate_left 1
        · rfl
        · (go_simp; all_goals with_reducible rfl)
        simp only [Act.put, List.setIfInBounds_toArray, List.set_cons_zero, List.set_cons_succ]
        refine held_step (i := 5) rfl (by kernel_rfl) ?_ (fun K hK => ?_)
        · rfl
        go_simp
        have HL11 : Hid (Below wa.heap.size wa (wa.alloc (.cells #[.string k, .int .i64 e0, .int .i64 e1, .int .i64 e2, .int .i64 e3, .bool e4] 38))) := (Below.refl _ _).alloc (Nat.le_refl _) _
        have HX11 := Lib.hid (heap_alloc_new wa (.cells #[.string k, .int .i64 e0, .int .i64 e1, .int .i64 e2, .int .i64 e3, .bool e4] 38))
        have HK11 := Lib.hid (HKa.out.trans (Kept.alloc wa (.cells #[.string k, .int .i64 e0, .int .i64 e1, .int .i64 e2, .int .i64 e3, .bool e4] 38)))
        have HR11 := Lib.hid (HRa.out.new HL11.out)
        clear HL11
        generalize wa.alloc (.cells #[.string k, .int .i64 e0, .int .i64 e1, .int .i64 e2, .int .i64 e3, .bool e4] 38) = w11x at *
        generalize wa.heap.size = q11 at *
        refine hK _ _ (HC.out _ HK11.out) ?_
        clear hK K
        simp only [List.setIfInBounds_toArray, List.set_cons_zero, List.set_cons_succ]
        refine held_step (i := 6) rfl (by kernel_rfl) ?_ (fun K hK => ?_)
        · rfl
        refine op_append_one' (Sh := prS) 37 rfl (.tmp 32) (.tmp 36) 28 rfl Try.underlying28 info_pair rfl vz i (L.take i) rfl HR11.out q11 1 (k, ⟨e0, e1, e2, e3, e4⟩) rfl HX11.out (by omega) (by omega) ?_
        intro v12 w12x hr12 hk12
        have HR12 := Lib.hid (hr12.mono fun k _ h => h.elim id fun h => by have := HZ.out; have := HK11.out.size; have h : w11x.heap.size ≤ k := h; omega)
        have HK12 := Lib.hid (HK11.out.trans hk12)
        clear hr12 hk12
        refine hK _ _ (HC.out _ HK12.out) ?_
        clear hK K
        simp only [Act.put, List.setIfInBounds_toArray, List.set_cons_zero, List.set_cons_succ]
        refine held_step (i := 13) rfl (by kernel_rfl) ?_ (fun K hK => ?_)
        · rfl
        refine op_append_srow' 44 rfl (.tmp 37) (.tmp 43) 28 rfl 38 _ 6 56 Try.underlying28 info_pair (by rfl) (by decide) v12 (i + 1) (prS.flat (L.take i ++ [(k, ⟨e0, e1, e2, e3, e4⟩)])) rfl HR12.out _ _ _ (prS.flat (L.drop i)) rfl (fun e => by split at e <;> cases e) HLD.out (row_back_if (HRV.out _ HK12.out) i HIL.out) (Shape.flat_one' prS _) (by unfold maxLen; omega) (by omega) ?_
        intro v13 w13x hr13 hk13
        have HK13 := Lib.hid (HK12.out.trans hk13)
        have HR13 := Lib.hid (hr13.mono fun k _ h => h.elim id fun h => by have := HZ.out; have := HK12.out.size; have h : w12x.heap.size ≤ k := h; omega)
        clear hr13 hk13
        obtain ⟨A13, c13, ev13, -⟩ := HR13.out.open_
        subst ev13
        refine hK _ _ (HC.out _ HK13.out) ?_
        clear hK K
        simp only [Act.put, List.setIfInBounds_toArray, List.set_cons_zero, List.set_cons_succ]
        refine held_take (i := 14) (v := ?_) (d := some 45) rfl rfl (by kernel_rfl) (by kernel_rfl) (by kernel_rfl) (fun _ _ _ h => h) (HC.out _ HK13.out) ⟨?_, fun w hSw => ?_⟩ ?_
        rotate_left 1
        · rfl
        · (go_simp; all_goals with_reducible rfl)
        simp only [Act.put, List.setIfInBounds_toArray, List.set_cons_zero, List.set_cons_succ]
        refine held_take (i := 15) (v := ?_) (d := some 46) rfl rfl (by kernel_rfl) (by kernel_rfl) (by kernel_rfl) (fun _ _ _ h => h) (HC.out _ HK13.out) ⟨?_, fun w hSw => ?_⟩ ?_
        rotate_left 1
        · rfl
        · (go_simp; all_goals with_reducible rfl)
        simp only [Act.put, List.setIfInBounds_toArray, List.set_cons_zero, List.set_cons_succ]
        refine held_step (i := 16) rfl (by kernel_rfl) ?_ (fun K hK => ?_)
        · rfl
        generalize (if c = i then some (⟨g, 0, none⟩ : Addr) else some ⟨g, i * 6, none⟩) = pz
        have z0 := HCM.out _ HK13.out
        have g0 := HFM.out _ HK13.out
        go_simp
        clear z0 g0
        refine hK _ _ (HC2.out _ HK13.out _) ?_
        clear hK K
        simp only [List.setIfInBounds_toArray, List.set_cons_zero, List.set_cons_succ]
        refine wpAnyH_done (by kernel_rfl) ?_ _
        have HE := Lib.hid (ref_new HZ.out HB1.out HK13.out HRM.out HM0.out (HHM.out _ HK13.out) HR13.out)
        go_wp2_with fail
        go_end0
        exact HFIN.out _ HE.out.1 HE.out.2
/-- What the reference's Delete does. -/
def RDel (R : Nat → Prop) (m : Nat) (k : ByteArray) (L : List Tb.Pr) (w : World) (e : Ending) (w' : World) : Prop :=
  ∃ y L', e = .returned (.bool y) ∧ Kept R w w' ∧ RT (Since R w w') w' m L' ∧ Tb.Srt L' ∧ ((y = true ∧ (∃ x, (k, x) ∈ L) ∧ L'.length + 1 = L.length) ∨ (y = false ∧ (∀ x, (k, x) ∉ L) ∧ L'.length = L.length)) ∧ ∀ k' e', (k', e') ∈ L' ↔ (k ≠ k' ∧ (k', e') ∈ L)
end Go.Proofs.Ytcdomlgnfbdeoaa
