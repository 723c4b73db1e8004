/-
  The walks of add and set.
-/
import Derived.Test.YtkhmimdigdjajaaExRemove
set_option maxRecDepth 100000
namespace Go.Proofs.Ytkhmimdigdjajaa
open Go.RowKit Go.Maps
theorem info_ndp : (Try.prog.info? 55).map (fun i => (i.zero, i.size, i.bytes)) = some (some (.pointer none), 1, 8) := by kernel_rfl
/-- What stands behind the append: one node more. -/
structure Ad1 (S : Nat → Prop) (q : Nat) (v : Value) (mb : Option Nat) (h : List Ex.Nd) (x : Ex.Nd) (w w' : World) : Prop where
  hp : HpIn w' (Snc S w w') q v mb (h ++ [x])
  kept : Kept S w w'
  map : ∀ (b : Nat) es c, w.heap[b]? = some (.map es c) → w'.heap[b]? = some (.map es c)
theorem Ad1.make {S : Nat → Prop} {q : Nat} {v v' : Value} {mb : Option Nat} {h : List Ex.Nd} {k : ByteArray} {r : Int} {w w2 w3 : World} (H : HpIn w S q v mb h) (hb : Below w.heap.size w w2) (h2 : w.heap.size < w2.heap.size)
    (hx : w2.heap[w.heap.size]? = some (.cells (ndc ⟨⟨k, r⟩, w.heap.size⟩ h.length) 58 (0, 0)))
    (hr : SRow (Grow (fun k => v.ownBlock = some k) w2) 55 1 w3 v' (h.length + 1) (h.map ndp ++ [ndp ⟨⟨k, r⟩, w.heap.size⟩])) (hk : Kept (fun k => v.ownBlock = some k) w2 w3) :
    Ad1 S q v' mb h ⟨⟨k, r⟩, w.heap.size⟩ w (w3.setCell ⟨q, 0, none⟩ v') := by
  have hql := (Array.getElem?_eq_some_iff.1 H.box).1
  have hrow : ∀ g, v.ownBlock = some g → S g ∧ g < w.heap.size ∧ ∃ cur, w.heap[g]? = some (Obj.cells cur 55 (0, 0)) := fun g e => by
    rcases H.row.1.2 with ⟨rfl, -⟩ | ⟨g', cap, cur, rfl, -, hg, -⟩
    · cases e
    · obtain rfl : g' = g := Option.some.inj e
      exact ⟨H.row.2 g' rfl, (Array.getElem?_eq_some_iff.1 hg).1, cur, hg⟩
  have hst : ∀ (b : Nat) (o : Obj), w.heap[b]? = some o → v.ownBlock ≠ some b → w3.heap[b]? = some o := fun b o e hne =>
    (hk.block b (Nat.lt_of_lt_of_le (Array.getElem?_eq_some_iff.1 e).1 hb.size) hne).trans ((hb.block b (Array.getElem?_eq_some_iff.1 e).1).trans e)
  have hvq : v.ownBlock ≠ some q := fun e => by
    obtain ⟨-, -, cur, hg⟩ := hrow q e
    have := H.box; rw [hg] at this; cases this
  have hvn : ∀ i, i < h.length → v.ownBlock ≠ some (Ex.nd h i).b := fun i hi e => by
    obtain ⟨-, -, cur, hg⟩ := hrow _ e
    rw [(H.node i hi).2] at hg; cases hg
  have hqn : ∀ i, i < h.length → (Ex.nd h i).b ≠ q := fun i hi e => by have := H.box; rw [← e, (H.node i hi).2] at this; cases this
  have hx3 : w3.heap[w.heap.size]? = some (.cells (ndc ⟨⟨k, r⟩, w.heap.size⟩ h.length) 58 (0, 0)) := (hk.block _ h2 fun e => by
    obtain ⟨-, hl, -⟩ := hrow _ e
    exact Nat.lt_irrefl _ hl).trans hx
  have hsz : (w3.setCell ⟨q, 0, none⟩ v').heap.size = w3.heap.size := by simp [World.setCell]
  have hqb := hst q _ H.box hvq
  have hv'q : v'.ownBlock ≠ some q := fun e => by
    rcases hr.1.2 with ⟨rfl, -⟩ | ⟨g', cap, cur, rfl, -, hg, -⟩
    · cases e
    · obtain rfl : g' = q := Option.some.inj e
      rw [hqb] at hg; cases hg
  have hk0 : Kept S w (w3.setCell ⟨q, 0, none⟩ v') := ((Kept.of_new hb : Kept S w w2).trans' hk fun i hi hl => (hrow i hi).1).trans (Kept.setCell _ ⟨q, 0, none⟩ _ H.sq)
  refine ⟨⟨.inl H.sq, set_at (cs := [_, _]) hqb 0 _, ?_, fun i hi => ?_⟩, hk0, fun b es c e => ?_⟩
  · rw [List.length_append, List.length_singleton, List.map_append, List.map_singleton]
    refine ⟨ownsRow_block hr.1 fun g e => set_past rfl (fun e2 => hv'q (by rw [← e2]; exact e)) 0 _, fun g e => ?_⟩
    have hgl := hr.lt e
    rcases hr.2 g e with h1 | h1
    · exact .inl (hrow g h1).1
    · exact .inr ⟨Nat.le_trans hb.size h1, by rw [hsz]; exact hgl⟩
  · rw [List.length_append, List.length_singleton] at hi
    by_cases e : i = h.length
    · subst e
      rw [Ex.nd_last]
      exact ⟨.inr ⟨Nat.le_refl _, by rw [hsz]; exact Nat.lt_of_lt_of_le h2 hk.size⟩, set_past hx3 (fun e => by rw [e] at hql; exact Nat.lt_irrefl _ hql) 0 _⟩
    · have hi2 : i < h.length := by omega
      rw [Ex.nd_left hi2]
      exact ⟨.inl (H.node i hi2).1, set_past (hst _ _ (H.node i hi2).2 (hvn i hi2)) (hqn i hi2) 0 _⟩
  · have hne : v.ownBlock ≠ some b := fun e2 => by
      obtain ⟨-, -, cur, hg⟩ := hrow b e2
      rw [e] at hg; cases hg
    exact set_past (hst b _ e hne) (fun e2 => by have := H.box; rw [← e2, e] at this; cases this) 0 _
/-- The queue has its map. -/
def Ad2 (M : Nat) (S : Nat → Prop) (q : Nat) (v : Value) (h : List Ex.Nd) (x : Ex.Nd) (w w' : World) : Prop :=
  ∃ b D, HpIn w' (Snc S w w') q v (some b) (h ++ [x]) ∧ Kept S w w' ∧ Snc S w w' b ∧ w'.ownsMap Try.prog 9 exRaw b M D ∧ KeysAt D h
theorem HpIn.mapped {w : World} {S : Nat → Prop} {q : Nat} {v : Value} {mb : Option Nat} {h : List Ex.Nd} (H : HpIn w S q v mb h) (mb' : Option Nat) : HpIn (w.setCell ⟨q, 1, none⟩ (.map mb')) S q v mb' h := by
  refine ⟨H.sq, set_at (cs := [_, _]) H.box 1 _, ⟨ownsRow_block H.row.1 fun k e => set_past rfl (fun e2 => ?_) 1 _, H.row.2⟩, fun i hi => ⟨(H.node i hi).1, set_past (H.node i hi).2 (fun e => ?_) 1 _⟩⟩
  · subst e2
    rcases H.row.1.2 with ⟨rfl, -⟩ | ⟨g', cap, cur, rfl, -, hg, -⟩
    · cases e
    · obtain rfl : g' = k := Option.some.inj e
      have := H.box; rw [hg] at this; cases this
  · have := H.box
    rw [← e, (H.node i hi).2] at this
    cases this
theorem ad2_first {M : Nat} {S : Nat → Prop} {q : Nat} {v : Value} {x : Ex.Nd} {w w4 : World} (HA : Ad1 S q v none [] x w w4) : Ad2 M S q v [] x w ((w4.alloc (.map #[] 0)).setCell ⟨q, 1, none⟩ (.map (some w4.heap.size))) := by
  have hb : Below w4.heap.size w4 (w4.alloc (.map #[] 0)) := (Below.refl _ _).alloc (Nat.le_refl _) _
  have hz : ((w4.alloc (.map #[] 0)).setCell ⟨q, 1, none⟩ (.map (some w4.heap.size))).heap.size = w4.heap.size + 1 := by simp [World.setCell]
  have hql := (Array.getElem?_eq_some_iff.1 HA.hp.box).1
  have hmono : ∀ k, Snc S w w4 k → Snc S w ((w4.alloc (.map #[] 0)).setCell ⟨q, 1, none⟩ (.map (some w4.heap.size))) k := fun k hk => hk.imp id fun h => ⟨h.1, by rw [hz]; omega⟩
  have hne : w4.heap.size ≠ q := fun e => by rw [e] at hql; exact Nat.lt_irrefl _ hql
  refine ⟨w4.heap.size, .map [], ((HA.hp.next hb).mapped _).mono fun k _ hk => hmono k hk, ?_, .inr ⟨HA.kept.size, by rw [hz]; exact Nat.lt_succ_self _⟩, ?_, ⟨(fun x hx => by cases hx), fun k _ z => rfl⟩⟩
  · exact HA.kept.snc ((Kept.of_new hb : Kept (Snc S w w4) w4 _).trans (Kept.setCell _ ⟨q, 1, none⟩ _ HA.hp.sq))
  · obtain ⟨es, cl, h1, F, hs, hD⟩ := World.ownsMap_made w4 Try.prog 9 exRaw
    exact ⟨es, cl, set_past h1 hne 1 _, F, Nat.le_trans hs (Nat.zero_le _), hD⟩
/-- What add leaves. -/
def ExAdd (M : Nat) (S : Nat → Prop) (q : Nat) (h : List Ex.Nd) (k : ByteArray) (w : World) (e : Ending) (w' : World) : Prop :=
  ∃ b v mb, e = .returned (.pointer (some ⟨b, 0, none⟩)) ∧ Kept S w w' ∧ HpIn w' (Snc S w w') q v mb (h ++ [⟨⟨k, 0⟩, b⟩]) ∧ MpIn (M + 1) w' (Snc S w w') mb (h ++ [⟨⟨k, 0⟩, b⟩])
set_option maxHeartbeats 2000000 in
theorem exadd_any (M q n : Nat) (k : ByteArray) (v : Value) (mb : Option Nat) (h : List Ex.Nd) (S : Nat → Prop) (w : World) (hM : M ≤ 1000000) (hk : k.size ≤ 1048576) (hn : Hid (h.length = n)) (hle : n ≤ 1000000) (hno : Hid (∀ x ∈ h, x.o.k ≠ k)) (H : Hid (HpIn w S q v mb h)) (HM : Hid (MpIn M w S mb h)) :
    Calls Try.prog 24 #[.pointer (some ⟨q, 0, none⟩), .string k] w (ExAdd M S q h k w) := by
  obtain ⟨q0, q1⟩ := two_cells_at H.out.box
  have HQB := Lib.hid H.out.box
  have hql := (Array.getElem?_eq_some_iff.1 H.out.box).1
  obtain ⟨A, c, rfl, hsl⟩ := H.out.row.open_
  have hrow := H.out.row
  rw [hn.out] at q0 hrow
  have HMK := Lib.hid (fun (w2 w3 : World) (v' : Value) hb h2 hx hr hk => Ad1.make (k := k) (r := 0) (w2 := w2) (w3 := w3) (v' := v') H.out hb h2 hx hr hk)
  rw [hn.out] at HMK HQB
  obtain ⟨w1, hw1⟩ : ∃ w1, w.alloc (.cells #[.string k, .int .i64 0, .int .i64 (n : Int)] 58 (0, 0)) = w1 := ⟨_, rfl⟩
  obtain ⟨x, hx⟩ : ∃ x, w.heap.size = x := ⟨_, rfl⟩
  obtain ⟨w2, hw2⟩ : ∃ w2, w1.alloc (.cells #[.pointer (some ⟨x, 0, none⟩)] 55 (0, 0)) = w2 := ⟨_, rfl⟩
  have hB1 : Below w.heap.size w w1 := by rw [← hw1]; exact (Below.refl _ _).alloc (Nat.le_refl _) _
  have hs1 : w1.heap.size = x + 1 := by rw [← hw1, ← hx]; simp
  have hx1 : w1.heap[x]? = some (.cells #[.string k, .int .i64 0, .int .i64 (n : Int)] 58 (0, 0)) := by rw [← hw1, ← hx]; exact heap_alloc_new _ _
  have hB2 : Below w1.heap.size w1 w2 := by rw [← hw2]; exact (Below.refl _ _).alloc (Nat.le_refl _) _
  have hy2 : w2.heap[x + 1]? = some (.cells #[.pointer (some ⟨x, 0, none⟩)] 55 (0, 0)) := by rw [← hw2, ← hs1]; exact heap_alloc_new _ _
  have hx2 := (hB2.block x (by omega)).trans hx1
  have hB12 : Below w.heap.size w w2 := hB1.trans (hB2.mono hB1.size)
  have hs2 : w.heap.size < w2.heap.size := by rw [hx]; have := hB2.size; omega
  have hrow2 : SRow (fun k => (Value.slice A n c).ownBlock = some k) 55 1 w2 (.slice A n c) n (h.map ndp) := ⟨(hrow.new hB12).1, fun k e => e⟩
  have hq2 : w2.heap[q]? = some (.cells #[.slice A n c, .map mb] 53 (0, 0)) := (hB12.block q hql).trans HQB.out
  have d0 : w1.cell? ⟨q, 0, none⟩ = some (.slice A n c) := (two_cells_at ((hB1.block q hql).trans HQB.out)).1
  have HR2 := Lib.hid hrow2
  have HY2 := Lib.hid hy2
  have HMK2 := Lib.hid (fun (w3 : World) (v' : Value) hr hk => HMK.out w2 w3 v' hB12 hs2 (by rw [hx]; exact hx2) hr hk)
  have HQ2 := Lib.hid hq2
  have HVQ : Hid ((Value.slice A n c).ownBlock ≠ some q) := fun e => by
    rcases hrow.1.2 with ⟨e0, -⟩ | ⟨g', cap, cur, e0, -, hg, -⟩
    · rw [e0] at e; cases e
    · rw [e0] at e
      obtain rfl : g' = q := Option.some.inj e
      have := HQB.out; rw [hg] at this; cases this
  have HW1 := Lib.hid hw1
  have HW2 := Lib.hid hw2
  have HX := Lib.hid hx
  have HS1 := Lib.hid hs1
  have HL1 : Hid (n + 1 ≤ maxLen) := by show _ ≤ _; unfold maxLen; omega
  have HL2 : Hid ((n + 1) * 8 ≤ 140737488355328) := by show _ ≤ _; omega
  have HQL : Hid (q < w2.heap.size) := Nat.lt_of_lt_of_le hql hB12.size
  have HNW : Hid (∀ (ad : Addr), some (⟨w1.heap.size, 0, none⟩ : Addr) = some ad → ∀ (j : Nat) (u : Value), [Value.pointer (some ⟨x, 0, none⟩)][j]? = some u → (w1.alloc (.cells #[.pointer (some ⟨x, 0, none⟩)] 55 (0, 0))).cell? (ad.add j) = some u) := fun ad e j u hu => by
    injection e with e
    subst e
    rw [arr_flat, Nat.zero_add, cell_of_row _ _ j _ _ _ (heap_alloc_new w1 _)]
    rw [← List.getElem?_toArray] at hu
    exact hu
  have HON : Hid (∀ u ∈ [Value.pointer (some ⟨x, 0, none⟩)], u.oneCell' = true) := fun u hu => by
    rw [List.mem_singleton] at hu
    subst hu; rfl
  clear hB1 hB2 hy2 hx2 hB12 hs2 hrow2 hq2 hrow HMK hx1 hn hsl HQB hql hw1 hw2 hx hs1
  go_enter Try.func24, Try.ntmps24
  go_upto_region 2 with fail
  rw [HW1.out, HX.out]
  clear q0 q1
  go_upto_region 3 with (at_builtin; refine append_srow (by rfl) (.tmp 18) (.tmp 20) 48 rfl 55 (.pointer none) 1 8 Try.underlying48 info_ndp rfl (by decide) (.slice A n c) n _ rfl (show SRow _ _ 1 (w1.alloc _) _ _ _ from HW2.out ▸ HR2.out) (some ⟨w1.heap.size, 0, none⟩) 1 1 [.pointer (some ⟨x, 0, none⟩)] rfl (fun e => by cases e) rfl HNW.out HON.out HL1.out HL2.out ?_; intro v' w3 hr hk; obtain ⟨A', c', rfl, -⟩ := hr.open_; rw [HW2.out] at hr hk; have HA := Lib.hid (HMK2.out w3 _ (by rw [HX.out]; exact hr) hk); have HQ3 := Lib.hid ((hk.block q HQL.out HVQ.out).trans HQ2.out); have g0 := (two_cells_at HQ3.out).1; have g1 : w3.frozen? ⟨q, 0, none⟩ = false := frozen_of_row _ q 0 _ _ HQ3.out; have g2 : (w3.setCell ⟨q, 0, none⟩ (.slice A' (n + 1) c')).cell? ⟨q, 1, none⟩ = some (.map mb) := (two_cells_at (set_at (cs := [_, _]) HQ3.out 0 _)).2; have HR3 := Lib.hid hr; clear hr hk)
  generalize w3.setCell ⟨q, 0, none⟩ (.slice A' (n + 1) c') = w4 at *
  rw [HX.out] at HA
  clear g0 g1 d0 HR3 HQ3 HR2 HY2 HMK2 HQ2 HVQ HNW HON
  have hcmp : ∀ W : World, (binOp .eql 49 (.map mb) (.map none)).run Try.prog W = .ok (.bool mb.isNone) W := fun W => by cases mb <;> kernel_rfl
  have hmm := @run_makeMap Try.prog
  go_upto_if 28 with fail
  go_cut [0] (fun s0 wx => s0 = .pointer (some ⟨q, 0, none⟩) ∧ Hid (Ad2 M S q (.slice A' (n + 1) c') h ⟨⟨k, 0⟩, x⟩ w wx))
  case first =>
    clear hcmp
    rcases HM.out with ⟨rfl, rfl⟩ | ⟨b, D, rfl, hSb, hown, hkeys⟩
    · have HE := Lib.hid (ad2_first (M := M) HA.out)
      have hql := (Array.getElem?_eq_some_iff.1 HA.out.hp.box).1
      have hB4 : Below w4.heap.size w4 (w4.alloc (.map #[] 0)) := (Below.refl _ _).alloc (Nat.le_refl _) _
      have f1 : (w4.alloc (.map #[] 0)).frozen? ⟨q, 1, none⟩ = false := frozen_of_row _ q 1 _ _ ((hB4.block q hql).trans HA.out.hp.box)
      have d1 : (w4.alloc (.map #[] 0)).cell? ⟨q, 1, none⟩ = some (.map none) := (two_cells_at ((hB4.block q hql).trans HA.out.hp.box)).2
      clear hql hB4
      go_wp2_with fail
      go_meet
      exact ⟨rfl, HE⟩
    · have HE : Hid (Ad2 M S q (.slice A' (n + 1) c') h ⟨⟨k, 0⟩, x⟩ w w4) := by
        obtain ⟨es, cl, h1, F, hs, hD⟩ := hown
        exact ⟨b, D, HA.out.hp, HA.out.kept, .inl hSb, ⟨es, cl, HA.out.map _ _ _ h1, F, hs, hD⟩, hkeys⟩
      clear hown hkeys hSb
      go_wp2_with fail
      go_meet
      exact ⟨rfl, HE⟩
  case rest =>
    obtain ⟨rfl, h2⟩ := hcut
    obtain ⟨b, D, hh, hkp, hSb, hown, hkeys⟩ := h2.out
    generalize wc = w5 at *
    obtain ⟨r0, r1⟩ := two_cells_at hh.box
    have HOW := Lib.hid hown
    have HNM : Hid (M < maxLen) := by show _ < _; unfold maxLen; omega
    have HKEY := Lib.hid (exKey hk)
    have HKA := Lib.hid (hkeys.put (r := 0) (b := x) (World.ownsMap.isMap hown) hno.out)
    have HFIN := Lib.hid (fun (w6 : World) (hg : w5.grownBy w6 (some b)) => (⟨hh.turned hg (own_map hown), hkp.snc (Kept.of_grown hg fun k e => Option.some.inj e ▸ hSb), hg.size⟩ : HpIn w6 (Snc S w w5) q _ (some b) _ ∧ Kept S w w6 ∧ w5.heap.size ≤ w6.heap.size))
    have HSB := Lib.hid hSb
    clear hcmp g2 hmm h2 hh hkp hSb hown hkeys
    go_wp2_with (at_mapUpdate; refine wpList_mapUpdate_own _ rfl _ _ _ 49 rfl 9 55 exLaw Try.underlying49 exRaw b _ _ rfl HOW.out HNM.out (.string k) (.pointer (some ⟨x, 0, none⟩)) (exLit k) rfl rfl HKEY.out (exP x) [] rfl ?_; intro w6 hown6 hg6; obtain ⟨k1, k2, k3⟩ := HFIN.out _ hg6; have HK1 := Lib.hid k1; have HK2 := Lib.hid k2; have HK3 := Lib.hid k3; have HO6 := Lib.hid hown6; clear hown6 hg6 k1 k2 k3)
    go_ret
    have hup : ∀ k, Snc S w w5 k → Snc S w w6 k := fun k hk => hk.imp id fun h => ⟨h.1, Nat.lt_of_lt_of_le h.2 HK3.out⟩
    exact ⟨x, _, some b, rfl, HK2.out, HK1.out.mono fun k _ h => hup k h, .inr ⟨b, _, rfl, hup b HSB.out, HO6.out, HKA.out⟩⟩
/-- A node's expiry set. -/
theorem HpIn.rank {w : World} {S : Nat → Prop} {q : Nat} {v : Value} {mb : Option Nat} {h : List Ex.Nd} (H : HpIn w S q v mb h) (i : Nat) (hi : i < h.length) {k : ByteArray} {r : Int} {b : Nat} (hx : Ex.nd h i = ⟨⟨k, r⟩, b⟩) (a : Int) :
    HpIn (w.setCell ⟨b, 1, none⟩ (.int .i64 a)) S q v mb (h.set i ⟨⟨k, a⟩, b⟩) ∧ Kept S w (w.setCell ⟨b, 1, none⟩ (.int .i64 a)) ∧ Same w (w.setCell ⟨b, 1, none⟩ (.int .i64 a)) := by
  obtain ⟨hSb, hb⟩ := H.node i hi
  rw [hx] at hSb hb
  have hqb : q ≠ b := fun e => by have := H.box; rw [e, hb] at this; cases this
  refine ⟨⟨H.sq, set_past H.box hqb 1 _, ?_, fun j hj => ?_⟩, Kept.setCell _ ⟨b, 1, none⟩ _ hSb, Same.setCell _ b 1 _ (.inl (by decide))⟩
  · rw [List.length_set, List.map_set]
    have e : (h.map ndp).set i (ndp ⟨⟨k, a⟩, b⟩) = h.map ndp := by
      apply List.ext_getElem?
      intro j
      rw [List.getElem?_set]
      split
      · rename_i e; subst e; rw [List.length_map, if_pos hi, ndp_nd h i hi, hx]; rfl
      · rfl
    rw [e]
    clear e
    refine ⟨ownsRow_block H.row.1 fun g e0 => set_past rfl (fun e2 => ?_) 1 _, H.row.2⟩
    subst e2
    rcases H.row.1.2 with ⟨e3, -⟩ | ⟨g', cap, cur, e3, -, hg, -⟩
    · rw [e3] at e0; cases e0
    · rw [e3] at e0
      obtain rfl : g' = g := Option.some.inj e0
      rw [hg] at hb; cases hb
  · rw [List.length_set] at hj
    rw [Ex.nd_set _ _ hi]
    by_cases e : j = i
    · subst e
      rw [if_pos rfl]
      exact ⟨hSb, set_at (cs := [_, _, _]) hb 1 _⟩
    · rw [if_neg e]
      exact ⟨(H.node j hj).1, set_past (H.node j hj).2 (fun e2 => e (H.place hj hi (by rw [hx]; exact e2))) 1 _⟩
/-- What stands ahead of the new expiry. -/
structure Se1 (M : Nat) (S : Nat → Prop) (q : Nat) (L : List Ex.On) (k : ByteArray) (a : Int) (w w' : World) (v : Value) (mb : Option Nat) (h : List Ex.Nd) (i b : Nat) (r : Int) : Prop where
  hp : HpIn w' (Snc S w w') q v mb h
  kept : Kept S w w'
  mp : MpIn (M + 1) w' (Snc S w w') mb h
  lt : i < h.length
  x : Ex.nd h i = ⟨⟨k, r⟩, b⟩
  le : h.length ≤ M + 1
  off : Ex.Off (h.set i ⟨⟨k, a⟩, b⟩) i
  rep : ∀ h', h'.Perm (h.set i ⟨⟨k, a⟩, b⟩) → Ex.Heap h' → Ex.Rep h' (Ex.put L k a)
/-- What set leaves. -/
def ExSet (M : Nat) (S : Nat → Prop) (q : Nat) (L : List Ex.On) (k : ByteArray) (a : Int) (w : World) (e : Ending) (w' : World) : Prop :=
  e = .returned (.tuple #[]) ∧ Kept S w w' ∧ Que (M + 1) w' (Snc S w w') q (Ex.put L k a)
theorem set_off {h : List Ex.Nd} {x : Ex.Nd} {i : Nat} (hH : Ex.Heap h) (hi : i < h.length) : Ex.Off (h.set i x) i :=
  Ex.heap_off hH (by rw [List.length_set]; exact Nat.le_refl _) fun j _ hne => by unfold Ex.at_; rw [Ex.nd_set _ _ hi, if_neg hne]
theorem add_off {h : List Ex.Nd} {x y : Ex.Nd} (hH : Ex.Heap h) : Ex.Off ((h ++ [x]).set h.length y) h.length := by
  have hl : h.length < (h ++ [x]).length := by rw [List.length_append, List.length_singleton]; omega
  have key : ∀ j, j < h.length → Ex.at_ ((h ++ [x]).set h.length y) j = Ex.at_ h j := fun j hj => by
    unfold Ex.at_; rw [Ex.nd_set _ _ hl, if_neg (by omega), Ex.nd_left hj]
  refine ⟨fun j j0 jl j1 j2 => ?_, fun c c0 c1 cl cp => ?_⟩
  · rw [List.length_set, List.length_append, List.length_singleton] at jl
    rw [key j (by omega), key _ (by omega)]
    exact hH j j0 (by omega)
  · rw [List.length_set, List.length_append, List.length_singleton] at cl
    omega
theorem set_last (h : List Ex.Nd) (x y : Ex.Nd) : (h ++ [x]).set h.length y = h ++ [y] := by
  rw [List.set_append_right _ _ (Nat.le_refl _), Nat.sub_self]; rfl
set_option maxHeartbeats 2000000 in
theorem exset_any (M q : Nat) (k : ByteArray) (a : Int) (L : List Ex.On) (S : Nat → Prop) (w : World) (hM : M ≤ 900000) (hk : k.size ≤ 1048576) (ha : Hid (¬ a < 1)) (hT : Hid (Que M w S q L)) :
    Calls Try.prog 19 #[.pointer (some ⟨q, 0, none⟩), .string k, .int .i64 a] w (ExSet M S q L k a w) := by
  obtain ⟨v, mb, h, H, HM, HR, hle, hsm⟩ := hT.out
  obtain ⟨q0, q1⟩ := two_cells_at H.box
  have HKS : Hid (∀ x ∈ Ex.put L k a, x.k.size ≤ 1048576) := fun x hx => by
    unfold Ex.put at hx
    rw [if_neg ha.out] at hx
    rcases Ex.mem_ins.1 hx with rfl | hx
    · exact hk
    · exact hsm x (Ex.mem_rem.1 hx).1
  have hself : ∀ k, S k → Snc S w w k := fun k h => .inl h
  obtain ⟨mp, hlk1, hmi⟩ : ∃ mp : Option Addr, (Instr.lookup 49 (.map mb) (.string k) false).run Try.prog w = .ok (.pointer mp) w ∧ ((∃ i b r, mp = some ⟨b, 0, none⟩ ∧ i < h.length ∧ Ex.nd h i = ⟨⟨k, r⟩, b⟩) ∨ (mp = none ∧ ∀ i, i < h.length → (Ex.at_ h i).k ≠ k)) := by
    rcases HM.look hk with ⟨i, hi, e, hlk⟩ | ⟨hno, hlk⟩
    · refine ⟨_, hlk w rfl, .inl ⟨i, (Ex.nd h i).b, (Ex.nd h i).o.r, rfl, hi, ?_⟩⟩
      rw [← e]
      rfl
    · exact ⟨none, hlk w rfl, .inr ⟨rfl, hno⟩⟩
  have hcmp : ∀ W : World, (binOp .eql 55 (.pointer mp) (.pointer none)).run Try.prog W = .ok (.bool mp.isNone) W := fun W => by cases mp <;> kernel_rfl
  go_enter Try.func19, Try.ntmps19
  go_upto_if 14 with fail
  clear hcmp hlk1 q0 q1
  go_cut [6] (fun s6 wx => ∃ v mb h1 i b r, s6 = .pointer (some ⟨b, 0, none⟩) ∧ Hid (Se1 M S q L k a w wx v mb h1 i b r))
  case first =>
    rcases hmi with ⟨i, b, r, rfl, hi, hx⟩ | ⟨rfl, hno⟩
    · have HE : Hid (Se1 M S q L k a w w v mb h i b r) := ⟨H.mono fun k _ h => hself k h, Kept.refl _ _, (HM.mono fun k _ h => hself k h).more (Nat.le_succ _), hi, hx, Nat.le_succ_of_le hle, set_off HR.heap hi, fun h' hp hh => by
        have h1 : Ex.at_ h i = ⟨k, r⟩ := by unfold Ex.at_; rw [hx]
        have := HR.set hi ha.out (h' := h') (by rw [h1, hx]; exact hp) hh
        rw [h1] at this
        exact this⟩
      clear H HM HR hle hsm hi hx hself hT
      go_wp2_with fail
      go_meet
      exact ⟨v, mb, h, i, b, r, rfl, HE⟩
    · obtain ⟨n, hn⟩ : ∃ n, h.length = n := ⟨_, rfl⟩
      have CA := Lib.hid (exadd_any M q n k v mb h S w (by omega) hk (Lib.hid hn) (by omega) (Lib.hid fun x hx e => by
        obtain ⟨i, hi, rfl⟩ := List.getElem_of_mem hx
        exact hno i hi (by unfold Ex.at_; rw [Ex.nd_in hi]; exact e)) (Lib.hid H) (Lib.hid HM))
      have HE := Lib.hid (fun (b : Nat) (v1 : Value) (mb1 : Option Nat) (w1 : World) (k1 : Kept S w w1) (k2 : HpIn w1 (Snc S w w1) q v1 mb1 (h ++ [⟨⟨k, 0⟩, b⟩])) (k3 : MpIn (M + 1) w1 (Snc S w w1) mb1 (h ++ [⟨⟨k, 0⟩, b⟩])) =>
        (⟨k2, k1, k3, by rw [List.length_append, List.length_singleton]; omega, Ex.nd_last _ _, by rw [List.length_append, List.length_singleton]; omega, add_off HR.heap, fun h' hp hh => HR.add ha.out hno (by rw [set_last] at hp; exact hp) hh⟩ : Se1 M S q L k a w w1 v1 mb1 (h ++ [⟨⟨k, 0⟩, b⟩]) h.length b 0))
      clear H HM HR hle hsm hno hself hT hn
      go_wp2_with fail
      refine CA.out.mono ?_
      rintro e w1 ⟨b, v1, mb1, rfl, k1, k2, k3⟩
      have HE1 := Lib.hid (HE.out b v1 mb1 w1 k1 k2 k3)
      clear k1 k2 k3
      go_wp2_with fail
      go_meet
      exact ⟨v1, mb1, _, _, b, 0, rfl, HE1⟩
  case rest =>
    obtain ⟨v1, mb1, h1, i, b, r, rfl, h2⟩ := hcut
    generalize wc = w1 at *
    clear hmi H HM HR hle hsm hself hT
    have hnode := (h2.out.hp.node i h2.out.lt).2
    rw [h2.out.x] at hnode
    obtain ⟨a0, a1, a2⟩ := nd_cells hnode
    simp only at a1
    have f1 := frozen_of_row _ b 1 _ _ hnode
    obtain ⟨k1, k2, k3⟩ := h2.out.hp.rank i h2.out.lt h2.out.x a
    have HK1 := Lib.hid k1
    have HK2 := Lib.hid k2
    have HK3 := Lib.hid k3
    clear k1 k2 k3 hnode a0 a2
    go_upto_region 4 with fail
    clear a1 f1
    generalize w1.setCell ⟨b, 1, none⟩ (.int .i64 a) = w2 at *
    obtain ⟨n, hn⟩ : ∃ n, (h1.set i ⟨⟨k, a⟩, b⟩).length = n := ⟨_, rfl⟩
    have hin : i < n := by rw [← hn, List.length_set]; exact h2.out.lt
    have hnM : n ≤ 1000000 := by have := h2.out.le; rw [← hn, List.length_set]; omega
    have CT := Lib.hid (exsettle_any q i n v1 mb1 (h1.set i ⟨⟨k, a⟩, b⟩) (Snc S w w1) w2 hnM (Lib.hid hn) hin HK1 (Lib.hid h2.out.off))
    rw [Ex.nd_set _ _ h2.out.lt, if_pos rfl] at CT
    unfold ndp at CT
    clear hin hnM
    have HN := Lib.hid hn
    clear hn
    go_wp2_with fail
    refine CT.out.mono ?_
    rintro e w3 ⟨rfl, h3, i3, hw3, hh3⟩
    have HW3 := Lib.hid hw3
    have HH3 := Lib.hid hh3
    clear hw3 hh3 CT
    go_wp2_with fail
    go_end0
    have hsz : w3.heap.size = w1.heap.size := HW3.out.same.size.trans HK3.out.size
    have hup : ∀ k, Snc S w w1 k → Snc S w w3 k := fun k hk => hk.imp id fun h => ⟨h.1, by rw [hsz]; exact h.2⟩
    refine ⟨rfl, h2.out.kept.snc (HK2.out.trans HW3.out.kept), v1, mb1, h3, HW3.out.hp.mono fun k _ h => hup k h, ?_, h2.out.rep _ HW3.out.perm HH3.out, ?_, HKS.out⟩
    · refine ((((h2.out.mp.same HK3.out).same HW3.out.same).mono fun k _ h => hup k h) : MpIn (M + 1) w3 (Snc S w w3) mb1 h1).elim (fun h => .inl ⟨h.1, ?_⟩) fun ⟨b', D, k1, k2, k3, k4⟩ => .inr ⟨b', D, k1, k2, k3, (k4.alike (h' := h1.set i ⟨⟨k, a⟩, b⟩) ?_ ?_).perm HW3.out.perm⟩
      · exact absurd h2.out.lt (by rw [h.2]; exact Nat.not_lt_zero _)
      · intro x hx
        rcases List.mem_or_eq_of_mem_set hx with hx | rfl
        · exact ⟨x, hx, rfl, rfl⟩
        · exact ⟨_, Ex.nd_mem h2.out.lt, by rw [h2.out.x], by rw [h2.out.x]⟩
      · intro x hx
        obtain ⟨j, hj, rfl⟩ := List.getElem_of_mem hx
        have hj2 : j < (h1.set i ⟨⟨k, a⟩, b⟩).length := by rw [List.length_set]; exact hj
        refine ⟨_, Ex.nd_mem hj2, ?_⟩
        rw [Ex.nd_set _ _ h2.out.lt]
        split
        · rename_i e; subst e; rw [← Ex.nd_in hj, h2.out.x]
        · rw [Ex.nd_in hj]
    · rw [HW3.out.perm.length_eq, List.length_set]; exact h2.out.le
end Go.Proofs.Ytkhmimdigdjajaa
