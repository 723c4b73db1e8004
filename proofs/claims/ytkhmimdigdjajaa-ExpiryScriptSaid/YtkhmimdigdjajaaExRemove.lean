/-
  The walks of first and remove.
-/
import Derived.Test.YtkhmimdigdjajaaExSink
import Derived.Test.YtkhmimdigdjajaaSnc
set_option maxRecDepth 100000
namespace Go.Proofs.Ytkhmimdigdjajaa
open Go.RowKit Go.Maps
/-- Without the node at i: the last one takes its place. -/
def Ex.gone (h : List Ex.Nd) (i : Nat) : List Ex.Nd := (Ex.sw h i (h.length - 1)).take (h.length - 1)
theorem Ex.gone_length {h : List Ex.Nd} (i : Nat) : (Ex.gone h i).length = h.length - 1 := by
  unfold Ex.gone; rw [List.length_take, Ex.sw_length]; omega
theorem Ex.gone_nd {h : List Ex.Nd} {i : Nat} (hi : i < h.length) (j : Nat) (hj : j < h.length - 1) : Ex.nd (Ex.gone h i) j = if j = i then Ex.nd h (h.length - 1) else Ex.nd h j := by
  unfold Ex.gone
  rw [Ex.nd_take hj, Ex.sw_nd hi (by omega), if_neg (by omega)]
theorem Ex.gone_perm {h : List Ex.Nd} {i : Nat} (hi : i < h.length) : (Ex.nd h i :: Ex.gone h i).Perm h := by
  have h1 := Ex.sw_perm hi (show h.length - 1 < h.length by omega)
  have h2 : Ex.sw h i (h.length - 1) = Ex.gone h i ++ [Ex.nd h i] := by
    unfold Ex.gone
    have hl := Ex.sw_length h i (h.length - 1)
    have e : (Ex.sw h i (h.length - 1)).drop (h.length - 1) = [Ex.nd h i] := by
      rw [List.drop_eq_getElem_cons (by omega), List.drop_eq_nil_of_le (by omega), ← Ex.nd_in, Ex.sw_nd hi (by omega), if_pos rfl]
    rw [← e, List.take_append_drop]
  rw [h2] at h1
  exact (List.perm_append_comm (l₁ := [Ex.nd h i])).trans h1
theorem Ex.gone_off {h : List Ex.Nd} {i : Nat} (hH : Ex.Heap h) (hi : i < h.length) : Ex.Off (Ex.gone h i) i := by
  refine Ex.heap_off hH (by rw [Ex.gone_length]; omega) fun j hj hne => ?_
  rw [Ex.gone_length] at hj
  unfold Ex.at_
  rw [Ex.gone_nd hi j hj, if_neg hne]
theorem Ex.gone_last {h : List Ex.Nd} {i : Nat} (hH : Ex.Heap h) (hi : i + 1 = h.length) : Ex.Heap (Ex.gone h i) := fun j j0 jl => by
  rw [Ex.gone_length] at jl
  unfold Ex.at_
  rw [Ex.gone_nd (by omega) j jl, Ex.gone_nd (by omega) _ (by omega), if_neg (by omega), if_neg (by omega)]
  exact hH j j0 (by omega)
/-- first: the first node, or none. -/
theorem exfirst_any (q n : Nat) (v : Value) (mb : Option Nat) (h : List Ex.Nd) (S : Nat → Prop) (w : World) (hn : Hid (h.length = n)) (H : Hid (HpIn w S q v mb h)) :
    Calls Try.prog 21 #[.pointer (some ⟨q, 0, none⟩)] w fun e w' => e = .returned (if n = 0 then .pointer none else ndp (Ex.nd h 0)) ∧ w' = w := by
  obtain ⟨A, c, rfl, hsl⟩ := H.out.row.open_
  obtain ⟨q0, q1⟩ := two_cells_at H.out.box
  rw [hn.out] at q0
  by_cases h0 : n = 0
  · subst h0
    rw [if_pos rfl]
    clear hn hsl
    go_enter Try.func21, Try.ntmps21
    go_wp2_with fail
    go_ret
    exact ⟨rfl, rfl⟩
  · rw [if_neg h0]
    have hl0 : 0 < h.length := by rw [hn.out]; omega
    obtain ⟨g, c', e, -, -, -, hcell, -, -⟩ := H.out.rowAt hl0
    injection e with e1 e2 e3
    subst e1
    have c0 := hcell 0 hl0
    have hb0 : ((n : Int) == 0) = false := by rw [beq_eq_false_iff_ne]; omega
    have hn0 : 0 < n := by omega
    generalize ndp (Ex.nd h 0) = x at *
    clear hcell hn hsl hl0 h0 H
    go_enter Try.func21, Try.ntmps21
    go_wp2_with fail
    go_ret
    exact ⟨rfl, rfl⟩
/-- What remove leaves. -/
def ExRem (M : Nat) (S : Nat → Prop) (q : Nat) (L : List Ex.On) (k : ByteArray) (w : World) (e : Ending) (w' : World) : Prop :=
  e = .returned (.tuple #[]) ∧ Kept S w w' ∧ Que M w' S q (Ex.rem L k) ∧ w'.heap.size = w.heap.size ∧ ∀ (b : Nat) (cs : Array Value), w.heap[b]? = some (.cells cs 58 (0, 0)) → ∃ cs' : Array Value, w'.heap[b]? = some (.cells cs' 58 (0, 0)) ∧ cs'[0]? = cs[0]?
/-- A map turns: the nodes stay. -/
theorem HpIn.turned {w w1 : World} {S : Nat → Prop} {q b : Nat} {v : Value} {mb : Option Nat} {h : List Ex.Nd} (H : HpIn w S q v mb h) (hg : w.grownBy w1 (some b)) (hb : ∃ es c, w.heap[b]? = some (.map es c)) : HpIn w1 S q v mb h := by
  obtain ⟨es, cl, hb⟩ := hb
  have hne : ∀ (k : Nat) (cs : Array Value) (t : TypeId), w.heap[k]? = some (Obj.cells cs t (0, 0)) → some k ≠ some b := fun k cs t hk e => by
    obtain rfl := Option.some.inj e
    rw [hb] at hk; cases hk
  have hst : ∀ (k : Nat) (cs : Array Value) (t : TypeId), w.heap[k]? = some (Obj.cells cs t (0, 0)) → w1.heap[k]? = some (Obj.cells cs t (0, 0)) := fun k cs t hk => (hg.block k (Array.getElem?_eq_some_iff.1 hk).1 (hne k cs t hk)).trans hk
  refine ⟨H.sq, hst _ _ _ H.box, ⟨ownsRow_block H.row.1 fun k e => ?_, H.row.2⟩, fun i hi => ⟨(H.node i hi).1, hst _ _ _ (H.node i hi).2⟩⟩
  rcases H.row.1.2 with ⟨rfl, -⟩ | ⟨g, cap, cur, rfl, -, hg2, -⟩
  · cases e
  · obtain rfl : g = k := Option.some.inj e
    exact (hst _ _ _ hg2).trans hg2.symm
/-- The last place goes. -/
theorem HpIn.shrink {w : World} {S : Nat → Prop} {q g n c m : Nat} {mb : Option Nat} {h : List Ex.Nd} (H : HpIn w S q (.slice (some ⟨g, 0, none⟩) n c) mb h) (hn : h.length = n) (hm : m + 1 = n) :
    HpIn ((w.setCell ⟨g, m, none⟩ (.pointer none)).setCell ⟨q, 0, none⟩ (.slice (some ⟨g, 0, none⟩) m c)) S q (.slice (some ⟨g, 0, none⟩) m c) mb (h.take m) ∧
    Kept S w ((w.setCell ⟨g, m, none⟩ (.pointer none)).setCell ⟨q, 0, none⟩ (.slice (some ⟨g, 0, none⟩) m c)) ∧ Same w ((w.setCell ⟨g, m, none⟩ (.pointer none)).setCell ⟨q, 0, none⟩ (.slice (some ⟨g, 0, none⟩) m c)) := by
  subst hn
  obtain ⟨g', c', e', -, -, hSg, -, -, cur, hg⟩ := H.rowAt (by omega)
  injection e' with e1
  injection e1 with e1
  injection e1 with e1
  subst e1
  have hqg : q ≠ g := fun e => by have := H.box; rw [e, hg] at this; cases this
  have hgk : ∀ k, k < h.length → (Ex.nd h k).b ≠ g := fun k hk e => by rw [← e, (H.node k hk).2] at hg; cases hg
  have hqk : ∀ k, k < h.length → (Ex.nd h k).b ≠ q := fun k hk e => by have := H.box; rw [← e, (H.node k hk).2] at this; cases this
  have hlt : (h.take m).length = m := by rw [List.length_take]; omega
  refine ⟨⟨H.sq, set_at (cs := [_, _]) (set_past H.box hqg m _) 0 _, ?_, fun i hi => ?_⟩, (Kept.setCell _ ⟨g, m, none⟩ _ hSg).trans (Kept.setCell _ ⟨q, 0, none⟩ _ H.sq), (Same.setCell _ g m _ (.inr ⟨_, _, hg, by decide⟩)).trans (Same.setCell _ q 0 _ (.inr ⟨_, _, set_past H.box hqg m _, by decide⟩))⟩
  · have h1 := srow_cut (srow_set H.row m (.pointer none)) (show m ≤ h.length by omega)
    have e : ((h.map ndp).set m (.pointer none)).take m = (h.take m).map ndp := by
      rw [List.take_set_of_le (Nat.le_refl _), List.map_take]
    rw [e] at h1
    rw [hlt]
    exact ⟨ownsRow_block h1.1 fun k e => by
      obtain rfl : g = k := Option.some.inj e
      exact set_past rfl (Ne.symm hqg) 0 _, h1.2⟩
  · rw [hlt] at hi
    rw [Ex.nd_take hi]
    have hi2 : i < h.length := by omega
    exact ⟨(H.node i hi2).1, set_past (set_past (H.node i hi2).2 (hgk i hi2) m _) (hqk i hi2) 0 _⟩
theorem ex_turned {w w1 : World} {b : Nat} (h : w.mapTurned w1 b) : w1.heap.size = w.heap.size := by
  obtain ⟨es, c, es', c', -, rfl⟩ := h
  simp [Go.ChangeMaps.setBlock]
theorem own_map {P : Program} {t : TypeId} {H : Type} {R : Value → Option (DataW H × List MemPlace)} {w : World} {b N : Nat} {D : DataW H} (h : w.ownsMap P t R b N D) : ∃ es c, w.heap[b]? = some (.map es c) := by
  obtain ⟨es, clock, h1, -⟩ := h
  exact ⟨es, clock, h1⟩
set_option maxHeartbeats 4000000 in
theorem exremove_any (M q : Nat) (k : ByteArray) (L : List Ex.On) (S : Nat → Prop) (w : World) (hM : M ≤ 1000000) (hk : k.size ≤ 1048576) (hT : Hid (Que M w S q L)) :
    Calls Try.prog 18 #[.pointer (some ⟨q, 0, none⟩), .string k] w (ExRem M S q L k w) := by
  obtain ⟨v, mb, h, H, HM, HR, hle, hsm⟩ := hT.out
  obtain ⟨q0, q1⟩ := two_cells_at H.box
  rcases HM.look hk with ⟨i, hi, rfl, hlk⟩ | ⟨hno, hlk⟩
  · obtain ⟨m, hm⟩ : ∃ m, m + 1 = h.length := ⟨h.length - 1, by omega⟩
    obtain ⟨n, hn⟩ : ∃ n, h.length = n := ⟨_, rfl⟩
    obtain ⟨g, c, hv, hnc, hcc, -⟩ := H.rowAt (by omega)
    rw [hn] at hv hnc hm
    subst hv
    obtain ⟨mb, D, rfl, hSb, hown, hkeys⟩ : ∃ b D, mb = some b ∧ S b ∧ w.ownsMap Try.prog 9 exRaw b M D ∧ KeysAt D h := by
      rcases HM with ⟨-, rfl⟩ | h
      · exact absurd hi (Nat.not_lt_zero _)
      · exact h
    have hperm := Ex.gone_perm hi
    have HK1 : Hid (KeysAt (D.del (exLit (Ex.at_ h i).k)) (Ex.gone h i)) := by
      refine hkeys.del (x := Ex.nd h i) hperm.symm fun y hy e => ?_
      have hnd : (h.map fun x => x.o.k).Nodup := by
        have := HR.ks
        unfold Ex.Ks at this
        rw [← (HR.perm.map Ex.On.k).nodup_iff, List.map_map] at this
        exact this
      rw [← (hperm.map fun x => x.o.k).nodup_iff, List.map_cons, List.nodup_cons] at hnd
      exact hnd.1 (List.mem_map.2 ⟨y, hy, e⟩)
    have HKEY := Lib.hid (exKey hk)
    have hlk1 := hlk w rfl
    have HOWN := Lib.hid hown
    have HH := Lib.hid H
    obtain ⟨X, hX⟩ : ∃ X, Ex.nd h i = X := ⟨_, rfl⟩
    obtain ⟨Z, hZ⟩ : ∃ Z, Ex.nd h m = Z := ⟨_, rfl⟩
    generalize hkk : (Ex.at_ h i).k = k at *
    rw [hX] at hlk1
    obtain ⟨⟨kx, rx⟩, a⟩ := X
    obtain ⟨⟨kz, rz⟩, z⟩ := Z
    have hma := own_map hown
    have HMA := Lib.hid hma
    have HT1 := Lib.hid (fun (w1 : World) (hg : w.grownBy w1 (some mb)) => H.turned hg hma)
    clear hlk hown H HM hkeys hma
    unfold ndp at hlk1
    have HM := Lib.hid hm
    have HHR := Lib.hid HR
    have HI := Lib.hid hi
    have HPM := Lib.hid hperm
    have HSM := Lib.hid hsm
    have HLE := Lib.hid hle
    have HN := Lib.hid hn
    have hm2 : m ≤ 1000000 := by omega
    have hmn : m < n := by omega
    have hnm : (n : Int) - 1 = (m : Int) := by omega
    clear hk hT hm HR hi hperm hsm hle hn
    have hnil : (binOp .eql 55 (.pointer (some ⟨a, 0, none⟩)) (.pointer none)).run Try.prog w = .ok (.bool false) w := by kernel_rfl
    go_enter Try.func18, Try.ntmps18
    go_upto_region 3 with (at_delete; refine wpList_delete_own _ rfl _ _ 49 9 rfl 55 exLaw Try.underlying49 exRaw mb _ _ rfl HOWN.out _ (exLit k) rfl HKEY.out ?_; intro w1 hown1 hturn1; have HH1 := Lib.hid (HT1.out _ hturn1.grown); have HO1 := Lib.hid hown1; have HG1 := Lib.hid hturn1.grown; have HSZ1 : Hid (w1.heap.size = w.heap.size) := ex_turned hturn1; clear hown1 hturn1)
    clear hlk1 hnil q0 q1
    have hzc := HH1.out.cellAt m (by rw [HN.out]; exact hmn) (.pointer (some ⟨z, 0, none⟩)) (by rw [hZ]; rfl)
    obtain ⟨q0, q1⟩ := two_cells_at HH1.out.box
    have CS := Lib.hid (exswap_any q i m _ (some mb) h S w1 HI.out (by rw [HN.out]; exact hmn) HH1.out)
    rw [hX, hZ] at CS
    unfold ndp at CS
    go_wp2_with fail
    refine CS.out.mono ?_
    rintro e w2 ⟨rfl, hk2, hs2, hh2⟩
    have HSG : Hid (∃ cur, cur.size = c ∧ w2.heap[g]? = some (.cells cur 55 (0, 0))) := by
      rcases hh2.row.1.2 with ⟨e, -⟩ | ⟨g', cap, cur, e, -, hg, -, -, hz, -⟩
      · cases e
      · injection e with e1 _ e3
        injection e1 with e1
        injection e1 with e1
        subst e1; subst e3
        exact ⟨cur, by omega, hg⟩
    have HSH := Lib.hid (hh2.shrink (m := m) (by rw [Ex.sw_length]; exact HN.out) HM.out)
    have HK2 := Lib.hid hk2
    have HS2 := Lib.hid hs2
    obtain ⟨r0, r1⟩ := two_cells_at hh2.box
    have f0 := frozen_of_row _ q 0 _ _ hh2.box
    have HQB := Lib.hid hh2.box
    have hcm := hh2.cellAt m (by rw [Ex.sw_length, HN.out]; exact hmn) _ rfl
    generalize ndp (Ex.nd (Ex.sw h i m) m) = vm at hcm
    have fm : w2.frozen? ⟨g, m, none⟩ = false := by
      obtain ⟨cur, -, hg⟩ := HSG.out
      exact frozen_of_row _ g m _ _ hg
    have hqg : q ≠ g := fun e => by
      obtain ⟨cur, -, hg⟩ := HSG.out
      have := HQB.out; rw [e, hg] at this; cases this
    have s0 : (w2.setCell ⟨g, m, none⟩ (.pointer none)).cell? ⟨q, 0, none⟩ = some (.slice (some ⟨g, 0, none⟩) n c) := (two_cells_at (set_past HQB.out hqg m _)).1
    have f1 : (w2.setCell ⟨g, m, none⟩ (.pointer none)).frozen? ⟨q, 0, none⟩ = false := frozen_of_row _ q 0 _ _ (set_past HQB.out hqg m _)
    have HAN : Hid (∃ (cs : Array Value) (t : TypeId), ((w2.setCell ⟨g, m, none⟩ (.pointer none)).setCell ⟨q, 0, none⟩ (.slice (some ⟨g, 0, none⟩) m c)).heap[a]? = some (Obj.cells cs t (0, 0))) := by
      have ha := (hh2.node m (by rw [Ex.sw_length, HN.out]; exact hmn)).2
      rw [Ex.sw_nd HI.out (by rw [HN.out]; exact hmn), if_pos rfl, hX] at ha
      obtain ⟨cur, -, hg⟩ := HSG.out
      exact ⟨_, _, set_past (set_past ha (fun e => by rw [e, hg] at ha; cases ha) m _) (fun e => by have := HQB.out; rw [← e, ha] at this; cases this) 0 _⟩
    have HZA : Hid (i ≠ m → z ≠ a) := fun hne e => hne (HH1.out.place HI.out (by rw [HN.out]; exact hmn) (by rw [hX, hZ]; exact e.symm))
    clear hk2 hs2 hh2 hzc q0 q1 CS hqg
    go_upto_region 8 with fail
    generalize (w2.setCell ⟨g, m, none⟩ (.pointer none)).setCell ⟨q, 0, none⟩ (.slice (some ⟨g, 0, none⟩) m c) = w3 at *
    clear r0 r1 f0 hcm fm s0 f1 HQB HSG
    have HH3 : Hid (HpIn w3 S q (.slice (some ⟨g, 0, none⟩) m c) (some mb) (Ex.gone h i)) := by
      have := HSH.out.1
      unfold Ex.gone
      rw [HN.out, ← HM.out, Nat.add_sub_cancel]
      exact this
    have HK3 : Hid (Kept S w w3) := ((Kept.of_grown HG1.out fun k e => Option.some.inj e ▸ hSb : Kept S w w1).trans HK2.out).trans HSH.out.2.1
    have HO3 := Lib.hid ((HS2.out.trans HSH.out.2.2).own HO1.out)
    have HS13 := Lib.hid (HS2.out.trans HSH.out.2.2)
    have HST1 : Hid (∀ (b : Nat) (cs : Array Value), w.heap[b]? = some (.cells cs 58 (0, 0)) → w1.heap[b]? = some (.cells cs 58 (0, 0))) := fun b cs hb => (HG1.out.block b (Array.getElem?_eq_some_iff.1 hb).1 fun e => by
      obtain ⟨es, cl, hm⟩ := HMA.out
      obtain rfl := Option.some.inj e
      rw [hm] at hb; cases hb).trans hb
    have HL3 : Hid ((Ex.gone h i).length = m) := by show _ = _; rw [Ex.gone_length, HN.out, ← HM.out, Nat.add_sub_cancel]
    have HFIN : Hid (∀ (w4 : World) (v4 : Value) (h4 : List Ex.Nd), HpIn w4 S q v4 (some mb) h4 → h4.Perm (Ex.gone h i) → Ex.Heap h4 → Kept S w3 w4 → Same w3 w4 → ExRem M S q L k w (.returned (.tuple #[])) w4) := fun w4 v4 h4 k1 k2 k3 k4 k5 =>
      ⟨rfl, HK3.out.trans k4, ⟨v4, some mb, h4, k1, .inr ⟨mb, _, rfl, hSb, k5.own HO3.out, HK1.out.perm k2⟩, by
        have := HHR.out.cut (i := i) ((k2.cons _).trans HPM.out) k3
        rwa [hkk] at this, by rw [k2.length_eq, HL3.out]; have := HLE.out; have := HN.out; omega, fun x hx => HSM.out x (Ex.mem_rem.1 hx).1⟩, (k5.size.trans HS13.out.size).trans HSZ1.out, fun b cs hb => (HS13.out.trans k5).key b cs (HST1.out b cs hb)⟩
    by_cases him : i = m
    · have hza : z = a := by
        subst him
        rw [hX] at hZ
        injection hZ with _ e
        exact e.symm
      have hcmp := nd_eq' a w3
      rw [hza]
      have HE := Lib.hid (HFIN.out w3 _ _ HH3.out (List.Perm.refl _) (Ex.gone_last HHR.out.heap (by rw [HN.out, him]; exact HM.out)) (Kept.refl _ _) (Same.refl _))
      clear him hza
      go_wp2_with fail
      go_end0
      exact HE.out
    · have him2 : i < m := by have := HI.out; have := HN.out; omega
      have hgi : Ex.nd (Ex.gone h i) i = ⟨⟨kz, rz⟩, z⟩ := by
        rw [Ex.gone_nd HI.out i (by rw [HN.out]; omega), if_pos rfl, HN.out, ← HM.out, Nat.add_sub_cancel]
        exact hZ
      have hzn := (HH3.out.node i (by rw [HL3.out]; exact him2)).2
      rw [hgi] at hzn
      obtain ⟨ca, ta, han⟩ := HAN.out
      have hza := HZA.out him
      have hcmp := nd_ne' hza hzn han
      have CT := Lib.hid (exsettle_any q i m _ (some mb) (Ex.gone h i) S w3 hm2 HL3 him2 HH3 (Lib.hid (Ex.gone_off HHR.out.heap HI.out)))
      rw [hgi] at CT
      unfold ndp at CT
      clear hzn han hza him him2
      go_wp2_with fail
      refine CT.out.mono ?_
      rintro e w4 ⟨rfl, h4, i4, hw4, hh4⟩
      have HE := Lib.hid (HFIN.out w4 _ h4 hw4.hp hw4.perm hh4 hw4.kept hw4.same)
      clear hw4 hh4
      go_wp2_with fail
      go_end0
      exact HE.out
  · have HE : Hid (ExRem M S q L k w (.returned (.tuple #[])) w) := by
      refine ⟨rfl, Kept.refl _ _, ?_, rfl, fun b cs hb => ⟨cs, hb, rfl⟩⟩
      rw [Ex.rem_no fun x hx e => by
        obtain ⟨i, hi, rfl⟩ := (HR.mem x).1 hx
        exact hno i hi e]
      exact hT.out
    have hlk1 := hlk w rfl
    clear hlk hno H HM HR hle hsm hT hk
    go_enter Try.func18, Try.ntmps18
    go_wp2_with fail
    (try simp only [Exit.inBlock, Exit.then]); refine bodyPost_ret (results_none rfl _ _ _) rfl ?_
    exact HE.out
end Go.Proofs.Ytkhmimdigdjajaa