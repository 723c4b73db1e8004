/-
  The walk of rise.
-/
import Derived.Test.YtkhmimdigdjajaaExSwap
import Derived.Deep.LoopGhost
import Derived.LaidEqlPtr
set_option maxRecDepth 100000
namespace Go.Proofs.Ytkhmimdigdjajaa
open Go.RowKit Go.Maps
/-- What rise, sink and settle leave: the node X lies at i in h'. -/
structure Went (S : Nat → Prop) (q : Nat) (v : Value) (mb : Option Nat) (h : List Ex.Nd) (X : Ex.Nd) (w : World) (h' : List Ex.Nd) (i : Nat) (w' : World) : Prop where
  kept : Kept S w w'
  same : Same w w'
  hp : HpIn w' S q v mb h'
  perm : h'.Perm h
  lt : i < h'.length
  x : Ex.nd h' i = X
theorem Went.start {S : Nat → Prop} {q : Nat} {v : Value} {mb : Option Nat} {h : List Ex.Nd} {w : World} {i : Nat} (H : HpIn w S q v mb h) (hi : i < h.length) : Went S q v mb h (Ex.nd h i) w h i w :=
  ⟨Kept.refl _ _, Same.refl _, H, List.Perm.refl _, hi, rfl⟩
theorem Went.len {S : Nat → Prop} {q : Nat} {v : Value} {mb : Option Nat} {h h' : List Ex.Nd} {X : Ex.Nd} {w w' : World} {i : Nat} (H : Went S q v mb h X w h' i w') : h'.length = h.length := H.perm.length_eq
theorem Went.drewN {S : Nat → Prop} {q : Nat} {v : Value} {mb : Option Nat} {h h' : List Ex.Nd} {X : Ex.Nd} {w w' : World} {i : Nat} (H : Went S q v mb h X w h' i w') (n : Nat) : Went S q v mb h X w h' i (w'.drewN n) :=
  ⟨H.kept.drewN n, H.same.trans (Same.drewN _ n), H.hp.drewN n, H.perm, H.lt, H.x⟩
theorem Went.swap {S : Nat → Prop} {q : Nat} {v : Value} {mb : Option Nat} {h h' : List Ex.Nd} {X : Ex.Nd} {w w' w2 : World} {i j : Nat} (H : Went S q v mb h X w h' i w') (hj : j < h'.length) {e : Ending} (K : Swapped S q v mb (Ex.sw h' i j) w' e w2) : Went S q v mb h X w (Ex.sw h' i j) j w2 := by
  obtain ⟨-, h1, h2, h3⟩ := K
  refine ⟨H.kept.trans h1, H.same.trans h2, h3, (Ex.sw_perm H.lt hj).trans H.perm, by rw [Ex.sw_length]; exact hj, ?_⟩
  rw [Ex.sw_nd H.lt hj, if_pos rfl]
  exact H.x
theorem nd_info : ∃ j, Try.prog.info? 58 = some j ∧ j.size ≠ 0 := by
  have h : (Try.prog.info? 58).map (·.size) = some 3 := by kernel_rfl
  cases e : Try.prog.info? 58 with
  | none => rw [e] at h; cases h
  | some j =>
    rw [e] at h
    refine ⟨j, rfl, ?_⟩
    have e3 : j.size = 3 := Option.some.inj h
    omega
/-- Nodes compared. -/
theorem nd_eq (a : Nat) (W : World) : (binOp .eql 55 (.pointer (some ⟨a, 0, none⟩)) (.pointer (some ⟨a, 0, none⟩))).run Try.prog W = .ok (.bool true) W := by
  obtain ⟨j, hj, -⟩ := nd_info
  exact run_eql_ptr_same W _ Try.underlying55 hj
theorem nd_ne {W : World} {a b : Nat} {ca cb : Array Value} {ta tb : TypeId} (hab : a ≠ b) (ha : W.heap[a]? = some (.cells ca ta (0, 0))) (hb : W.heap[b]? = some (.cells cb tb (0, 0))) :
    (binOp .eql 55 (.pointer (some ⟨a, 0, none⟩)) (.pointer (some ⟨b, 0, none⟩))).run Try.prog W = .ok (.bool false) W := by
  obtain ⟨j, hj, hs⟩ := nd_info
  exact run_eql_ptr_other W Try.underlying55 hj hs (fun e => hab (by injection e)) ha hb
theorem nd_eq' (a : Nat) (W : World) : (binOp .neq 55 (.pointer (some ⟨a, 0, none⟩)) (.pointer (some ⟨a, 0, none⟩))).run Try.prog W = .ok (.bool false) W := by
  obtain ⟨j, hj, -⟩ := nd_info
  have h : ∀ d : Nat, (Op.equalIn (d + 1) 55 (.pointer (some ⟨a, 0, none⟩)) (.pointer (some ⟨a, 0, none⟩))).run Try.prog W = .ok true W := fun d => by
    simp [Op.equalIn, run_underlying Try.underlying55, sizeOf, typeInfo, hj, run_sameAddr_same]
  simp only [binOp]
  simp [Op.equal, Op.maxDepth, h 9999]
theorem nd_ne' {W : World} {a b : Nat} {ca cb : Array Value} {ta tb : TypeId} (hab : a ≠ b) (ha : W.heap[a]? = some (.cells ca ta (0, 0))) (hb : W.heap[b]? = some (.cells cb tb (0, 0))) :
    (binOp .neq 55 (.pointer (some ⟨a, 0, none⟩)) (.pointer (some ⟨b, 0, none⟩))).run Try.prog W = .ok (.bool true) W := by
  obtain ⟨j, hj, hs⟩ := nd_info
  have hne : (⟨a, 0, none⟩ : Addr) ≠ ⟨b, 0, none⟩ := fun e => hab (by injection e)
  have h : ∀ d : Nat, (Op.equalIn (d + 1) 55 (.pointer (some ⟨a, 0, none⟩)) (.pointer (some ⟨b, 0, none⟩))).run Try.prog W = .ok false W := fun d => by
    simp [Op.equalIn, run_underlying Try.underlying55, sizeOf, typeInfo, hj, hs, run_sameAddr_other W hne ha hb]
  simp only [binOp]
  simp [Op.equal, Op.maxDepth, h 9999]
theorem ex_wrap {x : Int} {p : Nat} (h : x = (p : Int)) (hm : p ≤ 4000000) : IntKind.i64.wrap x = (p : Int) := by
  rw [h, IntKind.wrap_i64]; omega
theorem ex_half {m p : Nat} (h : m / 2 = p) (hm : m ≤ 1000000) : IntKind.i64.wrap ((m : Int) / 2) = (p : Int) :=
  ex_wrap (by omega) (by omega)
set_option maxHeartbeats 2000000 in
theorem exrise_any (q i n : Nat) (v : Value) (mb : Option Nat) (h : List Ex.Nd) (S : Nat → Prop) (w : World) (hM : n ≤ 1000000) (hn : Hid (h.length = n)) (hi : i < n) (H : Hid (HpIn w S q v mb h)) (hO : Hid (Ex.Off h i)) :
    Calls Try.prog 26 #[.pointer (some ⟨q, 0, none⟩), ndp (Ex.nd h i)] w fun e w' => e = .returned (.tuple #[]) ∧ ∃ h' i', Went S q v mb h (Ex.nd h i) w h' i' w' ∧ Ex.Off h' i' ∧ Ex.Up h' i' := by
  have HS : Hid (Went S q v mb h (Ex.nd h i) w h i w) := Went.start H.out (by rw [hn.out]; exact hi)
  generalize hX : Ex.nd h i = X at *
  obtain ⟨⟨kx, rx⟩, a⟩ := X
  have HSW := Lib.hid (fun (h' : List Ex.Nd) (i j : Nat) (W : World) => exswap_any q i j v mb h' S W)
  clear hX H
  unfold ndp
  go_enter Try.func26, Try.ntmps26
  go_wp2_with fail
  go_loopg [4] i (fun g _ wr => ∃ h', Hid (Went S q v mb h ⟨⟨kx, rx⟩, a⟩ w h' g wr) ∧ Hid (Ex.Off h' g))
  case atStart => exact ⟨h, HS, hO⟩
  case round =>
    obtain ⟨h1, HW, HO⟩ := hrel
    have hnode := (HW.out.hp.node gk HW.out.lt).2
    rw [HW.out.x] at hnode
    obtain ⟨a0, a1, a2⟩ := nd_cells hnode
    simp only at a0 a1 a2
    have hlt : gk < n := by have := HW.out.lt; have := HW.out.len; have := hn.out; omega
    have hln : h1.length = n := HW.out.len.trans hn.out
    by_cases h0 : 0 < gk
    · obtain ⟨m, hm⟩ : ∃ m, gk = m + 1 := ⟨gk - 1, by omega⟩
      obtain ⟨p, hp⟩ : ∃ p, m / 2 = p := ⟨_, rfl⟩
      have hw1 : IntKind.i64.wrap ((gk : Int) - 1) = (m : Int) := ex_wrap (by omega) (by omega)
      have hw2 : IntKind.i64.wrap ((m : Int) / 2) = (p : Int) := ex_half hp (by omega)
      have HPG : Hid ((gk - 1) / 2 = p) := by show _ = _; rw [hm]; exact hp
      have hpn : p < n := by omega
      obtain ⟨g, c, rfl, hnc, hcc, hSg, hcell, -, -⟩ := HW.out.hp.rowAt (by omega)
      rw [hln] at hnc hcell
      have cp := hcell p hpn
      obtain ⟨q0, q1⟩ := two_cells_at HW.out.hp.box
      rw [hln] at q0
      generalize hY : Ex.nd h1 p = Y at cp
      have HN1 := Lib.hid (HW.out.hp.node gk HW.out.lt).2
      have HN2 := Lib.hid (HW.out.hp.node p (by omega)).2
      rw [hY] at HN2
      rw [HW.out.x] at HN1
      have HY := Lib.hid hY
      obtain ⟨⟨ky, ry⟩, b⟩ := Y
      have HL := Lib.hid hln
      clear hcell hp hY hnode hm hln
      unfold ndp at cp
      go_wp2_with fail
      go_quiet (fail)
      have HW1 := Lib.hid (HW.out.drewN nq)
      have HA1 : Hid ((wr.drewN nq).heap[a]? = some (.cells (ndc ⟨⟨kx, rx⟩, a⟩ gk) 58 (0, 0))) := HN1.out
      have HB1 : Hid ((wr.drewN nq).heap[b]? = some (.cells (ndc ⟨⟨ky, ry⟩, b⟩ p) 58 (0, 0))) := HN2.out
      clear HW HN1 HN2 a0 a1 a2 q0 q1 cp
      generalize wr.drewN nq = w1 at *
      have CB := Lib.hid (exbefore_any a b ⟨kx, rx⟩ ⟨ky, ry⟩ gk p w1 HA1 HB1)
      go_wp2_with fail
      refine CB.out.mono ?_
      rintro e w2 ⟨rfl, n1, n2, rfl⟩
      have HW2 := Lib.hid ((HW1.out.drewN n1).drewN n2)
      clear HW1 HA1 HB1 CB
      generalize (w1.drewN n1).drewN n2 = w2 at *
      cases hbf : Ex.bf ⟨kx, rx⟩ ⟨ky, ry⟩ with
      | true =>
        have CS := Lib.hid (HSW.out h1 gk p w2 HW2.out.lt (by rw [HL.out]; exact hpn) HW2.out.hp)
        rw [HW2.out.x, HY.out] at CS
        have HSE := Lib.hid (fun (e : Ending) (w3 : World) (hs : Swapped S q _ mb (Ex.sw h1 gk p) w2 e w3) => HW2.out.swap (j := p) (by rw [HL.out]; exact hpn) hs)
        have HOE := Lib.hid (Ex.off_rise HO.out HW2.out.lt h0)
        rw [HPG.out] at HOE
        have HLT : Hid (p < gk) := by show _ < _; have := HPG.out; omega
        go_wp2_with fail
        refine CS.out.mono ?_
        rintro e w3 hs
        have HS3 := Lib.hid (HSE.out _ _ hs)
        have HE := Lib.hid hs.1
        clear hs
        obtain rfl := HE.out
        go_wp2_with fail
        go_roundg p
        case measure => exact HLT.out
        case rel => exact ⟨_, HS3, HOE⟩
      | false =>
        have HUP : Hid (Ex.Up h1 gk) := fun _ => by
          unfold Ex.at_
          rw [HPG.out, HW2.out.x, HY.out]
          exact hbf
        go_wp2_with fail
        (try simp only [Exit.inBlock, Exit.then]); refine bodyPost_ret (results_none rfl _ _ _) rfl ?_
        exact ⟨rfl, h1, gk, HW2.out, HO.out, HUP.out⟩
    · obtain rfl : gk = 0 := by omega
      have HUP : Hid (Ex.Up h1 0) := fun h => absurd h (Nat.lt_irrefl _)
      go_wp2_with fail
      go_end0
      exact ⟨rfl, h1, 0, HW.out, HO.out, HUP.out⟩
end Go.Proofs.Ytkhmimdigdjajaa
