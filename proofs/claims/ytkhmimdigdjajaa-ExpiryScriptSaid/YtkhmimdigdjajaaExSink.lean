/-
  The walks of sink and settle.
-/
import Derived.Test.YtkhmimdigdjajaaExRise
set_option maxRecDepth 100000
namespace Go.Proofs.Ytkhmimdigdjajaa
open Go.RowKit Go.Maps
/-- The least of the node at i and those below it that lie before j. -/
structure Least (h : List Ex.Nd) (i j l : Nat) : Prop where
  lt : l < h.length
  le : ∀ d, d < j → 0 < d → d < h.length → (d - 1) / 2 = i → Ex.le (Ex.at_ h l) (Ex.at_ h d)
  me : Ex.le (Ex.at_ h l) (Ex.at_ h i)
  is : l = i ∨ (0 < l ∧ (l - 1) / 2 = i ∧ Ex.bf (Ex.at_ h l) (Ex.at_ h i) = true)
theorem Least.start {h : List Ex.Nd} {i : Nat} (hi : i < h.length) : Least h i (2 * i + 1) i := ⟨hi, fun d _ _ _ _ => by omega, Ex.le_refl _, .inl rfl⟩
theorem Least.yes {h : List Ex.Nd} {i j l : Nat} (H : Least h i j l) (hj : j < h.length) (hp : (j - 1) / 2 = i) (h0 : 0 < j) (hb : Ex.bf (Ex.at_ h j) (Ex.at_ h l) = true) : Least h i (j + 1) j :=
  ⟨hj, fun d hd d0 dl dp => by
    by_cases e : d = j
    · subst e; exact Ex.le_refl _
    · exact Ex.le_trans (Ex.le_of_bf hb) (H.le d (by omega) d0 dl dp), Ex.le_trans (Ex.le_of_bf hb) H.me, .inr ⟨h0, hp, by
    rcases Ex.le_cases H.me with h1 | h1
    · exact Ex.bf_trans hb h1
    · rw [← h1]; exact hb⟩⟩
theorem Least.no {h : List Ex.Nd} {i j l : Nat} (H : Least h i j l) (hb : Ex.bf (Ex.at_ h j) (Ex.at_ h l) = false) : Least h i (j + 1) l :=
  ⟨H.lt, fun d hd d0 dl dp => by
    by_cases e : d = j
    · subst e; exact hb
    · exact H.le d (by omega) d0 dl dp, H.me, H.is⟩
theorem HpIn.cellAt {w : World} {S : Nat → Prop} {q g n c : Nat} {mb : Option Nat} {h : List Ex.Nd} (H : HpIn w S q (.slice (some ⟨g, 0, none⟩) n c) mb h) (i : Nat) (hi : i < h.length) (x : Value) (e : ndp (Ex.nd h i) = x) : w.cell? ⟨g, i, none⟩ = some x := by
  obtain ⟨g', c', e', -, -, -, h1, -⟩ := H.rowAt (by omega)
  injection e' with e1
  injection e1 with e1
  injection e1 with e1
  subst e1
  rw [h1 i hi, e]
set_option maxHeartbeats 2000000 in
theorem exsink_any (q i n : Nat) (v : Value) (mb : Option Nat) (h : List Ex.Nd) (S : Nat → Prop) (w : World) (hM : n ≤ 1000000) (hn : Hid (h.length = n)) (hi : i < n) (H : Hid (HpIn w S q v mb h)) (hO : Hid (Ex.Off h i)) (hU : Hid (Ex.Up h i)) :
    Calls Try.prog 27 #[.pointer (some ⟨q, 0, none⟩), ndp (Ex.nd h i)] w fun e w' => e = .returned (.tuple #[]) ∧ ∃ h' i', Went S q v mb h (Ex.nd h i) w h' i' w' ∧ Ex.Heap h' := by
  obtain ⟨g, c, hv, hnc, hcc, -⟩ := H.out.rowAt (by rw [hn.out]; omega)
  rw [hn.out] at hnc hv
  subst hv
  have HS : Hid (Went S q _ mb h (Ex.nd h i) w h i w) := Went.start H.out (by rw [hn.out]; exact hi)
  generalize hX : Ex.nd h i = X at *
  obtain ⟨⟨kx, rx⟩, a⟩ := X
  have HSW := Lib.hid (fun (h' : List Ex.Nd) (i j : Nat) (W : World) => exswap_any q i j (.slice (some ⟨g, 0, none⟩) n c) mb h' S W)
  clear hX H
  have hndp : ndp ⟨⟨kx, rx⟩, a⟩ = .pointer (some ⟨a, 0, none⟩) := rfl
  rw [hndp]
  have HND := Lib.hid hndp
  clear hndp
  go_enter Try.func27, Try.ntmps27
  go_wp2_with fail
  go_loopg [4, 5] (n - i) (fun t _ _ wr => ∃ h' i', Hid (t + i' = n) ∧ i' < n ∧ Hid (Went S q (.slice (some ⟨g, 0, none⟩) n c) mb h ⟨⟨kx, rx⟩, a⟩ w h' i' wr) ∧ Hid (Ex.Off h' i') ∧ Hid (Ex.Up h' i'))
  case atStart => exact ⟨h, i, (by show _ = _; omega), hi, HS, hO, hU⟩
  case round =>
    obtain ⟨h1, p, HG, hp, HW, HO, HU⟩ := hrel
    have hln : h1.length = n := HW.out.len.trans hn.out
    have hnode := (HW.out.hp.node p HW.out.lt).2
    rw [HW.out.x] at hnode
    obtain ⟨a0, a1, a2⟩ := nd_cells hnode
    simp only at a0 a1 a2
    obtain ⟨q0, q1⟩ := two_cells_at HW.out.hp.box
    have HL := Lib.hid hln
    have HLE : Hid (Least h1 p (2 * p + 1) p) := Least.start HW.out.lt
    clear hln hnode
    obtain ⟨j0, hj0⟩ : ∃ j, j = 2 * p + 1 := ⟨_, rfl⟩
    have hji : (2 : Int) * (p : Int) + 1 = (j0 : Int) := by omega
    have HJ0 := Lib.hid hj0
    clear hj0
    go_wp2_with fail
    clear a0 a1 a2 q0 q1 hji
    generalize gk = G at *
    go_loopg [4, 5] 2 (fun t lv iv wi => ∃ (l j : Nat), lv = ndp (Ex.nd h1 l) ∧ iv = .int .i64 (j : Int) ∧ Hid (j + t = 2 * p + 3) ∧ t ≤ 2 ∧ Hid (Least h1 p j l) ∧ Hid (Went S q (.slice (some ⟨g, 0, none⟩) n c) mb h ⟨⟨kx, rx⟩, a⟩ w h1 p wi))
    case atStart => exact ⟨p, j0, by rw [HW.out.x]; rfl, rfl, by show _ = _; have := HJ0.out; omega, Nat.le_refl _, by rw [HJ0.out]; exact HLE.out, HW⟩
    case round =>
      obtain ⟨l, j, rfl, rfl, HJ, ht, HM, HW1⟩ := hrel
      have hnode := (HW1.out.hp.node p HW1.out.lt).2
      rw [HW1.out.x] at hnode
      obtain ⟨a0, a1, a2⟩ := nd_cells hnode
      simp only at a0 a1 a2
      obtain ⟨q0, q1⟩ := two_cells_at HW1.out.hp.box
      clear hnode
      by_cases hc : 0 < gk ∧ j < n
      · obtain ⟨hg0, hjn⟩ := hc
        have hj2 : j ≤ 2 * p + 2 := by have := HJ.out; omega
        have hj3 : 2 * p + 1 ≤ j := by have := HJ.out; omega
        have hjl : j < h1.length := by rw [HL.out]; exact hjn
        have HJP : Hid ((j - 1) / 2 = p ∧ 0 < j) := by show _ ∧ _; omega
        have HLN := Lib.hid (HW1.out.hp.node l HM.out.lt).2
        have HJN := Lib.hid (HW1.out.hp.node j hjl).2
        have HYES := Lib.hid (fun hb => HM.out.yes hjl HJP.out.1 HJP.out.2 hb)
        have HNO := Lib.hid (fun hb => HM.out.no (j := j) hb)
        have HJ1 : Hid (j + 1 + (gk - 1) = 2 * p + 3 ∧ gk - 1 ≤ 2 ∧ gk - 1 < gk) := by show _ ∧ _ ∧ _; have := HJ.out; omega
        obtain ⟨Y, hY⟩ : ∃ Y, Ex.nd h1 j = Y := ⟨_, rfl⟩
        obtain ⟨Z, hZ⟩ : ∃ Z, Ex.nd h1 l = Z := ⟨_, rfl⟩
        obtain ⟨⟨ky, ry⟩, b⟩ := Y
        obtain ⟨⟨kz, rz⟩, z⟩ := Z
        have cj := HW1.out.hp.cellAt j hjl (.pointer (some ⟨b, 0, none⟩)) (by rw [hY]; rfl)
        rw [hY] at HJN
        rw [hZ] at HLN
        have CB := Lib.hid (exbefore_any b z ⟨ky, ry⟩ ⟨kz, rz⟩ j l wr HJN HLN)
        have HYY : Hid (ndp (Ex.nd h1 j) = .pointer (some ⟨b, 0, none⟩)) := by show _ = _; rw [hY]; rfl
        have HZZ : Hid (ndp (Ex.nd h1 l) = .pointer (some ⟨z, 0, none⟩)) := by show _ = _; rw [hZ]; rfl
        unfold Ex.at_ at HYES HNO
        rw [hY, hZ] at HYES HNO
        rw [HZZ.out]
        clear hY hZ HJN HLN hjl
        go_wp2_with fail
        refine CB.out.mono ?_
        rintro e w2 ⟨rfl, n1, n2, rfl⟩
        have HW2 := Lib.hid ((HW1.out.drewN n1).drewN n2)
        have cj2 : ((wr.drewN n1).drewN n2).cell? ⟨g, j, none⟩ = some (.pointer (some ⟨b, 0, none⟩)) := cj
        have q02 : ((wr.drewN n1).drewN n2).cell? ⟨q, 0, none⟩ = some (.slice (some ⟨g, 0, none⟩) n c) := q0
        clear HW1 CB cj q0 q1 a0 a1 a2
        generalize (wr.drewN n1).drewN n2 = w2 at *
        cases hbf : Ex.bf ⟨ky, ry⟩ ⟨kz, rz⟩ with
        | true =>
          have HM2 := Lib.hid (HYES.out hbf)
          go_wp2_with fail
          go_roundg (gk - 1)
          case measure => exact HJ1.out.2.2
          case rel => exact ⟨j, j + 1, HYY.out.symm, by go_num, HJ1.out.1, HJ1.out.2.1, HM2, HW2⟩
        | false =>
          have HM2 := Lib.hid (HNO.out hbf)
          go_wp2_with fail
          go_roundg (gk - 1)
          case measure => exact HJ1.out.2.2
          case rel => exact ⟨l, j + 1, HZZ.out.symm, by go_num, HJ1.out.1, HJ1.out.2.1, HM2, HW2⟩
      · have HEX : Hid (∀ d, 0 < d → d < n → (d - 1) / 2 = p → Ex.le (Ex.at_ h1 l) (Ex.at_ h1 d)) := fun d d0 dl dp => HM.out.le d (by have := HJ.out; omega) d0 (by rw [HL.out]; exact dl) dp
        by_cases hg0 : gk = 0
        · have hj2 : 2 * p + 2 < j := by have := HJ.out; omega
          clear hc hg0
          rcases HM.out.is with hl | ⟨hl0, hlp, hlb⟩
          · have he : ndp (Ex.nd h1 l) = .pointer (some ⟨a, 0, none⟩) := by rw [hl, HW1.out.x]; rfl
            have HHP : Hid (Ex.Heap h1) := Ex.heap_of HO.out HU.out (by rw [HL.out, ← hl]; rw [← hl] at HEX; exact HEX.out)
            have hcmp := nd_eq a wr
            rw [he]
            clear he
            go_wp2_with fail
            (try simp only [Exit.inBlock, Exit.then]); refine bodyPost_ret (results_none rfl _ _ _) rfl ?_
            first | exact ⟨rfl, h1, p, HW1.out, HHP.out⟩ | exact ⟨rfl, h1, ⟨p, HW1.out⟩, HHP.out⟩
          · have hlt : l < h1.length := HM.out.lt
            obtain ⟨b, hb⟩ : ∃ b, (Ex.nd h1 l).b = b := ⟨_, rfl⟩
            have he : ndp (Ex.nd h1 l) = .pointer (some ⟨b, 0, none⟩) := by rw [← hb]; rfl
            have hab : b ≠ a := fun e => by
              have h1 := HW1.out.hp.place HW1.out.lt hlt (by rw [HW1.out.x, hb]; exact e.symm)
              omega
            have hcmp := nd_ne hab (hb ▸ (HW1.out.hp.node l hlt).2) (by have := (HW1.out.hp.node p HW1.out.lt).2; rw [HW1.out.x] at this; exact this)
            have CS := Lib.hid (HSW.out h1 p l wr HW1.out.lt hlt HW1.out.hp)
            rw [HW1.out.x, he, HND.out] at CS
            have HSE := Lib.hid (fun (e : Ending) (w3 : World) (hs : Swapped S q _ mb (Ex.sw h1 p l) wr e w3) => HW1.out.swap hlt hs)
            have HOE := Lib.hid (Ex.off_sink HO.out hlt hl0 hlp hlb (by rw [HL.out]; exact HEX.out))
            have HMS : Hid (n - l < G ∧ (n - l) + l = n ∧ l < n) := by show _ ∧ _ ∧ _; have := HG.out; rw [HL.out] at hlt; omega
            rw [he]
            clear he hb hlt hl0 hlp hlb
            go_wp2_with fail
            refine CS.out.mono ?_
            rintro e w3 hs
            have HS3 := Lib.hid (HSE.out _ _ hs)
            have HE := Lib.hid hs.1
            clear hs
            obtain rfl := HE.out
            go_wp2_with fail
            go_roundg (n - l)
            case measure => exact HMS.out.1
            case rel => exact ⟨_, l, HMS.out.2.1, HMS.out.2.2, HS3, HOE.out.1, HOE.out.2⟩
        · have hj2 : j ≤ 2 * p + 2 := by have := HJ.out; omega
          have hjn : n ≤ j := by omega
          clear hc hg0
          rcases HM.out.is with hl | ⟨hl0, hlp, hlb⟩
          · have he : ndp (Ex.nd h1 l) = .pointer (some ⟨a, 0, none⟩) := by rw [hl, HW1.out.x]; rfl
            have HHP : Hid (Ex.Heap h1) := Ex.heap_of HO.out HU.out (by rw [HL.out, ← hl]; rw [← hl] at HEX; exact HEX.out)
            have hcmp := nd_eq a wr
            rw [he]
            clear he
            go_wp2_with fail
            (try simp only [Exit.inBlock, Exit.then]); refine bodyPost_ret (results_none rfl _ _ _) rfl ?_
            first | exact ⟨rfl, h1, p, HW1.out, HHP.out⟩ | exact ⟨rfl, h1, ⟨p, HW1.out⟩, HHP.out⟩
          · have hlt : l < h1.length := HM.out.lt
            obtain ⟨b, hb⟩ : ∃ b, (Ex.nd h1 l).b = b := ⟨_, rfl⟩
            have he : ndp (Ex.nd h1 l) = .pointer (some ⟨b, 0, none⟩) := by rw [← hb]; rfl
            have hab : b ≠ a := fun e => by
              have h1 := HW1.out.hp.place HW1.out.lt hlt (by rw [HW1.out.x, hb]; exact e.symm)
              omega
            have hcmp := nd_ne hab (hb ▸ (HW1.out.hp.node l hlt).2) (by have := (HW1.out.hp.node p HW1.out.lt).2; rw [HW1.out.x] at this; exact this)
            have CS := Lib.hid (HSW.out h1 p l wr HW1.out.lt hlt HW1.out.hp)
            rw [HW1.out.x, he, HND.out] at CS
            have HSE := Lib.hid (fun (e : Ending) (w3 : World) (hs : Swapped S q _ mb (Ex.sw h1 p l) wr e w3) => HW1.out.swap hlt hs)
            have HOE := Lib.hid (Ex.off_sink HO.out hlt hl0 hlp hlb (by rw [HL.out]; exact HEX.out))
            have HMS : Hid (n - l < G ∧ (n - l) + l = n ∧ l < n) := by show _ ∧ _ ∧ _; have := HG.out; rw [HL.out] at hlt; omega
            rw [he]
            clear he hb hlt hl0 hlp hlb
            go_wp2_with fail
            refine CS.out.mono ?_
            rintro e w3 hs
            have HS3 := Lib.hid (HSE.out _ _ hs)
            have HE := Lib.hid hs.1
            clear hs
            obtain rfl := HE.out
            go_wp2_with fail
            go_roundg (n - l)
            case measure => exact HMS.out.1
            case rel => exact ⟨_, l, HMS.out.2.1, HMS.out.2.2, HS3, HOE.out.1, HOE.out.2⟩
set_option maxHeartbeats 1000000 in
/-- settle: the one node that is out of order finds its place. -/
theorem exsettle_any (q i n : Nat) (v : Value) (mb : Option Nat) (h : List Ex.Nd) (S : Nat → Prop) (w : World) (hM : n ≤ 1000000) (hn : Hid (h.length = n)) (hi : i < n) (H : Hid (HpIn w S q v mb h)) (hO : Hid (Ex.Off h i)) :
    Calls Try.prog 23 #[.pointer (some ⟨q, 0, none⟩), ndp (Ex.nd h i)] w fun e w' => e = .returned (.tuple #[]) ∧ ∃ h' i', Went S q v mb h (Ex.nd h i) w h' i' w' ∧ Ex.Heap h' := by
  have CR := Lib.hid (exrise_any q i n v mb h S w hM hn hi H hO)
  have CK := Lib.hid (fun (h' : List Ex.Nd) (i' : Nat) (W : World) (hn' : h'.length = n) (hi' : i' < n) (H' : HpIn W S q v mb h') (hO' : Ex.Off h' i') (hU' : Ex.Up h' i') => exsink_any q i' n v mb h' S W hM (Lib.hid hn') hi' (Lib.hid H') (Lib.hid hO') (Lib.hid hU'))
  go_enter Try.func23, Try.ntmps23
  go_wp2_with fail
  refine CR.out.mono ?_
  rintro e w1 ⟨rfl, h1, i1, hw1, ho1, hu1⟩
  have hl1 : h1.length = n := hw1.len.trans hn.out
  have CK1 := Lib.hid (CK.out h1 i1 w1 hl1 (by rw [← hl1]; exact hw1.lt) hw1.hp ho1 hu1)
  rw [hw1.x] at CK1
  have HW1 := Lib.hid hw1
  clear hw1 ho1 hu1 hl1 CK CR
  go_wp2_with fail
  refine CK1.out.mono ?_
  rintro e w2 ⟨rfl, h2, i2, hw2, hh2⟩
  have HE : Hid (∃ h' i', Went S q v mb h (Ex.nd h i) w h' i' w2 ∧ Ex.Heap h') := ⟨h2, i2, ⟨HW1.out.kept.trans hw2.kept, HW1.out.same.trans hw2.same, hw2.hp, hw2.perm.trans HW1.out.perm, hw2.lt, hw2.x⟩, hh2⟩
  clear hw2 hh2
  go_wp2_with fail
  go_end0
  exact ⟨rfl, HE.out⟩
end Go.Proofs.Ytkhmimdigdjajaa
