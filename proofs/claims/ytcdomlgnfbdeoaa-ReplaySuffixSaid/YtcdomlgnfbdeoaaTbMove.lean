/-
  The walk of Table.move: some old places are looked at, their entries move to the new ones.
-/
import Derived.Test.YtcdomlgnfbdeoaaTbAdd
set_option maxRecDepth 100000
namespace Go.Proofs.Ytcdomlgnfbdeoaa
open Go.RowKit
/-- A table at the block q, its blocks of S. -/
structure TbAt (w : World) (S : Nat → Prop) (q : Nat) (v v' : Value) (l : List Tb.Pl) (b u : Nat) (o : List Tb.Pl) (bo uo nx c wk : Nat) : Prop where
  box : w.heap[q]? = some (.cells (tbc v b u v' bo uo nx c wk) 65 (0, 0))
  new : PlAt w v l
  old : PlAt w v' o
  own : S q
  sn : ∀ k, v.ownBlock = some k → S k ∧ k ≠ q
  so : ∀ k, v'.ownBlock = some k → S k ∧ k ≠ q ∧ v.ownBlock ≠ some k
section
variable {w w' : World} {S T : Nat → Prop} {q : Nat} {v v' : Value} {l : List Tb.Pl} {b u : Nat} {o : List Tb.Pl} {bo uo nx c wk : Nat}
theorem PlAt.kept (h : PlAt w v l) (hk : Kept T w w') (hd : ∀ k, v.ownBlock = some k → ¬ T k) : PlAt w' v l := by
  rcases h with ⟨h1, h2⟩ | ⟨d, h1, rfl, h3⟩
  · exact .inl ⟨h1, h2⟩
  · exact .inr ⟨d, h1, rfl, (hk.block d (Array.getElem?_eq_some_iff.1 h3).1 (hd d rfl)).trans h3⟩
theorem TbAt.kept (h : TbAt w S q v v' l b u o bo uo nx c wk) (hk : Kept T w w') (hd : ∀ k, S k → ¬ T k) : TbAt w' S q v v' l b u o bo uo nx c wk :=
  ⟨(hk.block q (Array.getElem?_eq_some_iff.1 h.box).1 (hd q h.own)).trans h.box, h.new.kept hk fun k e => hd k (h.sn k e).1, h.old.kept hk fun k e => hd k (h.so k e).1, h.own, h.sn, h.so⟩
theorem TbAt.drewN (h : TbAt w S q v v' l b u o bo uo nx c wk) (n : Nat) : TbAt (w.drewN n) S q v v' l b u o bo uo nx c wk := ⟨h.box, h.new, h.old, h.own, h.sn, h.so⟩
theorem TbAt.drew (h : TbAt w S q v v' l b u o bo uo nx c wk) : TbAt w.drew S q v v' l b u o bo uo nx c wk := ⟨h.box, h.new, h.old, h.own, h.sn, h.so⟩
theorem TbAt.set (h : TbAt w S q v v' l b u o bo uo nx c wk) (i : Nat) (x : Value) {u' bo' uo' nx' c' wk' : Nat} (e : (tbc v b u v' bo uo nx c wk).toList.set i x = (tbc v b u' v' bo' uo' nx' c' wk').toList) :
    TbAt (w.setCell ⟨q, i, none⟩ x) S q v v' l b u' o bo' uo' nx' c' wk' := by
  have hk : Kept (fun k => k = q) w (w.setCell ⟨q, i, none⟩ x) := Kept.setCell w _ _ rfl
  refine ⟨?_, h.new.kept hk fun k e => (h.sn k e).2, h.old.kept hk fun k e => (h.so k e).2.1, h.own, h.sn, h.so⟩
  have := tb_set h.box i x
  rw [e, Array.toArray_toList] at this
  exact this
theorem TbAt.next (h : TbAt w S q v v' l b u o bo uo nx c wk) (hb : Below w.heap.size w w') : TbAt w' S q v v' l b u o bo uo nx c wk :=
  have hk : Kept (fun _ => False) w w' := Kept.of_new hb
  h.kept hk fun _ _ f => f
theorem TbAt.mono (h : TbAt w S q v v' l b u o bo uo nx c wk) (hs : ∀ k, S k → T k) : TbAt w T q v v' l b u o bo uo nx c wk :=
  ⟨h.box, h.new, h.old, hs q h.own, fun k e => ⟨hs k (h.sn k e).1, (h.sn k e).2⟩, fun k e => ⟨hs k (h.so k e).1, (h.so k e).2⟩⟩
end
/-- What a call does to a table's contents. -/
def Alike (l o l' o' : List Tb.Pl) : Prop := ∀ k e, (Tb.Has l' k e ∨ Tb.Has o' k e) ↔ (Tb.Has l k e ∨ Tb.Has o k e)
theorem Alike.refl (l o : List Tb.Pl) : Alike l o l o := fun _ _ => Iff.rfl
theorem Alike.trans {l o l' o' l'' o'' : List Tb.Pl} (h : Alike l o l' o') (k : Alike l' o' l'' o'') : Alike l o l'' o'' := fun a b => (k a b).trans (h a b)
theorem box_set {v v' : Value} {b u bo uo nx c wk : Nat} (x : Nat) : (tbc v b u v' bo uo nx c wk).toList.set 8 (.int .i64 (x : Int)) = (tbc v b u v' bo uo nx c x).toList := rfl
/-- The moving is over: the old places go. -/
theorem tbmove_over {w w1 : World} {S : Nat → Prop} {q : Nat} {v v' : Value} {l l2 : List Tb.Pl} {b u2 : Nat} {o o2 : List Tb.Pl} {bo uo nx2 c wk2 M : Nat} (hT : TbAt w1 S q v v' l2 b u2 o2 bo uo nx2 c wk2) (hK : Kept S w w1) (hA : Alike l o l2 o2)
    (hV : Tb.Ok M 32 l2 b u2 [] 0 0 0 c ∧ ∀ k e, (Tb.Has l2 k e ∨ Tb.Has [] k e) ↔ (Tb.Has l2 k e ∨ Tb.Has o2 k e)) (hw : wk2 ≤ 8) :
    Ending.returned (.tuple #[]) = .returned (.tuple #[]) ∧ Kept S w ((((w1.setCell ⟨q, 3, none⟩ (.slice none 0 0)).setCell ⟨q, 4, none⟩ (.int .i64 0)).setCell ⟨q, 5, none⟩ (.int .i64 0)).setCell ⟨q, 6, none⟩ (.int .i64 0)) ∧
      ∃ v' l' u' o' bo' uo' nx' wk', Tb.Ok M 32 l' b u' o' bo' uo' nx' c ∧ Alike l o l' o' ∧ wk' ≤ 8 ∧ TbAt ((((w1.setCell ⟨q, 3, none⟩ (.slice none 0 0)).setCell ⟨q, 4, none⟩ (.int .i64 0)).setCell ⟨q, 5, none⟩ (.int .i64 0)).setCell ⟨q, 6, none⟩ (.int .i64 0)) S q v v' l' b u' o' bo' uo' nx' c wk' := by
  have hk : Kept (fun k => k = q) w1 ((((w1.setCell ⟨q, 3, none⟩ (.slice none 0 0)).setCell ⟨q, 4, none⟩ (.int .i64 0)).setCell ⟨q, 5, none⟩ (.int .i64 0)).setCell ⟨q, 6, none⟩ (.int .i64 0)) := (((Kept.setCell (S := fun k => k = q) w1 ⟨q, 3, none⟩ _ rfl).trans (Kept.setCell _ ⟨q, 4, none⟩ _ rfl)).trans (Kept.setCell _ ⟨q, 5, none⟩ _ rfl)).trans (Kept.setCell _ ⟨q, 6, none⟩ _ rfl)
  refine ⟨rfl, hK.trans (hk.mono fun k _ e => e ▸ hT.own), _, l2, u2, [], 0, 0, 0, wk2, hV.1, hA.trans hV.2, hw, ?_, hT.new.kept hk fun k e => (hT.sn k e).2, .inl ⟨rfl, rfl⟩, hT.own, hT.sn, fun k e => by cases e⟩
  exact set_at (set_at (set_at (tb_set hT.box 3 _) _ _) _ _) _ _
set_option maxHeartbeats 4000000 in
theorem tbmove_any (M q b u bo uo nx c wk n : Nat) (v : Value) (l o : List Tb.Pl) (d : Nat) (S : Nat → Prop) (w : World) (hM : M ≤ 1048576) (hn : Hid (o.length = n)) (hn2 : 0 < n) (hO : Hid (Tb.Ok M 0 l b u o bo uo nx c)) (hT : Hid (TbAt w S q v (.slice (some ⟨d, 0, none⟩) n n) l b u o bo uo nx c wk)) :
    Calls Try.prog 29 #[.pointer (some ⟨q, 0, none⟩)] w fun e w' => e = .returned (.tuple #[]) ∧ Kept S w w' ∧
      ∃ v' l' u' o' bo' uo' nx' wk', Tb.Ok M 32 l' b u' o' bo' uo' nx' c ∧ Alike l o l' o' ∧ wk' ≤ 8 ∧ TbAt w' S q v v' l' b u' o' bo' uo' nx' c wk' := by
  have hnx := hO.out.nxle
  rw [hn.out] at hnx
  have hn3 := hO.out.leno
  rw [hn.out] at hn3
  have HT0 : Hid (TbAt (w.setCell ⟨q, 8, none⟩ (.int .i64 0)) S q v (.slice (some ⟨d, 0, none⟩) n n) l b u o bo uo nx c 0) := hT.out.set 8 _ rfl
  have HK0 : Hid (Kept S w (w.setCell ⟨q, 8, none⟩ (.int .i64 0))) := Kept.setCell _ _ _ hT.out.own
  obtain ⟨-, -, -, -, -, -, -, -, q8⟩ := nine_cells hT.out.box
  obtain ⟨-, -, -, -, -, -, -, -, r8⟩ := nine_frozen hT.out.box
  go_enter Try.func29, Try.ntmps29
  go_upto_region 1 with fail
  clear q8 r8
  generalize w.setCell ⟨q, 8, none⟩ (.int .i64 0) = w0 at *
  obtain ⟨q0, q1, q2, q3, q4, q5, q6, q7, q8⟩ := nine_cells HT0.out.box
  obtain ⟨en, hen⟩ : ∃ en : Nat, (nx + 32 ≤ n ∧ en = nx + 32) ∨ (n < nx + 32 ∧ en = n) := by
    by_cases h : nx + 32 ≤ n
    · exact ⟨_, .inl ⟨h, rfl⟩⟩
    · exact ⟨_, .inr ⟨by omega, rfl⟩⟩
  have hmin : (if (n : Int) < (nx : Int) + 32 then (n : Int) else (nx : Int) + 32) = (en : Int) := by split <;> omega
  have HEN := Lib.hid hen
  go_region
  have HT1 : Hid (TbAt w0.drew S q v (.slice (some ⟨d, 0, none⟩) n n) l b u o bo uo nx c 0) := HT0.out.drew
  have HK1 : Hid (Kept S w w0.drew) := kept_drew HK0.out
  clear q0 q1 q2 q3 q4 q5 q6 q7 q8 HT0 HK0
  generalize w0.drew = w1 at *
  have HIN : Hid (nx ≤ en) := by show _ ≤ _; have := HEN.out; omega
  clear hmin hen
  go_wp2_with fail
  go_loopg [3] (en - nx) (fun g _ wr => ∃ l' u' o' nx' wk', Hid (Tb.Ok M ((nx' - nx) + 4 * wk') l' b u' o' bo uo nx' c) ∧ Hid (Alike l o l' o') ∧ Hid (o'.length = n ∧ l'.length = l.length) ∧ nx ≤ nx' ∧ nx' ≤ en ∧ wk' ≤ 8 ∧ Hid (wk' ≤ nx' - nx ∧ g + nx' = en) ∧ Hid (TbAt wr S q v (.slice (some ⟨d, 0, none⟩) n n) l' b u' o' bo uo nx' c wk') ∧ Hid (Kept S w wr))
  case atStart => exact ⟨l, u, o, nx, 0, by rw [Nat.sub_self]; exact hO.out, Alike.refl l o, ⟨hn.out, rfl⟩, Nat.le_refl _, HIN.out, Nat.zero_le _, ⟨Nat.zero_le _, by have := HIN.out; omega⟩, HT1.out, HK1.out⟩
  case round =>
    obtain ⟨l2, u2, o2, nx2, wk2, HO, HA, HL, hx1, hx2, hw8, HG, HT, HK⟩ := hrel
    have hen1 : en ≤ n := by have := HEN.out; omega
    obtain ⟨q0, q1, q2, q3, q4, q5, q6, q7, q8⟩ := nine_cells HT.out.box
    obtain ⟨r0, r1, r2, r3, r4, r5, r6, r7, r8⟩ := nine_frozen HT.out.box
    by_cases h1 : nx2 < en
    · by_cases h2 : wk2 < 8
      · have hxn : nx2 < n := by omega
        have hxl := Lib.hid (show nx2 < o2.length by rw [HL.out.1]; exact hxn)
        obtain ⟨d', hd', HP⟩ := HT.out.old.at_ (by rw [HL.out.1]; exact hn2)
        obtain ⟨rfl⟩ : d' = d := by injection hd' with e; injection e with e; injection e with e; exact e.symm
        clear hd'
        have HP := Lib.hid HP
        generalize hp : Tb.g o2 nx2 = p
        have HPP := Lib.hid hp; clear hp
        obtain ⟨c0, c1, c2, c3, c4, c5, c6, c7⟩ := pl_cells HP.out nx2 hxl.out p HPP.out
        obtain ⟨ps, ph, pk, ⟨e0, e1, e2, e3, e4⟩⟩ := p
        simp only at c0 c1 c2 c3 c4 c5 c6 c7
        have hst : ps = 0 ∨ ps = 1 ∨ ps = 2 := by have := HO.out.go.st nx2; rw [HPP.out] at this; exact this
        have HS := Lib.hid hst; clear hst
        go_upto_region 4 with fail
        go_quiet (fail)
        have HTq : Hid (TbAt (wr.drewN nq) S q v (.slice (some ⟨d, 0, none⟩) n n) l2 b u2 o2 bo uo nx2 c wk2) := HT.out.drewN nq
        have HKq : Hid (Kept S w (wr.drewN nq)) := HK.out.drewN nq
        have HPq : Hid ((wr.drewN nq).heap[d]? = some (.cells (plS.flat o2).toArray 84 (0, 0))) := HP.out
        clear q0 q1 q2 q3 q4 q5 q6 q7 q8 r0 r1 r2 r3 r4 r5 r6 r7 r8 c0 c1 c2 c3 c4 c5 c6 c7 HT HK HP
        generalize wr.drewN nq = wq at *
        obtain ⟨q0, q1, q2, q3, q4, q5, q6, q7, q8⟩ := nine_cells HTq.out.box
        obtain ⟨r0, r1, r2, r3, r4, r5, r6, r7, r8⟩ := nine_frozen HTq.out.box
        obtain ⟨c0, c1, c2, c3, c4, c5, c6, c7⟩ := pl_cells HPq.out nx2 hxl.out _ HPP.out
        simp only at c0 c1 c2 c3 c4 c5 c6 c7
        by_cases hs1 : ps = 1
        · subst hs1
          obtain ⟨hl0, hroom⟩ := HO.out.room (by rw [HPP.out])
          obtain ⟨dn, rfl, HN⟩ := HTq.out.new.at_ hl0
          have HN := Lib.hid HN
          have hnq : dn ≠ q := (HTq.out.sn dn rfl).2
          have hdq : d ≠ q := (HTq.out.so d rfl).2.1
          have hnd : dn ≠ d := fun e => (HTq.out.so d rfl).2.2 (by rw [e]; rfl)
          have hhash := HO.out.go.hash nx2 (by rw [HPP.out])
          rw [HPP.out] at hhash
          simp only at hhash
          have hlen2 := HO.out.len
          have CA := Lib.hid (fun W (e : W.heap = wq.heap) => pladd_any q dn l2.length b u2 bo uo nx2 c wk2 (.slice (some ⟨d, 0, none⟩) n n) l2 1 ph pk e0 e1 e2 e3 e4 W rfl hl0 (by omega) hnq (by omega) (by rw [e]; exact Lib.hid HTq.out.box) (by rw [e]; exact HN) (Lib.hid HO.out.gf) (Lib.hid hhash))
          clear hlen2 hhash
          go_upto_region 6 with fail
          go_region_with (go_at_call 34; refine (CA.out _ (show wq.drew.heap = wq.heap from rfl)).mono ?_; rintro e w' ⟨rfl, hk3, t, ht1, ht2, ht3, ht4⟩)
          have hc := HO.out.carry (by rw [HPP.out]) t
          rw [HPP.out] at hc
          obtain ⟨HO3, HA3⟩ := hc ht1 ht2
          have hl3 : (l2.set (Tb.stp l2 (Tb.home pk b) t) (⟨1, ph, pk, ⟨e0, e1, e2, e3, e4⟩⟩ : Tb.Pl)).length = l2.length := List.length_set
          simp only at HO3 HA3
          generalize l2.set (Tb.stp l2 (Tb.home pk b) t) ⟨1, ph, pk, ⟨e0, e1, e2, e3, e4⟩⟩ = l3 at *
          generalize (if (Tb.g l2 (Tb.stp l2 (Tb.home pk b) t)).st = 0 then u2 + 1 else u2) = u3 at *
          clear CA
          have HK3 : Hid (Kept S w w') := (kept_drew HKq.out).trans (hk3.mono fun k _ e => by rcases e with e | e <;> rw [e]; exact HTq.out.own; exact (HTq.out.sn dn rfl).1)
          have HP3 : Hid (w'.heap[d]? = some (.cells (plS.flat o2).toArray 84 (0, 0))) := (hk3.block d (Array.getElem?_eq_some_iff.1 HPq.out).1 (fun e => by rcases e with e | e; exact hdq e; exact hnd e.symm)).trans HPq.out
          have HT3 : Hid (TbAt w' S q (.slice (some ⟨dn, 0, none⟩) l2.length l2.length) (.slice (some ⟨d, 0, none⟩) n n) l3 b u3 o2 bo uo nx2 c wk2) := ⟨ht3, .inr ⟨dn, by rw [hl3]; exact hl0, by rw [hl3], ht4⟩, .inr ⟨d, by rw [HL.out.1]; exact hn2, by rw [HL.out.1], HP3.out⟩, HTq.out.own, HTq.out.sn, HTq.out.so⟩
          have CV := Lib.hid (plvacate_any d nx2 o2 w' hxl.out HP3)
          have HO3 := Lib.hid HO3
          have HA3 := Lib.hid HA3
          have HL3 := Lib.hid hl3
          clear ht1 ht2 ht3 ht4 hk3 hl3 q0 q1 q2 q3 q4 q5 q6 q7 q8 r0 r1 r2 r3 r4 r5 r6 r7 r8 c0 c1 c2 c3 c4 c5 c6 c7 hc
          go_wp2_with fail
          refine CV.out.mono ?_
          rintro e w5 ⟨rfl, hk5, hp5⟩
          have HT5 : Hid (TbAt w5 S q (.slice (some ⟨dn, 0, none⟩) l2.length l2.length) (.slice (some ⟨d, 0, none⟩) n n) l3 b u3 (o2.set nx2 Tb.Gone) bo uo nx2 c wk2) :=
            ⟨(hk5.block q (Array.getElem?_eq_some_iff.1 HT3.out.box).1 (fun e => hdq e.symm)).trans HT3.out.box, HT3.out.new.kept hk5 (fun k e e2 => by injection e with e; exact hnd (e.trans e2)), .inr ⟨d, by rw [List.length_set, HL.out.1]; exact hn2, by rw [List.length_set, HL.out.1], hp5⟩, HT3.out.own, HT3.out.sn, HT3.out.so⟩
          have HK5 : Hid (Kept S w w5) := HK3.out.trans (hk5.mono fun k _ e => by rw [e]; exact (HTq.out.so d rfl).1)
          clear hk5 hp5 HT3 HK3 HP3 CV
          have HT6 : Hid (TbAt (w5.setCell ⟨q, 8, none⟩ (.int .i64 ((wk2 : Int) + 1))) S q (.slice (some ⟨dn, 0, none⟩) l2.length l2.length) (.slice (some ⟨d, 0, none⟩) n n) l3 b u3 (o2.set nx2 Tb.Gone) bo uo nx2 c (wk2 + 1)) := HT5.out.set 8 _ rfl
          have HK6 : Hid (Kept S w (w5.setCell ⟨q, 8, none⟩ (.int .i64 ((wk2 : Int) + 1)))) := HK5.out.trans (Kept.setCell _ _ _ HTq.out.own)
          obtain ⟨q0, q1, q2, q3, q4, q5, q6, q7, q8⟩ := nine_cells HT5.out.box
          obtain ⟨r0, r1, r2, r3, r4, r5, r6, r7, r8⟩ := nine_frozen HT5.out.box
          go_upto_region 3 with fail
          clear q0 q1 q2 q3 q4 q5 q6 q7 q8 r0 r1 r2 r3 r4 r5 r6 r7 r8 HT5 HK5
          generalize w5.setCell ⟨q, 8, none⟩ (.int .i64 ((wk2 : Int) + 1)) = w6 at *
          obtain ⟨q0, q1, q2, q3, q4, q5, q6, q7, q8⟩ := nine_cells HT6.out.box
          obtain ⟨r0, r1, r2, r3, r4, r5, r6, r7, r8⟩ := nine_frozen HT6.out.box
          have HT7 : Hid (TbAt (w6.setCell ⟨q, 6, none⟩ (.int .i64 ((nx2 : Int) + 1))) S q (.slice (some ⟨dn, 0, none⟩) l2.length l2.length) (.slice (some ⟨d, 0, none⟩) n n) l3 b u3 (o2.set nx2 Tb.Gone) bo uo (nx2 + 1) c (wk2 + 1)) := HT6.out.set 6 _ rfl
          have HK7 : Hid (Kept S w (w6.setCell ⟨q, 6, none⟩ (.int .i64 ((nx2 : Int) + 1)))) := HK6.out.trans (Kept.setCell _ _ _ HTq.out.own)
          have HG5 : Hid (wk2 + 1 ≤ nx2 + 1 - nx ∧ (gk - 1) + (nx2 + 1) = en) := by show _ ∧ _; have := HG.out; omega
          have HS5 : Hid (nx2 - nx + 4 * wk2 + 5 = (nx2 + 1 - nx) + 4 * (wk2 + 1)) := by show _ = _; omega
          have HM5 : Hid (gk - 1 < gk) := by show _ < _; have := HG.out; omega
          rw [HS5.out] at HO3
          go_wp2_with fail
          go_roundg (gk - 1)
          case measure => exact HM5.out
          case rel => exact ⟨l3, u3, o2.set nx2 Tb.Gone, nx2 + 1, wk2 + 1, HO3, HA.out.trans HA3.out, ⟨by rw [List.length_set]; exact HL.out.1, HL3.out.trans HL.out.2⟩, by omega, by omega, by omega, HG5, HT7, HK7⟩
        · have HT5 : Hid (TbAt (wq.setCell ⟨q, 6, none⟩ (.int .i64 ((nx2 : Int) + 1))) S q v (.slice (some ⟨d, 0, none⟩) n n) l2 b u2 o2 bo uo (nx2 + 1) c wk2) := HTq.out.set 6 _ rfl
          have HK5 : Hid (Kept S w (wq.setCell ⟨q, 6, none⟩ (.int .i64 ((nx2 : Int) + 1)))) := HKq.out.trans (Kept.setCell _ _ _ HTq.out.own)
          have HO5 := Lib.hid (HO.out.pass hxl.out (by rw [HPP.out]; exact hs1))
          have HGd := Lib.hid HG.out
          have HG5 : Hid (wk2 ≤ nx2 + 1 - nx ∧ (gk - 1) + (nx2 + 1) = en) := by show _ ∧ _; have := HG.out; omega
          have HS5 : Hid (nx2 - nx + 4 * wk2 + 1 = (nx2 + 1 - nx) + 4 * wk2) := by show _ = _; omega
          rw [HS5.out] at HO5
          have HM5 : Hid (gk - 1 < gk) := by show _ < _; have := HG.out; omega
          rcases HS.out with rfl | h | rfl
          · go_wp2_with fail
            go_roundg (gk - 1)
            case measure => exact HM5.out
            case rel => exact ⟨l2, u2, o2, nx2 + 1, wk2, HO5, HA, HL, by omega, by omega, hw8, HG5, HT5, HK5⟩
          · exact absurd h hs1
          · go_wp2_with fail
            go_roundg (gk - 1)
            case measure => exact HM5.out
            case rel => exact ⟨l2, u2, o2, nx2 + 1, wk2, HO5, HA, HL, by omega, by omega, hw8, HG5, HT5, HK5⟩
      · have hstop : Hid (nx2 = en ∨ wk2 = 8) := by show _ ∨ _; omega
        by_cases h9 : nx2 = n
        · have e1 : ((nx2 : Int) == (n : Int)) = true := by rw [h9]; exact beq_self_eq_true _
          have e2 : (nx2 == n) = true := by rw [h9]; exact beq_self_eq_true _
          have HV := Lib.hid (HO.out.over (show nx2 = o2.length by rw [HL.out.1]; exact h9) 32)
          have H9 := Lib.hid h9
          clear h9
          go_upto_region 9 with fail
          go_quiet (fail)
          have HTq : Hid (TbAt (wr.drewN nq) S q v (.slice (some ⟨d, 0, none⟩) n n) l2 b u2 o2 bo uo nx2 c wk2) := HT.out.drewN nq
          have HKq : Hid (Kept S w (wr.drewN nq)) := HK.out.drewN nq
          clear q0 q1 q2 q3 q4 q5 q6 q7 q8 r0 r1 r2 r3 r4 r5 r6 r7 r8 HT HK
          generalize wr.drewN nq = wq at *
          obtain ⟨q0, q1, q2, q3, q4, q5, q6, q7, q8⟩ := nine_cells HTq.out.box
          obtain ⟨r0, r1, r2, r3, r4, r5, r6, r7, r8⟩ := nine_frozen HTq.out.box
          go_wp2_with fail
          go_end0
          exact tbmove_over HTq.out HKq.out HA.out HV.out hw8
        · have e1 : ((nx2 : Int) == (n : Int)) = false := beq_eq_false_iff_ne.2 (fun e => h9 (by omega))
          have e2 : (nx2 == n) = false := beq_eq_false_iff_ne.2 h9
          have HS32 : Hid (32 ≤ (nx2 - nx) + 4 * wk2) := by show _ ≤ _; have := hstop.out; have := HEN.out; omega
          have HV := Lib.hid (HO.out.slack HS32.out)
          have H9 := Lib.hid h9
          clear h9
          go_upto_region 9 with fail
          go_quiet (fail)
          go_wp2_with fail
          go_end0
          exact ⟨rfl, HK.out.drewN nq, _, l2, u2, o2, bo, uo, nx2, wk2, HV.out, HA.out, hw8, HT.out.drewN nq⟩
    · have hstop : Hid (nx2 = en ∨ wk2 = 8) := by show _ ∨ _; omega
      by_cases h9 : nx2 = n
      · have e1 : ((nx2 : Int) == (n : Int)) = true := by rw [h9]; exact beq_self_eq_true _
        have e2 : (nx2 == n) = true := by rw [h9]; exact beq_self_eq_true _
        have HV := Lib.hid (HO.out.over (show nx2 = o2.length by rw [HL.out.1]; exact h9) 32)
        have H9 := Lib.hid h9
        clear h9
        go_upto_region 9 with fail
        go_quiet (fail)
        have HTq : Hid (TbAt (wr.drewN nq) S q v (.slice (some ⟨d, 0, none⟩) n n) l2 b u2 o2 bo uo nx2 c wk2) := HT.out.drewN nq
        have HKq : Hid (Kept S w (wr.drewN nq)) := HK.out.drewN nq
        clear q0 q1 q2 q3 q4 q5 q6 q7 q8 r0 r1 r2 r3 r4 r5 r6 r7 r8 HT HK
        generalize wr.drewN nq = wq at *
        obtain ⟨q0, q1, q2, q3, q4, q5, q6, q7, q8⟩ := nine_cells HTq.out.box
        obtain ⟨r0, r1, r2, r3, r4, r5, r6, r7, r8⟩ := nine_frozen HTq.out.box
        go_wp2_with fail
        go_end0
        exact tbmove_over HTq.out HKq.out HA.out HV.out hw8
      · have e1 : ((nx2 : Int) == (n : Int)) = false := beq_eq_false_iff_ne.2 (fun e => h9 (by omega))
        have e2 : (nx2 == n) = false := beq_eq_false_iff_ne.2 h9
        have HS32 : Hid (32 ≤ (nx2 - nx) + 4 * wk2) := by show _ ≤ _; have := hstop.out; have := HEN.out; omega
        have HV := Lib.hid (HO.out.slack HS32.out)
        have H9 := Lib.hid h9
        clear h9
        go_upto_region 9 with fail
        go_quiet (fail)
        go_wp2_with fail
        go_end0
        exact ⟨rfl, HK.out.drewN nq, _, l2, u2, o2, bo, uo, nx2, wk2, HV.out, HA.out, hw8, HT.out.drewN nq⟩
end Go.Proofs.Ytcdomlgnfbdeoaa
