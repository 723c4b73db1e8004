/-
  The walk of Table.Set.
-/
import Derived.Test.YtcdomlgnfbdeoaaTbCalls
import Derived.Test.YtcdomlgnfbdeoaaStrClone
set_option maxRecDepth 100000
namespace Go.Proofs.Ytcdomlgnfbdeoaa
open Go.RowKit
/-- What Set leaves. -/
def SetIs (M : Nat) (S : Nat → Prop) (q : Nat) (H : ByteArray → Tb.En → Prop) (c : Nat) (k : ByteArray) (x : Tb.En) (w : World) (e : Ending) (w' : World) : Prop :=
  e = .returned (.tuple #[]) ∧ Kept S w w' ∧ ∃ c' wk', (((∃ x, H k x) ∧ c' = c) ∨ ((∀ x, ¬ H k x) ∧ c' = c + 1)) ∧ Tab M w' (Grow S w) q (fun k' e' => (k = k' ∧ x = e') ∨ (k ≠ k' ∧ H k' e')) c' wk'
theorem set_end {w W wc w5 : World} {S SS : Nat → Prop} {M q d : Nat} {H : ByteArray → Tb.En → Prop} {v2 : Value} {L O : List Tb.Pl} {B U BO UO NX c wk2 t : Nat} {k : ByteArray} {x : Tb.En} (hw2 : wk2 ≤ 8) (hc : c < M)
    (HT : TbAt W SS q (.slice (some ⟨d, 0, none⟩) L.length L.length) v2 L B U O BO UO NX c wk2) (HO : Tb.Ok M 32 L B U O BO UO NX c) (HH : ∀ k e, H k e ↔ (Tb.Has L k e ∨ Tb.Has O k e)) (h1 : ∀ i, (Tb.g L i).st = 1 → (Tb.g L i).k ≠ k) (h2 : ∀ i, (Tb.g O i).st = 1 → (Tb.g O i).k ≠ k)
    (hr : 4 * (U + 1) ≤ 3 * L.length) (HK : Kept S w W) (hSS : ∀ k, SS k → Grow S w k) (hb : Below W.heap.size W wc) (hk5 : Kept (fun x => x = q ∨ x = d) wc w5) (ht1 : Tb.Full L (Tb.home k B) t) (ht2 : (Tb.g L (Tb.stp L (Tb.home k B) t)).st ≠ 1)
    (ht3 : w5.heap[q]? = some (.cells (tbc (.slice (some ⟨d, 0, none⟩) L.length L.length) B (if (Tb.g L (Tb.stp L (Tb.home k B) t)).st = 0 then U + 1 else U) v2 BO UO NX c wk2) 65 (0, 0)))
    (ht4 : w5.heap[d]? = some (.cells (plS.flat (L.set (Tb.stp L (Tb.home k B) t) ⟨1, Tb.hs k, k, x⟩)).toArray 84 (0, 0))) :
    SetIs M S q H c k x w (.returned (.tuple #[])) (w5.setCell ⟨q, 7, none⟩ (.int .i64 ((c : Int) + 1))) := by
  have hl0 : 0 < L.length := by omega
  obtain ⟨hO6, hA6⟩ := HO.put hc hl0 hr ⟨1, Tb.hs k, k, x⟩ rfl rfl h1 h2 t ht1 ht2
  have hd := HT.sn d rfl
  have hT5 : TbAt w5 SS q (.slice (some ⟨d, 0, none⟩) L.length L.length) v2 (L.set (Tb.stp L (Tb.home k B) t) ⟨1, Tb.hs k, k, x⟩) B (if (Tb.g L (Tb.stp L (Tb.home k B) t)).st = 0 then U + 1 else U) O BO UO NX c wk2 :=
    ⟨ht3, .inr ⟨d, by rw [List.length_set]; exact hl0, by rw [List.length_set], ht4⟩, (HT.old.kept (Kept.of_new (S := fun _ => False) hb) fun _ _ f => f).kept hk5 fun j e e2 => by
      rcases e2 with e2 | e2
      · exact (HT.so j e).2.1 e2
      · exact (HT.so j e).2.2 (by rw [e2]; rfl), HT.own, HT.sn, HT.so⟩
  have hT6 := (hT5.set 7 (.int .i64 ((c : Int) + 1)) (u' := if (Tb.g L (Tb.stp L (Tb.home k B) t)).st = 0 then U + 1 else U) (bo' := BO) (uo' := UO) (nx' := NX) (c' := c + 1) (wk' := wk2) rfl).to (T := Grow S w) fun j _ h => hSS j h
  have hk6 : Kept S w (w5.setCell ⟨q, 7, none⟩ (.int .i64 ((c : Int) + 1))) := by
    have hk7 : Kept (fun x => x = q ∨ x = d) wc (w5.setCell ⟨q, 7, none⟩ (.int .i64 ((c : Int) + 1))) := hk5.trans (Kept.setCell _ ⟨q, 7, none⟩ _ (.inl rfl))
    refine (HK.trans (Kept.of_new hb)).trans' hk7 fun i hi hlt => ?_
    have hg : Grow S w i := by
      rcases hi with rfl | rfl
      · exact hSS _ HT.own
      · exact hSS _ hd.1
    rcases hg with h | h
    · exact h
    · omega
  have hno : ∀ y, ¬ H k y := fun y hy => by
    rcases (HH k y).1 hy with ⟨i, i1, i2, _⟩ | ⟨i, i1, i2, _⟩
    · exact h1 i i1 i2
    · exact h2 i i1 i2
  exact ⟨rfl, hk6, c + 1, wk2, .inr ⟨hno, rfl⟩, _, v2, _, B, _, O, BO, UO, NX, hO6, hw2, hT6, fun k' e' => (or_congr Iff.rfl (and_congr Iff.rfl (HH k' e'))).trans (hA6 k' e').symm⟩
set_option maxHeartbeats 4000000 in
theorem tbset_any (M q c wk : Nat) (k : ByteArray) (e0 e1 e2 e3 : Int) (e4 : Bool) (H : ByteArray → Tb.En → Prop) (S : Nat → Prop) (w : World) (hM : M ≤ 1048576) (hk : k.size ≤ 1048576) (hc : c < M) (hS : ∀ k, S k → k < w.heap.size) (hT : Hid (Tab M w S q H c wk)) :
    Calls Try.prog 21 #[.pointer (some ⟨q, 0, none⟩), .string k, .agg #[.int .i64 e0, .int .i64 e1, .int .i64 e2, .int .i64 e3, .bool e4]] w fun e w' => SetIs M S q H c k ⟨e0, e1, e2, e3, e4⟩ w e w' := by
  obtain ⟨v, v', l, b, u, o, bo, uo, nx, hO, -, hA, hH⟩ := hT.out
  have HO := Lib.hid hO
  have HH := Lib.hid hH
  have HA0 := Lib.hid (hA.next ((Below.refl _ w).alloc (Nat.le_refl _) (.cells #[.int .i64 e0, .int .i64 e1, .int .i64 e2, .int .i64 e3, .bool e4] 36)))
  have HX0 : Hid ((w.alloc (.cells #[.int .i64 e0, .int .i64 e1, .int .i64 e2, .int .i64 e3, .bool e4] 36)).heap[w.heap.size]? = some (.cells #[.int .i64 e0, .int .i64 e1, .int .i64 e2, .int .i64 e3, .bool e4] 36 (0, 0))) := heap_alloc_new w _
  have HK0 : Hid (Kept S w (w.alloc (.cells #[.int .i64 e0, .int .i64 e1, .int .i64 e2, .int .i64 e3, .bool e4] 36))) := Kept.alloc _ _
  have hx : ¬ S w.heap.size := fun h => by have := hS _ h; omega
  have HX := Lib.hid hx
  clear hO hA hH hx
  have kc := fun W => Lib.run_convert_string_bytes (P := Try.prog) W 9 40 5 k Try.underlying9 Try.underlying40 Try.underlying5
  go_enter Try.func21, Try.ntmps21
  go_wp2_with fail
  generalize w.alloc (.cells #[.int .i64 e0, .int .i64 e1, .int .i64 e2, .int .i64 e3, .bool e4] 36) = w0 at *
  generalize hx0 : w.heap.size = x0 at *
  have HXS := Lib.hid hx0; clear hx0
  refine (tbmove_all M q b u bo uo nx c wk v v' l o S w0 hM HO.out HA0.out).mono ?_
  rintro e w1 ⟨rfl, hk1, v2, l2, u2, o2, bo2, uo2, nx2, wk2, hO2, ha2, hw2, hT2⟩
  have HO2 := Lib.hid hO2
  have HH2 : Hid (∀ k e, H k e ↔ (Tb.Has l2 k e ∨ Tb.Has o2 k e)) := fun k e => (HH.out k e).trans (ha2 k e).symm
  have HX1 : Hid (w1.heap[x0]? = some (.cells #[.int .i64 e0, .int .i64 e1, .int .i64 e2, .int .i64 e3, .bool e4] 36 (0, 0))) := (hk1.block x0 (Array.getElem?_eq_some_iff.1 HX0.out).1 HX.out).trans HX0.out
  have HK1 := Lib.hid (HK0.out.trans hk1)
  have HA1 := Lib.hid hT2
  clear hO2 ha2 hT2 hk1 HX0 HK0 HA0
  go_wp2_with fail
  refine (keyhash_any k hk w1).mono ?_
  rintro e w2 ⟨rfl, hw⟩
  have HX2 : Hid (w2.heap[x0]? = some (.cells #[.int .i64 e0, .int .i64 e1, .int .i64 e2, .int .i64 e3, .bool e4] 36 (0, 0))) := by rw [hw]; exact ((bytes_below w1 k).block x0 (Array.getElem?_eq_some_iff.1 HX1.out).1).trans HX1.out
  have HK2 : Hid (Kept S w w2) := by rw [hw]; exact HK1.out.trans (Kept.of_new (bytes_below w1 k))
  have HA2 : Hid (TbAt w2 S q v v2 l2 b u2 o2 bo2 uo2 nx2 c wk2) := by rw [hw]; exact HA1.out.next (bytes_below w1 k)
  clear hw HX1 HK1 HA1
  go_wp2_with fail
  refine (tbfind_any M 32 q b u2 bo2 uo2 nx2 c wk2 (Tb.hs k) k v v2 l2 o2 S w2 hM HO2.out HA2.out rfl).mono ?_
  rintro e w' ⟨hf, rfl⟩
  obtain ⟨x1, x2, x3, x4, x5⟩ := five_cells HX2.out
  have HXN : Hid (∀ {T : Nat → Prop} w3, (∀ k, T k → S k) → Kept T w2 w3 → Kept S w w3) := fun w3 ht h3 => HK2.out.trans (h3.mono fun k _ h => ht k h)
  rcases hf with ⟨rfl, h1, h2⟩ | ⟨d, i, hv, rfl, h1, h2⟩ | ⟨d, i, hv, rfl, h1, h2⟩
  · obtain ⟨A, hvA⟩ := HA2.out.new.len
    subst hvA
    have HN1 := Lib.hid h1
    have HN2 := Lib.hid h2
    clear h1 h2
    have hlen := HO2.out.len
    have hroom := HO2.out.gf.room
    obtain ⟨q0, q1, q2, q3, q4, q5, q6, q7, q8⟩ := nine_cells HA2.out.box
    have CF := Lib.hid (plfull_any q l2.length u2 A w2 (by omega) (by omega) q0 q2)
    clear q0 q1 q2 q3 q4 q5 q6 q7 q8 x1 x2 x3 x4 x5
    by_cases hfull : 3 * l2.length < 4 * (u2 + 1)
    · have hf1 : decide (3 * (l2.length : Int) < 4 * ((u2 : Int) + 1)) = true := decide_eq_true (by omega)
      rw [hf1] at CF
      clear hf1
      go_wp2_with fail
      refine CF.out.mono ?_
      rintro e w3 ⟨rfl, kq, hw3⟩
      have HX3 : Hid (w3.heap[x0]? = some (.cells #[.int .i64 e0, .int .i64 e1, .int .i64 e2, .int .i64 e3, .bool e4] 36 (0, 0))) := by rw [hw3]; exact HX2.out
      have HK3 : Hid (Kept S w w3) := by rw [hw3]; exact HK2.out.drewN kq
      have HA3 : Hid (TbAt w3 S q (.slice A l2.length l2.length) v2 l2 b u2 o2 bo2 uo2 nx2 c wk2) := by rw [hw3]; exact HA2.out.drewN kq
      clear hw3 HX2 HK2 HA2
      have ho := HO2.out.still hfull
      subst ho
      have hv2 := HA3.out.old.nil
      subst hv2
      obtain ⟨hO4, hA4, hr4⟩ := HO2.out.grow hc hM
      have hb29 : b ≤ 29 := by
        rcases HO2.out.gf.shape with ⟨_, e⟩ | ⟨e, _, _⟩
        · omega
        · refine Nat.le_of_not_lt fun h => ?_
          have : (2 : Nat) ^ 30 ≤ 2 ^ b := Nat.pow_le_pow_right (by decide) h
          have : (2 : Nat) ^ 30 = 1073741824 := by decide
          omega
      have CG := Lib.hid (tbgrow_any q b u2 bo2 uo2 nx2 c wk2 l2.length A l2 S w3 rfl (by omega) (by omega) hb29 HA3)
      go_wp2_with fail
      refine CG.out.mono ?_
      rintro e w4 ⟨rfl, hk4, d, hT4⟩
      have HX4 : Hid (w4.heap[x0]? = some (.cells #[.int .i64 e0, .int .i64 e1, .int .i64 e2, .int .i64 e3, .bool e4] 36 (0, 0))) := (hk4.block x0 (Array.getElem?_eq_some_iff.1 HX3.out).1 HX.out).trans HX3.out
      have HK4 := Lib.hid (HK3.out.trans hk4)
      have HT4 := Lib.hid hT4
      have HO4 := Lib.hid hO4
      have HH4 : Hid (∀ k e, H k e ↔ (Tb.Has (List.replicate (2 ^ Tb.grown l2 b c) Tb.Pl0) k e ∨ Tb.Has l2 k e)) := fun k e => (HH2.out k e).trans (hA4 k e).symm
      have HN2 := HN1
      have HZ3 := Lib.hid HK3.out.size
      have HN3 : Hid (∀ i, (Tb.g (List.replicate (2 ^ Tb.grown l2 b c) Tb.Pl0) i).st = 1 → (Tb.g (List.replicate (2 ^ Tb.grown l2 b c) Tb.Pl0) i).k ≠ k) := fun i hi => by rw [Tb.g_rep] at hi; cases hi
      have hr5 : 4 * (0 + 1) ≤ 3 * (List.replicate (2 ^ Tb.grown l2 b c) Tb.Pl0).length := by rw [List.length_replicate]; omega
      have HL4 : Hid ((List.replicate (2 ^ Tb.grown l2 b c) Tb.Pl0).length = 2 ^ Tb.grown l2 b c) := List.length_replicate
      have HR4 := Lib.hid hr5
      clear CG CF hk4 hT4 hO4 hA4 hr4 hr5 HX3 HK3 HA3 hb29
      generalize List.replicate (2 ^ Tb.grown l2 b c) Tb.Pl0 = l4 at *
      rw [← HL4.out] at HT4
      generalize Tb.grown l2 b c = b4 at *
      have HSS : Hid (∀ k, Grow S w3 k → Grow S w k) := fun k h => h.elim .inl fun h => .inr (Nat.le_trans HZ3.out h)
      go_upto_region 9 with fail
      have CC := Lib.hid (fun W => strclone_any k hk W)
      have hdS := HT4.out.sn d rfl
      obtain ⟨d', hd', HP⟩ := HT4.out.new.at_ (by have := HR4.out; omega)
      obtain rfl : d = d' := by injection hd' with e; injection e with e; injection e with e
      clear hd'
      have HPd := Lib.hid HP
      have hdl := (Array.getElem?_eq_some_iff.1 HP).1
      clear HP
      have hlen4 := HO4.out.len
      have hroom4 := HO4.out.gf.room
      have CA := Lib.hid (fun W (hB : Below w4.heap.size w4 W) => pladd_any q d l4.length b4 0 b u2 0 c wk2 (.slice A l2.length l2.length) l4 1 (Tb.hs k) k e0 e1 e2 e3 e4 W rfl (by have := HR4.out; omega) (by omega) hdS.2 (by omega) (Lib.hid ((hB.block q HT4.out.lt).trans HT4.out.box)) (Lib.hid ((hB.block d hdl).trans HPd.out)) (Lib.hid HO4.out.gf) (Lib.hid rfl))
      have HDS := Lib.hid hdS
      have HDL := Lib.hid hdl
      clear hlen4 hroom4 hdS hdl
      obtain ⟨x1, x2, x3, x4, x5⟩ := five_cells HX4.out
      go_region_with (first | (go_at_call 35; refine (CC.out _).mono ?_; rintro e wc ⟨rfl, hbc⟩; have HBc := Lib.hid (below_drop hbc); have HXc : Hid (wc.heap[x0]? = some (.cells #[.int .i64 e0, .int .i64 e1, .int .i64 e2, .int .i64 e3, .bool e4] 36 (0, 0))) := (HBc.out.block x0 (Array.getElem?_eq_some_iff.1 HX4.out).1).trans HX4.out; obtain ⟨z1, z2, z3, z4, z5⟩ := five_cells HXc.out) | (go_at_call 34; refine (CA.out wc HBc.out).mono ?_; rintro e w5 ⟨rfl, hk5, t, ht1, ht2, ht3, ht4⟩))
      all_goals
        have HT1 := Lib.hid ht1
        have HT2 := Lib.hid ht2
        have HT3 := Lib.hid ht3
        have HTd := Lib.hid ht4
        have HK5 := Lib.hid hk5
        obtain ⟨q0, q1, q2, q3, q4, q5, q6, q7, q8⟩ := nine_cells HT3.out
        obtain ⟨r0, r1, r2, r3, r4, r5, r6, r7, r8⟩ := nine_frozen HT3.out
        clear ht1 ht2 ht3 ht4 hk5 q0 q1 q2 q3 q4 q5 q6 q8 r0 r1 r2 r3 r4 r5 r6 r8
        go_wp2_with fail
        go_end0
        exact set_end hw2 hc HT4.out HO4.out HH4.out HN3.out HN2.out HR4.out HK4.out HSS.out HBc.out HK5.out HT1.out HT2.out HT3.out HTd.out
    · have hf1 : decide (3 * (l2.length : Int) < 4 * ((u2 : Int) + 1)) = false := decide_eq_false (by omega)
      rw [hf1] at CF
      clear hf1
      have HR4 := Lib.hid (show 4 * (u2 + 1) ≤ 3 * l2.length by omega)
      clear hfull
      go_wp2_with fail
      refine CF.out.mono ?_
      rintro e w3 ⟨rfl, kq, hw3⟩
      have HX4 : Hid (w3.heap[x0]? = some (.cells #[.int .i64 e0, .int .i64 e1, .int .i64 e2, .int .i64 e3, .bool e4] 36 (0, 0))) := by rw [hw3]; exact HX2.out
      have HK4 : Hid (Kept S w w3) := by rw [hw3]; exact HK2.out.drewN kq
      have HT4 : Hid (TbAt w3 S q (.slice A l2.length l2.length) v2 l2 b u2 o2 bo2 uo2 nx2 c wk2) := by rw [hw3]; exact HA2.out.drewN kq
      clear hw3 HX2 HK2 HA2 CF
      have HO4 := HO2
      have HH4 := HH2
      have HN3 := HN1
      obtain ⟨d, hd, -⟩ := HT4.out.new.at_ (by have := HR4.out; omega)
      rw [hd] at HT4
      clear hd
      have HSS : Hid (∀ k, S k → Grow S w k) := fun k h => .inl h
      go_upto_region 9 with fail
      have CC := Lib.hid (fun W => strclone_any k hk W)
      have hdS := HT4.out.sn d rfl
      obtain ⟨d', hd', HP⟩ := HT4.out.new.at_ (by have := HR4.out; omega)
      obtain rfl : d = d' := by injection hd' with e; injection e with e; injection e with e
      clear hd'
      have HPd := Lib.hid HP
      have hdl := (Array.getElem?_eq_some_iff.1 HP).1
      clear HP
      have hlen4 := HO4.out.len
      have hroom4 := HO4.out.gf.room
      have CA := Lib.hid (fun W (hB : Below w3.heap.size w3 W) => pladd_any q d l2.length b u2 bo2 uo2 nx2 c wk2 v2 l2 1 (Tb.hs k) k e0 e1 e2 e3 e4 W rfl (by have := HR4.out; omega) (by omega) hdS.2 (by omega) (Lib.hid ((hB.block q HT4.out.lt).trans HT4.out.box)) (Lib.hid ((hB.block d hdl).trans HPd.out)) (Lib.hid HO4.out.gf) (Lib.hid rfl))
      have HDS := Lib.hid hdS
      have HDL := Lib.hid hdl
      clear hlen4 hroom4 hdS hdl
      obtain ⟨x1, x2, x3, x4, x5⟩ := five_cells HX4.out
      go_region_with (first | (go_at_call 35; refine (CC.out _).mono ?_; rintro e wc ⟨rfl, hbc⟩; have HBc := Lib.hid (below_drop hbc); have HXc : Hid (wc.heap[x0]? = some (.cells #[.int .i64 e0, .int .i64 e1, .int .i64 e2, .int .i64 e3, .bool e4] 36 (0, 0))) := (HBc.out.block x0 (Array.getElem?_eq_some_iff.1 HX4.out).1).trans HX4.out; obtain ⟨z1, z2, z3, z4, z5⟩ := five_cells HXc.out) | (go_at_call 34; refine (CA.out wc HBc.out).mono ?_; rintro e w5 ⟨rfl, hk5, t, ht1, ht2, ht3, ht4⟩))
      all_goals
        have HT1 := Lib.hid ht1
        have HT2 := Lib.hid ht2
        have HT3 := Lib.hid ht3
        have HTd := Lib.hid ht4
        have HK5 := Lib.hid hk5
        obtain ⟨q0, q1, q2, q3, q4, q5, q6, q7, q8⟩ := nine_cells HT3.out
        obtain ⟨r0, r1, r2, r3, r4, r5, r6, r7, r8⟩ := nine_frozen HT3.out
        clear ht1 ht2 ht3 ht4 hk5 q0 q1 q2 q3 q4 q5 q6 q8 r0 r1 r2 r3 r4 r5 r6 r8
        go_wp2_with fail
        go_end0
        exact set_end hw2 hc HT4.out HO4.out HH4.out HN3.out HN2.out HR4.out HK4.out HSS.out HBc.out HK5.out HT1.out HT2.out HT3.out HTd.out
  · obtain ⟨d', hd', HP⟩ := HA2.out.new.at_ (g_pos h1)
    rw [hv] at hd'
    obtain rfl : d = d' := by injection hd' with e; injection e with e; injection e with e
    have hi := Lib.hid (Tb.g_lt (l := l2) (i := i) (by rw [h1]; decide))
    obtain ⟨hO3, hA3⟩ := HO2.out.setNew { Tb.g l2 i with e := ⟨e0, e1, e2, e3, e4⟩ } h1 h1 rfl rfl
    have hyes : ∃ x, H k x := ⟨_, (HH2.out k _).2 (.inl ⟨i, h1, h2, rfl⟩)⟩
    have HY := Lib.hid hyes
    have HO3 := Lib.hid hO3
    have HA3 : Hid (∀ k' e', ((k = k' ∧ (⟨e0, e1, e2, e3, e4⟩ : Tb.En) = e') ∨ (k ≠ k' ∧ H k' e')) ↔ (Tb.Has (l2.set i { Tb.g l2 i with e := ⟨e0, e1, e2, e3, e4⟩ }) k' e' ∨ Tb.Has o2 k' e')) := fun k' e' => by
      have h := hA3 k' e'
      rw [show ({ Tb.g l2 i with e := ⟨e0, e1, e2, e3, e4⟩ } : Tb.Pl).k = k from h2] at h
      exact (or_congr Iff.rfl (and_congr Iff.rfl (HH2.out k' e'))).trans h.symm
    have hk5 := five_kept (S := fun k => k = d) w2 d (i * 8 + 3) (.int .i64 e0) (.int .i64 e1) (.int .i64 e2) (.int .i64 e3) (.bool e4) rfl
    have hp5 := pl_entry HP i hi.out ⟨e0, e1, e2, e3, e4⟩
    obtain ⟨c0, c1, c2, c3, c4, c5, c6, c7⟩ := pl_cells HP i hi.out _ rfl
    obtain ⟨f0, f1, f2, f3, f4, f5, f6, f7⟩ := pl_frozen HP (i * 8)
    have hdS := (HA2.out.sn d (by rw [hv]; rfl))
    have HK5 := Lib.hid (HXN.out _ (fun k e => by rw [e]; exact hdS.1) hk5)
    have HT5 : Hid (TbAt _ S q v v2 (l2.set i { Tb.g l2 i with e := ⟨e0, e1, e2, e3, e4⟩ }) b u2 (o2) bo2 uo2 nx2 c wk2) := ⟨(hk5.block q HA2.out.lt (fun e => hdS.2 e.symm)).trans HA2.out.box, .inr ⟨d, by rw [List.length_set]; exact Nat.lt_of_le_of_lt (Nat.zero_le _) hi.out, by rw [List.length_set]; exact hv, hp5⟩, HA2.out.old.kept hk5 (fun k e e2 => (HA2.out.so k e).2.2 (by rw [e2, hv]; rfl)), HA2.out.own, HA2.out.sn, HA2.out.so⟩
    clear h1 h2 hd' hyes hO3 hA3 hk5 hp5
    go_wp2_with fail
    go_end0
    exact ⟨rfl, HK5.out, c, wk2, .inl ⟨HY.out, rfl⟩, v, v2, _, b, u2, _, bo2, uo2, nx2, HO3.out.slack (Nat.zero_le _), hw2, HT5.out.to fun k _ h => .inl h, HA3.out⟩
  · obtain ⟨d', hd', HP⟩ := HA2.out.old.at_ (g_pos h1)
    rw [hv] at hd'
    obtain rfl : d = d' := by injection hd' with e; injection e with e; injection e with e
    have hi := Lib.hid (Tb.g_lt (l := o2) (i := i) (by rw [h1]; decide))
    obtain ⟨hO3, hA3⟩ := HO2.out.setOld { Tb.g o2 i with e := ⟨e0, e1, e2, e3, e4⟩ } h1 h1 rfl rfl
    have hyes : ∃ x, H k x := ⟨_, (HH2.out k _).2 (.inr ⟨i, h1, h2, rfl⟩)⟩
    have HY := Lib.hid hyes
    have HO3 := Lib.hid hO3
    have HA3 : Hid (∀ k' e', ((k = k' ∧ (⟨e0, e1, e2, e3, e4⟩ : Tb.En) = e') ∨ (k ≠ k' ∧ H k' e')) ↔ (Tb.Has l2 k' e' ∨ Tb.Has (o2.set i { Tb.g o2 i with e := ⟨e0, e1, e2, e3, e4⟩ }) k' e')) := fun k' e' => by
      have h := hA3 k' e'
      rw [show ({ Tb.g o2 i with e := ⟨e0, e1, e2, e3, e4⟩ } : Tb.Pl).k = k from h2] at h
      exact (or_congr Iff.rfl (and_congr Iff.rfl (HH2.out k' e'))).trans h.symm
    have hk5 := five_kept (S := fun k => k = d) w2 d (i * 8 + 3) (.int .i64 e0) (.int .i64 e1) (.int .i64 e2) (.int .i64 e3) (.bool e4) rfl
    have hp5 := pl_entry HP i hi.out ⟨e0, e1, e2, e3, e4⟩
    obtain ⟨c0, c1, c2, c3, c4, c5, c6, c7⟩ := pl_cells HP i hi.out _ rfl
    obtain ⟨f0, f1, f2, f3, f4, f5, f6, f7⟩ := pl_frozen HP (i * 8)
    have hdS := (HA2.out.so d (by rw [hv]; rfl))
    have HK5 := Lib.hid (HXN.out _ (fun k e => by rw [e]; exact hdS.1) hk5)
    have HT5 : Hid (TbAt _ S q v v2 (l2) b u2 (o2.set i { Tb.g o2 i with e := ⟨e0, e1, e2, e3, e4⟩ }) bo2 uo2 nx2 c wk2) := ⟨(hk5.block q HA2.out.lt (fun e => hdS.2.1 e.symm)).trans HA2.out.box, HA2.out.new.kept hk5 (fun k e e2 => hdS.2.2 (by rw [e, e2])), .inr ⟨d, by rw [List.length_set]; exact Nat.lt_of_le_of_lt (Nat.zero_le _) hi.out, by rw [List.length_set]; exact hv, hp5⟩, HA2.out.own, HA2.out.sn, HA2.out.so⟩
    clear h1 h2 hd' hyes hO3 hA3 hk5 hp5
    go_wp2_with fail
    go_end0
    exact ⟨rfl, HK5.out, c, wk2, .inl ⟨HY.out, rfl⟩, v, v2, _, b, u2, _, bo2, uo2, nx2, HO3.out.slack (Nat.zero_le _), hw2, HT5.out.to fun k _ h => .inl h, HA3.out⟩
end Go.Proofs.Ytcdomlgnfbdeoaa
