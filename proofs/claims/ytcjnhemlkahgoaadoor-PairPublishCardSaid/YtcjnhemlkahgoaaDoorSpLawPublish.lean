/-
  The walk of the law PairPublish.
-/
import Derived.Test.YtcjnhemlkahgoaaDoorSpAwake
import Derived.Test.YtcjnhemlkahgoaaDoorSpZeros
import Derived.Deep.RegionHeld3
set_option maxRecDepth 100000
namespace Go.Proofs.YtcjnhemlkahgoaaDoor
open Go.RowKit
def GaveIm (w : World) (im : List Nat) (e : Ending) (w' : World) : Prop := ∃ gi cap, e = .returned (.slice (some ⟨gi, 0, none⟩) 256 cap) ∧ Bs w' w'.heap.size (some ⟨gi, 0, none⟩) im ∧ Below w.heap.size w w'
theorem gave_im {w : World} {im : List Nat} (h : im.length = 4 * 64) (e : Ending) (w' : World) (k : GaveRow w im e w') : GaveIm w im e w' := by
  obtain ⟨gi, cap, e1, -, h1, -, -, h4, -⟩ := k
  rw [h] at e1
  exact ⟨gi, cap, e1, h1, h4⟩
theorem row_bs {w : World} {g : Nat} {l : List Nat} {rest : List Value} (h : w.heap[g]? = some (.cells (vals l ++ rest).toArray 5 (0, 0))) (hl : ∀ y ∈ l, y < 256) : Bs w w.heap.size (some ⟨g, 0, none⟩) l := fun k hk => by
  refine ⟨?_, _, rfl, box_lt h, ?_⟩
  · rw [List.getD_eq_getElem?_getD, List.getElem?_eq_getElem hk]
    exact hl _ (List.getElem_mem hk)
  · rw [add_flat, Nat.zero_add, cell_of_row _ _ k _ _ _ h, List.getElem?_toArray, List.getElem?_append_left (by rw [vals_length]; exact hk)]
    exact vals_at hk
theorem im_eq (gi gI cap capI : Nat) (im : List Nat) (w : World) (h : im.length = 4 * 64) (h1 : Bs w w.heap.size (some ⟨gi, 0, none⟩) im) (h2 : Bs w w.heap.size (some ⟨gI, 0, none⟩) im) :
    Calls Tryd.prog 21 #[.slice (some ⟨gi, 0, none⟩) 256 cap, .slice (some ⟨gI, 0, none⟩) 256 capI] w (SaysQuiet true w) := by
  have k := refeq_any (some ⟨gi, 0, none⟩) (some ⟨gI, 0, none⟩) w.heap.size w.heap.size 256 256 cap capI im im w h h (by decide) (by decide) h1 h2
  rwa [decide_eq_true rfl] at k
theorem bs_cells {w : World} {B : Nat} {A : Option Addr} {l : List Nat} (h : Bs w B A l) (hl : 0 < l.length) : ∃ ad, A = some ad ∧ ∀ j v, (vals l)[j]? = some v → w.cell? (ad.add j) = some v := by
  obtain ⟨-, ad, rfl, -⟩ := h 0 hl
  exact ⟨ad, rfl, h.cells⟩
theorem splice_sec {l p : List Nat} {n i : Nat} {rest : List Value} (hl : l.length = n * 64) (hp : p.length = 64) (hi : i < n) : splice (vals l ++ rest) (i * 64) (vals p) = vals (putSec l i p) ++ rest := by
  unfold splice putSec
  rw [vals_length, hp, List.take_append_of_le_length (by rw [vals_length]; omega), List.drop_append_of_le_length (by rw [vals_length]; omega)]
  simp [vals]
theorem step_copy_into {P : Program} {ops : Array Oper} {o : Oper} {a : Act} {w : World} {K : Act → World → Prop} {Q : Exit → Act → World → Prop} {E : Prop} (hgd : o.guard = none) (d s : Operand) (dT sT : TypeId)
    (ho : o.op = .call { callee := .builtin .copy, args := #[d, s], argTypes := #[dT, sT] }) (elem : TypeId) (hu : P.underlying dT = some (.slice elem)) (hsz : (P.info? elem).map (·.size) = some 1)
    (dp sp : Option Addr) (dLen dCap sLen sCap : Nat) (hd : a.eval d = .slice dp dLen dCap) (hs : a.eval s = .slice sp sLen sCap)
    (g off : Nat) (cur : List Value) (t : TypeId) (hg : w.heap[g]? = some (.cells cur.toArray t (0, 0))) (cs : List Value) (hn : cs.length = Nat.min sLen dLen)
    (hdp : dp = some ⟨g, off, none⟩) (hsrc : ∃ ad, sp = some ad ∧ ∀ j v, cs[j]? = some v → w.cell? (ad.add j) = some v)
    (hfit : off + cs.length ≤ cur.length) (h1 : ∀ v ∈ cs, v.oneCell' = true)
    (h : ∀ w', Hid (w'.heap[g]? = some (.cells (splice cur off cs).toArray t (0, 0))) → Kept (fun k => k = g) w w' → K (a.put o.dst (goInt cs.length)) w') :
    if Region.wanted o (yielded ops a.tmps) = true then Oper.wp P o a w K Q else E := by
  have hw : Region.wanted o (yielded ops a.tmps) = true := by simp [Region.wanted, hgd]
  rw [if_pos hw]
  obtain ⟨ad, rfl, hc⟩ := hsrc
  subst hdp
  have hrun := run_copy_row (P := P) w dT sT o.type elem g off dLen dCap ad sLen sCap cur.toArray t cs hu hsz hg hn hc (by simpa using hfit) h1
  unfold Oper.wp
  simp [execOp, ho, resolve, invoke, builtin, hd, hs, hrun, Result.andThen]
  exact h _ (show _ = _ by simpa [splice] using setRow_heap w g _ _ t _ hg) (Kept.setRow w g _ rfl)
/-- The image of the law: what came in, filled up. -/
theorem own_on {w w' : World} {base n : Nat} {v : Value} {l : List Nat} {e : TypeId} (h : w.ownsRow base e 1 v n (vals l)) (hb : Below w.heap.size w w') : w'.ownsRow base e 1 v n (vals l) := by
  refine ⟨h.1, ?_⟩
  rcases h.2 with h0 | ⟨g, cap, cur, h1, h2, h3, h4⟩
  · exact .inl h0
  · exact .inr ⟨g, cap, cur, h1, h2, box_on h3 hb, h4⟩
set_option maxHeartbeats 16000000 in
theorem pairpublish_any (A0 : Option Addr) (n0 c0 : Nat) (l0 : List Nat) (a0 a1 a2 a3 a4 t0 t1 t2 t3 h0 h1 h2 h3 : Int) (A : Option Addr) (n c : Nat) (l : List Sb.L) (w : World) (hs0 : SlIs A0 n0 c0) (hb0 : Hid (l0.length = n0 ∧ Bs w w.heap.size A0 l0)) (hs : SlIs A n c) (hl : Hid (l.length = n ∧ Ls w w.heap.size A l)) (ht : Hid (TabW w)) (hz : 0 < w.heap.size) :
    Calls Tryd.prog 5 #[.slice A0 n0 c0, .agg #[.int .i64 a0, .int .i64 a1, .int .i64 a2, .int .i64 a3, .int .i64 a4, .int .i64 t0, .int .i64 t1, .int .i64 t2, .int .i64 t3, .int .i64 h0, .int .i64 h1, .int .i64 h2, .int .i64 h3, .slice A n c]] w fun r w' => r = .returned (.bool true) ∧ Below w.heap.size w w' := by
  obtain ⟨q, hq⟩ := min_is n0 256
  have hq256 : q ≤ 256 := by unfold MinIs at hq; omega
  obtain ⟨m, hm⟩ := min_is n 4
  have hm4 : m ≤ 4 := by unfold MinIs at hm; omega
  have C1 := Lib.hid (fun W => sbshort_any a0 a1 a2 a3 a4 t0 t1 t2 t3 h0 h1 h2 h3 A n c m hs hm W)
  obtain ⟨k1, k2⟩ := ls_take hl.out.1 hm hl.out.2
  obtain ⟨a1, a2⟩ := min_bs hb0.out.1 hb0.out.2 hq
  have hq0 := min_sl hs0 hq
  have HL : Hid (∀ W, Below w.heap.size w W → Ls W w.heap.size A (l.take m)) := fun W hW => k2.below hW (Nat.le_refl _)
  have HK : Hid ((l.take m).length = m) := k1
  have HSL := Lib.hid (min_sl hs hm)
  have HTB : Hid (∀ W, Below w.heap.size w W → TabW W ∧ 0 < W.heap.size) := fun W hW => dev_tab ht.out hz hW
  have AW : Hid (∀ W, Below w.heap.size w W → Calls Tryd.prog 15 #[] W fun r w' => r = .returned (.bool true) ∧ Below W.heap.size W w') := fun W hW => spawake_any W (HTB.out W hW).1 (HTB.out W hW).2
  have HB0 : Hid ((l0.take q).length = q ∧ Bs w w.heap.size A0 (l0.take q)) := ⟨a1, a2⟩
  have HQ0 := Lib.hid hq0
  have hnc0 := hs0.2.1
  have hc63 := hs0.2.2
  have HNA := Lib.hid hs0.1
  clear k1 k2 hl hm hs a1 a2 hq0 hs0 hb0 ht
  generalize l.take m = l at *
  generalize l0.take q = l0 at *
  obtain ⟨im, him⟩ : ∃ im, im = l0 ++ List.replicate (256 - q) 0 := ⟨_, rfl⟩
  have HIM : Hid (im = l0 ++ List.replicate (256 - q) 0) := him
  have HIL : Hid (im.length = 4 * 64) := by show _ = _; rw [him, List.length_append, HB0.out.1, List.length_replicate]; omega
  have HIMLT : Hid (∀ y ∈ im, y < 256) := fun y hy => by
    rw [him] at hy
    rcases List.mem_append.1 hy with h | h
    · exact HB0.out.2.lt y h
    · rw [List.mem_replicate] at h; omega
  clear him
  have P1 : Hid (∀ W g cb mb fs, Below w.heap.size w W → Dev W g cb mb 4 fs → fs.wr < 4611686018427387904 → Calls Tryd.prog 18 #[.pointer (some ⟨g, 0, none⟩), .agg #[.int .i64 a0, .int .i64 a1, .int .i64 a2, .int .i64 a3, .int .i64 a4, .int .i64 t0, .int .i64 t1, .int .i64 t2, .int .i64 t3, .int .i64 h0, .int .i64 h1, .int .i64 h2, .int .i64 h3, .slice A m c]] W (WriteDid W g cb mb 4 (fs.pub 4 ⟨a0, a1, a2, a3, a4, ⟨t0, t1, t2, t3⟩, ⟨h0, h1, h2, h3⟩, l⟩) (fs.pubErr 4 ⟨a0, a1, a2, a3, a4, ⟨t0, t1, t2, t3⟩, ⟨h0, h1, h2, h3⟩, l⟩))) := fun W g cb mb fs hW hd hwr => publish_any a0 a1 a2 a3 a4 t0 t1 t2 t3 h0 h1 h2 h3 A m c l g cb mb 4 fs W HSL.out HK.out ((HL.out W hW).more hW.size) (HTB.out W hW).1 (HTB.out W hW).2 hd hwr
  have QV : Hid (∀ W, Below w.heap.size w W → Calls Tryd.prog 19 #[.agg #[.int .i64 a0, .int .i64 a1, .int .i64 a2, .int .i64 a3, .int .i64 a4, .int .i64 t0, .int .i64 t1, .int .i64 t2, .int .i64 t3, .int .i64 h0, .int .i64 h1, .int .i64 h2, .int .i64 h3, .slice A m c]] W fun r w' => r = .returned (.bool (decide (Sb.valid ⟨a0, a1, a2, a3, a4, ⟨t0, t1, t2, t3⟩, ⟨h0, h1, h2, h3⟩, l⟩))) ∧ Below W.heap.size W w') := fun W hW => refsbvalid_any a0 a1 a2 a3 a4 t0 t1 t2 t3 h0 h1 h2 h3 A w.heap.size m c l W hW.size HK.out (HL.out W hW)
  have RE : Hid (Sb.valid ⟨a0, a1, a2, a3, a4, ⟨t0, t1, t2, t3⟩, ⟨h0, h1, h2, h3⟩, l⟩ → ∀ x, 0 ≤ x ∧ x < 1048576 → ∀ W, Below w.heap.size w W → Calls Tryd.prog 23 #[.agg #[.int .i64 a0, .int .i64 a1, .int .i64 a2, .int .i64 a3, .int .i64 a4, .int .i64 t0, .int .i64 t1, .int .i64 t2, .int .i64 t3, .int .i64 h0, .int .i64 h1, .int .i64 h2, .int .i64 h3, .slice A m c], .int .i64 x] W fun r w' => ∃ A3 c3, r = .returned (.slice A3 64 c3) ∧ SlIs A3 64 c3 ∧ Bs w' w'.heap.size A3 (Sb.enc x ⟨a0, a1, a2, a3, a4, ⟨t0, t1, t2, t3⟩, ⟨h0, h1, h2, h3⟩, l⟩) ∧ Below W.heap.size W w') := fun hv x hx W hW => refsbenc_any a0 a1 a2 a3 a4 t0 t1 t2 t3 h0 h1 h2 h3 x A w.heap.size m c l W hW.size HK.out (HL.out W hW) hv hx
  have LD : Hid (∀ W gI capI, Bs W W.heap.size (some ⟨gI, 0, none⟩) im → Calls Tryd.prog 13 #[.slice (some ⟨gI, 0, none⟩) 256 capI] W (MadeDev W 4 im)) := fun W gI capI hb => load_yes _ W.heap.size 4 capI im W (fun e => by cases e) HIL.out (by decide) (by decide) hb
  have HLT : Hid (∀ y ∈ l0, y < 256) := HB0.out.2.lt
  obtain ⟨i0, hi0, hz0, hz1, hz2⟩ := info_parts info_u8
  have I0 := Lib.hid (And.intro hi0 (And.intro hz0 (And.intro hz1 hz2)))
  clear hi0 hz0 hz1 hz2
  have HS0 := Lib.hid (sd_new w #[.int .i64 a0, .int .i64 a1, .int .i64 a2, .int .i64 a3, .int .i64 a4, .int .i64 t0, .int .i64 t1, .int .i64 t2, .int .i64 t3, .int .i64 h0, .int .i64 h1, .int .i64 h2, .int .i64 h3, .slice A n c] 27)
  go_enter Tryd.func5, Tryd.ntmps5
  go_upto_region 1 with fail
  generalize w.alloc (.cells #[.int .i64 a0, .int .i64 a1, .int .i64 a2, .int .i64 a3, .int .i64 a4, .int .i64 t0, .int .i64 t1, .int .i64 t2, .int .i64 t3, .int .i64 h0, .int .i64 h1, .int .i64 h2, .int .i64 h3, .slice A n c] 27) = w0 at *
  obtain ⟨x0, x1, x2, x3, x4, x5, x6, x7, x8, x9, x10, x11, x12, x13⟩ := cells14 HS0.out.1
  go_upto_region 2 with (go_at_call 17; refine (C1.out _).mono ?_; rintro r w1 ⟨rfl, hb1⟩; have HS1 := Lib.hid (HS0.out.next hb1 (by rfl) (by rfl) (by rfl) (by rfl)); clear x0 x1 x2 x3 x4 x5 x6 x7 x8 x9 x10 x11 x12 x13 hb1; obtain ⟨x0, x1, x2, x3, x4, x5, x6, x7, x8, x9, x10, x11, x12, x13⟩ := cells14 HS1.out.1; obtain ⟨fz0, fz1, fz2, fz3, fz4, fz5, fz6, fz7, fz8, fz9, fz10, fz11, fz12, fz13⟩ := frozen14 HS1.out.1)
  have HS2 : Hid (Sd w w.heap.size (.cells #[.int .i64 a0, .int .i64 a1, .int .i64 a2, .int .i64 a3, .int .i64 a4, .int .i64 t0, .int .i64 t1, .int .i64 t2, .int .i64 t3, .int .i64 h0, .int .i64 h1, .int .i64 h2, .int .i64 h3, .slice A m c] 27 (0, 0)) ((((((((((((((w1.setCell ⟨w.heap.size, 0, none⟩ (.int .i64 a0)).setCell ⟨w.heap.size, 1, none⟩ (.int .i64 a1)).setCell ⟨w.heap.size, 2, none⟩ (.int .i64 a2)).setCell ⟨w.heap.size, 3, none⟩ (.int .i64 a3)).setCell ⟨w.heap.size, 4, none⟩ (.int .i64 a4)).setCell ⟨w.heap.size, 5, none⟩ (.int .i64 t0)).setCell ⟨w.heap.size, 6, none⟩ (.int .i64 t1)).setCell ⟨w.heap.size, 7, none⟩ (.int .i64 t2)).setCell ⟨w.heap.size, 8, none⟩ (.int .i64 t3)).setCell ⟨w.heap.size, 9, none⟩ (.int .i64 h0)).setCell ⟨w.heap.size, 10, none⟩ (.int .i64 h1)).setCell ⟨w.heap.size, 11, none⟩ (.int .i64 h2)).setCell ⟨w.heap.size, 12, none⟩ (.int .i64 h3)).setCell ⟨w.heap.size, 13, none⟩ (.slice A m c))) := ⟨stored14 HS1.out.1, HS1.out.2.trans (below_of_grown (stored14_grown w1 w.heap.size (.int .i64 a0) (.int .i64 a1) (.int .i64 a2) (.int .i64 a3) (.int .i64 a4) (.int .i64 t0) (.int .i64 t1) (.int .i64 t2) (.int .i64 t3) (.int .i64 h0) (.int .i64 h1) (.int .i64 h2) (.int .i64 h3) (.slice A m c)) (Nat.le_refl _) HS1.out.2.size)⟩
  clear x0 x1 x2 x3 x4 x5 x6 x7 x8 x9 x10 x11 x12 x13 fz0 fz1 fz2 fz3 fz4 fz5 fz6 fz7 fz8 fz9 fz10 fz11 fz12 fz13 C1 HS0 HS1
  generalize ((((((((((((((w1.setCell ⟨w.heap.size, 0, none⟩ (.int .i64 a0)).setCell ⟨w.heap.size, 1, none⟩ (.int .i64 a1)).setCell ⟨w.heap.size, 2, none⟩ (.int .i64 a2)).setCell ⟨w.heap.size, 3, none⟩ (.int .i64 a3)).setCell ⟨w.heap.size, 4, none⟩ (.int .i64 a4)).setCell ⟨w.heap.size, 5, none⟩ (.int .i64 t0)).setCell ⟨w.heap.size, 6, none⟩ (.int .i64 t1)).setCell ⟨w.heap.size, 7, none⟩ (.int .i64 t2)).setCell ⟨w.heap.size, 8, none⟩ (.int .i64 t3)).setCell ⟨w.heap.size, 9, none⟩ (.int .i64 h0)).setCell ⟨w.heap.size, 10, none⟩ (.int .i64 h1)).setCell ⟨w.heap.size, 11, none⟩ (.int .i64 h2)).setCell ⟨w.heap.size, 12, none⟩ (.int .i64 h3)).setCell ⟨w.heap.size, 13, none⟩ (.slice A m c)) = w2 at *
  have HB2 : Hid (Bs w2 w.heap.size A0 l0) := HB0.out.2.below HS2.out.2 (Nat.le_refl _)
  go_cut [0] (fun s wx => ∃ gI capI rest, s = .slice (some ⟨gI, 0, none⟩) 256 capI ∧ Hid (wx.heap[gI]? = some (.cells (vals im ++ rest).toArray 5 (0, 0)) ∧ 256 ≤ capI ∧ capI ≤ maxLen ∧ w2.heap.size ≤ gI ∧ Below w2.heap.size w2 wx))
  case first =>
    have HLQ : Hid ((vals l0).length = q * 1) := by show _ = _; rw [vals_length, HB0.out.1]; omega
    have HCE : Hid (∀ ad, A0 = some ad → ∀ j u, (vals l0)[j]? = some u → w2.cell? (ad.add j) = some u) := fun ad e => by subst e; exact HB2.out.cells
    have HA0 : Hid (A0 = none → q = 0 ∧ c0 = 0) := fun e => by have := HQ0.out.1 e; exact ⟨this.2, this.1⟩
    obtain ⟨z, hzq⟩ : ∃ z : Nat, z = 256 - q := ⟨_, rfl⟩
    have HZQ : Hid (q + z = 256) := by show _ = _; omega
    have HIM2 : Hid (im = l0 ++ List.replicate z 0) := by show _ = _; rw [hzq]; exact HIM.out
    have hz1 : (256 : Int) - (q : Int) = (z : Int) := by omega
    clear hzq HIM LD P1 QV RE AW
    unfold MinIs at hq
    rcases hq with ⟨j0, rfl⟩ | ⟨j0, rfl⟩
    case inl =>
      have hmn : min (q : Int) 256 = (q : Int) := by omega
      go_wp2_with (first
        | (at_builtin; revert HO3; intro HO3; refine wpList_zeros rfl (.tmp 14) (.tmp 18) 22 3 rfl 5 i0 Tryd.underlying22 Tryd.underlying3 I0.out.1 I0.out.2.1 I0.out.2.2.1 I0.out.2.2.2 w2.heap.size q z v3 l0 rfl rfl HO3.out (by have := HZQ.out; omega) HB3.out.size ?_; intro v4 w4 hown4 hb4; have HO4 := Lib.hid hown4; have HB4 : Hid (Below w2.heap.size w2 w4) := HB3.out.trans hb4; clear hown4 hb4)
        | (at_builtin; refine append_onto rfl (.const (.slice none 0 0)) (.tmp 13) 22 rfl w2.heap.size 5 i0 (.int .u8 0) 1 1 Tryd.underlying22 I0.out.1 I0.out.2.1 I0.out.2.2.1 I0.out.2.2.2 rfl (by decide) _ 0 [] rfl (World.ownsRow_nil _ _ _ _) A0 q c0 (vals l0) rfl HA0.out HLQ.out HCE.out (vals_one _) (by unfold maxLen; omega) (by omega) (Nat.le_refl _) ?_; intro v3 w3 hown3 hg3; rw [List.nil_append, Nat.zero_add] at hown3; have HO3 := Lib.hid hown3; have HB3 : Hid (Below w2.heap.size w2 w3) := (Below.refl _ _).grown hg3 (Nat.le_refl _) (fun k e => by cases e); clear hown3 hg3))
      (try go_wp2_with fail)
      obtain ⟨gI, capI, rest, rfl, k1, k2, k3, k4, -⟩ := own_rest HO4.out (by have := HZQ.out; omega)
      (try rw [HZQ.out])
      go_meet
      exact ⟨gI, capI, rest, rfl, by rw [HIM2.out]; exact k2, by have := HZQ.out; omega, k4, k1, HB4.out⟩
    case inr =>
      have hmn : min (n0 : Int) 256 = 256 := by omega
      have hz0 : z = 0 := by omega
      subst hz0
      go_wp2_with (first
        | (at_builtin; revert HO3; intro HO3; refine wpList_zeros rfl (.tmp 14) (.tmp 18) 22 3 rfl 5 i0 Tryd.underlying22 Tryd.underlying3 I0.out.1 I0.out.2.1 I0.out.2.2.1 I0.out.2.2.2 w2.heap.size 256 0 v3 l0 rfl rfl HO3.out (by decide) HB3.out.size ?_; intro v4 w4 hown4 hb4; have HO4 := Lib.hid hown4; have HB4 : Hid (Below w2.heap.size w2 w4) := HB3.out.trans hb4; clear hown4 hb4)
        | (at_builtin; refine append_onto rfl (.const (.slice none 0 0)) (.tmp 13) 22 rfl w2.heap.size 5 i0 (.int .u8 0) 1 1 Tryd.underlying22 I0.out.1 I0.out.2.1 I0.out.2.2.1 I0.out.2.2.2 rfl (by decide) _ 0 [] rfl (World.ownsRow_nil _ _ _ _) A0 256 c0 (vals l0) rfl HA0.out HLQ.out HCE.out (vals_one _) (by unfold maxLen; omega) (by omega) (Nat.le_refl _) ?_; intro v3 w3 hown3 hg3; rw [List.nil_append, Nat.zero_add] at hown3; have HO3 := Lib.hid hown3; have HB3 : Hid (Below w2.heap.size w2 w3) := (Below.refl _ _).grown hg3 (Nat.le_refl _) (fun k e => by cases e); clear hown3 hg3))
      (try go_wp2_with fail)
      obtain ⟨gI, capI, rest, rfl, k1, k2, k3, k4, -⟩ := own_rest HO4.out (by have := HZQ.out; omega)
      (try rw [HZQ.out])
      go_meet
      exact ⟨gI, capI, rest, rfl, by rw [HIM2.out]; exact k2, by have := HZQ.out; omega, k4, k1, HB4.out⟩
  case rest =>
    obtain ⟨gI, capI, rest, rfl, HI⟩ := hcut
    clear hq HIM HB2 HB0 HQ0 HNA hnc0 hc63 I0 i0
    generalize wc = w3 at *
    have HB3 : Hid (Below w.heap.size w w3) := HS2.out.2.trans (HI.out.2.2.2.2.mono HS2.out.2.size)
    have HX3 : Hid (w3.heap[w.heap.size]? = some (.cells #[.int .i64 a0, .int .i64 a1, .int .i64 a2, .int .i64 a3, .int .i64 a4, .int .i64 t0, .int .i64 t1, .int .i64 t2, .int .i64 t3, .int .i64 h0, .int .i64 h1, .int .i64 h2, .int .i64 h3, .slice A m c] 27 (0, 0))) := box_on HS2.out.1 HI.out.2.2.2.2
    have HIX : Hid (w3.heap[gI]? = some (.cells (vals im ++ rest).toArray 5 (0, 0))) := HI.out.1
    have HGI : Hid (w.heap.size < gI ∧ gI < w3.heap.size) := ⟨Nat.lt_of_lt_of_le (box_lt HS2.out.1) HI.out.2.2.2.1, box_lt HI.out.1⟩
    have HIP : Hid (256 ≤ capI ∧ capI ≤ 9223372036854775807) := ⟨HI.out.2.1, by have := HI.out.2.2.1; unfold maxLen at this; exact this⟩
    have HIT : Hid (∀ y ∈ im, y < 256) := HIMLT.out
    have hbs := row_bs HIX.out HIT.out
    have LD3 := Lib.hid (LD.out _ gI capI hbs)
    unfold MadeDev at LD3
    clear hbs HI HS2 LD
    go_wp2_with fail
    refine LD3.out.mono ?_
    rintro r w4 ⟨g, cb, mb, rfl, hd4, j1, j2, j3, hb4⟩
    have HDN : Hid (DevNew w3 g cb mb) := ⟨j1, j2, j3⟩
    have HB4 : Hid (Below w.heap.size w w4) := HB3.out.trans (hb4.mono HB3.out.size)
    have HX4 : Hid (w4.heap[w.heap.size]? = some _) := box_on HX3.out hb4
    have HI4 : Hid (w4.heap[gI]? = some _) := box_on HIX.out hb4
    have HD4 := Lib.hid hd4
    clear hd4 j1 j2 j3 hb4 LD3
    obtain ⟨x0, x1, x2, x3, x4, x5, x6, x7, x8, x9, x10, x11, x12, x13⟩ := cells14 HX4.out
    have P4 := P1.out _ g cb mb _ HB4.out HD4.out (show 0 < 4611686018427387904 by decide)
    by_cases hv : Sb.valid ⟨a0, a1, a2, a3, a4, ⟨t0, t1, t2, t3⟩, ⟨h0, h1, h2, h3⟩, l⟩
    · obtain ⟨f', hp, he⟩ := first_pub hv (show 2 ≤ 4 by decide) im
      rw [hp, he] at P4
      have P5 := Lib.hid P4
      unfold WriteDid at P5
      rw [decide_eq_true hv] at QV
      have hpar : a0 % 2 = 0 ∨ a0 % 2 = 1 := by omega
      have ha1 : 1 ≤ a0 := hv.1.1.1
      have htm : a0.tmod 2 = a0 % 2 := Int.tmod_eq_emod_of_nonneg (by omega)
      have RE2 := Lib.hid (RE.out hv (a0 % 2) (by omega))
      clear P4 hp he P1 HD4 RE hv
      simp only at P5
      go_wp2_with fail
      refine P5.out.mono ?_
      rintro r w5 ⟨rfl, hd5, hk5⟩
      have HB5 : Hid (Below w.heap.size w w5) := dev_below HB4.out (devnew_on HDN.out HB3.out.size) hk5
      have HX5 : Hid (w5.heap[w.heap.size]? = some _) := dev_box HX4.out HDN.out (box_lt HX3.out) hk5
      have HI5 : Hid (w5.heap[gI]? = some _) := dev_box HI4.out HDN.out (box_lt HIX.out) hk5
      have HD5 := Lib.hid hd5
      clear hd5 hk5 P5 HX4 HI4 x0 x1 x2 x3 x4 x5 x6 x7 x8 x9 x10 x11 x12 x13
      obtain ⟨x0, x1, x2, x3, x4, x5, x6, x7, x8, x9, x10, x11, x12, x13⟩ := cells14 HX5.out
      have QV5 := Lib.hid (QV.out _ HB5.out)
      clear QV
      go_upto_region 7 with (go_at_call 19; refine QV5.out.mono ?_; rintro r w6 ⟨rfl, hb6⟩; have HB6 : Hid (Below w.heap.size w w6) := HB5.out.trans (hb6.mono HB5.out.size); have HX6 : Hid (w6.heap[w.heap.size]? = some _) := box_on HX5.out hb6; have HI6 : Hid (w6.heap[gI]? = some _) := box_on HI5.out hb6; have HD6 : Hid (Dev w6 g cb mb 4 _) := HD5.out.on hb6; clear hb6 x0 x1 x2 x3 x4 x5 x6 x7 x8 x9 x10 x11 x12 x13)
      have HEL : Hid ((Sb.enc (a0 % 2) ⟨a0, a1, a2, a3, a4, ⟨t0, t1, t2, t3⟩, ⟨h0, h1, h2, h3⟩, l⟩).length = 64) := Sb.enc_length _ _
      have HELT : Hid (∀ y ∈ Sb.enc (a0 % 2) ⟨a0, a1, a2, a3, a4, ⟨t0, t1, t2, t3⟩, ⟨h0, h1, h2, h3⟩, l⟩, y < 256) := Sb.enc_lt _ _
      generalize hen : Sb.enc (a0 % 2) ⟨a0, a1, a2, a3, a4, ⟨t0, t1, t2, t3⟩, ⟨h0, h1, h2, h3⟩, l⟩ = en at *
      clear hen ha1
      rcases hpar with hp | hp
      case inl =>
        rw [hp] at htm RE2 HD6
        have IMG : Hid (∀ W, Dev W g cb mb 4 (Flash.clean (putSec im 0 en) 1 false f') → Calls Tryd.prog 22 #[.pointer (some ⟨g, 0, none⟩)] W (GaveIm W (putSec im 0 en))) := fun W hd => (image_any (Lib.hid hd)).mono (gave_im (putSec_len HIL.out (by decide) HEL.out))
        have WRI : Hid (∀ W, Dev W g cb mb 4 (Flash.clean (putSec im 0 en) 1 false f') → Calls Tryd.prog 20 #[.pointer (some ⟨g, 0, none⟩)] W fun e w' => e = .returned (.int .i64 1) ∧ W = w') := fun W hd => writes_any (Lib.hid hd)
        have DRT : Hid (∀ W, Dev W g cb mb 4 (Flash.clean (putSec im 0 en) 1 false f') → Calls Tryd.prog 24 #[.pointer (some ⟨g, 0, none⟩)] W fun e w' => e = .returned (.int .i64 0) ∧ W = w') := fun W hd => by
          have h := dirty_any (Lib.hid hd)
          have e : dirtyCount 4 (Flash.clean (putSec im 0 en) 1 false f').old = 0 := clean_none 4
          rw [e] at h
          exact h
        unfold GaveIm at IMG
        have HD6' : Hid (Dev w6 g cb mb 4 (Flash.clean (putSec im 0 en) 1 false f')) := HD6.out
        have HL2 : Hid ((putSec im 0 en).length = 4 * 64) := putSec_len HIL.out (by decide) HEL.out
        have HSPL : Hid (splice (vals im ++ rest) 0 (vals en) = vals (putSec im 0 en) ++ rest) := splice_sec (n := 4) (i := 0) HIL.out HEL.out (by decide)
        have HLT2 : Hid (∀ y ∈ putSec im 0 en, y < 256) := putSec_lt HIT.out HELT.out
        have i256 : (256 : Int) ≤ (capI : Int) := by have := HIP.out; omega
        have i128 : (128 : Int) ≤ (capI : Int) := by omega
        have i64c : (64 : Int) ≤ (capI : Int) := by omega
        have hww0 : IntKind.i64.wrap 0 = 0 := rfl
        have hww1 : IntKind.i64.wrap 64 = 64 := rfl
        have hww2 : IntKind.i64.wrap 128 = 128 := rfl
        have jj0 : capI ≠ 0 := by omega
        have jj64 : capI ≠ 64 := by omega
        have HB6d : Hid (Below w.heap.size w w6.drew) := HB6.out.drew
        have HX6d : Hid (w6.drew.heap[w.heap.size]? = some _) := HX6.out
        have HI6d : Hid (w6.drew.heap[gI]? = some _) := HI6.out
        have HD6d : Hid (Dev w6.drew g cb mb 4 (Flash.clean (putSec im 0 en) 1 false f')) := HD6'.out
        obtain ⟨x0, x1, x2, x3, x4, x5, x6, x7, x8, x9, x10, x11, x12, x13⟩ := cells14 HX6d.out
        clear HD6 HD6' hp
        go_region_held3 (fun W => W.cell? ⟨w.heap.size, 0, none⟩ = some (.int .i64 a0) ∧ W.cell? ⟨w.heap.size, 1, none⟩ = some (.int .i64 a1) ∧ W.cell? ⟨w.heap.size, 2, none⟩ = some (.int .i64 a2) ∧ W.cell? ⟨w.heap.size, 3, none⟩ = some (.int .i64 a3) ∧ W.cell? ⟨w.heap.size, 4, none⟩ = some (.int .i64 a4) ∧ W.cell? ⟨w.heap.size, 5, none⟩ = some (.int .i64 t0) ∧ W.cell? ⟨w.heap.size, 6, none⟩ = some (.int .i64 t1) ∧ W.cell? ⟨w.heap.size, 7, none⟩ = some (.int .i64 t2) ∧ W.cell? ⟨w.heap.size, 8, none⟩ = some (.int .i64 t3) ∧ W.cell? ⟨w.heap.size, 9, none⟩ = some (.int .i64 h0) ∧ W.cell? ⟨w.heap.size, 10, none⟩ = some (.int .i64 h1) ∧ W.cell? ⟨w.heap.size, 11, none⟩ = some (.int .i64 h2) ∧ W.cell? ⟨w.heap.size, 12, none⟩ = some (.int .i64 h3) ∧ W.cell? ⟨w.heap.size, 13, none⟩ = some (.slice A m c))
          (first
            | (revert HX8; intro HX8; with_reducible exact cells14 HX8.out)
            | (revert HX7; intro HX7; with_reducible exact cells14 HX7.out)
            | go_keep)
          (first
            | (go_at_call 23; refine (RE2.out _ HB6d.out).mono ?_; rintro r w7 ⟨A3, c3, rfl, hs3, hbs3, hb7⟩; have HS3 := Lib.hid hbs3; have HB7 : Hid (Below w.heap.size w w7) := HB6d.out.trans (hb7.mono HB6d.out.size); have HX7 : Hid (w7.heap[w.heap.size]? = some _) := box_on HX6d.out hb7; have HI7 : Hid (w7.heap[gI]? = some _) := box_on HI6d.out hb7; have HD7 : Hid (Dev w7 g cb mb 4 _) := HD6d.out.on hb7; clear hs3 hbs3 hb7)
            | (revert HS3; intro HS3; (refine step_copy_into rfl (.tmp 54) (.tmp 59) 22 22 rfl 5 Tryd.underlying22 (by kernel_rfl) _ A3 64 _ 64 c3 rfl rfl gI 0 (vals im ++ rest) 5 HI7.out (vals en) (by rw [vals_length, HEL.out]; rfl) rfl (bs_cells HS3.out (by rw [HEL.out]; decide)) (by rw [List.length_append, vals_length, vals_length, HEL.out, HIL.out]; omega) (vals_one _) ?_; intro w8 hg8 hk8; have HI8 : Hid (w8.heap[gI]? = some (.cells (vals (putSec im 0 en) ++ rest).toArray 5 (0, 0))) := (by show _ = _; rw [hg8.out, HSPL.out]); have HB8 : Hid (Below w.heap.size w w8) := HB7.out.trans (hk8.below HB7.out.size (fun k e => by subst e; exact Nat.le_of_lt HGI.out.1)); have HX8 : Hid (w8.heap[w.heap.size]? = some _) := (hk8.block _ (box_lt HX7.out) (fun e => by have := HGI.out.1; omega)).trans HX7.out; have HD8 : Hid (Dev w8 g cb mb 4 _) := HD7.out.kept hk8 (fun e => by have := HGI.out.2; have := HDN.out.1; omega) (fun e => by have := HGI.out.2; have := HDN.out.2.1; omega) (fun e => by have := HGI.out.2; have := HDN.out.2.2; omega); clear hg8 hk8)))
        all_goals
          go_wp2_with (first
            | (go_at_call 21; revert HGA; intro HGA; refine (im_eq gi gI cap capI (putSec im 0 en) _ HL2.out HGA.out (row_bs HIA.out HLT2.out)).mono ?_; rintro r wb ⟨rfl, kb, rfl⟩)
            | (go_at_call 22; revert HD9; intro HD9; refine (IMG.out _ HD9.out).mono ?_; rintro r wa ⟨gi, cap, rfl, hga, hba⟩; have HGA := Lib.hid hga; have HBA : Hid (Below w.heap.size w wa) := HB9.out.trans (hba.mono HB9.out.size); have HIA : Hid (wa.heap[gI]? = some _) := box_on HI9.out hba; clear hga hba)
            | (go_at_call 20; revert HD9; intro HD9; refine (WRI.out _ HD9.out).mono ?_; rintro r w' ⟨rfl, rfl⟩)
            | (go_at_call 24; revert HD9; intro HD9; refine (DRT.out _ HD9.out).mono ?_; rintro r w' ⟨rfl, rfl⟩)
            | (go_at_call 15; revert HB8; intro HB8; refine (AW.out _ HB8.out).mono ?_; rintro r w9 ⟨rfl, hb9⟩; have HB9 : Hid (Below w.heap.size w w9) := HB8.out.trans (hb9.mono HB8.out.size); have HI9 : Hid (w9.heap[gI]? = some _) := box_on HI8.out hb9; have HD9 : Hid (Dev w9 g cb mb 4 _) := HD8.out.on hb9; clear hb9))
          go_ret
          exact ⟨ret_bool (by simp), below_drawn HBA.out kb⟩
      case inr =>
        rw [hp] at htm RE2 HD6
        have IMG : Hid (∀ W, Dev W g cb mb 4 (Flash.clean (putSec im 1 en) 1 false f') → Calls Tryd.prog 22 #[.pointer (some ⟨g, 0, none⟩)] W (GaveIm W (putSec im 1 en))) := fun W hd => (image_any (Lib.hid hd)).mono (gave_im (putSec_len HIL.out (by decide) HEL.out))
        have WRI : Hid (∀ W, Dev W g cb mb 4 (Flash.clean (putSec im 1 en) 1 false f') → Calls Tryd.prog 20 #[.pointer (some ⟨g, 0, none⟩)] W fun e w' => e = .returned (.int .i64 1) ∧ W = w') := fun W hd => writes_any (Lib.hid hd)
        have DRT : Hid (∀ W, Dev W g cb mb 4 (Flash.clean (putSec im 1 en) 1 false f') → Calls Tryd.prog 24 #[.pointer (some ⟨g, 0, none⟩)] W fun e w' => e = .returned (.int .i64 0) ∧ W = w') := fun W hd => by
          have h := dirty_any (Lib.hid hd)
          have e : dirtyCount 4 (Flash.clean (putSec im 1 en) 1 false f').old = 0 := clean_none 4
          rw [e] at h
          exact h
        unfold GaveIm at IMG
        have HD6' : Hid (Dev w6 g cb mb 4 (Flash.clean (putSec im 1 en) 1 false f')) := HD6.out
        have HL2 : Hid ((putSec im 1 en).length = 4 * 64) := putSec_len HIL.out (by decide) HEL.out
        have HSPL : Hid (splice (vals im ++ rest) 64 (vals en) = vals (putSec im 1 en) ++ rest) := splice_sec (n := 4) (i := 1) HIL.out HEL.out (by decide)
        have HLT2 : Hid (∀ y ∈ putSec im 1 en, y < 256) := putSec_lt HIT.out HELT.out
        have i256 : (256 : Int) ≤ (capI : Int) := by have := HIP.out; omega
        have i128 : (128 : Int) ≤ (capI : Int) := by omega
        have i64c : (64 : Int) ≤ (capI : Int) := by omega
        have hww0 : IntKind.i64.wrap 0 = 0 := rfl
        have hww1 : IntKind.i64.wrap 64 = 64 := rfl
        have hww2 : IntKind.i64.wrap 128 = 128 := rfl
        have jj0 : capI ≠ 0 := by omega
        have jj64 : capI ≠ 64 := by omega
        have HB6d : Hid (Below w.heap.size w w6.drew) := HB6.out.drew
        have HX6d : Hid (w6.drew.heap[w.heap.size]? = some _) := HX6.out
        have HI6d : Hid (w6.drew.heap[gI]? = some _) := HI6.out
        have HD6d : Hid (Dev w6.drew g cb mb 4 (Flash.clean (putSec im 1 en) 1 false f')) := HD6'.out
        obtain ⟨x0, x1, x2, x3, x4, x5, x6, x7, x8, x9, x10, x11, x12, x13⟩ := cells14 HX6d.out
        clear HD6 HD6' hp
        go_region_held3 (fun W => W.cell? ⟨w.heap.size, 0, none⟩ = some (.int .i64 a0) ∧ W.cell? ⟨w.heap.size, 1, none⟩ = some (.int .i64 a1) ∧ W.cell? ⟨w.heap.size, 2, none⟩ = some (.int .i64 a2) ∧ W.cell? ⟨w.heap.size, 3, none⟩ = some (.int .i64 a3) ∧ W.cell? ⟨w.heap.size, 4, none⟩ = some (.int .i64 a4) ∧ W.cell? ⟨w.heap.size, 5, none⟩ = some (.int .i64 t0) ∧ W.cell? ⟨w.heap.size, 6, none⟩ = some (.int .i64 t1) ∧ W.cell? ⟨w.heap.size, 7, none⟩ = some (.int .i64 t2) ∧ W.cell? ⟨w.heap.size, 8, none⟩ = some (.int .i64 t3) ∧ W.cell? ⟨w.heap.size, 9, none⟩ = some (.int .i64 h0) ∧ W.cell? ⟨w.heap.size, 10, none⟩ = some (.int .i64 h1) ∧ W.cell? ⟨w.heap.size, 11, none⟩ = some (.int .i64 h2) ∧ W.cell? ⟨w.heap.size, 12, none⟩ = some (.int .i64 h3) ∧ W.cell? ⟨w.heap.size, 13, none⟩ = some (.slice A m c))
          (first
            | (revert HX8; intro HX8; with_reducible exact cells14 HX8.out)
            | (revert HX7; intro HX7; with_reducible exact cells14 HX7.out)
            | go_keep)
          (first
            | (go_at_call 23; refine (RE2.out _ HB6d.out).mono ?_; rintro r w7 ⟨A3, c3, rfl, hs3, hbs3, hb7⟩; have HS3 := Lib.hid hbs3; have HB7 : Hid (Below w.heap.size w w7) := HB6d.out.trans (hb7.mono HB6d.out.size); have HX7 : Hid (w7.heap[w.heap.size]? = some _) := box_on HX6d.out hb7; have HI7 : Hid (w7.heap[gI]? = some _) := box_on HI6d.out hb7; have HD7 : Hid (Dev w7 g cb mb 4 _) := HD6d.out.on hb7; clear hs3 hbs3 hb7)
            | (revert HS3; intro HS3; (refine step_copy_into rfl (.tmp 54) (.tmp 59) 22 22 rfl 5 Tryd.underlying22 (by kernel_rfl) _ A3 64 _ 64 c3 rfl rfl gI 64 (vals im ++ rest) 5 HI7.out (vals en) (by rw [vals_length, HEL.out]; rfl) rfl (bs_cells HS3.out (by rw [HEL.out]; decide)) (by rw [List.length_append, vals_length, vals_length, HEL.out, HIL.out]; omega) (vals_one _) ?_; intro w8 hg8 hk8; have HI8 : Hid (w8.heap[gI]? = some (.cells (vals (putSec im 1 en) ++ rest).toArray 5 (0, 0))) := (by show _ = _; rw [hg8.out, HSPL.out]); have HB8 : Hid (Below w.heap.size w w8) := HB7.out.trans (hk8.below HB7.out.size (fun k e => by subst e; exact Nat.le_of_lt HGI.out.1)); have HX8 : Hid (w8.heap[w.heap.size]? = some _) := (hk8.block _ (box_lt HX7.out) (fun e => by have := HGI.out.1; omega)).trans HX7.out; have HD8 : Hid (Dev w8 g cb mb 4 _) := HD7.out.kept hk8 (fun e => by have := HGI.out.2; have := HDN.out.1; omega) (fun e => by have := HGI.out.2; have := HDN.out.2.1; omega) (fun e => by have := HGI.out.2; have := HDN.out.2.2; omega); clear hg8 hk8)))
        all_goals
          go_wp2_with (first
            | (go_at_call 21; revert HGA; intro HGA; refine (im_eq gi gI cap capI (putSec im 1 en) _ HL2.out HGA.out (row_bs HIA.out HLT2.out)).mono ?_; rintro r wb ⟨rfl, kb, rfl⟩)
            | (go_at_call 22; revert HD9; intro HD9; refine (IMG.out _ HD9.out).mono ?_; rintro r wa ⟨gi, cap, rfl, hga, hba⟩; have HGA := Lib.hid hga; have HBA : Hid (Below w.heap.size w wa) := HB9.out.trans (hba.mono HB9.out.size); have HIA : Hid (wa.heap[gI]? = some _) := box_on HI9.out hba; clear hga hba)
            | (go_at_call 20; revert HD9; intro HD9; refine (WRI.out _ HD9.out).mono ?_; rintro r w' ⟨rfl, rfl⟩)
            | (go_at_call 24; revert HD9; intro HD9; refine (DRT.out _ HD9.out).mono ?_; rintro r w' ⟨rfl, rfl⟩)
            | (go_at_call 15; revert HB8; intro HB8; refine (AW.out _ HB8.out).mono ?_; rintro r w9 ⟨rfl, hb9⟩; have HB9 : Hid (Below w.heap.size w w9) := HB8.out.trans (hb9.mono HB8.out.size); have HI9 : Hid (w9.heap[gI]? = some _) := box_on HI8.out hb9; have HD9 : Hid (Dev w9 g cb mb 4 _) := HD8.out.on hb9; clear hb9))
          go_ret
          exact ⟨ret_bool (by simp), below_drawn HBA.out kb⟩
    · rw [(pub_bad hv _).1, (pub_bad hv _).2] at P4
      rw [decide_eq_false hv] at QV
      have P5 := Lib.hid P4
      unfold WriteDid at P5
      clear P4 hv P1 HD4 RE
      go_wp2_with fail
      refine P5.out.mono ?_
      rintro r w5 ⟨rfl, hd5, hk5⟩
      have HB5 : Hid (Below w.heap.size w w5) := dev_below HB4.out (devnew_on HDN.out HB3.out.size) hk5
      have HX5 : Hid (w5.heap[w.heap.size]? = some _) := dev_box HX4.out HDN.out (box_lt HX3.out) hk5
      have HI5 : Hid (w5.heap[gI]? = some _) := dev_box HI4.out HDN.out (box_lt HIX.out) hk5
      have HD5 := Lib.hid hd5
      clear hd5 hk5 P5 HX4 HI4 x0 x1 x2 x3 x4 x5 x6 x7 x8 x9 x10 x11 x12 x13
      obtain ⟨x0, x1, x2, x3, x4, x5, x6, x7, x8, x9, x10, x11, x12, x13⟩ := cells14 HX5.out
      have QV5 := Lib.hid (QV.out _ HB5.out)
      clear QV
      have IMG : Hid (∀ W, Dev W g cb mb 4 (Flash.fresh im) → Calls Tryd.prog 22 #[.pointer (some ⟨g, 0, none⟩)] W (GaveIm W im)) := fun W hd => (image_any (Lib.hid hd)).mono (gave_im HIL.out)
      have WRI : Hid (∀ W, Dev W g cb mb 4 (Flash.fresh im) → Calls Tryd.prog 20 #[.pointer (some ⟨g, 0, none⟩)] W fun e w' => e = .returned (.int .i64 0) ∧ W = w') := fun W hd => writes_any (Lib.hid hd)
      unfold GaveIm at IMG
      go_wp2_with (first
        | (go_at_call 21; revert HG8; intro HG8; refine (im_eq gi gI cap capI im _ HIL.out HG8.out (row_bs HI8.out HIT.out)).mono ?_; rintro r w9 ⟨rfl, k9, rfl⟩)
        | (go_at_call 22; revert HD7; intro HD7; refine (IMG.out _ HD7.out).mono ?_; rintro r w8 ⟨gi, cap, rfl, hg8, hb8⟩; have HG8 := Lib.hid hg8; have HB8 : Hid (Below w.heap.size w w8) := HB7.out.trans (hb8.mono HB7.out.size); have HI8 : Hid (w8.heap[gI]? = some _) := box_on HI7.out hb8; clear hg8 hb8)
        | (go_at_call 20; revert HD7; intro HD7; refine (WRI.out _ HD7.out).mono ?_; rintro r w' ⟨rfl, rfl⟩)
        | (go_at_call 15; revert HB6; intro HB6; refine (AW.out _ HB6.out).mono ?_; rintro r w7 ⟨rfl, hb7⟩; have HB7 : Hid (Below w.heap.size w w7) := HB6.out.trans (hb7.mono HB6.out.size); have HI7 : Hid (w7.heap[gI]? = some _) := box_on HI6.out hb7; have HD7 : Hid (Dev w7 g cb mb 4 _) := HD6.out.on hb7; clear hb7)
        | (go_at_call 19; refine QV5.out.mono ?_; rintro r w6 ⟨rfl, hb6⟩; have HB6 : Hid (Below w.heap.size w w6) := HB5.out.trans (hb6.mono HB5.out.size); have HI6 : Hid (w6.heap[gI]? = some _) := box_on HI5.out hb6; have HD6 : Hid (Dev w6 g cb mb 4 _) := HD5.out.on hb6; clear hb6 x0 x1 x2 x3 x4 x5 x6 x7 x8 x9 x10 x11 x12 x13))
      go_ret
      exact ⟨ret_bool (by simp), below_drawn HB8.out k9⟩
end Go.Proofs.YtcjnhemlkahgoaaDoor
