/-
  The walk of Remove.
-/
import Derived.Test.YtlhjofcpcccdpaaChAdd
set_option maxRecDepth 100000
namespace Go.Proofs.Ytlhjofcpcccdpaa
open Go.RowKit Go.Maps
theorem Ch.rem_no {H : Int → List Ch.It} {s o : Int} (h : ∀ k, (o, k) ∉ H s) : Ch.rem H s o = H := funext fun t => by
  unfold Ch.rem
  split
  · rename_i e
    subst e
    refine List.filter_eq_self.2 fun p hp => decide_eq_true fun e => ?_
    obtain ⟨o', k⟩ := p
    have e : o' = o := e
    subst e
    exact h k hp
  · rfl
theorem Ch.drop_rem {H : Int → List Ch.It} {s o : Int} (h : Ch.cut o (H s) = []) : Ch.drop (Ch.rem H s o) s = Ch.rem H s o := funext fun t => by
  unfold Ch.drop Ch.rem
  split
  · rw [h]
  · rfl
/-- What Remove leaves. -/
def ChRem (M : Nat) (S : Nat → Prop) (q : Nat) (H : Int → List Ch.It) (s o : Int) (w : World) (e : Ending) (w' : World) : Prop :=
  ∃ y, e = .returned (.bool y) ∧ Kept S w w' ∧ Chn M w' S q (Ch.rem H s o) ∧ (y = true ↔ ∃ k, (o, k) ∈ H s)
/-- What a look-up of a region finds. -/
def Look (M : Nat) (S : Nat → Prop) (q : Nat) (H : Int → List Ch.It) (s : Int) (w : World) (mb mi : Option Nat) : Prop :=
  w.heap[q]? = some (.cells #[.map mb] 51 (0, 0)) ∧ (∀ W, W.heap = w.heap → (Instr.lookup 49 (.map mb) (.int .i64 s) false).run Try.prog W = .ok (.map mi) W) ∧
    ((mi = none ∧ H s = []) ∨ ∃ b l i, mb = some b ∧ mi = some i ∧ Idx w S q b l H ∧ (s, i) ∈ l ∧ (∀ s i, (s, i) ∈ l → H s ≠ []) ∧ l.length ≤ M)
theorem Chn.look {M : Nat} {w : World} {S : Nat → Prop} {q : Nat} {H : Int → List Ch.It} (h : Chn M w S q H) {s : Int} (hs : (Lit.int .i64 s).wf = true) : S q ∧ Good M H ∧ ∃ mb mi, Look M S q H s w mb mi := by
  obtain ⟨mb, hS, hq, hG, hT⟩ := h
  refine ⟨hS, hG, mb, ?_⟩
  rcases hT with ⟨rfl, hH⟩ | ⟨b, l, rfl, hI, hne, hl⟩
  · refine ⟨none, hq, fun W _ => ?_, .inl ⟨rfl, hH s⟩⟩
    have hz : (zeroValue 52).run Try.prog W = .ok (.map none) W := by kernel_rfl
    exact Maps.look_nil false chLaw Try.underlying49 hz (chKey hs)
  · rcases hI.look hs with ⟨i, h1, h2⟩ | ⟨h1, h0, h2⟩
    · exact ⟨some i, hq, fun W hW => h2 W (by rw [hW]), .inr ⟨b, l, i, rfl, rfl, hI, h1, hne, hl⟩⟩
    · exact ⟨none, hq, fun W hW => h2 W (by rw [hW]), .inl ⟨rfl, h0⟩⟩
theorem rem_some {M : Nat} {S : Nat → Prop} {q b i : Nat} {H : Int → List Ch.It} {s o : Int} {l : List (Int × Nat)} {w w1 : World} {N : Nat} (hG : Good M H) (hq : w.heap[q]? = some (.cells #[.map (some b)] 51 (0, 0))) (hI : Idx w S q b l H) (hil : (s, i) ∈ l) (hne : ∀ s i, (s, i) ∈ l → H s ≠ [])
    (hw : w1.ownsMap Try.prog 3 chStr i N ((Ch.dat fI (H s)).del (.int .i64 o))) (hg : w.grownBy w1 (some i)) :
    Kept S w w1 ∧ w1.heap[q]? = some (.cells #[.map (some b)] 51 (0, 0)) ∧ Idx w1 S q b l (Ch.rem H s o) ∧ w1.ownsMap Try.prog 3 chStr i (Ch.cut o (H s)).length (Ch.dat fI (Ch.cut o (H s))) ∧ (∀ t j, (t, j) ∈ l → t ≠ s → Ch.rem H s o t ≠ []) ∧ Good M (Ch.rem H s o) := by
  obtain ⟨g1, g2, g3, g4⟩ := hI.blk s i hil
  rw [Ch.dat_del] at hw
  refine ⟨Kept.of_grown hg fun k e => Option.some.inj e ▸ g1, (hg.block q (Array.getElem?_eq_some_iff.1 hq).1 fun e => g2 (Option.some.inj e).symm).trans hq, hI.inner hil hw hg, own_dat hw, fun t j hj hts => ?_, ⟨Ch.rem_up hG.up s o, fun t => ?_, fun t p hp => ?_⟩⟩
  · unfold Ch.rem; rw [if_neg hts]; exact hne t j hj
  · unfold Ch.rem
    split
    · exact Nat.le_trans (Ch.cut_le _ _) (hG.le s)
    · exact hG.le t
  · unfold Ch.rem at hp
    split at hp
    · exact hG.small s p (Ch.mem_cut.1 hp).1
    · exact hG.small t p hp
theorem str_has {w : World} {i : Nat} {l : List Ch.It} {o : Int} (h : w.ownsMap Try.prog 3 chStr i l.length (Ch.dat fI l)) (ho : (Lit.int .i64 o).wf = true) :
    (∃ k, (o, k) ∈ l ∧ ∃ v, ∀ W, W.heap = w.heap → (Instr.lookup 52 (.map (some i)) (.int .i64 o) true).run Try.prog W = .ok (.tuple #[v, .bool true]) W) ∨ ((∀ k, (o, k) ∉ l) ∧ ∃ v, ∀ W, W.heap = w.heap → (Instr.lookup 52 (.map (some i)) (.int .i64 o) true).run Try.prog W = .ok (.tuple #[v, .bool false]) W) := by
  have hz : ∀ W : World, (zeroValue 9).run Try.prog W = .ok (.string ⟨#[]⟩) W := fun W => by kernel_rfl
  have key : ∀ W, W.heap = w.heap → ∃ v ps, (Instr.lookup 52 (.map (some i)) (.int .i64 o) true).run Try.prog W = .ok (.tuple #[v, .bool (Maps.has (Ch.dat fI l) (.int .i64 o))]) W ∧ chStr v = some ((Ch.dat fI l).atKey (.int .i64 o) (fI ⟨#[]⟩), ps) := fun W hW =>
    (own_block h (by rw [hW])).look_ok chLaw Try.underlying52 (hz W) (zd := fI ⟨#[]⟩) (zp := []) rfl (chKey ho)
  have val : ∃ k, (Ch.dat fI l).atKey (.int .i64 o) (fI ⟨#[]⟩) = fI k := by
    obtain ⟨v, ps, -, h2⟩ := key w rfl
    obtain ⟨k, -, e⟩ := chStr_inv h2
    exact ⟨k, (Prod.mk.inj e).1⟩
  obtain ⟨k0, hk0⟩ := val
  have all : ∀ W, W.heap = w.heap → (Instr.lookup 52 (.map (some i)) (.int .i64 o) true).run Try.prog W = .ok (.tuple #[.string k0, .bool (Maps.has (Ch.dat fI l) (.int .i64 o))]) W := fun W hW => by
    obtain ⟨v, ps, h1, h2⟩ := key W hW
    obtain ⟨k, rfl, e⟩ := chStr_inv h2
    have e1 := (Prod.mk.inj e).1
    rw [hk0] at e1
    have e2 : k = k0 := by
      unfold fI at e1
      injection e1 with e1
      injection e1 with e1
      exact e1.symm
    rw [h1, e2]
  by_cases hex : ∃ k, (o, k) ∈ l
  · obtain ⟨k, hk⟩ := hex
    rw [Ch.dat_yes fI hk] at all
    exact .inl ⟨k, hk, _, all⟩
  · have hno : ∀ k, (o, k) ∉ l := fun k hk => hex ⟨k, hk⟩
    rw [Ch.dat_not fI hno] at all
    exact .inr ⟨hno, _, all⟩
theorem chrem_any (M q : Nat) (s o : Int) (H : Int → List Ch.It) (S : Nat → Prop) (w : World) (hs : (Lit.int .i64 s).wf = true) (ho : (Lit.int .i64 o).wf = true) (hT : Chn M w S q H) :
    Calls Try.prog 9 #[.pointer (some ⟨q, 0, none⟩), .int .i64 s, .int .i64 o] w (ChRem M S q H s o w) := by
  have HT := Lib.hid hT
  obtain ⟨hS, hG, mb, mi, hq, hlk, hL⟩ := hT.look hs
  have c0 := one_cell_of hq
  have hlk1 := hlk w rfl
  clear hlk hT
  rcases hL with ⟨rfl, hH⟩ | ⟨b, l, i, rfl, rfl, hI, hil, hne, hl⟩
  · have hz : (zeroValue 9).run Try.prog w = .ok (.string ⟨#[]⟩) w := by kernel_rfl
    have hlk2 : (Instr.lookup 52 (.map none) (.int .i64 o) true).run Try.prog w = .ok (.tuple #[.string ⟨#[]⟩, .bool false]) w := Maps.look_nil true chLaw Try.underlying52 hz (chKey ho)
    have HE : Hid (ChRem M S q H s o w (.returned (.bool false)) w) := ⟨false, rfl, Kept.refl _ _, by rw [Ch.rem_no fun k => by rw [hH]; exact List.not_mem_nil]; exact HT.out, ⟨fun h => (by cases h), fun ⟨k, hk⟩ => by rw [hH] at hk; cases hk⟩⟩
    clear hz hq hS hG hH
    go_enter Try.func9, Try.ntmps9
    go_wp2_with fail
    go_ret
    exact HE.out
  · rcases str_has (hI.blk s i hil).2.2.2 ho with ⟨k, hk, v, hlk2⟩ | ⟨hno, v, hlk2⟩
    · have HOWN := Lib.hid (hI.blk s i hil).2.2.2
      have hlk3 := hlk2 w rfl
      have HKO := Lib.hid (chKey ho)
      have HKS := Lib.hid (chKey hs)
      have HR := Lib.hid (fun w1 N => rem_some (o := o) (w1 := w1) (N := N) hG hq hI hil hne)
      have HY : Hid (∃ k, (o, k) ∈ H s) := ⟨k, hk⟩
      have HB : Hid (S b) := hI.ib
      have HLM : Hid (l.length ≤ M) := hl
      have HSQ := Lib.hid hS
      clear hlk2 hk hI hil hne hl hS hG hq ho hs
      by_cases hcut : Ch.cut o (H s) = []
      · have HSZ : Hid (Maps.size (Ch.dat fI (Ch.cut o (H s))) = 0) := by show _ = _; rw [Ch.dat_size, hcut]; rfl
        have HCUT := Lib.hid hcut
        clear hcut
        go_enter Try.func9, Try.ntmps9
        go_wp2_with (first
          | (at_delete; refine wpList_delete_own _ rfl _ _ 52 3 rfl 9 chLaw Try.underlying52 chStr i _ _ rfl HOWN.out _ (.int .i64 o) rfl HKO.out ?_; intro w1 hown1 hturn1; obtain ⟨hk1, hq1, hI1, hO1, hne1, hG1⟩ := HR.out _ _ hown1 hturn1.grown; have HO1 := Lib.hid hO1; have HI1 := Lib.hid hI1; have HK1 := Lib.hid hk1; have HQ1 := Lib.hid hq1; have HN1 := Lib.hid hne1; have HG1 := Lib.hid hG1; have c1 := one_cell_of hq1; have hlen := hO1.len Try.underlying52 3; rw [HSZ.out] at hlen; clear hown1 hturn1 hk1 hq1 hI1 hO1 hne1 hG1)
          | (at_delete; refine wpList_delete_own _ rfl _ _ 49 3 rfl 52 chLaw Try.underlying49 chRaw b _ _ rfl HI1.out.own _ (.int .i64 s) rfl HKS.out ?_; intro w2 hown2 hturn2; have HI2 := Lib.hid (HI1.out.gone hown2 hturn2.grown); have HG2 := Lib.hid hturn2.grown; clear hown2 hturn2))
        go_ret
        have hk12 : Kept S w1 w2 := Kept.of_grown HG2.out fun k e => Option.some.inj e ▸ HB.out
        refine ⟨true, rfl, HK1.out.trans hk12, ⟨some b, HSQ.out, (HG2.out.block q (Array.getElem?_eq_some_iff.1 HQ1.out).1 fun e => HI1.out.ne (Option.some.inj e).symm).trans HQ1.out, HG1.out, .inr ⟨b, Ch.cut s l, rfl, ?_, fun t j hj => HN1.out t j (Ch.mem_cut.1 hj).1 (Ch.mem_cut.1 hj).2, Nat.le_trans (Ch.cut_le _ _) HLM.out⟩⟩, fun _ => HY.out, fun _ => rfl⟩
        have h2 := HI2.out
        rwa [Ch.drop_rem HCUT.out] at h2
      · obtain ⟨n, hn⟩ : ∃ n, (Ch.cut o (H s)).length = n := ⟨_, rfl⟩
        have hn0 : 0 < n := by rw [← hn]; exact List.length_pos_iff.2 hcut
        have HSZ : Hid (Maps.size (Ch.dat fI (Ch.cut o (H s))) = n) := by show _ = _; rw [Ch.dat_size, hn]
        have hb0 : ((n : Int) == 0) = false := by rw [beq_eq_false_iff_ne]; omega
        have HNE : Hid (Ch.rem H s o s ≠ []) := by show _ ≠ _; unfold Ch.rem; rw [if_pos rfl]; exact hcut
        clear hcut hn hn0
        go_enter Try.func9, Try.ntmps9
        go_wp2_with (at_delete; refine wpList_delete_own _ rfl _ _ 52 3 rfl 9 chLaw Try.underlying52 chStr i _ _ rfl HOWN.out _ (.int .i64 o) rfl HKO.out ?_; intro w1 hown1 hturn1; obtain ⟨hk1, hq1, hI1, hO1, hne1, hG1⟩ := HR.out _ _ hown1 hturn1.grown; have HO1 := Lib.hid hO1; have HI1 := Lib.hid hI1; have HK1 := Lib.hid hk1; have HQ1 := Lib.hid hq1; have HN1 := Lib.hid hne1; have HG1 := Lib.hid hG1; have c1 := one_cell_of hq1; have hlen := hO1.len Try.underlying52 3; rw [HSZ.out] at hlen; clear hown1 hturn1 hk1 hq1 hI1 hO1 hne1 hG1)
        go_ret
        exact ⟨true, rfl, HK1.out, ⟨some b, HSQ.out, HQ1.out, HG1.out, .inr ⟨b, l, rfl, HI1.out, fun t j hj => by
          by_cases e : t = s
          · rw [e]; exact HNE.out
          · exact HN1.out t j hj e, HLM.out⟩⟩, fun _ => HY.out, fun _ => rfl⟩
    · have hlk3 := hlk2 w rfl
      have HE : Hid (ChRem M S q H s o w (.returned (.bool false)) w) := ⟨false, rfl, Kept.refl _ _, by rw [Ch.rem_no hno]; exact HT.out, ⟨fun h => (by cases h), fun ⟨k, hk⟩ => absurd hk (hno k)⟩⟩
      clear hlk2 hq hS hG hno hI hil hne hl
      go_enter Try.func9, Try.ntmps9
      go_wp2_with fail
      go_ret
      exact HE.out
end Go.Proofs.Ytlhjofcpcccdpaa
