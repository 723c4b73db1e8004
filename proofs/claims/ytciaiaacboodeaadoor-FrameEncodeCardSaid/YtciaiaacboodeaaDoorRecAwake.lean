/-
  Awake of the statements on records: the chapter's example.
-/
import Derived.Test.YtciaiaacboodeaaDoorRecUse
namespace Go.Proofs.YtciaiaacboodeaaDoor
open Go.RowKit
theorem bs_one (w : World) (x : Nat) (hx : x < 256) (fz : Nat × Nat) : Bs (w.alloc (.cells #[.int .u8 (x : Int)] 5 fz)) (w.heap.size + 1) (some ⟨w.heap.size, 0, none⟩) [x] := by
  intro k hk
  obtain rfl : k = 0 := by simp at hk; exact hk
  refine ⟨hx, _, rfl, Nat.lt_succ_self _, ?_⟩
  rw [show (Addr.mk w.heap.size 0 none).add 0 = ⟨w.heap.size, 0, none⟩ from rfl, cell_of_row _ _ _ _ _ _ (heap_alloc_new w _)]
  rfl
/-- 'append(b, xs...)', b the call's own: what b held stays. -/
theorem append_keep {P : Program} {w : World} {ops : Array Oper} {rest : List Oper} {o : Oper} {a : Act} {Q : Exit → Act → World → Prop} (hgd : o.guard = none) (s x : Operand) (t : TypeId)
    (ho : o.op = .call { callee := .builtin .append, args := #[s, x], argTypes := #[t, t] })
    (base : Nat) (e : TypeId) (i : TypeInfo) (z : Value) (size bytes : Nat) (ht : P.underlying t = some (.slice e)) (hi : P.info? e = some i) (hz : i.zero = some z)
    (hsize : i.size = size) (hby : i.bytes = bytes) (hzs : z.cells.size = size) (hsz : 0 < size)
    (g n cap : Nat) (xs : List Value) (hs : a.eval s = .slice (some ⟨g, 0, none⟩) n cap) (hown : w.ownsRow base e size (.slice (some ⟨g, 0, none⟩) n cap) n xs)
    (ad : Addr) (m c : Nat) (news : List Value) (hx : a.eval x = .slice (some ad) m c) (hl : news.length = m * size) (hnews : ∀ j u, news[j]? = some u → w.cell? (ad.add j) = some u) (h1 : ∀ u ∈ news, u.oneCell' = true)
    (h63 : n + m ≤ maxLen) (hbytes : (n + m) * bytes ≤ 140737488355328) (hbase : base ≤ w.heap.size)
    (h : ∀ v' w', w'.ownsRow base e size v' (n + m) (xs ++ news) → Below base w w' → (∀ j, j < n * size → w'.cell? ⟨g, j, none⟩ = xs[j]?) → wpList P ops Q rest (a.put o.dst v') w') : wpList P ops Q (o :: rest) a w := by
  refine wpList_plain hgd fun K hK => ?_
  have hgb := hown.lt g rfl
  by_cases hr : n + m ≤ cap
  · obtain ⟨w', hrun, r1, r2⟩ := run_append_fits (P := P) w base t o.type e i size ht hi hsize g n cap xs hown ad m c news hl hnews h1 hr
    unfold Oper.wp
    simp [execOp, ho, resolve, invoke, builtin, hs, hx, hrun, Result.andThen]
    refine hK _ _ (h _ _ r1 (below_of_grown r2 hgb.1 hbase) fun j hj => ?_)
    rw [World.ownsRow.cellAt r1 j (by have := Nat.mul_le_mul_right size (Nat.le_add_right n m); omega), List.getElem?_append_left (by rw [hown.1]; exact hj)]
  · obtain ⟨v', w', hrun, r1, r2⟩ := run_append_arg_grows (P := P) w t o.type e i z size bytes ht hi hz hsize hby hzs hsz ⟨g, 0, none⟩ n cap xs hown.1 (fun j u hj => by
      have hj2 : j < xs.length := by
        rcases Nat.lt_or_ge j xs.length with h | h
        · exact h
        · rw [List.getElem?_eq_none h] at hj; cases hj
      rw [add_zero_block, World.ownsRow.cellAt hown j (by rw [← hown.1]; exact hj2)]; exact hj) ad m c news hl hnews (by omega) h63 hbytes
    unfold Oper.wp
    simp [execOp, ho, resolve, invoke, builtin, hs, hx, hrun, Result.andThen]
    refine hK _ _ (h _ _ (ownsRow_mono r1 hbase) ⟨r2.os, r2.tape, r2.output, r2.size, fun k hk => r2.block k (by omega) (by simp)⟩ fun j hj => ?_)
    rw [← World.ownsRow.cellAt hown j hj]
    exact World.cell?_of_block (r2.block g hgb.2 (by simp))
def rk : Rc.Rec := ⟨2, [107], [], 0⟩
theorem rk_ok : Rc.check 1 rk = 0 ∧ Rc.place 3 0 := by decide
theorem rk_len : (Rc.enc 1 3 0 rk).length = 17 := Rc.enc_length 1 3 0 rk
theorem rk_two : ∃ t, Rc.enc 1 3 0 rk = 161 :: 2 :: t := by
  have h := Rc.shape1 rk 3 0 []
  rw [List.append_nil] at h
  exact ⟨_, h⟩
theorem rk_lt : ∀ x ∈ Rc.enc 1 3 0 rk, x < 256 := Rc.enc_lt _ _ _ _ (by decide) (by decide)
theorem rk_good : Rc.good 1 3 0 (Rc.enc 1 3 0 rk ++ [9]) ∧ Rc.rec 1 (Rc.enc 1 3 0 rk ++ [9]) = rk := Rc.round 1 3 0 rk [9] rk_ok.1 rk_ok.2
theorem rk_parts : Rc.kd 1 (Rc.enc 1 3 0 rk ++ [9]) = 2 ∧ Rc.kl 1 (Rc.enc 1 3 0 rk ++ [9]) = 1 ∧ Rc.vl 1 (Rc.enc 1 3 0 rk ++ [9]) = 0 := by
  obtain ⟨h1, h2, h3⟩ := Rc.back 1 3 0 rk [9] rk_ok.1
  refine ⟨?_, h1, h2⟩
  have h4 := (rec_parts h3).1
  have h5 : rk.kind = 2 := rfl
  omega
set_option maxHeartbeats 1000000 in
theorem awake_any (w : World) (ht : Hid (TabW w)) (hz : 0 < w.heap.size) : Calls Tryd.prog 10 #[] w fun e w' => e = .returned (.bool true) ∧ Below w.heap.size w w' := by
  have kc := fun (w : World) (C : Array Value) (n c : Nat) => Lib.run_convert_bytes_const (P := Tryd.prog) w 24 5 C n c Tryd.underlying24 Tryd.underlying5
  obtain ⟨i0, hi0, hz0, hz1, hz2⟩ := info_parts info_u8
  have I0 := Lib.hid (And.intro hi0 (And.intro hz0 (And.intro hz1 hz2))); clear hi0 hz0 hz1 hz2
  have HE : Hid (∀ (o : Obj) (A : Option Addr) (c : Nat), SlIs A 1 c → Bs (w.alloc o) (w.heap.size + 1) A [107] → Calls Tryd.prog 20 #[.int .i64 1, .int .i64 3, .int .i64 0, .agg #[.int .i64 2, .slice A 1 c, .slice none 0 0, .int .i64 0]] (w.alloc o) (Encoded (w.alloc o) (Rc.enc 1 3 0 rk))) := fun o A c h1 h2 =>
    encode_ok 1 3 0 2 0 [107] [] A (w.heap.size + 1) 1 c none 0 0 (w.alloc o) rk_ok.1 rk_ok.2 (by simp) (by decide) (Lib.hid ⟨h1, rfl, h2⟩) (Lib.hid ⟨⟨fun _ => ⟨rfl, rfl⟩, Nat.le_refl _, by omega⟩, rfl, fun k hk => absurd hk (by simp)⟩) (tab_alloc ht.out hz o) (by simp)
  have HD : Hid (∀ (W : World) (A : Option Addr) (c : Nat), Below w.heap.size w W → SlIs A 18 c → Bs W W.heap.size A (Rc.enc 1 3 0 rk ++ [9]) → Calls Tryd.prog 8 #[.int .i64 1, .int .i64 3, .int .i64 0, .slice A 18 c] W fun e w' => ∃ A1 c1 A2 c2, ∃ x : Int, e = .returned (.tuple #[.agg #[.int .i64 2, .slice A1 1 c1, .slice A2 0 c2, .int .i64 x], .int .i64 17, .bool true]) ∧ Below W.heap.size W w') := fun W A c hW h1 h2 => by
    refine (decode_good 1 3 0 A W.heap.size 18 c _ W (Nat.le_refl _) (by decide) h1.1 h1.2.1 h1.2.2 (by show _ = _; rw [List.length_append, rk_len]; rfl) h2 (ht.out.below hW hz) (Nat.lt_of_lt_of_le hz hW.size) rk_good.1).mono ?_
    rintro e w' ⟨A1, c1, A2, c2, rfl, -, -, -, -, hb⟩
    obtain ⟨e1, e2, e3⟩ := rk_parts
    rw [e1, e2, e3]
    exact ⟨A1, c1, A2, c2, _, rfl, hb⟩
  obtain ⟨t, htwo⟩ := rk_two
  have HTWO := Lib.hid htwo; clear htwo
  have HLEN := Lib.hid rk_len
  have HLT := Lib.hid rk_lt
  generalize Rc.enc 1 3 0 rk = en at *
  go_enter Tryd.func10, Tryd.ntmps10
  go_wp2_with fail
  refine (HE.out _ _ _ ⟨fun e => (by cases e), by omega, by omega⟩ (bs_one w 107 (by decide) _)).mono ?_
  rintro e w1 ⟨v1, rfl, hown1, hb1⟩
  have HB1 : Hid (Below w.heap.size w w1) := ((Below.refl _ _).alloc (Nat.le_refl _) _).trans (hb1.mono (by simp))
  rw [HLEN.out] at hown1
  have hown1' := ownsRow_mono hown1 (show w.heap.size ≤ _ by simp)
  obtain ⟨A1, k1, rfl, -, hl1, hn1, hm1, ho1⟩ := own_bytes hown1' HLT.out
  obtain ⟨g, rfl, hg1, hg2⟩ : ∃ g, A1 = some ⟨g, 0, none⟩ ∧ w.heap.size ≤ g ∧ g < w1.heap.size := by
    rcases ho1 with ⟨_, h, _⟩ | h
    · omega
    · exact h
  have HO1 := Lib.hid hown1'
  clear hown1 hown1' hb1 ho1 hl1
  unfold maxLen at hm1
  go_wp2_with (at_builtin; refine append_keep rfl (.tmp 14) (.tmp 15) 24 rfl w.heap.size 5 i0 (.int .u8 0) 1 1 Tryd.underlying24 I0.out.1 I0.out.2.1 I0.out.2.2.1 I0.out.2.2.2 rfl (by decide) g 17 k1 (vals en) rfl (HO1.out.alloc _) ⟨w1.heap.size, 0, none⟩ 1 1 (vals [9]) rfl rfl (World.news_of_block (heap_alloc_new w1 _)) (vals_one _) (by decide) (by decide) (Nat.le_trans HB1.out.size (by simp)) ?_; intro v2 w2 hown2 hb2 hk2; rw [← vals_append] at hown2)
  have HLT2 : Hid (∀ x ∈ en ++ [9], x < 256) := fun x hx => by
    rcases List.mem_append.1 hx with h | h
    · exact HLT.out x h
    · rw [List.mem_singleton.1 h]; decide
  have HB2 : Hid (Below w.heap.size w w2) := (HB1.out.trans (((Below.refl _ w1).alloc (Nat.le_refl _) _).mono HB1.out.size)).trans hb2
  have hg3 : g < w2.heap.size := Nat.lt_of_lt_of_le hg2 (Nat.le_trans (by simp) hb2.size)
  obtain ⟨A2, k2, rfl, hbs2, hl2, hn2, hm2, ho2⟩ := own_bytes hown2 HLT2.out
  have hc0 := hk2 0 (by decide)
  have hc1 := hk2 1 (by decide)
  rw [vals_at (by rw [HLEN.out]; decide), HTWO.out] at hc0 hc1
  have HC : Hid (w2.cell? ⟨g, 0, none⟩ = some (.int .u8 161) ∧ w2.cell? ⟨g, 1, none⟩ = some (.int .u8 2)) := ⟨hc0, hc1⟩
  have HDD := Lib.hid (HD.out w2 A2 k2 HB2.out (sl_own hn2 hm2 ho2) hbs2)
  clear hb2 hk2 hc0 hc1 hown2 hbs2 hl2 hn2 hm2 ho2
  refine HDD.out.mono ?_
  rintro e w3 ⟨B1, d1, B2, d2, x, rfl, hb3⟩
  have hal : Below w3.heap.size w3 (w3.alloc (.cells #[.int .i64 2, .slice B1 1 d1, .slice B2 0 d2, .int .i64 x] 26)) := (Below.refl _ _).alloc (Nat.le_refl _) _
  have hg4 : g < w3.heap.size := Nat.lt_of_lt_of_le hg3 hb3.size
  have hc0 : (w3.alloc (.cells #[.int .i64 2, .slice B1 1 d1, .slice B2 0 d2, .int .i64 x] 26)).cell? ⟨g, 0, none⟩ = some (.int .u8 161) := (hal.cell (p := ⟨g, 0, none⟩) hg4).trans ((hb3.cell (p := ⟨g, 0, none⟩) hg3).trans HC.out.1)
  have hc1 : (w3.alloc (.cells #[.int .i64 2, .slice B1 1 d1, .slice B2 0 d2, .int .i64 x] 26)).cell? ⟨g, 1, none⟩ = some (.int .u8 2) := (hal.cell (p := ⟨g, 1, none⟩) hg4).trans ((hb3.cell (p := ⟨g, 1, none⟩) hg3).trans HC.out.2)
  clear hal hg4 hg3
  have HB3 : Hid (Below w.heap.size w w3) := HB2.out.trans (hb3.mono HB2.out.size)
  clear hb3
  go_wp2
  go_ret
  exact ⟨rfl, HB3.out.alloc HB3.out.size _⟩
end Go.Proofs.YtciaiaacboodeaaDoor
