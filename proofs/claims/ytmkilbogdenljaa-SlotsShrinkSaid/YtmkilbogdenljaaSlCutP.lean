/-
  The program's Cut: its closure, sort.Search.
-/
import Derived.Test.YtmkilbogdenljaaSlRoom
import Derived.Test.YtmkilbogdenljaaSlProg
import Derived.Test.YtmkilbogdenljaaSlCut
set_option maxRecDepth 100000
namespace Go.Proofs.Ytmkilbogdenljaa
open Go.RowKit
set_option maxHeartbeats 2000000 in
theorem slcutclo_any (a b c d : Int) (gl go g lo B n cap k : Nat) (L : List Gm.R) (w : World) (hk : k < n) (hc : n ≤ cap) (hB : B ≤ w.heap.size) (hn : Hid (L.length = n)) (hn2 : n ≤ 100000) (hb : Hid (Arr regS w lo B (some ⟨g, 0, none⟩) L))
    (hl : Hid (w.heap[gl]? = some (.cells #[.int .i64 a, .int .i64 b, .int .i64 c, .int .i64 d] 23 (0, 0)))) (ho : Hid (w.heap[go]? = some (.cells #[.slice (some ⟨g, 0, none⟩) n cap] 24 (0, 0)))) :
    Calls Try.prog 35 #[.int .i64 k, .pointer (some ⟨gl, 0, none⟩), .pointer (some ⟨go, 0, none⟩)] w fun e w' => e = .returned (.bool (decide (Sl.ok ⟨a, b, c, d⟩ (L.drop k)))) ∧ Below w.heap.size w w' := by
  have HA2 : Hid (Arr regS w lo B (some ⟨g, k * 10, none⟩) (L.drop k)) := by
    have h := regs_drop hb.out k
    rwa [Nat.zero_add] at h
  have HDL : Hid ((L.drop k).length = n - k) := by show _ = _; rw [List.length_drop, hn.out]
  have CC : Hid (∀ W, Below w.heap.size w W → ∀ cp, Calls Try.prog 36 #[.agg #[.int .i64 a, .int .i64 b, .int .i64 c, .int .i64 d], .slice (some ⟨g, k * 10, none⟩) (n - k) cp] W fun e w' => e = .returned (.bool (decide (Sl.ok ⟨a, b, c, d⟩ (L.drop k)))) ∧ Below W.heap.size W w') := fun W hW cp =>
    slroom_any a b c d _ lo B (n - k) cp _ W (Nat.le_trans hB hW.size) HDL (by omega) (Lib.hid (HA2.out.below hW hB))
  obtain ⟨z0, z1, z2, z3⟩ := four_cells hl.out
  have y0 := one_cell ho.out
  have hck : ¬ cap = k := by omega
  have HBD : Hid (Below w.heap.size w w.drew) := below_drawn (Below.refl _ _) 1
  generalize decide (Sl.ok ⟨a, b, c, d⟩ (L.drop k)) = R at *
  clear HA2 HDL hn hb hl ho
  go_enter Try.func35, Try.ntmps35
  go_upto_region 1 with fail
  go_cut [4] (fun v wx => v = .bool R ∧ Hid (Below w.heap.size w wx))
  case first =>
    go_region_with (go_at_call 36; ((with_reducible refine (CC.out _ HBD.out (cap - k)).mono ?_); rintro e w2 ⟨rfl, hb2⟩; have HBW := Lib.hid (HBD.out.trans hb2); clear hb2))
    all_goals
      go_wp2
      go_meet
      exact ⟨rfl, HBW⟩
  case rest =>
    obtain ⟨rfl, HB6⟩ := hcut
    go_wp2_with fail
    go_ret
    exact ⟨rfl, HB6.out⟩
set_option maxHeartbeats 2000000 in
theorem slsearch_any (a b c d : Int) (gl go g lo B n cap : Nat) (A : Option Addr) (L : List Gm.R) (w : World) (hc : n ≤ cap) (hB : B ≤ w.heap.size) (hn : Hid (L.length = n)) (hn2 : n ≤ 100000) (hb : Hid (0 < n → A = some ⟨g, 0, none⟩ ∧ Arr regS w lo B A L))
    (hl : Hid (w.heap[gl]? = some (.cells #[.int .i64 a, .int .i64 b, .int .i64 c, .int .i64 d] 23 (0, 0)))) (ho : Hid (w.heap[go]? = some (.cells #[.slice A n cap] 24 (0, 0)))) :
    Calls Try.prog 34 #[.int .i64 n, .func (.func 35) #[] #[.pointer (some ⟨gl, 0, none⟩), .pointer (some ⟨go, 0, none⟩)]] w fun e w' => e = .returned (.int .i64 (Sl.cut ⟨a, b, c, d⟩ L : Int)) ∧ Below w.heap.size w w' := by
  have hgl := Lib.hid (Array.getElem?_eq_some_iff.1 hl.out).1
  have hgo := Lib.hid (Array.getElem?_eq_some_iff.1 ho.out).1
  have CF : Hid (∀ (k : Nat) W, k < n → Below w.heap.size w W → Calls Try.prog 35 #[.int .i64 k, .pointer (some ⟨gl, 0, none⟩), .pointer (some ⟨go, 0, none⟩)] W fun e w' => e = .returned (.bool (decide (Sl.ok ⟨a, b, c, d⟩ (L.drop k)))) ∧ Below W.heap.size W w') := fun k W hk hW => by
    obtain ⟨e1, ha⟩ := hb.out (by omega)
    subst e1
    exact slcutclo_any a b c d gl go g lo B n cap k L W hk hc (Nat.le_trans hB hW.size) hn hn2 (Lib.hid (ha.below hW hB)) (Lib.hid (block_next hl.out hW hgl.out)) (Lib.hid (block_next ho.out hW hgo.out))
  have HEND : Hid (∀ i, i ≤ n → (∀ x, x < i → ¬ Sl.ok ⟨a, b, c, d⟩ (L.drop x)) → (i < n → Sl.ok ⟨a, b, c, d⟩ (L.drop i)) → Sl.cut ⟨a, b, c, d⟩ L = i) := fun i hi h1 h2 => by
    rcases Nat.lt_or_ge i n with h | h
    · exact Sl.cut_at (by rw [hn.out]; exact h) h1 (h2 h)
    · obtain rfl : i = n := by omega
      exact (Sl.cut_all (fun j hj => h1 j (by rw [← hn.out]; exact hj))).trans hn.out
  have HNO : Hid (∀ h x, ¬ Sl.ok ⟨a, b, c, d⟩ (L.drop h) → x ≤ h → ¬ Sl.ok ⟨a, b, c, d⟩ (L.drop x)) := fun h x hno hx => Sl.not_ok hno x hx
  generalize Sl.cut ⟨a, b, c, d⟩ L = R at *
  clear hn hb hl ho hgl hgo
  go_enter Try.func34, Try.ntmps34
  go_wp2_with fail
  go_loopw [5, 6, 7] (fun iv jv _ wr => ∃ i j : Nat, i ≤ j ∧ j ≤ n ∧ iv = .int .i64 (i : Int) ∧ jv = .int .i64 (j : Int) ∧ Hid (∀ x, x < i → ¬ Sl.ok ⟨a, b, c, d⟩ (L.drop x)) ∧ Hid (j < n → Sl.ok ⟨a, b, c, d⟩ (L.drop j)) ∧ Hid (Below w.heap.size w wr)) (fun i j _ _ => (intOf j).toNat - (intOf i).toNat)
  case atStart => exact ⟨0, n, Nat.zero_le _, Nat.le_refl _, rfl, rfl, fun x h => absurd h (Nat.not_lt_zero _), fun h => absurd h (Nat.lt_irrefl _), Below.refl _ _⟩
  case round =>
    obtain ⟨i, j, hij, hj, rfl, rfl, HLO, HHI, HBW⟩ := hrel
    by_cases hlt : i < j
    · obtain ⟨m, hm⟩ : ∃ m, (i + j) / 2 = m := ⟨_, rfl⟩
      have hm1 : i ≤ m ∧ m < j := by omega
      have CM := Lib.hid (CF.out m wr (by omega) HBW.out)
      have hmz : ((i : Int) + (j : Int)) / 2 = (m : Int) := by omega
      by_cases hok : Sl.ok ⟨a, b, c, d⟩ (L.drop m)
      · have HHI2 : Hid (m < n → Sl.ok ⟨a, b, c, d⟩ (L.drop m)) := fun _ => hok
        rw [decide_eq_true hok] at CM
        clear hm hok
        go_wp2_with fail
        refine CM.out.mono ?_
        rintro e w1 ⟨rfl, hb1⟩
        have HB1 : Hid (Below w.heap.size w w1) := HBW.out.trans (hb1.mono HBW.out.size)
        go_wp2_with fail
        go_roundw
        case rel => exact ⟨i, m, hm1.1, by omega, rfl, rfl, HLO.out, HHI2.out, HB1.out⟩
        case measure => simp [intOf]; omega
      · have HLO2 : Hid (∀ x, x < m + 1 → ¬ Sl.ok ⟨a, b, c, d⟩ (L.drop x)) := fun x hx => HNO.out m x hok (by omega)
        rw [decide_eq_false hok] at CM
        clear hm hok
        go_wp2_with fail
        refine CM.out.mono ?_
        rintro e w1 ⟨rfl, hb1⟩
        have HB1 : Hid (Below w.heap.size w w1) := HBW.out.trans (hb1.mono HBW.out.size)
        go_wp2_with fail
        go_roundw
        case rel => exact ⟨m + 1, j, by omega, hj, by go_num, rfl, HLO2.out, HHI.out, HB1.out⟩
        case measure => simp [intOf]; omega
    · obtain rfl : i = j := by omega
      have HR := Lib.hid (HEND.out i hj HLO.out HHI.out)
      go_wp2_with fail
      go_ret
      exact ⟨by rw [HR.out]; rfl, HBW.out⟩
set_option maxHeartbeats 2000000 in
theorem slcut_any (a b c d : Int) (A : Option Addr) (lo B n cap : Nat) (live : List Gm.R) (w : World) (hB : B ≤ w.heap.size) (hn : Hid (live.length = n)) (hn2 : n ≤ 15) (hb : Hid (Arr regS w lo B A live)) :
    Calls Try.prog 20 #[.agg #[.int .i64 a, .int .i64 b, .int .i64 c, .int .i64 d], .slice A n cap] w fun e w' => e = .returned (.int .i64 (Sl.cut ⟨a, b, c, d⟩ (Sl.order live) : Int)) ∧ Below w.heap.size w w' := by
  have CO : Hid (∀ W, Below w.heap.size w W → Calls Try.prog 10 #[.slice A n cap] W (OrdIs W (Sl.order live))) := fun W hW => slorder_any A lo B n cap live W hn hn2 (Lib.hid (hb.out.below hW hB))
  have HS0 := Lib.hid (sd_new w #[.int .i64 a, .int .i64 b, .int .i64 c, .int .i64 d] 23)
  have hmf : ∀ (fn : Fn) (first cap : Array Value) (w : World), (Instr.makeFunc fn first cap).run Try.prog w = .ok (.func fn first cap) w := fun _ _ _ _ => rfl
  have hlen : (Sl.order live).length = n := (Sl.order_length live).trans hn.out
  generalize Sl.order live = L at *
  clear hn hb hB
  go_enter Try.func20, Try.ntmps20
  go_upto_region 1 with fail
  generalize w.alloc (.cells #[.int .i64 a, .int .i64 b, .int .i64 c, .int .i64 d] 23) = w0 at *
  go_wp2_with fail
  refine (CO.out _ HS0.out.2).mono ?_
  rintro e w1 ⟨v, rfl, hr, hb1⟩
  have HS1 := Lib.hid (HS0.out.next hb1 (by rfl) (by rfl) (by rfl) (by rfl))
  have hsl : ∃ (g c1 : Nat) (A1 : Option Addr), v = .slice A1 n c1 ∧ n ≤ c1 ∧ Hid (0 < n → A1 = some ⟨g, 0, none⟩ ∧ Arr regS w1 w0.heap.size w1.heap.size A1 L) := by
    rcases Nat.eq_zero_or_pos n with h0 | h0
    · obtain ⟨A1, c1, rfl, hs1, -⟩ := hr.open_
      rw [hlen] at *
      exact ⟨0, c1, A1, rfl, hs1.2.1, fun h => by omega⟩
    · rw [hlen] at hr
      obtain ⟨g, c1, rfl, hc, ha⟩ := hr.box h0
      exact ⟨g, c1, _, rfl, hc, fun _ => ⟨rfl, ha⟩⟩
  obtain ⟨g, c1, A1, rfl, hc1, HA⟩ := hsl
  have HL := Lib.hid hlen
  have HBA : Hid (Below w1.heap.size w1 (w1.alloc (.cells #[.slice A1 n c1] 24))) := (Below.refl _ w1).alloc (Nat.le_refl _) _
  have HG2 := Lib.hid (heap_alloc_new w1 (.cells #[.slice A1 n c1] 24))
  have HL2 := Lib.hid (block_next HS1.out.1 HBA.out HS1.out.lt)
  have HB2 : Hid (Below w.heap.size w (w1.alloc (.cells #[.slice A1 n c1] 24))) := HS1.out.2.alloc (Nat.le_of_lt HS1.out.lt) _
  have CS := Lib.hid (slsearch_any a b c d w.heap.size w1.heap.size g w0.heap.size w1.heap.size n c1 A1 L (w1.alloc (.cells #[.slice A1 n c1] 24)) hc1 HBA.out.size HL (by omega) (fun h => ⟨(HA.out h).1, (HA.out h).2.below HBA.out (Nat.le_refl _)⟩) HL2 HG2)
  clear hr hb1 CO HS0 hlen HBA HG2 HL2 HA
  go_wp2_with fail
  refine CS.out.mono ?_
  rintro e w3 ⟨rfl, hb3⟩
  have HB3 : Hid (Below w.heap.size w w3) := HB2.out.trans (hb3.mono HB2.out.size)
  go_wp2_with fail
  go_ret
  exact ⟨rfl, HB3.out⟩
end Go.Proofs.Ytmkilbogdenljaa
