/-
  The walks of the statements' own words on the index: a key's name, the sanity check, and the statement on Places and Work.
-/
import Derived.Test.YtflnjippknpflaaTbSet
set_option maxRecDepth 100000
namespace Go.Proofs.Ytflnjippknpflaa
open Go.RowKit
/-- The key of a number below 1000. -/
def digs (m : Nat) : List Nat := [48 + m / 100, 48 + m / 10 % 10, 48 + m % 10]
def nm (m : Nat) : ByteArray := strOf (digs m)
theorem name_any (x : Int) (w : World) :
    Calls Try.prog 9 #[.int .i64 x] w fun e w' => ∃ m : Nat, m < 1000 ∧ (m : Int) = x % 1000 ∧ e = .returned (.string (nm m)) ∧ Below w.heap.size w w' := by
  have h2 : x.tmod 1000 < 1000 := Int.tmod_lt_of_pos x (by omega)
  have h3 : -1000 < x.tmod 1000 := Int.lt_tmod_of_pos x (by omega)
  have h4 : wrap64 (x.tmod 1000 + 1000) = x.tmod 1000 + 1000 := IntWalk.wrap64_in _ ⟨by omega, by omega⟩
  have h5 : 0 ≤ (x.tmod 1000 + 1000).tmod 1000 := Int.tmod_nonneg _ (by omega)
  have h6 : (x.tmod 1000 + 1000).tmod 1000 < 1000 := Int.tmod_lt_of_pos _ (by omega)
  have h7 : (x.tmod 1000 + 1000).tmod 1000 = x % 1000 := by
    have h8 : x.tmod 1000 + 1000 * x.tdiv 1000 = x := Int.tmod_add_mul_tdiv x 1000
    rw [Int.tmod_eq_emod_of_nonneg (by omega)]
    omega
  obtain ⟨m, hm⟩ : ∃ m : Nat, (wrap64 (x.tmod 1000 + 1000)).tmod 1000 = (m : Int) := ⟨((x.tmod 1000 + 1000).tmod 1000).toNat, by rw [h4]; omega⟩
  have hm1 : m < 1000 := by rw [h4] at hm; omega
  have hm2 : (m : Int) = x % 1000 := by rw [h4] at hm; omega
  have HM2 := Lib.hid hm2
  clear h2 h3 h4 h5 h6 h7 hm2
  go_enter Try.func9, Try.ntmps9
  go_upto_region 2 with fail
  clear hm
  have e1 : (48 : Int) + (m : Int) / 100 = ((48 + m / 100 : Nat) : Int) := by omega
  have e2 : (48 : Int) + (m : Int) / 10 % 10 = ((48 + m / 10 % 10 : Nat) : Int) := by omega
  have e3 : (48 : Int) + (m : Int) % 10 = ((48 + m % 10 : Nat) : Int) := by omega
  have hlt : ∀ y ∈ digs m, y < 256 := by
    intro y hy
    simp only [digs, List.mem_cons, List.not_mem_nil, or_false] at hy
    omega
  have kcv : (convert 53 9 (.slice (some ⟨w.heap.size, 0, none⟩) 3 3)).run Try.prog (w.alloc (.cells #[.int .u8 ((48 : Int) + (m : Int) / 100), .int .u8 ((48 : Int) + (m : Int) / 10 % 10), .int .u8 ((48 : Int) + (m : Int) % 10)] 5)) = .ok (.string (nm m)) (w.alloc (.cells #[.int .u8 ((48 : Int) + (m : Int) / 100), .int .u8 ((48 : Int) + (m : Int) / 10 % 10), .int .u8 ((48 : Int) + (m : Int) % 10)] 5)) := by
    rw [e1, e2, e3]
    exact conv_bytes (some ⟨w.heap.size, 0, none⟩) (w.heap.size + 1) 3 3 (digs m) _ (fun e => by cases e) rfl (bs_lit w (digs m) hlt (0, 0))
  have hbel := (Below.refl w.heap.size w).alloc (Nat.le_refl _) (.cells #[.int .u8 ((48 : Int) + (m : Int) / 100), .int .u8 ((48 : Int) + (m : Int) / 10 % 10), .int .u8 ((48 : Int) + (m : Int) % 10)] 5)
  have HB := Lib.hid hbel
  clear e1 e2 e3 hlt hbel
  go_wp2_with fail
  go_ret
  exact ⟨m, hm1, HM2.out, rfl, HB.out⟩
theorem nm_size (m : Nat) : (nm m).size ≤ 1048576 := by
  have : (nm m).size = 3 := rfl
  omega
/-- What the sanity check wants: the key a. -/
def keyA : ByteArray := { data := #[97] }
/-- What a call on a table leaves of the rest: its blocks are S' now. -/
structure Nx (base : Nat) (S S' : Nat → Prop) (w w' : World) : Prop where
  own : ∀ k, S' k → base ≤ k ∧ k < w'.heap.size
  rest : ∀ k, k < w.heap.size → ¬ S k → ¬ S' k
  kept : Kept S w w'
  below : Below base w w'
theorem Nx.box {base : Nat} {S S' : Nat → Prop} {w w' : World} (h : Nx base S S' w w') {b : Nat} {o : Obj} (hb : w.heap[b]? = some o) (hs : ¬ S b) : w'.heap[b]? = some o ∧ ¬ S' b :=
  ⟨(h.kept.block b (Array.getElem?_eq_some_iff.1 hb).1 hs).trans hb, h.rest b (Array.getElem?_eq_some_iff.1 hb).1 hs⟩
theorem Nx.same {base : Nat} {S : Nat → Prop} {w w' : World} (hB : base ≤ w.heap.size) (hS : ∀ k, S k → base ≤ k ∧ k < w.heap.size) (hk : Kept S w w') : Nx base S S w w' :=
  ⟨fun k h => ⟨(hS k h).1, Nat.lt_of_lt_of_le (hS k h).2 hk.size⟩, fun _ _ h => h, hk, hk.below hB fun k h => (hS k h).1⟩
def TSet (M base : Nat) (S : Nat → Prop) (q : Nat) (H : ByteArray → Tb.En → Prop) (c : Nat) (k : ByteArray) (x : Tb.En) (w : World) (e : Ending) (w' : World) : Prop :=
  e = .returned (.tuple #[]) ∧ ∃ S' c' wk', Nx base S S' w w' ∧ (((∃ x, H k x) ∧ c' = c) ∨ ((∀ x, ¬ H k x) ∧ c' = c + 1)) ∧ Tab M w' S' q (fun k' e' => (k = k' ∧ x = e') ∨ (k ≠ k' ∧ H k' e')) c' wk' ∧ wk' ≤ 8
theorem Tab.work {M : Nat} {w : World} {S : Nat → Prop} {q : Nat} {H : ByteArray → Tb.En → Prop} {c wk : Nat} (h : Tab M w S q H c wk) : wk ≤ 8 := by
  obtain ⟨v, v', l, b, u, o, bo, uo, nx, h1, h2, h3, h4⟩ := h
  exact h2
theorem tset_any (M base q c wk : Nat) (k : ByteArray) (e0 e1 e2 e3 : Int) (e4 : Bool) (H : ByteArray → Tb.En → Prop) (S : Nat → Prop) (w : World) (hB : base ≤ w.heap.size) (hM : M ≤ 1048576) (hk : k.size ≤ 1048576) (hc : c < M) (hS : ∀ k, S k → base ≤ k ∧ k < w.heap.size) (hT : Tab M w S q H c wk) :
    Calls Try.prog 10 #[.pointer (some ⟨q, 0, none⟩), .string k, .agg #[.int .i64 e0, .int .i64 e1, .int .i64 e2, .int .i64 e3, .bool e4]] w (TSet M base S q H c k ⟨e0, e1, e2, e3, e4⟩ w) := by
  refine (tbset_any M q c wk k e0 e1 e2 e3 e4 H S w hM hk hc (fun k h => (hS k h).2) hT).mono ?_
  rintro e w' ⟨rfl, hk', c', wk', hc', hT'⟩
  refine ⟨rfl, fun k => S k ∨ (w.heap.size ≤ k ∧ k < w'.heap.size), c', wk', ⟨fun k h => ?_, fun k hk h h' => ?_, hk', hk'.below hB fun k h => (hS k h).1⟩, hc', hT'.to fun k hk h => ?_, hT'.work⟩
  · rcases h with h | h
    · exact ⟨(hS k h).1, Nat.lt_of_lt_of_le (hS k h).2 hk'.size⟩
    · exact ⟨Nat.le_trans hB h.1, h.2⟩
  · rcases h' with h' | h'
    · exact h h'
    · omega
  · rcases h with h | h
    · exact .inl h
    · exact .inr ⟨h, hk⟩
def TGet (M base : Nat) (S : Nat → Prop) (q : Nat) (H : ByteArray → Tb.En → Prop) (c : Nat) (k : ByteArray) (w : World) (e : Ending) (w' : World) : Prop :=
  ∃ a0 a1 a2 a3 a4 y, e = .returned (.tuple #[.agg #[.int .i64 a0, .int .i64 a1, .int .i64 a2, .int .i64 a3, .bool a4], .bool y]) ∧ ((y = true ∧ H k ⟨a0, a1, a2, a3, a4⟩) ∨ (y = false ∧ Tb.En.mk a0 a1 a2 a3 a4 = Tb.En0 ∧ ∀ x, ¬ H k x)) ∧ Nx base S S w w' ∧ ∃ wk', Tab M w' S q H c wk' ∧ wk' ≤ 8
theorem tget_any (M base q c wk : Nat) (k : ByteArray) (H : ByteArray → Tb.En → Prop) (S : Nat → Prop) (w : World) (hB : base ≤ w.heap.size) (hM : M ≤ 1048576) (hk : k.size ≤ 1048576) (hS : ∀ k, S k → base ≤ k ∧ k < w.heap.size) (hT : Tab M w S q H c wk) :
    Calls Try.prog 12 #[.pointer (some ⟨q, 0, none⟩), .string k] w (TGet M base S q H c k w) := by
  refine (tbget_any M q c wk k H S w hM hk (fun k h => (hS k h).2) hT).mono ?_
  rintro e w' ⟨hg, hk', wk', hT'⟩
  rcases hg with ⟨x, h1, rfl⟩ | ⟨h1, rfl⟩
  · exact ⟨_, _, _, _, _, true, rfl, .inl ⟨rfl, h1⟩, Nx.same hB hS hk', wk', hT', hT'.work⟩
  · exact ⟨_, _, _, _, _, false, rfl, .inr ⟨rfl, rfl, h1⟩, Nx.same hB hS hk', wk', hT', hT'.work⟩
def TDel (M base : Nat) (S : Nat → Prop) (q : Nat) (H : ByteArray → Tb.En → Prop) (c : Nat) (k : ByteArray) (w : World) (e : Ending) (w' : World) : Prop :=
  ∃ y c' wk', e = .returned (.bool y) ∧ ((y = true ∧ (∃ x, H k x) ∧ c' + 1 = c) ∨ (y = false ∧ (∀ x, ¬ H k x) ∧ c' = c)) ∧ Nx base S S w w' ∧ Tab M w' S q (fun k' e' => H k' e' ∧ k ≠ k') c' wk' ∧ wk' ≤ 8
theorem tdel_any (M base q c wk : Nat) (k : ByteArray) (H : ByteArray → Tb.En → Prop) (S : Nat → Prop) (w : World) (hB : base ≤ w.heap.size) (hM : M ≤ 1048576) (hk : k.size ≤ 1048576) (hS : ∀ k, S k → base ≤ k ∧ k < w.heap.size) (hT : Tab M w S q H c wk) :
    Calls Try.prog 14 #[.pointer (some ⟨q, 0, none⟩), .string k] w (TDel M base S q H c k w) := by
  refine (tbdelete_any M q c wk k H S w hM hk hT).mono ?_
  rintro e w' (⟨h1, rfl, hk', wk', hc, hT'⟩ | ⟨h1, rfl, hk', wk', hT'⟩)
  · exact ⟨true, c - 1, wk', rfl, .inl ⟨rfl, h1, by omega⟩, Nx.same hB hS hk', hT', hT'.work⟩
  · refine ⟨false, c, wk', rfl, .inr ⟨rfl, h1, rfl⟩, Nx.same hB hS hk', ?_, hT'.work⟩
    obtain ⟨v, v', l, b, u, o, bo, uo, nx, a1, a2, a3, a4⟩ := hT'
    refine ⟨v, v', l, b, u, o, bo, uo, nx, a1, a2, a3, fun k' e' => ⟨fun h => (a4 k' e').1 h.1, fun h => ⟨(a4 k' e').2 h, fun e2 => ?_⟩⟩⟩
    subst e2
    exact h1 e' ((a4 k e').2 h)
theorem tlen_any (M q c wk : Nat) (H : ByteArray → Tb.En → Prop) (S : Nat → Prop) (w : World) (hT : Tab M w S q H c wk) : Calls Try.prog 16 #[.pointer (some ⟨q, 0, none⟩)] w fun e w' => e = .returned (.int .i64 (c : Int)) ∧ w = w' := by
  obtain ⟨v, v', l, b, u, o, bo, uo, nx, h1, h2, h3, h4⟩ := hT
  exact (tblen_any _ _ _ _ _ _ _ _ _ _ _ _ _ _ h3).mono fun _ _ h => ⟨h.1, h.2.symm⟩
theorem twork_any (M q c wk : Nat) (H : ByteArray → Tb.En → Prop) (S : Nat → Prop) (w : World) (hT : Tab M w S q H c wk) : Calls Try.prog 21 #[.pointer (some ⟨q, 0, none⟩)] w fun e w' => e = .returned (.int .i64 (wk : Int)) ∧ w = w' := by
  obtain ⟨v, v', l, b, u, o, bo, uo, nx, h1, h2, h3, h4⟩ := hT
  exact (tbwork_any _ _ _ _ _ _ _ _ _ _ _ _ _ _ h3).mono fun _ _ h => ⟨h.1, h.2.symm⟩
theorem tplaces_any (M q c wk : Nat) (H : ByteArray → Tb.En → Prop) (S : Nat → Prop) (w : World) (hM : M ≤ 1048576) (hT : Tab M w S q H c wk) : ∃ p b : Nat, p = 2 ^ b ∧ 8 ≤ p ∧ p ≤ 1073741824 ∧ 4 * c ≤ 3 * p ∧ Calls Try.prog 20 #[.pointer (some ⟨q, 0, none⟩)] w fun e w' => e = .returned (.int .i64 (p : Int)) ∧ w = w' := by
  obtain ⟨v, v', l, b, u, o, bo, uo, nx, h1, h2, h3, h4⟩ := hT
  obtain ⟨A, rfl⟩ := h3.new.len
  have hl := h1.len
  rcases h1.quarters with ⟨rfl, hc⟩ | ⟨a1, a2, a3⟩
  · exact ⟨8, 3, rfl, Nat.le_refl _, by omega, by omega, (tbplaces_any q _ _ _ _ _ _ _ _ 8 _ _ _ _ _ _ (by simp) rfl h3).mono fun _ _ h => ⟨h.1, h.2.symm⟩⟩
  · exact ⟨l.length, b, a2, a1, by omega, a3, (tbplaces_any q _ _ _ _ _ _ _ _ l.length _ _ _ _ _ _ (by omega) (by omega) h3).mono fun _ _ h => ⟨h.1, h.2.symm⟩⟩
theorem tnew_any (M base : Nat) (w : World) (hB : base ≤ w.heap.size) : Calls Try.prog 8 #[] w fun e w' => e = .returned (.pointer (some ⟨w.heap.size, 0, none⟩)) ∧ Below w.heap.size w w' ∧ (∀ k, k = w.heap.size → base ≤ k ∧ k < w'.heap.size) ∧ Tab M w' (fun k => k = w.heap.size) w.heap.size (fun _ _ => False) 0 0 := by
  refine (tbnew_any w).mono ?_
  rintro e w' ⟨rfl, hb, hT⟩
  refine ⟨rfl, hb, fun k e => ⟨by omega, e ▸ hT.lt⟩, _, _, _, _, _, _, _, _, _, (Tb.Ok.new M).slack (Nat.zero_le _), Nat.zero_le _, hT, fun k e => ⟨False.elim, fun h => h.elim (Tb.Has.nil k e) (Tb.Has.nil k e)⟩⟩
set_option maxHeartbeats 4000000 in
theorem tbawake_any (w : World) : Calls Try.prog 17 #[] w fun e w' => e = .returned (.bool true) ∧ Below w.heap.size w w' := by
  have CN := Lib.hid (tnew_any 4 w.heap.size w (Nat.le_refl _))
  generalize hx0 : w.heap.size = x0 at *
  have HX0 := Lib.hid hx0; clear hx0
  go_enter Try.func17, Try.ntmps17
  go_wp2_with fail
  refine CN.out.mono ?_
  rintro e w1 ⟨rfl, hb1, hS1, hT1⟩
  have HB1 := Lib.hid hb1
  have HS1 := Lib.hid hS1
  have HT1 := Lib.hid hT1
  clear hb1 hT1 hS1 CN
  go_wp2_with fail
  refine (tset_any 4 x0 x0 0 0 keyA 3 0 0 0 false _ _ w1 (by have := HB1.out.size; have := HX0.out; omega) (by decide) (by decide) (by decide) HS1.out HT1.out).mono ?_
  rintro e w2 ⟨rfl, S2, c2, wk2, hn2, hc2, hT2, -⟩
  obtain rfl : c2 = 1 := by
    rcases hc2 with ⟨⟨x, h⟩, _⟩ | ⟨_, h⟩
    · exact h.elim
    · exact h
  have HB2 := Lib.hid (HB1.out.trans hn2.below)
  have HS2 := Lib.hid hn2.own
  have HT2 := Lib.hid hT2
  clear hc2 hT2 hn2 HB1 HS1 HT1
  go_wp2_with fail
  refine (tget_any 4 x0 x0 1 wk2 keyA _ S2 w2 (by have := HB2.out.size; have := HX0.out; omega) (by decide) (by decide) HS2.out HT2.out).mono ?_
  rintro e w3 ⟨a0, a1, a2, a3, a4, y, rfl, hxy, hn3, wk3, hT3, -⟩
  obtain ⟨rfl, rfl, rfl, rfl, rfl, rfl⟩ : y = true ∧ a0 = 3 ∧ a1 = 0 ∧ a2 = 0 ∧ a3 = 0 ∧ a4 = false := by
    rcases hxy with ⟨h1, h2⟩ | ⟨_, _, h2⟩
    · rcases h2 with ⟨_, h2⟩ | ⟨h2, _⟩
      · injection h2 with b0 b1 b2 b3 b4
        exact ⟨h1, b0.symm, b1.symm, b2.symm, b3.symm, b4.symm⟩
      · exact absurd rfl h2
    · exact absurd (.inl ⟨rfl, rfl⟩) (h2 ⟨3, 0, 0, 0, false⟩)
  have HB3 := Lib.hid (HB2.out.trans hn3.below)
  have HS3 := Lib.hid hn3.own
  have HT3 := Lib.hid hT3
  clear hxy hT3 hn3 HB2 HS2 HT2
  go_wp2_with fail
  have hb4 : Below w3.heap.size w3 (w3.alloc (.cells #[.int .i64 3, .int .i64 0, .int .i64 0, .int .i64 0, .bool false] 30)) := (Below.refl _ w3).alloc (Nat.le_refl _) _
  have HB4 := Lib.hid (HB3.out.trans (hb4.mono (HX0.out ▸ HB3.out.size)))
  have HS4 : Hid (∀ k, S2 k → x0 ≤ k ∧ k < (w3.alloc (.cells #[.int .i64 3, .int .i64 0, .int .i64 0, .int .i64 0, .bool false] 30)).heap.size) := fun k h => ⟨(HS3.out k h).1, Nat.lt_of_lt_of_le (HS3.out k h).2 hb4.size⟩
  have HT4 := Lib.hid (HT3.out.next hb4)
  clear hb4 HB3 HS3 HT3
  generalize w3.alloc (.cells #[.int .i64 3, .int .i64 0, .int .i64 0, .int .i64 0, .bool false] 30) = w4 at *
  refine (tlen_any 4 x0 1 wk3 _ S2 w4 HT4.out).mono ?_
  rintro e w' ⟨rfl, rfl⟩
  obtain ⟨p, b, -, hp8, hp9, -, CP⟩ := tplaces_any 4 x0 1 wk3 _ S2 w4 (by decide) HT4.out
  have hpp : decide ((8 : Int) ≤ (p : Int)) = true := decide_eq_true (by omega)
  have CP := Lib.hid CP
  go_wp2_with fail
  refine CP.out.mono ?_
  rintro e w' ⟨rfl, rfl⟩
  clear CP
  go_wp2_with fail
  refine (tdel_any 4 x0 x0 1 wk3 keyA _ S2 w4 (by have := HB4.out.size; have := HX0.out; omega) (by decide) (by decide) HS4.out HT4.out).mono ?_
  rintro e w5 ⟨y, c5, wk5, rfl, hy, hn5, hT5, -⟩
  obtain ⟨rfl, rfl⟩ : y = true ∧ c5 = 0 := by
    rcases hy with ⟨h1, _, h2⟩ | ⟨_, h2, _⟩
    · exact ⟨h1, by omega⟩
    · exact absurd (.inl ⟨rfl, rfl⟩) (h2 ⟨3, 0, 0, 0, false⟩)
  have HB5 := Lib.hid (HB4.out.trans hn5.below)
  have HS5 := Lib.hid hn5.own
  have HT5 := Lib.hid hT5
  clear hy hT5 hn5 HB4 HS4 HT4
  go_wp2_with fail
  refine (tdel_any 4 x0 x0 0 wk5 keyA _ S2 w5 (by have := HB5.out.size; have := HX0.out; omega) (by decide) (by decide) HS5.out HT5.out).mono ?_
  rintro e w6 ⟨y, c6, wk6, rfl, hy, hn6, hT6, -⟩
  obtain rfl : y = false := by
    rcases hy with ⟨_, ⟨x, h⟩, _⟩ | ⟨h2, _, _⟩
    · exact absurd rfl h.2
    · exact h2
  have HB6 := Lib.hid (HB5.out.trans hn6.below)
  clear hy hT6 hn6 HB5 HS5 HT5
  go_wp2_with fail
  go_ret
  exact ⟨rfl, HB6.out⟩
end Go.Proofs.Ytflnjippknpflaa
