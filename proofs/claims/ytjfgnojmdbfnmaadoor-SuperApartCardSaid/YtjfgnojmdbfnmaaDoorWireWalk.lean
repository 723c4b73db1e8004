/-
  The walks of package wire: what each call returns and what becomes of the reader, said of plain lists of bytes.
-/
import Derived.Test.YtjfgnojmdbfnmaaDoorWireWords
import Derived.WalkKit
import Derived.WalkSpells
import Derived.WalkLawsBesides
import Derived.Outline
import Derived.Lib.Hide
import Derived.Deep.LoopGhost
import Derived.Deep.QuietTactic
import Derived.BigQuiet
namespace Go.Proofs.YtjfgnojmdbfnmaaDoor
open Go.RowKit

theorem iswidth_yes (n : Int) (h1 : 1 ≤ n) (h8 : n ≤ 8) (w : World) :
    Calls Tryd.prog 63 #[.int .i64 n] w fun e w' => e = .returned (.bool true) ∧ w = w' := by
  go_enter Tryd.func63, Tryd.ntmps63
  go_wp2
  go_ret
  exact ⟨rfl, rfl⟩
theorem iswidth_no (n : Int) (h : n < 1 ∨ 8 < n) (w : World) :
    Calls Tryd.prog 63 #[.int .i64 n] w fun e w' => e = .returned (.bool false) ∧ w = w' := by
  rcases h with h | h
  · go_enter Tryd.func63, Tryd.ntmps63
    go_wp2
    go_ret
    exact ⟨rfl, rfl⟩
  · have h2 : 1 ≤ n := by omega
    have hd : decide (n ≤ 8) = false := by simp; omega
    go_enter Tryd.func63, Tryd.ntmps63
    go_wp2
    go_ret
    exact ⟨rfl, rfl⟩
theorem fail_any (lo g : Nat) (bad : Bool) (l : List Nat) (w : World) (hr : Hid (Rdr w lo g bad l)) :
    Calls Tryd.prog 74 #[.pointer (some ⟨g, 0, none⟩)] w fun e w' => e = .returned (.tuple #[]) ∧ Rdr w' lo g true [] ∧ w.grownBy w' (some g) := by
  obtain ⟨A, c, hh, hlo, hlc, hcm, hnone, hbs, hbad⟩ := hr.out
  obtain ⟨⟨h0, h1⟩, f0, f1⟩ := rd_cells hh
  have HH := Lib.hid hh; clear hh
  clear hlc hcm hnone
  go_enter Tryd.func74, Tryd.ntmps74
  go_wp2
  go_end0
  refine ⟨rfl, ⟨none, 0, set_two HH.out, hlo, Nat.le_refl _, by unfold maxLen; omega, fun _ => rfl, BsIn.nil, fun _ => rfl⟩, ?_⟩
  exact grown_trans' (grown_set _ _ _ _) (grown_set _ _ _ _)
theorem fail_nil (w : World) :
    Calls Tryd.prog 74 #[.pointer none] w fun e w' => e = .returned (.tuple #[]) ∧ w = w' := by
  go_enter Tryd.func74, Tryd.ntmps74
  go_wp2
  go_end0
  exact ⟨rfl, rfl⟩
theorem ok_any (lo g : Nat) (bad : Bool) (l : List Nat) (w : World) (hr : Hid (Rdr w lo g bad l)) :
    Calls Tryd.prog 61 #[.pointer (some ⟨g, 0, none⟩)] w fun e w' => e = .returned (.bool (!bad)) ∧ w = w' := by
  obtain ⟨A, c, hh, hlo, hlc, hcm, hnone, hbs, hbad⟩ := hr.out
  obtain ⟨⟨h0, h1⟩, f0, f1⟩ := rd_cells hh
  have HH := Lib.hid hh; clear hh hlc hcm hnone
  go_enter Tryd.func61, Tryd.ntmps61
  go_wp2
  go_ret
  exact ⟨rfl, rfl⟩
theorem ok_nil (w : World) :
    Calls Tryd.prog 61 #[.pointer none] w fun e w' => e = .returned (.bool false) ∧ w = w' := by
  go_enter Tryd.func61, Tryd.ntmps61
  go_wp2
  go_ret
  exact ⟨rfl, rfl⟩
theorem rest_any (lo g : Nat) (bad : Bool) (l : List Nat) (w : World) (hr : Hid (Rdr w lo g bad l)) :
    Calls Tryd.prog 60 #[.pointer (some ⟨g, 0, none⟩)] w fun e w' => e = .returned (.int .i64 (l.length : Int)) ∧ w = w' := by
  obtain ⟨A, c, hh, hlo, hlc, hcm, hnone, hbs, hbad⟩ := hr.out
  obtain ⟨⟨h0, h1⟩, f0, f1⟩ := rd_cells hh
  have HH := Lib.hid hh; clear hh hlc hcm hnone
  go_enter Tryd.func60, Tryd.ntmps60
  go_wp2
  go_ret
  exact ⟨rfl, rfl⟩
theorem rest_nil (w : World) :
    Calls Tryd.prog 60 #[.pointer none] w fun e w' => e = .returned (.int .i64 0) ∧ w = w' := by
  go_enter Tryd.func60, Tryd.ntmps60
  go_wp2
  go_ret
  exact ⟨rfl, rfl⟩

/-- What 'take' leaves when it takes n bytes. -/
def Took (w : World) (lo g : Nat) (l : List Nat) (n : Nat) (e : Ending) (w' : World) : Prop :=
  ∃ (A : Option Addr) (c : Nat), e = .returned (.slice A n c) ∧ n ≤ c ∧ c ≤ maxLen ∧ (A = none → c = 0 ∧ n = 0) ∧ BsIn w' lo g A (l.take n) ∧ Rdr w' lo g false (l.drop n) ∧ w.grownBy w' (some g)
theorem take_ok (lo g : Nat) (l : List Nat) (ni : Int) (n : Nat) (hni : ni = (n : Int)) (hn : n ≤ l.length) (w : World) (hr : Hid (Rdr w lo g false l)) :
    Calls Tryd.prog 75 #[.pointer (some ⟨g, 0, none⟩), .int .i64 ni] w (Took w lo g l n) := by
  subst hni
  obtain ⟨A, c, hh, hlo, hlc, hcm, hnone, hbs, hbad⟩ := hr.out
  obtain ⟨⟨h0, h1⟩, f0, f1⟩ := rd_cells hh
  have HH := Lib.hid hh; clear hh
  unfold maxLen at hcm
  have hg1 := grown_set w g 0 (.slice (if c = n then A else A.map (·.add n)) (l.length - n) (c - n))
  have hset := set_one (u := .slice (if c = n then A else A.map (·.add n)) (l.length - n) (c - n)) HH.out
  have hkeep : ∀ b, lo ≤ b → b < g → (w.setCell ⟨g, 0, none⟩ (.slice (if c = n then A else A.map (·.add n)) (l.length - n) (c - n))).heap[b]? = w.heap[b]? := fun b _ hb => Below.heap_setCell _ _ _ _ (by simp; omega)
  have hfin : ∃ A' c', (Ending.returned (.slice A n c) = Ending.returned (.slice A' n c')) ∧ n ≤ c' ∧ c' ≤ maxLen ∧ (A' = none → c' = 0 ∧ n = 0) ∧ BsIn (w.setCell ⟨g, 0, none⟩ (.slice (if c = n then A else A.map (·.add n)) (l.length - n) (c - n))) lo g A' (l.take n) ∧
      Rdr (w.setCell ⟨g, 0, none⟩ (.slice (if c = n then A else A.map (·.add n)) (l.length - n) (c - n))) lo g false (l.drop n) ∧ w.grownBy (w.setCell ⟨g, 0, none⟩ (.slice (if c = n then A else A.map (·.add n)) (l.length - n) (c - n))) (some g) := by
    refine ⟨A, c, rfl, by omega, by unfold maxLen; omega, fun e => ⟨hnone e, by have := hnone e; omega⟩, (hbs.take n).keep hkeep, ⟨if c = n then A else A.map (·.add n), c - n, ?_, hlo, ?_, ?_, ?_, (hbs.drop' n c hlc).keep hkeep, fun h => by cases h⟩, hg1⟩
    · rw [hset, List.length_drop]
    · rw [List.length_drop]; omega
    · unfold maxLen; omega
    · intro e
      by_cases h : c = n
      · omega
      · rw [if_neg h] at e
        have : A = none := by cases A; rfl; cases e
        have := hnone this
        omega
  have HF := Lib.hid hfin; clear hfin hset hg1 hkeep
  by_cases hc : c = n
  · subst hc
    go_enter Tryd.func75, Tryd.ntmps75
    go_wp2_with (go_at_call 61; refine (ok_any lo g false l _ hr).mono ?_; rintro e w' ⟨rfl, rfl⟩)
    go_ret
    have h := HF.out
    rw [if_pos trivial, Nat.sub_self, show l.length - c = 0 by omega] at h
    exact h
  · go_enter Tryd.func75, Tryd.ntmps75
    go_wp2_with (go_at_call 61; refine (ok_any lo g false l _ hr).mono ?_; rintro e w' ⟨rfl, rfl⟩)
    go_ret
    have h := HF.out
    rw [if_neg hc] at h
    exact h
/-- What a read that failed leaves. -/
def Gone (w : World) (lo g : Nat) (v : Value) (e : Ending) (w' : World) : Prop :=
  e = .returned v ∧ Rdr w' lo g true [] ∧ w.grownBy w' (some g)
theorem take_bad (lo g : Nat) (l : List Nat) (n : Int) (w : World) (hr : Hid (Rdr w lo g true l)) :
    Calls Tryd.prog 75 #[.pointer (some ⟨g, 0, none⟩), .int .i64 n] w (Gone w lo g (.slice none 0 0)) := by
  go_enter Tryd.func75, Tryd.ntmps75
  go_wp2_with (first | (go_at_call 61; refine (ok_any lo g true l _ hr).mono ?_; rintro e w' ⟨rfl, rfl⟩) | (go_at_call 74; refine (fail_any lo g true l _ hr).mono ?_; rintro e w' ⟨rfl, h1, h2⟩))
  go_ret
  exact ⟨rfl, h1, h2⟩
theorem take_out (lo g : Nat) (l : List Nat) (n : Int) (hn : n < 0 ∨ (l.length : Int) < n) (w : World) (hr : Hid (Rdr w lo g false l)) :
    Calls Tryd.prog 75 #[.pointer (some ⟨g, 0, none⟩), .int .i64 n] w (Gone w lo g (.slice none 0 0)) := by
  obtain ⟨A, c, hh, hlo, hlc, hcm, hnone, hbs, hbad⟩ := hr.out
  obtain ⟨⟨h0, h1⟩, f0, f1⟩ := rd_cells hh
  clear hh hbad hbs hlc hcm hnone
  rcases hn with hn | hn
  · go_enter Tryd.func75, Tryd.ntmps75
    go_wp2_with (first | (go_at_call 61; refine (ok_any lo g false l _ hr).mono ?_; rintro e w' ⟨rfl, rfl⟩) | (go_at_call 74; refine (fail_any lo g false l _ hr).mono ?_; rintro e w' ⟨rfl, h3, h2⟩))
    go_ret
    exact ⟨rfl, h3, h2⟩
  · have hz : 0 ≤ n := by omega
    have hd : decide (n < 0) = false := by simp; omega
    have hd2 : decide ((l.length : Int) < n) = true := by simpa using hn
    go_enter Tryd.func75, Tryd.ntmps75
    go_wp2_with (first | (go_at_call 61; refine (ok_any lo g false l _ hr).mono ?_; rintro e w' ⟨rfl, rfl⟩) | (go_at_call 74; refine (fail_any lo g false l _ hr).mono ?_; rintro e w' ⟨rfl, h3, h2⟩))
    go_ret
    exact ⟨rfl, h3, h2⟩
theorem take_nil (n : Int) (w : World) :
    Calls Tryd.prog 75 #[.pointer none, .int .i64 n] w fun e w' => e = .returned (.slice none 0 0) ∧ w = w' := by
  go_enter Tryd.func75, Tryd.ntmps75
  go_wp2_with (first | (go_at_call 61; refine (ok_nil _).mono ?_; rintro e w' ⟨rfl, rfl⟩) | (go_at_call 74; refine (fail_nil _).mono ?_; rintro e w' ⟨rfl, rfl⟩))
  go_ret
  exact ⟨rfl, rfl⟩
theorem info_u8 : (Tryd.prog.info? 5).map (fun i => (i.zero, i.size, i.bytes)) = some (some (.int .u8 0), 1, 1) := by kernel_rfl
/-- What 'bytes.Clone' leaves: a row of its own with the same bytes, or nil where nil came in. -/
def Cloned (w : World) (n : Nat) (l : List Nat) (e : Ending) (w' : World) : Prop :=
  ∃ v, e = .returned v ∧ w'.ownsRow w.heap.size 5 1 v n (vals l) ∧ Below w.heap.size w w'
theorem clone_any (A : Option Addr) (B n c : Nat) (l : List Nat) (w : World) (hA : A = none → c = 0 ∧ n = 0) (hl : Hid (l.length = n)) (hn : n ≤ 140737488355328) (hb : Hid (Bs w B A l)) :
    Calls Tryd.prog 55 #[.slice A n c] w (Cloned w n l) := by
  obtain ⟨i0, hi0, hz0, hz1, hz2⟩ := info_parts info_u8
  have I0 := Lib.hid (And.intro hi0 (And.intro hz0 (And.intro hz1 hz2))); clear hi0 hz0 hz1 hz2
  cases A with
  | none =>
    obtain ⟨rfl, rfl⟩ := hA rfl
    have q := fun (w : World) => Lib.run_eql_slice_nil (P := Tryd.prog) w 26 5 none 0 0 0 0 Tryd.underlying26
    go_enter Tryd.func55, Tryd.ntmps55
    go_wp2
    go_ret
    have hnil : l = [] := List.eq_nil_of_length_eq_zero hl.out
    subst hnil
    exact ⟨_, rfl, World.ownsRow_nil _ _ _ _, Below.refl _ _⟩
  | some ad =>
    clear hA
    have hN : Hid (0 + n ≤ maxLen ∧ (0 + n) * 1 ≤ 140737488355328 ∧ (vals l).length = n * 1) := ⟨by unfold maxLen; omega, by omega, by rw [vals_length, hl.out]; omega⟩
    have q := fun (w : World) => Lib.run_eql_slice_nil (P := Tryd.prog) w 26 5 (some ad) n c 0 0 Tryd.underlying26
    have HO := Lib.hid (World.ownsRow_made (base := w.heap.size) (e := 5) (size := 1) w #[] 0 (Nat.le_refl _) (by unfold maxLen; omega) rfl)
    have HB : Hid (Below w.heap.size w (w.alloc (.cells #[] 5))) := (Below.refl _ w).alloc (Nat.le_refl _) _
    have HC : Hid (∀ (j : Nat) (u : Value), (vals l)[j]? = some u → (w.alloc (.cells #[] 5)).cell? (ad.add j) = some u) := by
      have h1 : Bs w w.heap.size (some ad) l := fun k hk => by
        obtain ⟨a1, ad', e, _, h⟩ := hb.out k hk
        refine ⟨a1, ad', e, ?_, h⟩
        have := World.block_lt_of_cell? w _ h
        rwa [add_block] at this
      exact (h1.below HB.out (Nat.le_refl _)).cells
    go_enter Tryd.func55, Tryd.ntmps55
    go_wp2_with (at_builtin; refine append_onto rfl (.tmp 5) (.tmp 6) 26 rfl w.heap.size 5 i0 (.int .u8 0) 1 1 Tryd.underlying26 I0.out.1 I0.out.2.1 I0.out.2.2.1 I0.out.2.2.2 rfl (by decide) _ 0 [] rfl HO.out (some ad) n c (vals l) rfl (fun h => by cases h) hN.out.2.2 (fun ad' e => by injection e with e; subst e; exact HC.out) (vals_one l) hN.out.1 hN.out.2.1 HB.out.size ?_; intro v1 w1 hown1 hg1)
    go_ret
    refine ⟨_, rfl, ?_, HB.out.grown hg1 HB.out.size (fun k hk => Nat.le_of_eq (Option.some.inj hk))⟩
    simpa using hown1
/-- What 'NewReader' leaves: a reader of the same bytes, in blocks of its own. -/
def NewRd (w : World) (l : List Nat) (e : Ending) (w' : World) : Prop :=
  ∃ g, e = .returned (.pointer (some ⟨g, 0, none⟩)) ∧ Rdr w' w.heap.size g false l ∧ Below w.heap.size w w'
theorem newreader_any (A : Option Addr) (B n c : Nat) (l : List Nat) (w : World) (hA : A = none → c = 0 ∧ n = 0) (hl : Hid (l.length = n)) (hn : n ≤ 140737488355328) (hb : Hid (Bs w B A l)) :
    Calls Tryd.prog 56 #[.slice A n c] w (NewRd w l) := by
  go_enter Tryd.func56, Tryd.ntmps56
  go_wp2_with fail
  refine (clone_any A B n c l w hA hl hn hb).mono ?_
  rintro e w1 ⟨v, rfl, hown, hb1⟩
  obtain ⟨A1, c1, rfl, hbs, hlen, hnc, hcm, hA1⟩ := own_bytes hown hb.out.lt
  have HL : Hid (l.length = n) := hlen
  clear hlen
  go_wp2
  go_ret
  refine ⟨_, rfl, ⟨A1, c1, ?_, hb1.size, by rw [HL.out]; exact hnc, hcm, ?_, ?_, fun h => by cases h⟩, hb1.alloc hb1.size _⟩
  · rw [HL.out]; exact heap_alloc_new w1 _
  · intro e
    rcases hA1 with ⟨_, _, h⟩ | ⟨g, h, _⟩
    · exact h
    · rw [h] at e; cases e
  · intro k hk
    obtain ⟨a1, ad, rfl, a3, a4⟩ := hbs k hk
    refine ⟨a1, ad, rfl, ?_, a3, ?_⟩
    · rcases hA1 with ⟨h, _⟩ | ⟨g, h, h2, _⟩
      · cases h
      · injection h with h; subst h; exact h2
    · exact (Below.cell ((Below.refl w1.heap.size w1).alloc (Nat.le_refl _) _) (by rw [add_block]; exact a3)).trans a4
/-- What a number that was read leaves. -/
def GotNum (w : World) (lo g : Nat) (l : List Nat) (n : Nat) (e : Ending) (w' : World) : Prop :=
  e = .returned (.int .u64 (Wire.num (l.take n) : Int)) ∧ Rdr w' lo g false (l.drop n) ∧ w.grownBy w' (some g)
theorem num_ok (lo g : Nat) (l : List Nat) (ni : Int) (n : Nat) (hni : ni = (n : Int)) (h1 : 1 ≤ n) (h8 : n ≤ 8) (hn : n ≤ l.length) (w : World) (hr : Hid (Rdr w lo g false l)) :
    Calls Tryd.prog 58 #[.pointer (some ⟨g, 0, none⟩), .int .i64 ni] w (GotNum w lo g l n) := by
  subst hni
  go_enter Tryd.func58, Tryd.ntmps58
  go_wp2_with fail
  refine (iswidth_yes n (by omega) (by omega) _).mono ?_
  rintro e w' ⟨rfl, rfl⟩
  go_wp2_with fail
  refine (take_ok lo g l _ n rfl hn _ hr).mono ?_
  rintro e w1 ⟨A, c, rfl, hnc, hcm, _, hbs, hr1, hg1⟩
  unfold maxLen at hcm
  have HL : Hid ((l.take n).length = n) := by unfold Hid; rw [List.length_take]; omega
  go_wp2
  go_loop [5, 7, 17] (fun nv xv iv => ∃ k : Nat, k ≤ n ∧ iv = .int .i64 k ∧ nv = .int .u64 (Wire.num ((l.take n).take k) : Int)) (fun _ _ i => n - (intOf i).toNat)
  case atStart => exact ⟨0, Nat.zero_le _, rfl, rfl⟩
  case round =>
    obtain ⟨k, hk, rfl, rfl⟩ := hrel
    by_cases hlt : k < n
    · obtain ⟨hx, ad, rfl, _, _, hc⟩ := hbs k (by rw [HL.out]; exact hlt)
      generalize hX : (l.take n).getD k 0 = x at hx hc
      have HX := Lib.hid hX; clear hX
      have hp := Wire.num_lt ((l.take n).take k) (fun y hy => hbs.bs.lt y (List.mem_of_mem_take hy))
      have hp7 : Wire.num ((l.take n).take k) < 72057594037927936 := by
        have h7 := Wire.pow_le7 ((l.take n).take k).length (by rw [List.length_take, HL.out]; omega)
        omega
      clear hp
      have hsn : Wire.num ((l.take n).take (k + 1)) = Wire.num ((l.take n).take k) * 256 + x := by
        rw [take_next _ k x (by rw [HL.out]; exact hlt) HX.out, Wire.num_snoc]
      have HS := Lib.hid hsn; clear hsn
      generalize Wire.num ((l.take n).take k) = p at hp7 HS
      have e1 := Wire.or_byte p x hp7 hx
      go_wp2
      go_round
      case rel => exact ⟨k + 1, by omega, by go_num, congrArg (Value.int IntKind.u64) (by rw [HS.out]; omega)⟩
      case measure => simp [intOf]; omega
    · go_wp2
      go_ret
      refine ⟨ret_int ?_, hr1, hg1⟩
      rw [List.take_of_length_le (by rw [HL.out]; omega)]
theorem num_gone (lo g : Nat) (bad : Bool) (l : List Nat) (n : Int) (h : bad = true ∨ n < 1 ∨ 8 < n ∨ (l.length : Int) < n) (w : World) (hr : Hid (Rdr w lo g bad l)) :
    Calls Tryd.prog 58 #[.pointer (some ⟨g, 0, none⟩), .int .i64 n] w (Gone w lo g (.int .u64 0)) := by
  by_cases hw : n < 1 ∨ 8 < n
  · go_enter Tryd.func58, Tryd.ntmps58
    go_wp2_with fail
    refine (iswidth_no n hw _).mono ?_
    rintro e w' ⟨rfl, rfl⟩
    go_wp2_with fail
    refine (fail_any lo g bad l _ hr).mono ?_
    rintro e w' ⟨rfl, h3, h2⟩
    go_wp2
    go_ret
    exact ⟨rfl, h3, h2⟩
  · have ht : Calls Tryd.prog 75 #[.pointer (some ⟨g, 0, none⟩), .int .i64 n] w (Gone w lo g (.slice none 0 0)) := by
      cases bad with
      | true => exact take_bad lo g l n w hr
      | false => exact take_out lo g l n (by rcases h with h | h | h | h <;> first | omega | cases h) w hr
    have HT := Lib.hid ht; clear ht h
    go_enter Tryd.func58, Tryd.ntmps58
    go_wp2_with fail
    refine (iswidth_yes n (by omega) (by omega) _).mono ?_
    rintro e w' ⟨rfl, rfl⟩
    go_wp2_with fail
    refine HT.out.mono ?_
    rintro e w' ⟨rfl, h3, h2⟩
    go_wp2
    go_loop [5, 7, 17] (fun nv xv iv => iv = .int .i64 0 ∧ nv = .int .u64 0) (fun _ _ i => 0 - (intOf i).toNat)
    case atStart => exact ⟨rfl, rfl⟩
    case round =>
      obtain ⟨rfl, rfl⟩ := hrel
      go_wp2
      go_ret
      exact ⟨rfl, h3, h2⟩
theorem num_nil (n : Int) (w : World) :
    Calls Tryd.prog 58 #[.pointer none, .int .i64 n] w fun e w' => e = .returned (.int .u64 0) ∧ w = w' := by
  by_cases hw : n < 1 ∨ 8 < n
  · go_enter Tryd.func58, Tryd.ntmps58
    go_wp2_with fail
    refine (iswidth_no n hw _).mono ?_
    rintro e w' ⟨rfl, rfl⟩
    go_wp2_with fail
    refine (fail_nil _).mono ?_
    rintro e w' ⟨rfl, rfl⟩
    go_wp2
    go_ret
    exact ⟨rfl, rfl⟩
  · go_enter Tryd.func58, Tryd.ntmps58
    go_wp2_with fail
    refine (iswidth_yes n (by omega) (by omega) _).mono ?_
    rintro e w' ⟨rfl, rfl⟩
    go_wp2_with fail
    refine (take_nil n _).mono ?_
    rintro e w' ⟨rfl, rfl⟩
    go_wp2
    go_loop [5, 7, 17] (fun nv xv iv => iv = .int .i64 0 ∧ nv = .int .u64 0) (fun _ _ i => 0 - (intOf i).toNat)
    case atStart => exact ⟨rfl, rfl⟩
    case round =>
      obtain ⟨rfl, rfl⟩ := hrel
      go_wp2
      go_ret
      exact ⟨rfl, rfl⟩
/-- What bytes that were read leave. -/
def GotBytes (w : World) (lo g : Nat) (bad : Bool) (l : List Nat) (n : Nat) (x : List Nat) (e : Ending) (w' : World) : Prop :=
  ∃ v, e = .returned v ∧ w'.ownsRow w.heap.size 5 1 v n (vals x) ∧ Rdr w' lo g bad l ∧ w.grownBy w' (some g)
theorem ownsRow_mono {w : World} {b b' : Nat} {e : TypeId} {size : Nat} {v : Value} {n : Nat} {xs : List Value} (h : w.ownsRow b e size v n xs) (hb : b' ≤ b) : w.ownsRow b' e size v n xs := by
  refine ⟨h.1, ?_⟩
  rcases h.2 with h | ⟨g, cap, cur, h1, h2, h3⟩
  · exact .inl h
  · exact .inr ⟨g, cap, cur, h1, by omega, h3⟩
theorem grown_then {a b c : World} {row : Option Nat} (h : a.grownBy b row) (k : Below b.heap.size b c) : a.grownBy c row := grown_trans' h (grown_of_below k row)
theorem take_gone (lo g : Nat) (bad : Bool) (l : List Nat) (n : Int) (h : bad = true ∨ n < 0 ∨ (l.length : Int) < n) (w : World) (hr : Hid (Rdr w lo g bad l)) :
    Calls Tryd.prog 75 #[.pointer (some ⟨g, 0, none⟩), .int .i64 n] w (Gone w lo g (.slice none 0 0)) := by
  cases bad with
  | true => exact take_bad lo g l n w hr
  | false => exact take_out lo g l n (by rcases h with h | h | h <;> first | omega | cases h) w hr
/-- What 'Zeros' leaves. -/
def Zeroed (w : World) (lo g : Nat) (l : List Nat) (n : Nat) (e : Ending) (w' : World) : Prop :=
  e = .returned (.tuple #[]) ∧ Rdr w' lo g (!(l.take n).all (· == 0)) (if (l.take n).all (· == 0) = true then l.drop n else []) ∧ w.grownBy w' (some g)
theorem zeros_ok (lo g : Nat) (l : List Nat) (ni : Int) (n : Nat) (hni : ni = (n : Int)) (hn : n ≤ l.length) (w : World) (hr : Hid (Rdr w lo g false l)) :
    Calls Tryd.prog 59 #[.pointer (some ⟨g, 0, none⟩), .int .i64 ni] w (Zeroed w lo g l n) := by
  subst hni
  go_enter Tryd.func59, Tryd.ntmps59
  go_wp2_with fail
  refine (take_ok lo g l _ n rfl hn _ hr).mono ?_
  rintro e w1 ⟨A, c, rfl, hnc, hcm, _, hbs, hr1, hg1⟩
  unfold maxLen at hcm
  have HL : Hid ((l.take n).length = n) := by unfold Hid; rw [List.length_take]; omega
  go_wp2
  go_loop [5, 10] (fun xv iv => ∃ k : Nat, k ≤ n ∧ iv = .int .i64 k ∧ Hid (∀ j, j < k → (l.take n).getD j 0 = 0)) (fun _ i => n - (intOf i).toNat)
  case atStart => exact ⟨0, Nat.zero_le _, rfl, fun j hj => absurd hj (by omega)⟩
  case round =>
    obtain ⟨k, hk, rfl, hz⟩ := hrel
    by_cases hlt : k < n
    · obtain ⟨hx, ad, rfl, _, _, hc⟩ := hbs k (by rw [HL.out]; exact hlt)
      generalize hX : (l.take n).getD k 0 = x at hx hc
      have HX := Lib.hid hX; clear hX
      by_cases h0 : x = 0
      · subst h0
        go_wp2
        go_round
        case rel =>
          refine ⟨k + 1, by omega, by go_num, fun j hj => ?_⟩
          rcases Nat.lt_or_ge j k with h | h
          · exact hz.out j h
          · obtain rfl : j = k := by omega
            exact HX.out
        case measure => simp [intOf]; omega
      · have h1 : ((x : Int) != 0) = true := by rw [bne_iff_ne]; omega
        have HR := Lib.hid hr1
        go_wp2_with fail
        refine (fail_any lo g false (l.drop n) _ HR).mono ?_
        rintro e w2 ⟨rfl, h3, h2⟩
        go_wp2
        go_end0
        have hf : (l.take n).all (· == 0) = false := by
          rw [Bool.eq_false_iff]
          intro e
          rw [List.all_eq_true] at e
          have h4 := e x (by rw [← HX.out, List.getD_eq_getElem?_getD, List.getElem?_eq_getElem (by rw [HL.out]; exact hlt)]; exact List.getElem_mem _)
          simp at h4
          exact h0 h4
        refine ⟨rfl, ?_, grown_trans' hg1 h2⟩
        rw [hf]
        exact h3
    · go_wp2
      go_end0
      have ht : (l.take n).all (· == 0) = true := by
        rw [List.all_eq_true]
        intro y hy
        obtain ⟨j, hj, rfl⟩ := List.getElem_of_mem hy
        have h4 := hz.out j (by rw [HL.out] at hj; omega)
        rw [List.getD_eq_getElem?_getD, List.getElem?_eq_getElem hj] at h4
        simpa using h4
      refine ⟨rfl, ?_, hg1⟩
      rw [ht]
      exact hr1
theorem zeros_gone (lo g : Nat) (bad : Bool) (l : List Nat) (n : Int) (h : bad = true ∨ n < 0 ∨ (l.length : Int) < n) (w : World) (hr : Hid (Rdr w lo g bad l)) :
    Calls Tryd.prog 59 #[.pointer (some ⟨g, 0, none⟩), .int .i64 n] w (Gone w lo g (.tuple #[])) := by
  have HT := Lib.hid (take_gone lo g bad l n h w hr)
  clear h
  go_enter Tryd.func59, Tryd.ntmps59
  go_wp2_with fail
  refine HT.out.mono ?_
  rintro e w' ⟨rfl, h3, h2⟩
  go_wp2
  go_loop [5, 10] (fun xv iv => iv = .int .i64 0) (fun _ i => 0 - (intOf i).toNat)
  case atStart => exact rfl
  case round =>
    subst hrel
    go_wp2
    go_end0
    exact ⟨rfl, h3, h2⟩
theorem zeros_nil (n : Int) (w : World) :
    Calls Tryd.prog 59 #[.pointer none, .int .i64 n] w fun e w' => e = .returned (.tuple #[]) ∧ w = w' := by
  go_enter Tryd.func59, Tryd.ntmps59
  go_wp2_with fail
  refine (take_nil n _).mono ?_
  rintro e w' ⟨rfl, rfl⟩
  go_wp2
  go_loop [5, 10] (fun xv iv => iv = .int .i64 0) (fun _ i => 0 - (intOf i).toNat)
  case atStart => exact rfl
  case round =>
    subst hrel
    go_wp2
    go_end0
    exact ⟨rfl, rfl⟩
end Go.Proofs.YtjfgnojmdbfnmaaDoor
