/-
  The walks of package flashdev: a sector's bytes, Read, Barrier.
-/
import Derived.Test.YtfacinlpkblopaaFlashOps
namespace Go.Proofs.Ytfacinlpkblopaa
open Go.RowKit Go.Maps
section
variable {g c m n : Nat} {s : Flash} {w : World}
/-- A sector's bytes, in the device's own memory. -/
def GaveSector (w : World) (c i : Nat) (e : Ending) (w' : World) : Prop :=
  ∃ cap : Nat, e = .returned (.slice (some ⟨c, i * 64, none⟩) 64 cap) ∧ 64 ≤ cap ∧ cap ≤ 9223372036854775807 ∧ w = w'
theorem sector_any (i : Nat) (ii : Int) (hii : ii = (i : Int)) (hi : i < n) (hd : Hid (Dev w g c m n s)) :
    Calls Try.prog 35 #[.pointer (some ⟨g, 0, none⟩), .int .i64 ii] w (GaveSector w c i) := by
  subst hii
  obtain ⟨rest, D, hh, hc, hm, ho, hl, hb, hn1, hn2, hcap, hgc, hfu⟩ := hd.out
  obtain ⟨⟨c0, c1, c2, c3, c4, c5⟩, _⟩ := rd6 hh
  have H := Lib.hid (And.intro hh (And.intro hc (And.intro hl hm))); clear hh hc hl hm c1 c2 c3 c4 c5
  have hcn : ¬ (n * 64 + rest.length = i * 64) := by omega
  go_enter Try.func35, Try.ntmps35
  go_wp2
  go_ret
  refine ⟨n * 64 + rest.length - i * 64, ?_, by omega, by omega, rfl⟩
  exact congrArg (fun k => Ending.returned (.slice (some ⟨c, i * 64, none⟩) k (n * 64 + rest.length - i * 64))) (by omega)
/-- The bytes of a sector. -/
def sec (l : List Nat) (i : Nat) : List Nat := (l.drop (i * 64)).take 64
theorem sec_len {l : List Nat} {n i : Nat} (hl : l.length = n * 64) (hi : i < n) : (sec l i).length = 64 := by
  unfold sec; rw [List.length_take, List.length_drop]; omega
theorem sec_get {l : List Nat} {i k : Nat} (hk : k < 64) : (sec l i).getD k 0 = l.getD (i * 64 + k) 0 := by
  unfold sec
  rw [List.getD_eq_getElem?_getD, List.getD_eq_getElem?_getD, List.getElem?_take_of_lt hk, List.getElem?_drop]
theorem add_flat (c o k : Nat) : (⟨c, o, none⟩ : Addr).add k = ⟨c, o + k, none⟩ := by unfold Addr.add; split <;> simp_all
theorem Dev.sec (h : Dev w g c m n s) {i : Nat} (hi : i < n) : Bs w w.heap.size (some ⟨c, i * 64, none⟩) (sec s.cur i) := by
  intro k hk
  rw [sec_len h.cur_len hi] at hk
  obtain ⟨h1, ad, e, h3, h4⟩ := h.bytes (i * 64 + k) (by rw [h.cur_len]; omega)
  injection e with e
  subst e
  rw [sec_get hk]
  refine ⟨h1, _, rfl, h3, ?_⟩
  rw [add_flat, Nat.zero_add] at h4
  rw [add_flat]
  exact h4
/-- What a Read leaves that returns a sector's bytes. -/
def ReadOk (w : World) (l : List Nat) (e : Ending) (w' : World) : Prop :=
  ∃ (g cap : Nat), e = .returned (.tuple #[.slice (some ⟨g, 0, none⟩) 64 cap, .int .i64 0]) ∧ w.heap.size ≤ g ∧ l.length = 64 ∧ Bs w' w'.heap.size (some ⟨g, 0, none⟩) l ∧ 64 ≤ cap ∧ cap ≤ maxLen ∧ Below w.heap.size w w'
theorem read_ok (i : Nat) (ii : Int) (hii : ii = (i : Int)) (hi : i < n) (hd : Hid (Dev w g c m n s)) (hdead : Hid (s.dead = false)) :
    Calls Try.prog 13 #[.pointer (some ⟨g, 0, none⟩), .int .i64 ii] w (ReadOk w (sec s.cur i)) := by
  subst hii
  have HL : Hid ((sec s.cur i).length = 64) := sec_len hd.out.cur_len hi
  have HS : Hid (Bs w w.heap.size (some ⟨c, i * 64, none⟩) (sec s.cur i)) := hd.out.sec hi
  have hz : decide (0 ≤ (i : Int) ∧ (i : Int) < (n : Int)) = true := by simp; omega
  go_enter Try.func13, Try.ntmps13
  go_wp2_with (first
    | (go_at_call 25; refine (dead_any hd).mono ?_; rw [hdead.out]; rintro e w' ⟨rfl, rfl⟩)
    | (go_at_call 33; refine (has_any _ hd).mono ?_; rw [hz]; rintro e w' ⟨rfl, rfl⟩)
    | (go_at_call 35; refine (sector_any i _ rfl hi hd).mono ?_; rintro e w' ⟨cap, rfl, hc1, hc2, rfl⟩)
    | (go_at_call 37; refine (clone_any _ _ _ _ _ _ (fun e => by cases e) HL (by omega) HS).mono ?_; rintro e w' ⟨v, rfl, hown, hbl⟩))
  obtain ⟨A1, cap1, rfl, hbs, hlen, hnc, hcm, hA1⟩ := own_bytes hown HS.out.lt
  go_ret2
  rcases hA1 with ⟨_, h0, _⟩ | ⟨g1, rfl, hg1, hg2⟩
  · omega
  · exact ⟨g1, cap1, rfl, hg1, HL.out, hbs, hnc, hcm, hbl⟩
/-- What a Read leaves that fails. -/
def ReadNo (w : World) (k : Int) (e : Ending) (w' : World) : Prop := e = .returned (.tuple #[.slice none 0 0, .int .i64 k]) ∧ w = w'
theorem read_dead (i : Int) (hd : Hid (Dev w g c m n s)) (hdead : Hid (s.dead = true)) :
    Calls Try.prog 13 #[.pointer (some ⟨g, 0, none⟩), .int .i64 i] w (ReadNo w 1) := by
  go_enter Try.func13, Try.ntmps13
  go_wp2_with (go_at_call 25; refine (dead_any hd).mono ?_; rw [hdead.out]; rintro e w' ⟨rfl, rfl⟩)
  go_ret2
  exact ⟨rfl, rfl⟩
theorem read_range (i : Int) (hi : i < 0 ∨ (n : Int) ≤ i) (hd : Hid (Dev w g c m n s)) (hdead : Hid (s.dead = false)) :
    Calls Try.prog 13 #[.pointer (some ⟨g, 0, none⟩), .int .i64 i] w (ReadNo w 2) := by
  have hz : decide (0 ≤ i ∧ i < (n : Int)) = false := by simp; omega
  clear hi
  go_enter Try.func13, Try.ntmps13
  go_wp2_with (first
    | (go_at_call 25; refine (dead_any hd).mono ?_; rw [hdead.out]; rintro e w' ⟨rfl, rfl⟩)
    | (go_at_call 33; refine (has_any _ hd).mono ?_; rw [hz]; rintro e w' ⟨rfl, rfl⟩))
  go_ret2
  exact ⟨rfl, rfl⟩
theorem read_nil (i : Int) (w : World) :
    Calls Try.prog 13 #[.pointer none, .int .i64 i] w (ReadNo w 1) := by
  go_enter Try.func13, Try.ntmps13
  go_wp2_with (go_at_call 25; refine (dead_nil _).mono ?_; rintro e w' ⟨rfl, rfl⟩)
  go_ret2
  exact ⟨rfl, rfl⟩

/-! ### Barrier -/
def Flash.barrier (s : Flash) : Flash := if s.dead = true then s else if s.lasts = true then { s.burnt with old := fun _ => none } else s.burnt
def Flash.barrierErr (s : Flash) : Int := if s.dead = true then 1 else if s.lasts = true then 0 else 1
theorem burnt_cur (s : Flash) : s.burnt.cur = s.cur ∧ s.burnt.old = s.old ∧ s.burnt.wr = s.wr := by
  unfold Flash.burnt
  split
  · split <;> exact ⟨rfl, rfl, rfl⟩
  · exact ⟨rfl, rfl, rfl⟩
def BarrierDid (w : World) (g c m n : Nat) (s : Flash) (k : Int) (e : Ending) (w' : World) : Prop := e = .returned (.int .i64 k) ∧ Dev w' g c m n s ∧ Kept (fun k => k = g ∨ k = m) w w'
/-- 'clear' of the map of old sectors, at the operation. -/
theorem wpList_clear_own {H : Type} {P : Program} {ops : Array Oper} {rest : List Oper} {o : Oper} {a : Act} {w : World} {Q : Exit → Act → World → Prop} (hgd : o.guard = none) (x : Operand) (t : TypeId)
    (ho : o.op = .call { callee := .builtin .clear, args := #[x], argTypes := #[t] }) (k e : TypeId) (ht : P.underlying t = some (.map k e)) {R : Value → Option (DataW H × List MemPlace)} {b N : Nat} {D : DataW H} (hx : a.eval x = .map (some b)) (h : w.ownsMap P k R b N D)
    (hK : ∀ w', w'.ownsMap P k R b 0 (.map []) → w.grownBy w' (some b) → wpList P ops Q rest (a.put o.dst (.tuple #[])) w') : wpList P ops Q (o :: rest) a w := by
  refine wpList_plain hgd fun K hK' => ?_
  obtain ⟨w', hrun, h1, h2⟩ := run_clear_own (ty := o.type) h ht
  unfold Oper.wp
  simp [execOp, ho, resolve, invoke, builtin, hx, hrun, Result.andThen]
  exact hK' _ _ (hK w' h1 h2)
theorem barrier_any (hd : Hid (Dev w g c m n s)) :
    Calls Try.prog 16 #[.pointer (some ⟨g, 0, none⟩)] w (BarrierDid w g c m n s.barrier s.barrierErr) := by
  by_cases h0 : s.dead = true
  · have e1 : s.barrier = s := by rw [Flash.barrier, if_pos h0]
    have e2 : s.barrierErr = 1 := by rw [Flash.barrierErr, if_pos h0]
    rw [e1, e2]
    have H0 := Lib.hid h0; clear h0 e1 e2
    go_enter Try.func16, Try.ntmps16
    go_wp2_with (go_at_call 25; refine (dead_any hd).mono ?_; rw [H0.out]; rintro e w' ⟨rfl, rfl⟩)
    go_ret
    exact ⟨rfl, hd.out, Kept.refl _ _⟩
  · have h0' : s.dead = false := by simpa using h0
    by_cases h1 : s.lasts = true
    · have e1 : s.barrier = { s.burnt with old := fun _ => none } := by rw [Flash.barrier, if_neg h0, if_pos h1]
      have e2 : s.barrierErr = 0 := by rw [Flash.barrierErr, if_neg h0, if_pos h1]
      rw [e1, e2]
      have H0 := Lib.hid h0'; clear h0 h0' e1 e2
      have H1 := Lib.hid h1; clear h1
      go_enter Try.func16, Try.ntmps16
      go_wp2_with (first
        | (go_at_call 25; refine (dead_any hd).mono ?_; rw [H0.out]; rintro e w' ⟨rfl, rfl⟩)
        | (go_at_call 34; refine (burn_any hd).mono ?_; rw [H1.out]; rintro e w1 ⟨rfl, hd1, hk1⟩; have HD := Lib.hid hd1; have HK := Lib.hid hk1; obtain ⟨rest, D, hh, hc, hm, hrest⟩ := hd1; obtain ⟨⟨_, c1, _⟩, _⟩ := rd6 hh; have HM := Lib.hid (And.intro hh (And.intro hc (And.intro hm hrest))); clear hh hc hm hrest hk1)
        | (with_reducible refine wpList_clear_own rfl (.tmp 13) 55 rfl _ _ Try.underlying55 rfl HM.out.2.2.1 ?_; intro w2 hown hg2))
      go_ret
      obtain ⟨hh, hc, hm, ho, hl, hb, hn1, hn2, hcap, hgc, hfu⟩ := HM.out
      obtain ⟨a1, a2, a3⟩ := HD.out.apart
      obtain ⟨l1, l2, l3⟩ := HD.out.lt
      have K2 : Kept (fun k => k = m) w1 w2 := Kept.of_grown hg2 (fun k e => by injection e with e; exact e.symm)
      refine ⟨rfl, ⟨rest, .map [], ?_, ?_, hown, old_empty n, hl, hb, hn1, hn2, hcap, hgc, hfu⟩, (HK.out.mono fun k _ e => .inl e).trans (K2.mono fun k _ e => .inr e)⟩
      · exact (K2.block g l1 a2).trans hh
      · exact (K2.block c l2 a3).trans hc
    · have h1' : s.lasts = false := by simpa using h1
      have e1 : s.barrier = s.burnt := by rw [Flash.barrier, if_neg h0, if_neg h1]
      have e2 : s.barrierErr = 1 := by rw [Flash.barrierErr, if_neg h0, if_neg h1]
      rw [e1, e2]
      have H0 := Lib.hid h0'; clear h0 h0' e1 e2 h1
      have H1 := Lib.hid h1'; clear h1'
      go_enter Try.func16, Try.ntmps16
      go_wp2_with (first
        | (go_at_call 25; refine (dead_any hd).mono ?_; rw [H0.out]; rintro e w' ⟨rfl, rfl⟩)
        | (go_at_call 34; refine (burn_any hd).mono ?_; rw [H1.out]; rintro e w1 ⟨rfl, hd1, hk1⟩))
      go_ret
      exact ⟨rfl, hd1, hk1.mono fun k _ e => .inl e⟩
theorem barrier_nil (w : World) :
    Calls Try.prog 16 #[.pointer none] w fun e w' => e = .returned (.int .i64 1) ∧ w = w' := by
  go_enter Try.func16, Try.ntmps16
  go_wp2_with (go_at_call 25; refine (dead_nil _).mono ?_; rintro e w' ⟨rfl, rfl⟩)
  go_ret
  exact ⟨rfl, rfl⟩
end
end Go.Proofs.Ytfacinlpkblopaa
