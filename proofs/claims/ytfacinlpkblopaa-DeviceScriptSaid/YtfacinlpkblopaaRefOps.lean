/-
  The walks of the reference of layer 3: Dirty, kept, Read.
-/
import Derived.Test.YtfacinlpkblopaaRefWords
namespace Go.Proofs.Ytfacinlpkblopaa
open Go.RowKit Go.Maps
section
variable {w w' : World} {g o v t n lo : Nat} {s : Flash}
theorem count_next (k : Nat) (old : Nat → Option (List Nat)) : dirtyCount (k + 1) old = dirtyCount k old + (if (old k).isSome = true then 1 else 0) := by
  unfold dirtyCount
  rw [dirty_succ, List.length_append]
  split <;> rfl
theorem rdirty_any (hn : n ≤ 1048576) (hd : Hid (RDev w g o v t n lo s)) :
    Calls Try.prog 42 #[.pointer (some ⟨g, 0, none⟩)] w fun e w' => e = .returned (.int .i64 (dirtyCount n s.old : Int)) ∧ w = w' := by
  obtain ⟨ro, rv, left, hh, ho, hv, ht, hf, hlo1, hhi, hr⟩ := hd.out
  obtain ⟨⟨-, -, c2, -, -, -, -⟩, -⟩ := rd7 hh
  have HT := Lib.hid ht
  clear hh ho hv ht hf hr
  go_enter Try.func42, Try.ntmps42
  go_wp2
  go_loop [3, 11] (fun nv iv => ∃ k : Nat, k ≤ n ∧ iv = .int .i64 (k : Int) ∧ nv = .int .i64 (dirtyCount k s.old : Int)) (fun _ iv => n - (RowKit.intOf iv).toNat)
  case atStart => exact ⟨0, Nat.zero_le _, rfl, rfl⟩
  case round =>
    obtain ⟨k, hk, rfl, rfl⟩ := hrel
    by_cases hlt : k < n
    · obtain ⟨hc, -⟩ := HT.out.cell (j := k) (by rw [dirtL_len]; exact hlt)
      rw [dirtL_get hlt] at hc
      have hcn := Lib.hid (count_next k s.old)
      have hle := count_le k s.old
      cases hb : (s.old k).isSome with
      | true =>
        rw [hb] at hc
        have HB := Lib.hid hb; clear hb
        go_wp2
        go_round
        case rel => exact ⟨k + 1, by omega, by go_num, congrArg (Value.int IntKind.i64) (by rw [hcn.out, HB.out]; simp)⟩
        case measure => simp [RowKit.intOf]; omega
      | false =>
        rw [hb] at hc
        have HB := Lib.hid hb; clear hb
        go_wp2
        go_round
        case rel => exact ⟨k + 1, by omega, by go_num, congrArg (Value.int IntKind.i64) (by rw [hcn.out, HB.out]; simp)⟩
        case measure => simp [RowKit.intOf]; omega
    · go_wp2
      go_ret
      obtain rfl : k = n := by omega
      exact ⟨rfl, rfl⟩
end
def KeptDid (w : World) (k : Nat) (e : Ending) (w' : World) : Prop := e = .returned (.int .i64 (k : Int)) ∧ Below w.heap.size w w'
/-- No tear of the first k hits. -/
def NoHit (T : List (Int × Int)) (r k : Nat) : Prop := (T.take k).find? (tearHits r) = none
theorem noHit_next {T : List (Int × Int)} {r k : Nat} {q : Int × Int} (h : NoHit T r k) (hk : k < T.length) (ht : T.getD k (0, 0) = q) (hn : tearHits r q = false) : NoHit T r (k + 1) := by
  have e : T[k] = q := by rw [List.getD_eq_getElem?_getD, List.getElem?_eq_getElem hk] at ht; exact ht
  unfold NoHit
  rw [take_nextT T k hk, List.find?_append, h, e]
  simp [hn]
theorem hit_found {T : List (Int × Int)} {r k : Nat} {q : Int × Int} (h : NoHit T r k) (hk : k < T.length) (ht : T.getD k (0, 0) = q) (hn : tearHits r q = true) (keep : List Bool) : keptBy keep T r = q.2.toNat := by
  have e : T[k] = q := by rw [List.getD_eq_getElem?_getD, List.getElem?_eq_getElem hk] at ht; exact ht
  have e2 : T.find? (tearHits r) = some q := by
    rw [← List.take_append_drop (k + 1) T, List.find?_append, take_nextT T k hk, List.find?_append, h, e]
    simp [hn]
  unfold keptBy
  rw [e2]
set_option maxHeartbeats 1000000 in
theorem rkept_any (r : Nat) (Ak At : Option Addr) (nk ck nt ct : Nat) (keep : List Bool) (T : List (Int × Int)) (w : World)
    (hnt : nt ≤ 9223372036854775807) (hlk : Hid (keep.length = nk)) (hlt : Hid (T.length = nt)) (hbk : Hid (Bls w w.heap.size Ak keep)) (hbt : Hid (Trs w w.heap.size At T)) :
    Calls Try.prog 41 #[.int .i64 (r : Int), .slice Ak nk ck, .slice At nt ct] w (KeptDid w (keptBy keep T r)) := by
  go_enter Try.func41, Try.ntmps41
  go_wp2
  go_loopw [11] (fun iv wr => ∃ k : Nat, k ≤ nt ∧ iv = .int .i64 (k : Int) ∧ Hid (NoHit T r k) ∧ Hid (Below w.heap.size w wr)) (fun iv _ => nt - (RowKit.intOf iv).toNat)
  case atStart => exact ⟨0, Nat.zero_le _, rfl, rfl, Below.refl _ _⟩
  case round =>
    obtain ⟨k, hk, rfl, hno, hbel⟩ := hrel
    by_cases hlt2 : k < nt
    · obtain ⟨ad, rfl, hadb, hc0, hc1⟩ := hbt.out.below hbel.out (Nat.le_refl _) k (by rw [hlt.out]; omega)
      rw [next_field] at hc1
      generalize ht : T.getD k (0, 0) = q at hc0 hc1
      have HT := Lib.hid ht; clear ht
      obtain ⟨K, N⟩ := q
      have hsz := hbel.out.size
      have HAL : Hid (∀ o, Below w.heap.size w (wr.alloc o)) := fun o => hbel.out.alloc hsz o
      by_cases a1 : K = (r : Int)
      · subst a1
        by_cases a2 : 1 ≤ N
        · by_cases a3 : N < 64
          · go_wp2
            go_ret
            refine ⟨ret_int ?_, HAL.out _⟩
            rw [hit_found hno.out (by rw [hlt.out]; exact hlt2) HT.out (by simp [tearHits, a2, a3])]
            exact (Int.toNat_of_nonneg (by omega)).symm
          · have a4 : decide (N < 64) = false := by simpa using a3
            go_wp2
            go_roundw
            case rel => exact ⟨k + 1, by omega, by go_num, noHit_next hno.out (by rw [hlt.out]; exact hlt2) HT.out (by simp [tearHits]; omega), HAL.out _⟩
            case measure => simp [RowKit.intOf]; omega
        · have a4 : decide (1 ≤ N) = false := by simpa using a2
          go_wp2
          go_roundw
          case rel => exact ⟨k + 1, by omega, by go_num, noHit_next hno.out (by rw [hlt.out]; exact hlt2) HT.out (by simp [tearHits]; omega), HAL.out _⟩
          case measure => simp [RowKit.intOf]; omega
      · have a4 : (K == (r : Int)) = false := by simpa using a1
        have A1 := Lib.hid a1; clear a1
        go_wp2
        go_roundw
        case rel => exact ⟨k + 1, by omega, by go_num, noHit_next hno.out (by rw [hlt.out]; exact hlt2) HT.out (by simp [tearHits, A1.out]), HAL.out _⟩
        case measure => simp [RowKit.intOf]; omega
    · have hfin : Hid (keptBy keep T r = if keep.getD r false = true then 64 else 0) := by
        have h := hno.out
        unfold NoHit at h
        rw [List.take_of_length_le (by rw [hlt.out]; omega)] at h
        show _ = _
        unfold keptBy
        rw [h]
      by_cases hrk : r < nk
      · obtain ⟨ad, rfl, -, hc⟩ := hbk.out.below hbel.out (Nat.le_refl _) r (by rw [hlk.out]; exact hrk)
        cases hb : keep.getD r false with
        | true =>
          rw [hb] at hc
          have HB := Lib.hid hb; clear hb
          go_wp2
          go_ret
          exact ⟨ret_int (by rw [hfin.out, if_pos HB.out]; rfl), hbel.out⟩
        | false =>
          rw [hb] at hc
          have HB := Lib.hid hb; clear hb
          go_wp2
          go_ret
          exact ⟨ret_int (by rw [hfin.out, HB.out]; rfl), hbel.out⟩
      · have hd : decide (r < nk) = false := by simpa using hrk
        have hkf : Hid (keep.getD r false = false) := by
          show _ = _
          rw [List.getD_eq_getElem?_getD, List.getElem?_eq_none (by rw [hlk.out]; omega)]; rfl
        go_wp2
        go_ret
        exact ⟨ret_int (by rw [hfin.out, hkf.out]; rfl), hbel.out⟩
section
variable {w w' : World} {g o v t n lo : Nat} {s : Flash}
theorem rread_dead (i : Int) (hd : Hid (RDev w g o v t n lo s)) (hdead : Hid (s.dead = true)) :
    Calls Try.prog 14 #[.pointer (some ⟨g, 0, none⟩), .int .i64 i] w (ReadNo w 1) := by
  obtain ⟨ro, rv, left, hh, ho, hv, ht, hf, hlo1, hhi, hr⟩ := hd.out
  obtain ⟨⟨-, -, -, -, -, c5, -⟩, -⟩ := rd7 hh
  rw [hdead.out] at c5
  clear hh ho hv ht hf hr
  go_enter Try.func14, Try.ntmps14
  go_wp2
  go_ret2
  exact ⟨rfl, rfl⟩
theorem rread_range (i : Int) (hi : i < 0 ∨ (n : Int) ≤ i) (hd : Hid (RDev w g o v t n lo s)) (hdead : Hid (s.dead = false)) :
    Calls Try.prog 14 #[.pointer (some ⟨g, 0, none⟩), .int .i64 i] w (ReadNo w 2) := by
  obtain ⟨ro, rv, left, hh, ho, hv, ht, hf, hlo1, hhi, hr⟩ := hd.out
  obtain ⟨⟨-, -, c2, -, -, c5, -⟩, -⟩ := rd7 hh
  rw [hdead.out] at c5
  clear hh ho hv ht hf hr
  by_cases h0 : i < 0
  · clear hi
    go_enter Try.func14, Try.ntmps14
    go_wp2
    go_ret2
    exact ⟨rfl, rfl⟩
  · have h1 : decide (i < 0) = false := by simpa using h0
    have h2 : (n : Int) ≤ i := by omega
    clear hi h0
    go_enter Try.func14, Try.ntmps14
    go_wp2
    go_ret2
    exact ⟨rfl, rfl⟩
theorem RDev.bytes (h : RDev w g o v t n lo s) (hk : FlashOk n s) : Bs w w.heap.size (some ⟨v, 0, none⟩) s.cur := by
  obtain ⟨ro, rv, left, hh, ho, hv, ht, hf, hlo1, hhi, hr⟩ := h
  intro k hkl
  refine ⟨hk.lt _ (getD_mem hkl), _, rfl, (Array.getElem?_eq_some_iff.1 hv).1, ?_⟩
  rw [add_flat, Nat.zero_add, cell_of_row w v k _ _ _ hv, List.getElem?_toArray, List.getElem?_append_left (by rw [vals_length]; exact hkl)]
  exact vals_at hkl
theorem sec_bytes {c : Nat} {l : List Nat} {i : Nat} (h : Bs w w.heap.size (some ⟨c, 0, none⟩) l) (hl : l.length = n * 64) (hi : i < n) : Bs w w.heap.size (some ⟨c, i * 64, none⟩) (sec l i) := by
  intro k hk
  rw [sec_len hl hi] at hk
  obtain ⟨h1, ad, e, h3, h4⟩ := h (i * 64 + k) (by rw [hl]; omega)
  injection e with e
  subst e
  rw [sec_get hk]
  refine ⟨h1, _, rfl, h3, ?_⟩
  rw [add_flat, Nat.zero_add] at h4
  rw [add_flat]
  exact h4
set_option maxRecDepth 100000 in
theorem rread_ok (i : Nat) (hi : i < n) (hk : FlashOk n s) (hd : Hid (RDev w g o v t n lo s)) (hdead : Hid (s.dead = false)) :
    Calls Try.prog 14 #[.pointer (some ⟨g, 0, none⟩), .int .i64 (i : Int)] w (ReadOk w (sec s.cur i)) := by
  obtain ⟨i0, hi0, hz0, hz1, hz2⟩ := info_parts info_u8
  have I0 := Lib.hid (And.intro hi0 (And.intro hz0 (And.intro hz1 hz2))); clear hi0 hz0 hz1 hz2
  have HS : Hid (Bs w w.heap.size (some ⟨v, i * 64, none⟩) (sec s.cur i)) := sec_bytes (hd.out.bytes hk) hk.len hi
  have HL : Hid ((sec s.cur i).length = 64 ∧ (vals (sec s.cur i)).length = (i * 64 + 64 - i * 64) * 1 ∧ 0 + (i * 64 + 64 - i * 64) ≤ maxLen ∧ (0 + (i * 64 + 64 - i * 64)) * 1 ≤ 140737488355328) := ⟨sec_len hk.len hi, by rw [vals_length, sec_len hk.len hi]; omega, by unfold maxLen; omega, by omega⟩
  have hn2 := hk.n2
  obtain ⟨ro, rv, left, hh, ho, hv, ht, hf, hlo1, hhi, hcap1, hcap2, hr⟩ := hd.out
  obtain ⟨⟨-, c1, c2, -, -, c5, -⟩, -⟩ := rd7 hh
  rw [hdead.out] at c5
  clear hh ho hv ht hf hr hk
  have hcn : ¬ (n * 64 + rv.length = i * 64) := by omega
  have h1 : decide ((i : Int) < 0) = false := by simp
  have h2 : decide (n ≤ i) = false := by simp; omega
  go_enter Try.func14, Try.ntmps14
  go_wp2_with (at_builtin; refine append_onto rfl (.const (.slice none 0 0)) (.tmp 32) 27 rfl w.heap.size 5 i0 (.int .u8 0) 1 1 Try.underlying27 I0.out.1 I0.out.2.1 I0.out.2.2.1 I0.out.2.2.2 rfl (by decide) _ 0 [] rfl (World.ownsRow_nil _ _ _ _) (some ⟨v, i * 64, none⟩) (i * 64 + 64 - i * 64) (n * 64 + rv.length - i * 64) (vals (sec s.cur i)) rfl (fun h => by cases h) HL.out.2.1 (fun ad e => by injection e with e; subst e; exact HS.out.cells) (vals_one _) HL.out.2.2.1 HL.out.2.2.2 (Nat.le_refl _) ?_; intro v1 w1 hown1 hg1; rw [show 0 + (i * 64 + 64 - i * 64) = 64 by omega, List.nil_append] at hown1)
  obtain ⟨A1, cap1, rfl, hbs, hlen, hnc, hcm, hA1⟩ := own_bytes hown1 HS.out.lt
  go_ret2
  rcases hA1 with ⟨_, h0, _⟩ | ⟨g1, rfl, hg1', hg2⟩
  · omega
  · exact ⟨g1, cap1, rfl, hg1', HL.out.1, hbs, hnc, hcm, (Below.refl _ w).grown hg1 (Nat.le_refl _) (fun k e => by cases e)⟩
end
end Go.Proofs.Ytfacinlpkblopaa
