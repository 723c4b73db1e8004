/-
  The walks of package flashdev: what makes a device, what reads it, what turns its struct alone.
-/
import Derived.Test.YtfacinlpkblopaaFlashWalk
import Derived.Test.YtfacinlpkblopaaBytes
import Derived.OwnWalk
import Derived.Carry
namespace Go.Proofs.Ytfacinlpkblopaa
open Go.RowKit Go.Maps

def Flash.fresh (l : List Nat) : Flash := ⟨l, fun _ => none, 0, false, 0, false⟩
/-- What a call leaves that makes a device of the bytes l. -/
def MadeDev (w : World) (n : Nat) (l : List Nat) (e : Ending) (w' : World) : Prop :=
  ∃ g c m, e = .returned (.pointer (some ⟨g, 0, none⟩)) ∧ Dev w' g c m n (Flash.fresh l) ∧ w.heap.size ≤ g ∧ w.heap.size ≤ c ∧ w.heap.size ≤ m ∧ Below w.heap.size w w'
theorem old_empty (n : Nat) : OldIs (.map []) n (fun _ => none) :=
  ⟨fun _ _ => rfl, (fun _ h => by cases h), (fun _ _ h => by cases h), fun _ _ => rfl, (fun _ _ h => by cases h)⟩
/-- What 'holding' leaves: the blocks behind those that were. -/
def Held (w : World) (c n : Nat) (l : List Nat) (e : Ending) (w' : World) : Prop :=
  ∃ g m, e = .returned (.pointer (some ⟨g, 0, none⟩)) ∧ Dev w' g c m n (Flash.fresh l) ∧ w.heap.size ≤ g ∧ w.heap.size ≤ m ∧ Below w.heap.size w w'
theorem holding_any (c n cap : Nat) (l : List Nat) (rest : List Value) (w : World) (hc : Hid (w.heap[c]? = some (.cells (vals l ++ rest).toArray 5 (0, 0)))) (hcap : Hid (cap = n * 64 + rest.length)) (hl : Hid (l.length = n * 64)) (hb : Hid (∀ x ∈ l, x < 256)) (hn1 : 1 ≤ n) (hn2 : n ≤ 1048576) (hm : Hid (n * 64 + rest.length ≤ 9223372036854775807)) :
    Calls Try.prog 31 #[.slice (some ⟨c, 0, none⟩) (n * 64) cap] w (Held w c n l) := by
  have hmm := @run_makeMap Try.prog
  have hlt : c < w.heap.size := (Array.getElem?_eq_some_iff.1 hc.out).1
  go_enter Try.func31, Try.ntmps31
  go_wp2
  go_ret
  refine ⟨w.heap.size + 1, w.heap.size, ?_, ?_, by omega, by omega, ((Below.refl _ w).alloc (Nat.le_refl _) _).alloc (by simp) _⟩
  · simp
  · refine ⟨rest, .map [], ?_, ?_, ?_, old_empty n, hl.out, hb.out, hn1, hn2, hm.out, by omega, fun h => by cases h⟩
    · rw [← hcap.out]
      exact heap_alloc2_new _ _ _
    · exact ((((Below.refl _ w).alloc (Nat.le_refl _) _).alloc (by simp) _ : Below w.heap.size w _).block c hlt).trans hc.out
    · exact (World.ownsMap_made w Try.prog 3 rawElem).alloc _
/-- A row of the call's own, as the block of a device's contents. -/
theorem own_block {w : World} {base : Nat} {v : Value} {k : Nat} {l : List Nat} (h : w.ownsRow base 5 1 v k (vals l)) (hk : 0 < k) :
    ∃ c rest, v = .slice (some ⟨c, 0, none⟩) k (k + rest.length) ∧ base ≤ c ∧ w.heap[c]? = some (.cells (vals l ++ rest).toArray 5 (0, 0)) ∧ l.length = k ∧ k + rest.length ≤ maxLen := by
  have hl : l.length = k := by have := h.1; rw [vals_length] at this; omega
  rcases h.2 with ⟨_, h0⟩ | ⟨g, cap, cur, rfl, hb, hg, hnc, hcm, hsz, htk⟩
  · omega
  · have e : cur.toList = vals l ++ cur.toList.drop k := by rw [← htk, Nat.mul_one, List.take_append_drop]
    have hlen : k + (cur.toList.drop k).length = cap := by rw [List.length_drop, Array.length_toList]; omega
    refine ⟨g, cur.toList.drop k, by rw [hlen], hb, ?_, hl, by rw [hlen]; exact hcm⟩
    rw [hg, ← e]
theorem vals_zero (k : Nat) : (madeCells (Value.cells (.int .u8 0)) (k * 1)).toList = vals (List.replicate k 0) := by
  simp only [madeCells, vals, Value.cells, List.map_replicate]
  apply List.ext_getElem
  · simp
  · intro i h1 h2
    simp [Nat.mod_one]
set_option maxHeartbeats 400000 in
theorem new_yes (n : Nat) (ni : Int) (hni : ni = (n : Int)) (w : World) (h1 : 1 ≤ n) (h2 : n ≤ 1048576) :
    Calls Try.prog 9 #[.int .i64 ni] w (MadeDev w n (List.replicate (n * 64) 0)) := by
  subst hni
  obtain ⟨i0, hi0, hz0, hz1, hz2⟩ := info_parts info_u8
  have I0 := Lib.hid (And.intro hi0 (And.intro hz0 (And.intro hz1 hz2))); clear hi0 hz0 hz1 hz2
  have B0 : Hid (i0.bytes * (n * 64) ≤ 281474976710656 ∧ n * 64 ≤ maxLen) := by rw [I0.out.2.2.2]; exact ⟨by omega, by unfold maxLen; omega⟩
  go_enter Try.func9, Try.ntmps9
  go_wp2_with (first
    | (go_at_call 30; refine (issize_yes _ (by omega) (by omega) _).mono ?_; rintro e w' ⟨rfl, rfl⟩)
    | (at_make; refine wpList_make_full w rfl _ _ 27 rfl w.heap.size 5 i0 (.int .u8 0) 1 Try.underlying27 I0.out.1 I0.out.2.1 I0.out.2.2.1 .i64 .i64 _ _ (n * 64) rfl rfl (by simp) (by simp) B0.out.1 B0.out.2 (Nat.le_refl _) ?_; intro w1 hown hg))
  have hown1 : w1.ownsRow w.heap.size 5 1 (.slice (some ⟨w.heap.size, 0, none⟩) (n * 64) (n * 64)) (n * 64) (vals (List.replicate (n * 64) 0)) := by
    rw [← vals_zero]; exact hown
  obtain ⟨c, rest, hv, hb, hc, hl, hm⟩ := own_block hown1 (by omega)
  injection hv with e1 e2 e3
  injection e1 with e1
  injection e1 with e1
  subst e1
  have HC := Lib.hid hc
  have HCap : Hid (n * 64 = n * 64 + rest.length) := e3
  have HL := Lib.hid hl
  have HM : Hid (n * 64 + rest.length ≤ 9223372036854775807) := hm
  have HZ : Hid (∀ x ∈ List.replicate (n * 64) 0, x < 256) := fun x hx => by rw [(List.mem_replicate.1 hx).2]; decide
  have HB : Hid (Below w.heap.size w w1) := (Below.refl _ w).grown hg (Nat.le_refl _) (fun k e => by cases e)
  clear hc e3 hl hm hown hown1 e2
  go_wp2_with (go_at_call 31; refine (holding_any _ n _ _ rest _ HC HCap HL HZ h1 h2 HM).mono ?_; rintro e w2 ⟨g, m, rfl, hd, hg1, hm1, hb2⟩)
  go_ret
  have hs := HB.out.size
  exact ⟨g, _, m, rfl, hd, by omega, Nat.le_refl _, by omega, HB.out.trans (hb2.mono hs)⟩
theorem new_no (n : Int) (w : World) (h : n < 1 ∨ 1048576 < n) :
    Calls Try.prog 9 #[.int .i64 n] w fun e w' => e = .returned (.pointer none) ∧ w = w' := by
  go_enter Try.func9, Try.ntmps9
  go_wp2_with (go_at_call 30; refine (issize_no _ h _).mono ?_; rintro e w' ⟨rfl, rfl⟩)
  go_ret
  exact ⟨rfl, rfl⟩
theorem load_yes (A : Option Addr) (B n c : Nat) (l : List Nat) (w : World) (hA : A = none → c = 0 ∧ n * 64 = 0) (hl : Hid (l.length = n * 64)) (hn1 : 1 ≤ n) (hn2 : n ≤ 1048576) (hb : Hid (Bs w B A l)) :
    Calls Try.prog 26 #[.slice A (n * 64) c] w (MadeDev w n l) := by
  have hr : ((n * 64 : Nat) : Int) % 64 = 0 := by omega
  have hr2 : ((n : Int) * 64) % 64 = 0 := by omega
  have hq : ((n : Int) * 64) / 64 = (n : Int) := by omega
  go_enter Try.func26, Try.ntmps26
  go_wp2_with (first
    | (go_at_call 30; refine (issize_yes _ (by omega) (by omega) _).mono ?_; rintro e w' ⟨rfl, rfl⟩)
    | (go_at_call 37; refine (clone_any A B _ _ l _ (fun e => ⟨(hA e).1, (hA e).2⟩) hl (by omega) hb).mono ?_; rintro e w1 ⟨v, rfl, hown, hb1⟩))
  obtain ⟨c1, rest, rfl, hb0, hc, hl1, hm⟩ := own_block hown (by omega)
  have HC := Lib.hid hc
  have HL := Lib.hid hl1
  have HM : Hid (n * 64 + rest.length ≤ 9223372036854775807) := hm
  have HZ : Hid (∀ x ∈ l, x < 256) := hb.out.lt
  have HB := Lib.hid hb1
  have HCap : Hid (n * 64 + rest.length = n * 64 + rest.length) := rfl
  clear hc hl1 hm hown hb1
  go_wp2_with (go_at_call 31; refine (holding_any _ n _ _ rest _ HC HCap HL HZ hn1 hn2 HM).mono ?_; rintro e w2 ⟨g, m, rfl, hd, hg1, hm1, hb2⟩)
  go_ret
  have hs := HB.out.size
  exact ⟨g, _, m, rfl, hd, by omega, hb0, by omega, HB.out.trans (hb2.mono hs)⟩
theorem load_no (A : Option Addr) (n c : Nat) (w : World) (h : n % 64 ≠ 0 ∨ n < 64 ∨ 67108864 < n) (hn : n ≤ 9223372036854775807) :
    Calls Try.prog 26 #[.slice A n c] w fun e w' => e = .returned (.pointer none) ∧ w = w' := by
  by_cases h0 : n % 64 = 0
  · have hs : ((n : Int) / 64) < 1 ∨ 1048576 < ((n : Int) / 64) := by omega
    have hq : ((n : Int) % 64 != 0) = false := by simp; omega
    have H0 := Lib.hid h0; clear h0
    clear h
    go_enter Try.func26, Try.ntmps26
    go_wp2_with (go_at_call 30; refine (issize_no _ hs _).mono ?_; rintro e w' ⟨rfl, rfl⟩)
    go_ret
    exact ⟨rfl, rfl⟩
  · have hq : ((n : Int) % 64 != 0) = true := by rw [bne_iff_ne]; omega
    have H0 := Lib.hid h0; clear h0
    clear h
    go_enter Try.func26, Try.ntmps26
    go_wp2
    go_ret
    exact ⟨rfl, rfl⟩
/-- What a call leaves that returns bytes in a row of its own. -/
def GaveRow (w : World) (l : List Nat) (e : Ending) (w' : World) : Prop :=
  ∃ (g cap : Nat), e = .returned (.slice (some ⟨g, 0, none⟩) l.length cap) ∧ w.heap.size ≤ g ∧ Bs w' w'.heap.size (some ⟨g, 0, none⟩) l ∧ l.length ≤ cap ∧ cap ≤ maxLen ∧ Below w.heap.size w w' ∧ w'.ownsRow w.heap.size 5 1 (.slice (some ⟨g, 0, none⟩) l.length cap) l.length (vals l)
section
variable {g c m n : Nat} {s : Flash} {w : World}
theorem Dev.bytes (h : Dev w g c m n s) : Bs w w.heap.size (some ⟨c, 0, none⟩) s.cur := by
  obtain ⟨rest, D, hh, hc, hm, ho, hl, hb, hn1, hn2, hcap, hgc, hfu⟩ := h
  intro k hk
  have hx : s.cur[k] = s.cur.getD k 0 := by rw [List.getD_eq_getElem?_getD, List.getElem?_eq_getElem hk]; rfl
  refine ⟨by rw [← hx]; exact hb _ (List.getElem_mem hk), _, rfl, (Array.getElem?_eq_some_iff.1 hc).1, ?_⟩
  have e : (⟨c, 0, none⟩ : Addr).add k = ⟨c, k, none⟩ := by unfold Addr.add; split <;> simp_all
  rw [e, cell_of_row w c k _ _ _ hc]
  have hv := vals_at hk
  rw [List.getElem?_toArray, List.getElem?_append_left (by rw [vals_length]; exact hk)]
  exact hv
theorem image_any (hd : Hid (Dev w g c m n s)) :
    Calls Try.prog 24 #[.pointer (some ⟨g, 0, none⟩)] w (GaveRow w s.cur) := by
  have HB : Hid (Bs w w.heap.size (some ⟨c, 0, none⟩) s.cur) := hd.out.bytes
  have HL : Hid (s.cur.length = n * 64) := hd.out.cur_len
  obtain ⟨rest, D, hh, hc, hm, ho, hl, hb, hn1, hn2, hcap, hgc, hfu⟩ := hd.out
  obtain ⟨⟨c0, c1, c2, c3, c4, c5⟩, _⟩ := rd6 hh
  have H := Lib.hid (And.intro hh (And.intro hc (And.intro hl hm))); clear hh hc hl hm c1 c2 c3 c4 c5
  go_enter Try.func24, Try.ntmps24
  go_wp2_with (go_at_call 37; refine (clone_any _ _ _ _ _ _ (fun e => by cases e) HL (by omega) HB).mono ?_; rintro e w' ⟨v, rfl, hown, hbl⟩)
  go_ret
  obtain ⟨A1, cap, rfl, hbs, hlen, hnc, hcm, hA1⟩ := own_bytes hown hb
  rcases hA1 with ⟨_, h0, _⟩ | ⟨g1, rfl, hg1, hg2⟩
  · omega
  · rw [← hlen] at hown hnc ⊢
    exact ⟨g1, cap, rfl, hg1, hbs, hnc, hcm, hbl, hown⟩
theorem image_nil (w : World) :
    Calls Try.prog 24 #[.pointer none] w fun e w' => e = .returned (.slice none 0 0) ∧ w = w' := by
  go_enter Try.func24, Try.ntmps24
  go_wp2
  go_ret
  exact ⟨rfl, rfl⟩

/-- The struct written, field by field. -/
theorem dev_struct {w' : World} (h : Dev w g c m n s) (s' : Flash) (hcur : s'.cur = s.cur) (hold : s'.old = s.old) (hfu' : s'.fused = true → 0 ≤ s'.fuse ∧ s'.fuse ≤ 9223372036854775807)
    (hk : Kept (fun k => k = g) w w')
    (hg : ∀ a0 a1, w.heap[g]? = some (.cells #[a0, a1, .int .i64 (s.wr : Int), .bool s.fused, .int .i64 s.fuse, .bool s.dead] 57 (0, 0)) → w'.heap[g]? = some (.cells #[a0, a1, .int .i64 (s'.wr : Int), .bool s'.fused, .int .i64 s'.fuse, .bool s'.dead] 57 (0, 0))) : Dev w' g c m n s' := by
  obtain ⟨h1, h2, h3⟩ := h.apart
  obtain ⟨l1, l2, l3⟩ := h.lt
  obtain ⟨rest, D, hh, hc, hm, ho, hl, hb, hn1, hn2, hcap, hgc, hfu⟩ := h
  refine ⟨rest, D, hg _ _ hh, ?_, ownsMap_block hm (hk.block m l3 (fun e => h2 e.symm)), by rw [hold]; exact ho, by rw [hcur]; exact hl, by rw [hcur]; exact hb, hn1, hn2, hcap, hgc, hfu'⟩
  rw [hcur]
  exact (hk.block c l2 (fun e => h1 e.symm)).trans hc
def Flash.setFuse (s : Flash) (k : Int) : Flash := { s with fused := decide (0 ≤ k), fuse := k }
theorem fuse_any (k : Int) (hk2 : k ≤ 9223372036854775807) (hd : Hid (Dev w g c m n s)) :
    Calls Try.prog 18 #[.pointer (some ⟨g, 0, none⟩), .int .i64 k] w fun e w' => e = .returned (.tuple #[]) ∧ Dev w' g c m n (s.setFuse k) ∧ Kept (fun k => k = g) w w' := by
  obtain ⟨rest, D, hh, hc, hm, ho, hl, hb, hn1, hn2, hcap, hgc, hfu⟩ := hd.out
  obtain ⟨⟨c0, c1, c2, c3, c4, c5⟩, f0, f1, f2, f3, f4, f5⟩ := rd6 hh
  have H := Lib.hid (And.intro hh (And.intro hc (And.intro hl hm))); clear hh hc hl hm c0 c1 c2 c5 f0 f1 f2 f5
  go_enter Try.func18, Try.ntmps18
  go_wp2
  go_end0
  have K : Kept (fun k => k = g) w ((w.setCell ⟨g, 3, none⟩ (.bool (decide (0 ≤ k)))).setCell ⟨g, 4, none⟩ (.int .i64 k)) := (Kept.setCell (S := fun k => k = g) w ⟨g, 3, none⟩ _ rfl).trans (Kept.setCell (S := fun k => k = g) _ ⟨g, 4, none⟩ _ rfl)
  refine ⟨rfl, dev_struct hd.out _ rfl rfl (fun h => ⟨by simpa [Flash.setFuse] using h, hk2⟩) K (fun a0 a1 h => ?_), K⟩
  simp [World.setCell, Array.getElem?_modify, h, Flash.setFuse]
/-- Does the power last for one more call? -/
def Flash.lasts (s : Flash) : Bool := !s.fused || s.fuse != 0
def Flash.burnt (s : Flash) : Flash := if s.fused = true then (if s.fuse = 0 then { s with dead := true } else { s with fuse := s.fuse - 1 }) else s
theorem burn_any (hd : Hid (Dev w g c m n s)) :
    Calls Try.prog 34 #[.pointer (some ⟨g, 0, none⟩)] w fun e w' => e = .returned (.bool s.lasts) ∧ Dev w' g c m n s.burnt ∧ Kept (fun k => k = g) w w' := by
  obtain ⟨rest, D, hh, hc, hm, ho, hl, hb, hn1, hn2, hcap, hgc, hfu⟩ := hd.out
  obtain ⟨⟨c0, c1, c2, c3, c4, c5⟩, f0, f1, f2, f3, f4, f5⟩ := rd6 hh
  have H := Lib.hid (And.intro hh (And.intro hc (And.intro hl hm))); clear hh hc hl hm c0 c1 c2 f0 f1 f2 f3
  by_cases hf : s.fused = true
  · obtain ⟨b1, b2⟩ := hfu hf
    clear hfu
    rw [hf] at c3
    by_cases h0 : s.fuse = 0
    · rw [h0] at c4
      have HF := Lib.hid (And.intro hf h0); clear hf h0
      go_enter Try.func34, Try.ntmps34
      go_wp2
      go_ret
      have K : Kept (fun k => k = g) w (w.setCell ⟨g, 5, none⟩ (.bool true)) := Kept.setCell (S := fun k => k = g) w ⟨g, 5, none⟩ _ rfl
      have e : s.burnt = { s with dead := true } := by rw [Flash.burnt, if_pos HF.out.1, if_pos HF.out.2]
      refine ⟨by simp [Flash.lasts, HF.out.1, HF.out.2], ?_, K⟩
      rw [e]
      refine dev_struct hd.out _ rfl rfl (fun _ => ⟨b1, b2⟩) K (fun a0 a1 h => ?_)
      simp [World.setCell, Array.getElem?_modify, h]
    · have h1 : (s.fuse == 0) = false := by simpa using h0
      have b3 : 1 ≤ s.fuse := by omega
      have HF := Lib.hid (And.intro hf h0); clear hf h0
      go_enter Try.func34, Try.ntmps34
      go_wp2
      go_ret
      have K : Kept (fun k => k = g) w (w.setCell ⟨g, 4, none⟩ (.int .i64 (s.fuse - 1))) := Kept.setCell (S := fun k => k = g) w ⟨g, 4, none⟩ _ rfl
      have e : s.burnt = { s with fuse := s.fuse - 1 } := by rw [Flash.burnt, if_pos HF.out.1, if_neg HF.out.2]
      refine ⟨by simp [Flash.lasts, HF.out.1, HF.out.2], ?_, K⟩
      rw [e]
      refine dev_struct hd.out _ rfl rfl (fun _ => ⟨by show 0 ≤ s.fuse - 1; omega, by show s.fuse - 1 ≤ _; omega⟩) K (fun a0 a1 h => ?_)
      simp [World.setCell, Array.getElem?_modify, h]
  · have hf' : s.fused = false := by simpa using hf
    rw [hf'] at c3
    clear hfu
    have HF := Lib.hid hf; clear hf
    have HF' := Lib.hid hf'; clear hf'
    go_enter Try.func34, Try.ntmps34
    go_wp2
    go_ret
    have e : s.burnt = s := by rw [Flash.burnt, if_neg HF.out]
    refine ⟨by simp [Flash.lasts, HF'.out], by rw [e]; exact hd.out, Kept.refl _ _⟩
theorem has_any (i : Int) (hd : Hid (Dev w g c m n s)) :
    Calls Try.prog 33 #[.pointer (some ⟨g, 0, none⟩), .int .i64 i] w fun e w' => e = .returned (.bool (decide (0 ≤ i ∧ i < (n : Int)))) ∧ w = w' := by
  by_cases h0 : 0 ≤ i
  · by_cases h1 : i < (n : Int)
    · go_enter Try.func33, Try.ntmps33
      go_wp2_with (go_at_call 27; refine (sectors_any hd).mono ?_; rintro e w' ⟨rfl, rfl⟩)
      go_ret
      exact ⟨by simp [h0, h1], rfl⟩
    · have h2 : decide (i < (n : Int)) = false := by simpa using h1
      go_enter Try.func33, Try.ntmps33
      go_wp2_with (go_at_call 27; refine (sectors_any hd).mono ?_; rintro e w' ⟨rfl, rfl⟩)
      go_ret
      exact ⟨by simp [h1], rfl⟩
  · have h2 : decide (0 ≤ i) = false := by simpa using h0
    go_enter Try.func33, Try.ntmps33
    go_wp2
    go_ret
    exact ⟨rfl, rfl⟩
end
end Go.Proofs.Ytfacinlpkblopaa
