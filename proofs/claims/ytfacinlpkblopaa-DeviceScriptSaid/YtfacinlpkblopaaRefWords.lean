/-
  The reference of layer 3: its device in memory, and the walks of its small calls.
-/
import Derived.Test.YtfacinlpkblopaaDeviceSafe
namespace Go.Proofs.Ytfacinlpkblopaa
open Go.RowKit Go.Maps
/-- The bytes at the last Barrier. -/
def oldImg (n : Nat) (s : Flash) : List Nat := crashed n s.cur s.old [] []
def dirtL (n : Nat) (old : Nat → Option (List Nat)) : List Bool := (List.range n).map fun i => (old i).isSome
theorem dirtL_len (n : Nat) (old : Nat → Option (List Nat)) : (dirtL n old).length = n := by simp [dirtL]
theorem dirtL_get {n i : Nat} (hi : i < n) (old : Nat → Option (List Nat)) : (dirtL n old).getD i false = (old i).isSome := by
  unfold dirtL
  rw [List.getD_eq_getElem?_getD, List.getElem?_map, List.getElem?_range hi]; rfl
/-- What every state of a device keeps. -/
structure FlashOk (n : Nat) (s : Flash) : Prop where
  n1 : 1 ≤ n
  n2 : n ≤ 1048576
  len : s.cur.length = n * 64
  lt : ∀ x ∈ s.cur, x < 256
  olds : ∀ i l, s.old i = some l → l.length = 64 ∧ ∀ x ∈ l, x < 256
  fuse : s.fused = true → 0 ≤ s.fuse ∧ s.fuse ≤ 9223372036854775807
theorem Dev.ok {w : World} {g c m n : Nat} {s : Flash} (h : Dev w g c m n s) : FlashOk n s := by
  obtain ⟨rest, D, hh, hc, hm, ho, hl, hb, hn1, hn2, hcap, hgc, hfu⟩ := h
  exact ⟨hn1, hn2, hl, hb, ho.len, hfu⟩
theorem oldImg_len (n : Nat) (s : Flash) : (oldImg n s).length = n * 64 := crashed_len _ _ _ _ _
theorem getD_mem {l : List Nat} {p : Nat} (hp : p < l.length) : l.getD p 0 ∈ l := by
  rw [List.getD_eq_getElem?_getD, List.getElem?_eq_getElem hp]; exact List.getElem_mem hp
theorem oldImg_lt {n : Nat} {s : Flash} (h : FlashOk n s) : ∀ x ∈ oldImg n s, x < 256 := fun x hx => by
  unfold oldImg crashed at hx
  obtain ⟨p, hp, rfl⟩ := List.mem_map.1 hx
  rw [List.mem_range] at hp
  rw [crashByte_nil]
  cases ho : s.old (p / 64) with
  | none => exact h.lt _ (getD_mem (by rw [h.len]; exact hp))
  | some l => exact (h.olds _ _ ho).2 _ (getD_mem (by rw [(h.olds _ _ ho).1]; exact Nat.mod_lt _ (by decide)))
/-- The reference's device: the struct in block g, the old bytes in o, the new ones in v, the marks in t. -/
def RDev (w : World) (g o v t n lo : Nat) (s : Flash) : Prop :=
  ∃ (ro rv : List Value) (left : Int),
    w.heap[g]? = some (.cells #[.slice (some ⟨o, 0, none⟩) (n * 64) (n * 64 + ro.length), .slice (some ⟨v, 0, none⟩) (n * 64) (n * 64 + rv.length), .slice (some ⟨t, 0, none⟩) n n, .bool s.fused, .int .i64 left, .bool s.dead, .int .i64 (s.wr : Int)] 59 (0, 0)) ∧
    w.heap[o]? = some (.cells (vals (oldImg n s) ++ ro).toArray 5 (0, 0)) ∧ w.heap[v]? = some (.cells (vals s.cur ++ rv).toArray 5 (0, 0)) ∧ BRow w t (dirtL n s.old) ∧
    (s.fused = true → left = s.fuse) ∧ -(lo : Int) ≤ left ∧ left ≤ 9223372036854775807 ∧ n * 64 + ro.length ≤ 9223372036854775807 ∧ n * 64 + rv.length ≤ 9223372036854775807 ∧
    g ≠ o ∧ g ≠ v ∧ g ≠ t ∧ o ≠ v ∧ o ≠ t ∧ v ≠ t
theorem rd7 {w : World} {g : Nat} {a0 a1 a2 a3 a4 a5 a6 : Value} {t : TypeId} (h : w.heap[g]? = some (.cells #[a0, a1, a2, a3, a4, a5, a6] t (0, 0))) :
    (w.cell? ⟨g, 0, none⟩ = some a0 ∧ w.cell? ⟨g, 1, none⟩ = some a1 ∧ w.cell? ⟨g, 2, none⟩ = some a2 ∧ w.cell? ⟨g, 3, none⟩ = some a3 ∧ w.cell? ⟨g, 4, none⟩ = some a4 ∧ w.cell? ⟨g, 5, none⟩ = some a5 ∧ w.cell? ⟨g, 6, none⟩ = some a6) ∧
    (w.frozen? ⟨g, 3, none⟩ = false ∧ w.frozen? ⟨g, 4, none⟩ = false ∧ w.frozen? ⟨g, 5, none⟩ = false ∧ w.frozen? ⟨g, 6, none⟩ = false) := by
  refine ⟨⟨?_, ?_, ?_, ?_, ?_, ?_, ?_⟩, ⟨?_, ?_, ?_, ?_⟩⟩
  · rw [cell_of_row w g 0 _ t (0, 0) h]; rfl
  · rw [cell_of_row w g 1 _ t (0, 0) h]; rfl
  · rw [cell_of_row w g 2 _ t (0, 0) h]; rfl
  · rw [cell_of_row w g 3 _ t (0, 0) h]; rfl
  · rw [cell_of_row w g 4 _ t (0, 0) h]; rfl
  · rw [cell_of_row w g 5 _ t (0, 0) h]; rfl
  · rw [cell_of_row w g 6 _ t (0, 0) h]; rfl
  · exact frozen_of_row w g 3 _ t h
  · exact frozen_of_row w g 4 _ t h
  · exact frozen_of_row w g 5 _ t h
  · exact frozen_of_row w g 6 _ t h
section
variable {w w' : World} {g o v t n lo : Nat} {s : Flash}
theorem RDev.block (h : RDev w g o v t n lo s) (hg : w'.heap[g]? = w.heap[g]?) (ho : w'.heap[o]? = w.heap[o]?) (hv : w'.heap[v]? = w.heap[v]?) (ht : w'.heap[t]? = w.heap[t]?) : RDev w' g o v t n lo s := by
  obtain ⟨ro, rv, left, h1, h2, h3, h4, h5⟩ := h
  exact ⟨ro, rv, left, hg.trans h1, ho.trans h2, hv.trans h3, ht.trans h4, h5⟩
theorem RDev.lt (h : RDev w g o v t n lo s) : g < w.heap.size ∧ o < w.heap.size ∧ v < w.heap.size ∧ t < w.heap.size := by
  obtain ⟨ro, rv, left, h1, h2, h3, h4, h5⟩ := h
  exact ⟨(Array.getElem?_eq_some_iff.1 h1).1, (Array.getElem?_eq_some_iff.1 h2).1, (Array.getElem?_eq_some_iff.1 h3).1, (Array.getElem?_eq_some_iff.1 h4).1⟩
theorem RDev.kept {S : Nat → Prop} (h : RDev w g o v t n lo s) (hk : Kept S w w') (hg : ¬ S g) (ho : ¬ S o) (hv : ¬ S v) (ht : ¬ S t) : RDev w' g o v t n lo s :=
  h.block (hk.block g h.lt.1 hg) (hk.block o h.lt.2.1 ho) (hk.block v h.lt.2.2.1 hv) (hk.block t h.lt.2.2.2 ht)
theorem RDev.next (h : RDev w g o v t n lo s) (hb : Below w.heap.size w w') : RDev w' g o v t n lo s := h.block (hb.block g h.lt.1) (hb.block o h.lt.2.1) (hb.block v h.lt.2.2.1) (hb.block t h.lt.2.2.2)
theorem RDev.apart (h : RDev w g o v t n lo s) : g ≠ o ∧ g ≠ v ∧ g ≠ t ∧ o ≠ v ∧ o ≠ t ∧ v ≠ t := by
  obtain ⟨ro, rv, left, h1, h2, h3, h4, _, _, _, _, _, h5⟩ := h
  exact h5
theorem RDev.more {k : Nat} (h : RDev w g o v t n lo s) (hk : lo ≤ k) : RDev w g o v t n k s := by
  obtain ⟨ro, rv, left, h1, h2, h3, h4, h5, h6, h7⟩ := h
  exact ⟨ro, rv, left, h1, h2, h3, h4, h5, by omega, h7⟩
/-- The struct alone written. -/
theorem rdev_struct (h : RDev w g o v t n lo s) (s' : Flash) (lo' : Nat) (hcur : s'.cur = s.cur) (hold : s'.old = s.old) (hk : Kept (fun k => k = g) w w')
    (hg : ∀ a0 a1 a2 left, (s.fused = true → left = s.fuse) → -(lo : Int) ≤ left → left ≤ 9223372036854775807 → w.heap[g]? = some (.cells #[a0, a1, a2, .bool s.fused, .int .i64 left, .bool s.dead, .int .i64 (s.wr : Int)] 59 (0, 0)) →
      ∃ left', w'.heap[g]? = some (.cells #[a0, a1, a2, .bool s'.fused, .int .i64 left', .bool s'.dead, .int .i64 (s'.wr : Int)] 59 (0, 0)) ∧ (s'.fused = true → left' = s'.fuse) ∧ -(lo' : Int) ≤ left' ∧ left' ≤ 9223372036854775807) : RDev w' g o v t n lo' s' := by
  obtain ⟨a1, a2, a3, a4, a5, a6⟩ := h.apart
  obtain ⟨l1, l2, l3, l4⟩ := h.lt
  obtain ⟨ro, rv, left, hh, ho, hv, ht, hf, hlo, hhi, hr⟩ := h
  obtain ⟨left', e1, e2, e3, e4⟩ := hg _ _ _ left hf hlo hhi hh
  refine ⟨ro, rv, left', e1, ?_, ?_, ?_, e2, e3, e4, hr⟩
  · rw [show oldImg n s' = oldImg n s by unfold oldImg; rw [hcur, hold]]
    exact (hk.block o l2 (fun e => a1 e.symm)).trans ho
  · rw [hcur]; exact (hk.block v l3 (fun e => a2 e.symm)).trans hv
  · rw [hold]; exact (hk.block t l4 (fun e => a3 e.symm)).trans ht
theorem rburn_any (hlo : lo ≤ 1000) (hd : Hid (RDev w g o v t n lo s)) :
    Calls Try.prog 36 #[.pointer (some ⟨g, 0, none⟩)] w fun e w' => e = .returned (.bool s.lasts) ∧ RDev w' g o v t n (lo + 1) s.burnt ∧ Kept (fun k => k = g) w w' := by
  obtain ⟨ro, rv, left, hh, ho, hv, ht, hf, hlo1, hhi, hr⟩ := hd.out
  obtain ⟨⟨-, -, -, c3, c4, c5, -⟩, -, f4, f5, -⟩ := rd7 hh
  have H := Lib.hid (And.intro hh (And.intro ho (And.intro hv ht))); clear hh ho hv ht hr
  by_cases hfu : s.fused = true
  · have hl := hf hfu
    clear hf
    rw [hfu] at c3
    by_cases h0 : s.fuse = 0
    · rw [hl, h0] at c4
      have HF := Lib.hid (And.intro hfu (And.intro h0 hl)); clear hfu h0 hl
      go_enter Try.func36, Try.ntmps36
      go_wp2
      go_ret
      have K : Kept (fun k => k = g) w (w.setCell ⟨g, 5, none⟩ (.bool true)) := Kept.setCell (S := fun k => k = g) w ⟨g, 5, none⟩ _ rfl
      have e : s.burnt = { s with dead := true } := by rw [Flash.burnt, if_pos HF.out.1, if_pos HF.out.2.1]
      refine ⟨by simp [Flash.lasts, HF.out.1, HF.out.2.1], ?_, K⟩
      rw [e]
      refine rdev_struct hd.out _ _ rfl rfl K (fun a0 a1 a2 left h1 h2 h3 h => ⟨left, ?_, h1, by omega, h3⟩)
      simp [World.setCell, Array.getElem?_modify, h]
    · have h1 : (left == 0) = false := by rw [hl]; simpa using h0
      have HF := Lib.hid (And.intro hfu (And.intro h0 hl)); clear hfu h0 hl
      go_enter Try.func36, Try.ntmps36
      go_wp2
      go_ret
      have K : Kept (fun k => k = g) w (w.setCell ⟨g, 4, none⟩ (.int .i64 (left - 1))) := Kept.setCell (S := fun k => k = g) w ⟨g, 4, none⟩ _ rfl
      have e : s.burnt = { s with fuse := s.fuse - 1 } := by rw [Flash.burnt, if_pos HF.out.1, if_neg HF.out.2.1]
      refine ⟨by simp [Flash.lasts, HF.out.1, HF.out.2.1], ?_, K⟩
      rw [e]
      refine rdev_struct hd.out _ _ rfl rfl K (fun a0 a1 a2 left2 h1 h2 h3 h => ⟨left - 1, ?_, fun _ => by rw [HF.out.2.2], by omega, by omega⟩)
      simp [World.setCell, Array.getElem?_modify, h]
  · have hfu' : s.fused = false := by simpa using hfu
    rw [hfu'] at c3
    clear hf
    have HF := Lib.hid hfu; clear hfu
    have HF' := Lib.hid hfu'; clear hfu'
    go_enter Try.func36, Try.ntmps36
    go_wp2
    go_ret
    have K : Kept (fun k => k = g) w (w.setCell ⟨g, 4, none⟩ (.int .i64 (left - 1))) := Kept.setCell (S := fun k => k = g) w ⟨g, 4, none⟩ _ rfl
    have e : s.burnt = s := by rw [Flash.burnt, if_neg HF.out]
    refine ⟨by simp [Flash.lasts, HF'.out], ?_, K⟩
    rw [e]
    refine rdev_struct hd.out _ _ rfl rfl K (fun a0 a1 a2 left2 h1 h2 h3 h => ⟨left - 1, ?_, fun h => absurd h HF.out, by omega, by omega⟩)
    simp [World.setCell, Array.getElem?_modify, h]
theorem rfuse_any (k : Int) (hk : k ≤ 9223372036854775807) (hd : Hid (RDev w g o v t n lo s)) :
    Calls Try.prog 19 #[.pointer (some ⟨g, 0, none⟩), .int .i64 k] w fun e w' => e = .returned (.tuple #[]) ∧ RDev w' g o v t n lo (s.setFuse k) ∧ Kept (fun k => k = g) w w' := by
  obtain ⟨ro, rv, left, hh, ho, hv, ht, hf, hlo1, hhi, hr⟩ := hd.out
  obtain ⟨⟨-, -, -, c3, c4, c5, -⟩, f3, f4, f5, -⟩ := rd7 hh
  have H := Lib.hid (And.intro hh (And.intro ho (And.intro hv ht))); clear hh ho hv ht hr hf c5 f5
  by_cases h0 : 0 ≤ k
  · have hm : ∀ ty w, (Builtin.max_ #[3, 3] ty #[.int .i64 k, .int .i64 0]).run Try.prog w = .ok (.int .i64 k) w := fun ty w => by
      simp [Builtin.max_, Builtin.max2]; omega
    go_enter Try.func19, Try.ntmps19
    go_wp2
    go_end0
    have K : Kept (fun j => j = g) w ((w.setCell ⟨g, 3, none⟩ (.bool true)).setCell ⟨g, 4, none⟩ (.int .i64 k)) := (Kept.setCell (S := fun j => j = g) w ⟨g, 3, none⟩ _ rfl).trans (Kept.setCell (S := fun j => j = g) _ ⟨g, 4, none⟩ _ rfl)
    refine ⟨rfl, rdev_struct hd.out _ _ rfl rfl K (fun a0 a1 a2 left2 h1 h2 h3 h => ⟨k, ?_, fun _ => rfl, by omega, hk⟩), K⟩
    have e : (s.setFuse k).fused = true := by simp [Flash.setFuse, h0]
    rw [e]
    simp [World.setCell, Array.getElem?_modify, h, Flash.setFuse]
  · have hz : decide (0 ≤ k) = false := by simpa using h0
    have hm : ∀ ty w, (Builtin.max_ #[3, 3] ty #[.int .i64 k, .int .i64 0]).run Try.prog w = .ok (.int .i64 0) w := fun ty w => by
      simp [Builtin.max_, Builtin.max2]; omega
    go_enter Try.func19, Try.ntmps19
    go_wp2
    go_end0
    have K : Kept (fun j => j = g) w ((w.setCell ⟨g, 3, none⟩ (.bool false)).setCell ⟨g, 4, none⟩ (.int .i64 0)) := (Kept.setCell (S := fun j => j = g) w ⟨g, 3, none⟩ _ rfl).trans (Kept.setCell (S := fun j => j = g) _ ⟨g, 4, none⟩ _ rfl)
    refine ⟨rfl, rdev_struct hd.out _ _ rfl rfl K (fun a0 a1 a2 left2 h1 h2 h3 h => ⟨0, ?_, fun h => ?_, by omega, by omega⟩), K⟩
    · have e : (s.setFuse k).fused = false := by simp [Flash.setFuse]; omega
      rw [e]
      simp [World.setCell, Array.getElem?_modify, h, Flash.setFuse]
    · have e : (s.setFuse k).fused = false := by simp [Flash.setFuse]; omega
      rw [e] at h; cases h
end
end Go.Proofs.Ytfacinlpkblopaa
