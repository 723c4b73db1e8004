/-
  The walk of the reference's Write.
-/
import Derived.Test.YtfacinlpkblopaaRefOps
namespace Go.Proofs.Ytfacinlpkblopaa
open Go.RowKit Go.Maps
def rS (g o v t : Nat) (k : Nat) : Prop := k = g ∨ k = o ∨ k = v ∨ k = t
def RDid (w : World) (g o v t n lo : Nat) (s : Flash) (k : Int) (e : Ending) (w' : World) : Prop := e = .returned (.int .i64 k) ∧ RDev w' g o v t n lo s ∧ Kept (rS g o v t) w w'
/-- The new bytes when k bytes of the sector are written. -/
def partly (cur b : List Nat) (i k : Nat) : List Nat := cur.take (i * 64) ++ (pad b).take k ++ cur.drop (i * 64 + k)
theorem partly_zero (cur b : List Nat) (i : Nat) : partly cur b i 0 = cur := by simp [partly]
theorem partly_end {b : List Nat} (hb : b.length ≤ 64) (cur : List Nat) (i : Nat) : partly cur b i 64 = putSec cur i (pad b) := by
  unfold partly putSec
  rw [List.take_of_length_le (l := pad b) (by rw [pad_len hb]; omega)]
theorem pad_get {b : List Nat} (k : Nat) : (pad b).getD k 0 = if k < b.length then b.getD k 0 else 0 := by
  unfold pad
  rw [List.getD_eq_getElem?_getD, List.getD_eq_getElem?_getD]
  by_cases h : k < b.length
  · rw [if_pos h, List.getElem?_append_left h]
  · rw [if_neg h, List.getElem?_append_right (by omega), List.getElem?_replicate]
    split <;> rfl
theorem partly_len {cur b : List Nat} {n i k : Nat} (hl : cur.length = n * 64) (hi : i < n) (hb : b.length ≤ 64) (hk : k ≤ 64) : (partly cur b i k).length = n * 64 := by
  unfold partly
  rw [List.length_append, List.length_append, List.length_take, List.length_take, List.length_drop, pad_len hb]
  omega
theorem partly_get {cur b : List Nat} {n i k : Nat} (hl : cur.length = n * 64) (hi : i < n) (hb : b.length ≤ 64) (hk : k ≤ 64) (p : Nat) :
    (partly cur b i k).getD p 0 = if i * 64 ≤ p ∧ p < i * 64 + k then (pad b).getD (p - i * 64) 0 else cur.getD p 0 := by
  have hpl := pad_len hb
  unfold partly
  simp only [List.getD_eq_getElem?_getD]
  by_cases h1 : p < i * 64
  · rw [if_neg (by omega), List.append_assoc, List.getElem?_append_left (by rw [List.length_take]; omega), List.getElem?_take_of_lt h1]
  · by_cases h2 : p < i * 64 + k
    · rw [if_pos ⟨by omega, h2⟩, List.getElem?_append_left (by rw [List.length_append, List.length_take, List.length_take]; omega), List.getElem?_append_right (by rw [List.length_take]; omega), List.getElem?_take_of_lt (by rw [List.length_take]; omega), List.length_take, Nat.min_eq_left (by omega)]
    · rw [if_neg (by omega), List.getElem?_append_right (by rw [List.length_append, List.length_take, List.length_take]; omega), List.getElem?_drop, List.length_append, List.length_take, List.length_take]
      congr 2
      omega
theorem partly_set {cur b : List Nat} {n i k : Nat} (hl : cur.length = n * 64) (hi : i < n) (hb : b.length ≤ 64) (hk : k < 64) : (partly cur b i k).set (i * 64 + k) ((pad b).getD k 0) = partly cur b i (k + 1) := by
  refine list_ext (k := n * 64) (by rw [List.length_set]; exact partly_len hl hi hb (by omega)) (partly_len hl hi hb (by omega)) (fun p hp => ?_)
  rw [getD_set (by rw [partly_len hl hi hb (by omega)]; omega), partly_get hl hi hb (by omega) p, partly_get hl hi hb (by omega) p]
  by_cases e : p = i * 64 + k
  · subst e
    rw [if_pos rfl, if_pos ⟨by omega, by omega⟩]
    congr 1; omega
  · rw [if_neg e]
    by_cases h1 : i * 64 ≤ p ∧ p < i * 64 + k
    · rw [if_pos h1, if_pos ⟨h1.1, by omega⟩]
    · rw [if_neg h1, if_neg (by omega)]
def VRow (w : World) (v : Nat) (L : List Nat) (rv : List Value) : Prop := w.heap[v]? = some (.cells (vals L ++ rv).toArray 5 (0, 0))
theorem VRow.cell {w : World} {v : Nat} {L : List Nat} {rv : List Value} (h : VRow w v L rv) {j : Nat} (hj : j < L.length) : w.cell? ⟨v, j, none⟩ = some (.int .u8 ((L.getD j 0 : Nat) : Int)) ∧ w.frozen? ⟨v, j, none⟩ = false := by
  refine ⟨?_, frozen_of_row w v j _ _ h⟩
  rw [cell_of_row w v j _ _ _ h, List.getElem?_toArray, List.getElem?_append_left (by rw [vals_length]; exact hj)]
  exact vals_at hj
theorem VRow.set {w : World} {v : Nat} {L : List Nat} {rv : List Value} (h : VRow w v L rv) (j x : Nat) (hj : j < L.length) : VRow (w.setCell ⟨v, j, none⟩ (.int .u8 (x : Int))) v (L.set j x) rv := by
  unfold VRow
  rw [heap_setCell_same w v j _ _ _ h]
  have e : (vals L ++ rv).set j (.int .u8 (x : Int)) = vals (L.set j x) ++ rv := by
    rw [List.set_append_left _ _ (by rw [vals_length]; exact hj)]
    simp only [vals, List.map_set]
  rw [← e]
  simp
theorem dirtL_put {n i : Nat} (s : Flash) (b : List Nat) : dirtL n (s.wrote i b).old = (dirtL n s.old).set i true := by
  apply List.ext_getElem
  · simp [dirtL]
  · intro k h1 h2
    rw [List.getElem_set]
    simp only [dirtL, List.getElem_map, List.getElem_range, Flash.wrote]
    by_cases e : i = k
    · subst e; simp
    · rw [if_neg e, if_neg (fun h => e h.symm)]
section
variable {w : World} {g o v t n lo : Nat} {s : Flash}
theorem rwrite_dead (i : Int) (x : Value) (hd : Hid (RDev w g o v t n lo s)) (hdead : Hid (s.dead = true)) :
    Calls Try.prog 12 #[.pointer (some ⟨g, 0, none⟩), .int .i64 i, x] w (RDid w g o v t n lo s 1) := by
  obtain ⟨ro, rv, left, hh, ho, hv, ht, hf, hlo1, hhi, hr⟩ := hd.out
  obtain ⟨⟨-, -, -, -, -, c5, -⟩, -⟩ := rd7 hh
  rw [hdead.out] at c5
  clear hh ho hv ht hf hr
  go_enter Try.func12, Try.ntmps12
  go_wp2
  go_ret
  exact ⟨rfl, hd.out, Kept.refl _ _⟩
theorem rwrite_range (i : Int) (x : Value) (hi : i < 0 ∨ (n : Int) ≤ i) (hd : Hid (RDev w g o v t n lo s)) (hdead : Hid (s.dead = false)) :
    Calls Try.prog 12 #[.pointer (some ⟨g, 0, none⟩), .int .i64 i, x] w (RDid w g o v t n lo s 2) := by
  obtain ⟨ro, rv, left, hh, ho, hv, ht, hf, hlo1, hhi, hr⟩ := hd.out
  obtain ⟨⟨-, -, c2, -, -, c5, -⟩, -⟩ := rd7 hh
  rw [hdead.out] at c5
  clear hh ho hv ht hf hr
  by_cases h0 : i < 0
  · clear hi
    go_enter Try.func12, Try.ntmps12
    go_wp2
    go_ret
    exact ⟨rfl, hd.out, Kept.refl _ _⟩
  · have h1 : decide (i < 0) = false := by simpa using h0
    have h2 : (n : Int) ≤ i := by omega
    clear hi h0
    go_enter Try.func12, Try.ntmps12
    go_wp2
    go_ret
    exact ⟨rfl, hd.out, Kept.refl _ _⟩
theorem rwrite_long (i : Nat) (hi : i < n) (A : Option Addr) (k cb : Nat) (hk : 64 < k) (hkm : k ≤ 9223372036854775807) (hd : Hid (RDev w g o v t n lo s)) (hdead : Hid (s.dead = false)) :
    Calls Try.prog 12 #[.pointer (some ⟨g, 0, none⟩), .int .i64 (i : Int), .slice A k cb] w (RDid w g o v t n lo s 3) := by
  obtain ⟨ro, rv, left, hh, ho, hv, ht, hf, hlo1, hhi, hr⟩ := hd.out
  obtain ⟨⟨-, -, c2, -, -, c5, -⟩, -⟩ := rd7 hh
  rw [hdead.out] at c5
  clear hh ho hv ht hf hr
  have h1 : decide ((i : Int) < 0) = false := by simp
  have h2 : decide (n ≤ i) = false := by simp; omega
  go_enter Try.func12, Try.ntmps12
  go_wp2
  go_ret
  exact ⟨rfl, hd.out, Kept.refl _ _⟩
theorem rwrite_burnt (i : Nat) (hi : i < n) (A : Option Addr) (k cb : Nat) (hk : k ≤ 64) (hlo : lo ≤ 1000) (hd : Hid (RDev w g o v t n lo s)) (hdead : Hid (s.dead = false)) (hlast : Hid (s.lasts = false)) :
    Calls Try.prog 12 #[.pointer (some ⟨g, 0, none⟩), .int .i64 (i : Int), .slice A k cb] w (RDid w g o v t n (lo + 1) s.burnt 1) := by
  obtain ⟨ro, rv, left, hh, ho, hv, ht, hf, hlo1, hhi, hr⟩ := hd.out
  obtain ⟨⟨-, -, c2, -, -, c5, -⟩, -⟩ := rd7 hh
  rw [hdead.out] at c5
  clear hh ho hv ht hf hr
  have h1 : decide ((i : Int) < 0) = false := by simp
  have h2 : decide (n ≤ i) = false := by simp; omega
  have h3 : decide (64 < k) = false := by simpa using hk
  go_enter Try.func12, Try.ntmps12
  go_wp2_with (go_at_call 36; refine (rburn_any hlo hd).mono ?_; rw [hlast.out]; rintro e w1 ⟨rfl, hd1, hk1⟩)
  go_ret
  exact ⟨rfl, hd1, hk1.mono fun k _ e => .inl e⟩
set_option maxHeartbeats 1000000 in
theorem rwrite_ok (i : Nat) (hi : i < n) (A : Option Addr) (B k cb : Nat) (b : List Nat) (hk : k ≤ 64) (hl : Hid (b.length = k)) (hb : Hid (Bs w B A b)) (hap : Hid (∀ ad, A = some ad → 0 < b.length → ¬ rS g o v t ad.block)) (hlo : lo ≤ 1000) (hF : FlashOk n s)
    (hd : Hid (RDev w g o v t n lo s)) (hdead : Hid (s.dead = false)) (hlast : Hid (s.lasts = true)) (hwr : s.wr < 4611686018427387904) :
    Calls Try.prog 12 #[.pointer (some ⟨g, 0, none⟩), .int .i64 (i : Int), .slice A k cb] w (RDid w g o v t n (lo + 1) (s.burnt.wrote i b) 0) := by
  obtain ⟨ro, rv, left, hh, ho, hv, ht, hf, hlo1, hhi, hr⟩ := hd.out
  obtain ⟨⟨-, -, c2, -, -, c5, -⟩, -⟩ := rd7 hh
  rw [hdead.out] at c5
  clear hh ho hv ht hf hr
  have h1 : decide ((i : Int) < 0) = false := by simp
  have h2 : decide (n ≤ i) = false := by simp; omega
  have h3 : decide (64 < k) = false := by simpa using hk
  have hn2 := hF.n2
  have hwr1 : s.burnt.wr < 4611686018427387904 := by rw [(burnt_cur s).2.2]; exact hwr
  have hcl : Hid (s.burnt.cur.length = n * 64) := by show _ = _; rw [(burnt_cur s).1]; exact hF.len
  have hbl : Hid (b.length ≤ 64) := by show _ ≤ _; rw [hl.out]; exact hk
  clear hF
  go_enter Try.func12, Try.ntmps12
  go_wp2_with (go_at_call 36; refine (rburn_any hlo hd).mono ?_; rw [hlast.out]; rintro e w1 ⟨rfl, hd1, hk1⟩)
  clear c2 c5 h1 h2 h3
  have HD1 : Hid (RDev w1 g o v t n (lo + 1) s.burnt) := hd1
  have HB1 : Hid (Bs w1 B A b) := hb.out.kept hk1 (fun ad e h h' => hap.out ad e h (.inl h'))
  have HK1 := Lib.hid hk1
  clear hd1 hk1
  obtain ⟨ro, rv, left1, hh, ho, hv, ht, hf, hlo2, hhi2, hco, hcv, hr⟩ := HD1.out
  have HP := Lib.hid (And.intro hh (And.intro ho (And.intro ht (And.intro hf (And.intro hlo2 (And.intro hhi2 (And.intro hco (And.intro hcv hr))))))))
  have HV : Hid (VRow w1 v (partly s.burnt.cur b i 0) rv) := by show VRow _ _ _ _; rw [partly_zero]; exact hv
  clear hh ho hv ht hf hr hco hlo2 hhi2
  go_loopw [7] (fun iv wr => ∃ j : Nat, j ≤ 64 ∧ iv = .int .i64 (j : Int) ∧ Hid (VRow wr v (partly s.burnt.cur b i j) rv) ∧ Hid (Kept (fun k => k = v) w1 wr)) (fun iv _ => 64 - (RowKit.intOf iv).toNat)
  case atStart => exact ⟨0, by omega, rfl, HV, Kept.refl _ _⟩
  case round =>
    obtain ⟨j, hj, rfl, hrow, hkw⟩ := hrel
    have HG : Hid (wr.heap[g]? = some (.cells #[.slice (some ⟨o, 0, none⟩) (n * 64) (n * 64 + ro.length), .slice (some ⟨v, 0, none⟩) (n * 64) (n * 64 + rv.length), .slice (some ⟨t, 0, none⟩) n n, .bool s.burnt.fused, .int .i64 left1, .bool s.burnt.dead, .int .i64 (s.burnt.wr : Int)] 59 (0, 0))) :=
      (hkw.out.block g HD1.out.lt.1 (HD1.out.apart.2.1)).trans HP.out.1
    obtain ⟨⟨-, c1, c2, -, -, -, c6⟩, -, -, -, f6⟩ := rd7 HG.out
    by_cases hlt : j < 64
    · obtain ⟨hc, hfz⟩ := hrow.out.cell (j := i * 64 + j) (by rw [partly_len hcl.out hi hbl.out (by omega)]; omega)
      have HN : Hid (∀ x, x = (pad b).getD j 0 → VRow (wr.setCell ⟨v, i * 64 + j, none⟩ (.int .u8 ((x : Nat) : Int))) v (partly s.burnt.cur b i (j + 1)) rv) := fun x hx => by
        have h := hrow.out.set (i * 64 + j) x (by rw [partly_len hcl.out hi hbl.out (by omega)]; omega)
        rw [hx, partly_set hcl.out hi hbl.out hlt] at h
        rw [hx]; exact h
      have HN2 : Hid (∀ u, Kept (fun k => k = v) w1 (wr.setCell ⟨v, i * 64 + j, none⟩ u)) := fun u => hkw.out.trans (Kept.setCell (S := fun k => k = v) wr ⟨v, i * 64 + j, none⟩ u rfl)
      by_cases hjb : j < k
      · have hBr : Bs wr B A b := HB1.out.kept hkw.out (fun ad e h h' => hap.out ad e h (.inr (.inr (.inl h'))))
        obtain ⟨hx256, ad, rfl, hab, hcb⟩ := hBr j (by rw [hl.out]; exact hjb)
        have HX : Hid (b.getD j 0 = (pad b).getD j 0) := by show _ = _; rw [pad_get, if_pos (by rw [hl.out]; exact hjb)]
        clear hBr
        generalize hgx : b.getD j 0 = x at hcb hx256
        have HX2 : Hid (x = (pad b).getD j 0) := by show _ = _; rw [← hgx]; exact HX.out
        clear hgx
        go_wp2
        go_roundw
        case rel => exact ⟨j + 1, by omega, by go_num, HN.out x HX2.out, HN2.out _⟩
        case measure => simp [RowKit.intOf]; omega
      · have hd3 : decide (j < k) = false := by simpa using hjb
        have HX : Hid (0 = (pad b).getD j 0) := by show _ = _; rw [pad_get, if_neg (by rw [hl.out]; exact hjb)]
        go_wp2
        go_roundw
        case rel => exact ⟨j + 1, by omega, by go_num, HN.out 0 HX.out, HN2.out _⟩
        case measure => simp [RowKit.intOf]; omega
    · have HT : Hid (BRow wr t (dirtL n s.burnt.old)) := (hkw.out.block t HD1.out.lt.2.2.2 (fun e => HD1.out.apart.2.2.2.2.2 e.symm)).trans HP.out.2.2.1
      obtain ⟨ct, ft⟩ := HT.out.cell (j := i) (by rw [dirtL_len]; exact hi)
      have c6' : (wr.setCell ⟨t, i, none⟩ (.bool true)).cell? ⟨g, 6, none⟩ = some (.int .i64 (s.burnt.wr : Int)) := by
        rw [cell_of_row _ g 6 _ _ _ (((Kept.setCell (S := fun k => k = t) wr ⟨t, i, none⟩ (.bool true) rfl).block g (by have := HD1.out.lt; have := hkw.out.size; omega) HD1.out.apart.2.2.1).trans HG.out)]; rfl
      have f6' : (wr.setCell ⟨t, i, none⟩ (.bool true)).frozen? ⟨g, 6, none⟩ = false :=
        frozen_of_row _ g 6 _ _ (((Kept.setCell (S := fun k => k = t) wr ⟨t, i, none⟩ (.bool true) rfl).block g (by have := HD1.out.lt; have := hkw.out.size; omega) HD1.out.apart.2.2.1).trans HG.out)
      go_wp2
      go_ret
      obtain rfl : j = 64 := by omega
      obtain ⟨a1, a2, a3, a4, a5, a6⟩ := HD1.out.apart
      have K2 : Kept (fun k => k = t ∨ k = g) wr ((wr.setCell ⟨t, i, none⟩ (.bool true)).setCell ⟨g, 6, none⟩ (.int .i64 ((s.burnt.wr : Int) + 1))) :=
        (Kept.setCell (S := fun k => k = t ∨ k = g) wr ⟨t, i, none⟩ _ (.inl rfl)).trans (Kept.setCell (S := fun k => k = t ∨ k = g) _ ⟨g, 6, none⟩ _ (.inr rfl))
      have l1 := HD1.out.lt
      have l2 := hkw.out.size
      have k1 : Kept (rS g o v t) w w1 := HK1.out.mono fun k _ e => .inl e
      have k2 : Kept (rS g o v t) w1 wr := hkw.out.mono fun k _ e => .inr (.inr (.inl e))
      have k3 : Kept (rS g o v t) wr ((wr.setCell ⟨t, i, none⟩ (.bool true)).setCell ⟨g, 6, none⟩ (.int .i64 ((s.burnt.wr : Int) + 1))) := K2.mono fun k _ e => by
        rcases e with e | e
        · exact .inr (.inr (.inr e))
        · exact .inl e
      refine ⟨rfl, ⟨ro, rv, left1, ?_, ?_, ?_, ?_, ?_, HP.out.2.2.2.2.1, HP.out.2.2.2.2.2.1, HP.out.2.2.2.2.2.2.1, HP.out.2.2.2.2.2.2.2.1, HP.out.2.2.2.2.2.2.2.2⟩, (k1.trans k2).trans k3⟩
      · have h := HG.out
        have h' : (wr.setCell ⟨t, i, none⟩ (.bool true)).heap[g]? = wr.heap[g]? := (Kept.setCell (S := fun k => k = t) wr ⟨t, i, none⟩ _ rfl).block g (by omega) a3
        rw [← h'] at h
        simp [World.setCell, Array.getElem?_modify, Flash.wrote]
        simp [World.setCell, Array.getElem?_modify] at h
        simp [h]
      · rw [show oldImg n (s.burnt.wrote i b) = oldImg n s.burnt from crashed_wrote hcl.out hi hbl.out]
        exact (K2.block o (by omega) (by rintro (e | e); exact a5 e; exact a1 e.symm)).trans ((hkw.out.block o l1.2.1 a4).trans HP.out.2.1)
      · have h := hrow.out
        rw [partly_end hbl.out] at h
        exact (K2.block v (by omega) (by rintro (e | e); exact a6 e; exact a2 e.symm)).trans h
      · rw [dirtL_put]
        have h := HT.out.set i true
        exact ((Kept.setCell (S := fun k => k = g) _ ⟨g, 6, none⟩ _ rfl).block t (by simp [World.setCell]; omega) (fun e => a3 e.symm)).trans h
      · exact HP.out.2.2.2.1
theorem rwrite_any (i : Int) (A : Option Addr) (B k cb : Nat) (b : List Nat) (hkm : k ≤ 9223372036854775807) (hl : Hid (b.length = k)) (hb : Hid (Bs w B A b)) (hap : Hid (∀ ad, A = some ad → 0 < b.length → ¬ rS g o v t ad.block)) (hlo : lo ≤ 1000) (hF : FlashOk n s)
    (hd : Hid (RDev w g o v t n lo s)) (hwr : s.wr < 4611686018427387904) :
    Calls Try.prog 12 #[.pointer (some ⟨g, 0, none⟩), .int .i64 i, .slice A k cb] w (RDid w g o v t n (lo + 1) (s.write n i b) (s.writeErr n i b)) := by
  unfold Flash.write Flash.writeErr
  have more : ∀ {x : Flash} {k : Int} {e : Ending} {w' : World}, RDid w g o v t n lo x k e w' → RDid w g o v t n (lo + 1) x k e w' := fun ⟨h1, h2, h3⟩ => ⟨h1, h2.more (by omega), h3⟩
  by_cases h1 : s.dead = true
  · rw [if_pos (.inl h1), if_pos h1]
    exact (rwrite_dead i _ hd h1).mono fun _ _ => more
  have h1' : s.dead = false := by simpa using h1
  by_cases h2 : i < 0 ∨ (n : Int) ≤ i
  · rw [if_pos (by rcases h2 with h2 | h2; exact .inr (.inl h2); exact .inr (.inr (.inl h2))), if_neg h1, if_pos h2]
    exact (rwrite_range i _ h2 hd h1').mono fun _ _ => more
  obtain ⟨j, rfl⟩ : ∃ j : Nat, i = (j : Int) := ⟨i.toNat, by omega⟩
  by_cases h3 : 64 < b.length
  · rw [if_pos (.inr (.inr (.inr h3))), if_neg h1, if_neg h2, if_pos h3]
    have := hl.out
    exact (rwrite_long j (by omega) A k cb (by omega) hkm hd h1').mono fun _ _ => more
  have h0 : ¬ (s.dead = true ∨ (j : Int) < 0 ∨ (n : Int) ≤ (j : Int) ∨ 64 < b.length) := by
    rintro (h | h | h | h)
    · exact h1 h
    · exact h2 (.inl h)
    · exact h2 (.inr h)
    · exact h3 h
  rw [if_neg h0, if_neg h1, if_neg h2, if_neg h3]
  have hk : k ≤ 64 := by have := hl.out; omega
  by_cases h4 : s.lasts = true
  · rw [if_pos h4, if_pos h4, Int.toNat_natCast]
    exact rwrite_ok j (by omega) A B k cb b hk hl hb hap hlo hF hd h1' h4 hwr
  · rw [if_neg h4, if_neg h4]
    exact rwrite_burnt j (by omega) A k cb hk hlo hd h1' (Lib.hid (by simpa using h4))
end
end Go.Proofs.Ytfacinlpkblopaa
