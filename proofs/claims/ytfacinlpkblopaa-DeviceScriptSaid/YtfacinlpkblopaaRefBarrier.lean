/-
  The walk of the reference's Barrier.
-/
import Derived.Test.YtfacinlpkblopaaRefWrite
namespace Go.Proofs.Ytfacinlpkblopaa
open Go.RowKit Go.Maps
/-- The first k marks cleared. -/
def cleared (L : List Bool) (k : Nat) : List Bool := List.replicate k false ++ L.drop k
theorem cleared_len {L : List Bool} {k : Nat} (h : k ≤ L.length) : (cleared L k).length = L.length := by
  unfold cleared; rw [List.length_append, List.length_replicate, List.length_drop]; omega
theorem cleared_set {L : List Bool} {k : Nat} (h : k < L.length) : (cleared L k).set k false = cleared L (k + 1) := by
  unfold cleared
  rw [List.set_append_right _ _ (by rw [List.length_replicate]; omega), List.length_replicate, Nat.sub_self, List.drop_eq_getElem_cons h, List.set_cons_zero, List.replicate_succ']
  simp
theorem cleared_end {n : Nat} {L : List Bool} (h : L.length = n) : cleared L n = dirtL n (fun _ => none) := by
  unfold cleared
  rw [List.drop_of_length_le (by omega), List.append_nil]
  apply List.ext_getElem
  · simp [dirtL]
  · intro k h1 h2; simp [dirtL]
section
variable {w : World} {g o v t n lo : Nat} {s : Flash}
theorem rbarrier_dead (hd : Hid (RDev w g o v t n lo s)) (hdead : Hid (s.dead = true)) :
    Calls Try.prog 17 #[.pointer (some ⟨g, 0, none⟩)] w (RDid w g o v t n lo s 1) := by
  obtain ⟨ro, rv, left, hh, ho, hv, ht, hf, hlo1, hhi, hr⟩ := hd.out
  obtain ⟨⟨-, -, -, -, -, c5, -⟩, -⟩ := rd7 hh
  rw [hdead.out] at c5
  clear hh ho hv ht hf hr
  go_enter Try.func17, Try.ntmps17
  go_wp2
  go_ret
  exact ⟨rfl, hd.out, Kept.refl _ _⟩
theorem rbarrier_burnt (hlo : lo ≤ 1000) (hd : Hid (RDev w g o v t n lo s)) (hdead : Hid (s.dead = false)) (hlast : Hid (s.lasts = false)) :
    Calls Try.prog 17 #[.pointer (some ⟨g, 0, none⟩)] w (RDid w g o v t n (lo + 1) s.burnt 1) := by
  obtain ⟨ro, rv, left, hh, ho, hv, ht, hf, hlo1, hhi, hr⟩ := hd.out
  obtain ⟨⟨-, -, -, -, -, c5, -⟩, -⟩ := rd7 hh
  rw [hdead.out] at c5
  clear hh ho hv ht hf hr
  go_enter Try.func17, Try.ntmps17
  go_wp2_with (go_at_call 36; refine (rburn_any hlo hd).mono ?_; rw [hlast.out]; rintro e w1 ⟨rfl, hd1, hk1⟩)
  go_ret
  exact ⟨rfl, hd1, hk1.mono fun k _ e => .inl e⟩
set_option maxHeartbeats 1000000 in
theorem rbarrier_ok (hlo : lo ≤ 1000) (hF : FlashOk n s) (hd : Hid (RDev w g o v t n lo s)) (hdead : Hid (s.dead = false)) (hlast : Hid (s.lasts = true)) :
    Calls Try.prog 17 #[.pointer (some ⟨g, 0, none⟩)] w (RDid w g o v t n (lo + 1) { s.burnt with old := fun _ => none } 0) := by
  obtain ⟨ro, rv, left, hh, ho, hv, ht, hf, hlo1, hhi, hr⟩ := hd.out
  obtain ⟨⟨-, -, -, -, -, c5, -⟩, -⟩ := rd7 hh
  rw [hdead.out] at c5
  clear hh ho hv ht hf hr
  have hn2 := hF.n2
  have hcl : Hid (s.burnt.cur.length = n * 64) := by show _ = _; rw [(burnt_cur s).1]; exact hF.len
  have HI : Hid ((Try.prog.info? 5).map (·.size) = some 1 ∧ (vals s.burnt.cur).length = n * 64 ∧ (vals s.burnt.cur).length = Nat.min (n * 64) (n * 64)) :=
    ⟨by kernel_rfl, by rw [vals_length, hcl.out], by rw [vals_length, hcl.out]; exact (Nat.min_self _).symm⟩
  clear hF
  go_enter Try.func17, Try.ntmps17
  go_wp2_with (go_at_call 36; refine (rburn_any hlo hd).mono ?_; rw [hlast.out]; rintro e w1 ⟨rfl, hd1, hk1⟩; have HD1 := Lib.hid hd1; have HK1 := Lib.hid hk1; clear hd1 hk1; obtain ⟨ro, rv, left1, hh, ho, hv, ht, hf, hlo2, hhi2, hco, hcv, hr⟩ := HD1.out; obtain ⟨⟨c0, c1, -, -, -, -, -⟩, -⟩ := rd7 hh; have HP := Lib.hid (And.intro hh (And.intro ho (And.intro hv (And.intro ht (And.intro hf (And.intro hlo2 (And.intro hhi2 (And.intro hco (And.intro hcv hr))))))))); clear hh ho hv ht hf hr hlo2 hhi2)
  refine wp_region_still_tail 8 (by kernel_rfl) (by kernel_rfl) ?_
  simp only [List.take_succ_cons, List.take_zero, List.drop_succ_cons, List.drop_zero]
  iterate 8 still_step
  refine wpStill_nil ?_
  change wpList _ _ _ _ _ w1.drew
  have HP2 : Hid (w1.drew.heap = w1.heap) := rfl
  have HK2 : Hid (Kept (fun k => k = g) w w1.drew) := HK1.out.drewN 1
  clear HK1 c0 c1 c5
  have HPo : Hid (w1.drew.heap[o]? = some (.cells (vals (oldImg n s.burnt) ++ ro).toArray 5 (0, 0))) := HP.out.2.1
  have HPv : Hid (w1.drew.heap[v]? = some (.cells (vals s.burnt.cur ++ rv).toArray 5 (0, 0))) := HP.out.2.2.1
  have HD1' : Hid (RDev w1.drew g o v t n (lo + 1) s.burnt) := HD1.out
  have HPg : Hid (w1.drew.heap[g]? = some (.cells #[.slice (some ⟨o, 0, none⟩) (n * 64) (n * 64 + ro.length), .slice (some ⟨v, 0, none⟩) (n * 64) (n * 64 + rv.length), .slice (some ⟨t, 0, none⟩) n n, .bool s.burnt.fused, .int .i64 left1, .bool s.burnt.dead, .int .i64 (s.burnt.wr : Int)] 59 (0, 0))) := HP.out.1
  have HPt : Hid (BRow w1.drew t (dirtL n s.burnt.old)) := HP.out.2.2.2.1
  have HPr := Lib.hid HP.out.2.2.2.2
  clear HP HP2 HD1
  generalize w1.drew = wd at HK2 HPo HPv HD1' HPg HPt ⊢
  go_wp2_with (first
    | (with_reducible refine wpList_copy_into rfl (.tmp 14) (.tmp 18) 27 27 rfl 5 Try.underlying27 HI.out.1 (some ⟨o, 0, none⟩) (some ⟨v, 0, none⟩) (n * 64) (n * 64 + ro.length) (n * 64) (n * 64 + rv.length) rfl rfl o 0 (vals (oldImg n s.burnt) ++ ro) 5 HPo.out (vals s.burnt.cur) HI.out.2.2 ?_ ?_ (vals_one _) (n * 64) HI.out.2.1 ?_
       · intro hp
         refine ⟨rfl, _, rfl, fun j x hv => ?_⟩
         have hj : j < (vals s.burnt.cur).length := (List.getElem?_eq_some_iff.1 hv).1
         rw [add_flat, Nat.zero_add, cell_of_row wd v j _ _ _ HPv.out, List.getElem?_toArray, List.getElem?_append_left hj]
         exact hv
       · rw [HI.out.2.1, List.length_append, vals_length, oldImg_len]
         omega
       intro w2 hw2 hk2
       have HG2 : Hid (w2.heap[g]? = some (.cells #[.slice (some ⟨o, 0, none⟩) (n * 64) (n * 64 + ro.length), .slice (some ⟨v, 0, none⟩) (n * 64) (n * 64 + rv.length), .slice (some ⟨t, 0, none⟩) n n, .bool s.burnt.fused, .int .i64 left1, .bool s.burnt.dead, .int .i64 (s.burnt.wr : Int)] 59 (0, 0))) :=
         (hk2.block g HD1'.out.lt.1 HD1'.out.apart.1).trans HPg.out
       obtain ⟨⟨-, -, c2, -, -, -, -⟩, -⟩ := rd7 HG2.out
       have HW2 : Hid (w2.heap[o]? = some (.cells (vals s.burnt.cur ++ ro).toArray 5 (0, 0))) := by
         show _ = _
         rw [hw2]
         have e1 : (vals (oldImg n s.burnt)).length = n * 64 := by rw [vals_length, oldImg_len]
         have e2 := HI.out.2.1
         have e : splice (vals (oldImg n s.burnt) ++ ro) 0 (vals s.burnt.cur) = vals s.burnt.cur ++ ro := by
           unfold splice
           rw [List.take_zero, List.nil_append, Nat.zero_add, e2, ← e1, List.drop_left]
         rw [e]
       have HK3 := Lib.hid hk2
       clear hk2 hw2))
  go_loopw [25] (fun iv wr => ∃ k : Nat, k ≤ n ∧ iv = .int .i64 (k : Int) ∧ Hid (BRow wr t (cleared (dirtL n s.burnt.old) k)) ∧ Hid (Kept (fun k => k = t) w2 wr)) (fun iv _ => n - (RowKit.intOf iv).toNat)
  case atStart =>
    refine ⟨0, Nat.zero_le _, rfl, ?_, Kept.refl _ _⟩
    exact (HK3.out.block t HD1'.out.lt.2.2.2 (fun e => HD1'.out.apart.2.2.2.2.1 e.symm)).trans HPt.out
  case round =>
    obtain ⟨k, hk, rfl, hrow, hkw⟩ := hrel
    have HGr : Hid (wr.heap[g]? = some (.cells #[.slice (some ⟨o, 0, none⟩) (n * 64) (n * 64 + ro.length), .slice (some ⟨v, 0, none⟩) (n * 64) (n * 64 + rv.length), .slice (some ⟨t, 0, none⟩) n n, .bool s.burnt.fused, .int .i64 left1, .bool s.burnt.dead, .int .i64 (s.burnt.wr : Int)] 59 (0, 0))) :=
      (hkw.out.block g (Nat.lt_of_lt_of_le HD1'.out.lt.1 HK3.out.size) HD1'.out.apart.2.2.1).trans HG2.out
    by_cases hlt : k < n
    · obtain ⟨⟨-, -, c2r, -, -, -, -⟩, -⟩ := rd7 HGr.out
      obtain ⟨hc, hfz⟩ := hrow.out.cell (j := k) (by rw [cleared_len (by rw [dirtL_len]; omega), dirtL_len]; exact hlt)
      go_wp2
      go_roundw
      case rel =>
        refine ⟨k + 1, by omega, by go_num, ?_, hkw.out.trans (Kept.setCell (S := fun k => k = t) wr ⟨t, k, none⟩ _ rfl)⟩
        have h := hrow.out.set k false
        rw [cleared_set (by rw [dirtL_len]; exact hlt)] at h
        exact h
      case measure => simp [RowKit.intOf]; omega
    · go_wp2
      go_ret
      obtain rfl : k = n := by omega
      obtain ⟨a1, a2, a3, a4, a5, a6⟩ := HD1'.out.apart
      have l1 := HD1'.out.lt
      have l2 := HK3.out.size
      have k1 : Kept (rS g o v t) w wd := HK2.out.mono fun k _ e => .inl e
      have k2 : Kept (rS g o v t) wd w2 := HK3.out.mono fun k _ e => .inr (.inl e)
      have k3 : Kept (rS g o v t) w2 wr := hkw.out.mono fun k _ e => .inr (.inr (.inr e))
      refine ⟨rfl, ⟨ro, rv, left1, HGr.out, ?_, ?_, ?_, HPr.out⟩, (k1.trans k2).trans k3⟩
      · rw [show oldImg k { s.burnt with old := fun _ => none } = s.burnt.cur from crashed_none hcl.out [] []]
        exact (hkw.out.block o (by omega) a5).trans HW2.out
      · exact (hkw.out.block v (by omega) a6).trans ((HK3.out.block v l1.2.2.1 (fun e => a4 e.symm)).trans HPv.out)
      · have h := hrow.out
        rw [cleared_end (dirtL_len _ _)] at h
        exact h
theorem rbarrier_any (hlo : lo ≤ 1000) (hF : FlashOk n s) (hd : Hid (RDev w g o v t n lo s)) :
    Calls Try.prog 17 #[.pointer (some ⟨g, 0, none⟩)] w (RDid w g o v t n (lo + 1) s.barrier s.barrierErr) := by
  unfold Flash.barrier Flash.barrierErr
  by_cases h1 : s.dead = true
  · rw [if_pos h1, if_pos h1]
    exact (rbarrier_dead hd h1).mono fun _ _ ⟨h1, h2, h3⟩ => ⟨h1, h2.more (by omega), h3⟩
  have h1' : s.dead = false := by simpa using h1
  rw [if_neg h1, if_neg h1]
  by_cases h4 : s.lasts = true
  · rw [if_pos h4, if_pos h4]
    exact rbarrier_ok hlo hF hd h1' h4
  · rw [if_neg h4, if_neg h4]
    exact rbarrier_burnt hlo hd h1' (Lib.hid (by simpa using h4))
end
end Go.Proofs.Ytfacinlpkblopaa
