/-
  The walks of the reference's Frames and May, and of the calls on a nil packer.
-/
import Derived.Test.YtjmhnbohojdodaaDoorPkRefTake
import Derived.Test.YtjmhnbohojdodaaDoorGmSecs
set_option maxRecDepth 100000
namespace Go.Proofs.YtjmhnbohojdodaaDoor
open Go.RowKit
theorem FrRow.at {w : World} {S U : Nat → Prop} {A : Option Addr} {n c k : Nat} {fs : List (List Nat)} (h : FrRow w S U (.slice A n c) n fs) (hk : k < n) (hlt : ∀ x ∈ fs.getD k [], x < 256) :
    ∃ ad gf cf, A = some ad ∧ w.cell? (ad.add k) = some (.slice (some ⟨gf, 0, none⟩) 64 cf) ∧ (fs.getD k []).length = 64 ∧ Bs w w.heap.size (some ⟨gf, 0, none⟩) (fs.getD k []) := by
  obtain ⟨sl, h1, -, h3⟩ := h
  obtain ⟨gf, cf, e, hr⟩ := h3 k hk
  have hl := h1.len (Sh := slS)
  obtain ⟨A', c', e', -, ha⟩ := ARow.open_ (S := slS) h1.1
  injection e' with e1
  subst e1
  obtain ⟨ad, rfl, -, -, h4⟩ := ha k (by omega)
  have h5 := h4 0 (.slice (some ⟨gf, 0, none⟩) 64 cf) (by show (slS.cs (sl.getD k (none, 0, 0)))[0]? = _; rw [e]; rfl)
  refine ⟨ad, gf, cf, rfl, by rwa [show k * slS.m + 0 = k from Nat.mul_one k] at h5, ?_, hr.bs hlt⟩
  have := hr.1.1
  rw [vals_length] at this
  omega
set_option maxHeartbeats 1000000 in
theorem refframes_any {S U S' U' : Nat → Prop} (v v' : Value) (n : Nat) (fs : List (List Nat)) (w : World) (h1 : Hid (FrRow w S U v n fs)) (h2 : Hid (FrRow w S' U' v' n fs)) (hn : n ≤ 1000000) (hlt : Hid (∀ k, k < n → ∀ x ∈ fs.getD k [], x < 256)) :
    Calls Tryd.prog 19 #[v, v'] w fun e w' => e = .returned (.bool true) ∧ Below w.heap.size w w' := by
  obtain ⟨A, c, rfl, hs1⟩ := h1.out.open_
  obtain ⟨A', c', rfl, hs2⟩ := h2.out.open_
  obtain ⟨-, hs1, hs1'⟩ := hs1
  obtain ⟨-, hs2, hs2'⟩ := hs2
  have HB0 := Lib.hid (Below.refl w.heap.size w)
  have HR : Hid (∀ W k gf cf gf' cf', k < n → Bs W W.heap.size (some ⟨gf, 0, none⟩) (fs.getD k []) → Bs W W.heap.size (some ⟨gf', 0, none⟩) (fs.getD k []) → (fs.getD k []).length = 64 → Calls Tryd.prog 20 #[.slice (some ⟨gf, 0, none⟩) 64 cf, .slice (some ⟨gf', 0, none⟩) 64 cf'] W (SaysQuiet true W)) := fun W k gf cf gf' cf' _ b1 b2 b3 => by
    have := refeq_any (some ⟨gf, 0, none⟩) (some ⟨gf', 0, none⟩) W.heap.size W.heap.size 64 64 cf cf' (fs.getD k []) (fs.getD k []) W b3 b3 (by decide) (by decide) b1 b2
    rwa [decide_eq_true rfl] at this
  go_enter Tryd.func19, Tryd.ntmps19
  go_wp2
  go_loopw [5, 13] (fun _ iv wr => ∃ k q : Nat, k ≤ n ∧ iv = .int .i64 k ∧ wr = w.drewN q) (fun _ i _ => n - (Go.RowKit.intOf i).toNat)
  case atStart => exact ⟨0, 0, Nat.zero_le _, rfl, rfl⟩
  case round =>
    obtain ⟨k, q, hk, rfl, rfl⟩ := hrel
    by_cases hlt1 : k < n
    · obtain ⟨ad, gf, cf, rfl, c1, c2, c3⟩ := h1.out.at hlt1 (hlt.out k hlt1)
      obtain ⟨ad', gf', cf', rfl, c4, -, c6⟩ := h2.out.at hlt1 (hlt.out k hlt1)
      have HQ := Lib.hid (fun W (e : W.heap = w.heap) => HR.out W k gf cf gf' cf' hlt1 (fun j hj => (fun h => ⟨h.1, h.2.choose, h.2.choose_spec.1, by rw [e]; exact h.2.choose_spec.2.1, (World.cell?_of_block (by rw [e])).trans h.2.choose_spec.2.2⟩) (c3 j hj)) (fun j hj => (fun h => ⟨h.1, h.2.choose, h.2.choose_spec.1, by rw [e]; exact h.2.choose_spec.2.1, (World.cell?_of_block (by rw [e])).trans h.2.choose_spec.2.2⟩) (c6 j hj)) c2)
      clear c2 c3 c6
      go_wp2_with fail
      go_region_held3 (fun W => W.cell? (ad.add k) = some (.slice (some ⟨gf, 0, none⟩) 64 cf) ∧ W.cell? (ad'.add k) = some (.slice (some ⟨gf', 0, none⟩) 64 cf'))
        (first
          | go_keep
          | exact ⟨c1, c4⟩)
        (first
          | (go_at_call 20; refine (HQ.out _ (by rfl)).mono ?_; rintro e w1 ⟨rfl, q1, rfl⟩))
      all_goals
        go_wp2
        go_roundw
        case rel => exact ⟨k + 1, _, by omega, by go_num, rfl⟩
        case measure => simp [Go.RowKit.intOf]; omega
    · obtain rfl : k = n := by omega
      go_wp2
      go_ret
      exact ⟨rfl, below_drawn HB0.out _⟩
set_option maxHeartbeats 1000000 in
theorem refpkmay_any (a b c d slot seq : Int) (w : World) :
    Calls Tryd.prog 9 #[.agg #[.int .i64 a, .int .i64 b, .int .i64 c, .int .i64 d], .int .i64 slot, .int .i64 seq] w fun e w' => e = .returned (.int .i64 (Pk.may ⟨a, b, c, d⟩ slot seq)) ∧ Below w.heap.size w w' := by
  have CF := Lib.hid (fun W => refsbform_any a b c d W)
  have HS0 := Lib.hid (sd_new w #[.int .i64 a, .int .i64 b, .int .i64 c, .int .i64 d] 23)
  by_cases hf : Sb.form ⟨a, b, c, d⟩
  · rw [decide_eq_true hf] at CF
    have hways : (Hid (Pk.may ⟨a, b, c, d⟩ slot seq = 2) ∧ (decide (slot < 0) = true ∨ decide (slot < 0) = false ∧ (decide (d ≤ slot) = true ∨ decide (d ≤ slot) = false ∧ (decide (seq < 1) = true ∨ decide (seq < 1) = false ∧ decide (281474976710655 < seq) = true)))) ∨ (Hid (Pk.may ⟨a, b, c, d⟩ slot seq = 0) ∧ decide (slot < 0) = false ∧ decide (d ≤ slot) = false ∧ decide (seq < 1) = false ∧ decide (281474976710655 < seq) = false) := by
      simp only [decide_eq_true_eq, decide_eq_false_iff_not]
      by_cases h : 0 ≤ slot ∧ slot < d ∧ 1 ≤ seq ∧ seq ≤ 281474976710655
      · exact .inr ⟨Pk.may_zero ⟨⟨hf, h.1, h.2.1⟩, h.2.2⟩, by omega, by omega, by omega, by omega⟩
      · refine .inl ⟨?_, by omega⟩
        show _ = _
        unfold Pk.may
        rw [if_pos hf, if_neg (fun k => h ⟨k.1.2.1, k.1.2.2, k.2.1, k.2.2⟩)]
    rcases hways with ⟨he, f1 | ⟨f1, f2 | ⟨f2, f3 | ⟨f3, f4⟩⟩⟩⟩ | ⟨he, f1, f2, f3, f4⟩
    all_goals
      rw [he.out]
      clear he hf
      go_enter Tryd.func9, Tryd.ntmps9
      go_upto_region 1 with fail
      generalize w.alloc (.cells #[.int .i64 a, .int .i64 b, .int .i64 c, .int .i64 d] 23) = w0 at *
      obtain ⟨z0, z1, z2, z3⟩ := four_cells HS0.out.1
      go_wp2_with fail
      refine (CF.out _).mono ?_
      rintro r w1 ⟨rfl, hb1⟩
      have HS1 := Lib.hid (HS0.out.next hb1 (by rfl) (by rfl) (by rfl) (by rfl))
      clear hb1
      obtain ⟨y0, y1, y2, y3⟩ := four_cells HS1.out.1
      go_wp2_with fail
      go_ret
      exact ⟨rfl, HS1.out.2⟩
  · have he : Hid (Pk.may ⟨a, b, c, d⟩ slot seq = 4) := by show _ = _; unfold Pk.may; rw [if_neg hf]
    rw [he.out]
    rw [decide_eq_false hf] at CF
    clear he hf
    go_enter Tryd.func9, Tryd.ntmps9
    go_upto_region 1 with fail
    generalize w.alloc (.cells #[.int .i64 a, .int .i64 b, .int .i64 c, .int .i64 d] 23) = w0 at *
    obtain ⟨z0, z1, z2, z3⟩ := four_cells HS0.out.1
    go_wp2_with fail
    refine (CF.out _).mono ?_
    rintro r w1 ⟨rfl, hb1⟩
    have HS1 := Lib.hid (HS0.out.next hb1 (by rfl) (by rfl) (by rfl) (by rfl))
    go_wp2_with fail
    go_ret
    exact ⟨rfl, HS1.out.2⟩
section
variable (w : World)
theorem pkput_nil (kd x : Int) (A1 A2 : Option Addr) (n1 c1 n2 c2 : Nat) : Calls Tryd.prog 12 #[.pointer none, .agg #[.int .i64 kd, .slice A1 n1 c1, .slice A2 n2 c2, .int .i64 x]] w fun e w' => e = .returned (.tuple #[.int .i64 0, .int .i64 0, .int .i64 1]) ∧ Below w.heap.size w w' := by
  go_enter Tryd.func12, Tryd.ntmps12
  go_wp2
  go_ret3
  exact ⟨rfl, (Below.refl _ _).alloc (Nat.le_refl _) _⟩
theorem pkpad_nil : Calls Tryd.prog 14 #[.pointer none] w fun e w' => e = .returned (.tuple #[]) ∧ w = w' := by
  go_enter Tryd.func14, Tryd.ntmps14
  go_wp2
  (try simp only [Exit.inBlock, Exit.then])
  refine bodyPost_ret (results_none rfl _ _ _) rfl ?_
  exact ⟨rfl, rfl⟩
theorem pktake_nil : Calls Tryd.prog 16 #[.pointer none] w fun e w' => e = .returned (.tuple #[.slice none 0 0, .slice none 0 0]) ∧ w = w' := by
  go_enter Tryd.func16, Tryd.ntmps16
  go_wp2
  go_ret2
  exact ⟨rfl, rfl⟩
theorem pkoff_nil : Calls Tryd.prog 22 #[.pointer none] w fun e w' => e = .returned (.int .i64 0) ∧ w = w' := by
  go_enter Tryd.func22, Tryd.ntmps22
  go_wp2
  go_ret
  exact ⟨rfl, rfl⟩
theorem pkroom_nil : Calls Tryd.prog 23 #[.pointer none] w fun e w' => e = .returned (.int .i64 0) ∧ w = w' := by
  go_enter Tryd.func23, Tryd.ntmps23
  go_wp2
  go_ret
  exact ⟨rfl, rfl⟩
theorem pkbytes_nil (o m : Int) : Calls Tryd.prog 21 #[.pointer none, .int .i64 o, .int .i64 m] w fun e w' => e = .returned (.slice none 0 0) ∧ w = w' := by
  go_enter Tryd.func21, Tryd.ntmps21
  go_wp2
  go_ret
  exact ⟨rfl, rfl⟩
end
end Go.Proofs.YtjmhnbohojdodaaDoor
