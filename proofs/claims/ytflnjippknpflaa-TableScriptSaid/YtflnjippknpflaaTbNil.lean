/-
  The calls at a table that is none, and the numbers that the statement on many keys goes through.
-/
import Derived.Test.YtflnjippknpflaaTbLaw
set_option maxRecDepth 100000
namespace Go.Proofs.Ytflnjippknpflaa
open Go.RowKit
theorem nilset_any (k : ByteArray) (e0 e1 e2 e3 : Int) (e4 : Bool) (w : World) :
    Calls Try.prog 10 #[.pointer none, .string k, .agg #[.int .i64 e0, .int .i64 e1, .int .i64 e2, .int .i64 e3, .bool e4]] w fun e w' => e = .returned (.tuple #[]) ∧ Below w.heap.size w w' := by
  have HB : Hid (Below w.heap.size w (w.alloc (.cells #[.int .i64 e0, .int .i64 e1, .int .i64 e2, .int .i64 e3, .bool e4] 30))) := (Below.refl _ w).alloc (Nat.le_refl _) _
  go_enter Try.func10, Try.ntmps10
  go_wp2_with fail
  (try simp only [Exit.inBlock, Exit.then]); refine bodyPost_ret (results_none rfl _ _ _) rfl ?_
  exact ⟨rfl, HB.out⟩
theorem nilget_any (k : ByteArray) (w : World) :
    Calls Try.prog 12 #[.pointer none, .string k] w fun e w' => e = .returned (.tuple #[.agg #[.int .i64 0, .int .i64 0, .int .i64 0, .int .i64 0, .bool false], .bool false]) ∧ Below w.heap.size w w' := by
  have HB : Hid (Below w.heap.size w (w.alloc (.cells #[.int .i64 0, .int .i64 0, .int .i64 0, .int .i64 0, .bool false] 30))) := (Below.refl _ w).alloc (Nat.le_refl _) _
  have HX : Hid ((w.alloc (.cells #[.int .i64 0, .int .i64 0, .int .i64 0, .int .i64 0, .bool false] 30)).heap[w.heap.size]? = some (.cells #[.int .i64 0, .int .i64 0, .int .i64 0, .int .i64 0, .bool false] 30 (0, 0))) := heap_alloc_new w _
  go_enter Try.func12, Try.ntmps12
  go_upto_region 1 with fail
  generalize w.alloc (.cells #[.int .i64 0, .int .i64 0, .int .i64 0, .int .i64 0, .bool false] 30) = w0 at *
  obtain ⟨x0, hx0⟩ : ∃ x, w.heap.size = x := ⟨_, rfl⟩
  rw [hx0] at HX HB ⊢
  have HXS := Lib.hid hx0
  clear hx0
  have HXN : ∀ w3, Kept (fun k => k = x0) w0 w3 → Below x0 w w3 := fun w3 h3 => HB.out.trans (h3.below (by rw [← HXS.out]; exact HB.out.size) fun k e => by rw [e]; exact Nat.le_refl _)
  have HXN := Lib.hid HXN
  obtain ⟨x1, x2, x3, x4, x5⟩ := five_cells HX.out
  obtain ⟨y1, y2, y3, y4, y5⟩ := five_frozen HX.out
  go_wp2_with fail
  refine bodyPost_ret (results_row2 rfl _ _ x0 _ _ (0, 0) _ rfl (stored5 HX.out) Try.underlying30 rfl (by kernel_rfl)) rfl ?_
  exact ⟨rfl, by rw [HXS.out]; exact HXN.out _ (five_zero w0 x0 _ _ _ _ _ rfl)⟩
theorem nildel_any (k : ByteArray) (w : World) :
    Calls Try.prog 14 #[.pointer none, .string k] w fun e w' => e = .returned (.bool false) ∧ w = w' := by
  go_enter Try.func14, Try.ntmps14
  go_wp2_with fail
  go_ret
  exact ⟨rfl, rfl⟩
theorem nillen_any (w : World) :
    Calls Try.prog 16 #[.pointer none] w fun e w' => e = .returned (.int .i64 0) ∧ w = w' := by
  go_enter Try.func16, Try.ntmps16
  go_wp2_with fail
  go_ret
  exact ⟨rfl, rfl⟩
theorem nilpairs_any (w : World) :
    Calls Try.prog 19 #[.pointer none] w fun e w' => e = .returned (.slice none 0 0) ∧ w = w' := by
  go_enter Try.func19, Try.ntmps19
  go_wp2_with fail
  go_ret
  exact ⟨rfl, rfl⟩
theorem nilplaces_any (w : World) :
    Calls Try.prog 20 #[.pointer none] w fun e w' => e = .returned (.int .i64 0) ∧ w = w' := by
  go_enter Try.func20, Try.ntmps20
  go_wp2_with fail
  go_ret
  exact ⟨rfl, rfl⟩
theorem nilwork_any (w : World) :
    Calls Try.prog 21 #[.pointer none] w fun e w' => e = .returned (.int .i64 0) ∧ w = w' := by
  go_enter Try.func21, Try.ntmps21
  go_wp2_with fail
  go_ret
  exact ⟨rfl, rfl⟩
/-! Numbers. -/
theorem digs_lt (m : Nat) (hm : m < 1000) : ∀ x ∈ digs m, x < 256 := by
  intro y hy
  simp only [digs, List.mem_cons, List.not_mem_nil, or_false] at hy
  omega
theorem nm_inj {a b : Nat} (ha : a < 1000) (hb : b < 1000) (h : nm a = nm b) : a = b := by
  have h2 := (strOf_eq (digs_lt a ha) (digs_lt b hb)).1 h
  simp only [digs, List.cons.injEq, and_true] at h2
  omega
theorem cop7 (n : Nat) (h : n % 7 ≠ 0) : Nat.Coprime n 7 := by
  have h1 : n % 7 = 1 ∨ n % 7 = 2 ∨ n % 7 = 3 ∨ n % 7 = 4 ∨ n % 7 = 5 ∨ n % 7 = 6 := by omega
  have h2 : Nat.gcd 7 n = Nat.gcd (n % 7) 7 := Nat.gcd_rec 7 n
  show Nat.gcd n 7 = 1
  rw [Nat.gcd_comm, h2]
  rcases h1 with h | h | h | h | h | h <;> rw [h] <;> decide
theorem seven_le (n f a b : Nat) (h : n % 7 ≠ 0) (hab : a ≤ b) (hb : b < n) (he : (a * 7 + f) % n = (b * 7 + f) % n) : a = b := by
  have h1 : (b * 7 + f) % n = ((a * 7 + f) + (b - a) * 7) % n := by congr 1; omega
  have h2 : n ∣ (b - a) * 7 := by
    rw [h1] at he
    have h3 := Nat.sub_mod_eq_zero_of_mod_eq he.symm
    rw [Nat.add_sub_cancel_left] at h3
    exact Nat.dvd_of_mod_eq_zero h3
  have h3 : n ∣ b - a := (cop7 n h).dvd_of_dvd_mul_right h2
  rcases Nat.eq_zero_or_pos (b - a) with h4 | h4
  · omega
  · have := Nat.le_of_dvd h4 h3
    omega
theorem seven (n f a b : Nat) (h : n % 7 ≠ 0) (ha : a < n) (hb : b < n) (he : (a * 7 + f) % n = (b * 7 + f) % n) : a = b := by
  rcases Nat.le_total a b with hab | hab
  · exact seven_le n f a b h hab hb he
  · exact (seven_le n f b a h hab ha he.symm).symm
/-- What the table holds: a key for each number of a set. -/
def MH (D : Nat → Prop) (k : ByteArray) (e : Tb.En) : Prop := ∃ j, D j ∧ nm j = k ∧ (⟨0, (j : Int), 0, 0, false⟩ : Tb.En) = e
theorem MH.next (i : Nat) (k : ByteArray) (e : Tb.En) (hi : i < 1000) : ((nm i = k ∧ (⟨0, (i : Int), 0, 0, false⟩ : Tb.En) = e) ∨ (nm i ≠ k ∧ MH (· < i) k e)) ↔ MH (· < i + 1) k e := by
  constructor
  · rintro (⟨h1, h2⟩ | ⟨_, j, hj, h1, h2⟩)
    · exact ⟨i, Nat.lt_succ_self i, h1, h2⟩
    · exact ⟨j, Nat.lt_succ_of_lt hj, h1, h2⟩
  · rintro ⟨j, hj, h1, h2⟩
    rcases Nat.lt_or_ge j i with h | h
    · exact .inr ⟨fun e => by
        have := nm_inj hi (Nat.lt_trans h hi) (e.trans h1.symm)
        omega, j, h, h1, h2⟩
    · obtain rfl : j = i := by have : j < i + 1 := hj; omega
      exact .inl ⟨h1, h2⟩
theorem MH.fresh (i : Nat) (hi : i < 1000) (x : Tb.En) : ¬ MH (· < i) (nm i) x := by
  rintro ⟨j, hj, h1, _⟩
  have hj : j < i := hj
  have := nm_inj (Nat.lt_trans hj hi) hi h1
  omega
/-- The numbers left when the first i of the row 7·i + f are gone. -/
def Left (n f i : Nat) (j : Nat) : Prop := j < n ∧ ∀ i', i' < i → (i' * 7 + f) % n ≠ j
theorem MH.gone (n f i : Nat) (k : ByteArray) (e : Tb.En) (hn : n < 1000) (hi : i < n) : (MH (Left n f i) k e ∧ nm ((i * 7 + f) % n) ≠ k) ↔ MH (Left n f (i + 1)) k e := by
  have h0 : (i * 7 + f) % n < n := Nat.mod_lt _ (by omega)
  constructor
  · rintro ⟨⟨j, ⟨hj, hl⟩, h1, h2⟩, hk⟩
    refine ⟨j, ⟨hj, fun i' h' he => ?_⟩, h1, h2⟩
    rcases Nat.lt_or_ge i' i with h | h
    · exact hl i' h he
    · obtain rfl : i' = i := by omega
      exact hk (by rw [he]; exact h1)
  · rintro ⟨j, ⟨hj, hl⟩, h1, h2⟩
    refine ⟨⟨j, ⟨hj, fun i' h' => hl i' (by omega)⟩, h1, h2⟩, fun hk => ?_⟩
    exact hl i (Nat.lt_succ_self i) (nm_inj (by omega) (by omega) (hk.trans h1.symm))
theorem MH.here (n f i : Nat) (h : n % 7 ≠ 0) (hi : i < n) : MH (Left n f i) (nm ((i * 7 + f) % n)) ⟨0, (((i * 7 + f) % n : Nat) : Int), 0, 0, false⟩ :=
  ⟨_, ⟨Nat.mod_lt _ (by omega), fun i' h' he => by
    have := seven n f i' i h (by omega) hi he
    omega⟩, rfl, rfl⟩
theorem MH.one {D : Nat → Prop} {i : Nat} {x : Tb.En} (hD : ∀ j, D j → j < 1000) (hi : i < 1000) (h : MH D (nm i) x) : x = ⟨0, (i : Int), 0, 0, false⟩ := by
  obtain ⟨j, hj, h1, h2⟩ := h
  rw [← h2, nm_inj (hD j hj) hi h1]
theorem left0 (n f : Nat) (k : ByteArray) (e : Tb.En) : MH (· < n) k e ↔ MH (Left n f 0) k e :=
  ⟨fun ⟨j, hj, h⟩ => ⟨j, ⟨hj, fun _ h => absurd h (Nat.not_lt_zero _)⟩, h⟩, fun ⟨j, hj, h⟩ => ⟨j, hj.1, h⟩⟩
end Go.Proofs.Ytflnjippknpflaa
