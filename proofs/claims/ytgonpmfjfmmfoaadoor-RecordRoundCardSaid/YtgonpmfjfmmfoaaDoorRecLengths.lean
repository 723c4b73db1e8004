/-
  Encode as one contract; the walk of the statement on the lengths of the two formats.
-/
import Derived.Test.YtgonpmfjfmmfoaaDoorRecCheckLaw
namespace Go.Proofs.YtgonpmfjfmmfoaaDoor
open Go.RowKit
/-- What Encode leaves, with its error: bytes in a row of their own where there is none, nothing where there is one. -/
def EncR (w : World) (v seq off : Int) (r : Rc.Rec) (e : Ending) (w' : World) : Prop :=
  ∃ A3 n3 c3, e = .returned (.tuple #[.slice A3 n3 c3, .int .i64 (Rc.err v seq off r)]) ∧ SlIs A3 n3 c3 ∧ (Rc.err v seq off r = 0 → n3 = (Rc.enc v seq off r).length ∧ BsIn w' w.heap.size w'.heap.size A3 (Rc.enc v seq off r)) ∧ (Rc.err v seq off r ≠ 0 → n3 = 0) ∧ Below w.heap.size w w'
theorem err_zero {v seq off : Int} {r : Rc.Rec} : Rc.err v seq off r = 0 ↔ Rc.check v r = 0 ∧ Rc.place seq off := by
  unfold Rc.err
  by_cases h : Rc.check v r = 0
  · rw [if_neg (by rw [h]; decide)]
    by_cases hp : Rc.place seq off
    · rw [if_pos hp]; exact ⟨fun _ => ⟨h, hp⟩, fun _ => rfl⟩
    · rw [if_neg hp]; exact ⟨fun h => (by cases h), fun h => absurd h.2 hp⟩
  · rw [if_pos h]; exact ⟨fun e => absurd e h, fun e => absurd e.1 h⟩
theorem encode_any (v seq off kd x : Int) (key val : List Nat) (A : Option Addr) (B n c : Nat) (A' : Option Addr) (n' c' : Nat) (w : World) (hB : B ≤ w.heap.size) (hsq : seq ≤ 9223372036854775807)
    (hs : SlIs A n c) (hs' : SlIs A' n' c') (hk : key.length = n ∧ Bs w B A key) (hv : val.length = n' ∧ Bs w B A' val) (ht : TabW w) (hz : 0 < w.heap.size) :
    Calls Tryd.prog 16 #[.int .i64 v, .int .i64 seq, .int .i64 off, .agg #[.int .i64 kd, .slice A n c, .slice A' n' c', .int .i64 x]] w (EncR w v seq off ⟨kd, key, val, x⟩) := by
  by_cases h : Rc.err v seq off ⟨kd, key, val, x⟩ = 0
  · obtain ⟨h1, h2⟩ := err_zero.1 h
    refine (encode_ok v seq off kd x key val A B n c A' n' c' w h1 h2 hB hsq ⟨hs, hk⟩ ⟨hs', hv⟩ ht hz).mono ?_
    rintro e w' ⟨u, rfl, hown, hb⟩
    obtain ⟨A3, c3, rfl, hbs, hl3, hn3, hm3, ho3⟩ := own_bytes hown (Rc.enc_lt _ _ _ _ hk.2.lt hv.2.lt)
    refine ⟨A3, _, c3, by rw [h], sl_own hn3 hm3 ho3, fun _ => ⟨rfl, own_bsin hbs ?_⟩, fun e => absurd h e, hb⟩
    rcases ho3 with ⟨e, _⟩ | e
    · exact .inl e
    · exact .inr e
  · have hc : Rc.check v ⟨kd, key, val, x⟩ = Rc.chk v kd n n' x := by
      unfold Rc.check
      rw [hk.1, hv.1]
    have h2 : Rc.chk v kd n n' x ≠ 0 ∨ ¬ Rc.place seq off := by
      by_cases h3 : Rc.chk v kd n n' x = 0
      · exact .inr fun hp => h (err_zero.2 ⟨by rw [hc]; exact h3, hp⟩)
      · exact .inl h3
    refine (encode_bad v seq off kd x A n c A' n' c' w h2).mono ?_
    rintro e w' ⟨rfl, hb⟩
    refine ⟨none, 0, 0, ?_, ⟨fun _ => ⟨rfl, rfl⟩, Nat.le_refl _, by omega⟩, fun e => absurd e h, fun _ => rfl, hb⟩
    have e1 : Rc.err v seq off ⟨kd, key, val, x⟩ = if Rc.chk v kd n n' x ≠ 0 then Rc.chk v kd n n' x else 2 := by
      unfold Rc.err
      rw [hc]
      by_cases h3 : Rc.chk v kd n n' x = 0
      · have h4 := h2.resolve_left fun e => e h3
        simp [h3, h4]
      · simp [h3]
    rw [e1]
/-- The errors of the two formats. -/
theorem err_two (seq off : Int) (r : Rc.Rec) : (Rc.err 1 seq off r = 0 → Rc.err 2 seq off r = 0) ∧ (Rc.err 1 seq off r ≠ 0 → Rc.err 2 seq off r = Rc.err 1 seq off r ∨ Rc.err 1 seq off r = 7) := by
  have hm : Rc.most 1 = 4294967295 ∧ Rc.most 2 = 1099511627775 := ⟨rfl, rfl⟩
  have key : (Rc.check 1 r = Rc.check 2 r) ∨ Rc.check 1 r = 7 := by
    unfold Rc.check Rc.chk
    rw [hm.1, hm.2, if_neg (show ¬ ((1 : Int) ≠ 1 ∧ (1 : Int) ≠ 2) by decide), if_neg (show ¬ ((2 : Int) ≠ 1 ∧ (2 : Int) ≠ 2) by decide)]
    (repeat' split) <;> first | exact .inl rfl | exact .inr rfl | contradiction | (exfalso; omega)
  have h7 : Rc.check 1 r = 7 → Rc.err 1 seq off r = 7 := fun h => by unfold Rc.err; rw [if_pos (by rw [h]; decide), h]
  have heq : Rc.check 1 r = Rc.check 2 r → Rc.err 2 seq off r = Rc.err 1 seq off r := fun h => by unfold Rc.err; rw [h]
  constructor
  · intro h
    rcases key with k | k
    · rw [heq k]; exact h
    · rw [h7 k] at h; cases h
  · intro _
    rcases key with k | k
    · exact .inl (heq k)
    · exact .inr (h7 k)
theorem min_le {n k m : Nat} (h : MinIs n k m) : m ≤ n := by unfold MinIs at h; omega
theorem min_sl {A : Option Addr} {n c k m : Nat} (hs : SlIs A n c) (h : MinIs n k m) : SlIs A m c := by
  have := min_le h
  obtain ⟨h1, h2, h3⟩ := hs
  exact ⟨fun e => ⟨(h1 e).1, by have := h1 e; omega⟩, by omega, h3⟩
theorem min_bs {w : World} {B : Nat} {A : Option Addr} {n k m : Nat} {l : List Nat} (hl : l.length = n) (hb : Bs w B A l) (h : MinIs n k m) : (l.take m).length = m ∧ Bs w B A (l.take m) :=
  ⟨by rw [List.length_take]; have := min_le h; omega, hb.take m⟩
/-- A record's box, behind Short and the store of what it gave. -/
theorem sd_box {w w1 : World} {o : Obj} {a b c d : Value} {t : TypeId} (e : o = .cells #[a, b, c, d] t) (hb : Below (w.alloc o).heap.size (w.alloc o) w1) : Sd w w.heap.size (.cells #[a, b, c, d] t (0, 0)) w1 := by
  subst e
  exact ⟨boxed hb, ((Below.refl _ w).alloc (Nat.le_refl _) _).trans (hb.mono (by simp))⟩
set_option maxHeartbeats 1000000 in
theorem recordlengths_any (seq off kd x : Int) (A1 A2 : Option Addr) (n1 n2 c1 c2 : Nat) (k l : List Nat) (w : World) (hsq : seq ≤ 9223372036854775807) (hs1 : SlIs A1 n1 c1) (hs2 : SlIs A2 n2 c2) (hk : Hid (k.length = n1 ∧ Bs w w.heap.size A1 k)) (hv : Hid (l.length = n2 ∧ Bs w w.heap.size A2 l)) (ht : Hid (TabW w)) (hz : 0 < w.heap.size) :
    Calls Tryd.prog 8 #[.int .i64 seq, .int .i64 off, .agg #[.int .i64 kd, .slice A1 n1 c1, .slice A2 n2 c2, .int .i64 x]] w fun e w' => e = .returned (.bool true) ∧ Below w.heap.size w w' := by
  obtain ⟨m1, hm1⟩ := min_is n1 260
  obtain ⟨m2, hm2⟩ := min_is n2 200
  have HSH := Lib.hid (fun W => short_any kd x A1 A2 n1 n2 c1 c2 m1 m2 W hs1 hs2 hm1 hm2)
  have HEN : Hid (∀ v W, Below w.heap.size w W → Calls Tryd.prog 16 #[.int .i64 v, .int .i64 seq, .int .i64 off, .agg #[.int .i64 kd, .slice A1 m1 c1, .slice A2 m2 c2, .int .i64 x]] W (EncR W v seq off ⟨kd, k.take m1, l.take m2, x⟩)) := fun v W hW => by
    obtain ⟨a1, a2⟩ := min_bs hk.out.1 hk.out.2 hm1
    obtain ⟨b1, b2⟩ := min_bs hv.out.1 hv.out.2 hm2
    exact encode_any v seq off kd x _ _ A1 w.heap.size m1 c1 A2 m2 c2 W hW.size hsq (min_sl hs1 hm1) (min_sl hs2 hm2) ⟨a1, a2.below hW (Nat.le_refl _)⟩ ⟨b1, b2.below hW (Nat.le_refl _)⟩ (ht.out.below hW hz) (Nat.lt_of_lt_of_le hz hW.size)
  have HAW : Hid (∀ W, Below w.heap.size w W → Calls Tryd.prog 11 #[] W fun e w' => e = .returned (.bool true) ∧ Below W.heap.size W w') := fun W hW => awake_any W (ht.out.below hW hz) (Nat.lt_of_lt_of_le hz hW.size)
  unfold EncR at HEN
  generalize k.take m1 = k' at HEN
  generalize l.take m2 = l' at HEN
  have H2 := err_two seq off ⟨kd, k', l', x⟩
  have L1 := Rc.enc_length 1 seq off ⟨kd, k', l', x⟩
  have L2 := Rc.enc_length 2 seq off ⟨kd, k', l', x⟩
  have L16 : 16 ≤ Rc.len ⟨kd, k', l', x⟩ := by unfold Rc.len; omega
  clear hs1 hs2 hm1 hm2
  have HE1 := Lib.hid (HEN.out 1)
  have HE2 := Lib.hid (HEN.out 2)
  clear HEN
  generalize Rc.len ⟨kd, k', l', x⟩ = L at L1 L2 L16
  rw [L1] at HE1
  rw [L2] at HE2
  generalize Rc.err 1 seq off ⟨kd, k', l', x⟩ = q1 at H2 HE1
  generalize Rc.err 2 seq off ⟨kd, k', l', x⟩ = q2 at H2 HE2
  clear L1 L2
  have hcase : (q1 = 0 ∧ q2 = 0) ∨ ((q1 != 0) = true ∧ ((q2 == q1) = true ∨ ((q2 == q1) = false ∧ q1 = 7))) := by
    by_cases h : q1 = 0
    · exact .inl ⟨h, H2.1 h⟩
    · refine .inr ⟨by rw [bne_iff_ne]; exact h, ?_⟩
      by_cases h2 : q2 = q1
      · exact .inl (by simpa using h2)
      · exact .inr ⟨by simpa using h2, (H2.2 h).resolve_left h2⟩
  clear H2
  have d15 : decide ((15 : Int) < (L : Int)) = true := by simp; omega
  rcases hcase with ⟨rfl, rfl⟩ | ⟨f1, f2 | ⟨f2, rfl⟩⟩
  all_goals
    go_enter Tryd.func8, Tryd.ntmps8
    go_wp2_with fail
    refine (HSH.out _).mono ?_
    rintro e w1 ⟨rfl, hb1⟩
    have HS1 := Lib.hid (sd_box rfl hb1); clear hb1
    obtain ⟨z0, z1, z2, z3⟩ := four_cells HS1.out.1
    obtain ⟨g0, g1, g2, g3⟩ := four_frozen HS1.out.1
    have HS2 := Lib.hid (sd_stored (a' := .int .i64 kd) (b' := .slice A1 m1 c1) (c' := .slice A2 m2 c2) (d' := .int .i64 x) HS1.out (Nat.le_refl _))
    go_wp2_with fail
    generalize ((((w1.setCell ⟨w.heap.size, 0, none⟩ (.int .i64 kd)).setCell ⟨w.heap.size, 1, none⟩ (.slice A1 m1 c1)).setCell ⟨w.heap.size, 2, none⟩ (.slice A2 m2 c2)).setCell ⟨w.heap.size, 3, none⟩ (.int .i64 x)) = w2 at *
    clear z0 z1 z2 z3 g0 g1 g2 g3
    refine (HE1.out _ HS2.out.2).mono ?_
    rintro e w3 ⟨A3, n3, c3, rfl, hs3, hy3, hx3, hb3⟩
    have HS3 := Lib.hid (HS2.out.next hb3 (by rfl) (by rfl) (by rfl) (by rfl)); clear hb3
    obtain ⟨z0, z1, z2, z3⟩ := four_cells HS3.out.1
    go_wp2_with fail
    refine (HE2.out _ HS3.out.2).mono ?_
    rintro e w4 ⟨A4, n4, c4, rfl, hs4, hy4, hx4, hb4⟩
    have HS4 := Lib.hid (HS3.out.next hb4 (by rfl) (by rfl) (by rfl) (by rfl)); clear hb4 z0 z1 z2 z3
    go_wp2_with (go_at_call 11; refine (HAW.out _ HS4.out.2).mono ?_; rintro e w5 ⟨rfl, hb5⟩; have HS5 := Lib.hid (HS4.out.next hb5 (by rfl) (by rfl) (by rfl) (by rfl)); clear hb5)
    go_ret
    exact ⟨rfl, HS5.out.2⟩
end Go.Proofs.YtgonpmfjfmmfoaaDoor
