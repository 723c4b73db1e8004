/-
  The texts RecRefCheck, RecCheckLaw, RecLengths, RecCut, RecRefEncode, RecRefEncode2, RecEncodeLaw, RecRefDecode, RecRefDec1, RecRefDec2, RecDecodeLaw of this proof, one behind the other.
-/
import Derived.Test.YtgnbmmceffolmaaGreatDoorFoldD
import Derived.Deep.DeepCutAuto
import Derived.Deep.CutBlock
import Derived.Test.YtgnbmmceffolmaaGreatDoorFoldC
section
namespace Go.Proofs.YtgnbmmceffolmaaGreatDoor
open Go.RowKit
set_option maxHeartbeats 2000000 in
theorem refcheck1 (kd : Int) (A : Option Addr) (n c : Nat) (A' : Option Addr) (n' c' : Nat) (x : Int) (w : World) :
    Calls Tryz.prog 74 #[.int .i64 1, .agg #[.int .i64 kd, .slice A n c, .slice A' n' c', .int .i64 x]] w fun e w' => e = .returned (.int .i64 (Rc.chk 1 kd n n' x)) ∧ Below w.heap.size w w' := by
  have HB : Hid (∀ o, Below w.heap.size w (w.alloc o)) := fun o => (Below.refl _ _).alloc (Nat.le_refl _) o
  by_cases a1 : kd < 1
  ·
    have e : Hid (Rc.chk 1 kd n n' x = 4) := by
      show _ = _
      unfold Rc.chk Rc.well Rc.most
      (repeat' split) <;> omega
    have f0 : decide (kd < 1) = true := by simp; omega
    rw [e.out]
    go_enter Tryz.func74, Tryz.ntmps74
    go_wp2
    go_ret
    exact ⟨rfl, HB.out _⟩
  by_cases a2 : 3 < kd
  ·
    have e : Hid (Rc.chk 1 kd n n' x = 4) := by
      show _ = _
      unfold Rc.chk Rc.well Rc.most
      (repeat' split) <;> omega
    have f0 : decide (kd < 1) = false := by simp; omega
    have f1 : decide (3 < kd) = true := by simp; omega
    rw [e.out]
    go_enter Tryz.func74, Tryz.ntmps74
    go_wp2
    go_ret
    exact ⟨rfl, HB.out _⟩
  by_cases a3 : kd = 1
  · subst a3
    by_cases n0 : n = 0
    · subst n0
      have e : Hid (Rc.chk 1 1 0 n' x = 5) := by
        show _ = _
        unfold Rc.chk Rc.well Rc.most
        (repeat' split) <;> omega
      rw [e.out]
      go_enter Tryz.func74, Tryz.ntmps74
      go_wp2
      go_ret
      exact ⟨rfl, HB.out _⟩
    by_cases n5 : 255 < n
    ·
      have e : Hid (Rc.chk 1 1 n n' x = 5) := by
        show _ = _
        unfold Rc.chk Rc.well Rc.most
        (repeat' split) <;> omega
      have f0 : ((n : Int) == 0) = false := by simp; omega
      have f1 : decide ((255 : Int) < (n : Int)) = true := by simp; omega
      rw [e.out]
      go_enter Tryz.func74, Tryz.ntmps74
      go_wp2
      go_ret
      exact ⟨rfl, HB.out _⟩
    by_cases m5 : 65536 < n'
    ·
      have e : Hid (Rc.chk 1 1 n n' x = 6) := by
        show _ = _
        unfold Rc.chk Rc.well Rc.most
        (repeat' split) <;> omega
      have f0 : ((n : Int) == 0) = false := by simp; omega
      have f1 : decide ((255 : Int) < (n : Int)) = false := by simp; omega
      have f2 : decide ((65536 : Int) < (n' : Int)) = true := by simp; omega
      rw [e.out]
      go_enter Tryz.func74, Tryz.ntmps74
      go_wp2
      go_ret
      exact ⟨rfl, HB.out _⟩
    by_cases x1 : x < 0
    · 
      have e : Hid (Rc.chk 1 1 n n' x = 7) := by
        show _ = _
        unfold Rc.chk Rc.well Rc.most
        (repeat' split) <;> omega
      have f0 : ((n : Int) == 0) = false := by simp; omega
      have f1 : decide ((255 : Int) < (n : Int)) = false := by simp; omega
      have f2 : decide ((65536 : Int) < (n' : Int)) = false := by simp; omega
      have f3 : decide (x < 0) = true := by simpa using x1
      rw [e.out]
      go_enter Tryz.func74, Tryz.ntmps74
      go_wp2
      go_ret
      exact ⟨rfl, HB.out _⟩
    by_cases x2 : 4294967295 < x
    ·
      have e : Hid (Rc.chk 1 1 n n' x = 7) := by
        show _ = _
        unfold Rc.chk Rc.well Rc.most
        (repeat' split) <;> omega
      have f0 : ((n : Int) == 0) = false := by simp; omega
      have f1 : decide ((255 : Int) < (n : Int)) = false := by simp; omega
      have f2 : decide ((65536 : Int) < (n' : Int)) = false := by simp; omega
      have f3 : decide (x < 0) = false := by simp; omega
      have f4 : decide ((4294967295 : Int) < x) = true := by simp; omega
      rw [e.out]
      go_enter Tryz.func74, Tryz.ntmps74
      go_wp2
      go_ret
      exact ⟨rfl, HB.out _⟩
    have e : Hid (Rc.chk 1 1 n n' x = 0) := by
      show _ = _
      unfold Rc.chk Rc.well Rc.most
      (repeat' split) <;> omega
    have f0 : ((n : Int) == 0) = false := by simp; omega
    have f1 : decide ((255 : Int) < (n : Int)) = false := by simp; omega
    have f2 : decide ((65536 : Int) < (n' : Int)) = false := by simp; omega
    have f3 : decide (x < 0) = false := by simp; omega
    have f4 : decide ((4294967295 : Int) < x) = false := by simp; omega
    rw [e.out]
    go_enter Tryz.func74, Tryz.ntmps74
    go_wp2
    go_ret
    exact ⟨rfl, HB.out _⟩
  by_cases m0 : 0 < n'
  ·
    have e : Hid (Rc.chk 1 kd n n' x = 4) := by
      show _ = _
      unfold Rc.chk Rc.well Rc.most
      (repeat' split) <;> omega
    have f0 : decide (kd < 1) = false := by simp; omega
    have f1 : decide (3 < kd) = false := by simp; omega
    have f2 : (kd != 1) = true := by rw [bne_iff_ne]; exact a3
    have f3 : decide ((0 : Int) < (n' : Int)) = true := by simp; omega
    rw [e.out]
    go_enter Tryz.func74, Tryz.ntmps74
    go_wp2
    go_ret
    exact ⟨rfl, HB.out _⟩
  obtain rfl : n' = 0 := by omega
  by_cases x0 : x = 0
  · subst x0
    by_cases k3 : kd = 3
    · subst k3
      by_cases n0 : 0 < n
      ·
        have e : Hid (Rc.chk 1 3 n 0 0 = 4) := by
          show _ = _
          unfold Rc.chk Rc.well Rc.most
          (repeat' split) <;> omega
        have f0 : decide ((0 : Int) < (n : Int)) = true := by simp; omega
        rw [e.out]
        go_enter Tryz.func74, Tryz.ntmps74
        go_wp2
        go_ret
        exact ⟨rfl, HB.out _⟩
      obtain rfl : n = 0 := by omega
      have e : Hid (Rc.chk 1 3 0 0 0 = 0) := by
        show _ = _
        unfold Rc.chk Rc.well Rc.most
        (repeat' split) <;> omega
      rw [e.out]
      go_enter Tryz.func74, Tryz.ntmps74
      go_wp2
      go_ret
      exact ⟨rfl, HB.out _⟩
    obtain rfl : kd = 2 := by omega
    clear a1 a2 a3 k3
    by_cases n0 : n = 0
    · subst n0
      have e : Hid (Rc.chk 1 2 0 0 0 = 5) := by
        show _ = _
        unfold Rc.chk Rc.well Rc.most
        (repeat' split) <;> omega
      rw [e.out]
      go_enter Tryz.func74, Tryz.ntmps74
      go_wp2
      go_ret
      exact ⟨rfl, HB.out _⟩
    by_cases n5 : 255 < n
    ·
      have e : Hid (Rc.chk 1 2 n 0 0 = 5) := by
        show _ = _
        unfold Rc.chk Rc.well Rc.most
        (repeat' split) <;> omega
      have f0 : ((n : Int) == 0) = false := by simp; omega
      have f1 : decide ((255 : Int) < (n : Int)) = true := by simp; omega
      rw [e.out]
      go_enter Tryz.func74, Tryz.ntmps74
      go_wp2
      go_ret
      exact ⟨rfl, HB.out _⟩
    have e : Hid (Rc.chk 1 2 n 0 0 = 0) := by
      show _ = _
      unfold Rc.chk Rc.well Rc.most
      (repeat' split) <;> omega
    have f0 : ((n : Int) == 0) = false := by simp; omega
    have f1 : decide ((255 : Int) < (n : Int)) = false := by simp; omega
    rw [e.out]
    go_enter Tryz.func74, Tryz.ntmps74
    go_wp2
    go_ret
    exact ⟨rfl, HB.out _⟩
  have e : Hid (Rc.chk 1 kd n 0 x = 4) := by
    show _ = _
    unfold Rc.chk Rc.well Rc.most
    (repeat' split) <;> omega
  have f0 : decide (kd < 1) = false := by simp; omega
  have f1 : decide (3 < kd) = false := by simp; omega
  have f2 : (kd != 1) = true := by rw [bne_iff_ne]; exact a3
  have f3 : (x != 0) = true := by rw [bne_iff_ne]; exact x0
  rw [e.out]
  go_enter Tryz.func74, Tryz.ntmps74
  go_wp2
  go_ret
  exact ⟨rfl, HB.out _⟩
set_option maxHeartbeats 2000000 in
theorem refcheck2 (kd : Int) (A : Option Addr) (n c : Nat) (A' : Option Addr) (n' c' : Nat) (x : Int) (w : World) :
    Calls Tryz.prog 74 #[.int .i64 2, .agg #[.int .i64 kd, .slice A n c, .slice A' n' c', .int .i64 x]] w fun e w' => e = .returned (.int .i64 (Rc.chk 2 kd n n' x)) ∧ Below w.heap.size w w' := by
  have HB : Hid (∀ o, Below w.heap.size w (w.alloc o)) := fun o => (Below.refl _ _).alloc (Nat.le_refl _) o
  by_cases a1 : kd < 1
  ·
    have e : Hid (Rc.chk 2 kd n n' x = 4) := by
      show _ = _
      unfold Rc.chk Rc.well Rc.most
      (repeat' split) <;> omega
    have f0 : decide (kd < 1) = true := by simp; omega
    rw [e.out]
    go_enter Tryz.func74, Tryz.ntmps74
    go_wp2
    go_ret
    exact ⟨rfl, HB.out _⟩
  by_cases a2 : 3 < kd
  ·
    have e : Hid (Rc.chk 2 kd n n' x = 4) := by
      show _ = _
      unfold Rc.chk Rc.well Rc.most
      (repeat' split) <;> omega
    have f0 : decide (kd < 1) = false := by simp; omega
    have f1 : decide (3 < kd) = true := by simp; omega
    rw [e.out]
    go_enter Tryz.func74, Tryz.ntmps74
    go_wp2
    go_ret
    exact ⟨rfl, HB.out _⟩
  by_cases a3 : kd = 1
  · subst a3
    by_cases n0 : n = 0
    · subst n0
      have e : Hid (Rc.chk 2 1 0 n' x = 5) := by
        show _ = _
        unfold Rc.chk Rc.well Rc.most
        (repeat' split) <;> omega
      rw [e.out]
      go_enter Tryz.func74, Tryz.ntmps74
      go_wp2
      go_ret
      exact ⟨rfl, HB.out _⟩
    by_cases n5 : 255 < n
    ·
      have e : Hid (Rc.chk 2 1 n n' x = 5) := by
        show _ = _
        unfold Rc.chk Rc.well Rc.most
        (repeat' split) <;> omega
      have f0 : ((n : Int) == 0) = false := by simp; omega
      have f1 : decide ((255 : Int) < (n : Int)) = true := by simp; omega
      rw [e.out]
      go_enter Tryz.func74, Tryz.ntmps74
      go_wp2
      go_ret
      exact ⟨rfl, HB.out _⟩
    by_cases m5 : 65536 < n'
    ·
      have e : Hid (Rc.chk 2 1 n n' x = 6) := by
        show _ = _
        unfold Rc.chk Rc.well Rc.most
        (repeat' split) <;> omega
      have f0 : ((n : Int) == 0) = false := by simp; omega
      have f1 : decide ((255 : Int) < (n : Int)) = false := by simp; omega
      have f2 : decide ((65536 : Int) < (n' : Int)) = true := by simp; omega
      rw [e.out]
      go_enter Tryz.func74, Tryz.ntmps74
      go_wp2
      go_ret
      exact ⟨rfl, HB.out _⟩
    by_cases x1 : x < 0
    · 
      have e : Hid (Rc.chk 2 1 n n' x = 7) := by
        show _ = _
        unfold Rc.chk Rc.well Rc.most
        (repeat' split) <;> omega
      have f0 : ((n : Int) == 0) = false := by simp; omega
      have f1 : decide ((255 : Int) < (n : Int)) = false := by simp; omega
      have f2 : decide ((65536 : Int) < (n' : Int)) = false := by simp; omega
      have f3 : decide (x < 0) = true := by simpa using x1
      rw [e.out]
      go_enter Tryz.func74, Tryz.ntmps74
      go_wp2
      go_ret
      exact ⟨rfl, HB.out _⟩
    by_cases x2 : 1099511627775 < x
    ·
      have e : Hid (Rc.chk 2 1 n n' x = 7) := by
        show _ = _
        unfold Rc.chk Rc.well Rc.most
        (repeat' split) <;> omega
      have f0 : ((n : Int) == 0) = false := by simp; omega
      have f1 : decide ((255 : Int) < (n : Int)) = false := by simp; omega
      have f2 : decide ((65536 : Int) < (n' : Int)) = false := by simp; omega
      have f3 : decide (x < 0) = false := by simp; omega
      have f4 : decide ((1099511627775 : Int) < x) = true := by simp; omega
      rw [e.out]
      go_enter Tryz.func74, Tryz.ntmps74
      go_wp2
      go_ret
      exact ⟨rfl, HB.out _⟩
    have e : Hid (Rc.chk 2 1 n n' x = 0) := by
      show _ = _
      unfold Rc.chk Rc.well Rc.most
      (repeat' split) <;> omega
    have f0 : ((n : Int) == 0) = false := by simp; omega
    have f1 : decide ((255 : Int) < (n : Int)) = false := by simp; omega
    have f2 : decide ((65536 : Int) < (n' : Int)) = false := by simp; omega
    have f3 : decide (x < 0) = false := by simp; omega
    have f4 : decide ((1099511627775 : Int) < x) = false := by simp; omega
    rw [e.out]
    go_enter Tryz.func74, Tryz.ntmps74
    go_wp2
    go_ret
    exact ⟨rfl, HB.out _⟩
  by_cases m0 : 0 < n'
  ·
    have e : Hid (Rc.chk 2 kd n n' x = 4) := by
      show _ = _
      unfold Rc.chk Rc.well Rc.most
      (repeat' split) <;> omega
    have f0 : decide (kd < 1) = false := by simp; omega
    have f1 : decide (3 < kd) = false := by simp; omega
    have f2 : (kd != 1) = true := by rw [bne_iff_ne]; exact a3
    have f3 : decide ((0 : Int) < (n' : Int)) = true := by simp; omega
    rw [e.out]
    go_enter Tryz.func74, Tryz.ntmps74
    go_wp2
    go_ret
    exact ⟨rfl, HB.out _⟩
  obtain rfl : n' = 0 := by omega
  by_cases x0 : x = 0
  · subst x0
    by_cases k3 : kd = 3
    · subst k3
      by_cases n0 : 0 < n
      ·
        have e : Hid (Rc.chk 2 3 n 0 0 = 4) := by
          show _ = _
          unfold Rc.chk Rc.well Rc.most
          (repeat' split) <;> omega
        have f0 : decide ((0 : Int) < (n : Int)) = true := by simp; omega
        rw [e.out]
        go_enter Tryz.func74, Tryz.ntmps74
        go_wp2
        go_ret
        exact ⟨rfl, HB.out _⟩
      obtain rfl : n = 0 := by omega
      have e : Hid (Rc.chk 2 3 0 0 0 = 0) := by
        show _ = _
        unfold Rc.chk Rc.well Rc.most
        (repeat' split) <;> omega
      rw [e.out]
      go_enter Tryz.func74, Tryz.ntmps74
      go_wp2
      go_ret
      exact ⟨rfl, HB.out _⟩
    obtain rfl : kd = 2 := by omega
    clear a1 a2 a3 k3
    by_cases n0 : n = 0
    · subst n0
      have e : Hid (Rc.chk 2 2 0 0 0 = 5) := by
        show _ = _
        unfold Rc.chk Rc.well Rc.most
        (repeat' split) <;> omega
      rw [e.out]
      go_enter Tryz.func74, Tryz.ntmps74
      go_wp2
      go_ret
      exact ⟨rfl, HB.out _⟩
    by_cases n5 : 255 < n
    ·
      have e : Hid (Rc.chk 2 2 n 0 0 = 5) := by
        show _ = _
        unfold Rc.chk Rc.well Rc.most
        (repeat' split) <;> omega
      have f0 : ((n : Int) == 0) = false := by simp; omega
      have f1 : decide ((255 : Int) < (n : Int)) = true := by simp; omega
      rw [e.out]
      go_enter Tryz.func74, Tryz.ntmps74
      go_wp2
      go_ret
      exact ⟨rfl, HB.out _⟩
    have e : Hid (Rc.chk 2 2 n 0 0 = 0) := by
      show _ = _
      unfold Rc.chk Rc.well Rc.most
      (repeat' split) <;> omega
    have f0 : ((n : Int) == 0) = false := by simp; omega
    have f1 : decide ((255 : Int) < (n : Int)) = false := by simp; omega
    rw [e.out]
    go_enter Tryz.func74, Tryz.ntmps74
    go_wp2
    go_ret
    exact ⟨rfl, HB.out _⟩
  have e : Hid (Rc.chk 2 kd n 0 x = 4) := by
    show _ = _
    unfold Rc.chk Rc.well Rc.most
    (repeat' split) <;> omega
  have f0 : decide (kd < 1) = false := by simp; omega
  have f1 : decide (3 < kd) = false := by simp; omega
  have f2 : (kd != 1) = true := by rw [bne_iff_ne]; exact a3
  have f3 : (x != 0) = true := by rw [bne_iff_ne]; exact x0
  rw [e.out]
  go_enter Tryz.func74, Tryz.ntmps74
  go_wp2
  go_ret
  exact ⟨rfl, HB.out _⟩
theorem refcheck_any (v kd : Int) (A : Option Addr) (n c : Nat) (A' : Option Addr) (n' c' : Nat) (x : Int) (w : World) :
    Calls Tryz.prog 74 #[.int .i64 v, .agg #[.int .i64 kd, .slice A n c, .slice A' n' c', .int .i64 x]] w fun e w' => e = .returned (.int .i64 (Rc.chk v kd n n' x)) ∧ Below w.heap.size w w' := by
  by_cases h1 : v = 1
  · subst h1; exact refcheck1 kd A n c A' n' c' x w
  by_cases h2 : v = 2
  · subst h2; exact refcheck2 kd A n c A' n' c' x w
  have e : Hid (Rc.chk v kd n n' x = 2) := by
    show _ = _
    unfold Rc.chk
    rw [if_pos ⟨h1, h2⟩]
  have f1 : (v != 1) = true := by rw [bne_iff_ne]; exact h1
  have f2 : (v != 2) = true := by rw [bne_iff_ne]; exact h2
  have f3 : (v == 2) = false := by simp; exact h2
  rw [e.out]
  go_enter Tryz.func74, Tryz.ntmps74
  go_wp2
  go_ret
  exact ⟨rfl, (Below.refl _ _).alloc (Nat.le_refl _) _⟩
end Go.Proofs.YtgnbmmceffolmaaGreatDoor
end
section
namespace Go.Proofs.YtgnbmmceffolmaaGreatDoor
open Go.RowKit
end Go.Proofs.YtgnbmmceffolmaaGreatDoor
end
section
namespace Go.Proofs.YtgnbmmceffolmaaGreatDoor
open Go.RowKit
theorem err_zero {v seq off : Int} {r : Rc.Rec} : Rc.err v seq off r = 0 ↔ Rc.check v r = 0 ∧ Rc.place seq off := by
  unfold Rc.err
  by_cases h : Rc.check v r = 0
  · rw [if_neg (by rw [h]; decide)]
    by_cases hp : Rc.place seq off
    · rw [if_pos hp]; exact ⟨fun _ => ⟨h, hp⟩, fun _ => rfl⟩
    · rw [if_neg hp]; exact ⟨fun h => (by cases h), fun h => absurd h.2 hp⟩
  · rw [if_pos h]; exact ⟨fun e => absurd e h, fun e => absurd e.1 h⟩
end Go.Proofs.YtgnbmmceffolmaaGreatDoor
end
section
namespace Go.Proofs.YtgnbmmceffolmaaGreatDoor
open Go.RowKit
theorem Sd2.drawn {w W : World} {o0 o1 : Obj} (h : Sd2 w o0 o1 W) (k : Nat) : Sd2 w o0 o1 (W.drewN k) := ⟨h.1, h.2.1, below_drawn h.2.2 k⟩
/-- '(n%L + L) % L' as the walk writes it. -/
theorem wrap_mod (n : Int) (L : Nat) (h : 0 < L) (hL : L ≤ 70368744177664) : ∃ (t : Int) (m : Nat), n.tmod (L : Int) = t ∧ -(L : Int) < t ∧ t < (L : Int) ∧ (t + (L : Int)).tmod (L : Int) = (m : Int) ∧ m < L := by
  have h1 : (n.tmod (L : Int)).natAbs = n.natAbs % L := Int.natAbs_tmod n L
  have h2 := Nat.mod_lt n.natAbs h
  have h3 : 0 ≤ n.tmod (L : Int) + (L : Int) := by omega
  refine ⟨_, ((n.tmod (L : Int) + (L : Int)) % (L : Int)).toNat, rfl, by omega, by omega, ?_, ?_⟩
  · rw [Int.tmod_eq_emod_of_nonneg h3]
    have := Int.emod_nonneg (n.tmod (L : Int) + (L : Int)) (show (L : Int) ≠ 0 by omega)
    omega
  · have h4 := Int.emod_lt_of_pos (n.tmod (L : Int) + (L : Int)) (show (0 : Int) < (L : Int) by omega)
    have := Int.emod_nonneg (n.tmod (L : Int) + (L : Int)) (show (L : Int) ≠ 0 by omega)
    omega
end Go.Proofs.YtgnbmmceffolmaaGreatDoor
end
section
namespace Go.Proofs.YtgnbmmceffolmaaGreatDoor
open Go.RowKit
theorem head1 (kd xp : Nat) (key val : List Nat) (hk : kd ≤ 3) (hn : key.length ≤ 255) : Rc.head 1 ⟨(kd : Int), key, val, (xp : Int)⟩ = ([161, kd, key.length, 0] ++ Wire.be 4 val.length) ++ Wire.be 4 xp := by
  have e : Rc.head 1 ⟨(kd : Int), key, val, (xp : Int)⟩ = Rc.flat [(161, 1), (kd, 1), (key.length, 1), (0, 1), (val.length, 4), (xp, 4)] := rfl
  rw [e]
  simp only [Rc.flat, List.flatMap_cons, List.flatMap_nil, Rc.be_one]
  simp
  omega
theorem head2 (kd xp : Nat) (key val : List Nat) (hk : kd ≤ 3) (hn : key.length ≤ 255) : Rc.head 2 ⟨(kd : Int), key, val, (xp : Int)⟩ = (([162, key.length, 16 * kd] ++ Wire.be 3 val.length) ++ [0]) ++ Wire.be 5 xp := by
  have e : Rc.head 2 ⟨(kd : Int), key, val, (xp : Int)⟩ = Rc.flat [(162, 1), (key.length, 1), (16 * kd, 1), (val.length, 3), (0, 1), (xp, 5)] := rfl
  rw [e]
  simp only [Rc.flat, List.flatMap_cons, List.flatMap_nil, Rc.be_one]
  simp
  omega
set_option maxHeartbeats 2000000 in
theorem refencode1 (seq off kd x : Int) (key val : List Nat) (A : Option Addr) (B n c : Nat) (A' : Option Addr) (n' c' : Nat) (w : World) (h : Rc.check 1 ⟨kd, key, val, x⟩ = 0) (hp : Rc.place seq off) (hB : B ≤ w.heap.size) (hsq : seq ≤ 9223372036854775807)
    (hk : Hid (SlIs A n c ∧ key.length = n ∧ Bs w B A key)) (hv : Hid (SlIs A' n' c' ∧ val.length = n' ∧ Bs w B A' val)) :
    Calls Tryz.prog 77 #[.int .i64 1, .int .i64 seq, .int .i64 off, .agg #[.int .i64 kd, .slice A n c, .slice A' n' c', .int .i64 x]] w fun e w' => ∃ A3 c3, e = .returned (.slice A3 (Rc.enc 1 seq off ⟨kd, key, val, x⟩).length c3) ∧ SlIs A3 (Rc.enc 1 seq off ⟨kd, key, val, x⟩).length c3 ∧ Bs w' w'.heap.size A3 (Rc.enc 1 seq off ⟨kd, key, val, x⟩) ∧ Below w.heap.size w w' := by
  obtain ⟨-, -, hk255, hv65, hx0, hxm, hkd1, hkd3⟩ := Rc.chk_ok h
  simp only at hk255 hv65 hx0 hkd1 hkd3
  obtain ⟨p1, p2, p3⟩ := hp
  obtain ⟨sq, rfl⟩ : ∃ k : Nat, seq = (k : Int) := ⟨seq.toNat, by omega⟩
  obtain ⟨of, rfl⟩ : ∃ k : Nat, off = (k : Int) := ⟨off.toNat, by omega⟩
  obtain ⟨kdn, rfl⟩ : ∃ k : Nat, kd = (k : Int) := ⟨kd.toNat, by omega⟩
  obtain ⟨xn, rfl⟩ : ∃ k : Nat, x = (k : Int) := ⟨x.toNat, by omega⟩
  have HNK : Hid (key.length = n ∧ val.length = n') := ⟨hk.out.2.1, hv.out.2.1⟩
  rw [HNK.out.1] at hk255
  rw [HNK.out.2] at hv65
  obtain ⟨i0, hi0, hz0, hz1, hz2⟩ := info_parts info_u8
  have I0 := Lib.hid (And.intro hi0 (And.intro hz0 (And.intro hz1 hz2))); clear hi0 hz0 hz1 hz2
  have HH1 := Lib.hid (head1 kdn xn key val (by omega) (by rw [HNK.out.1]; exact hk255))
  have HH2 := Lib.hid (head2 kdn xn key val (by omega) (by rw [HNK.out.1]; exact hk255))
  have hn1 : (n : Int) < 256 := by omega
  rw [HNK.out.1, HNK.out.2] at HH1 HH2
  have hkd4 : kdn ≤ 3 := by omega
  have hxb : xn < 1099511627776 := by have := Rc.most_le 1; simp only at hxm; omega
  clear h hxm p1 p2 hkd1 hkd3 hx0
  have HLT1 : Hid (∀ x ∈ key, x < 256) := hk.out.2.2.lt
  have HLT2 : Hid (∀ x ∈ val, x < 256) := hv.out.2.2.lt
  have HKW : Hid (∀ W, Below w.heap.size w W → Bs W B A key) := fun W hW => hk.out.2.2.below hW hB
  have HVW : Hid (∀ W, Below w.heap.size w W → Bs W B A' val) := fun W hW => hv.out.2.2.below hW hB
  have HAK : Hid (A = none → n = 0 ∧ c = 0) := fun e => ⟨(hk.out.1.1 e).2, (hk.out.1.1 e).1⟩
  have HAV : Hid (A' = none → n' = 0 ∧ c' = 0) := fun e => ⟨(hv.out.1.1 e).2, (hv.out.1.1 e).1⟩
  have HSZ : Hid (n ≤ 255 ∧ n' ≤ 65536 ∧ maxLen = 9223372036854775807) := ⟨hk255, hv65, rfl⟩
  have HVL : Hid ((vals key).length = n * 1 ∧ (vals val).length = n' * 1) := ⟨by rw [vals_length, HNK.out.1]; omega, by rw [vals_length, HNK.out.2]; omega⟩
  clear HH2
  have HSUM0 : Hid (Rc.sum 1 (sq : Int) (of : Int) ⟨(kdn : Int), key, val, (xn : Int)⟩ = Crc.U (Crc.upd 0#32 ((([] ++ Wire.be 8 sq) ++ Wire.be 4 of ++ Rc.head 1 ⟨(kdn : Int), key, val, (xn : Int)⟩) ++ (key ++ val)))) := by
    show _ = _
    unfold Rc.sum Rc.spot Rc.flat
    simp
  have HENC0 : Hid (Rc.enc 1 (sq : Int) (of : Int) ⟨(kdn : Int), key, val, (xn : Int)⟩ = (Rc.head 1 ⟨(kdn : Int), key, val, (xn : Int)⟩ ++ Wire.be 4 (Rc.sum 1 (sq : Int) (of : Int) ⟨(kdn : Int), key, val, (xn : Int)⟩)) ++ (key ++ val)) := by
    show _ = _
    unfold Rc.enc
    simp
  have HENLT : Hid (∀ y ∈ Rc.enc 1 (sq : Int) (of : Int) ⟨(kdn : Int), key, val, (xn : Int)⟩, y < 256) := Rc.enc_lt _ _ _ _ HLT1.out HLT2.out
  have hsm : Rc.sum 1 (sq : Int) (of : Int) ⟨(kdn : Int), key, val, (xn : Int)⟩ < 4294967296 := Crc.U_lt _
  generalize Rc.enc 1 (sq : Int) (of : Int) ⟨(kdn : Int), key, val, (xn : Int)⟩ = en at *
  generalize Rc.sum 1 (sq : Int) (of : Int) ⟨(kdn : Int), key, val, (xn : Int)⟩ = sm at *
  have HL0 : Hid (Bs ((w.alloc (.cells #[.int .i64 (kdn : Int), .slice A n c, .slice A' n' c', .int .i64 (xn : Int)] 55)).alloc (.cells #[.int .u8 161, .int .u8 (kdn : Int), .int .u8 (n : Int), .int .u8 0] 5)) (w.heap.size + 2) (some ⟨w.heap.size + 1, 0, none⟩) [161, kdn, n, 0]) := by
    have h := bs_lit (w.alloc (.cells #[.int .i64 (kdn : Int), .slice A n c, .slice A' n' c', .int .i64 (xn : Int)] 55)) [161, kdn, n, 0] (by intro y hy; simp at hy; omega) (0, 0)
    rw [show (w.alloc (.cells #[.int .i64 (kdn : Int), .slice A n c, .slice A' n' c', .int .i64 (xn : Int)] 55)).heap.size = w.heap.size + 1 from by simp] at h
    exact h
  have HS0 : Hid (Sd w w.heap.size (.cells #[.int .i64 (kdn : Int), .slice A n c, .slice A' n' c', .int .i64 (xn : Int)] 55 (0, 0)) ((w.alloc (.cells #[.int .i64 (kdn : Int), .slice A n c, .slice A' n' c', .int .i64 (xn : Int)] 55)).alloc (.cells #[.int .u8 161, .int .u8 (kdn : Int), .int .u8 (n : Int), .int .u8 0] 5))) := ⟨(heap_alloc_old _ _ (by simp)).trans (heap_alloc_new w _), ((Below.refl _ w).alloc (Nat.le_refl _) _).alloc (by simp) _⟩
  go_enter Tryz.func77, Tryz.ntmps77
  go_wp2_with fail
  refine (refput_row _ (w.heap.size + 2) 4 4 [161, kdn, n, 0] n' 4 4 rfl _ ⟨fun e => (by cases e), by omega, by omega⟩ rfl (by omega) HL0.out (by omega) (by omega)).mono ?_
  rintro e w1 ⟨A1, n1, k1, p1, rfl, hp1, hn1', hr1⟩
  have HS1 := Lib.hid (HS0.out.next hr1.2.2.2.2 (by rfl) (by rfl) (by rfl) (by rfl))
  have HR1 := Lib.hid hr1; clear hr1
  obtain ⟨z0, z1, z2, z3⟩ := four_cells HS1.out.1
  go_wp2_with fail
  refine (refput_row A1 w1.heap.size n1 k1 p1 xn 4 4 rfl _ HR1.out.2.2.1 HR1.out.2.1 (by rw [hn1'.out]; omega) HR1.out.2.2.2.1 (by omega) (by omega)).mono ?_
  rintro e wH ⟨AH, nH, cH, hd, rfl, hp2, hn2', hr2⟩
  have HHDE : Hid (hd = Rc.head 1 ⟨(kdn : Int), key, val, (xn : Int)⟩) := by
    show _ = _
    rw [HH1.out, hp2.out, hp1.out]
  have HNH12 : Hid (nH = 12) := by show _ = _; rw [hn2'.out, hn1'.out]
  have HNH : Hid (hd.length = nH) := hr2.2.1
  have HSH := Lib.hid (HS1.out.next hr2.2.2.2.2 (by rfl) (by rfl) (by rfl) (by rfl))
  have HHD : Hid (SlIs AH nH cH ∧ Bs wH wH.heap.size AH hd) := ⟨hr2.2.2.1, hr2.2.2.2.1⟩
  have hHDLT : ∀ y ∈ hd, y < 256 := hr2.2.2.2.1.lt
  have HALT : Hid (∀ y ∈ (([] ++ Wire.be 8 sq) ++ Wire.be 4 of ++ hd) ++ (key ++ val), y < 256) := fun y hy => by
    rcases List.mem_append.1 hy with h | h
    · rcases List.mem_append.1 h with h | h
      · rcases List.mem_append.1 h with h | h
        · exact Wire.be_lt 8 sq y h
        · exact Wire.be_lt 4 of y h
      · exact hHDLT y h
    · rcases List.mem_append.1 h with h | h
      · exact HLT1.out y h
      · exact HLT2.out y h
  clear hr2 hHDLT z0 z1 z2 z3 hp1 hp2 hn1' hn2' HR1 HS1

  have HSUMQ : Hid (sm = Crc.U (Crc.upd 0#32 ((([] ++ Wire.be 8 sq) ++ Wire.be 4 of ++ hd) ++ (key ++ val)))) := by
    show _ = _
    rw [HSUM0.out, HHDE.out]
  have HENC : Hid (en = (hd ++ Wire.be 4 sm) ++ (key ++ val)) := by
    show _ = _
    rw [HENC0.out, HHDE.out]
  clear HSUM0 HENC0
  obtain ⟨z0, z1, z2, z3⟩ := four_cells HSH.out.1
  go_wp2_with fail
  go_region_held3 (fun W => W.cell? ⟨w.heap.size, 1, none⟩ = some (.slice A n c) ∧ W.cell? ⟨w.heap.size, 2, none⟩ = some (.slice A' n' c'))
    (first
      | go_keep
      | exact cells_12 HS9.out.1
      | exact cells_12 HS10.out.1)
    (first
      | (refine step_append_onto rfl (.const (.slice none 0 0)) (.tmp 56) 27 rfl wH.heap.size 5 i0 (.int .u8 0) 1 1 Tryz.underlying27 I0.out.1 I0.out.2.1 I0.out.2.2.1 I0.out.2.2.2 rfl (by decide) _ 0 [] rfl (World.ownsRow_nil _ _ _ _) A n c (vals key) rfl HAK.out HVL.out.1 (fun ad e => by have h := HKW.out _ (below_drawn HSH.out.2 1); rw [e] at h; exact h.cells) (vals_one _) (by have := HSZ.out; omega) (by have := HSZ.out; omega) (Nat.le_refl _) ?_; intro v9 w9 hown9 hb9; simp only [Nat.zero_add, List.nil_append] at hown9; have HO9 := Lib.hid hown9; have HB9 : Hid (Below wH.heap.size wH w9) := ⟨hb9.os, hb9.tape, hb9.output, hb9.size, hb9.block⟩; have HS9 := Lib.hid (HSH.out.next HB9.out (by rfl) (by rfl) (by rfl) (by rfl)); clear hown9 hb9)
      | (refine step_append_onto rfl (.tmp 57) (.tmp 59) 27 rfl wH.heap.size 5 i0 (.int .u8 0) 1 1 Tryz.underlying27 I0.out.1 I0.out.2.1 I0.out.2.2.1 I0.out.2.2.2 rfl (by decide) _ n (vals key) rfl HO9.out A' n' c' (vals val) rfl HAV.out HVL.out.2 (fun ad e => by have h := HVW.out w9 HS9.out.2; rw [e] at h; exact h.cells) (vals_one _) (by have := HSZ.out; omega) (by have := HSZ.out; omega) HB9.out.size ?_; intro v10 w10 hown10 hb10; rw [← vals_append] at hown10; have HO10 := Lib.hid hown10; have HB10 : Hid (Below wH.heap.size wH w10) := HB9.out.trans hb10; have HS10 := Lib.hid (HSH.out.next HB10.out (by rfl) (by rfl) (by rfl) (by rfl)); clear hown10 hb10))
  all_goals
    obtain ⟨AB, cB, rfl, hbsB, hlB, hnB, hmB, hoB⟩ := own_bytes HO10.out (fun y hy => by
      rcases List.mem_append.1 hy with h | h
      · exact HLT1.out y h
      · exact HLT2.out y h)
    have HNB : Hid ((key ++ val).length = n + n' ∧ n + n' ≤ 65791) := ⟨hlB, by have := HSZ.out; omega⟩
    have HBD : Hid (SlIs AB (n + n') cB ∧ Bs w10 w10.heap.size AB (key ++ val)) := ⟨sl_own hnB hmB hoB, hbsB⟩
    have HHD10 : Hid (SlIs AH nH cH ∧ Bs w10 w10.heap.size AH hd) := ⟨HHD.out.1, (HHD.out.2.below HB10.out (Nat.le_refl _)).more HB10.out.size⟩
    clear hbsB hlB hnB hmB hoB HO10 HO9 HVL HAK HAV HKW HVW HLT1 HLT2 z0 z1 z2 z3
    generalize key ++ val = bd at *
    generalize n + n' = nB at *
    go_wp2_with fail
    refine (refput_row none 0 0 0 [] sq 8 8 rfl _ ⟨fun _ => ⟨rfl, rfl⟩, Nat.le_refl _, by omega⟩ rfl (by omega) (fun k hk => absurd hk (by simp)) (by omega) (by omega)).mono ?_
    rintro e w11 ⟨A11, n11, c11, p11, rfl, hp11, hn11, hr11⟩
    have HR11 := Lib.hid hr11; clear hr11
    go_wp2_with fail
    refine (refput_row A11 w11.heap.size n11 c11 p11 of 4 4 rfl _ HR11.out.2.2.1 HR11.out.2.1 (by rw [hn11.out]; omega) HR11.out.2.2.2.1 (by omega) (by omega)).mono ?_
    rintro e w12 ⟨A12, n12, c12, p12, rfl, hp12, hn12, hr12⟩
    have HR12 := Lib.hid hr12; clear hr12
    have HP12 : Hid (p12 = ([] ++ Wire.be 8 sq) ++ Wire.be 4 of) := by show _ = _; rw [hp12.out, hp11.out]
    have hn12' : Hid (n12 = 12) := by show _ = _; rw [hn12.out, hn11.out]
    have HB12 : Hid (Below w10.heap.size w10 w12) := HR11.out.2.2.2.2.trans (HR12.out.2.2.2.2.mono HR11.out.2.2.2.2.size)
    have hbd12 := HBD.out.2.below HB12.out (Nat.le_refl _)
    have hhd12 := HHD10.out.2.below HB12.out (Nat.le_refl _)
    have hA1 : AH = none → nH = 0 ∧ cH = 0 := fun e => ⟨(HHD.out.1.1 e).2, (HHD.out.1.1 e).1⟩
    have hA2 : AB = none → nB = 0 ∧ cB = 0 := fun e => ⟨(HBD.out.1.1 e).2, (HBD.out.1.1 e).1⟩
    have HBD12 := Lib.hid (And.intro hbd12 hhd12)
    have HAA := Lib.hid (And.intro hA1 hA2)
    have HVV : Hid ((vals hd).length = nH * 1 ∧ (vals bd).length = nB * 1) := ⟨by rw [vals_length, HNH.out]; omega, by rw [vals_length, HNB.out.1]; omega⟩
    clear hbd12 hhd12 hA1 hA2
    go_wp2_with (first
      | (at_builtin; refine append_onto rfl (.tmp 67) (.tmp 68) 27 rfl w11.heap.size 5 i0 (.int .u8 0) 1 1 Tryz.underlying27 I0.out.1 I0.out.2.1 I0.out.2.2.1 I0.out.2.2.2 rfl (by decide) _ n12 (vals p12) rfl HR12.out.1 AH nH cH (vals hd) rfl HAA.out.1 HVV.out.1 (fun ad e => by have h := HBD12.out.2; rw [e] at h; exact h.cells) (vals_one _) (by have := HNH12.out; have := hn12'.out; unfold maxLen; omega) (by have := HNH12.out; have := hn12'.out; omega) HR12.out.2.2.2.2.size ?_; intro v13 w13 hown13 hg13; rw [← vals_append] at hown13; have HO13 := Lib.hid hown13; have HB13 : Hid (Below w11.heap.size w12 w13) := (Below.refl _ _).grown hg13 HR12.out.2.2.2.2.size (fun g e => (HR12.out.1.lt g e).1); clear hown13 hg13)
      | (at_builtin; refine append_onto rfl (.tmp 69) (.tmp 70) 27 rfl w11.heap.size 5 i0 (.int .u8 0) 1 1 Tryz.underlying27 I0.out.1 I0.out.2.1 I0.out.2.2.1 I0.out.2.2.2 rfl (by decide) _ (n12 + nH) (vals (p12 ++ hd)) rfl HO13.out AB nB cB (vals bd) rfl HAA.out.2 HVV.out.2 (fun ad e => by have h := (HBD.out.2.below HR11.out.2.2.2.2 (Nat.le_refl _)).below (HR12.out.2.2.2.2.trans HB13.out) HR11.out.2.2.2.2.size; rw [e] at h; exact h.cells) (vals_one _) (by have := HNH12.out; have := hn12'.out; have := HNB.out.2; unfold maxLen; omega) (by have := HNH12.out; have := hn12'.out; have := HNB.out.2; omega) (Nat.le_trans HR12.out.2.2.2.2.size HB13.out.size) ?_; intro v14 w14 hown14 hg14; rw [← vals_append] at hown14; have HO14 := Lib.hid hown14; have HB14 : Hid (Below w11.heap.size w12 w14) := HB13.out.grown hg14 (Nat.le_trans HR12.out.2.2.2.2.size HB13.out.size) (fun g e => (HO13.out.lt g e).1); obtain ⟨A14, c14, rfl, hbs14, hl14, hn14, hm14, ho14⟩ := own_bytes hown14 (by rw [HP12.out]; exact HALT.out); clear hown14 hg14))
    have HL14 : Hid ((p12 ++ hd ++ bd).length = n12 + nH + nB) := hl14
    have HB1014 : Hid (Below w10.heap.size w10 w14) := HR11.out.2.2.2.2.trans ((HR12.out.2.2.2.2.trans HB14.out).mono HR11.out.2.2.2.2.size)
    have hsum : Crc.U (Crc.upd 0#32 (p12 ++ hd ++ bd)) = sm := by rw [HSUMQ.out, HP12.out]
    have HSQ := Lib.hid hsum; clear hsum
    clear hl14 hn14 hm14 ho14
    have HRS : Hid (Calls Tryz.prog 104 #[.slice A14 (n12 + nH + nB) c14] w14 fun e w' => e = .returned (.int .u32 (sm : Int)) ∧ w14 = w') := by
      have h := refsum_any A14 w14.heap.size c14 (n12 + nH + nB) (p12 ++ hd ++ bd) w14 HL14 (by have := HNH12.out; have := hn12'.out; have := HNB.out.2; omega) hbs14
      rwa [HSQ.out] at h
    refine HRS.out.mono ?_
    rintro e w' ⟨rfl, rfl⟩
    go_wp2_with fail
    refine (refput_row AH w10.heap.size nH cH hd sm 4 4 rfl _ HHD10.out.1 HNH.out (by rw [HNH12.out]; omega) (HHD10.out.2.below HB1014.out (Nat.le_refl _)) (by omega) (by omega)).mono ?_
    rintro e w15 ⟨A15, n15, c15, p15, rfl, hp15, hn15, hr15⟩
    have HR15 := Lib.hid hr15; clear hr15
    have HN15 : Hid (n15 = 16) := by show _ = _; rw [hn15.out, HNH12.out]
    have HEN2 : Hid (p15 ++ bd = en) := by show _ = _; rw [hp15.out, HENC.out]
    have HBE : Hid (Below w.heap.size w w15) := HS10.out.2.trans ((HB1014.out.trans (HR15.out.2.2.2.2.mono HB1014.out.size)).mono HS10.out.2.size)
    go_wp2_with (at_builtin; refine append_onto rfl (.tmp 76) (.tmp 77) 27 rfl w14.heap.size 5 i0 (.int .u8 0) 1 1 Tryz.underlying27 I0.out.1 I0.out.2.1 I0.out.2.2.1 I0.out.2.2.2 rfl (by decide) _ n15 (vals p15) rfl HR15.out.1 AB nB cB (vals bd) rfl HAA.out.2 HVV.out.2 (fun ad e => by have h := (HBD.out.2.below HB1014.out (Nat.le_refl _)).below HR15.out.2.2.2.2 HB1014.out.size; rw [e] at h; exact h.cells) (vals_one _) (by have := HN15.out; have := HNB.out.2; unfold maxLen; omega) (by have := HN15.out; have := HNB.out.2; omega) HR15.out.2.2.2.2.size ?_; intro v16 w16 hown16 hg16; rw [← vals_append] at hown16; have HO16 := Lib.hid hown16; have HB16 : Hid (Below w14.heap.size w15 w16) := (Below.refl _ _).grown hg16 HR15.out.2.2.2.2.size (fun g e => (HR15.out.1.lt g e).1); clear hown16 hg16)
    go_ret
    have hO16 := HO16.out
    rw [HEN2.out] at hO16
    have hEL : en.length = n15 + nB := by rw [← HEN2.out, List.length_append, HR15.out.2.1, HNB.out.1]
    rw [← hEL] at hO16
    obtain ⟨A16, c16, rfl, hbs16, -, hn16, hm16, ho16⟩ := own_bytes hO16 (HENLT.out)
    exact ⟨A16, c16, rfl, sl_own hn16 hm16 ho16, hbs16, HBE.out.trans (HB16.out.mono (Nat.le_trans HS10.out.2.size HB1014.out.size))⟩
end Go.Proofs.YtgnbmmceffolmaaGreatDoor
end
section
set_option maxRecDepth 100000
namespace Go.Proofs.YtgnbmmceffolmaaGreatDoor
open Go.RowKit
set_option maxHeartbeats 2000000 in
theorem refencode2 (seq off kd x : Int) (key val : List Nat) (A : Option Addr) (B n c : Nat) (A' : Option Addr) (n' c' : Nat) (w : World) (h : Rc.check 2 ⟨kd, key, val, x⟩ = 0) (hp : Rc.place seq off) (hB : B ≤ w.heap.size) (hsq : seq ≤ 9223372036854775807)
    (hk : Hid (SlIs A n c ∧ key.length = n ∧ Bs w B A key)) (hv : Hid (SlIs A' n' c' ∧ val.length = n' ∧ Bs w B A' val)) :
    Calls Tryz.prog 77 #[.int .i64 2, .int .i64 seq, .int .i64 off, .agg #[.int .i64 kd, .slice A n c, .slice A' n' c', .int .i64 x]] w fun e w' => ∃ A3 c3, e = .returned (.slice A3 (Rc.enc 2 seq off ⟨kd, key, val, x⟩).length c3) ∧ SlIs A3 (Rc.enc 2 seq off ⟨kd, key, val, x⟩).length c3 ∧ Bs w' w'.heap.size A3 (Rc.enc 2 seq off ⟨kd, key, val, x⟩) ∧ Below w.heap.size w w' := by
  obtain ⟨-, -, hk255, hv65, hx0, hxm, hkd1, hkd3⟩ := Rc.chk_ok h
  simp only at hk255 hv65 hx0 hkd1 hkd3
  obtain ⟨p1, p2, p3⟩ := hp
  obtain ⟨sq, rfl⟩ : ∃ k : Nat, seq = (k : Int) := ⟨seq.toNat, by omega⟩
  obtain ⟨of, rfl⟩ : ∃ k : Nat, off = (k : Int) := ⟨off.toNat, by omega⟩
  obtain ⟨kdn, rfl⟩ : ∃ k : Nat, kd = (k : Int) := ⟨kd.toNat, by omega⟩
  obtain ⟨xn, rfl⟩ : ∃ k : Nat, x = (k : Int) := ⟨x.toNat, by omega⟩
  have HNK : Hid (key.length = n ∧ val.length = n') := ⟨hk.out.2.1, hv.out.2.1⟩
  rw [HNK.out.1] at hk255
  rw [HNK.out.2] at hv65
  obtain ⟨i0, hi0, hz0, hz1, hz2⟩ := info_parts info_u8
  have I0 := Lib.hid (And.intro hi0 (And.intro hz0 (And.intro hz1 hz2))); clear hi0 hz0 hz1 hz2
  have HH1 := Lib.hid (head1 kdn xn key val (by omega) (by rw [HNK.out.1]; exact hk255))
  have HH2 := Lib.hid (head2 kdn xn key val (by omega) (by rw [HNK.out.1]; exact hk255))
  have hn1 : (n : Int) < 256 := by omega
  rw [HNK.out.1, HNK.out.2] at HH1 HH2
  have hkd4 : kdn ≤ 3 := by omega
  have hxb : xn < 1099511627776 := by have := Rc.most_le 2; simp only at hxm; omega
  clear h hxm p1 p2 hkd1 hkd3 hx0
  have HLT1 : Hid (∀ x ∈ key, x < 256) := hk.out.2.2.lt
  have HLT2 : Hid (∀ x ∈ val, x < 256) := hv.out.2.2.lt
  have HKW : Hid (∀ W, Below w.heap.size w W → Bs W B A key) := fun W hW => hk.out.2.2.below hW hB
  have HVW : Hid (∀ W, Below w.heap.size w W → Bs W B A' val) := fun W hW => hv.out.2.2.below hW hB
  have HAK : Hid (A = none → n = 0 ∧ c = 0) := fun e => ⟨(hk.out.1.1 e).2, (hk.out.1.1 e).1⟩
  have HAV : Hid (A' = none → n' = 0 ∧ c' = 0) := fun e => ⟨(hv.out.1.1 e).2, (hv.out.1.1 e).1⟩
  have HSZ : Hid (n ≤ 255 ∧ n' ≤ 65536 ∧ maxLen = 9223372036854775807) := ⟨hk255, hv65, rfl⟩
  have HVL : Hid ((vals key).length = n * 1 ∧ (vals val).length = n' * 1) := ⟨by rw [vals_length, HNK.out.1]; omega, by rw [vals_length, HNK.out.2]; omega⟩
  clear HH1
  have HSUM0 : Hid (Rc.sum 2 (sq : Int) (of : Int) ⟨(kdn : Int), key, val, (xn : Int)⟩ = Crc.U (Crc.upd 0#32 ((([] ++ Wire.be 8 sq) ++ Wire.be 4 of ++ Rc.head 2 ⟨(kdn : Int), key, val, (xn : Int)⟩) ++ (key ++ val)))) := by
    show _ = _
    unfold Rc.sum Rc.spot Rc.flat
    simp
  have HENC0 : Hid (Rc.enc 2 (sq : Int) (of : Int) ⟨(kdn : Int), key, val, (xn : Int)⟩ = (Rc.head 2 ⟨(kdn : Int), key, val, (xn : Int)⟩ ++ Wire.be 4 (Rc.sum 2 (sq : Int) (of : Int) ⟨(kdn : Int), key, val, (xn : Int)⟩)) ++ (key ++ val)) := by
    show _ = _
    unfold Rc.enc
    simp
  have HENLT : Hid (∀ y ∈ Rc.enc 2 (sq : Int) (of : Int) ⟨(kdn : Int), key, val, (xn : Int)⟩, y < 256) := Rc.enc_lt _ _ _ _ HLT1.out HLT2.out
  have hsm : Rc.sum 2 (sq : Int) (of : Int) ⟨(kdn : Int), key, val, (xn : Int)⟩ < 4294967296 := Crc.U_lt _
  generalize Rc.enc 2 (sq : Int) (of : Int) ⟨(kdn : Int), key, val, (xn : Int)⟩ = en at *
  generalize Rc.sum 2 (sq : Int) (of : Int) ⟨(kdn : Int), key, val, (xn : Int)⟩ = sm at *
  have HL0 : Hid (Bs ((w.alloc (.cells #[.int .i64 (kdn : Int), .slice A n c, .slice A' n' c', .int .i64 (xn : Int)] 55)).alloc (.cells #[.int .u8 162, .int .u8 (n : Int), .int .u8 (16 * (kdn : Int))] 5)) (w.heap.size + 2) (some ⟨w.heap.size + 1, 0, none⟩) [162, n, 16 * kdn]) := by
    have h := bs_lit (w.alloc (.cells #[.int .i64 (kdn : Int), .slice A n c, .slice A' n' c', .int .i64 (xn : Int)] 55)) [162, n, 16 * kdn] (by intro y hy; simp at hy; omega) (0, 0)
    rw [show (w.alloc (.cells #[.int .i64 (kdn : Int), .slice A n c, .slice A' n' c', .int .i64 (xn : Int)] 55)).heap.size = w.heap.size + 1 from by simp] at h
    have e : vals [162, n, 16 * kdn] = [.int .u8 162, .int .u8 (n : Int), .int .u8 (16 * (kdn : Int))] := by unfold vals; simp
    rw [e] at h
    exact h
  have HS0 : Hid (Sd w w.heap.size (.cells #[.int .i64 (kdn : Int), .slice A n c, .slice A' n' c', .int .i64 (xn : Int)] 55 (0, 0)) ((w.alloc (.cells #[.int .i64 (kdn : Int), .slice A n c, .slice A' n' c', .int .i64 (xn : Int)] 55)).alloc (.cells #[.int .u8 162, .int .u8 (n : Int), .int .u8 (16 * (kdn : Int))] 5))) := ⟨(heap_alloc_old _ _ (by simp)).trans (heap_alloc_new w _), ((Below.refl _ w).alloc (Nat.le_refl _) _).alloc (by simp) _⟩
  go_enter Tryz.func77, Tryz.ntmps77
  go_wp2_with fail
  refine (refput_row _ (w.heap.size + 2) 3 3 [162, n, 16 * kdn] n' 3 3 rfl _ ⟨fun e => (by cases e), by omega, by omega⟩ rfl (by omega) HL0.out (by omega) (by omega)).mono ?_
  rintro e w1 ⟨A1, n1, k1, p1, rfl, hp1, hn1', hr1⟩
  have HS1 := Lib.hid (HS0.out.next hr1.2.2.2.2 (by rfl) (by rfl) (by rfl) (by rfl))
  have HR1 := Lib.hid hr1; clear hr1
  have HO1 : Hid (∃ b0, w1.ownsRow b0 5 1 (.slice A1 n1 k1) n1 (vals p1) ∧ b0 ≤ w1.heap.size ∧ w.heap.size < b0) := ⟨_, HR1.out.1, HR1.out.2.2.2.2.size, by simp; omega⟩
  obtain ⟨b0, hob, hbz, hbw⟩ := HO1.out
  have HOB := Lib.hid hob
  have HBZ := Lib.hid hbz
  have HBW := Lib.hid hbw
  have HP1LT : Hid (∀ y ∈ p1 ++ [0], y < 256) := fun y hy => by
    rcases List.mem_append.1 hy with h | h
    · exact HR1.out.2.2.2.1.lt y h
    · rw [List.mem_singleton.1 h]; decide
  have HMX : Hid (n1 + 1 ≤ maxLen ∧ (n1 + 1) * 1 ≤ 140737488355328 ∧ n1 + 1 ≤ 70368744177664) := by
    have := hn1'.out
    refine ⟨by unfold maxLen; omega, by omega, by omega⟩
  have HW7 : Hid (∀ w7, Below b0 (w1.alloc (.cells #[.int .u8 0] 5)) w7 → Sd w w.heap.size (.cells #[.int .i64 (kdn : Int), .slice A n c, .slice A' n' c', .int .i64 (xn : Int)] 55 (0, 0)) w7) := fun w7 hb7 => ⟨(hb7.block _ HBW.out).trans ((heap_alloc_old _ _ (Array.getElem?_eq_some_iff.1 HS1.out.1).1).trans HS1.out.1), (HS1.out.2.alloc HS1.out.2.size _).trans (hb7.mono (Nat.le_of_lt HBW.out))⟩
  have HAP : Hid (∀ (W : World) (v7 : Value) (w7 : World), Below b0 W w7 → W.heap = (w1.alloc (.cells #[.int .u8 0] 5)).heap → W.os = w1.os → W.tape = w1.tape → W.output = w1.output → w7.ownsRow b0 5 1 v7 (n1 + 1) (vals p1 ++ vals [0]) → ∃ A7 c7, v7 = .slice A7 (n1 + 1) c7 ∧ (SlIs A7 (n1 + 1) c7 ∧ (p1 ++ [0]).length = n1 + 1 ∧ Bs w7 w7.heap.size A7 (p1 ++ [0])) ∧ Sd w w.heap.size (.cells #[.int .i64 (kdn : Int), .slice A n c, .slice A' n' c', .int .i64 (xn : Int)] 55 (0, 0)) w7) := fun W v7 w7 hb e1 e2 e3 e4 ho => by
    rw [← vals_append] at ho
    obtain ⟨A7, c7, rfl, hbs7, hl7, hn7, hm7, ho7⟩ := own_bytes ho HP1LT.out
    refine ⟨A7, c7, rfl, ⟨sl_own hn7 hm7 ho7, hl7, hbs7⟩, HW7.out w7 ⟨hb.os.trans e2, hb.tape.trans e3, hb.output.trans e4, by rw [← e1]; exact hb.size, fun k hk => by rw [hb.block k hk, e1]⟩⟩
  have HPUT : Hid (∀ (A7 : Option Addr) (c7 : Nat) (w7 : World), SlIs A7 (n1 + 1) c7 → (p1 ++ [0]).length = n1 + 1 → Bs w7 w7.heap.size A7 (p1 ++ [0]) → Calls Tryz.prog 72 #[.slice A7 (n1 + 1) c7, .int .u64 (IntKind.u64.wrap (xn : Int)), .int .i64 5] w7 fun e w' => ∃ A' n' c' p, e = .returned (.slice A' n' c') ∧ Hid (p = (p1 ++ [0]) ++ Wire.be 5 xn) ∧ Hid (n' = n1 + 1 + 5) ∧ Row w7 p n' A' c' w') := fun A7 c7 w7 h1 h2 h3 => by
    rw [show IntKind.u64.wrap (xn : Int) = (xn : Int) by rw [IntKind.wrap_u64]; omega]
    exact refput_row A7 w7.heap.size (n1 + 1) c7 (p1 ++ [0]) xn 5 5 rfl w7 h1 h2 HMX.out.2.2 h3 (by omega) (by omega)
  clear hob hbz hbw HO1
  obtain ⟨z0, z1, z2, z3⟩ := four_cells HS1.out.1
  go_wp2_with fail
  go_region_held3 (fun W => W.cell? ⟨w.heap.size, 3, none⟩ = some (.int .i64 (xn : Int)))
    (first
      | go_keep
      | exact (four_cells HS7.out.1).2.2.2
      | exact (four_cells HSH.out.1).2.2.2)
    (first
      | (refine step_append_onto rfl (.tmp 48) (.tmp 49) 27 rfl b0 5 i0 (.int .u8 0) 1 1 Tryz.underlying27 I0.out.1 I0.out.2.1 I0.out.2.2.1 I0.out.2.2.2 rfl (by decide) _ n1 (vals p1) rfl (HOB.out.alloc _) (some ⟨w1.heap.size, 0, none⟩) 1 1 (vals [0]) rfl (fun e => by cases e) rfl (fun ad e => by injection e with e; subst e; exact World.news_of_block (heap_alloc_new w1 _)) (vals_one _) HMX.out.1 HMX.out.2.1 (Nat.le_trans HBZ.out (by simp)) ?_; intro v7 w7 hown7 hb7; obtain ⟨A7, c7, rfl, hh7, hs7⟩ := HAP.out _ v7 w7 hb7 (by rfl) (by rfl) (by rfl) (by rfl) hown7; have HH7 := Lib.hid hh7; have HS7 := Lib.hid hs7; clear hown7 hb7 hh7 hs7)
      | (go_at_call 72; refine (HPUT.out A7 c7 w7 HH7.out.1 HH7.out.2.1 HH7.out.2.2).mono ?_; rintro e wH ⟨AH, nH, cH, hd, rfl, hp2, hn2', hr2⟩; have HSH := Lib.hid (HS7.out.next hr2.2.2.2.2 (by rfl) (by rfl) (by rfl) (by rfl)); have HR2 := Lib.hid hr2; clear hr2))
  all_goals
    have HHDE : Hid (hd = Rc.head 2 ⟨(kdn : Int), key, val, (xn : Int)⟩) := by
      show _ = _
      rw [HH2.out, hp2.out, hp1.out]
    have HNH12 : Hid (nH = 12) := by show _ = _; rw [hn2'.out, hn1'.out]
    have HNH : Hid (hd.length = nH) := HR2.out.2.1
    have HHD : Hid (SlIs AH nH cH ∧ Bs wH wH.heap.size AH hd) := ⟨HR2.out.2.2.1, HR2.out.2.2.2.1⟩
    have hHDLT : ∀ y ∈ hd, y < 256 := HR2.out.2.2.2.1.lt
    have HALT : Hid (∀ y ∈ (([] ++ Wire.be 8 sq) ++ Wire.be 4 of ++ hd) ++ (key ++ val), y < 256) := fun y hy => by
      rcases List.mem_append.1 hy with h | h
      · rcases List.mem_append.1 h with h | h
        · rcases List.mem_append.1 h with h | h
          · exact Wire.be_lt 8 sq y h
          · exact Wire.be_lt 4 of y h
        · exact hHDLT y h
      · rcases List.mem_append.1 h with h | h
        · exact HLT1.out y h
        · exact HLT2.out y h
    clear hHDLT z0 z1 z2 z3 hp1 hp2 hn1' hn2' HR1 HS1 HR2

    have HSUMQ : Hid (sm = Crc.U (Crc.upd 0#32 ((([] ++ Wire.be 8 sq) ++ Wire.be 4 of ++ hd) ++ (key ++ val)))) := by
      show _ = _
      rw [HSUM0.out, HHDE.out]
    have HENC : Hid (en = (hd ++ Wire.be 4 sm) ++ (key ++ val)) := by
      show _ = _
      rw [HENC0.out, HHDE.out]
    clear HSUM0 HENC0
    obtain ⟨z0, z1, z2, z3⟩ := four_cells HSH.out.1
    go_wp2_with fail
    go_region_held3 (fun W => W.cell? ⟨w.heap.size, 1, none⟩ = some (.slice A n c) ∧ W.cell? ⟨w.heap.size, 2, none⟩ = some (.slice A' n' c'))
      (first
        | go_keep
        | exact cells_12 HS9.out.1
        | exact cells_12 HS10.out.1)
      (first
        | (refine step_append_onto rfl (.const (.slice none 0 0)) (.tmp 56) 27 rfl wH.heap.size 5 i0 (.int .u8 0) 1 1 Tryz.underlying27 I0.out.1 I0.out.2.1 I0.out.2.2.1 I0.out.2.2.2 rfl (by decide) _ 0 [] rfl (World.ownsRow_nil _ _ _ _) A n c (vals key) rfl HAK.out HVL.out.1 (fun ad e => by have h := HKW.out _ (below_drawn HSH.out.2 1); rw [e] at h; exact h.cells) (vals_one _) (by have := HSZ.out; omega) (by have := HSZ.out; omega) (Nat.le_refl _) ?_; intro v9 w9 hown9 hb9; simp only [Nat.zero_add, List.nil_append] at hown9; have HO9 := Lib.hid hown9; have HB9 : Hid (Below wH.heap.size wH w9) := ⟨hb9.os, hb9.tape, hb9.output, hb9.size, hb9.block⟩; have HS9 := Lib.hid (HSH.out.next HB9.out (by rfl) (by rfl) (by rfl) (by rfl)); clear hown9 hb9)
        | (refine step_append_onto rfl (.tmp 57) (.tmp 59) 27 rfl wH.heap.size 5 i0 (.int .u8 0) 1 1 Tryz.underlying27 I0.out.1 I0.out.2.1 I0.out.2.2.1 I0.out.2.2.2 rfl (by decide) _ n (vals key) rfl HO9.out A' n' c' (vals val) rfl HAV.out HVL.out.2 (fun ad e => by have h := HVW.out w9 HS9.out.2; rw [e] at h; exact h.cells) (vals_one _) (by have := HSZ.out; omega) (by have := HSZ.out; omega) HB9.out.size ?_; intro v10 w10 hown10 hb10; rw [← vals_append] at hown10; have HO10 := Lib.hid hown10; have HB10 : Hid (Below wH.heap.size wH w10) := HB9.out.trans hb10; have HS10 := Lib.hid (HSH.out.next HB10.out (by rfl) (by rfl) (by rfl) (by rfl)); clear hown10 hb10))
    all_goals
      obtain ⟨AB, cB, rfl, hbsB, hlB, hnB, hmB, hoB⟩ := own_bytes HO10.out (fun y hy => by
        rcases List.mem_append.1 hy with h | h
        · exact HLT1.out y h
        · exact HLT2.out y h)
      have HNB : Hid ((key ++ val).length = n + n' ∧ n + n' ≤ 65791) := ⟨hlB, by have := HSZ.out; omega⟩
      have HBD : Hid (SlIs AB (n + n') cB ∧ Bs w10 w10.heap.size AB (key ++ val)) := ⟨sl_own hnB hmB hoB, hbsB⟩
      have HHD10 : Hid (SlIs AH nH cH ∧ Bs w10 w10.heap.size AH hd) := ⟨HHD.out.1, (HHD.out.2.below HB10.out (Nat.le_refl _)).more HB10.out.size⟩
      clear hbsB hlB hnB hmB hoB HO10 HO9 HVL HAK HAV HKW HVW HLT1 HLT2 z0 z1 z2 z3
      generalize key ++ val = bd at *
      generalize n + n' = nB at *
      go_wp2_with fail
      refine (refput_row none 0 0 0 [] sq 8 8 rfl _ ⟨fun _ => ⟨rfl, rfl⟩, Nat.le_refl _, by omega⟩ rfl (by omega) (fun k hk => absurd hk (by simp)) (by omega) (by omega)).mono ?_
      rintro e w11 ⟨A11, n11, c11, p11, rfl, hp11, hn11, hr11⟩
      have HR11 := Lib.hid hr11; clear hr11
      go_wp2_with fail
      refine (refput_row A11 w11.heap.size n11 c11 p11 of 4 4 rfl _ HR11.out.2.2.1 HR11.out.2.1 (by rw [hn11.out]; omega) HR11.out.2.2.2.1 (by omega) (by omega)).mono ?_
      rintro e w12 ⟨A12, n12, c12, p12, rfl, hp12, hn12, hr12⟩
      have HR12 := Lib.hid hr12; clear hr12
      have HP12 : Hid (p12 = ([] ++ Wire.be 8 sq) ++ Wire.be 4 of) := by show _ = _; rw [hp12.out, hp11.out]
      have hn12' : Hid (n12 = 12) := by show _ = _; rw [hn12.out, hn11.out]
      have HB12 : Hid (Below w10.heap.size w10 w12) := HR11.out.2.2.2.2.trans (HR12.out.2.2.2.2.mono HR11.out.2.2.2.2.size)
      have hbd12 := HBD.out.2.below HB12.out (Nat.le_refl _)
      have hhd12 := HHD10.out.2.below HB12.out (Nat.le_refl _)
      have hA1 : AH = none → nH = 0 ∧ cH = 0 := fun e => ⟨(HHD.out.1.1 e).2, (HHD.out.1.1 e).1⟩
      have hA2 : AB = none → nB = 0 ∧ cB = 0 := fun e => ⟨(HBD.out.1.1 e).2, (HBD.out.1.1 e).1⟩
      have HBD12 := Lib.hid (And.intro hbd12 hhd12)
      have HAA := Lib.hid (And.intro hA1 hA2)
      have HVV : Hid ((vals hd).length = nH * 1 ∧ (vals bd).length = nB * 1) := ⟨by rw [vals_length, HNH.out]; omega, by rw [vals_length, HNB.out.1]; omega⟩
      clear hbd12 hhd12 hA1 hA2
      go_wp2_with (first
        | (at_builtin; refine append_onto rfl (.tmp 67) (.tmp 68) 27 rfl w11.heap.size 5 i0 (.int .u8 0) 1 1 Tryz.underlying27 I0.out.1 I0.out.2.1 I0.out.2.2.1 I0.out.2.2.2 rfl (by decide) _ n12 (vals p12) rfl HR12.out.1 AH nH cH (vals hd) rfl HAA.out.1 HVV.out.1 (fun ad e => by have h := HBD12.out.2; rw [e] at h; exact h.cells) (vals_one _) (by have := HNH12.out; have := hn12'.out; unfold maxLen; omega) (by have := HNH12.out; have := hn12'.out; omega) HR12.out.2.2.2.2.size ?_; intro v13 w13 hown13 hg13; rw [← vals_append] at hown13; have HO13 := Lib.hid hown13; have HB13 : Hid (Below w11.heap.size w12 w13) := (Below.refl _ _).grown hg13 HR12.out.2.2.2.2.size (fun g e => (HR12.out.1.lt g e).1); clear hown13 hg13)
        | (at_builtin; refine append_onto rfl (.tmp 69) (.tmp 70) 27 rfl w11.heap.size 5 i0 (.int .u8 0) 1 1 Tryz.underlying27 I0.out.1 I0.out.2.1 I0.out.2.2.1 I0.out.2.2.2 rfl (by decide) _ (n12 + nH) (vals (p12 ++ hd)) rfl HO13.out AB nB cB (vals bd) rfl HAA.out.2 HVV.out.2 (fun ad e => by have h := (HBD.out.2.below HR11.out.2.2.2.2 (Nat.le_refl _)).below (HR12.out.2.2.2.2.trans HB13.out) HR11.out.2.2.2.2.size; rw [e] at h; exact h.cells) (vals_one _) (by have := HNH12.out; have := hn12'.out; have := HNB.out.2; unfold maxLen; omega) (by have := HNH12.out; have := hn12'.out; have := HNB.out.2; omega) (Nat.le_trans HR12.out.2.2.2.2.size HB13.out.size) ?_; intro v14 w14 hown14 hg14; rw [← vals_append] at hown14; have HO14 := Lib.hid hown14; have HB14 : Hid (Below w11.heap.size w12 w14) := HB13.out.grown hg14 (Nat.le_trans HR12.out.2.2.2.2.size HB13.out.size) (fun g e => (HO13.out.lt g e).1); obtain ⟨A14, c14, rfl, hbs14, hl14, hn14, hm14, ho14⟩ := own_bytes hown14 (by rw [HP12.out]; exact HALT.out); clear hown14 hg14))
      have HL14 : Hid ((p12 ++ hd ++ bd).length = n12 + nH + nB) := hl14
      have HB1014 : Hid (Below w10.heap.size w10 w14) := HR11.out.2.2.2.2.trans ((HR12.out.2.2.2.2.trans HB14.out).mono HR11.out.2.2.2.2.size)
      have hsum : Crc.U (Crc.upd 0#32 (p12 ++ hd ++ bd)) = sm := by rw [HSUMQ.out, HP12.out]
      have HSQ := Lib.hid hsum; clear hsum
      clear hl14 hn14 hm14 ho14
      have HRS : Hid (Calls Tryz.prog 104 #[.slice A14 (n12 + nH + nB) c14] w14 fun e w' => e = .returned (.int .u32 (sm : Int)) ∧ w14 = w') := by
        have h := refsum_any A14 w14.heap.size c14 (n12 + nH + nB) (p12 ++ hd ++ bd) w14 HL14 (by have := HNH12.out; have := hn12'.out; have := HNB.out.2; omega) hbs14
        rwa [HSQ.out] at h
      refine HRS.out.mono ?_
      rintro e w' ⟨rfl, rfl⟩
      go_wp2_with fail
      refine (refput_row AH w10.heap.size nH cH hd sm 4 4 rfl _ HHD10.out.1 HNH.out (by rw [HNH12.out]; omega) (HHD10.out.2.below HB1014.out (Nat.le_refl _)) (by omega) (by omega)).mono ?_
      rintro e w15 ⟨A15, n15, c15, p15, rfl, hp15, hn15, hr15⟩
      have HR15 := Lib.hid hr15; clear hr15
      have HN15 : Hid (n15 = 16) := by show _ = _; rw [hn15.out, HNH12.out]
      have HEN2 : Hid (p15 ++ bd = en) := by show _ = _; rw [hp15.out, HENC.out]
      have HBE : Hid (Below w.heap.size w w15) := HS10.out.2.trans ((HB1014.out.trans (HR15.out.2.2.2.2.mono HB1014.out.size)).mono HS10.out.2.size)
      go_wp2_with (at_builtin; refine append_onto rfl (.tmp 76) (.tmp 77) 27 rfl w14.heap.size 5 i0 (.int .u8 0) 1 1 Tryz.underlying27 I0.out.1 I0.out.2.1 I0.out.2.2.1 I0.out.2.2.2 rfl (by decide) _ n15 (vals p15) rfl HR15.out.1 AB nB cB (vals bd) rfl HAA.out.2 HVV.out.2 (fun ad e => by have h := (HBD.out.2.below HB1014.out (Nat.le_refl _)).below HR15.out.2.2.2.2 HB1014.out.size; rw [e] at h; exact h.cells) (vals_one _) (by have := HN15.out; have := HNB.out.2; unfold maxLen; omega) (by have := HN15.out; have := HNB.out.2; omega) HR15.out.2.2.2.2.size ?_; intro v16 w16 hown16 hg16; rw [← vals_append] at hown16; have HO16 := Lib.hid hown16; have HB16 : Hid (Below w14.heap.size w15 w16) := (Below.refl _ _).grown hg16 HR15.out.2.2.2.2.size (fun g e => (HR15.out.1.lt g e).1); clear hown16 hg16)
      go_ret
      have hO16 := HO16.out
      rw [HEN2.out] at hO16
      have hEL : en.length = n15 + nB := by rw [← HEN2.out, List.length_append, HR15.out.2.1, HNB.out.1]
      rw [← hEL] at hO16
      obtain ⟨A16, c16, rfl, hbs16, -, hn16, hm16, ho16⟩ := own_bytes hO16 (HENLT.out)
      exact ⟨A16, c16, rfl, sl_own hn16 hm16 ho16, hbs16, HBE.out.trans (HB16.out.mono (Nat.le_trans HS10.out.2.size HB1014.out.size))⟩
end Go.Proofs.YtgnbmmceffolmaaGreatDoor
end
section
set_option maxRecDepth 100000
namespace Go.Proofs.YtgnbmmceffolmaaGreatDoor
open Go.RowKit
theorem refencode_any (v seq off kd x : Int) (key val : List Nat) (A : Option Addr) (B n c : Nat) (A' : Option Addr) (n' c' : Nat) (w : World) (h : Rc.check v ⟨kd, key, val, x⟩ = 0) (hp : Rc.place seq off) (hB : B ≤ w.heap.size) (hsq : seq ≤ 9223372036854775807)
    (hk : SlIs A n c ∧ key.length = n ∧ Bs w B A key) (hv : SlIs A' n' c' ∧ val.length = n' ∧ Bs w B A' val) :
    Calls Tryz.prog 77 #[.int .i64 v, .int .i64 seq, .int .i64 off, .agg #[.int .i64 kd, .slice A n c, .slice A' n' c', .int .i64 x]] w fun e w' => ∃ A3 c3, e = .returned (.slice A3 (Rc.enc v seq off ⟨kd, key, val, x⟩).length c3) ∧ SlIs A3 (Rc.enc v seq off ⟨kd, key, val, x⟩).length c3 ∧ Bs w' w'.heap.size A3 (Rc.enc v seq off ⟨kd, key, val, x⟩) ∧ Below w.heap.size w w' := by
  rcases (Rc.chk_ok h).1 with rfl | rfl
  · exact refencode1 seq off kd x key val A B n c A' n' c' w h hp hB hsq hk hv
  · exact refencode2 seq off kd x key val A B n c A' n' c' w h hp hB hsq hk hv
end Go.Proofs.YtgnbmmceffolmaaGreatDoor
end
section
set_option maxRecDepth 100000
namespace Go.Proofs.YtgnbmmceffolmaaGreatDoor
open Go.RowKit
theorem refdecode_early (v seq off : Int) (A : Option Addr) (n c : Nat) (w : World) (h : ¬ (v = 1 ∨ v = 2) ∨ ¬ Rc.place seq off ∨ n < 16) :
    Calls Tryz.prog 70 #[.int .i64 v, .int .i64 seq, .int .i64 off, .slice A n c] w (NoRec w) := by
  by_cases hv : v = 1 ∨ v = 2
  · have hc : decide (seq < 0) = true ∨ (decide (seq < 0) = false ∧ (decide (off < 0) = true ∨ (decide (off < 0) = false ∧ (decide (2147483647 < off) = true ∨ (decide (2147483647 < off) = false ∧ decide ((n : Int) < 16) = true))))) := by
      have h2 := h.resolve_left (fun e => e hv)
      unfold Rc.place at h2
      simp
      omega
    clear h
    rcases hc with f1 | ⟨f1, f2 | ⟨f2, f3 | ⟨f3, f4⟩⟩⟩
    all_goals
      rcases hv with rfl | rfl
    all_goals
      go_enter Tryz.func70, Tryz.ntmps70
      go_wp2
      (try simp only [Exit.inBlock, Exit.then])
      refine bodyPost_ret (results_row3 rfl _ _ w.heap.size _ _ (0, 0) _ rfl (heap_alloc_new _ _) Tryz.underlying55 rfl (by kernel_rfl)) rfl ?_
      exact ⟨rfl, (Below.refl _ _).alloc (Nat.le_refl _) _⟩
  · have f1 : (v != 1) = true := by rw [bne_iff_ne]; omega
    have f2 : (v != 2) = true := by rw [bne_iff_ne]; omega
    clear h hv
    go_enter Tryz.func70, Tryz.ntmps70
    go_wp2
    (try simp only [Exit.inBlock, Exit.then])
    refine bodyPost_ret (results_row3 rfl _ _ w.heap.size _ _ (0, 0) _ rfl (heap_alloc_new _ _) Tryz.underlying55 rfl (by kernel_rfl)) rfl ?_
    exact ⟨rfl, (Below.refl _ _).alloc (Nat.le_refl _) _⟩
/-- The reference's Num of a part of the bytes. -/
theorem num_part (ad : Addr) (B i m c : Nat) (l : List Nat) (W : World) (hb : Bs W B (some ad) l) (h0 : 0 < i) (hm : m ≤ 8) (hl : i + m ≤ l.length) :
    Calls Tryz.prog 56 #[.slice (some ⟨ad.block, ad.off + i, none⟩) m c] W fun e w' => e = .returned (.int .u64 (Wire.num (Rc.sub l i m) : Int)) ∧ w' = W := by
  have h := ((hb.bsIn.drop i).bs).take m
  rw [Option.map_some, add_pos ad i h0] at h
  exact (refnum_any _ B m c (Rc.sub l i m) W (Rc.sub_length l i m hl) hm h).mono fun _ _ h => ⟨h.1, h.2.symm⟩
theorem byte_at (ad : Addr) (B i : Nat) (l : List Nat) (W : World) (hb : Bs W B (some ad) l) (h0 : 0 < i) (hl : i < l.length) : W.cell? ⟨ad.block, ad.off + i, none⟩ = some (.int .u8 ((l.getD i 0 : Nat) : Int)) := by
  obtain ⟨_, ad', e, _, hc⟩ := hb i hl
  injection e with e
  subst e
  rw [← add_pos ad i h0]; exact hc
theorem wrap_small (q : Nat) (h : q < 9223372036854775808) : IntKind.i64.wrap (q : Int) = (q : Int) := by
  rw [IntKind.wrap_i64]; omega
/-- The second box's second and third field, stored. -/
theorem sd2_set1 {w W : World} {o0 : Obj} {a b c d v : Value} {t : TypeId} (h : Sd2 w o0 (.cells #[a, b, c, d] t (0, 0)) W) : Sd2 w o0 (.cells #[a, v, c, d] t (0, 0)) (W.setCell ⟨w.heap.size + 1, 1, none⟩ v) :=
  ⟨((grown_set W _ _ _).block _ (Array.getElem?_eq_some_iff.1 h.1).1 (fun e => by injection e with e; omega)).trans h.1, by have h1 := h.2.1; simp [World.setCell, Array.getElem?_modify, h1], h.2.2.trans (below_of_grown (grown_set _ _ _ _) (by omega) h.2.2.size)⟩
theorem sd2_set2 {w W : World} {o0 : Obj} {a b c d v : Value} {t : TypeId} (h : Sd2 w o0 (.cells #[a, b, c, d] t (0, 0)) W) : Sd2 w o0 (.cells #[a, b, v, d] t (0, 0)) (W.setCell ⟨w.heap.size + 1, 2, none⟩ v) :=
  ⟨((grown_set W _ _ _).block _ (Array.getElem?_eq_some_iff.1 h.1).1 (fun e => by injection e with e; omega)).trans h.1, by have h1 := h.2.1; simp [World.setCell, Array.getElem?_modify, h1], h.2.2.trans (below_of_grown (grown_set _ _ _ _) (by omega) h.2.2.size)⟩
theorem reflen_any (kd : Int) (A : Option Addr) (n c : Nat) (A' : Option Addr) (n' c' : Nat) (x : Int) (w : World) (hs : n ≤ 140737488355328) (hs' : n' ≤ 140737488355328) :
    Calls Tryz.prog 75 #[.agg #[.int .i64 kd, .slice A n c, .slice A' n' c', .int .i64 x]] w fun e w' => e = .returned (.int .i64 ((16 + n + n' : Nat) : Int)) ∧ Below w.heap.size w w' := by
  go_enter Tryz.func75, Tryz.ntmps75
  go_wp2
  go_ret
  exact ⟨ret_int (by omega), (Below.refl _ _).alloc (Nat.le_refl _) _⟩
end Go.Proofs.YtgnbmmceffolmaaGreatDoor
end
section
set_option maxRecDepth 100000
namespace Go.Proofs.YtgnbmmceffolmaaGreatDoor
open Go.RowKit
set_option maxHeartbeats 2000000 in
set_option maxRecDepth 100000 in
theorem refdecode1 (seq off : Int) (ad : Addr) (B n c : Nat) (l : List Nat) (w : World) (hB : B ≤ w.heap.size) (hsq : seq ≤ 9223372036854775807) (hnc : n ≤ c) (hc : c ≤ 9223372036854775807) (hl : Hid (l.length = n)) (hb : Hid (Bs w B (some ad) l)) (hpl : Rc.place seq off) (h16 : 16 ≤ n) (hn : n ≤ 140737488355328) :
    Calls Tryz.prog 70 #[.int .i64 1, .int .i64 seq, .int .i64 off, .slice (some ad) n c] w fun e w' => (Rc.good 1 seq off l ∧ GotRec w 1 l e w') ∨ (¬ Rc.good 1 seq off l ∧ NoRec w e w') := by
  have HPL := Lib.hid hpl
  obtain ⟨p1, p2, p3⟩ := hpl
  have f1 : decide (seq < 0) = false := by simp; omega
  have f2 : decide (off < 0) = false := by simp; omega
  have f3 : decide (2147483647 < off) = false := by simp; omega
  have f4 : decide ((n : Int) < 16) = false := by simp; omega
  have hlt := hb.out.lt
  obtain ⟨b1, hb1⟩ : ∃ x, l.getD 1 0 = x := ⟨_, rfl⟩
  obtain ⟨b2, hb2⟩ : ∃ x, l.getD 2 0 = x := ⟨_, rfl⟩
  obtain ⟨q8, hq8⟩ : ∃ x, Wire.num (Rc.sub l 8 4) = x := ⟨_, rfl⟩
  obtain ⟨q4, hq4⟩ : ∃ x, Wire.num (Rc.sub l 4 4) = x := ⟨_, rfl⟩
  have hb1' : b1 < 256 := by rw [← hb1]; exact getD_lt hlt _
  have hb2' : b2 < 256 := by rw [← hb2]; exact getD_lt hlt _
  have hq8' : q8 < 72057594037927936 := by rw [← hq8]; exact num_small _ (sub_lt hlt _ _) (Nat.le_trans (sub_le _ _ _) (by omega))
  have hq4' : q4 < 72057594037927936 := by rw [← hq4]; exact num_small _ (sub_lt hlt _ _) (Nat.le_trans (sub_le _ _ _) (by omega))
  have HQ8 : Hid (∀ (c : Nat) (W : World), Below w.heap.size w W → Calls Tryz.prog 56 #[.slice (some ⟨ad.block, ad.off + 8, none⟩) 4 c] W fun e w' => e = .returned (.int .u64 (q8 : Int)) ∧ w' = W) := fun c W hW => by
    have h := num_part ad B 8 4 c l W (hb.out.below hW hB) (by omega) (by omega) (by rw [hl.out]; omega)
    rwa [hq8] at h
  have HQ4 : Hid (∀ (c : Nat) (W : World), Below w.heap.size w W → Calls Tryz.prog 56 #[.slice (some ⟨ad.block, ad.off + 4, none⟩) 4 c] W fun e w' => e = .returned (.int .u64 (q4 : Int)) ∧ w' = W) := fun c W hW => by
    have h := num_part ad B 4 4 c l W (hb.out.below hW hB) (by omega) (by omega) (by rw [hl.out]; omega)
    rwa [hq4] at h
  have HB1 : Hid (∀ (W : World), Below w.heap.size w W → W.cell? ⟨ad.block, ad.off + 1, none⟩ = some (.int .u8 (b1 : Int))) := fun W hW => by
    have h := byte_at ad B 1 l W (hb.out.below hW hB) (by omega) (by rw [hl.out]; omega)
    rwa [hb1] at h
  have HB2 : Hid (∀ (W : World), Below w.heap.size w W → W.cell? ⟨ad.block, ad.off + 2, none⟩ = some (.int .u8 (b2 : Int))) := fun W hW => by
    have h := byte_at ad B 2 l W (hb.out.below hW hB) (by omega) (by rw [hl.out]; omega)
    rwa [hb2] at h
  have HE := Lib.hid (And.intro hb1 (And.intro hb2 (And.intro hq8 hq4)))
  have HWR : Hid (IntKind.i64.wrap (b1 : Int) = (b1 : Int) ∧ IntKind.i64.wrap (b2 : Int) = (b2 : Int) ∧ IntKind.i64.wrap (q8 : Int) = (q8 : Int) ∧ IntKind.i64.wrap (q4 : Int) = (q4 : Int)) := ⟨wrap_small _ (by omega), wrap_small _ (by omega), wrap_small _ (by omega), wrap_small _ (by omega)⟩
  clear hb1 hb2 hq8 hq4 hlt
  have i1 : (1 : Int) < (n : Int) := by omega
  have i2 : (2 : Int) < (n : Int) := by omega
  have i8 : (8 : Int) ≤ (c : Int) := by omega
  have i12 : (12 : Int) ≤ (c : Int) := by omega
  have hc4 : c ≠ 4 := by omega
  have hc8 : c ≠ 8 := by omega
  have HA : Hid (∀ o, Below w.heap.size w (w.alloc o)) := fun o => (Below.refl _ _).alloc (Nat.le_refl _) o
  have HAA : Hid (∀ o o', Below w.heap.size w ((w.alloc o).alloc o')) := fun o o' => (HA.out o).alloc (HA.out o).size o'
  go_enter Tryz.func70, Tryz.ntmps70
  go_upto_region 3 with fail
  go_cut [11] (fun s wx => s = .pointer (some ⟨w.heap.size + 1, 0, none⟩) ∧ Hid (Sd2 w (.cells #[.int .i64 0, .slice none 0 0, .slice none 0 0, .int .i64 0] 55 (0, 0)) (.cells #[.int .i64 (b1 : Int), .slice none 0 0, .slice none 0 0, .int .i64 (q8 : Int)] 55 (0, 0)) wx))
  case first =>
    have y1 := HB1.out (w.alloc (.cells #[.int .i64 0, .slice none 0 0, .slice none 0 0, .int .i64 0] 55)) (HA.out _)
    go_region_held3 (fun W => W.cell? ⟨ad.block, ad.off + 1, none⟩ = some (.int .u8 (b1 : Int)))
      (first
        | go_keep)
      (first
        | (go_at_call 56; refine (HQ8.out _ _ (by first | exact below_drawn (HA.out _) 1 | exact below_drawn (HAA.out _ _) 1)).mono ?_; rintro e w' ⟨rfl, rfl⟩))
    all_goals
      rw [HWR.out.1, HWR.out.2.2.1]
      go_wp2_with fail
      go_meet
      exact ⟨rfl, (heap_alloc_old _ _ (by simp)).trans (heap_alloc_new w _), alloc_at (w := w.alloc _) (by simp), below_drawn (HAA.out _ _) 1⟩
  case rest =>
    obtain ⟨rfl, HS3⟩ := hcut
    have y2 := HB2.out wc HS3.out.2.2
    go_wp2_with fail
    go_quiet (first | (go_at_call 56; refine Calls.quiet_of_same (HQ4.out _ _ (below_drawn HS3.out.2.2 _))))
    have HS4 : Hid (Sd2 w (.cells #[.int .i64 0, .slice none 0 0, .slice none 0 0, .int .i64 0] 55 (0, 0)) (.cells #[.int .i64 (b1 : Int), .slice none 0 0, .slice none 0 0, .int .i64 (q8 : Int)] 55 (0, 0)) (wc.drewN nq)) := HS3.out.drawn nq
    clear y2 HS3
    generalize wc.drewN nq = w4 at *
    have HRC : Hid ((Rc.kd 1 l : Int) = (b1 : Int) ∧ Rc.kl 1 l = b2 ∧ Rc.vl 1 l = q4 ∧ Rc.xp 1 l = q8) := by
      obtain ⟨h1, h2, h3, h4⟩ := HE.out
      refine ⟨?_, ?_, ?_, ?_⟩
      · show ((l.getD 1 0 : Nat) : Int) = _
        rw [h1]
      · show l.getD 2 0 = _
        exact h2
      · show Wire.num (Rc.sub l 4 4) = _
        exact h4
      · show Wire.num (Rc.sub l 8 4) = _
        exact h3
    by_cases hU : 65536 < q4 ∨ n < 16 + b2 + q4
    · have hng : ¬ Rc.good 1 seq off l := fun hg => by
        obtain ⟨h1, h2, h3, -, -⟩ := hg
        have h4 := (Rc.chk_ok h3).2.2.2.1
        unfold Rc.rec at h4
        simp only at h4
        rw [Rc.sub_length _ _ _ (by omega), HRC.out.2.2.1] at h4
        rw [hl.out, HRC.out.2.1, HRC.out.2.2.1] at h2
        omega
      have HNG := Lib.hid hng
      have hu : decide ((65536 : Int) < (q4 : Int)) = true ∨ (decide ((65536 : Int) < (q4 : Int)) = false ∧ decide ((n : Int) < 16 + (b2 : Int) + (q4 : Int)) = true) := by
        simp; omega
      clear hng hU
      obtain ⟨z0, z1, z2, z3⟩ := four_cells HS4.out.1
      obtain ⟨g0, g1, g2, g3⟩ := four_frozen HS4.out.1
      rcases hu with u1 | ⟨u1, u2⟩
      all_goals
        go_wp2_with fail
        (try simp only [Exit.inBlock, Exit.then])
        refine bodyPost_ret (results_row3 rfl _ _ w.heap.size _ _ (0, 0) _ rfl (stored HS4.out.1) Tryz.underlying55 rfl (by kernel_rfl)) rfl ?_
        exact .inr ⟨HNG.out, rfl, HS4.out.2.2.trans (below_of_grown (stored_grown _ _ _ _ _ _) (Nat.le_refl _) HS4.out.2.2.size)⟩
    · have u1 : decide ((65536 : Int) < (q4 : Int)) = false := by simp; omega
      have u2 : decide ((n : Int) < 16 + (b2 : Int) + (q4 : Int)) = false := by simp; omega
      have HFIT : Hid (b2 + q4 + 16 ≤ n ∧ q4 ≤ 65536) := ⟨by omega, by omega⟩
      have j1 : (16 : Int) ≤ 16 + (b2 : Int) := by omega
      have j2 : (16 : Int) + (b2 : Int) ≤ (c : Int) := by omega
      have j3 : (16 : Int) + (b2 : Int) ≤ 16 + (b2 : Int) + (q4 : Int) := by omega
      have j4 : (16 : Int) + (b2 : Int) + (q4 : Int) ≤ (c : Int) := by omega
      clear hU
      have HC1 : Hid (Bs w4 B (if c = 16 then some ad else some ⟨ad.block, ad.off + 16, none⟩) (Rc.sub l 16 b2) ∧ (Rc.sub l 16 b2).length = b2) := by
        refine ⟨?_, Rc.sub_length _ _ _ (by rw [hl.out]; have := HFIT.out; omega)⟩
        have h := ((hb.out.bsIn.drop' 16 c (by rw [hl.out]; omega)).bs.take b2).below HS4.out.2.2 hB
        rw [Option.map_some, add_pos ad 16 (by omega)] at h
        exact h
      have HL1 : Hid (b2 ≤ 140737488355328 ∧ q4 ≤ 140737488355328) := ⟨by have := HFIT.out; omega, by have := HFIT.out; omega⟩
      have HC2 : Hid (∀ W, Below w.heap.size w W → Bs W B (if c = 16 + b2 then some ad else some (ad.add (16 + b2))) (Rc.sub l (16 + b2) q4)) := fun W hW => by
        have h := ((hb.out.bsIn.drop' (16 + b2) c (by rw [hl.out]; omega)).bs.take q4).below hW hB
        rw [Option.map_some] at h
        exact h
      have HL2 : Hid ((Rc.sub l (16 + b2) q4).length = q4) := Rc.sub_length _ _ _ (by rw [hl.out]; have := HFIT.out; omega)
      have HREC : Hid (Rc.rec 1 l = ⟨(b1 : Int), Rc.sub l 16 b2, Rc.sub l (16 + b2) q4, (q8 : Int)⟩) := by
        show _ = _
        unfold Rc.rec
        rw [HRC.out.1, HRC.out.2.1, HRC.out.2.2.1, HRC.out.2.2.2]
      have HC1L := Lib.hid HC1.out.2
      have HSZ4 : Hid (w.heap.size + 1 < w4.heap.size) := (Array.getElem?_eq_some_iff.1 HS4.out.2.1).1
      go_upto_region 10 with fail
      go_cut [11, 12] (fun s s12 wx => s = .pointer (some ⟨w.heap.size + 1, 0, none⟩) ∧ s12 = .int .i64 (b2 : Int) ∧ ∃ A5 c5, Hid (SlIs A5 b2 c5 ∧ BsIn wx (w.heap.size + 2) wx.heap.size A5 (Rc.sub l 16 b2)) ∧ Hid (Sd2 w (.cells #[.int .i64 0, .slice none 0 0, .slice none 0 0, .int .i64 0] 55 (0, 0)) (.cells #[.int .i64 (b1 : Int), .slice A5 b2 c5, .slice none 0 0, .int .i64 (q8 : Int)] 55 (0, 0)) wx))
      case first =>
        obtain ⟨z0, z1, z2, z3⟩ := four_cells HS4.out.2.1
        obtain ⟨g0, g1, g2, g3⟩ := four_frozen HS4.out.2.1
        by_cases hc16 : c = 16
        · have hk0 : (b2 : Int) = 0 := by omega
          have HKV : Hid (b2 = 0) := by show _ = _; omega
          subst hc16
          go_wp2_with (at_builtin; fail)
          all_goals
            go_meet
            refine ⟨rfl, by (rw [HKV.out]; try rfl), none, 0, ⟨⟨fun _ => ⟨rfl, HKV.out⟩, by have := HKV.out; omega, by decide⟩, fun k hk => absurd hk (by rw [HC1.out.2, HKV.out]; omega)⟩, ?_⟩
            rw [HKV.out]
            exact sd2_set1 HS4.out
        · go_wp2_with (at_builtin; first
            | (refine append_bytes rfl (.tmp 91) rfl B (if c = 16 then some ad else some ⟨ad.block, ad.off + 16, none⟩) b2 (c - 16) (Rc.sub l 16 b2) (by simp [Act.eval, hc16]) (fun e => by split at e <;> cases e) HC1.out.2 HC1.out.1 HL1.out.1 ?_; rintro A5 c5 w5 hs5 hb5 hB5; have HS5 : Hid (Sd2 w _ _ w5) := HS4.out.next hB5 rfl rfl rfl rfl; have HK5 := Lib.hid (And.intro hs5 hb5); have HG5 := Lib.hid hB5.size; clear z0 z1 z2 z3 g0 g1 g2 g3; obtain ⟨z0, z1, z2, z3⟩ := four_cells HS5.out.2.1; obtain ⟨g0, g1, g2, g3⟩ := four_frozen HS5.out.2.1; clear hs5 hb5 hB5))
          all_goals
            go_meet
            refine ⟨rfl, rfl, A5, c5, ⟨HK5.out.1, ?_⟩, sd2_set1 HS5.out⟩
            exact (HK5.out.2.keep fun b h1 h2 => (grown_set w5 (w.heap.size + 1) 1 (.slice A5 b2 c5)).block b h2 (fun e => by injection e with e; have := HSZ4.out; omega)).wider (by have := HSZ4.out; omega : w.heap.size + 2 ≤ _) (grown_set w5 (w.heap.size + 1) 1 (.slice A5 b2 c5)).size
      case rest =>
        obtain ⟨rfl, rfl, A5, c5, HK5, HS5⟩ := hcut
        go_upto_region 11 with fail
        clear HS4 HC1
        have HSZ5 : Hid (w.heap.size + 1 < wc.heap.size) := (Array.getElem?_eq_some_iff.1 HS5.out.2.1).1
        generalize wc = w5 at *
        go_cut [11, 13] (fun s s13 wx => s = .pointer (some ⟨w.heap.size + 1, 0, none⟩) ∧ s13 = .int .i64 (q4 : Int) ∧ ∃ A7 c7, Hid (SlIs A7 q4 c7 ∧ BsIn wx (w.heap.size + 2) wx.heap.size A5 (Rc.sub l 16 b2) ∧ BsIn wx (w.heap.size + 2) wx.heap.size A7 (Rc.sub l (16 + b2) q4)) ∧ Hid (Sd2 w (.cells #[.int .i64 0, .slice none 0 0, .slice none 0 0, .int .i64 0] 55 (0, 0)) (.cells #[.int .i64 (b1 : Int), .slice A5 b2 c5, .slice A7 q4 c7, .int .i64 (q8 : Int)] 55 (0, 0)) wx))
        case first =>
          obtain ⟨z0, z1, z2, z3⟩ := four_cells HS5.out.2.1
          obtain ⟨g0, g1, g2, g3⟩ := four_frozen HS5.out.2.1
          by_cases hcv : c = 16 + b2
          · have hv0 : (q4 : Int) = 0 := by omega
            have HKV : Hid (q4 = 0) := by show _ = _; omega
            go_wp2_with (at_builtin; fail)
            all_goals
              go_meet
              have k8 := (HK5.out.2.keep fun b h1 h2 => (grown_set w5 (w.heap.size + 1) 2 (.slice none 0 0)).block b h2 (fun e => by injection e with e; have := HSZ5.out; omega)).wider (Nat.le_refl _) (grown_set w5 (w.heap.size + 1) 2 (.slice none 0 0)).size
              refine ⟨rfl, by (rw [HKV.out]; try rfl), none, 0, ⟨⟨fun _ => ⟨rfl, HKV.out⟩, by have := HKV.out; omega, by decide⟩, k8, fun k hk => absurd hk (by rw [HL2.out, HKV.out]; omega)⟩, ?_⟩
              rw [HKV.out]
              exact sd2_set2 HS5.out
          · go_wp2_with (at_builtin; first
              | (refine append_bytes rfl (.tmp 101) rfl B (if c = 16 + b2 then some ad else some (ad.add (16 + b2))) q4 (c - (16 + b2)) (Rc.sub l (16 + b2) q4) (by simp [Act.eval, hcv]) (fun e => by split at e <;> cases e) HL2.out (HC2.out _ HS5.out.2.2) HL1.out.2 ?_; rintro A7 c7 w7 hs7 hb7 hB7; have HS7 : Hid (Sd2 w _ _ w7) := HS5.out.next hB7 rfl rfl rfl rfl; have HK7 := Lib.hid (And.intro hs7 hb7); have HB7 := Lib.hid hB7; clear z0 z1 z2 z3 g0 g1 g2 g3; obtain ⟨z0, z1, z2, z3⟩ := four_cells HS7.out.2.1; obtain ⟨g0, g1, g2, g3⟩ := four_frozen HS7.out.2.1; clear hs7 hb7 hB7))
            all_goals
              go_meet
              have s7 := HB7.out.size
              have s5 := HSZ5.out
              have k5 := (HK5.out.2.keep fun b _ h => HB7.out.block b h).wider (Nat.le_refl _) s7
              have k8 := (k5.keep fun b h1 h2 => (grown_set w7 (w.heap.size + 1) 2 (.slice A7 q4 c7)).block b h2 (fun e => by injection e with e; omega)).wider (Nat.le_refl _) (grown_set w7 (w.heap.size + 1) 2 (.slice A7 q4 c7)).size
              have k9 := (HK7.out.2.keep fun b h1 h2 => (grown_set w7 (w.heap.size + 1) 2 (.slice A7 q4 c7)).block b h2 (fun e => by injection e with e; omega)).wider (by omega : w.heap.size + 2 ≤ _) (grown_set w7 (w.heap.size + 1) 2 (.slice A7 q4 c7)).size
              exact ⟨rfl, rfl, A7, c7, ⟨HK7.out.1, k8, k9⟩, sd2_set2 HS7.out⟩
        case rest =>
          obtain ⟨rfl, rfl, A7, c7, HK8, HS8⟩ := hcut
          have HK9 : Hid (SlIs A5 b2 c5 ∧ SlIs A7 q4 c7) := ⟨HK5.out.1, HK8.out.1⟩
          have HKB := Lib.hid HK8.out.2
          clear HK5 HK8 HS5 HSZ5
          generalize wc = w8 at *
          obtain ⟨z0, z1, z2, z3⟩ := four_cells HS8.out.2.1
          go_wp2_with fail
          refine (reflen_any (b1 : Int) A5 b2 c5 A7 q4 c7 (q8 : Int) w8 HL1.out.1 HL1.out.2).mono ?_
          rintro e w9 ⟨rfl, hb9⟩
          have HS9 := Lib.hid (HS8.out.next hb9 (by rfl) (by rfl) (by rfl) (by rfl))
          have HB9 : Hid (BsIn w9 (w.heap.size + 2) w9.heap.size A5 (Rc.sub l 16 b2) ∧ BsIn w9 (w.heap.size + 2) w9.heap.size A7 (Rc.sub l (16 + b2) q4)) :=
            ⟨(HKB.out.1.keep fun b _ h => hb9.block b h).wider (Nat.le_refl _) hb9.size, (HKB.out.2.keep fun b _ h => hb9.block b h).wider (Nat.le_refl _) hb9.size⟩
          clear hb9 HS8 HKB z0 z1 z2 z3
          obtain ⟨z0, z1, z2, z3⟩ := four_cells HS9.out.2.1
          have HCK := Lib.hid (fun W => refcheck_any 1 (b1 : Int) A5 b2 c5 A7 q4 c7 (q8 : Int) W)
          have HCQ : Hid (Rc.check 1 (Rc.rec 1 l) = Rc.chk 1 (b1 : Int) b2 q4 (q8 : Int)) := by
            show _ = _
            unfold Rc.check
            rw [HREC.out]
            simp only
            rw [HC1L.out, HL2.out]
          obtain ⟨N, hN⟩ : ∃ N, 16 + b2 + q4 = N := ⟨_, rfl⟩
          have jN : (N : Int) ≤ (c : Int) := by omega
          have jN0 : (0 : Int) ≤ (N : Int) := by omega
          have HNN : Hid (N ≤ n ∧ 16 + b2 + q4 = N) := ⟨by have := HFIT.out; omega, hN⟩
          rw [hN]
          clear hN
          by_cases hck : Rc.chk 1 (b1 : Int) b2 q4 (q8 : Int) = 0
          · have HRE : Hid (∀ W, Below w9.heap.size w9 W → Calls Tryz.prog 77 #[.int .i64 1, .int .i64 seq, .int .i64 off, .agg #[.int .i64 (b1 : Int), .slice A5 b2 c5, .slice A7 q4 c7, .int .i64 (q8 : Int)]] W fun e w' => ∃ A3 c3, e = .returned (.slice A3 (Rc.enc 1 seq off (Rc.rec 1 l)).length c3) ∧ SlIs A3 (Rc.enc 1 seq off (Rc.rec 1 l)).length c3 ∧ Bs w' w'.heap.size A3 (Rc.enc 1 seq off (Rc.rec 1 l)) ∧ Below W.heap.size W w') := fun W hW => by
              have h := HCQ.out.trans hck
              rw [HREC.out] at h ⊢
              exact refencode_any 1 seq off (b1 : Int) (q8 : Int) _ _ A5 w9.heap.size b2 c5 A7 q4 c7 W h HPL.out hW.size hsq ⟨HK9.out.1, HC1L.out, HB9.out.1.bs.below hW (Nat.le_refl _)⟩ ⟨HK9.out.2, HL2.out, HB9.out.2.bs.below hW (Nat.le_refl _)⟩
            have HEN : Hid ((Rc.enc 1 seq off (Rc.rec 1 l)).length = N) := by
              show _ = _
              rw [Rc.enc_length, HREC.out]
              unfold Rc.len
              simp only
              rw [HC1L.out, HL2.out, HNN.out.2]
            have HGD : Hid (Rc.enc 1 seq off (Rc.rec 1 l) = l.take N → Rc.good 1 seq off l) := fun h => by
              refine ⟨by rw [hl.out]; exact h16, ?_, HCQ.out.trans hck, HPL.out, ?_⟩
              · rw [hl.out, HRC.out.2.1, HRC.out.2.2.1]; have := HNN.out; omega
              · rw [HRC.out.2.1, HRC.out.2.2.1, HNN.out.2]; exact h
            have HBD : Hid (Rc.good 1 seq off l → Rc.enc 1 seq off (Rc.rec 1 l) = l.take N) := fun h => by
              have h5 := h.2.2.2.2
              rw [HRC.out.2.1, HRC.out.2.2.1, HNN.out.2] at h5
              exact h5
            rw [HEN.out] at HRE
            have HEQ : Hid (∀ W A3 c3, Below w9.heap.size w9 W → Bs W W.heap.size A3 (Rc.enc 1 seq off (Rc.rec 1 l)) → Calls Tryz.prog 58 #[.slice A3 N c3, .slice (some ad) N c] W (SaysQuiet (decide (Rc.enc 1 seq off (Rc.rec 1 l) = l.take N)) W)) := fun W A3 c3 hW h3 =>
              refeq_any A3 (some ad) W.heap.size B N N c3 c _ _ W HEN.out (by show _ = _; rw [List.length_take, hl.out]; have := HNN.out; omega) (by have := HNN.out; omega) (by have := HNN.out; omega) h3 ((hb.out.take N).below (HS9.out.2.2.trans (hW.mono HS9.out.2.2.size)) hB)
            rw [hck] at HCK
            generalize Rc.enc 1 seq off (Rc.rec 1 l) = en at HRE HEN HGD HBD HEQ
            clear HCQ hck
            by_cases henc : en = l.take N
            · rw [decide_eq_true henc] at HEQ
              have HGG := Lib.hid (HGD.out henc)
              clear HGD HBD henc
              go_upto_region 13 with fail
              refine wp_region_held_drew (S := (fun W => W.cell? ⟨w.heap.size + 1, 0, none⟩ = some (.int .i64 (b1 : Int)) ∧ W.cell? ⟨w.heap.size + 1, 1, none⟩ = some (.slice A5 b2 c5) ∧ W.cell? ⟨w.heap.size + 1, 2, none⟩ = some (.slice A7 q4 c7) ∧ W.cell? ⟨w.heap.size + 1, 3, none⟩ = some (.int .i64 (q8 : Int)))) (by kernel_rfl) (four_cells (HS9.out.drawn 1).2.1) (fun hH => ?_)
              change wpAnyH _ _ _ _ _ 16 #[false, false, false, false, false, false, false, false, false, false, false, false, false, false, false, false] _ _
              refine held_take (i := 0) (v := ?_) (d := some 106) rfl rfl (by kernel_rfl) (by kernel_rfl) (by kernel_rfl) (fun _ _ _ h => h) hH ⟨by rfl, fun w hSw => ?_⟩ ?_
              rotate_left
              · obtain ⟨s0, s1, s2, s3⟩ := hSw
                (go_simp; all_goals with_reducible rfl)
              simp only [Act.put, List.setIfInBounds_toArray, List.set_cons_zero, List.set_cons_succ]
              refine held_take (i := 1) (v := ?_) (d := some 107) rfl rfl (by kernel_rfl) (by kernel_rfl) (by kernel_rfl) (fun _ _ _ h => h) hH ⟨by rfl, fun w hSw => ?_⟩ ?_
              rotate_left
              · obtain ⟨s0, s1, s2, s3⟩ := hSw
                (go_simp; all_goals with_reducible rfl)
              simp only [Act.put, List.setIfInBounds_toArray, List.set_cons_zero, List.set_cons_succ]
              refine held_step (i := 2) rfl (by kernel_rfl) (by rfl) (fun K hK => ?_)
              clear hH
              go_simp
              refine (HCK.out _).mono ?_
              rintro e w10 ⟨rfl, hb10⟩
              have HS10 : Hid (Sd2 w _ _ w10) := HS9.out.next hb10 rfl rfl rfl rfl
              have HX10 : Hid (Below w9.heap.size w9 w10) := below_drop hb10
              clear hb10
              have hH := four_cells HS10.out.2.1
              refine hK _ _ hH ?_
              clear hK K
              simp only [List.setIfInBounds_toArray, List.set_cons_zero, List.set_cons_succ]
              refine held_take (i := 3) (v := ?_) (d := some 109) rfl rfl (by kernel_rfl) (by kernel_rfl) (by kernel_rfl) (fun _ _ _ h => h) hH ⟨by rfl, fun w hSw => ?_⟩ ?_
              rotate_left
              · obtain ⟨s0, s1, s2, s3⟩ := hSw
                (go_simp; all_goals with_reducible rfl)
              simp only [Act.put, List.setIfInBounds_toArray, List.set_cons_zero, List.set_cons_succ]
              refine held_take (i := 4) (v := ?_) (d := some 110) rfl rfl (by kernel_rfl) (by kernel_rfl) (by kernel_rfl) (fun _ _ _ h => h) hH ⟨by rfl, fun w hSw => ?_⟩ ?_
              rotate_left
              · obtain ⟨s0, s1, s2, s3⟩ := hSw
                (go_simp; all_goals with_reducible rfl)
              simp only [Act.put, List.setIfInBounds_toArray, List.set_cons_zero, List.set_cons_succ]
              refine held_take (i := 5) (v := ?_) (d := some 111) rfl rfl (by kernel_rfl) (by kernel_rfl) (by kernel_rfl) (fun _ _ _ h => h) hH ⟨by rfl, fun w hSw => ?_⟩ ?_
              rotate_left
              · obtain ⟨s0, s1, s2, s3⟩ := hSw
                (go_simp; all_goals with_reducible rfl)
              simp only [Act.put, List.setIfInBounds_toArray, List.set_cons_zero, List.set_cons_succ]
              refine held_take (i := 6) (v := ?_) (d := some 112) rfl rfl (by kernel_rfl) (by kernel_rfl) (by kernel_rfl) (fun _ _ _ h => h) hH ⟨by rfl, fun w hSw => ?_⟩ ?_
              rotate_left
              · obtain ⟨s0, s1, s2, s3⟩ := hSw
                (go_simp; all_goals with_reducible rfl)
              simp only [Act.put, List.setIfInBounds_toArray, List.set_cons_zero, List.set_cons_succ]
              refine held_take (i := 7) (v := ?_) (d := some 113) rfl rfl (by kernel_rfl) (by kernel_rfl) (by kernel_rfl) (fun _ _ _ h => h) hH ⟨by rfl, fun w hSw => ?_⟩ ?_
              rotate_left
              · obtain ⟨s0, s1, s2, s3⟩ := hSw
                (go_simp; all_goals with_reducible rfl)
              simp only [Act.put, List.setIfInBounds_toArray, List.set_cons_zero, List.set_cons_succ]
              refine held_take (i := 8) (v := ?_) (d := some 114) rfl rfl (by kernel_rfl) (by kernel_rfl) (by kernel_rfl) (fun _ _ _ h => h) hH ⟨by rfl, fun w hSw => ?_⟩ ?_
              rotate_left
              · obtain ⟨s0, s1, s2, s3⟩ := hSw
                (go_simp; all_goals with_reducible rfl)
              simp only [Act.put, List.setIfInBounds_toArray, List.set_cons_zero, List.set_cons_succ]
              refine held_take (i := 10) (v := ?_) (d := some 116) rfl rfl (by kernel_rfl) (by kernel_rfl) (by kernel_rfl) (fun _ _ _ h => h) hH ⟨by rfl, fun w hSw => ?_⟩ ?_
              rotate_left
              · obtain ⟨s0, s1, s2, s3⟩ := hSw
                (go_simp; all_goals with_reducible rfl)
              simp only [Act.put, List.setIfInBounds_toArray, List.set_cons_zero, List.set_cons_succ]
              refine held_take (i := 11) (v := ?_) (d := some 117) rfl rfl (by kernel_rfl) (by kernel_rfl) (by kernel_rfl) (fun _ _ _ h => h) hH ⟨by rfl, fun w hSw => ?_⟩ ?_
              rotate_left
              · obtain ⟨s0, s1, s2, s3⟩ := hSw
                (go_simp; all_goals with_reducible rfl)
              simp only [Act.put, List.setIfInBounds_toArray, List.set_cons_zero, List.set_cons_succ]
              refine held_take (i := 12) (v := ?_) (d := some 118) rfl rfl (by kernel_rfl) (by kernel_rfl) (by kernel_rfl) (fun _ _ _ h => h) hH ⟨by rfl, fun w hSw => ?_⟩ ?_
              rotate_left
              · obtain ⟨s0, s1, s2, s3⟩ := hSw
                (go_simp; all_goals with_reducible rfl)
              simp only [Act.put, List.setIfInBounds_toArray, List.set_cons_zero, List.set_cons_succ]
              refine held_step (i := 9) rfl (by kernel_rfl) (by rfl) (fun K hK => ?_)
              clear hH
              go_simp
              refine (HRE.out _ HX10.out).mono ?_
              rintro e w11 ⟨A3, c3, rfl, hs3, hbs3, hb11⟩
              have HS11 : Hid (Sd2 w _ _ w11) := HS10.out.next hb11 rfl rfl rfl rfl
              have HX11 : Hid (Below w9.heap.size w9 w11) := HX10.out.trans (hb11.mono HX10.out.size)
              have HE11 := Lib.hid (And.intro hs3 hbs3)
              clear hb11 hs3 hbs3
              have hH := four_cells HS11.out.2.1
              refine hK _ _ hH ?_
              clear hK K
              simp only [List.setIfInBounds_toArray, List.set_cons_zero, List.set_cons_succ]
              refine held_step (i := 13) rfl (by kernel_rfl) (by rfl) (fun K hK => ?_)
              clear hH
              go_simp
              refine (HEQ.out _ A3 c3 HX11.out HE11.out.2).mono ?_
              rintro e w12 ⟨rfl, k12, rfl⟩
              have HS12 : Hid (Sd2 w _ _ (w11.drewN k12)) := HS11.out.drawn k12
              have hH := four_cells HS12.out.2.1
              refine hK _ _ hH ?_
              clear hK K
              simp only [List.setIfInBounds_toArray, List.set_cons_zero, List.set_cons_succ]
              refine held_take (i := 14) (v := ?_) (d := some 120) rfl rfl (by kernel_rfl) (by kernel_rfl) (by kernel_rfl) (fun _ _ _ h => h) hH ⟨by rfl, fun w hSw => ?_⟩ ?_
              rotate_left
              · obtain ⟨s0, s1, s2, s3⟩ := hSw
                (go_simp; all_goals with_reducible rfl)
              simp only [Act.put, List.setIfInBounds_toArray, List.set_cons_zero, List.set_cons_succ]
              refine held_take (i := 15) (v := ?_) (d := some 121) rfl rfl (by kernel_rfl) (by kernel_rfl) (by kernel_rfl) (fun _ _ _ h => h) hH ⟨by rfl, fun w hSw => ?_⟩ ?_
              rotate_left
              · obtain ⟨s0, s1, s2, s3⟩ := hSw
                (go_simp; all_goals with_reducible rfl)
              simp only [Act.put, List.setIfInBounds_toArray, List.set_cons_zero, List.set_cons_succ]
              refine wpAnyH_done (by kernel_rfl) ?_ _
              obtain ⟨x0, x1, x2, x3⟩ := four_cells HS12.out.1
              obtain ⟨g0, g1, g2, g3⟩ := four_frozen HS12.out.1
              clear z0 z1 z2 z3
              obtain ⟨z0, z1, z2, z3⟩ := hH
              go_wp2_with fail
              (try simp only [Exit.inBlock, Exit.then])
              refine bodyPost_ret (results_row3 rfl _ _ w.heap.size _ _ (0, 0) _ rfl (stored HS12.out.1) Tryz.underlying55 rfl (by kernel_rfl)) rfl ?_
              have HG := stored_grown (w11.drewN k12) w.heap.size (.int .i64 (b1 : Int)) (.slice A5 b2 c5) (.slice A7 q4 c7) (.int .i64 (q8 : Int))
              have HZ := HX11.out.size
              have hsz := HS12.out.2.2.size
              have K5 := (HB9.out.1.keep fun b _ h => HX11.out.block b h).wider (Nat.le_refl _) HZ
              have K7 := (HB9.out.2.keep fun b _ h => HX11.out.block b h).wider (Nat.le_refl _) HZ
              have M5 := (BsIn.keep (w' := w11.drewN k12) K5 fun b _ _ => rfl)
              have M7 := (BsIn.keep (w' := w11.drewN k12) K7 fun b _ _ => rfl)
              have N5 := (M5.keep fun b h1 h2 => HG.block b h2 (fun e => by injection e with e; omega)).wider (by omega : w.heap.size ≤ w.heap.size + 2) HG.size
              have N7 := (M7.keep fun b h1 h2 => HG.block b h2 (fun e => by injection e with e; omega)).wider (by omega : w.heap.size ≤ w.heap.size + 2) HG.size
              refine .inl ⟨HGG.out, A5, c5, A7, c7, ?_, ?_, ?_, ?_, ?_, HS12.out.2.2.trans (below_of_grown HG (Nat.le_refl _) HS12.out.2.2.size)⟩
              · rw [HRC.out.1, HRC.out.2.1, HRC.out.2.2.1, HRC.out.2.2.2, HNN.out.2]; rfl
              · rw [HRC.out.2.1]; exact HK9.out.1
              · rw [HRC.out.2.2.1]; exact HK9.out.2
              · rw [HRC.out.2.1]; exact N5
              · rw [HRC.out.2.1, HRC.out.2.2.1]; exact N7
            · rw [decide_eq_false henc] at HEQ
              have HNG : Hid (¬ Rc.good 1 seq off l) := fun h => henc (HBD.out h)
              clear HGD HBD henc
              go_upto_region 13 with fail
              refine wp_region_held_drew (S := (fun W => W.cell? ⟨w.heap.size + 1, 0, none⟩ = some (.int .i64 (b1 : Int)) ∧ W.cell? ⟨w.heap.size + 1, 1, none⟩ = some (.slice A5 b2 c5) ∧ W.cell? ⟨w.heap.size + 1, 2, none⟩ = some (.slice A7 q4 c7) ∧ W.cell? ⟨w.heap.size + 1, 3, none⟩ = some (.int .i64 (q8 : Int)))) (by kernel_rfl) (four_cells (HS9.out.drawn 1).2.1) (fun hH => ?_)
              change wpAnyH _ _ _ _ _ 16 #[false, false, false, false, false, false, false, false, false, false, false, false, false, false, false, false] _ _
              refine held_take (i := 0) (v := ?_) (d := some 106) rfl rfl (by kernel_rfl) (by kernel_rfl) (by kernel_rfl) (fun _ _ _ h => h) hH ⟨by rfl, fun w hSw => ?_⟩ ?_
              rotate_left
              · obtain ⟨s0, s1, s2, s3⟩ := hSw
                (go_simp; all_goals with_reducible rfl)
              simp only [Act.put, List.setIfInBounds_toArray, List.set_cons_zero, List.set_cons_succ]
              refine held_take (i := 1) (v := ?_) (d := some 107) rfl rfl (by kernel_rfl) (by kernel_rfl) (by kernel_rfl) (fun _ _ _ h => h) hH ⟨by rfl, fun w hSw => ?_⟩ ?_
              rotate_left
              · obtain ⟨s0, s1, s2, s3⟩ := hSw
                (go_simp; all_goals with_reducible rfl)
              simp only [Act.put, List.setIfInBounds_toArray, List.set_cons_zero, List.set_cons_succ]
              refine held_step (i := 2) rfl (by kernel_rfl) (by rfl) (fun K hK => ?_)
              clear hH
              go_simp
              refine (HCK.out _).mono ?_
              rintro e w10 ⟨rfl, hb10⟩
              have HS10 : Hid (Sd2 w _ _ w10) := HS9.out.next hb10 rfl rfl rfl rfl
              have HX10 : Hid (Below w9.heap.size w9 w10) := below_drop hb10
              clear hb10
              have hH := four_cells HS10.out.2.1
              refine hK _ _ hH ?_
              clear hK K
              simp only [List.setIfInBounds_toArray, List.set_cons_zero, List.set_cons_succ]
              refine held_take (i := 3) (v := ?_) (d := some 109) rfl rfl (by kernel_rfl) (by kernel_rfl) (by kernel_rfl) (fun _ _ _ h => h) hH ⟨by rfl, fun w hSw => ?_⟩ ?_
              rotate_left
              · obtain ⟨s0, s1, s2, s3⟩ := hSw
                (go_simp; all_goals with_reducible rfl)
              simp only [Act.put, List.setIfInBounds_toArray, List.set_cons_zero, List.set_cons_succ]
              refine held_take (i := 4) (v := ?_) (d := some 110) rfl rfl (by kernel_rfl) (by kernel_rfl) (by kernel_rfl) (fun _ _ _ h => h) hH ⟨by rfl, fun w hSw => ?_⟩ ?_
              rotate_left
              · obtain ⟨s0, s1, s2, s3⟩ := hSw
                (go_simp; all_goals with_reducible rfl)
              simp only [Act.put, List.setIfInBounds_toArray, List.set_cons_zero, List.set_cons_succ]
              refine held_take (i := 5) (v := ?_) (d := some 111) rfl rfl (by kernel_rfl) (by kernel_rfl) (by kernel_rfl) (fun _ _ _ h => h) hH ⟨by rfl, fun w hSw => ?_⟩ ?_
              rotate_left
              · obtain ⟨s0, s1, s2, s3⟩ := hSw
                (go_simp; all_goals with_reducible rfl)
              simp only [Act.put, List.setIfInBounds_toArray, List.set_cons_zero, List.set_cons_succ]
              refine held_take (i := 6) (v := ?_) (d := some 112) rfl rfl (by kernel_rfl) (by kernel_rfl) (by kernel_rfl) (fun _ _ _ h => h) hH ⟨by rfl, fun w hSw => ?_⟩ ?_
              rotate_left
              · obtain ⟨s0, s1, s2, s3⟩ := hSw
                (go_simp; all_goals with_reducible rfl)
              simp only [Act.put, List.setIfInBounds_toArray, List.set_cons_zero, List.set_cons_succ]
              refine held_take (i := 7) (v := ?_) (d := some 113) rfl rfl (by kernel_rfl) (by kernel_rfl) (by kernel_rfl) (fun _ _ _ h => h) hH ⟨by rfl, fun w hSw => ?_⟩ ?_
              rotate_left
              · obtain ⟨s0, s1, s2, s3⟩ := hSw
                (go_simp; all_goals with_reducible rfl)
              simp only [Act.put, List.setIfInBounds_toArray, List.set_cons_zero, List.set_cons_succ]
              refine held_take (i := 8) (v := ?_) (d := some 114) rfl rfl (by kernel_rfl) (by kernel_rfl) (by kernel_rfl) (fun _ _ _ h => h) hH ⟨by rfl, fun w hSw => ?_⟩ ?_
              rotate_left
              · obtain ⟨s0, s1, s2, s3⟩ := hSw
                (go_simp; all_goals with_reducible rfl)
              simp only [Act.put, List.setIfInBounds_toArray, List.set_cons_zero, List.set_cons_succ]
              refine held_take (i := 10) (v := ?_) (d := some 116) rfl rfl (by kernel_rfl) (by kernel_rfl) (by kernel_rfl) (fun _ _ _ h => h) hH ⟨by rfl, fun w hSw => ?_⟩ ?_
              rotate_left
              · obtain ⟨s0, s1, s2, s3⟩ := hSw
                (go_simp; all_goals with_reducible rfl)
              simp only [Act.put, List.setIfInBounds_toArray, List.set_cons_zero, List.set_cons_succ]
              refine held_take (i := 11) (v := ?_) (d := some 117) rfl rfl (by kernel_rfl) (by kernel_rfl) (by kernel_rfl) (fun _ _ _ h => h) hH ⟨by rfl, fun w hSw => ?_⟩ ?_
              rotate_left
              · obtain ⟨s0, s1, s2, s3⟩ := hSw
                (go_simp; all_goals with_reducible rfl)
              simp only [Act.put, List.setIfInBounds_toArray, List.set_cons_zero, List.set_cons_succ]
              refine held_take (i := 12) (v := ?_) (d := some 118) rfl rfl (by kernel_rfl) (by kernel_rfl) (by kernel_rfl) (fun _ _ _ h => h) hH ⟨by rfl, fun w hSw => ?_⟩ ?_
              rotate_left
              · obtain ⟨s0, s1, s2, s3⟩ := hSw
                (go_simp; all_goals with_reducible rfl)
              simp only [Act.put, List.setIfInBounds_toArray, List.set_cons_zero, List.set_cons_succ]
              refine held_step (i := 9) rfl (by kernel_rfl) (by rfl) (fun K hK => ?_)
              clear hH
              go_simp
              refine (HRE.out _ HX10.out).mono ?_
              rintro e w11 ⟨A3, c3, rfl, hs3, hbs3, hb11⟩
              have HS11 : Hid (Sd2 w _ _ w11) := HS10.out.next hb11 rfl rfl rfl rfl
              have HX11 : Hid (Below w9.heap.size w9 w11) := HX10.out.trans (hb11.mono HX10.out.size)
              have HE11 := Lib.hid (And.intro hs3 hbs3)
              clear hb11 hs3 hbs3
              have hH := four_cells HS11.out.2.1
              refine hK _ _ hH ?_
              clear hK K
              simp only [List.setIfInBounds_toArray, List.set_cons_zero, List.set_cons_succ]
              refine held_step (i := 13) rfl (by kernel_rfl) (by rfl) (fun K hK => ?_)
              clear hH
              go_simp
              refine (HEQ.out _ A3 c3 HX11.out HE11.out.2).mono ?_
              rintro e w12 ⟨rfl, k12, rfl⟩
              have HS12 : Hid (Sd2 w _ _ (w11.drewN k12)) := HS11.out.drawn k12
              have hH := four_cells HS12.out.2.1
              refine hK _ _ hH ?_
              clear hK K
              simp only [List.setIfInBounds_toArray, List.set_cons_zero, List.set_cons_succ]
              refine held_take (i := 14) (v := ?_) (d := some 120) rfl rfl (by kernel_rfl) (by kernel_rfl) (by kernel_rfl) (fun _ _ _ h => h) hH ⟨by rfl, fun w hSw => ?_⟩ ?_
              rotate_left
              · obtain ⟨s0, s1, s2, s3⟩ := hSw
                (go_simp; all_goals with_reducible rfl)
              simp only [Act.put, List.setIfInBounds_toArray, List.set_cons_zero, List.set_cons_succ]
              refine held_take (i := 15) (v := ?_) (d := some 121) rfl rfl (by kernel_rfl) (by kernel_rfl) (by kernel_rfl) (fun _ _ _ h => h) hH ⟨by rfl, fun w hSw => ?_⟩ ?_
              rotate_left
              · obtain ⟨s0, s1, s2, s3⟩ := hSw
                (go_simp; all_goals with_reducible rfl)
              simp only [Act.put, List.setIfInBounds_toArray, List.set_cons_zero, List.set_cons_succ]
              refine wpAnyH_done (by kernel_rfl) ?_ _
              obtain ⟨x0, x1, x2, x3⟩ := four_cells HS12.out.1
              obtain ⟨g0, g1, g2, g3⟩ := four_frozen HS12.out.1
              clear hH
              go_wp2_with fail
              (try simp only [Exit.inBlock, Exit.then])
              refine bodyPost_ret (results_row3 rfl _ _ w.heap.size _ _ (0, 0) _ rfl (stored HS12.out.1) Tryz.underlying55 rfl (by kernel_rfl)) rfl ?_
              exact .inr ⟨HNG.out, rfl, HS12.out.2.2.trans (below_of_grown (stored_grown _ _ _ _ _ _) (Nat.le_refl _) HS12.out.2.2.size)⟩
          · have HNG : Hid (¬ Rc.good 1 seq off l) := fun hg => hck (HCQ.out.symm.trans hg.2.2.1)
            obtain ⟨q, hq⟩ : ∃ q, Rc.chk 1 (b1 : Int) b2 q4 (q8 : Int) = q := ⟨_, rfl⟩
            rw [hq] at HCK hck
            have f9 : (q != 0) = true := by rw [bne_iff_ne]; exact hck
            clear HCQ hq hck
            go_upto_region 13 with fail
            refine wp_region_held_drew (S := (fun W => W.cell? ⟨w.heap.size + 1, 0, none⟩ = some (.int .i64 (b1 : Int)) ∧ W.cell? ⟨w.heap.size + 1, 1, none⟩ = some (.slice A5 b2 c5) ∧ W.cell? ⟨w.heap.size + 1, 2, none⟩ = some (.slice A7 q4 c7) ∧ W.cell? ⟨w.heap.size + 1, 3, none⟩ = some (.int .i64 (q8 : Int)))) (by kernel_rfl) (four_cells (HS9.out.drawn 1).2.1) (fun hH => ?_)
            change wpAnyH _ _ _ _ _ 16 #[false, false, false, false, false, false, false, false, false, false, false, false, false, false, false, false] _ _
            refine held_take (i := 0) (v := ?_) (d := some 106) rfl rfl (by kernel_rfl) (by kernel_rfl) (by kernel_rfl) (fun _ _ _ h => h) hH ⟨by rfl, fun w hSw => ?_⟩ ?_
            rotate_left
            · obtain ⟨s0, s1, s2, s3⟩ := hSw
              (go_simp; all_goals with_reducible rfl)
            simp only [Act.put, List.setIfInBounds_toArray, List.set_cons_zero, List.set_cons_succ]
            refine held_take (i := 1) (v := ?_) (d := some 107) rfl rfl (by kernel_rfl) (by kernel_rfl) (by kernel_rfl) (fun _ _ _ h => h) hH ⟨by rfl, fun w hSw => ?_⟩ ?_
            rotate_left
            · obtain ⟨s0, s1, s2, s3⟩ := hSw
              (go_simp; all_goals with_reducible rfl)
            simp only [Act.put, List.setIfInBounds_toArray, List.set_cons_zero, List.set_cons_succ]
            refine held_step (i := 2) rfl (by kernel_rfl) (by rfl) (fun K hK => ?_)
            clear hH
            go_simp
            refine (HCK.out _).mono ?_
            rintro e w10 ⟨rfl, hb10⟩
            have HS10 : Hid (Sd2 w _ _ w10) := HS9.out.next hb10 rfl rfl rfl rfl
            clear hb10
            have hH := four_cells HS10.out.2.1
            refine hK _ _ hH ?_
            clear hK K
            simp only [List.setIfInBounds_toArray, List.set_cons_zero, List.set_cons_succ]
            refine held_take (i := 3) (v := ?_) (d := some 109) rfl rfl (by kernel_rfl) (by kernel_rfl) (by kernel_rfl) (fun _ _ _ h => h) hH ⟨by rfl, fun w hSw => ?_⟩ ?_
            rotate_left
            · obtain ⟨s0, s1, s2, s3⟩ := hSw
              (go_simp; all_goals with_reducible rfl)
            simp only [Act.put, List.setIfInBounds_toArray, List.set_cons_zero, List.set_cons_succ]
            refine held_take (i := 4) (v := ?_) (d := some 110) rfl rfl (by kernel_rfl) (by kernel_rfl) (by kernel_rfl) (fun _ _ _ h => h) hH ⟨by rfl, fun w hSw => ?_⟩ ?_
            rotate_left
            · obtain ⟨s0, s1, s2, s3⟩ := hSw
              (go_simp; all_goals with_reducible rfl)
            simp only [Act.put, List.setIfInBounds_toArray, List.set_cons_zero, List.set_cons_succ]
            refine held_skip (i := 5) (d := some 111) rfl rfl (by kernel_rfl) (by kernel_rfl) (by kernel_rfl) (fun _ _ _ h => h) hH (by rfl) ?_
            simp only [Act.put, List.setIfInBounds_toArray, List.set_cons_zero, List.set_cons_succ]
            refine held_skip (i := 6) (d := some 112) rfl rfl (by kernel_rfl) (by kernel_rfl) (by kernel_rfl) (fun _ _ _ h => h) hH (by rfl) ?_
            simp only [Act.put, List.setIfInBounds_toArray, List.set_cons_zero, List.set_cons_succ]
            refine held_skip (i := 7) (d := some 113) rfl rfl (by kernel_rfl) (by kernel_rfl) (by kernel_rfl) (fun _ _ _ h => h) hH (by rfl) ?_
            simp only [Act.put, List.setIfInBounds_toArray, List.set_cons_zero, List.set_cons_succ]
            refine held_skip (i := 8) (d := some 114) rfl rfl (by kernel_rfl) (by kernel_rfl) (by kernel_rfl) (fun _ _ _ h => h) hH (by rfl) ?_
            simp only [Act.put, List.setIfInBounds_toArray, List.set_cons_zero, List.set_cons_succ]
            refine held_skip (i := 10) (d := some 116) rfl rfl (by kernel_rfl) (by kernel_rfl) (by kernel_rfl) (fun _ _ _ h => h) hH (by rfl) ?_
            simp only [Act.put, List.setIfInBounds_toArray, List.set_cons_zero, List.set_cons_succ]
            refine held_skip (i := 11) (d := some 117) rfl rfl (by kernel_rfl) (by kernel_rfl) (by kernel_rfl) (fun _ _ _ h => h) hH (by rfl) ?_
            simp only [Act.put, List.setIfInBounds_toArray, List.set_cons_zero, List.set_cons_succ]
            refine held_skip (i := 12) (d := some 118) rfl rfl (by kernel_rfl) (by kernel_rfl) (by kernel_rfl) (fun _ _ _ h => h) hH (by rfl) ?_
            simp only [Act.put, List.setIfInBounds_toArray, List.set_cons_zero, List.set_cons_succ]
            refine held_skip (i := 9) (d := some 115) rfl rfl (by kernel_rfl) (by kernel_rfl) (by kernel_rfl) (fun _ _ _ h => h) hH (by rfl) ?_
            simp only [Act.put, List.setIfInBounds_toArray, List.set_cons_zero, List.set_cons_succ]
            refine held_skip (i := 13) (d := some 119) rfl rfl (by kernel_rfl) (by kernel_rfl) (by kernel_rfl) (fun _ _ _ h => h) hH (by rfl) ?_
            simp only [Act.put, List.setIfInBounds_toArray, List.set_cons_zero, List.set_cons_succ]
            refine held_skip (i := 14) (d := some 120) rfl rfl (by kernel_rfl) (by kernel_rfl) (by kernel_rfl) (fun _ _ _ h => h) hH (by rfl) ?_
            simp only [Act.put, List.setIfInBounds_toArray, List.set_cons_zero, List.set_cons_succ]
            refine held_take (i := 15) (v := ?_) (d := some 121) rfl rfl (by kernel_rfl) (by kernel_rfl) (by kernel_rfl) (fun _ _ _ h => h) hH ⟨by rfl, fun w hSw => ?_⟩ ?_
            rotate_left
            · obtain ⟨s0, s1, s2, s3⟩ := hSw
              (go_simp; all_goals with_reducible rfl)
            simp only [Act.put, List.setIfInBounds_toArray, List.set_cons_zero, List.set_cons_succ]
            refine wpAnyH_done (by kernel_rfl) ?_ _
            obtain ⟨x0, x1, x2, x3⟩ := four_cells HS10.out.1
            obtain ⟨g0, g1, g2, g3⟩ := four_frozen HS10.out.1
            clear hH
            go_wp2_with fail
            (try simp only [Exit.inBlock, Exit.then])
            refine bodyPost_ret (results_row3 rfl _ _ w.heap.size _ _ (0, 0) _ rfl (stored HS10.out.1) Tryz.underlying55 rfl (by kernel_rfl)) rfl ?_
            exact .inr ⟨HNG.out, rfl, HS10.out.2.2.trans (below_of_grown (stored_grown _ _ _ _ _ _) (Nat.le_refl _) HS10.out.2.2.size)⟩
end Go.Proofs.YtgnbmmceffolmaaGreatDoor
end
section
set_option maxRecDepth 100000
namespace Go.Proofs.YtgnbmmceffolmaaGreatDoor
open Go.RowKit
set_option maxHeartbeats 2000000 in
set_option maxRecDepth 100000 in
theorem refdecode2 (seq off : Int) (ad : Addr) (B n c : Nat) (l : List Nat) (w : World) (hB : B ≤ w.heap.size) (hsq : seq ≤ 9223372036854775807) (hnc : n ≤ c) (hc : c ≤ 9223372036854775807) (hl : Hid (l.length = n)) (hb : Hid (Bs w B (some ad) l)) (hpl : Rc.place seq off) (h16 : 16 ≤ n) (hn : n ≤ 140737488355328) :
    Calls Tryz.prog 70 #[.int .i64 2, .int .i64 seq, .int .i64 off, .slice (some ad) n c] w fun e w' => (Rc.good 2 seq off l ∧ GotRec w 2 l e w') ∨ (¬ Rc.good 2 seq off l ∧ NoRec w e w') := by
  have HPL := Lib.hid hpl
  obtain ⟨p1, p2, p3⟩ := hpl
  have f1 : decide (seq < 0) = false := by simp; omega
  have f2 : decide (off < 0) = false := by simp; omega
  have f3 : decide (2147483647 < off) = false := by simp; omega
  have f4 : decide ((n : Int) < 16) = false := by simp; omega
  have hlt := hb.out.lt
  obtain ⟨b1, hb1⟩ : ∃ x, l.getD 1 0 = x := ⟨_, rfl⟩
  obtain ⟨b2, hb2⟩ : ∃ x, l.getD 2 0 = x := ⟨_, rfl⟩
  obtain ⟨q8, hq8⟩ : ∃ x, Wire.num (Rc.sub l 8 4) = x := ⟨_, rfl⟩
  obtain ⟨q4, hq4⟩ : ∃ x, Wire.num (Rc.sub l 4 4) = x := ⟨_, rfl⟩
  obtain ⟨q7, hq7⟩ : ∃ x, Wire.num (Rc.sub l 7 5) = x := ⟨_, rfl⟩
  obtain ⟨q3, hq3⟩ : ∃ x, Wire.num (Rc.sub l 3 3) = x := ⟨_, rfl⟩
  obtain ⟨bd, hbd⟩ : ∃ x, b2 / 16 = x := ⟨_, rfl⟩
  have hb1' : b1 < 256 := by rw [← hb1]; exact getD_lt hlt _
  have hb2' : b2 < 256 := by rw [← hb2]; exact getD_lt hlt _
  have hq8' : q8 < 72057594037927936 := by rw [← hq8]; exact num_small _ (sub_lt hlt _ _) (Nat.le_trans (sub_le _ _ _) (by omega))
  have hq4' : q4 < 72057594037927936 := by rw [← hq4]; exact num_small _ (sub_lt hlt _ _) (Nat.le_trans (sub_le _ _ _) (by omega))
  have hq7' : q7 < 72057594037927936 := by rw [← hq7]; exact num_small _ (sub_lt hlt _ _) (Nat.le_trans (sub_le _ _ _) (by omega))
  have hq3' : q3 < 72057594037927936 := by rw [← hq3]; exact num_small _ (sub_lt hlt _ _) (Nat.le_trans (sub_le _ _ _) (by omega))
  have HQ7 : Hid (∀ (c : Nat) (W : World), Below w.heap.size w W → Calls Tryz.prog 56 #[.slice (some ⟨ad.block, ad.off + 7, none⟩) 5 c] W fun e w' => e = .returned (.int .u64 (q7 : Int)) ∧ w' = W) := fun c W hW => by
    have h := num_part ad B 7 5 c l W (hb.out.below hW hB) (by omega) (by omega) (by rw [hl.out]; omega)
    rwa [hq7] at h
  have HQ3 : Hid (∀ (c : Nat) (W : World), Below w.heap.size w W → Calls Tryz.prog 56 #[.slice (some ⟨ad.block, ad.off + 3, none⟩) 3 c] W fun e w' => e = .returned (.int .u64 (q3 : Int)) ∧ w' = W) := fun c W hW => by
    have h := num_part ad B 3 3 c l W (hb.out.below hW hB) (by omega) (by omega) (by rw [hl.out]; omega)
    rwa [hq3] at h
  have HQ8 : Hid (∀ (c : Nat) (W : World), Below w.heap.size w W → Calls Tryz.prog 56 #[.slice (some ⟨ad.block, ad.off + 8, none⟩) 4 c] W fun e w' => e = .returned (.int .u64 (q8 : Int)) ∧ w' = W) := fun c W hW => by
    have h := num_part ad B 8 4 c l W (hb.out.below hW hB) (by omega) (by omega) (by rw [hl.out]; omega)
    rwa [hq8] at h
  have HQ4 : Hid (∀ (c : Nat) (W : World), Below w.heap.size w W → Calls Tryz.prog 56 #[.slice (some ⟨ad.block, ad.off + 4, none⟩) 4 c] W fun e w' => e = .returned (.int .u64 (q4 : Int)) ∧ w' = W) := fun c W hW => by
    have h := num_part ad B 4 4 c l W (hb.out.below hW hB) (by omega) (by omega) (by rw [hl.out]; omega)
    rwa [hq4] at h
  have HB1 : Hid (∀ (W : World), Below w.heap.size w W → W.cell? ⟨ad.block, ad.off + 1, none⟩ = some (.int .u8 (b1 : Int))) := fun W hW => by
    have h := byte_at ad B 1 l W (hb.out.below hW hB) (by omega) (by rw [hl.out]; omega)
    rwa [hb1] at h
  have HB2 : Hid (∀ (W : World), Below w.heap.size w W → W.cell? ⟨ad.block, ad.off + 2, none⟩ = some (.int .u8 (b2 : Int))) := fun W hW => by
    have h := byte_at ad B 2 l W (hb.out.below hW hB) (by omega) (by rw [hl.out]; omega)
    rwa [hb2] at h
  have HE := Lib.hid (And.intro hb1 (And.intro hb2 (And.intro hbd (And.intro hq7 hq3))))
  have HWR : Hid (IntKind.i64.wrap (b1 : Int) = (b1 : Int) ∧ IntKind.i64.wrap (b2 : Int) = (b2 : Int) ∧ IntKind.i64.wrap (q8 : Int) = (q8 : Int) ∧ IntKind.i64.wrap (q4 : Int) = (q4 : Int)) := ⟨wrap_small _ (by omega), wrap_small _ (by omega), wrap_small _ (by omega), wrap_small _ (by omega)⟩
  have HWS : Hid (IntKind.i64.wrap (q7 : Int) = (q7 : Int) ∧ IntKind.i64.wrap (q3 : Int) = (q3 : Int) ∧ (b2 : Int).tdiv 16 = (bd : Int)) := ⟨wrap_small _ (by omega), wrap_small _ (by omega), by rw [← hbd]; rfl⟩
  have HWT : Hid (IntKind.i64.wrap ((IntKind.i64.wrap (b2 : Int)).tdiv 16) = (bd : Int)) := by
    show _ = _
    rw [HWR.out.2.1, HWS.out.2.2, wrap_small bd (by omega)]
  have hnb : w.heap.size + 1 ≠ ad.block := by
    obtain ⟨_, ad', e, h2, _⟩ := hb.out 0 (by rw [hl.out]; omega)
    injection e with e
    subst e
    omega
  clear hb1 hb2 hq8 hq4 hq7 hq3 hbd hlt
  have i1 : (1 : Int) < (n : Int) := by omega
  have i2 : (2 : Int) < (n : Int) := by omega
  have i8 : (8 : Int) ≤ (c : Int) := by omega
  have i12 : (12 : Int) ≤ (c : Int) := by omega
  have i3 : (3 : Int) ≤ (c : Int) := by omega
  have i6 : (6 : Int) ≤ (c : Int) := by omega
  have i7 : (7 : Int) ≤ (c : Int) := by omega
  have hc7 : c ≠ 7 := by omega
  have hc3 : c ≠ 3 := by omega
  have hc4 : c ≠ 4 := by omega
  have hc8 : c ≠ 8 := by omega
  have HA : Hid (∀ o, Below w.heap.size w (w.alloc o)) := fun o => (Below.refl _ _).alloc (Nat.le_refl _) o
  have HAA : Hid (∀ o o', Below w.heap.size w ((w.alloc o).alloc o')) := fun o o' => (HA.out o).alloc (HA.out o).size o'
  go_enter Tryz.func70, Tryz.ntmps70
  go_upto_region 3 with fail
  go_cut [11] (fun s wx => s = .pointer (some ⟨w.heap.size + 1, 0, none⟩) ∧ Hid (Sd2 w (.cells #[.int .i64 0, .slice none 0 0, .slice none 0 0, .int .i64 0] 55 (0, 0)) (.cells #[.int .i64 (b1 : Int), .slice none 0 0, .slice none 0 0, .int .i64 (q8 : Int)] 55 (0, 0)) wx))
  case first =>
    have y1 := HB1.out (w.alloc (.cells #[.int .i64 0, .slice none 0 0, .slice none 0 0, .int .i64 0] 55)) (HA.out _)
    go_region_held3 (fun W => W.cell? ⟨ad.block, ad.off + 1, none⟩ = some (.int .u8 (b1 : Int)))
      (first
        | go_keep)
      (first
        | (go_at_call 56; refine (HQ8.out _ _ (by first | exact below_drawn (HA.out _) 1 | exact below_drawn (HAA.out _ _) 1)).mono ?_; rintro e w' ⟨rfl, rfl⟩))
    all_goals
      rw [HWR.out.1, HWR.out.2.2.1]
      go_wp2_with fail
      go_meet
      exact ⟨rfl, (heap_alloc_old _ _ (by simp)).trans (heap_alloc_new w _), alloc_at (w := w.alloc _) (by simp), below_drawn (HAA.out _ _) 1⟩
  case rest =>
    obtain ⟨rfl, HS3⟩ := hcut
    have y2 := HB2.out wc HS3.out.2.2
    go_wp2_with fail
    go_quiet (first | (go_at_call 56; refine Calls.quiet_of_same (HQ4.out _ _ (below_drawn HS3.out.2.2 _))))
    have HS4 : Hid (Sd2 w (.cells #[.int .i64 0, .slice none 0 0, .slice none 0 0, .int .i64 0] 55 (0, 0)) (.cells #[.int .i64 (b1 : Int), .slice none 0 0, .slice none 0 0, .int .i64 (q8 : Int)] 55 (0, 0)) (wc.drewN nq)) := HS3.out.drawn nq
    clear y2 HS3
    generalize wc.drewN nq = w3 at *
    go_upto_region 6 with fail
    go_cut [11] (fun s wx => s = .pointer (some ⟨w.heap.size + 1, 0, none⟩) ∧ Hid (Sd2 w (.cells #[.int .i64 0, .slice none 0 0, .slice none 0 0, .int .i64 0] 55 (0, 0)) (.cells #[.int .i64 (bd : Int), .slice none 0 0, .slice none 0 0, .int .i64 (q7 : Int)] 55 (0, 0)) wx))
    case first =>
      obtain ⟨z0, z1, z2, z3⟩ := four_cells HS4.out.2.1
      obtain ⟨g0, g1, g2, g3⟩ := four_frozen HS4.out.2.1
      have y2 := HB2.out w3 HS4.out.2.2
      have hne : w.heap.size + 1 ≠ ad.block := hnb
      go_region_held3 (fun W => W.cell? ⟨ad.block, ad.off + 2, none⟩ = some (.int .u8 (b2 : Int)))
        (first
          | go_keep)
        (first
          | (go_at_call 56; refine (HQ7.out _ _ (below_drawn HS4.out.2.2 1)).mono ?_; rintro e w' ⟨rfl, rfl⟩))
      all_goals
        rw [HWT.out, HWS.out.1]
        go_wp2_with fail
        go_meet
        exact ⟨rfl, (sd2_stored (HS4.out.drawn 1))⟩
    case rest =>
    obtain ⟨rfl, HS5⟩ := hcut
    clear HS4
    generalize wc = w5 at *
    go_upto_region 7 with fail
    have y1 := HB1.out w5 HS5.out.2.2
    go_quiet (first | (go_at_call 56; refine Calls.quiet_of_same (HQ3.out _ _ (below_drawn HS5.out.2.2 _))))
    have HS4 : Hid (Sd2 w (.cells #[.int .i64 0, .slice none 0 0, .slice none 0 0, .int .i64 0] 55 (0, 0)) (.cells #[.int .i64 (bd : Int), .slice none 0 0, .slice none 0 0, .int .i64 (q7 : Int)] 55 (0, 0)) (w5.drewN nq)) := HS5.out.drawn nq
    clear y1 HS5
    generalize w5.drewN nq = w4 at *
    have HRC : Hid ((Rc.kd 2 l : Int) = (bd : Int) ∧ Rc.kl 2 l = b1 ∧ Rc.vl 2 l = q3 ∧ Rc.xp 2 l = q7) := by
      obtain ⟨h1, h2, h5, h3, h4⟩ := HE.out
      refine ⟨?_, ?_, ?_, ?_⟩
      · show ((l.getD 2 0 / 16 : Nat) : Int) = _
        rw [h2, h5]
      · show l.getD 1 0 = _
        exact h1
      · show Wire.num (Rc.sub l 3 3) = _
        exact h4
      · show Wire.num (Rc.sub l 7 5) = _
        exact h3
    by_cases hU : 65536 < q3 ∨ n < 16 + b1 + q3
    · have hng : ¬ Rc.good 2 seq off l := fun hg => by
        obtain ⟨h1, h2, h3, -, -⟩ := hg
        have h4 := (Rc.chk_ok h3).2.2.2.1
        unfold Rc.rec at h4
        simp only at h4
        rw [Rc.sub_length _ _ _ (by omega), HRC.out.2.2.1] at h4
        rw [hl.out, HRC.out.2.1, HRC.out.2.2.1] at h2
        omega
      have HNG := Lib.hid hng
      have hu : decide ((65536 : Int) < (q3 : Int)) = true ∨ (decide ((65536 : Int) < (q3 : Int)) = false ∧ decide ((n : Int) < 16 + (b1 : Int) + (q3 : Int)) = true) := by
        simp; omega
      clear hng hU
      obtain ⟨z0, z1, z2, z3⟩ := four_cells HS4.out.1
      obtain ⟨g0, g1, g2, g3⟩ := four_frozen HS4.out.1
      rcases hu with u1 | ⟨u1, u2⟩
      all_goals
        go_wp2_with fail
        (try simp only [Exit.inBlock, Exit.then])
        refine bodyPost_ret (results_row3 rfl _ _ w.heap.size _ _ (0, 0) _ rfl (stored HS4.out.1) Tryz.underlying55 rfl (by kernel_rfl)) rfl ?_
        exact .inr ⟨HNG.out, rfl, HS4.out.2.2.trans (below_of_grown (stored_grown _ _ _ _ _ _) (Nat.le_refl _) HS4.out.2.2.size)⟩
    · have u1 : decide ((65536 : Int) < (q3 : Int)) = false := by simp; omega
      have u2 : decide ((n : Int) < 16 + (b1 : Int) + (q3 : Int)) = false := by simp; omega
      have HFIT : Hid (b1 + q3 + 16 ≤ n ∧ q3 ≤ 65536) := ⟨by omega, by omega⟩
      have j1 : (16 : Int) ≤ 16 + (b1 : Int) := by omega
      have j2 : (16 : Int) + (b1 : Int) ≤ (c : Int) := by omega
      have j3 : (16 : Int) + (b1 : Int) ≤ 16 + (b1 : Int) + (q3 : Int) := by omega
      have j4 : (16 : Int) + (b1 : Int) + (q3 : Int) ≤ (c : Int) := by omega
      clear hU
      have HC1 : Hid (Bs w4 B (if c = 16 then some ad else some ⟨ad.block, ad.off + 16, none⟩) (Rc.sub l 16 b1) ∧ (Rc.sub l 16 b1).length = b1) := by
        refine ⟨?_, Rc.sub_length _ _ _ (by rw [hl.out]; have := HFIT.out; omega)⟩
        have h := ((hb.out.bsIn.drop' 16 c (by rw [hl.out]; omega)).bs.take b1).below HS4.out.2.2 hB
        rw [Option.map_some, add_pos ad 16 (by omega)] at h
        exact h
      have HL1 : Hid (b1 ≤ 140737488355328 ∧ q3 ≤ 140737488355328) := ⟨by have := HFIT.out; omega, by have := HFIT.out; omega⟩
      have HC2 : Hid (∀ W, Below w.heap.size w W → Bs W B (if c = 16 + b1 then some ad else some (ad.add (16 + b1))) (Rc.sub l (16 + b1) q3)) := fun W hW => by
        have h := ((hb.out.bsIn.drop' (16 + b1) c (by rw [hl.out]; omega)).bs.take q3).below hW hB
        rw [Option.map_some] at h
        exact h
      have HL2 : Hid ((Rc.sub l (16 + b1) q3).length = q3) := Rc.sub_length _ _ _ (by rw [hl.out]; have := HFIT.out; omega)
      have HREC : Hid (Rc.rec 2 l = ⟨(bd : Int), Rc.sub l 16 b1, Rc.sub l (16 + b1) q3, (q7 : Int)⟩) := by
        show _ = _
        unfold Rc.rec
        rw [HRC.out.1, HRC.out.2.1, HRC.out.2.2.1, HRC.out.2.2.2]
      have HC1L := Lib.hid HC1.out.2
      have HSZ4 : Hid (w.heap.size + 1 < w4.heap.size) := (Array.getElem?_eq_some_iff.1 HS4.out.2.1).1
      go_upto_region 10 with fail
      go_cut [11, 12] (fun s s12 wx => s = .pointer (some ⟨w.heap.size + 1, 0, none⟩) ∧ s12 = .int .i64 (b1 : Int) ∧ ∃ A5 c5, Hid (SlIs A5 b1 c5 ∧ BsIn wx (w.heap.size + 2) wx.heap.size A5 (Rc.sub l 16 b1)) ∧ Hid (Sd2 w (.cells #[.int .i64 0, .slice none 0 0, .slice none 0 0, .int .i64 0] 55 (0, 0)) (.cells #[.int .i64 (bd : Int), .slice A5 b1 c5, .slice none 0 0, .int .i64 (q7 : Int)] 55 (0, 0)) wx))
      case first =>
        obtain ⟨z0, z1, z2, z3⟩ := four_cells HS4.out.2.1
        obtain ⟨g0, g1, g2, g3⟩ := four_frozen HS4.out.2.1
        by_cases hc16 : c = 16
        · have hk0 : (b1 : Int) = 0 := by omega
          have HKV : Hid (b1 = 0) := by show _ = _; omega
          subst hc16
          go_wp2_with (at_builtin; fail)
          all_goals
            go_meet
            refine ⟨rfl, by (rw [HKV.out]; try rfl), none, 0, ⟨⟨fun _ => ⟨rfl, HKV.out⟩, by have := HKV.out; omega, by decide⟩, fun k hk => absurd hk (by rw [HC1.out.2, HKV.out]; omega)⟩, ?_⟩
            rw [HKV.out]
            exact sd2_set1 HS4.out
        · go_wp2_with (at_builtin; first
            | (refine append_bytes rfl (.tmp 91) rfl B (if c = 16 then some ad else some ⟨ad.block, ad.off + 16, none⟩) b1 (c - 16) (Rc.sub l 16 b1) (by simp [Act.eval, hc16]) (fun e => by split at e <;> cases e) HC1.out.2 HC1.out.1 HL1.out.1 ?_; rintro A5 c5 w5 hs5 hb5 hB5; have HS5 : Hid (Sd2 w _ _ w5) := HS4.out.next hB5 rfl rfl rfl rfl; have HK5 := Lib.hid (And.intro hs5 hb5); have HG5 := Lib.hid hB5.size; clear z0 z1 z2 z3 g0 g1 g2 g3; obtain ⟨z0, z1, z2, z3⟩ := four_cells HS5.out.2.1; obtain ⟨g0, g1, g2, g3⟩ := four_frozen HS5.out.2.1; clear hs5 hb5 hB5))
          all_goals
            go_meet
            refine ⟨rfl, rfl, A5, c5, ⟨HK5.out.1, ?_⟩, sd2_set1 HS5.out⟩
            exact (HK5.out.2.keep fun b h1 h2 => (grown_set w5 (w.heap.size + 1) 1 (.slice A5 b1 c5)).block b h2 (fun e => by injection e with e; have := HSZ4.out; omega)).wider (by have := HSZ4.out; omega : w.heap.size + 2 ≤ _) (grown_set w5 (w.heap.size + 1) 1 (.slice A5 b1 c5)).size
      case rest =>
        obtain ⟨rfl, rfl, A5, c5, HK5, HS5⟩ := hcut
        go_upto_region 11 with fail
        clear HS4 HC1
        have HSZ5 : Hid (w.heap.size + 1 < wc.heap.size) := (Array.getElem?_eq_some_iff.1 HS5.out.2.1).1
        generalize wc = w5 at *
        go_cut [11, 13] (fun s s13 wx => s = .pointer (some ⟨w.heap.size + 1, 0, none⟩) ∧ s13 = .int .i64 (q3 : Int) ∧ ∃ A7 c7, Hid (SlIs A7 q3 c7 ∧ BsIn wx (w.heap.size + 2) wx.heap.size A5 (Rc.sub l 16 b1) ∧ BsIn wx (w.heap.size + 2) wx.heap.size A7 (Rc.sub l (16 + b1) q3)) ∧ Hid (Sd2 w (.cells #[.int .i64 0, .slice none 0 0, .slice none 0 0, .int .i64 0] 55 (0, 0)) (.cells #[.int .i64 (bd : Int), .slice A5 b1 c5, .slice A7 q3 c7, .int .i64 (q7 : Int)] 55 (0, 0)) wx))
        case first =>
          obtain ⟨z0, z1, z2, z3⟩ := four_cells HS5.out.2.1
          obtain ⟨g0, g1, g2, g3⟩ := four_frozen HS5.out.2.1
          by_cases hcv : c = 16 + b1
          · have hv0 : (q3 : Int) = 0 := by omega
            have HKV : Hid (q3 = 0) := by show _ = _; omega
            go_wp2_with (at_builtin; fail)
            all_goals
              go_meet
              have k8 := (HK5.out.2.keep fun b h1 h2 => (grown_set w5 (w.heap.size + 1) 2 (.slice none 0 0)).block b h2 (fun e => by injection e with e; have := HSZ5.out; omega)).wider (Nat.le_refl _) (grown_set w5 (w.heap.size + 1) 2 (.slice none 0 0)).size
              refine ⟨rfl, by (rw [HKV.out]; try rfl), none, 0, ⟨⟨fun _ => ⟨rfl, HKV.out⟩, by have := HKV.out; omega, by decide⟩, k8, fun k hk => absurd hk (by rw [HL2.out, HKV.out]; omega)⟩, ?_⟩
              rw [HKV.out]
              exact sd2_set2 HS5.out
          · go_wp2_with (at_builtin; first
              | (refine append_bytes rfl (.tmp 101) rfl B (if c = 16 + b1 then some ad else some (ad.add (16 + b1))) q3 (c - (16 + b1)) (Rc.sub l (16 + b1) q3) (by simp [Act.eval, hcv]) (fun e => by split at e <;> cases e) HL2.out (HC2.out _ HS5.out.2.2) HL1.out.2 ?_; rintro A7 c7 w7 hs7 hb7 hB7; have HS7 : Hid (Sd2 w _ _ w7) := HS5.out.next hB7 rfl rfl rfl rfl; have HK7 := Lib.hid (And.intro hs7 hb7); have HB7 := Lib.hid hB7; clear z0 z1 z2 z3 g0 g1 g2 g3; obtain ⟨z0, z1, z2, z3⟩ := four_cells HS7.out.2.1; obtain ⟨g0, g1, g2, g3⟩ := four_frozen HS7.out.2.1; clear hs7 hb7 hB7))
            all_goals
              go_meet
              have s7 := HB7.out.size
              have s5 := HSZ5.out
              have k5 := (HK5.out.2.keep fun b _ h => HB7.out.block b h).wider (Nat.le_refl _) s7
              have k8 := (k5.keep fun b h1 h2 => (grown_set w7 (w.heap.size + 1) 2 (.slice A7 q3 c7)).block b h2 (fun e => by injection e with e; omega)).wider (Nat.le_refl _) (grown_set w7 (w.heap.size + 1) 2 (.slice A7 q3 c7)).size
              have k9 := (HK7.out.2.keep fun b h1 h2 => (grown_set w7 (w.heap.size + 1) 2 (.slice A7 q3 c7)).block b h2 (fun e => by injection e with e; omega)).wider (by omega : w.heap.size + 2 ≤ _) (grown_set w7 (w.heap.size + 1) 2 (.slice A7 q3 c7)).size
              exact ⟨rfl, rfl, A7, c7, ⟨HK7.out.1, k8, k9⟩, sd2_set2 HS7.out⟩
        case rest =>
          obtain ⟨rfl, rfl, A7, c7, HK8, HS8⟩ := hcut
          have HK9 : Hid (SlIs A5 b1 c5 ∧ SlIs A7 q3 c7) := ⟨HK5.out.1, HK8.out.1⟩
          have HKB := Lib.hid HK8.out.2
          clear HK5 HK8 HS5 HSZ5
          generalize wc = w8 at *
          obtain ⟨z0, z1, z2, z3⟩ := four_cells HS8.out.2.1
          go_wp2_with fail
          refine (reflen_any (bd : Int) A5 b1 c5 A7 q3 c7 (q7 : Int) w8 HL1.out.1 HL1.out.2).mono ?_
          rintro e w9 ⟨rfl, hb9⟩
          have HS9 := Lib.hid (HS8.out.next hb9 (by rfl) (by rfl) (by rfl) (by rfl))
          have HB9 : Hid (BsIn w9 (w.heap.size + 2) w9.heap.size A5 (Rc.sub l 16 b1) ∧ BsIn w9 (w.heap.size + 2) w9.heap.size A7 (Rc.sub l (16 + b1) q3)) :=
            ⟨(HKB.out.1.keep fun b _ h => hb9.block b h).wider (Nat.le_refl _) hb9.size, (HKB.out.2.keep fun b _ h => hb9.block b h).wider (Nat.le_refl _) hb9.size⟩
          clear hb9 HS8 HKB z0 z1 z2 z3
          obtain ⟨z0, z1, z2, z3⟩ := four_cells HS9.out.2.1
          have HCK := Lib.hid (fun W => refcheck_any 2 (bd : Int) A5 b1 c5 A7 q3 c7 (q7 : Int) W)
          have HCQ : Hid (Rc.check 2 (Rc.rec 2 l) = Rc.chk 2 (bd : Int) b1 q3 (q7 : Int)) := by
            show _ = _
            unfold Rc.check
            rw [HREC.out]
            simp only
            rw [HC1L.out, HL2.out]
          obtain ⟨N, hN⟩ : ∃ N, 16 + b1 + q3 = N := ⟨_, rfl⟩
          have jN : (N : Int) ≤ (c : Int) := by omega
          have jN0 : (0 : Int) ≤ (N : Int) := by omega
          have HNN : Hid (N ≤ n ∧ 16 + b1 + q3 = N) := ⟨by have := HFIT.out; omega, hN⟩
          rw [hN]
          clear hN
          by_cases hck : Rc.chk 2 (bd : Int) b1 q3 (q7 : Int) = 0
          · have HRE : Hid (∀ W, Below w9.heap.size w9 W → Calls Tryz.prog 77 #[.int .i64 2, .int .i64 seq, .int .i64 off, .agg #[.int .i64 (bd : Int), .slice A5 b1 c5, .slice A7 q3 c7, .int .i64 (q7 : Int)]] W fun e w' => ∃ A3 c3, e = .returned (.slice A3 (Rc.enc 2 seq off (Rc.rec 2 l)).length c3) ∧ SlIs A3 (Rc.enc 2 seq off (Rc.rec 2 l)).length c3 ∧ Bs w' w'.heap.size A3 (Rc.enc 2 seq off (Rc.rec 2 l)) ∧ Below W.heap.size W w') := fun W hW => by
              have h := HCQ.out.trans hck
              rw [HREC.out] at h ⊢
              exact refencode_any 2 seq off (bd : Int) (q7 : Int) _ _ A5 w9.heap.size b1 c5 A7 q3 c7 W h HPL.out hW.size hsq ⟨HK9.out.1, HC1L.out, HB9.out.1.bs.below hW (Nat.le_refl _)⟩ ⟨HK9.out.2, HL2.out, HB9.out.2.bs.below hW (Nat.le_refl _)⟩
            have HEN : Hid ((Rc.enc 2 seq off (Rc.rec 2 l)).length = N) := by
              show _ = _
              rw [Rc.enc_length, HREC.out]
              unfold Rc.len
              simp only
              rw [HC1L.out, HL2.out, HNN.out.2]
            have HGD : Hid (Rc.enc 2 seq off (Rc.rec 2 l) = l.take N → Rc.good 2 seq off l) := fun h => by
              refine ⟨by rw [hl.out]; exact h16, ?_, HCQ.out.trans hck, HPL.out, ?_⟩
              · rw [hl.out, HRC.out.2.1, HRC.out.2.2.1]; have := HNN.out; omega
              · rw [HRC.out.2.1, HRC.out.2.2.1, HNN.out.2]; exact h
            have HBD : Hid (Rc.good 2 seq off l → Rc.enc 2 seq off (Rc.rec 2 l) = l.take N) := fun h => by
              have h5 := h.2.2.2.2
              rw [HRC.out.2.1, HRC.out.2.2.1, HNN.out.2] at h5
              exact h5
            rw [HEN.out] at HRE
            have HEQ : Hid (∀ W A3 c3, Below w9.heap.size w9 W → Bs W W.heap.size A3 (Rc.enc 2 seq off (Rc.rec 2 l)) → Calls Tryz.prog 58 #[.slice A3 N c3, .slice (some ad) N c] W (SaysQuiet (decide (Rc.enc 2 seq off (Rc.rec 2 l) = l.take N)) W)) := fun W A3 c3 hW h3 =>
              refeq_any A3 (some ad) W.heap.size B N N c3 c _ _ W HEN.out (by show _ = _; rw [List.length_take, hl.out]; have := HNN.out; omega) (by have := HNN.out; omega) (by have := HNN.out; omega) h3 ((hb.out.take N).below (HS9.out.2.2.trans (hW.mono HS9.out.2.2.size)) hB)
            rw [hck] at HCK
            generalize Rc.enc 2 seq off (Rc.rec 2 l) = en at HRE HEN HGD HBD HEQ
            clear HCQ hck
            by_cases henc : en = l.take N
            · rw [decide_eq_true henc] at HEQ
              have HGG := Lib.hid (HGD.out henc)
              clear HGD HBD henc
              go_upto_region 13 with fail
              refine wp_region_held_drew (S := (fun W => W.cell? ⟨w.heap.size + 1, 0, none⟩ = some (.int .i64 (bd : Int)) ∧ W.cell? ⟨w.heap.size + 1, 1, none⟩ = some (.slice A5 b1 c5) ∧ W.cell? ⟨w.heap.size + 1, 2, none⟩ = some (.slice A7 q3 c7) ∧ W.cell? ⟨w.heap.size + 1, 3, none⟩ = some (.int .i64 (q7 : Int)))) (by kernel_rfl) (four_cells (HS9.out.drawn 1).2.1) (fun hH => ?_)
              change wpAnyH _ _ _ _ _ 16 #[false, false, false, false, false, false, false, false, false, false, false, false, false, false, false, false] _ _
              refine held_take (i := 0) (v := ?_) (d := some 106) rfl rfl (by kernel_rfl) (by kernel_rfl) (by kernel_rfl) (fun _ _ _ h => h) hH ⟨by rfl, fun w hSw => ?_⟩ ?_
              rotate_left
              · obtain ⟨s0, s1, s2, s3⟩ := hSw
                (go_simp; all_goals with_reducible rfl)
              simp only [Act.put, List.setIfInBounds_toArray, List.set_cons_zero, List.set_cons_succ]
              refine held_take (i := 1) (v := ?_) (d := some 107) rfl rfl (by kernel_rfl) (by kernel_rfl) (by kernel_rfl) (fun _ _ _ h => h) hH ⟨by rfl, fun w hSw => ?_⟩ ?_
              rotate_left
              · obtain ⟨s0, s1, s2, s3⟩ := hSw
                (go_simp; all_goals with_reducible rfl)
              simp only [Act.put, List.setIfInBounds_toArray, List.set_cons_zero, List.set_cons_succ]
              refine held_step (i := 2) rfl (by kernel_rfl) (by rfl) (fun K hK => ?_)
              clear hH
              go_simp
              refine (HCK.out _).mono ?_
              rintro e w10 ⟨rfl, hb10⟩
              have HS10 : Hid (Sd2 w _ _ w10) := HS9.out.next hb10 rfl rfl rfl rfl
              have HX10 : Hid (Below w9.heap.size w9 w10) := below_drop hb10
              clear hb10
              have hH := four_cells HS10.out.2.1
              refine hK _ _ hH ?_
              clear hK K
              simp only [List.setIfInBounds_toArray, List.set_cons_zero, List.set_cons_succ]
              refine held_take (i := 3) (v := ?_) (d := some 109) rfl rfl (by kernel_rfl) (by kernel_rfl) (by kernel_rfl) (fun _ _ _ h => h) hH ⟨by rfl, fun w hSw => ?_⟩ ?_
              rotate_left
              · obtain ⟨s0, s1, s2, s3⟩ := hSw
                (go_simp; all_goals with_reducible rfl)
              simp only [Act.put, List.setIfInBounds_toArray, List.set_cons_zero, List.set_cons_succ]
              refine held_take (i := 4) (v := ?_) (d := some 110) rfl rfl (by kernel_rfl) (by kernel_rfl) (by kernel_rfl) (fun _ _ _ h => h) hH ⟨by rfl, fun w hSw => ?_⟩ ?_
              rotate_left
              · obtain ⟨s0, s1, s2, s3⟩ := hSw
                (go_simp; all_goals with_reducible rfl)
              simp only [Act.put, List.setIfInBounds_toArray, List.set_cons_zero, List.set_cons_succ]
              refine held_take (i := 5) (v := ?_) (d := some 111) rfl rfl (by kernel_rfl) (by kernel_rfl) (by kernel_rfl) (fun _ _ _ h => h) hH ⟨by rfl, fun w hSw => ?_⟩ ?_
              rotate_left
              · obtain ⟨s0, s1, s2, s3⟩ := hSw
                (go_simp; all_goals with_reducible rfl)
              simp only [Act.put, List.setIfInBounds_toArray, List.set_cons_zero, List.set_cons_succ]
              refine held_take (i := 6) (v := ?_) (d := some 112) rfl rfl (by kernel_rfl) (by kernel_rfl) (by kernel_rfl) (fun _ _ _ h => h) hH ⟨by rfl, fun w hSw => ?_⟩ ?_
              rotate_left
              · obtain ⟨s0, s1, s2, s3⟩ := hSw
                (go_simp; all_goals with_reducible rfl)
              simp only [Act.put, List.setIfInBounds_toArray, List.set_cons_zero, List.set_cons_succ]
              refine held_take (i := 7) (v := ?_) (d := some 113) rfl rfl (by kernel_rfl) (by kernel_rfl) (by kernel_rfl) (fun _ _ _ h => h) hH ⟨by rfl, fun w hSw => ?_⟩ ?_
              rotate_left
              · obtain ⟨s0, s1, s2, s3⟩ := hSw
                (go_simp; all_goals with_reducible rfl)
              simp only [Act.put, List.setIfInBounds_toArray, List.set_cons_zero, List.set_cons_succ]
              refine held_take (i := 8) (v := ?_) (d := some 114) rfl rfl (by kernel_rfl) (by kernel_rfl) (by kernel_rfl) (fun _ _ _ h => h) hH ⟨by rfl, fun w hSw => ?_⟩ ?_
              rotate_left
              · obtain ⟨s0, s1, s2, s3⟩ := hSw
                (go_simp; all_goals with_reducible rfl)
              simp only [Act.put, List.setIfInBounds_toArray, List.set_cons_zero, List.set_cons_succ]
              refine held_take (i := 10) (v := ?_) (d := some 116) rfl rfl (by kernel_rfl) (by kernel_rfl) (by kernel_rfl) (fun _ _ _ h => h) hH ⟨by rfl, fun w hSw => ?_⟩ ?_
              rotate_left
              · obtain ⟨s0, s1, s2, s3⟩ := hSw
                (go_simp; all_goals with_reducible rfl)
              simp only [Act.put, List.setIfInBounds_toArray, List.set_cons_zero, List.set_cons_succ]
              refine held_take (i := 11) (v := ?_) (d := some 117) rfl rfl (by kernel_rfl) (by kernel_rfl) (by kernel_rfl) (fun _ _ _ h => h) hH ⟨by rfl, fun w hSw => ?_⟩ ?_
              rotate_left
              · obtain ⟨s0, s1, s2, s3⟩ := hSw
                (go_simp; all_goals with_reducible rfl)
              simp only [Act.put, List.setIfInBounds_toArray, List.set_cons_zero, List.set_cons_succ]
              refine held_take (i := 12) (v := ?_) (d := some 118) rfl rfl (by kernel_rfl) (by kernel_rfl) (by kernel_rfl) (fun _ _ _ h => h) hH ⟨by rfl, fun w hSw => ?_⟩ ?_
              rotate_left
              · obtain ⟨s0, s1, s2, s3⟩ := hSw
                (go_simp; all_goals with_reducible rfl)
              simp only [Act.put, List.setIfInBounds_toArray, List.set_cons_zero, List.set_cons_succ]
              refine held_step (i := 9) rfl (by kernel_rfl) (by rfl) (fun K hK => ?_)
              clear hH
              go_simp
              refine (HRE.out _ HX10.out).mono ?_
              rintro e w11 ⟨A3, c3, rfl, hs3, hbs3, hb11⟩
              have HS11 : Hid (Sd2 w _ _ w11) := HS10.out.next hb11 rfl rfl rfl rfl
              have HX11 : Hid (Below w9.heap.size w9 w11) := HX10.out.trans (hb11.mono HX10.out.size)
              have HE11 := Lib.hid (And.intro hs3 hbs3)
              clear hb11 hs3 hbs3
              have hH := four_cells HS11.out.2.1
              refine hK _ _ hH ?_
              clear hK K
              simp only [List.setIfInBounds_toArray, List.set_cons_zero, List.set_cons_succ]
              refine held_step (i := 13) rfl (by kernel_rfl) (by rfl) (fun K hK => ?_)
              clear hH
              go_simp
              refine (HEQ.out _ A3 c3 HX11.out HE11.out.2).mono ?_
              rintro e w12 ⟨rfl, k12, rfl⟩
              have HS12 : Hid (Sd2 w _ _ (w11.drewN k12)) := HS11.out.drawn k12
              have hH := four_cells HS12.out.2.1
              refine hK _ _ hH ?_
              clear hK K
              simp only [List.setIfInBounds_toArray, List.set_cons_zero, List.set_cons_succ]
              refine held_take (i := 14) (v := ?_) (d := some 120) rfl rfl (by kernel_rfl) (by kernel_rfl) (by kernel_rfl) (fun _ _ _ h => h) hH ⟨by rfl, fun w hSw => ?_⟩ ?_
              rotate_left
              · obtain ⟨s0, s1, s2, s3⟩ := hSw
                (go_simp; all_goals with_reducible rfl)
              simp only [Act.put, List.setIfInBounds_toArray, List.set_cons_zero, List.set_cons_succ]
              refine held_take (i := 15) (v := ?_) (d := some 121) rfl rfl (by kernel_rfl) (by kernel_rfl) (by kernel_rfl) (fun _ _ _ h => h) hH ⟨by rfl, fun w hSw => ?_⟩ ?_
              rotate_left
              · obtain ⟨s0, s1, s2, s3⟩ := hSw
                (go_simp; all_goals with_reducible rfl)
              simp only [Act.put, List.setIfInBounds_toArray, List.set_cons_zero, List.set_cons_succ]
              refine wpAnyH_done (by kernel_rfl) ?_ _
              obtain ⟨x0, x1, x2, x3⟩ := four_cells HS12.out.1
              obtain ⟨g0, g1, g2, g3⟩ := four_frozen HS12.out.1
              clear z0 z1 z2 z3
              obtain ⟨z0, z1, z2, z3⟩ := hH
              go_wp2_with fail
              (try simp only [Exit.inBlock, Exit.then])
              refine bodyPost_ret (results_row3 rfl _ _ w.heap.size _ _ (0, 0) _ rfl (stored HS12.out.1) Tryz.underlying55 rfl (by kernel_rfl)) rfl ?_
              have HG := stored_grown (w11.drewN k12) w.heap.size (.int .i64 (bd : Int)) (.slice A5 b1 c5) (.slice A7 q3 c7) (.int .i64 (q7 : Int))
              have HZ := HX11.out.size
              have hsz := HS12.out.2.2.size
              have K5 := (HB9.out.1.keep fun b _ h => HX11.out.block b h).wider (Nat.le_refl _) HZ
              have K7 := (HB9.out.2.keep fun b _ h => HX11.out.block b h).wider (Nat.le_refl _) HZ
              have M5 := (BsIn.keep (w' := w11.drewN k12) K5 fun b _ _ => rfl)
              have M7 := (BsIn.keep (w' := w11.drewN k12) K7 fun b _ _ => rfl)
              have N5 := (M5.keep fun b h1 h2 => HG.block b h2 (fun e => by injection e with e; omega)).wider (by omega : w.heap.size ≤ w.heap.size + 2) HG.size
              have N7 := (M7.keep fun b h1 h2 => HG.block b h2 (fun e => by injection e with e; omega)).wider (by omega : w.heap.size ≤ w.heap.size + 2) HG.size
              refine .inl ⟨HGG.out, A5, c5, A7, c7, ?_, ?_, ?_, ?_, ?_, HS12.out.2.2.trans (below_of_grown HG (Nat.le_refl _) HS12.out.2.2.size)⟩
              · rw [HRC.out.1, HRC.out.2.1, HRC.out.2.2.1, HRC.out.2.2.2, HNN.out.2]; rfl
              · rw [HRC.out.2.1]; exact HK9.out.1
              · rw [HRC.out.2.2.1]; exact HK9.out.2
              · rw [HRC.out.2.1]; exact N5
              · rw [HRC.out.2.1, HRC.out.2.2.1]; exact N7
            · rw [decide_eq_false henc] at HEQ
              have HNG : Hid (¬ Rc.good 2 seq off l) := fun h => henc (HBD.out h)
              clear HGD HBD henc
              go_upto_region 13 with fail
              refine wp_region_held_drew (S := (fun W => W.cell? ⟨w.heap.size + 1, 0, none⟩ = some (.int .i64 (bd : Int)) ∧ W.cell? ⟨w.heap.size + 1, 1, none⟩ = some (.slice A5 b1 c5) ∧ W.cell? ⟨w.heap.size + 1, 2, none⟩ = some (.slice A7 q3 c7) ∧ W.cell? ⟨w.heap.size + 1, 3, none⟩ = some (.int .i64 (q7 : Int)))) (by kernel_rfl) (four_cells (HS9.out.drawn 1).2.1) (fun hH => ?_)
              change wpAnyH _ _ _ _ _ 16 #[false, false, false, false, false, false, false, false, false, false, false, false, false, false, false, false] _ _
              refine held_take (i := 0) (v := ?_) (d := some 106) rfl rfl (by kernel_rfl) (by kernel_rfl) (by kernel_rfl) (fun _ _ _ h => h) hH ⟨by rfl, fun w hSw => ?_⟩ ?_
              rotate_left
              · obtain ⟨s0, s1, s2, s3⟩ := hSw
                (go_simp; all_goals with_reducible rfl)
              simp only [Act.put, List.setIfInBounds_toArray, List.set_cons_zero, List.set_cons_succ]
              refine held_take (i := 1) (v := ?_) (d := some 107) rfl rfl (by kernel_rfl) (by kernel_rfl) (by kernel_rfl) (fun _ _ _ h => h) hH ⟨by rfl, fun w hSw => ?_⟩ ?_
              rotate_left
              · obtain ⟨s0, s1, s2, s3⟩ := hSw
                (go_simp; all_goals with_reducible rfl)
              simp only [Act.put, List.setIfInBounds_toArray, List.set_cons_zero, List.set_cons_succ]
              refine held_step (i := 2) rfl (by kernel_rfl) (by rfl) (fun K hK => ?_)
              clear hH
              go_simp
              refine (HCK.out _).mono ?_
              rintro e w10 ⟨rfl, hb10⟩
              have HS10 : Hid (Sd2 w _ _ w10) := HS9.out.next hb10 rfl rfl rfl rfl
              have HX10 : Hid (Below w9.heap.size w9 w10) := below_drop hb10
              clear hb10
              have hH := four_cells HS10.out.2.1
              refine hK _ _ hH ?_
              clear hK K
              simp only [List.setIfInBounds_toArray, List.set_cons_zero, List.set_cons_succ]
              refine held_take (i := 3) (v := ?_) (d := some 109) rfl rfl (by kernel_rfl) (by kernel_rfl) (by kernel_rfl) (fun _ _ _ h => h) hH ⟨by rfl, fun w hSw => ?_⟩ ?_
              rotate_left
              · obtain ⟨s0, s1, s2, s3⟩ := hSw
                (go_simp; all_goals with_reducible rfl)
              simp only [Act.put, List.setIfInBounds_toArray, List.set_cons_zero, List.set_cons_succ]
              refine held_take (i := 4) (v := ?_) (d := some 110) rfl rfl (by kernel_rfl) (by kernel_rfl) (by kernel_rfl) (fun _ _ _ h => h) hH ⟨by rfl, fun w hSw => ?_⟩ ?_
              rotate_left
              · obtain ⟨s0, s1, s2, s3⟩ := hSw
                (go_simp; all_goals with_reducible rfl)
              simp only [Act.put, List.setIfInBounds_toArray, List.set_cons_zero, List.set_cons_succ]
              refine held_take (i := 5) (v := ?_) (d := some 111) rfl rfl (by kernel_rfl) (by kernel_rfl) (by kernel_rfl) (fun _ _ _ h => h) hH ⟨by rfl, fun w hSw => ?_⟩ ?_
              rotate_left
              · obtain ⟨s0, s1, s2, s3⟩ := hSw
                (go_simp; all_goals with_reducible rfl)
              simp only [Act.put, List.setIfInBounds_toArray, List.set_cons_zero, List.set_cons_succ]
              refine held_take (i := 6) (v := ?_) (d := some 112) rfl rfl (by kernel_rfl) (by kernel_rfl) (by kernel_rfl) (fun _ _ _ h => h) hH ⟨by rfl, fun w hSw => ?_⟩ ?_
              rotate_left
              · obtain ⟨s0, s1, s2, s3⟩ := hSw
                (go_simp; all_goals with_reducible rfl)
              simp only [Act.put, List.setIfInBounds_toArray, List.set_cons_zero, List.set_cons_succ]
              refine held_take (i := 7) (v := ?_) (d := some 113) rfl rfl (by kernel_rfl) (by kernel_rfl) (by kernel_rfl) (fun _ _ _ h => h) hH ⟨by rfl, fun w hSw => ?_⟩ ?_
              rotate_left
              · obtain ⟨s0, s1, s2, s3⟩ := hSw
                (go_simp; all_goals with_reducible rfl)
              simp only [Act.put, List.setIfInBounds_toArray, List.set_cons_zero, List.set_cons_succ]
              refine held_take (i := 8) (v := ?_) (d := some 114) rfl rfl (by kernel_rfl) (by kernel_rfl) (by kernel_rfl) (fun _ _ _ h => h) hH ⟨by rfl, fun w hSw => ?_⟩ ?_
              rotate_left
              · obtain ⟨s0, s1, s2, s3⟩ := hSw
                (go_simp; all_goals with_reducible rfl)
              simp only [Act.put, List.setIfInBounds_toArray, List.set_cons_zero, List.set_cons_succ]
              refine held_take (i := 10) (v := ?_) (d := some 116) rfl rfl (by kernel_rfl) (by kernel_rfl) (by kernel_rfl) (fun _ _ _ h => h) hH ⟨by rfl, fun w hSw => ?_⟩ ?_
              rotate_left
              · obtain ⟨s0, s1, s2, s3⟩ := hSw
                (go_simp; all_goals with_reducible rfl)
              simp only [Act.put, List.setIfInBounds_toArray, List.set_cons_zero, List.set_cons_succ]
              refine held_take (i := 11) (v := ?_) (d := some 117) rfl rfl (by kernel_rfl) (by kernel_rfl) (by kernel_rfl) (fun _ _ _ h => h) hH ⟨by rfl, fun w hSw => ?_⟩ ?_
              rotate_left
              · obtain ⟨s0, s1, s2, s3⟩ := hSw
                (go_simp; all_goals with_reducible rfl)
              simp only [Act.put, List.setIfInBounds_toArray, List.set_cons_zero, List.set_cons_succ]
              refine held_take (i := 12) (v := ?_) (d := some 118) rfl rfl (by kernel_rfl) (by kernel_rfl) (by kernel_rfl) (fun _ _ _ h => h) hH ⟨by rfl, fun w hSw => ?_⟩ ?_
              rotate_left
              · obtain ⟨s0, s1, s2, s3⟩ := hSw
                (go_simp; all_goals with_reducible rfl)
              simp only [Act.put, List.setIfInBounds_toArray, List.set_cons_zero, List.set_cons_succ]
              refine held_step (i := 9) rfl (by kernel_rfl) (by rfl) (fun K hK => ?_)
              clear hH
              go_simp
              refine (HRE.out _ HX10.out).mono ?_
              rintro e w11 ⟨A3, c3, rfl, hs3, hbs3, hb11⟩
              have HS11 : Hid (Sd2 w _ _ w11) := HS10.out.next hb11 rfl rfl rfl rfl
              have HX11 : Hid (Below w9.heap.size w9 w11) := HX10.out.trans (hb11.mono HX10.out.size)
              have HE11 := Lib.hid (And.intro hs3 hbs3)
              clear hb11 hs3 hbs3
              have hH := four_cells HS11.out.2.1
              refine hK _ _ hH ?_
              clear hK K
              simp only [List.setIfInBounds_toArray, List.set_cons_zero, List.set_cons_succ]
              refine held_step (i := 13) rfl (by kernel_rfl) (by rfl) (fun K hK => ?_)
              clear hH
              go_simp
              refine (HEQ.out _ A3 c3 HX11.out HE11.out.2).mono ?_
              rintro e w12 ⟨rfl, k12, rfl⟩
              have HS12 : Hid (Sd2 w _ _ (w11.drewN k12)) := HS11.out.drawn k12
              have hH := four_cells HS12.out.2.1
              refine hK _ _ hH ?_
              clear hK K
              simp only [List.setIfInBounds_toArray, List.set_cons_zero, List.set_cons_succ]
              refine held_take (i := 14) (v := ?_) (d := some 120) rfl rfl (by kernel_rfl) (by kernel_rfl) (by kernel_rfl) (fun _ _ _ h => h) hH ⟨by rfl, fun w hSw => ?_⟩ ?_
              rotate_left
              · obtain ⟨s0, s1, s2, s3⟩ := hSw
                (go_simp; all_goals with_reducible rfl)
              simp only [Act.put, List.setIfInBounds_toArray, List.set_cons_zero, List.set_cons_succ]
              refine held_take (i := 15) (v := ?_) (d := some 121) rfl rfl (by kernel_rfl) (by kernel_rfl) (by kernel_rfl) (fun _ _ _ h => h) hH ⟨by rfl, fun w hSw => ?_⟩ ?_
              rotate_left
              · obtain ⟨s0, s1, s2, s3⟩ := hSw
                (go_simp; all_goals with_reducible rfl)
              simp only [Act.put, List.setIfInBounds_toArray, List.set_cons_zero, List.set_cons_succ]
              refine wpAnyH_done (by kernel_rfl) ?_ _
              obtain ⟨x0, x1, x2, x3⟩ := four_cells HS12.out.1
              obtain ⟨g0, g1, g2, g3⟩ := four_frozen HS12.out.1
              clear hH
              go_wp2_with fail
              (try simp only [Exit.inBlock, Exit.then])
              refine bodyPost_ret (results_row3 rfl _ _ w.heap.size _ _ (0, 0) _ rfl (stored HS12.out.1) Tryz.underlying55 rfl (by kernel_rfl)) rfl ?_
              exact .inr ⟨HNG.out, rfl, HS12.out.2.2.trans (below_of_grown (stored_grown _ _ _ _ _ _) (Nat.le_refl _) HS12.out.2.2.size)⟩
          · have HNG : Hid (¬ Rc.good 2 seq off l) := fun hg => hck (HCQ.out.symm.trans hg.2.2.1)
            obtain ⟨q, hq⟩ : ∃ q, Rc.chk 2 (bd : Int) b1 q3 (q7 : Int) = q := ⟨_, rfl⟩
            rw [hq] at HCK hck
            have f9 : (q != 0) = true := by rw [bne_iff_ne]; exact hck
            clear HCQ hq hck
            go_upto_region 13 with fail
            refine wp_region_held_drew (S := (fun W => W.cell? ⟨w.heap.size + 1, 0, none⟩ = some (.int .i64 (bd : Int)) ∧ W.cell? ⟨w.heap.size + 1, 1, none⟩ = some (.slice A5 b1 c5) ∧ W.cell? ⟨w.heap.size + 1, 2, none⟩ = some (.slice A7 q3 c7) ∧ W.cell? ⟨w.heap.size + 1, 3, none⟩ = some (.int .i64 (q7 : Int)))) (by kernel_rfl) (four_cells (HS9.out.drawn 1).2.1) (fun hH => ?_)
            change wpAnyH _ _ _ _ _ 16 #[false, false, false, false, false, false, false, false, false, false, false, false, false, false, false, false] _ _
            refine held_take (i := 0) (v := ?_) (d := some 106) rfl rfl (by kernel_rfl) (by kernel_rfl) (by kernel_rfl) (fun _ _ _ h => h) hH ⟨by rfl, fun w hSw => ?_⟩ ?_
            rotate_left
            · obtain ⟨s0, s1, s2, s3⟩ := hSw
              (go_simp; all_goals with_reducible rfl)
            simp only [Act.put, List.setIfInBounds_toArray, List.set_cons_zero, List.set_cons_succ]
            refine held_take (i := 1) (v := ?_) (d := some 107) rfl rfl (by kernel_rfl) (by kernel_rfl) (by kernel_rfl) (fun _ _ _ h => h) hH ⟨by rfl, fun w hSw => ?_⟩ ?_
            rotate_left
            · obtain ⟨s0, s1, s2, s3⟩ := hSw
              (go_simp; all_goals with_reducible rfl)
            simp only [Act.put, List.setIfInBounds_toArray, List.set_cons_zero, List.set_cons_succ]
            refine held_step (i := 2) rfl (by kernel_rfl) (by rfl) (fun K hK => ?_)
            clear hH
            go_simp
            refine (HCK.out _).mono ?_
            rintro e w10 ⟨rfl, hb10⟩
            have HS10 : Hid (Sd2 w _ _ w10) := HS9.out.next hb10 rfl rfl rfl rfl
            clear hb10
            have hH := four_cells HS10.out.2.1
            refine hK _ _ hH ?_
            clear hK K
            simp only [List.setIfInBounds_toArray, List.set_cons_zero, List.set_cons_succ]
            refine held_take (i := 3) (v := ?_) (d := some 109) rfl rfl (by kernel_rfl) (by kernel_rfl) (by kernel_rfl) (fun _ _ _ h => h) hH ⟨by rfl, fun w hSw => ?_⟩ ?_
            rotate_left
            · obtain ⟨s0, s1, s2, s3⟩ := hSw
              (go_simp; all_goals with_reducible rfl)
            simp only [Act.put, List.setIfInBounds_toArray, List.set_cons_zero, List.set_cons_succ]
            refine held_take (i := 4) (v := ?_) (d := some 110) rfl rfl (by kernel_rfl) (by kernel_rfl) (by kernel_rfl) (fun _ _ _ h => h) hH ⟨by rfl, fun w hSw => ?_⟩ ?_
            rotate_left
            · obtain ⟨s0, s1, s2, s3⟩ := hSw
              (go_simp; all_goals with_reducible rfl)
            simp only [Act.put, List.setIfInBounds_toArray, List.set_cons_zero, List.set_cons_succ]
            refine held_skip (i := 5) (d := some 111) rfl rfl (by kernel_rfl) (by kernel_rfl) (by kernel_rfl) (fun _ _ _ h => h) hH (by rfl) ?_
            simp only [Act.put, List.setIfInBounds_toArray, List.set_cons_zero, List.set_cons_succ]
            refine held_skip (i := 6) (d := some 112) rfl rfl (by kernel_rfl) (by kernel_rfl) (by kernel_rfl) (fun _ _ _ h => h) hH (by rfl) ?_
            simp only [Act.put, List.setIfInBounds_toArray, List.set_cons_zero, List.set_cons_succ]
            refine held_skip (i := 7) (d := some 113) rfl rfl (by kernel_rfl) (by kernel_rfl) (by kernel_rfl) (fun _ _ _ h => h) hH (by rfl) ?_
            simp only [Act.put, List.setIfInBounds_toArray, List.set_cons_zero, List.set_cons_succ]
            refine held_skip (i := 8) (d := some 114) rfl rfl (by kernel_rfl) (by kernel_rfl) (by kernel_rfl) (fun _ _ _ h => h) hH (by rfl) ?_
            simp only [Act.put, List.setIfInBounds_toArray, List.set_cons_zero, List.set_cons_succ]
            refine held_skip (i := 10) (d := some 116) rfl rfl (by kernel_rfl) (by kernel_rfl) (by kernel_rfl) (fun _ _ _ h => h) hH (by rfl) ?_
            simp only [Act.put, List.setIfInBounds_toArray, List.set_cons_zero, List.set_cons_succ]
            refine held_skip (i := 11) (d := some 117) rfl rfl (by kernel_rfl) (by kernel_rfl) (by kernel_rfl) (fun _ _ _ h => h) hH (by rfl) ?_
            simp only [Act.put, List.setIfInBounds_toArray, List.set_cons_zero, List.set_cons_succ]
            refine held_skip (i := 12) (d := some 118) rfl rfl (by kernel_rfl) (by kernel_rfl) (by kernel_rfl) (fun _ _ _ h => h) hH (by rfl) ?_
            simp only [Act.put, List.setIfInBounds_toArray, List.set_cons_zero, List.set_cons_succ]
            refine held_skip (i := 9) (d := some 115) rfl rfl (by kernel_rfl) (by kernel_rfl) (by kernel_rfl) (fun _ _ _ h => h) hH (by rfl) ?_
            simp only [Act.put, List.setIfInBounds_toArray, List.set_cons_zero, List.set_cons_succ]
            refine held_skip (i := 13) (d := some 119) rfl rfl (by kernel_rfl) (by kernel_rfl) (by kernel_rfl) (fun _ _ _ h => h) hH (by rfl) ?_
            simp only [Act.put, List.setIfInBounds_toArray, List.set_cons_zero, List.set_cons_succ]
            refine held_skip (i := 14) (d := some 120) rfl rfl (by kernel_rfl) (by kernel_rfl) (by kernel_rfl) (fun _ _ _ h => h) hH (by rfl) ?_
            simp only [Act.put, List.setIfInBounds_toArray, List.set_cons_zero, List.set_cons_succ]
            refine held_take (i := 15) (v := ?_) (d := some 121) rfl rfl (by kernel_rfl) (by kernel_rfl) (by kernel_rfl) (fun _ _ _ h => h) hH ⟨by rfl, fun w hSw => ?_⟩ ?_
            rotate_left
            · obtain ⟨s0, s1, s2, s3⟩ := hSw
              (go_simp; all_goals with_reducible rfl)
            simp only [Act.put, List.setIfInBounds_toArray, List.set_cons_zero, List.set_cons_succ]
            refine wpAnyH_done (by kernel_rfl) ?_ _
            obtain ⟨x0, x1, x2, x3⟩ := four_cells HS10.out.1
            obtain ⟨g0, g1, g2, g3⟩ := four_frozen HS10.out.1
            clear hH
            go_wp2_with fail
            (try simp only [Exit.inBlock, Exit.then])
            refine bodyPost_ret (results_row3 rfl _ _ w.heap.size _ _ (0, 0) _ rfl (stored HS10.out.1) Tryz.underlying55 rfl (by kernel_rfl)) rfl ?_
            exact .inr ⟨HNG.out, rfl, HS10.out.2.2.trans (below_of_grown (stored_grown _ _ _ _ _ _) (Nat.le_refl _) HS10.out.2.2.size)⟩
end Go.Proofs.YtgnbmmceffolmaaGreatDoor
end
section
set_option maxRecDepth 100000
namespace Go.Proofs.YtgnbmmceffolmaaGreatDoor
open Go.RowKit
theorem refdecode_any (v seq off : Int) (A : Option Addr) (B n c : Nat) (l : List Nat) (w : World) (hB : B ≤ w.heap.size) (hsq : seq ≤ 9223372036854775807) (hs : SlIs A n c) (hl : Hid (l.length = n)) (hb : Hid (Bs w B A l)) (hn : n ≤ 140737488355328) :
    Calls Tryz.prog 70 #[.int .i64 v, .int .i64 seq, .int .i64 off, .slice A n c] w fun e w' => (Rc.good v seq off l ∧ GotRec w v l e w') ∨ (¬ Rc.good v seq off l ∧ NoRec w e w') := by
  by_cases h : ¬ (v = 1 ∨ v = 2) ∨ ¬ Rc.place seq off ∨ n < 16
  · have hng : ¬ Rc.good v seq off l := fun hg => by
      obtain ⟨h1, -, h3, h4, -⟩ := hg
      rw [hl.out] at h1
      have h5 := (Rc.chk_ok h3).1
      rcases h with h | h | h
      · exact h h5
      · exact h h4
      · omega
    exact (refdecode_early v seq off A n c w h).mono fun _ _ h => .inr ⟨hng, h⟩
  · have hv : v = 1 ∨ v = 2 := Decidable.not_not.1 fun e => h (.inl e)
    have hp : Rc.place seq off := Decidable.not_not.1 fun e => h (.inr (.inl e))
    have h16 : 16 ≤ n := by
      rcases Nat.lt_or_ge n 16 with e | e
      · exact absurd (.inr (.inr e)) h
      · exact e
    cases A with
    | none => have := hs.1 rfl; omega
    | some ad =>
      rcases hv with rfl | rfl
      · exact refdecode1 seq off ad B n c l w hB hsq hs.2.1 hs.2.2 hl hb hp h16 hn
      · exact refdecode2 seq off ad B n c l w hB hsq hs.2.1 hs.2.2 hl hb hp h16 hn
end Go.Proofs.YtgnbmmceffolmaaGreatDoor
end
