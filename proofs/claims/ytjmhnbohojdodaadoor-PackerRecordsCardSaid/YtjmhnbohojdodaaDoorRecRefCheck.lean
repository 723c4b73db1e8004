/-
  The walk of the reference's Check: the same first error.
-/
import Derived.Test.YtjmhnbohojdodaaDoorRecWords
namespace Go.Proofs.YtjmhnbohojdodaaDoor
open Go.RowKit
set_option maxHeartbeats 2000000 in
theorem refcheck1 (kd : Int) (A : Option Addr) (n c : Nat) (A' : Option Addr) (n' c' : Nat) (x : Int) (w : World) :
    Calls Tryd.prog 32 #[.int .i64 1, .agg #[.int .i64 kd, .slice A n c, .slice A' n' c', .int .i64 x]] w fun e w' => e = .returned (.int .i64 (Rc.chk 1 kd n n' x)) ∧ Below w.heap.size w w' := by
  have HB : Hid (∀ o, Below w.heap.size w (w.alloc o)) := fun o => (Below.refl _ _).alloc (Nat.le_refl _) o
  by_cases a1 : kd < 1
  ·
    have e : Hid (Rc.chk 1 kd n n' x = 4) := by
      show _ = _
      unfold Rc.chk Rc.well Rc.most
      (repeat' split) <;> omega
    have f0 : decide (kd < 1) = true := by simp; omega
    rw [e.out]
    go_enter Tryd.func32, Tryd.ntmps32
    go_wp2
    go_ret
    exact ⟨rfl, HB.out _⟩
  by_cases a2 : 3 < kd
  ·
    have e : Hid (Rc.chk 1 kd n n' x = 4) := by
      show _ = _
      unfold Rc.chk Rc.well Rc.most
      (repeat' split) <;> omega
    have f0 : decide (kd < 1) = false := by simp; omega
    have f1 : decide (3 < kd) = true := by simp; omega
    rw [e.out]
    go_enter Tryd.func32, Tryd.ntmps32
    go_wp2
    go_ret
    exact ⟨rfl, HB.out _⟩
  by_cases a3 : kd = 1
  · subst a3
    by_cases n0 : n = 0
    · subst n0
      have e : Hid (Rc.chk 1 1 0 n' x = 5) := by
        show _ = _
        unfold Rc.chk Rc.well Rc.most
        (repeat' split) <;> omega
      rw [e.out]
      go_enter Tryd.func32, Tryd.ntmps32
      go_wp2
      go_ret
      exact ⟨rfl, HB.out _⟩
    by_cases n5 : 255 < n
    ·
      have e : Hid (Rc.chk 1 1 n n' x = 5) := by
        show _ = _
        unfold Rc.chk Rc.well Rc.most
        (repeat' split) <;> omega
      have f0 : ((n : Int) == 0) = false := by simp; omega
      have f1 : decide ((255 : Int) < (n : Int)) = true := by simp; omega
      rw [e.out]
      go_enter Tryd.func32, Tryd.ntmps32
      go_wp2
      go_ret
      exact ⟨rfl, HB.out _⟩
    by_cases m5 : 65536 < n'
    ·
      have e : Hid (Rc.chk 1 1 n n' x = 6) := by
        show _ = _
        unfold Rc.chk Rc.well Rc.most
        (repeat' split) <;> omega
      have f0 : ((n : Int) == 0) = false := by simp; omega
      have f1 : decide ((255 : Int) < (n : Int)) = false := by simp; omega
      have f2 : decide ((65536 : Int) < (n' : Int)) = true := by simp; omega
      rw [e.out]
      go_enter Tryd.func32, Tryd.ntmps32
      go_wp2
      go_ret
      exact ⟨rfl, HB.out _⟩
    by_cases x1 : x < 0
    · 
      have e : Hid (Rc.chk 1 1 n n' x = 7) := by
        show _ = _
        unfold Rc.chk Rc.well Rc.most
        (repeat' split) <;> omega
      have f0 : ((n : Int) == 0) = false := by simp; omega
      have f1 : decide ((255 : Int) < (n : Int)) = false := by simp; omega
      have f2 : decide ((65536 : Int) < (n' : Int)) = false := by simp; omega
      have f3 : decide (x < 0) = true := by simpa using x1
      rw [e.out]
      go_enter Tryd.func32, Tryd.ntmps32
      go_wp2
      go_ret
      exact ⟨rfl, HB.out _⟩
    by_cases x2 : 4294967295 < x
    ·
      have e : Hid (Rc.chk 1 1 n n' x = 7) := by
        show _ = _
        unfold Rc.chk Rc.well Rc.most
        (repeat' split) <;> omega
      have f0 : ((n : Int) == 0) = false := by simp; omega
      have f1 : decide ((255 : Int) < (n : Int)) = false := by simp; omega
      have f2 : decide ((65536 : Int) < (n' : Int)) = false := by simp; omega
      have f3 : decide (x < 0) = false := by simp; omega
      have f4 : decide ((4294967295 : Int) < x) = true := by simp; omega
      rw [e.out]
      go_enter Tryd.func32, Tryd.ntmps32
      go_wp2
      go_ret
      exact ⟨rfl, HB.out _⟩
    have e : Hid (Rc.chk 1 1 n n' x = 0) := by
      show _ = _
      unfold Rc.chk Rc.well Rc.most
      (repeat' split) <;> omega
    have f0 : ((n : Int) == 0) = false := by simp; omega
    have f1 : decide ((255 : Int) < (n : Int)) = false := by simp; omega
    have f2 : decide ((65536 : Int) < (n' : Int)) = false := by simp; omega
    have f3 : decide (x < 0) = false := by simp; omega
    have f4 : decide ((4294967295 : Int) < x) = false := by simp; omega
    rw [e.out]
    go_enter Tryd.func32, Tryd.ntmps32
    go_wp2
    go_ret
    exact ⟨rfl, HB.out _⟩
  by_cases m0 : 0 < n'
  ·
    have e : Hid (Rc.chk 1 kd n n' x = 4) := by
      show _ = _
      unfold Rc.chk Rc.well Rc.most
      (repeat' split) <;> omega
    have f0 : decide (kd < 1) = false := by simp; omega
    have f1 : decide (3 < kd) = false := by simp; omega
    have f2 : (kd != 1) = true := by rw [bne_iff_ne]; exact a3
    have f3 : decide ((0 : Int) < (n' : Int)) = true := by simp; omega
    rw [e.out]
    go_enter Tryd.func32, Tryd.ntmps32
    go_wp2
    go_ret
    exact ⟨rfl, HB.out _⟩
  obtain rfl : n' = 0 := by omega
  by_cases x0 : x = 0
  · subst x0
    by_cases k3 : kd = 3
    · subst k3
      by_cases n0 : 0 < n
      ·
        have e : Hid (Rc.chk 1 3 n 0 0 = 4) := by
          show _ = _
          unfold Rc.chk Rc.well Rc.most
          (repeat' split) <;> omega
        have f0 : decide ((0 : Int) < (n : Int)) = true := by simp; omega
        rw [e.out]
        go_enter Tryd.func32, Tryd.ntmps32
        go_wp2
        go_ret
        exact ⟨rfl, HB.out _⟩
      obtain rfl : n = 0 := by omega
      have e : Hid (Rc.chk 1 3 0 0 0 = 0) := by
        show _ = _
        unfold Rc.chk Rc.well Rc.most
        (repeat' split) <;> omega
      rw [e.out]
      go_enter Tryd.func32, Tryd.ntmps32
      go_wp2
      go_ret
      exact ⟨rfl, HB.out _⟩
    obtain rfl : kd = 2 := by omega
    clear a1 a2 a3 k3
    by_cases n0 : n = 0
    · subst n0
      have e : Hid (Rc.chk 1 2 0 0 0 = 5) := by
        show _ = _
        unfold Rc.chk Rc.well Rc.most
        (repeat' split) <;> omega
      rw [e.out]
      go_enter Tryd.func32, Tryd.ntmps32
      go_wp2
      go_ret
      exact ⟨rfl, HB.out _⟩
    by_cases n5 : 255 < n
    ·
      have e : Hid (Rc.chk 1 2 n 0 0 = 5) := by
        show _ = _
        unfold Rc.chk Rc.well Rc.most
        (repeat' split) <;> omega
      have f0 : ((n : Int) == 0) = false := by simp; omega
      have f1 : decide ((255 : Int) < (n : Int)) = true := by simp; omega
      rw [e.out]
      go_enter Tryd.func32, Tryd.ntmps32
      go_wp2
      go_ret
      exact ⟨rfl, HB.out _⟩
    have e : Hid (Rc.chk 1 2 n 0 0 = 0) := by
      show _ = _
      unfold Rc.chk Rc.well Rc.most
      (repeat' split) <;> omega
    have f0 : ((n : Int) == 0) = false := by simp; omega
    have f1 : decide ((255 : Int) < (n : Int)) = false := by simp; omega
    rw [e.out]
    go_enter Tryd.func32, Tryd.ntmps32
    go_wp2
    go_ret
    exact ⟨rfl, HB.out _⟩
  have e : Hid (Rc.chk 1 kd n 0 x = 4) := by
    show _ = _
    unfold Rc.chk Rc.well Rc.most
    (repeat' split) <;> omega
  have f0 : decide (kd < 1) = false := by simp; omega
  have f1 : decide (3 < kd) = false := by simp; omega
  have f2 : (kd != 1) = true := by rw [bne_iff_ne]; exact a3
  have f3 : (x != 0) = true := by rw [bne_iff_ne]; exact x0
  rw [e.out]
  go_enter Tryd.func32, Tryd.ntmps32
  go_wp2
  go_ret
  exact ⟨rfl, HB.out _⟩
set_option maxHeartbeats 2000000 in
theorem refcheck2 (kd : Int) (A : Option Addr) (n c : Nat) (A' : Option Addr) (n' c' : Nat) (x : Int) (w : World) :
    Calls Tryd.prog 32 #[.int .i64 2, .agg #[.int .i64 kd, .slice A n c, .slice A' n' c', .int .i64 x]] w fun e w' => e = .returned (.int .i64 (Rc.chk 2 kd n n' x)) ∧ Below w.heap.size w w' := by
  have HB : Hid (∀ o, Below w.heap.size w (w.alloc o)) := fun o => (Below.refl _ _).alloc (Nat.le_refl _) o
  by_cases a1 : kd < 1
  ·
    have e : Hid (Rc.chk 2 kd n n' x = 4) := by
      show _ = _
      unfold Rc.chk Rc.well Rc.most
      (repeat' split) <;> omega
    have f0 : decide (kd < 1) = true := by simp; omega
    rw [e.out]
    go_enter Tryd.func32, Tryd.ntmps32
    go_wp2
    go_ret
    exact ⟨rfl, HB.out _⟩
  by_cases a2 : 3 < kd
  ·
    have e : Hid (Rc.chk 2 kd n n' x = 4) := by
      show _ = _
      unfold Rc.chk Rc.well Rc.most
      (repeat' split) <;> omega
    have f0 : decide (kd < 1) = false := by simp; omega
    have f1 : decide (3 < kd) = true := by simp; omega
    rw [e.out]
    go_enter Tryd.func32, Tryd.ntmps32
    go_wp2
    go_ret
    exact ⟨rfl, HB.out _⟩
  by_cases a3 : kd = 1
  · subst a3
    by_cases n0 : n = 0
    · subst n0
      have e : Hid (Rc.chk 2 1 0 n' x = 5) := by
        show _ = _
        unfold Rc.chk Rc.well Rc.most
        (repeat' split) <;> omega
      rw [e.out]
      go_enter Tryd.func32, Tryd.ntmps32
      go_wp2
      go_ret
      exact ⟨rfl, HB.out _⟩
    by_cases n5 : 255 < n
    ·
      have e : Hid (Rc.chk 2 1 n n' x = 5) := by
        show _ = _
        unfold Rc.chk Rc.well Rc.most
        (repeat' split) <;> omega
      have f0 : ((n : Int) == 0) = false := by simp; omega
      have f1 : decide ((255 : Int) < (n : Int)) = true := by simp; omega
      rw [e.out]
      go_enter Tryd.func32, Tryd.ntmps32
      go_wp2
      go_ret
      exact ⟨rfl, HB.out _⟩
    by_cases m5 : 65536 < n'
    ·
      have e : Hid (Rc.chk 2 1 n n' x = 6) := by
        show _ = _
        unfold Rc.chk Rc.well Rc.most
        (repeat' split) <;> omega
      have f0 : ((n : Int) == 0) = false := by simp; omega
      have f1 : decide ((255 : Int) < (n : Int)) = false := by simp; omega
      have f2 : decide ((65536 : Int) < (n' : Int)) = true := by simp; omega
      rw [e.out]
      go_enter Tryd.func32, Tryd.ntmps32
      go_wp2
      go_ret
      exact ⟨rfl, HB.out _⟩
    by_cases x1 : x < 0
    · 
      have e : Hid (Rc.chk 2 1 n n' x = 7) := by
        show _ = _
        unfold Rc.chk Rc.well Rc.most
        (repeat' split) <;> omega
      have f0 : ((n : Int) == 0) = false := by simp; omega
      have f1 : decide ((255 : Int) < (n : Int)) = false := by simp; omega
      have f2 : decide ((65536 : Int) < (n' : Int)) = false := by simp; omega
      have f3 : decide (x < 0) = true := by simpa using x1
      rw [e.out]
      go_enter Tryd.func32, Tryd.ntmps32
      go_wp2
      go_ret
      exact ⟨rfl, HB.out _⟩
    by_cases x2 : 1099511627775 < x
    ·
      have e : Hid (Rc.chk 2 1 n n' x = 7) := by
        show _ = _
        unfold Rc.chk Rc.well Rc.most
        (repeat' split) <;> omega
      have f0 : ((n : Int) == 0) = false := by simp; omega
      have f1 : decide ((255 : Int) < (n : Int)) = false := by simp; omega
      have f2 : decide ((65536 : Int) < (n' : Int)) = false := by simp; omega
      have f3 : decide (x < 0) = false := by simp; omega
      have f4 : decide ((1099511627775 : Int) < x) = true := by simp; omega
      rw [e.out]
      go_enter Tryd.func32, Tryd.ntmps32
      go_wp2
      go_ret
      exact ⟨rfl, HB.out _⟩
    have e : Hid (Rc.chk 2 1 n n' x = 0) := by
      show _ = _
      unfold Rc.chk Rc.well Rc.most
      (repeat' split) <;> omega
    have f0 : ((n : Int) == 0) = false := by simp; omega
    have f1 : decide ((255 : Int) < (n : Int)) = false := by simp; omega
    have f2 : decide ((65536 : Int) < (n' : Int)) = false := by simp; omega
    have f3 : decide (x < 0) = false := by simp; omega
    have f4 : decide ((1099511627775 : Int) < x) = false := by simp; omega
    rw [e.out]
    go_enter Tryd.func32, Tryd.ntmps32
    go_wp2
    go_ret
    exact ⟨rfl, HB.out _⟩
  by_cases m0 : 0 < n'
  ·
    have e : Hid (Rc.chk 2 kd n n' x = 4) := by
      show _ = _
      unfold Rc.chk Rc.well Rc.most
      (repeat' split) <;> omega
    have f0 : decide (kd < 1) = false := by simp; omega
    have f1 : decide (3 < kd) = false := by simp; omega
    have f2 : (kd != 1) = true := by rw [bne_iff_ne]; exact a3
    have f3 : decide ((0 : Int) < (n' : Int)) = true := by simp; omega
    rw [e.out]
    go_enter Tryd.func32, Tryd.ntmps32
    go_wp2
    go_ret
    exact ⟨rfl, HB.out _⟩
  obtain rfl : n' = 0 := by omega
  by_cases x0 : x = 0
  · subst x0
    by_cases k3 : kd = 3
    · subst k3
      by_cases n0 : 0 < n
      ·
        have e : Hid (Rc.chk 2 3 n 0 0 = 4) := by
          show _ = _
          unfold Rc.chk Rc.well Rc.most
          (repeat' split) <;> omega
        have f0 : decide ((0 : Int) < (n : Int)) = true := by simp; omega
        rw [e.out]
        go_enter Tryd.func32, Tryd.ntmps32
        go_wp2
        go_ret
        exact ⟨rfl, HB.out _⟩
      obtain rfl : n = 0 := by omega
      have e : Hid (Rc.chk 2 3 0 0 0 = 0) := by
        show _ = _
        unfold Rc.chk Rc.well Rc.most
        (repeat' split) <;> omega
      rw [e.out]
      go_enter Tryd.func32, Tryd.ntmps32
      go_wp2
      go_ret
      exact ⟨rfl, HB.out _⟩
    obtain rfl : kd = 2 := by omega
    clear a1 a2 a3 k3
    by_cases n0 : n = 0
    · subst n0
      have e : Hid (Rc.chk 2 2 0 0 0 = 5) := by
        show _ = _
        unfold Rc.chk Rc.well Rc.most
        (repeat' split) <;> omega
      rw [e.out]
      go_enter Tryd.func32, Tryd.ntmps32
      go_wp2
      go_ret
      exact ⟨rfl, HB.out _⟩
    by_cases n5 : 255 < n
    ·
      have e : Hid (Rc.chk 2 2 n 0 0 = 5) := by
        show _ = _
        unfold Rc.chk Rc.well Rc.most
        (repeat' split) <;> omega
      have f0 : ((n : Int) == 0) = false := by simp; omega
      have f1 : decide ((255 : Int) < (n : Int)) = true := by simp; omega
      rw [e.out]
      go_enter Tryd.func32, Tryd.ntmps32
      go_wp2
      go_ret
      exact ⟨rfl, HB.out _⟩
    have e : Hid (Rc.chk 2 2 n 0 0 = 0) := by
      show _ = _
      unfold Rc.chk Rc.well Rc.most
      (repeat' split) <;> omega
    have f0 : ((n : Int) == 0) = false := by simp; omega
    have f1 : decide ((255 : Int) < (n : Int)) = false := by simp; omega
    rw [e.out]
    go_enter Tryd.func32, Tryd.ntmps32
    go_wp2
    go_ret
    exact ⟨rfl, HB.out _⟩
  have e : Hid (Rc.chk 2 kd n 0 x = 4) := by
    show _ = _
    unfold Rc.chk Rc.well Rc.most
    (repeat' split) <;> omega
  have f0 : decide (kd < 1) = false := by simp; omega
  have f1 : decide (3 < kd) = false := by simp; omega
  have f2 : (kd != 1) = true := by rw [bne_iff_ne]; exact a3
  have f3 : (x != 0) = true := by rw [bne_iff_ne]; exact x0
  rw [e.out]
  go_enter Tryd.func32, Tryd.ntmps32
  go_wp2
  go_ret
  exact ⟨rfl, HB.out _⟩
theorem refcheck_any (v kd : Int) (A : Option Addr) (n c : Nat) (A' : Option Addr) (n' c' : Nat) (x : Int) (w : World) :
    Calls Tryd.prog 32 #[.int .i64 v, .agg #[.int .i64 kd, .slice A n c, .slice A' n' c', .int .i64 x]] w fun e w' => e = .returned (.int .i64 (Rc.chk v kd n n' x)) ∧ Below w.heap.size w w' := by
  by_cases h1 : v = 1
  · subst h1; exact refcheck1 kd A n c A' n' c' x w
  by_cases h2 : v = 2
  · subst h2; exact refcheck2 kd A n c A' n' c' x w
  have e : Hid (Rc.chk v kd n n' x = 2) := by
    show _ = _
    unfold Rc.chk
    rw [if_pos ⟨h1, h2⟩]
  have f1 : (v != 1) = true := by rw [bne_iff_ne]; exact h1
  have f2 : (v != 2) = true := by rw [bne_iff_ne]; exact h2
  have f3 : (v == 2) = false := by simp; exact h2
  rw [e.out]
  go_enter Tryd.func32, Tryd.ntmps32
  go_wp2
  go_ret
  exact ⟨rfl, (Below.refl _ _).alloc (Nat.le_refl _) _⟩
end Go.Proofs.YtjmhnbohojdodaaDoor
