/-
  The walks of the statements on hashes of keys: each returns true and leaves all old memory as it was.
-/
import Derived.Test.YtoejmgfmpbpinaaKeyPlaces
import Derived.Lib.SlBytesConst
import Derived.Laws.AppendOwnNone
import Derived.Deep.QuietTactic
import Derived.BigQuiet
namespace Go.Proofs.Ytoejmgfmpbpinaa
open Go.RowKit
theorem below_drewN (w : World) (n : Nat) : Below w.heap.size w (w.drewN n) := ⟨rfl, rfl, rfl, Nat.le_refl _, fun _ _ => rfl⟩
theorem Bs.drewN {w : World} {B : Nat} {A : Option Addr} {l : List Nat} (h : Bs w B A l) (n : Nat) : Bs (w.drewN n) B A l := h
/-- What the statements read of a slice: its first k bytes. -/
theorem cutk {A : Option Addr} {n B : Nat} {l : List Nat} {w : World} (hl : l.length = n) (hb : Bs w B A l) (k : Nat) :
    ∃ (m : Nat) (l' : List Nat), ((n ≤ k ∧ m = n) ∨ (k < n ∧ m = k)) ∧ Hid (l'.length = m) ∧ Hid (Bs w B A l') ∧ m ≤ k := by
  by_cases h : n ≤ k
  · exact ⟨n, l, .inl ⟨h, rfl⟩, hl, hb, h⟩
  · exact ⟨k, l.take k, .inr ⟨by omega, rfl⟩, by show (l.take k).length = k; rw [List.length_take]; omega, hb.take k, Nat.le_refl _⟩
theorem bs_one (w : World) (x : Nat) (hx : x < 256) (fz : Nat × Nat) : Bs (w.alloc (.cells #[.int .u8 (x : Int)] 5 fz)) (w.heap.size + 1) (some ⟨w.heap.size, 0, none⟩) [x] := by
  intro k hk
  obtain rfl : k = 0 := by simp at hk; exact hk
  refine ⟨hx, _, rfl, Nat.lt_succ_self _, ?_⟩
  rw [show (Addr.mk w.heap.size 0 none).add 0 = ⟨w.heap.size, 0, none⟩ from rfl, cell_of_row _ _ _ _ _ _ (heap_alloc_new w _)]
  rfl
theorem bs_two (w : World) (o : Obj) (x : Nat) (hx : x < 256) (fz : Nat × Nat) : Bs ((w.alloc o).alloc (.cells #[.int .u8 (x : Int)] 5 fz)) (w.heap.size + 2) (some ⟨w.heap.size + 1, 0, none⟩) [x] := by
  have h := bs_one (w.alloc o) x hx fz
  rw [show (w.alloc o).heap.size = w.heap.size + 1 from by simp] at h
  exact h
theorem below_alloc (w : World) (o : Obj) : Below w.heap.size w (w.alloc o) := (Below.refl _ w).alloc (Nat.le_refl _) o
theorem home_lit (x : Int) (hx : x = ((9223372036854775808 : Nat) : Int)) (w : World) : Calls Try.prog 10 #[.int .u64 x, .int .i64 1] w fun e w' => e = .returned (.int .i64 1) ∧ w = w' := by
  subst hx
  have h := home_any 9223372036854775808 (by decide) 1 w
  rw [show Key.home 9223372036854775808 1 = 1 from by decide] at h
  exact h
theorem row_lit (x : Int) (hx : x = ((64 : Nat) : Int)) (w : World) : Calls Try.prog 11 #[.int .u64 x, .int .i64 1] w fun e w' => e = .returned (.int .i64 1) ∧ w = w' := by
  subst hx
  have h := row_any 64 (by decide) 1 w
  rw [show Key.row 64 1 = 1 from by decide] at h
  exact h
set_option maxRecDepth 100000 in
set_option maxHeartbeats 400000 in
theorem awake_any (w : World) : Calls Try.prog 7 #[] w fun e w' => e = .returned (.bool true) ∧ Below w.heap.size w w' := by
  have kc := fun (w : World) (C : Array Value) (n c : Nat) => Lib.run_convert_bytes_const (P := Try.prog) w 22 5 C n c Try.underlying22 Try.underlying5
  have kc2 : ∀ (o : Obj) (C : Array Value) (n c : Nat), _ := fun o C n c => kc (w.alloc o) C n c
  have hs2 : ∀ o : Obj, (w.alloc o).heap.size = w.heap.size + 1 := fun o => by simp
  simp only [hs2] at kc2
  clear hs2
  go_enter Try.func7, Try.ntmps7
  go_wp2_with fail
  refine (hash_any _ _ _ 1 [97] _ rfl (by omega) (bs_one w 97 (by decide) _)).mono ?_
  rintro e w1 ⟨rfl, rfl⟩
  go_wp2_with fail
  refine (refhash_any _ _ _ 1 [97] _ rfl (by omega) (bs_two w _ 97 (by decide) _)).mono ?_
  rintro e w1 ⟨rfl, rfl⟩
  go_wp2_with fail
  refine (home_lit _ rfl _).mono ?_
  rintro e w1 ⟨rfl, rfl⟩
  go_wp2_with fail
  refine (row_lit _ rfl _).mono ?_
  rintro e w1 ⟨rfl, rfl⟩
  go_wp2
  go_ret
  exact ⟨rfl, (below_alloc _ _).trans ((below_alloc _ _).mono (below_alloc w _).size)⟩
set_option maxRecDepth 100000 in
set_option maxHeartbeats 400000 in
theorem hashkey_any (A : Option Addr) (n cap : Nat) (l : List Nat) (w : World) (hA : A = none → cap = 0 ∧ n = 0) (hl : Hid (l.length = n)) (hn : n ≤ cap) (hcap : cap ≤ 9223372036854775807) (hb : Hid (Bs w w.heap.size A l)) :
    Calls Try.prog 3 #[.slice A n cap] w fun e w' => e = .returned (.bool true) ∧ Below w.heap.size w w' := by
  obtain ⟨m, l', hm, hl', hb', hm3⟩ := cutk hl.out hb.out 300
  have hmx : m ≤ 9223372036854775807 := by omega
  rcases hm with ⟨h, rfl⟩ | ⟨h, rfl⟩
  all_goals
    go_enter Try.func3, Try.ntmps3
    go_wp2_with fail
    refine (awake_any _).mono ?_
    rintro e w1 ⟨rfl, hb1⟩
    have hbs : Hid (Bs w1 w.heap.size A l') := hb'.out.below hb1 (Nat.le_refl _)
    have HB := Lib.hid hb1; clear hb1
    go_wp2_with fail
    refine (hash_any A w.heap.size cap _ l' w1 hl' hmx hbs).mono ?_
    rintro e w2 ⟨rfl, rfl⟩
    go_wp2_with fail
    refine (refhash_any A w.heap.size cap _ l' w1 hl' hmx hbs).mono ?_
    rintro e w2 ⟨rfl, rfl⟩
    go_wp2
    go_ret
    exact ⟨rfl, HB.out⟩
set_option maxRecDepth 100000 in
set_option maxHeartbeats 400000 in
theorem hashplaces_any (N : Nat) (hN : N < 18446744073709551616) (n : Int) (w : World) :
    Calls Try.prog 4 #[.int .u64 (N : Int), .int .i64 n] w fun e w' => e = .returned (.bool true) ∧ Below w.heap.size w w' := by
  have h1 : ((Key.home N n : Nat) : Int) < 1073741824 := by have := Key.home_lt N n hN; omega
  have h2 : ((Key.row N n : Nat) : Int) < 64 := by have := Key.row_lt N n; omega
  generalize HG : Key.home N n = a at h1
  generalize HR : Key.row N n = b at h2
  have HG' := Lib.hid HG; clear HG
  have HR' := Lib.hid HR; clear HR
  go_enter Try.func4, Try.ntmps4
  go_wp2_with fail
  refine (home_any N hN n _).mono ?_
  rintro e w1 ⟨rfl, rfl⟩
  rw [HG'.out]
  go_wp2_with fail
  refine (row_any N hN n _).mono ?_
  rintro e w1 ⟨rfl, rfl⟩
  rw [HR'.out]
  go_wp2_with fail
  refine (awake_any _).mono ?_
  rintro e w1 ⟨rfl, hb1⟩
  have HB := Lib.hid hb1; clear hb1
  go_wp2_with fail
  refine (refhome_any N hN n _).mono ?_
  rintro e w2 ⟨rfl, rfl⟩
  rw [HG'.out]
  go_wp2_with fail
  refine (refrow_any N hN n _).mono ?_
  rintro e w2 ⟨rfl, rfl⟩
  rw [HR'.out]
  go_wp2
  go_ret
  exact ⟨rfl, HB.out⟩
end Go.Proofs.Ytoejmgfmpbpinaa
