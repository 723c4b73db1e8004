/-
  The walk of record.Encode.
-/
import Derived.Test.YtnadbokhcmbcaaaDoorRecConcat
namespace Go.Proofs.YtnadbokhcmbcaaaDoor
open Go.RowKit

theorem fields_any (v kd x : Int) (key val : List Nat) (A : Option Addr) (n c : Nat) (A' : Option Addr) (n' c' : Nat) (w : World) (h : Rc.check v ⟨kd, key, val, x⟩ = 0) (hn : key.length = n) (hn' : val.length = n') :
    Calls Tryd.prog 26 #[.int .i64 v, .agg #[.int .i64 kd, .slice A n c, .slice A' n' c', .int .i64 x]] w fun e w' => ∃ g, e = .returned (.slice (some ⟨g, 0, none⟩) 6 6) ∧ Fds w' g (Rc.fields v ⟨kd, key, val, x⟩) ∧ w.heap.size ≤ g ∧ g < w'.heap.size ∧ Below w.heap.size w w' := by
  obtain ⟨hv, _, h255, hm, hx, hxm, hk1, hk3⟩ := Rc.chk_ok h
  subst hn hn'
  obtain ⟨k, rfl⟩ : ∃ k : Nat, kd = (k : Int) := ⟨kd.toNat, by show kd = _; simp only at hk1; omega⟩
  obtain ⟨y, rfl⟩ : ∃ y : Nat, x = (y : Int) := ⟨x.toNat, by show x = _; simp only at hx; omega⟩
  rcases hv with rfl | rfl
  · exact fields1_any k y A _ c A' _ c' w
  · exact fields2_any k y (by simp only at hk3; omega) A _ c A' _ c' w
theorem fields_len (v : Int) (r : Rc.Rec) : (Rc.fields v r).length = 6 := by unfold Rc.fields; split <;> rfl
theorem fields_fit (v : Int) (r : Rc.Rec) (h : Rc.check v r = 0) : ∀ f ∈ Rc.fields v r, 1 ≤ f.2 ∧ f.2 ≤ 8 ∧ f.1 < 9223372036854775808 := by
  obtain ⟨hv, _, h255, hm, hx, hxm, hk1, hk3⟩ := Rc.chk_ok h
  have hml := Rc.most_le v
  intro f hf
  unfold Rc.fields at hf
  rcases hv with rfl | rfl
  · rw [if_pos rfl] at hf
    simp only [List.mem_cons, List.not_mem_nil, or_false] at hf
    rcases hf with rfl | rfl | rfl | rfl | rfl | rfl <;> simp only <;> omega
  · rw [if_neg (by decide)] at hf
    simp only [List.mem_cons, List.not_mem_nil, or_false] at hf
    rcases hf with rfl | rfl | rfl | rfl | rfl | rfl <;> simp only <;> omega
/-- Four slices laid as a row of parts. -/
theorem parts4 {w : World} {B : Nat} {t : TypeId} {A1 A2 A3 A4 : Option Addr} {n1 n2 n3 n4 c1 c2 c3 c4 : Nat} {p1 p2 p3 p4 : List Nat} (hB : B ≤ w.heap.size)
    (h1 : SlIs A1 n1 c1 ∧ p1.length = n1 ∧ Bs w B A1 p1) (h2 : SlIs A2 n2 c2 ∧ p2.length = n2 ∧ Bs w B A2 p2) (h3 : SlIs A3 n3 c3 ∧ p3.length = n3 ∧ Bs w B A3 p3) (h4 : SlIs A4 n4 c4 ∧ p4.length = n4 ∧ Bs w B A4 p4) :
    Parts (w.alloc (.cells #[.slice A1 n1 c1, .slice A2 n2 c2, .slice A3 n3 c3, .slice A4 n4 c4] t)) B w.heap.size [p1, p2, p3, p4] := by
  have hb : Below B w (w.alloc (.cells #[.slice A1 n1 c1, .slice A2 n2 c2, .slice A3 n3 c3, .slice A4 n4 c4] t)) := ((Below.refl _ w).alloc (Nat.le_refl _) _).mono hB
  obtain ⟨z0, z1, z2, z3⟩ := four_cells (heap_alloc_new w (.cells #[.slice A1 n1 c1, .slice A2 n2 c2, .slice A3 n3 c3, .slice A4 n4 c4] t))
  intro k hk
  have hk4 : k < 4 := hk
  obtain rfl | rfl | rfl | rfl : k = 0 ∨ k = 1 ∨ k = 2 ∨ k = 3 := by omega
  · exact ⟨A1, n1, c1, z0, h1.1, h1.2.1, h1.2.2.below hb (Nat.le_refl _)⟩
  · exact ⟨A2, n2, c2, z1, h2.1, h2.2.1, h2.2.2.below hb (Nat.le_refl _)⟩
  · exact ⟨A3, n3, c3, z2, h3.1, h3.2.1, h3.2.2.below hb (Nat.le_refl _)⟩
  · exact ⟨A4, n4, c4, z3, h4.1, h4.2.1, h4.2.2.below hb (Nat.le_refl _)⟩
theorem encode_bad (v seq off kd x : Int) (A : Option Addr) (n c : Nat) (A' : Option Addr) (n' c' : Nat) (w : World) (h : Rc.chk v kd n n' x ≠ 0 ∨ ¬ Rc.place seq off) :
    Calls Tryd.prog 17 #[.int .i64 v, .int .i64 seq, .int .i64 off, .agg #[.int .i64 kd, .slice A n c, .slice A' n' c', .int .i64 x]] w fun e w' => e = .returned (.tuple #[.slice none 0 0, .int .i64 (if Rc.chk v kd n n' x ≠ 0 then Rc.chk v kd n n' x else 2)]) ∧ Below w.heap.size w w' := by
  have HB : Hid (∀ o, Below w.heap.size w (w.alloc o)) := fun o => (Below.refl _ _).alloc (Nat.le_refl _) o
  have HC := fun W => Lib.hid (check_any v kd A n c A' n' c' x W)
  by_cases he : Rc.chk v kd n n' x = 0
  · rw [if_neg (by rw [he]; decide)]
    rw [he] at HC
    have hp : ¬ Rc.place seq off := by
      rcases h with h | h
      · exact absurd he h
      · exact h
    have hp' : decide (seq < 0) = true ∨ (decide (seq < 0) = false ∧ (decide (off < 0) = true ∨ (decide (off < 0) = false ∧ decide (2147483647 < off) = true))) := by
      unfold Rc.place at hp
      simp
      omega
    clear he h hp
    rcases hp' with f1 | ⟨f1, f2 | ⟨f2, f3⟩⟩
    all_goals
      go_enter Tryd.func17, Tryd.ntmps17
      go_wp2_with fail
      refine (HC _).out.mono ?_
      rintro e w1 ⟨rfl, hb⟩
      have HB1 := Lib.hid hb; clear hb
      go_wp2
      go_ret2
      exact ⟨rfl, (HB.out _).trans (HB1.out.mono (HB.out _).size)⟩
  · rw [if_pos he]
    have f1 : (Rc.chk v kd n n' x != 0) = true := by rw [bne_iff_ne]; exact he
    generalize Rc.chk v kd n n' x = q at HC f1
    clear he h
    go_enter Tryd.func17, Tryd.ntmps17
    go_wp2_with fail
    refine (HC _).out.mono ?_
    rintro e w1 ⟨rfl, hb⟩
    have HB1 := Lib.hid hb; clear hb
    go_wp2
    go_ret2
    exact ⟨rfl, (HB.out _).trans (HB1.out.mono (HB.out _).size)⟩
/-- What Encode leaves: the record's bytes, in a row of its own. -/
def Encoded (w : World) (l : List Nat) (e : Ending) (w' : World) : Prop :=
  ∃ v, e = .returned (.tuple #[v, .int .i64 0]) ∧ w'.ownsRow w.heap.size 5 1 v l.length (vals l) ∧ Below w.heap.size w w'
/-- A call behind a new block, in a world that has the memory of another. -/
theorem step_alloc {w3 W W5 : World} {o : Obj} (e1 : W.heap = (w3.alloc o).heap) (e2 : W.os = w3.os) (e3 : W.tape = w3.tape) (e4 : W.output = w3.output) (hb : Below W.heap.size W W5) : Below w3.heap.size w3 W5 := by
  have hs : W.heap.size = w3.heap.size + 1 := by
    rw [e1]
    show (w3.heap.push o).size = _
    rw [Array.size_push]
  refine ⟨hb.os.trans e2, hb.tape.trans e3, hb.output.trans e4, by have := hb.size; omega, fun b hlt => ?_⟩
  rw [hb.block b (by omega), e1, heap_alloc_old w3 o hlt]
theorem put_at (w3 : World) (fs : List (Nat × Nat)) (n : Nat) (cs : Array Value) (hcs : cs = (fcells fs).toArray) (hn : fs.length = n) (hfit : ∀ f ∈ fs, 1 ≤ f.2 ∧ f.2 ≤ 8 ∧ f.1 < 9223372036854775808) (h100 : n ≤ 100) (W : World)
    (e1 : W.heap = (w3.alloc (.cells cs 63)).heap) (e2 : W.os = w3.os) (e3 : W.tape = w3.tape) (e4 : W.output = w3.output) :
    Calls Tryd.prog 25 #[.slice (some ⟨w3.heap.size, 0, none⟩) n n] W fun e w5 => ∃ A5 k5, e = .returned (.slice A5 (Rc.flat fs).length k5) ∧ (SlIs A5 (Rc.flat fs).length k5 ∧ (Rc.flat fs).length = (Rc.flat fs).length ∧ Bs w5 w5.heap.size A5 (Rc.flat fs)) ∧ Below w3.heap.size w3 w5 := by
  have hf : Fds W w3.heap.size fs := by
    show _ = _
    rw [e1, heap_alloc_new w3 _, hcs]
  refine (put_any w3.heap.size fs n n W hf hn (Array.getElem?_eq_some_iff.1 hf).1 hfit h100 (Nat.le_refl _) (by omega)).mono ?_
  rintro e w5 ⟨v, rfl, hown, hb⟩
  obtain ⟨A5, k5, rfl, hbs, hl, hn5, hm5, ho5⟩ := own_bytes hown (Rc.flat_lt _)
  exact ⟨A5, k5, rfl, ⟨sl_own hn5 hm5 ho5, rfl, hbs⟩, step_alloc e1 e2 e3 e4 hb⟩
theorem Parts.heap {w w' : World} {B g : Nat} {ps : List (List Nat)} (h : Parts w B g ps) (e : w'.heap = w.heap) : Parts w' B g ps := fun k hk => by
  obtain ⟨A, n, c, h1, h2, h3, h4⟩ := h k hk
  refine ⟨A, n, c, (World.cell?_of_block (by rw [e])).trans h1, h2, h3, fun j hj => ?_⟩
  obtain ⟨a1, ad, a2, a3, a4⟩ := h4 j hj
  exact ⟨a1, ad, a2, a3, (World.cell?_of_block (by rw [e])).trans a4⟩
theorem checksum_at (w5 : World) (B : Nat) (ps : List (List Nat)) (n : Nat) (o : Obj) (hp : Parts (w5.alloc o) B w5.heap.size ps) (hn : ps.length = n) (h100 : n ≤ 100) (ht : TabW w5) (hz : 0 < w5.heap.size) (W : World)
    (e1 : W.heap = (w5.alloc o).heap) (e2 : W.os = w5.os) (e3 : W.tape = w5.tape) (e4 : W.output = w5.output) :
    Calls Tryd.prog 27 #[.slice (some ⟨w5.heap.size, 0, none⟩) n n] W fun e w6 => e = .returned (.int .u32 (Crc.U (Crc.upd 0#32 ps.flatten) : Int)) ∧ Below w5.heap.size w5 w6 := by
  have ht' : TabW W := fun k hk => (World.cell?_of_block (by rw [e1])).trans (tab_alloc ht hz o k hk)
  refine (checksum_any w5.heap.size B ps n n W (hp.heap e1) hn (Nat.le_refl _) (by omega) ht').mono ?_
  rintro e w6 ⟨rfl, rfl⟩
  exact ⟨rfl, step_alloc e1 e2 e3 e4 (Below.refl _ _)⟩
theorem concat_at (w5 : World) (B : Nat) (ps : List (List Nat)) (n : Nat) (o : Obj) (hp : Parts (w5.alloc o) B w5.heap.size ps) (hB : B ≤ w5.heap.size) (hn : ps.length = n) (h100 : n ≤ 100) (hs : ps.flatten.length ≤ 70368744177664) (W : World)
    (e1 : W.heap = (w5.alloc o).heap) (e2 : W.os = w5.os) (e3 : W.tape = w5.tape) (e4 : W.output = w5.output) :
    Calls Tryd.prog 28 #[.slice (some ⟨w5.heap.size, 0, none⟩) n n] W fun e w6 => ∃ v, e = .returned v ∧ w6.ownsRow w5.heap.size 5 1 v ps.flatten.length (vals ps.flatten) ∧ Below w5.heap.size w5 w6 := by
  have hsz : W.heap.size = w5.heap.size + 1 := by
    rw [e1]
    show (w5.heap.push o).size = _
    rw [Array.size_push]
  refine (concat_any w5.heap.size B ps n n W (hp.heap e1) (by omega) (by omega) hn h100 (Nat.le_refl _) (by omega) hs).mono ?_
  rintro e w6 ⟨v, rfl, hown, hb⟩
  exact ⟨v, rfl, ownsRow_mono hown (by omega), step_alloc e1 e2 e3 e4 hb⟩
set_option maxHeartbeats 1000000 in
theorem encode_ok (v seq off kd x : Int) (key val : List Nat) (A : Option Addr) (B n c : Nat) (A' : Option Addr) (n' c' : Nat) (w : World) (h : Rc.check v ⟨kd, key, val, x⟩ = 0) (hp : Rc.place seq off) (hB : B ≤ w.heap.size) (hsq : seq ≤ 9223372036854775807)
    (hk : Hid (SlIs A n c ∧ key.length = n ∧ Bs w B A key)) (hv : Hid (SlIs A' n' c' ∧ val.length = n' ∧ Bs w B A' val)) (ht : Hid (TabW w)) (hz : 0 < w.heap.size) :
    Calls Tryd.prog 17 #[.int .i64 v, .int .i64 seq, .int .i64 off, .agg #[.int .i64 kd, .slice A n c, .slice A' n' c', .int .i64 x]] w (Encoded w (Rc.enc v seq off ⟨kd, key, val, x⟩)) := by
  have HB : Hid (∀ o, Below w.heap.size w (w.alloc o)) := fun o => (Below.refl _ _).alloc (Nat.le_refl _) o
  have HC : Hid (∀ W, Calls Tryd.prog 13 #[.int .i64 v, .agg #[.int .i64 kd, .slice A n c, .slice A' n' c', .int .i64 x]] W fun e w' => e = .returned (.int .i64 0) ∧ Below W.heap.size W w') := fun W => by
    have h1 := check_any v kd A n c A' n' c' x W
    have h2 : Rc.chk v kd n n' x = 0 := by have := h; unfold Rc.check at this; rw [hk.out.2.1, hv.out.2.1] at this; exact this
    rwa [h2] at h1
  have HF : Hid (∀ W, Calls Tryd.prog 26 #[.int .i64 v, .agg #[.int .i64 kd, .slice A n c, .slice A' n' c', .int .i64 x]] W fun e w' => ∃ g, e = .returned (.slice (some ⟨g, 0, none⟩) 6 6) ∧ Fds w' g (Rc.fields v ⟨kd, key, val, x⟩) ∧ W.heap.size ≤ g ∧ g < w'.heap.size ∧ Below W.heap.size W w') := fun W => fields_any v kd x key val A n c A' n' c' W h hk.out.2.1 hv.out.2.1
  have HFIT := Lib.hid (fields_fit v ⟨kd, key, val, x⟩ h)
  have HFL := Lib.hid (fields_len v ⟨kd, key, val, x⟩)
  obtain ⟨hv12, -, hk255, hv65, -, -, -, -⟩ := Rc.chk_ok h
  have HLEN : Hid (n ≤ 255 ∧ n' ≤ 65536) := ⟨by rw [← hk.out.2.1]; exact hk255, by rw [← hv.out.2.1]; exact hv65⟩
  obtain ⟨p1, p2, p3⟩ := hp
  obtain ⟨sq, rfl⟩ : ∃ k : Nat, seq = (k : Int) := ⟨seq.toNat, by omega⟩
  obtain ⟨of, rfl⟩ : ∃ k : Nat, off = (k : Int) := ⟨off.toNat, by omega⟩
  have f1 : decide ((sq : Int) < 0) = false := by simp
  have f2 : decide ((of : Int) < 0) = false := by simp
  have f3 : decide ((2147483647 : Int) < (of : Int)) = false := by simp; omega
  have HSPOT : Hid (Rc.spot (sq : Int) (of : Int) = Rc.flat [(sq, 8), (of, 4)]) := rfl
  clear p1 p2 hv12 hk255 hv65 h
  go_enter Tryd.func17, Tryd.ntmps17
  go_wp2_with fail
  refine (HC.out _).mono ?_
  rintro e w1 ⟨rfl, hb⟩
  have HX1 := Lib.hid (boxed hb)
  obtain ⟨c0, c1, c2, c3⟩ := four_cells HX1.out
  have HB1 : Hid (Below w.heap.size w w1) := (HB.out _).trans (hb.mono (HB.out _).size)
  have HZ1 : Hid (w.heap.size < w1.heap.size) := (Array.getElem?_eq_some_iff.1 HX1.out).1
  clear hb
  go_wp2_with fail
  refine (HF.out _).mono ?_
  rintro e w2 ⟨g, rfl, hf, hg1, hg2, hb⟩
  have HX2 : Hid (w2.heap[w.heap.size]? = _) := (hb.block _ HZ1.out).trans HX1.out
  have HB2 : Hid (Below w.heap.size w w2) := HB1.out.trans (hb.mono HB1.out.size)
  have HFD := Lib.hid hf
  clear hb hf
  go_wp2_with fail
  refine (put_any g _ 6 6 w2 HFD HFL hg2 HFIT (by omega) (by omega) (by omega)).mono ?_
  rintro e w3 ⟨v3, rfl, hown3, hb⟩
  obtain ⟨A3, k3, rfl, hbs3, hl3, hn3, hm3, ho3⟩ := own_bytes hown3 (Rc.flat_lt _)
  have HX3 : Hid (w3.heap[w.heap.size]? = _) := (hb.block _ (Array.getElem?_eq_some_iff.1 HX2.out).1).trans HX2.out
  have HB3 : Hid (Below w.heap.size w w3) := HB2.out.trans (hb.mono HB2.out.size)
  have HHD : Hid (SlIs A3 (Rc.head v ⟨kd, key, val, x⟩).length k3 ∧ (Rc.head v ⟨kd, key, val, x⟩).length = (Rc.head v ⟨kd, key, val, x⟩).length ∧ Bs w3 w3.heap.size A3 (Rc.head v ⟨kd, key, val, x⟩)) := ⟨sl_own hn3 hm3 ho3, rfl, hbs3⟩
  clear hb hbs3 hl3 hn3 hm3 ho3 hown3 c0 c1 c2 c3 hg1 hg2 HFD
  obtain ⟨c0, c1, c2, c3⟩ := four_cells HX3.out
  have ht3 : Hid (TabW w3) := ht.out.below HB3.out hz
  have HK3 : Hid (SlIs A n c ∧ key.length = n ∧ Bs w3 w3.heap.size A key) := ⟨hk.out.1, hk.out.2.1, (hk.out.2.2.below HB3.out hB).more (Nat.le_trans hB HB3.out.size)⟩
  have HV3 : Hid (SlIs A' n' c' ∧ val.length = n' ∧ Bs w3 w3.heap.size A' val) := ⟨hv.out.1, hv.out.2.1, (hv.out.2.2.below HB3.out hB).more (Nat.le_trans hB HB3.out.size)⟩
  have HZ3 : Hid (0 < w3.heap.size ∧ w.heap.size < w3.heap.size) := ⟨Nat.lt_of_lt_of_le hz HB3.out.size, (Array.getElem?_eq_some_iff.1 HX3.out).1⟩
  have HHL : Hid ((Rc.flat (Rc.fields v ⟨kd, key, val, x⟩)).length = 12) := Rc.head_length v ⟨kd, key, val, x⟩
  have PUT2 := Lib.hid (put_at w3 [(sq, 8), (of, 4)] 2 #[.int .i64 (sq : Int), .int .i64 8, .int .i64 (of : Int), .int .i64 4] rfl rfl (fun f hf => by simp only [List.mem_cons, List.not_mem_nil, or_false] at hf; rcases hf with rfl | rfl <;> simp only <;> omega) (by omega))
  have HSL : Hid ((Rc.flat [(sq, 8), (of, 4)]).length = 12) := Rc.spot_length (sq : Int) (of : Int)
  have CS : Hid (∀ (w5 : World) (A5 : Option Addr) (k5 : Nat), Below w3.heap.size w3 w5 → SlIs A5 (Rc.flat [(sq, 8), (of, 4)]).length k5 ∧ (Rc.flat [(sq, 8), (of, 4)]).length = (Rc.flat [(sq, 8), (of, 4)]).length ∧ Bs w5 w5.heap.size A5 (Rc.flat [(sq, 8), (of, 4)]) → ∀ (W : World),
      W.heap = (w5.alloc (.cells #[.slice A5 (Rc.flat [(sq, 8), (of, 4)]).length k5, .slice A3 (Rc.flat (Rc.fields v ⟨kd, key, val, x⟩)).length k3, .slice A n c, .slice A' n' c'] 24)).heap → W.os = w5.os → W.tape = w5.tape → W.output = w5.output →
      Calls Tryd.prog 27 #[.slice (some ⟨w5.heap.size, 0, none⟩) 4 4] W fun e w6 => e = .returned (.int .u32 (Rc.sum v (sq : Int) (of : Int) ⟨kd, key, val, x⟩ : Int)) ∧ Below w5.heap.size w5 w6) := fun w5 A5 k5 hb hs W e1 e2 e3 e4 => by
    have h := checksum_at w5 w5.heap.size [Rc.flat [(sq, 8), (of, 4)], Rc.flat (Rc.fields v ⟨kd, key, val, x⟩), key, val] 4 _ (parts4 (Nat.le_refl _) hs ⟨HHD.out.1, rfl, (HHD.out.2.2.below hb (Nat.le_refl _)).more hb.size⟩ ⟨HK3.out.1, HK3.out.2.1, (HK3.out.2.2.below hb (Nat.le_refl _)).more hb.size⟩ ⟨HV3.out.1, HV3.out.2.1, (HV3.out.2.2.below hb (Nat.le_refl _)).more hb.size⟩) rfl (by omega) (ht3.out.below hb HZ3.out.1) (Nat.lt_of_lt_of_le HZ3.out.1 hb.size) W e1 e2 e3 e4
    have e : Crc.U (Crc.upd 0#32 [Rc.flat [(sq, 8), (of, 4)], Rc.flat (Rc.fields v ⟨kd, key, val, x⟩), key, val].flatten) = Rc.sum v (sq : Int) (of : Int) ⟨kd, key, val, x⟩ := by
      unfold Rc.sum Rc.spot Rc.head
      simp
    rwa [e] at h
  have HSUM : Hid (Rc.sum v (sq : Int) (of : Int) ⟨kd, key, val, x⟩ < 4294967296) := Crc.U_lt _
  generalize hsum : Rc.sum v (sq : Int) (of : Int) ⟨kd, key, val, x⟩ = sm at CS HSUM
  have HSM := Lib.hid hsum; clear hsum
  go_wp2_with fail
  go_region_held3 (fun W => W.cell? ⟨w.heap.size, 1, none⟩ = some (.slice A n c) ∧ W.cell? ⟨w.heap.size, 2, none⟩ = some (.slice A' n' c'))
    (first
      | go_keep
      | exact cells_12 HX5.out
      | exact cells_12 HX6.out)
    (first
      | (go_at_call 25; refine (PUT2.out _ (by rfl) (by rfl) (by rfl) (by rfl)).mono ?_; rintro e w5 ⟨A5, k5, rfl, hs5, hb5⟩; have HB5 := Lib.hid hb5; have HS5 := Lib.hid hs5; have HX5 : Hid (w5.heap[w.heap.size]? = _) := (hb5.block _ HZ3.out.2).trans HX3.out; clear hs5 hb5)
      | (go_at_call 27; refine (CS.out w5 A5 k5 HB5.out HS5.out _ (by rfl) (by rfl) (by rfl) (by rfl)).mono ?_; rintro e w6 ⟨rfl, hb6⟩; have HB6 : Hid (Below w3.heap.size w3 w6) := HB5.out.trans (hb6.mono HB5.out.size); have HX6 : Hid (w6.heap[w.heap.size]? = _) := (HB6.out.block _ HZ3.out.2).trans HX3.out; clear hb6))
  all_goals
    have HK6 : Hid (SlIs A n c ∧ key.length = n ∧ Bs w6 w6.heap.size A key) := ⟨HK3.out.1, HK3.out.2.1, (HK3.out.2.2.below HB6.out (Nat.le_refl _)).more HB6.out.size⟩
    have HV6 : Hid (SlIs A' n' c' ∧ val.length = n' ∧ Bs w6 w6.heap.size A' val) := ⟨HV3.out.1, HV3.out.2.1, (HV3.out.2.2.below HB6.out (Nat.le_refl _)).more HB6.out.size⟩
    have HHD6 : Hid (SlIs A3 (Rc.flat (Rc.fields v ⟨kd, key, val, x⟩)).length k3 ∧ (Rc.flat (Rc.fields v ⟨kd, key, val, x⟩)).length = (Rc.flat (Rc.fields v ⟨kd, key, val, x⟩)).length ∧ Bs w6 w6.heap.size A3 (Rc.flat (Rc.fields v ⟨kd, key, val, x⟩))) := ⟨HHD.out.1, rfl, (HHD.out.2.2.below HB6.out (Nat.le_refl _)).more HB6.out.size⟩
    have HBW : Hid (Below w.heap.size w w6) := HB3.out.trans (HB6.out.mono HB3.out.size)
    have HZ6 : Hid (w.heap.size < w6.heap.size) := Nat.lt_of_lt_of_le HZ3.out.2 HB6.out.size
    have PUT1 := Lib.hid (put_at w6 [(sm, 4)] 1 #[.int .i64 (IntKind.i64.wrap (sm : Int)), .int .i64 4] (by have := HSUM.out; rw [show IntKind.i64.wrap (sm : Int) = (sm : Int) by rw [IntKind.wrap_i64]; omega]; rfl) rfl (fun f hf => by have := HSUM.out; simp only [List.mem_cons, List.not_mem_nil, or_false] at hf; rcases hf with rfl; simp only; omega) (by omega))
    have CC : Hid (∀ (w7 : World) (A5 : Option Addr) (k5 : Nat), Below w6.heap.size w6 w7 → SlIs A5 (Rc.flat [(sm, 4)]).length k5 ∧ (Rc.flat [(sm, 4)]).length = (Rc.flat [(sm, 4)]).length ∧ Bs w7 w7.heap.size A5 (Rc.flat [(sm, 4)]) → ∀ (W : World),
        W.heap = (w7.alloc (.cells #[.slice A3 (Rc.flat (Rc.fields v ⟨kd, key, val, x⟩)).length k3, .slice A5 (Rc.flat [(sm, 4)]).length k5, .slice A n c, .slice A' n' c'] 24)).heap → W.os = w7.os → W.tape = w7.tape → W.output = w7.output →
        Calls Tryd.prog 28 #[.slice (some ⟨w7.heap.size, 0, none⟩) 4 4] W fun e w8 => ∃ u, e = .returned u ∧ w8.ownsRow w.heap.size 5 1 u (Rc.enc v (sq : Int) (of : Int) ⟨kd, key, val, x⟩).length (vals (Rc.enc v (sq : Int) (of : Int) ⟨kd, key, val, x⟩)) ∧ Below w6.heap.size w6 w8) := fun w7 A5 k5 hb hs W e1 e2 e3 e4 => by
      have e : [Rc.flat (Rc.fields v ⟨kd, key, val, x⟩), Rc.flat [(sm, 4)], key, val].flatten = Rc.enc v (sq : Int) (of : Int) ⟨kd, key, val, x⟩ := by
        unfold Rc.enc Rc.head
        rw [HSM.out]
        simp [Rc.flat]
      have h := concat_at w7 w7.heap.size [Rc.flat (Rc.fields v ⟨kd, key, val, x⟩), Rc.flat [(sm, 4)], key, val] 4 _ (parts4 (Nat.le_refl _) ⟨HHD6.out.1, rfl, (HHD6.out.2.2.below hb (Nat.le_refl _)).more hb.size⟩ hs ⟨HK6.out.1, HK6.out.2.1, (HK6.out.2.2.below hb (Nat.le_refl _)).more hb.size⟩ ⟨HV6.out.1, HV6.out.2.1, (HV6.out.2.2.below hb (Nat.le_refl _)).more hb.size⟩) (Nat.le_refl _) rfl (by omega)
        (by rw [e, Rc.enc_length]; unfold Rc.len; have := HLEN.out; rw [HK6.out.2.1, HV6.out.2.1]; omega) W e1 e2 e3 e4
      rw [e] at h
      refine h.mono ?_
      rintro e' w8 ⟨u, rfl, hown, hb8⟩
      exact ⟨u, rfl, ownsRow_mono hown (Nat.le_trans HBW.out.size hb.size), hb.trans (hb8.mono hb.size)⟩
    go_wp2_with fail
    go_region_held3 (fun W => W.cell? ⟨w.heap.size, 1, none⟩ = some (.slice A n c) ∧ W.cell? ⟨w.heap.size, 2, none⟩ = some (.slice A' n' c'))
      (first
        | go_keep
        | exact cells_12 HX6.out
        | exact cells_12 HX7.out
        | exact cells_12 HX8.out)
      (first
        | (go_at_call 25; refine (PUT1.out _ (by rfl) (by rfl) (by rfl) (by rfl)).mono ?_; rintro e w7 ⟨A7, k7, rfl, hs7, hb7⟩; have HB7 := Lib.hid hb7; have HS7 := Lib.hid hs7; have HX7 : Hid (w7.heap[w.heap.size]? = _) := (hb7.block _ HZ6.out).trans HX6.out; clear hs7 hb7)
        | (go_at_call 28; refine (CC.out w7 A7 k7 HB7.out HS7.out _ (by rfl) (by rfl) (by rfl) (by rfl)).mono ?_; rintro e w8 ⟨v8, rfl, hown8, hb8⟩; have HO8 := Lib.hid hown8; have HX8 : Hid (w8.heap[w.heap.size]? = _) := (hb8.block _ HZ6.out).trans HX6.out; have HB8 : Hid (Below w.heap.size w w8) := HBW.out.trans (hb8.mono HBW.out.size); clear hown8 hb8))
    all_goals
      go_wp2
      go_ret2
      exact ⟨_, rfl, HO8.out, HB8.out⟩
end Go.Proofs.YtnadbokhcmbcaaaDoor
