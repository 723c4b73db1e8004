/-
  The walks of record's fields, put and checksum: the head's numbers, their bytes, the checksum of parts.
-/
import Derived.Test.YtnadbokhcmbcaaaDoorRecWords
import Derived.Test.YtnadbokhcmbcaaaDoorBase
namespace Go.Proofs.YtnadbokhcmbcaaaDoor
open Go.RowKit

/-- Fields as cells: two numbers each. -/
def fcells (fs : List (Nat × Nat)) : List Value := fs.flatMap fun f => [.int .i64 (f.1 : Int), .int .i64 (f.2 : Int)]
/-- A block of fields. -/
def Fds (w : World) (g : Nat) (fs : List (Nat × Nat)) : Prop := w.heap[g]? = some (.cells (fcells fs).toArray 63 (0, 0))
theorem fcells_at (fs : List (Nat × Nat)) (k : Nat) (hk : k < fs.length) : (fcells fs)[2 * k]? = some (.int .i64 ((fs.getD k (0, 0)).1 : Int)) ∧ (fcells fs)[2 * k + 1]? = some (.int .i64 ((fs.getD k (0, 0)).2 : Int)) := by
  induction fs generalizing k with
  | nil => simp at hk
  | cons f fs ih =>
    have e : fcells (f :: fs) = .int .i64 (f.1 : Int) :: .int .i64 (f.2 : Int) :: fcells fs := by unfold fcells; rw [List.flatMap_cons]; rfl
    rw [e]
    cases k with
    | zero => exact ⟨rfl, rfl⟩
    | succ k =>
      have h := ih k (by simpa using hk)
      rw [show 2 * (k + 1) = 2 * k + 1 + 1 by omega]
      exact h
theorem Fds.cells {w : World} {g : Nat} {fs : List (Nat × Nat)} (h : Fds w g fs) (k : Nat) (hk : k < fs.length) :
    w.cell? ⟨g, k * 2, none⟩ = some (.int .i64 ((fs.getD k (0, 0)).1 : Int)) ∧ w.cell? ⟨g, k * 2 + 1, none⟩ = some (.int .i64 ((fs.getD k (0, 0)).2 : Int)) := by
  obtain ⟨h1, h2⟩ := fcells_at fs k hk
  refine ⟨?_, ?_⟩
  · rw [cell_of_row w g _ _ _ (0, 0) h]
    rw [List.getElem?_toArray, Nat.mul_comm]; exact h1
  · rw [cell_of_row w g _ _ _ (0, 0) h]
    rw [List.getElem?_toArray, Nat.mul_comm]; exact h2
theorem fields1_any (kd xp : Nat) (A : Option Addr) (n c : Nat) (A' : Option Addr) (n' c' : Nat) (w : World) :
    Calls Tryd.prog 26 #[.int .i64 1, .agg #[.int .i64 (kd : Int), .slice A n c, .slice A' n' c', .int .i64 (xp : Int)]] w fun e w' => ∃ g, e = .returned (.slice (some ⟨g, 0, none⟩) 6 6) ∧ Fds w' g [(161, 1), (kd, 1), (n, 1), (0, 1), (n', 4), (xp, 4)] ∧ w.heap.size ≤ g ∧ g < w'.heap.size ∧ Below w.heap.size w w' := by
  go_enter Tryd.func26, Tryd.ntmps26
  go_wp2
  go_quiet (fail)
  go_wp2
  go_ret
  refine ⟨_, rfl, ?_, ?_, ?_, ?_⟩
  · show _ = _
    refine (alloc_at (by simp)).trans ?_
    rfl
  · simp
  · simp
  · exact (below_drawn ((Below.refl _ _).alloc (Nat.le_refl _) _) _).alloc (by simp) _
theorem fields2_any (kd xp : Nat) (hk : kd ≤ 3) (A : Option Addr) (n c : Nat) (A' : Option Addr) (n' c' : Nat) (w : World) :
    Calls Tryd.prog 26 #[.int .i64 2, .agg #[.int .i64 (kd : Int), .slice A n c, .slice A' n' c', .int .i64 (xp : Int)]] w fun e w' => ∃ g, e = .returned (.slice (some ⟨g, 0, none⟩) 6 6) ∧ Fds w' g [(162, 1), (n, 1), (16 * kd, 1), (n', 3), (0, 1), (xp, 5)] ∧ w.heap.size ≤ g ∧ g < w'.heap.size ∧ Below w.heap.size w w' := by
  go_enter Tryd.func26, Tryd.ntmps26
  go_wp2
  go_quiet (fail)
  go_wp2
  go_ret
  refine ⟨_, rfl, ?_, ?_, ?_, ?_⟩
  · show _ = _
    refine (alloc_at (by simp)).trans ?_
    simp [fcells]
  · simp
  · simp
  · exact (below_drawn ((Below.refl _ _).alloc (Nat.le_refl _) _) _).alloc (by simp) _
theorem flat_snoc (fs : List (Nat × Nat)) (k : Nat) (hk : k < fs.length) : Rc.flat (fs.take (k + 1)) = Rc.flat (fs.take k) ++ Wire.be (fs.getD k (0, 0)).2 (fs.getD k (0, 0)).1 := by
  rw [List.take_succ_eq_append_getElem hk, Rc.flat_append, Rc.flat_cons, Rc.flat_nil, List.append_nil, List.getD_eq_getElem?_getD, List.getElem?_eq_getElem hk]; rfl
theorem flat_short (fs : List (Nat × Nat)) (h : ∀ f ∈ fs, f.2 ≤ 8) : (Rc.flat fs).length ≤ 8 * fs.length := by
  induction fs with
  | nil => simp [Rc.flat]
  | cons f fs ih =>
    rw [Rc.flat_cons, List.length_append, Wire.be_length, List.length_cons]
    have h1 := ih fun x hx => h x (List.mem_cons_of_mem _ hx)
    have h2 := h f (List.mem_cons_self ..)
    omega
theorem put_any (g : Nat) (fs : List (Nat × Nat)) (n c : Nat) (w : World) (hf : Hid (Fds w g fs)) (hn : Hid (fs.length = n)) (hg : g < w.heap.size) (hw : Hid (∀ f ∈ fs, 1 ≤ f.2 ∧ f.2 ≤ 8 ∧ f.1 < 9223372036854775808)) (h100 : n ≤ 100) (hc : n ≤ c) (hcm : c ≤ 9223372036854775807) :
    Calls Tryd.prog 25 #[.slice (some ⟨g, 0, none⟩) n c] w (DidPut w (Rc.flat fs)) := by
  go_enter Tryd.func25, Tryd.ntmps25
  go_wp2
  go_loopw [3, 5, 8] (fun bv _ iv wr => ∃ k : Nat, k ≤ n ∧ iv = .int .i64 (k : Int) ∧ Hid (wr.ownsRow w.heap.size 5 1 bv (Rc.flat (fs.take k)).length (vals (Rc.flat (fs.take k)))) ∧ Hid (Below w.heap.size w wr)) (fun _ _ i _ => n - (intOf i).toNat)
  case atStart => exact ⟨0, Nat.zero_le _, rfl, World.ownsRow_nil _ _ _ _, Below.refl _ _⟩
  case round =>
    obtain ⟨k, hk, rfl, hown, hbel⟩ := hrel
    by_cases hlt : k < n
    · obtain ⟨A1, c1, rfl, hbs, hlen, hnc, hcm1, hA1⟩ := own_bytes hown.out (Rc.flat_lt _)
      have hfr : Fds wr g fs := (hbel.out.block g hg).trans hf.out
      obtain ⟨z0, z1⟩ := hfr.cells k (by rw [hn.out]; exact hlt)
      have hmem : fs.getD k (0, 0) ∈ fs := by
        rw [List.getD_eq_getElem?_getD, List.getElem?_eq_getElem (by rw [hn.out]; exact hlt)]
        exact List.getElem_mem _
      obtain ⟨hm1, hm8, hN⟩ := hw.out _ hmem
      have HS := Lib.hid (flat_snoc fs k (by rw [hn.out]; exact hlt))
      generalize (fs.getD k (0, 0)).1 = N at *
      generalize (fs.getD k (0, 0)).2 = m at *
      have HR : Hid (∀ o, Bs (wr.alloc o) (wr.alloc o).heap.size A1 (Rc.flat (fs.take k)) ∧ Below w.heap.size w (wr.alloc o)) := fun o =>
        ⟨(hbs.below ((Below.refl _ wr).alloc (Nat.le_refl _) o) (Nat.le_refl _)).more ((Below.refl _ wr).alloc (Nat.le_refl _) o).size, hbel.out.alloc hbel.out.size o⟩
      have HA : Hid (A1 = none → c1 = 0 ∧ (Rc.flat (fs.take k)).length = 0) := fun e => by
        rcases hA1 with ⟨_, h1, h2⟩ | ⟨g1, h1, _⟩
        · exact ⟨h2, h1⟩
        · rw [h1] at e; cases e
      have HLn : Hid ((Rc.flat (fs.take k)).length ≤ 70368744177664) := by
        have := flat_short (fs.take k) (fun f hf => (hw.out f (List.mem_of_mem_take hf)).2.1)
        rw [List.length_take] at this
        show _ ≤ _
        omega
      generalize hp : Rc.flat (fs.take k) = p at *
      have HP := Lib.hid hp
      clear hp hbs hown hA1 hlen hnc hcm1 hmem
      go_wp2_with fail
      refine (put_ok A1 _ _ c1 p N m _ rfl _ HA.out rfl HLn.out (Lib.hid (HR.out _).1) hm1 hm8).mono ?_
      rintro e w2 ⟨v, rfl, hown2, hb2⟩
      have HB2 : Hid (Below w.heap.size w w2) := (HR.out _).2.trans (hb2.mono (HR.out _).2.size)
      have HO2 := Lib.hid (ownsRow_mono hown2 (HR.out _).2.size)
      clear hown2 hb2
      go_wp2
      go_roundw
      case rel =>
        refine ⟨k + 1, by omega, by go_num, ?_, HB2⟩
        rw [HS.out]
        exact HO2
      case measure => simp [intOf]; omega
    · go_wp2
      go_ret
      rw [List.take_of_length_le (by rw [hn.out]; omega)] at hown
      exact ⟨_, rfl, hown.out, hbel.out⟩
/-- Parts in memory: slices of bytes, each of which is read below block B. -/
def Parts (w : World) (B g : Nat) (ps : List (List Nat)) : Prop := ∀ k, k < ps.length → ∃ A n c, w.cell? ⟨g, k, none⟩ = some (.slice A n c) ∧ SlIs A n c ∧ (ps.getD k []).length = n ∧ Bs w B A (ps.getD k [])
theorem Parts.below {w w' : World} {B C g : Nat} {ps : List (List Nat)} (h : Parts w B g ps) (hb : Below C w w') (hB : B ≤ C) (hg : g < C) : Parts w' B g ps := fun k hk => by
  obtain ⟨A, n, c, h1, h2, h3, h4⟩ := h k hk
  exact ⟨A, n, c, (hb.cell (p := ⟨g, k, none⟩) hg).trans h1, h2, h3, h4.below hb hB⟩
theorem upd_snoc (ps : List (List Nat)) (k : Nat) (hk : k < ps.length) : Crc.upd 0#32 (ps.take (k + 1)).flatten = Crc.upd (Crc.upd 0#32 (ps.take k).flatten) (ps.getD k []) := by
  rw [List.take_succ_eq_append_getElem hk, List.flatten_append, Crc.upd_append, List.getD_eq_getElem?_getD, List.getElem?_eq_getElem hk]
  simp
theorem checksum_any (g B : Nat) (ps : List (List Nat)) (n c : Nat) (w : World) (hp : Hid (Parts w B g ps)) (hn : Hid (ps.length = n)) (hc : n ≤ c) (hcm : c ≤ 9223372036854775807) (ht : Hid (TabW w)) :
    Calls Tryd.prog 27 #[.slice (some ⟨g, 0, none⟩) n c] w fun e w' => e = .returned (.int .u32 (Crc.U (Crc.upd 0#32 ps.flatten) : Int)) ∧ w = w' := by
  have h0 : Hid (((Crc.U (Crc.upd 0#32 ([] : List Nat)) : Nat) : Int) = 0) := by
    show _ = _
    rw [Crc.upd_nil]; rfl
  go_enter Tryd.func27, Tryd.ntmps27
  go_wp2
  go_loop [3, 5, 8] (fun sv _ iv => ∃ k : Nat, k ≤ n ∧ iv = .int .i64 (k : Int) ∧ sv = .int .u32 (Crc.U (Crc.upd 0#32 (ps.take k).flatten) : Int)) (fun _ _ i => n - (intOf i).toNat)
  case atStart => exact ⟨0, Nat.zero_le _, rfl, congrArg (Value.int IntKind.u32) h0.out.symm⟩
  case round =>
    obtain ⟨k, hk, rfl, rfl⟩ := hrel
    by_cases hlt : k < n
    · obtain ⟨A, m, c', z, hs, hl, hb⟩ := hp.out k (by rw [hn.out]; exact hlt)
      have HS := Lib.hid (upd_snoc ps k (by rw [hn.out]; exact hlt))
      generalize ps.getD k [] = p at hl hb HS
      have HL := Lib.hid hl
      have HB := Lib.hid hb
      have HM : m ≤ 9223372036854775807 := by have := hs.2; omega
      clear hl hb hs
      generalize hq : Crc.upd 0#32 (ps.take k).flatten = q at HS
      have HQ := Lib.hid hq; clear hq
      go_wp2_with fail
      refine (update_any _ q rfl A B c' m p _ HL HM HB ht).mono ?_
      rintro e w' ⟨rfl, rfl⟩
      go_wp2
      go_round
      case rel => exact ⟨k + 1, by omega, by go_num, by rw [HS.out]⟩
      case measure => simp [intOf]; omega
    · go_wp2
      go_ret
      refine ⟨?_, rfl⟩
      rw [List.take_of_length_le (by rw [hn.out]; omega)]
      rfl
end Go.Proofs.YtnadbokhcmbcaaaDoor
