/-
  The texts GmOver, GmTaken, GmFree, GmSecs of this proof, one behind the other.
-/
import Derived.Test.YtepbdicglgjcjaaDoorFoldC
import Derived.OwnWalk
section
namespace Go.Proofs.YtepbdicglgjcjaaDoor
open Go.RowKit
theorem Sd2.drew {w W : World} {o0 o1 : Obj} (h : Sd2 w o0 o1 W) : Sd2 w o0 o1 W.drew := ⟨h.1, h.2.1, below_drawn h.2.2 1⟩
theorem over_bool (a : Sb.L) (i : Int) (b : Sb.L) (k : Int) : decide (Gm.over a i b k) = (decide (Gm.has a i) && (decide (Gm.has b k) && (decide (Gm.spot a i < Gm.spot b (k + 1)) && decide (Gm.spot b k < Gm.spot a (i + 1))))) := by
  simp only [← Bool.decide_and]
  rfl
theorem place_has {a b c d s k : Int} (h : Gm.has ⟨a, b, c, d⟩ s) (hk : k = s ∨ k = s + 1) (w : World) :
    Calls Tryd.prog 73 #[.agg #[.int .i64 a, .int .i64 b, .int .i64 c, .int .i64 d], .int .i64 k] w fun r w' => r = .returned (.int .i64 (Gm.spot ⟨a, b, c, d⟩ k)) ∧ Below w.heap.size w w' := by
  have h1 := h.2.1
  have h2 := h.2.2
  simp only at h2
  have h3 := Gm.spot_small h.1 (s := k) (by omega) (show k ≤ d by omega)
  exact gmplace_any a b c d k _ rfl h3.1 h3.2 w
end Go.Proofs.YtepbdicglgjcjaaDoor
end
section
set_option maxRecDepth 100000
namespace Go.Proofs.YtepbdicglgjcjaaDoor
open Go.RowKit
def rcs (r : Gm.R) : List Value := [.int .i64 r.ver, .int .i64 r.slot, .int .i64 r.lay, .int .i64 r.seq, .int .i64 r.tail, .int .i64 r.now, .int .i64 r.l.id, .int .i64 r.l.ver, .int .i64 r.l.rs, .int .i64 r.l.reg]
/-- Regions. -/
def regS : Shape Gm.R := ⟨rcs, Gm.R0, 10, fun _ => rfl, by decide, fun r u hu => by
  simp only [rcs, List.mem_cons, List.not_mem_nil, or_false] at hu
  rcases hu with rfl | rfl | rfl | rfl | rfl | rfl | rfl | rfl | rfl | rfl <;> rfl⟩
/-- The cells of one region of a slice, as a load spells them. -/
theorem regs_at {w : World} {lo B : Nat} {ad : Addr} {l : List Gm.R} (h : Arr regS w lo B (some ad) l) (k : Nat) (hk : k < l.length) (r : Gm.R) (e : l.getD k Gm.R0 = r) :
    w.cell? (ad.add (k * 10)) = some (.int .i64 r.ver) ∧ w.cell? ⟨(ad.add (k * 10)).block, (ad.add (k * 10)).off + 1, none⟩ = some (.int .i64 r.slot) ∧ w.cell? ⟨(ad.add (k * 10)).block, (ad.add (k * 10)).off + 2, none⟩ = some (.int .i64 r.lay) ∧ w.cell? ⟨(ad.add (k * 10)).block, (ad.add (k * 10)).off + 3, none⟩ = some (.int .i64 r.seq) ∧
    w.cell? ⟨(ad.add (k * 10)).block, (ad.add (k * 10)).off + 4, none⟩ = some (.int .i64 r.tail) ∧ w.cell? ⟨(ad.add (k * 10)).block, (ad.add (k * 10)).off + 5, none⟩ = some (.int .i64 r.now) ∧ w.cell? ⟨(ad.add (k * 10)).block, (ad.add (k * 10)).off + 6, none⟩ = some (.int .i64 r.l.id) ∧ w.cell? ⟨(ad.add (k * 10)).block, (ad.add (k * 10)).off + 7, none⟩ = some (.int .i64 r.l.ver) ∧
    w.cell? ⟨(ad.add (k * 10)).block, (ad.add (k * 10)).off + 8, none⟩ = some (.int .i64 r.l.rs) ∧ w.cell? ⟨(ad.add (k * 10)).block, (ad.add (k * 10)).off + 9, none⟩ = some (.int .i64 r.l.reg) := by
  have h4 : ∀ j v, (rcs r)[j]? = some v → w.cell? (ad.add (k * 10 + j)) = some v := fun j v hv => h.cell k hk j v (by rw [show l.getD k regS.z = r from e]; exact hv)
  have g : ∀ i, 0 < i → ∀ v, (rcs r)[i]? = some v → w.cell? ⟨(ad.add (k * 10)).block, (ad.add (k * 10)).off + i, none⟩ = some v := fun i hi v hv => by
    have := h4 i v hv
    rwa [at_field _ _ _ hi] at this
  exact ⟨h4 0 _ rfl, g 1 (by decide) _ rfl, g 2 (by decide) _ rfl, g 3 (by decide) _ rfl, g 4 (by decide) _ rfl, g 5 (by decide) _ rfl, g 6 (by decide) _ rfl, g 7 (by decide) _ rfl, g 8 (by decide) _ rfl, g 9 (by decide) _ rfl⟩
theorem ten_cells {w : World} {g : Nat} {a b c d e f h i j k : Value} {t : TypeId} (hk : w.heap[g]? = some (.cells #[a, b, c, d, e, f, h, i, j, k] t (0, 0))) :
    w.cell? ⟨g, 0, none⟩ = some a ∧ w.cell? ⟨g, 1, none⟩ = some b ∧ w.cell? ⟨g, 2, none⟩ = some c ∧ w.cell? ⟨g, 3, none⟩ = some d ∧ w.cell? ⟨g, 4, none⟩ = some e ∧ w.cell? ⟨g, 5, none⟩ = some f ∧ w.cell? ⟨g, 6, none⟩ = some h ∧ w.cell? ⟨g, 7, none⟩ = some i ∧ w.cell? ⟨g, 8, none⟩ = some j ∧ w.cell? ⟨g, 9, none⟩ = some k := by
  refine ⟨?_, ?_, ?_, ?_, ?_, ?_, ?_, ?_, ?_, ?_⟩ <;> (rw [cell_of_row _ _ _ _ _ _ hk]; rfl)
theorem one_cell {w : World} {g : Nat} {a : Value} {t : TypeId} (hk : w.heap[g]? = some (.cells #[a] t (0, 0))) : w.cell? ⟨g, 0, none⟩ = some a := by rw [cell_of_row _ _ _ _ _ _ hk]; rfl
theorem block_next {w w1 : World} {C g : Nat} {o : Obj} (h : w.heap[g]? = some o) (k : Below C w w1) (hg : g < C) : w1.heap[g]? = some o := (k.block g hg).trans h
theorem taken_all (l : Sb.L) (s : Int) (live : List Gm.R) (n : Nat) (h : live.length = n) : Gm.taken l s (live.take n) = Gm.taken l s live := by rw [List.take_of_length_le (by omega)]
theorem taken_hit (l : Sb.L) (s : Int) (live : List Gm.R) (k : Nat) (hk : k < live.length) (r : Gm.R) (e : live.getD k Gm.R0 = r) (h : decide (Gm.over l s r.l r.slot) = true) : Gm.taken l s live = true := by
  subst e
  unfold Gm.taken
  rw [List.any_eq_true]
  refine ⟨live.getD k Gm.R0, ?_, h⟩
  rw [List.getD_eq_getElem?_getD, List.getElem?_eq_getElem hk]
  exact List.getElem_mem hk
end Go.Proofs.YtepbdicglgjcjaaDoor
end
section
set_option maxRecDepth 100000
namespace Go.Proofs.YtepbdicglgjcjaaDoor
open Go.RowKit
def Gm.ints (l : List Nat) : List Int := l.map fun (k : Nat) => (k : Int)
theorem ints_append (a b : List Nat) : Gm.ints (a ++ b) = Gm.ints a ++ Gm.ints b := List.map_append ..
theorem ints_length (l : List Nat) : (Gm.ints l).length = l.length := List.length_map ..
/-- What Free returns: a row of its own. -/
def FreeIs (w : World) (l : List Nat) (r : Ending) (w' : World) : Prop := ∃ v, r = .returned v ∧ ARow intS 3 w' w.heap.size v l.length (Gm.ints l) ∧ Below w.heap.size w w'
theorem info_int : (Tryd.prog.info? 3).map (fun i => (i.zero, i.size, i.bytes)) = some (some (.int .i64 0), 1, 8) := by kernel_rfl
/-- 'append(s, k)' at whole numbers. -/
theorem wpList_append_int {w : World} {ops : Array Oper} {rest : List Oper} {o : Oper} {a : Act} {Q : Exit → Act → World → Prop} (hgd : o.guard = none) (s x : Operand)
    (ho : o.op = .call { callee := .builtin .append, args := #[s, x], argTypes := #[44, 44] })
    (base n g c : Nat) (v : Value) (l : List Int) (p : Int) (hs : a.eval s = v) (hown : ARow intS 3 w base v n l) (hx : a.eval x = .slice (some ⟨g, 0, none⟩) 1 c) (hg : w.heap[g]? = some (.cells #[.int .i64 p] 3 (0, 0))) (hn : n ≤ 1000000) (hbase : base ≤ w.heap.size)
    (h : ∀ v' w', ARow intS 3 w' base v' (n + 1) (l ++ [p]) → Below base w w' → wpList Tryd.prog ops Q rest (a.put o.dst v') w') : wpList Tryd.prog ops Q (o :: rest) a w :=
  wpList_append_arr (S := intS) 44 Tryd.underlying44 info_int rfl hgd s x ho g c p hs hown hx hg (by unfold maxLen; omega) (by omega) hbase fun v' w' h1 h2 _ => h v' w' h1 h2
theorem ARow.mono {α : Type} {S : Shape α} {t : TypeId} {w : World} {b b' n : Nat} {v : Value} {l : List α} (h : ARow S t w b v n l) (hb : b' ≤ b) : ARow S t w b' v n l := ownsRow_mono h hb
theorem free_none {t : Sb.L} (h : ¬ Sb.form t) (live : List Gm.R) : Gm.free t live = [] := if_neg h
end Go.Proofs.YtepbdicglgjcjaaDoor
end
section
set_option maxRecDepth 100000
namespace Go.Proofs.YtepbdicglgjcjaaDoor
open Go.RowKit
/-- What Sectors returns for a slot that there is: a row of its own. -/
def SecsHas (w : World) (l : List Int) (n : Nat) (r : Ending) (w' : World) : Prop := ∃ g c, r = .returned (.slice (some ⟨g, 0, none⟩) n c) ∧ SlIs (some ⟨g, 0, none⟩) n c ∧ Arr intS w' w.heap.size w'.heap.size (some ⟨g, 0, none⟩) l ∧ Below w.heap.size w w'
set_option maxHeartbeats 2000000 in
theorem refints_any (A A' : Option Addr) (lo B lo' B' n n' c c' : Nat) (l l' : List Int) (w : World) (hl : Hid (l.length = n)) (hl' : Hid (l'.length = n')) (hn : n ≤ 140737488355328) (hn' : n' ≤ 140737488355328) (hb : Hid (Arr intS w lo B A l)) (hb' : Hid (Arr intS w lo' B' A' l')) :
    Calls Tryd.prog 17 #[.slice A n c, .slice A' n' c'] w fun r w' => r = .returned (.bool (decide (l = l'))) ∧ Below w.heap.size w w' := by
  have HB0 := Lib.hid (Below.refl w.heap.size w)
  go_enter Tryd.func17, Tryd.ntmps17
  by_cases he : n = n'
  · subst he
    go_wp2
    go_loopw [5, 13] (fun xv iv wr => ∃ k q : Nat, k ≤ n ∧ iv = .int .i64 k ∧ wr = w.drewN q ∧ Hid (∀ j, j < k → l.getD j 0 = l'.getD j 0)) (fun _ i _ => n - (Go.RowKit.intOf i).toNat)
    case atStart => exact ⟨0, 0, Nat.zero_le _, rfl, rfl, fun j hj => absurd hj (by omega)⟩
    case round =>
      obtain ⟨k, q, hk, rfl, rfl, hz⟩ := hrel
      by_cases hlt : k < n
      · obtain ⟨ad, rfl⟩ := hb.out.some (k := k) (by rw [hl.out]; exact hlt)
        obtain ⟨ad', rfl⟩ := hb'.out.some (k := k) (by rw [hl'.out]; exact hlt)
        obtain ⟨x, HX⟩ : ∃ p, Hid (l.getD k 0 = p) := ⟨_, rfl⟩
        obtain ⟨y, HY⟩ : ∃ p, Hid (l'.getD k 0 = p) := ⟨_, rfl⟩
        have m0 := ints_at hb.out k (by rw [hl.out]; exact hlt)
        have p0 := ints_at hb'.out k (by rw [hl'.out]; exact hlt)
        rw [HX.out] at m0
        rw [HY.out] at p0
        by_cases hxy : x = y
        · subst hxy
          have hne : (x != x) = false := by simp
          go_wp2
          go_quiet (fail)
          go_wp2
          go_roundw
          case rel =>
            refine ⟨k + 1, _, by omega, by go_num, rfl, fun j hj => ?_⟩
            rcases Nat.lt_or_ge j k with h | h
            · exact hz.out j h
            · obtain rfl : j = k := by omega
              exact HX.out.trans HY.out.symm
          case measure => simp [Go.RowKit.intOf]; omega
        · have HE : Hid (l ≠ l') := fun e => by
            have h1 := HX.out
            rw [e, HY.out] at h1
            exact hxy h1.symm
          have hne : (x != y) = true := by rw [bne_iff_ne]; exact hxy
          clear hxy
          go_wp2
          go_quiet (fail)
          go_wp2
          go_ret
          exact ⟨ret_bool (by rw [decide_eq_false HE.out]), below_drawn (below_drawn HB0.out _) _⟩
      · obtain rfl : k = n := by omega
        have HE : Hid (l = l') := list_ext_getD 0 (hl.out.trans hl'.out.symm) (by rw [hl.out]; exact hz.out)
        go_wp2
        go_ret
        exact ⟨ret_bool (by rw [decide_eq_true HE.out]), below_drawn HB0.out _⟩
  · have HE : Hid (l ≠ l') := fun e => he (by rw [← hl.out, ← hl'.out, e])
    go_wp2
    go_ret
    exact ⟨ret_bool (by rw [decide_eq_false HE.out]), HB0.out⟩
end Go.Proofs.YtepbdicglgjcjaaDoor
end
