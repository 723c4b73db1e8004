/-
  Regions in slices; the walks of geometry.isTaken's closure, of slices.IndexFunc and slices.ContainsFunc at regions, and of isTaken.
-/
import Derived.Test.YtmkilbogdenljaaGmOver
import Derived.Test.YtmkilbogdenljaaArr
set_option maxRecDepth 100000
namespace Go.Proofs.Ytmkilbogdenljaa
open Go.RowKit
def rcs (r : Gm.R) : List Value := [.int .i64 r.ver, .int .i64 r.slot, .int .i64 r.lay, .int .i64 r.seq, .int .i64 r.tail, .int .i64 r.now, .int .i64 r.l.id, .int .i64 r.l.ver, .int .i64 r.l.rs, .int .i64 r.l.reg]
/-- Regions. -/
def regS : Shape Gm.R := ⟨rcs, Gm.R0, 10, fun _ => rfl, by decide, fun r u hu => by
  simp only [rcs, List.mem_cons, List.not_mem_nil, or_false] at hu
  rcases hu with rfl | rfl | rfl | rfl | rfl | rfl | rfl | rfl | rfl | rfl <;> rfl⟩
/-- The cells of one region of a slice, as a load spells them. -/
theorem regs_at {w : World} {lo B : Nat} {ad : Addr} {l : List Gm.R} (h : Arr regS w lo B (some ad) l) (k : Nat) (hk : k < l.length) (r : Gm.R) (e : l.getD k Gm.R0 = r) :
    w.cell? (ad.add (k * 10)) = some (.int .i64 r.ver) ∧ w.cell? ⟨(ad.add (k * 10)).block, (ad.add (k * 10)).off + 1, none⟩ = some (.int .i64 r.slot) ∧ w.cell? ⟨(ad.add (k * 10)).block, (ad.add (k * 10)).off + 2, none⟩ = some (.int .i64 r.lay) ∧ w.cell? ⟨(ad.add (k * 10)).block, (ad.add (k * 10)).off + 3, none⟩ = some (.int .i64 r.seq) ∧
    w.cell? ⟨(ad.add (k * 10)).block, (ad.add (k * 10)).off + 4, none⟩ = some (.int .i64 r.tail) ∧ w.cell? ⟨(ad.add (k * 10)).block, (ad.add (k * 10)).off + 5, none⟩ = some (.int .i64 r.now) ∧ w.cell? ⟨(ad.add (k * 10)).block, (ad.add (k * 10)).off + 6, none⟩ = some (.int .i64 r.l.id) ∧ w.cell? ⟨(ad.add (k * 10)).block, (ad.add (k * 10)).off + 7, none⟩ = some (.int .i64 r.l.ver) ∧
    w.cell? ⟨(ad.add (k * 10)).block, (ad.add (k * 10)).off + 8, none⟩ = some (.int .i64 r.l.rs) ∧ w.cell? ⟨(ad.add (k * 10)).block, (ad.add (k * 10)).off + 9, none⟩ = some (.int .i64 r.l.reg) := by
  have h4 : ∀ j v, (rcs r)[j]? = some v → w.cell? (ad.add (k * 10 + j)) = some v := fun j v hv => h.cell k hk j v (by rw [show l.getD k regS.z = r from e]; exact hv)
  have g : ∀ i, 0 < i → ∀ v, (rcs r)[i]? = some v → w.cell? ⟨(ad.add (k * 10)).block, (ad.add (k * 10)).off + i, none⟩ = some v := fun i hi v hv => by
    have := h4 i v hv
    rwa [at_field _ _ _ hi] at this
  exact ⟨h4 0 _ rfl, g 1 (by decide) _ rfl, g 2 (by decide) _ rfl, g 3 (by decide) _ rfl, g 4 (by decide) _ rfl, g 5 (by decide) _ rfl, g 6 (by decide) _ rfl, g 7 (by decide) _ rfl, g 8 (by decide) _ rfl, g 9 (by decide) _ rfl⟩
theorem ten_cells {w : World} {g : Nat} {a b c d e f h i j k : Value} {t : TypeId} (hk : w.heap[g]? = some (.cells #[a, b, c, d, e, f, h, i, j, k] t (0, 0))) :
    w.cell? ⟨g, 0, none⟩ = some a ∧ w.cell? ⟨g, 1, none⟩ = some b ∧ w.cell? ⟨g, 2, none⟩ = some c ∧ w.cell? ⟨g, 3, none⟩ = some d ∧ w.cell? ⟨g, 4, none⟩ = some e ∧ w.cell? ⟨g, 5, none⟩ = some f ∧ w.cell? ⟨g, 6, none⟩ = some h ∧ w.cell? ⟨g, 7, none⟩ = some i ∧ w.cell? ⟨g, 8, none⟩ = some j ∧ w.cell? ⟨g, 9, none⟩ = some k := by
  refine ⟨?_, ?_, ?_, ?_, ?_, ?_, ?_, ?_, ?_, ?_⟩ <;> (rw [cell_of_row _ _ _ _ _ _ hk]; rfl)
theorem one_cell {w : World} {g : Nat} {a : Value} {t : TypeId} (hk : w.heap[g]? = some (.cells #[a] t (0, 0))) : w.cell? ⟨g, 0, none⟩ = some a := by rw [cell_of_row _ _ _ _ _ _ hk]; rfl
set_option maxHeartbeats 1000000 in
theorem gmclo_any (a b c d s r0 r1 r2 r3 r4 r5 l0 l1 l2 l3 : Int) (gl gs : Nat) (w : World) (hl : Hid (w.heap[gl]? = some (.cells #[.int .i64 a, .int .i64 b, .int .i64 c, .int .i64 d] 23 (0, 0)))) (hs : Hid (w.heap[gs]? = some (.cells #[.int .i64 s] 3 (0, 0)))) :
    Calls Try.prog 54 #[.agg #[.int .i64 r0, .int .i64 r1, .int .i64 r2, .int .i64 r3, .int .i64 r4, .int .i64 r5, .int .i64 l0, .int .i64 l1, .int .i64 l2, .int .i64 l3], .pointer (some ⟨gl, 0, none⟩), .pointer (some ⟨gs, 0, none⟩)] w
      fun r w' => r = .returned (.bool (decide (Gm.over ⟨a, b, c, d⟩ s ⟨l0, l1, l2, l3⟩ r1))) ∧ Below w.heap.size w w' := by
  have CO := Lib.hid (fun W => gmover_any a b c d s l0 l1 l2 l3 r1 W)
  generalize decide (Gm.over ⟨a, b, c, d⟩ s ⟨l0, l1, l2, l3⟩ r1) = res at *
  have HS0 := Lib.hid (sd_new w #[.int .i64 r0, .int .i64 r1, .int .i64 r2, .int .i64 r3, .int .i64 r4, .int .i64 r5, .int .i64 l0, .int .i64 l1, .int .i64 l2, .int .i64 l3] 40)
  have HL0 : Hid ((w.alloc (.cells #[.int .i64 r0, .int .i64 r1, .int .i64 r2, .int .i64 r3, .int .i64 r4, .int .i64 r5, .int .i64 l0, .int .i64 l1, .int .i64 l2, .int .i64 l3] 40)).heap[gl]? = _) := (heap_alloc_old _ _ (Array.getElem?_eq_some_iff.1 hl.out).1).trans hl.out
  have HG0 : Hid ((w.alloc (.cells #[.int .i64 r0, .int .i64 r1, .int .i64 r2, .int .i64 r3, .int .i64 r4, .int .i64 r5, .int .i64 l0, .int .i64 l1, .int .i64 l2, .int .i64 l3] 40)).heap[gs]? = _) := (heap_alloc_old _ _ (Array.getElem?_eq_some_iff.1 hs.out).1).trans hs.out
  go_enter Try.func54, Try.ntmps54
  go_upto_region 1 with fail
  generalize w.alloc (.cells #[.int .i64 r0, .int .i64 r1, .int .i64 r2, .int .i64 r3, .int .i64 r4, .int .i64 r5, .int .i64 l0, .int .i64 l1, .int .i64 l2, .int .i64 l3] 40) = w0 at *
  obtain ⟨x0, x1, x2, x3, x4, x5, x6, x7, x8, x9⟩ := ten_cells HS0.out.1
  obtain ⟨y0, y1, y2, y3⟩ := four_cells HL0.out
  have z0 := one_cell HG0.out
  go_wp2_with fail
  refine (CO.out _).mono ?_
  rintro r w1 ⟨rfl, hb1⟩
  have HS1 := Lib.hid (HS0.out.next hb1 (by rfl) (by rfl) (by rfl) (by rfl))
  clear hb1
  go_wp2_with fail
  go_ret
  exact ⟨rfl, HS1.out.2⟩
theorem block_next {w w1 : World} {C g : Nat} {o : Obj} (h : w.heap[g]? = some o) (k : Below C w w1) (hg : g < C) : w1.heap[g]? = some o := (k.block g hg).trans h
theorem taken_all (l : Sb.L) (s : Int) (live : List Gm.R) (n : Nat) (h : live.length = n) : Gm.taken l s (live.take n) = Gm.taken l s live := by rw [List.take_of_length_le (by omega)]
theorem taken_hit (l : Sb.L) (s : Int) (live : List Gm.R) (k : Nat) (hk : k < live.length) (r : Gm.R) (e : live.getD k Gm.R0 = r) (h : decide (Gm.over l s r.l r.slot) = true) : Gm.taken l s live = true := by
  subst e
  unfold Gm.taken
  rw [List.any_eq_true]
  refine ⟨live.getD k Gm.R0, ?_, h⟩
  rw [List.getD_eq_getElem?_getD, List.getElem?_eq_getElem hk]
  exact List.getElem_mem hk
set_option maxHeartbeats 2000000 in
theorem gmindex_any (a b c d s : Int) (gl gs : Nat) (A : Option Addr) (lo B n cap : Nat) (live : List Gm.R) (w : World) (hB : B ≤ w.heap.size) (hn : Hid (live.length = n)) (hn2 : n ≤ 140737488355328) (hb : Hid (Arr regS w lo B A live)) (hl : Hid (w.heap[gl]? = some (.cells #[.int .i64 a, .int .i64 b, .int .i64 c, .int .i64 d] 23 (0, 0)))) (hs : Hid (w.heap[gs]? = some (.cells #[.int .i64 s] 3 (0, 0)))) :
    Calls Try.prog 43 #[.slice A n cap, .func (.func 54) #[] #[.pointer (some ⟨gl, 0, none⟩), .pointer (some ⟨gs, 0, none⟩)]] w
      fun r w' => (∃ k : Int, r = .returned (.int .i64 k) ∧ Hid (decide (0 ≤ k) = Gm.taken ⟨a, b, c, d⟩ s live)) ∧ Below w.heap.size w w' := by
  have HB0 := Lib.hid (Below.refl w.heap.size w)
  have hgl := Lib.hid (Array.getElem?_eq_some_iff.1 hl.out).1
  have hgs := Lib.hid (Array.getElem?_eq_some_iff.1 hs.out).1
  go_enter Try.func43, Try.ntmps43
  go_wp2_with fail
  go_loopw [5, 8] (fun _ iv wr => ∃ k : Nat, k ≤ n ∧ iv = .int .i64 (k : Int) ∧ Hid (Gm.taken ⟨a, b, c, d⟩ s (live.take k) = false) ∧ Hid (Below w.heap.size w wr)) (fun _ i _ => n - (Go.RowKit.intOf i).toNat)
  case atStart => exact ⟨0, Nat.zero_le _, rfl, rfl, HB0.out⟩
  case round =>
    obtain ⟨k, hk, rfl, ht, hbel⟩ := hrel
    by_cases hlt : k < n
    · obtain ⟨ad, rfl⟩ := hb.out.some (k := k) (by rw [hn.out]; exact hlt)
      obtain ⟨⟨r0, r1, r2, r3, r4, r5, ⟨l0, l1, l2, l3⟩⟩, HX⟩ : ∃ p, Hid (live.getD k Gm.R0 = p) := ⟨_, rfl⟩
      obtain ⟨m0, m1, m2, m3, m4, m5, m6, m7, m8, m9⟩ := regs_at (hb.out.below hbel.out hB) k (by rw [hn.out]; exact hlt) _ HX.out
      simp only at m0 m1 m2 m3 m4 m5 m6 m7 m8 m9
      have CC := Lib.hid (gmclo_any a b c d s r0 r1 r2 r3 r4 r5 l0 l1 l2 l3 gl gs wr (Lib.hid (block_next hl.out hbel.out hgl.out)) (Lib.hid (block_next hs.out hbel.out hgs.out)))
      have HN := Lib.hid (Gm.taken_next ⟨a, b, c, d⟩ s live k (by rw [hn.out]; exact hlt))
      have HH := Lib.hid (taken_hit ⟨a, b, c, d⟩ s live k (by rw [hn.out]; exact hlt) _ HX.out)
      rw [HX.out, ht.out, Bool.false_or] at HN
      simp only at HN HH
      generalize decide (Gm.over ⟨a, b, c, d⟩ s ⟨l0, l1, l2, l3⟩ r1) = t at *
      cases t with
      | true =>
        go_wp2_with fail
        refine CC.out.mono ?_
        rintro r w1 ⟨rfl, hb1⟩
        have HB1 : Hid (Below w.heap.size w w1) := hbel.out.trans (hb1.mono hbel.out.size)
        go_wp2_with fail
        go_ret
        exact ⟨⟨_, rfl, (decide_eq_true (by omega)).trans (HH.out (by first | exact rfl | exact trivial)).symm⟩, HB1.out⟩
      | false =>
        go_wp2_with fail
        refine CC.out.mono ?_
        rintro r w1 ⟨rfl, hb1⟩
        have HB1 : Hid (Below w.heap.size w w1) := hbel.out.trans (hb1.mono hbel.out.size)
        go_wp2_with fail
        go_roundw
        case rel => exact ⟨k + 1, by omega, by go_num, HN, HB1⟩
        case measure => simp [Go.RowKit.intOf]; omega
    · obtain rfl : k = n := by omega
      have HT := ht.out
      rw [taken_all _ _ _ _ hn.out] at HT
      have HT2 := Lib.hid HT
      clear HT
      go_wp2_with fail
      go_ret
      exact ⟨⟨_, rfl, HT2.out.symm⟩, hbel.out⟩
set_option maxHeartbeats 1000000 in
theorem gmcontains_any (a b c d s : Int) (gl gs : Nat) (A : Option Addr) (lo B n cap : Nat) (live : List Gm.R) (w : World) (hB : B ≤ w.heap.size) (hn : Hid (live.length = n)) (hn2 : n ≤ 140737488355328) (hb : Hid (Arr regS w lo B A live)) (hl : Hid (w.heap[gl]? = some (.cells #[.int .i64 a, .int .i64 b, .int .i64 c, .int .i64 d] 23 (0, 0)))) (hs : Hid (w.heap[gs]? = some (.cells #[.int .i64 s] 3 (0, 0)))) :
    Calls Try.prog 53 #[.slice A n cap, .func (.func 54) #[] #[.pointer (some ⟨gl, 0, none⟩), .pointer (some ⟨gs, 0, none⟩)]] w
      fun r w' => r = .returned (.bool (Gm.taken ⟨a, b, c, d⟩ s live)) ∧ Below w.heap.size w w' := by
  have CI := Lib.hid (gmindex_any a b c d s gl gs A lo B n cap live w hB hn hn2 hb hl hs)
  generalize Gm.taken ⟨a, b, c, d⟩ s live = res at *
  clear hn hb hl hs
  go_enter Try.func53, Try.ntmps53
  go_wp2_with fail
  refine CI.out.mono ?_
  rintro r w1 ⟨⟨k, rfl, hk⟩, hb1⟩
  have HB1 := Lib.hid hb1
  go_wp2_with fail
  go_ret
  exact ⟨ret_bool hk.out, HB1.out⟩
set_option maxHeartbeats 1000000 in
theorem gmtaken_any (a b c d s : Int) (A : Option Addr) (lo B n cap : Nat) (live : List Gm.R) (w : World) (hB : B ≤ w.heap.size) (hn : Hid (live.length = n)) (hn2 : n ≤ 140737488355328) (hb : Hid (Arr regS w lo B A live)) :
    Calls Try.prog 45 #[.agg #[.int .i64 a, .int .i64 b, .int .i64 c, .int .i64 d], .int .i64 s, .slice A n cap] w
      fun r w' => r = .returned (.bool (Gm.taken ⟨a, b, c, d⟩ s live)) ∧ Below w.heap.size w w' := by
  have HS0 := Lib.hid (sd2_new w #[.int .i64 a, .int .i64 b, .int .i64 c, .int .i64 d] #[.int .i64 s] 23 3)
  have hmf : ∀ (fn : Fn) (first cap : Array Value) (w : World), (Instr.makeFunc fn first cap).run Try.prog w = .ok (.func fn first cap) w := fun _ _ _ _ => rfl
  have CC := Lib.hid (gmcontains_any a b c d s w.heap.size (w.heap.size + 1) A lo B n cap live _ (Nat.le_trans hB HS0.out.2.2.size) hn hn2 (Lib.hid (hb.out.below HS0.out.2.2 hB)) (Lib.hid HS0.out.1) (Lib.hid HS0.out.2.1))
  generalize Gm.taken ⟨a, b, c, d⟩ s live = res at *
  clear hn hb
  go_enter Try.func45, Try.ntmps45
  go_upto_region 1 with fail
  generalize (w.alloc (.cells #[.int .i64 a, .int .i64 b, .int .i64 c, .int .i64 d] 23)).alloc (.cells #[.int .i64 s] 3) = w0 at *
  go_wp2_with fail
  refine CC.out.mono ?_
  rintro r w1 ⟨rfl, hb1⟩
  have HS1 := Lib.hid (HS0.out.next hb1 (by rfl) (by rfl) (by rfl) (by rfl))
  clear hb1
  go_wp2_with fail
  go_ret
  exact ⟨rfl, HS1.out.2.2⟩
end Go.Proofs.Ytmkilbogdenljaa
