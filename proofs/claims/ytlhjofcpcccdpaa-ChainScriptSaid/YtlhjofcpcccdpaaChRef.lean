/-
  The reference's list of items: its box, parts of its row; Items and Seqs.
-/
import Derived.Test.YtlhjofcpcccdpaaChBef
import Derived.Test.YtlhjofcpcccdpaaHold
import Derived.BigQuiet
set_option maxRecDepth 100000
namespace Go.Proofs.Ytlhjofcpcccdpaa
open Go.RowKit Go.Maps
/-- The cells of an item of the reference. -/
def enc3 (p : Ch.Ent) : List Value := [.int .i64 p.seq, .int .i64 p.off, .string p.k]
def entS : Shape Ch.Ent := ⟨enc3, Ch.Ent0, 3, fun _ => rfl, by decide, fun p u hu => by
  simp only [enc3, List.mem_cons, List.not_mem_nil, or_false] at hu
  rcases hu with rfl | rfl | rfl <;> rfl⟩
theorem ents_at {w : World} {lo B g : Nat} {L : List Ch.Ent} (h : Arr entS w lo B (some ⟨g, 0, none⟩) L) (i : Nat) (hi : i < L.length) (s o : Int) (k : ByteArray) (e : Ch.ge L i = ⟨s, o, k⟩) :
    w.cell? ⟨g, i * 3, none⟩ = some (.int .i64 s) ∧ w.cell? ⟨g, i * 3 + 1, none⟩ = some (.int .i64 o) ∧ w.cell? ⟨g, i * 3 + 2, none⟩ = some (.string k) := by
  have key : ∀ j v, (enc3 ⟨s, o, k⟩)[j]? = some v → w.cell? ⟨g, i * 3 + j, none⟩ = some v := fun j v hv => by
    have := h.cell i hi j v (by rw [show L.getD i entS.z = ⟨s, o, k⟩ from e]; exact hv)
    rw [arr_flat, Nat.zero_add] at this
    exact this
  exact ⟨key 0 _ rfl, key 1 _ rfl, key 2 _ rfl⟩
/-- The reference's box: one row of items. -/
def CR (R : Nat → Prop) (w : World) (m : Nat) (L : List Ch.Ent) : Prop :=
  ∃ v, R m ∧ w.heap[m]? = some (.cells #[v] 28 (0, 0)) ∧ SRow (fun k => R k ∧ k ≠ m) 38 3 w v L.length (entS.flat L)
theorem CR.kept {R T : Nat → Prop} {w w' : World} {m : Nat} {L : List Ch.Ent} (h : CR R w m L) (hk : Kept T w w') (hd : ∀ k, k < w.heap.size → R k → ¬ T k) : CR R w' m L := by
  obtain ⟨v, h1, h2, h3⟩ := h
  exact ⟨v, h1, (hk.block m (Array.getElem?_eq_some_iff.1 h2).1 (hd m (Array.getElem?_eq_some_iff.1 h2).1 h1)).trans h2, h3.kept hk fun k hl h => hd k hl h.1⟩
theorem CR.next {R : Nat → Prop} {w w' : World} {m : Nat} {L : List Ch.Ent} (h : CR R w m L) (hb : Below w.heap.size w w') : CR R w' m L := h.kept (Kept.of_new hb : Kept (fun _ => False) w w') fun _ _ _ e => e
theorem CR.mono {R T : Nat → Prop} {w : World} {m : Nat} {L : List Ch.Ent} (h : CR R w m L) (hs : ∀ k, k < w.heap.size → R k → T k) : CR T w m L := by
  obtain ⟨v, h1, h2, h3⟩ := h
  exact ⟨v, hs m (Array.getElem?_eq_some_iff.1 h2).1 h1, h2, h3.mono fun k hl h => ⟨hs k hl h.1, h.2⟩⟩
theorem CR.lt {R : Nat → Prop} {w : World} {m : Nat} {L : List Ch.Ent} (h : CR R w m L) : m < w.heap.size := by
  obtain ⟨v, h1, h2, h3⟩ := h
  exact (Array.getElem?_eq_some_iff.1 h2).1
theorem CR.open_ {R : Nat → Prop} {w : World} {m : Nat} {L : List Ch.Ent} (h : CR R w m L) : ∃ A c, R m ∧ w.heap[m]? = some (.cells #[.slice A L.length c] 28 (0, 0)) ∧ SRow (fun k => R k ∧ k ≠ m) 38 3 w (.slice A L.length c) L.length (entS.flat L) ∧ SlIs A L.length c ∧ Arr entS w 0 w.heap.size A L ∧ (A = none ∨ ∃ g, A = some ⟨g, 0, none⟩ ∧ g < w.heap.size) := by
  obtain ⟨v, h1, h2, h3⟩ := h
  have h4 : ARow entS 38 w 0 v L.length L := h3.1
  obtain ⟨A, c, rfl, h5, h6⟩ := h4.open_
  refine ⟨A, c, h1, h2, h3, h5, h6, ?_⟩
  rcases h3.1.2 with ⟨e, -⟩ | ⟨g, cap, cur, e, -, hg, -⟩
  · injection e with e1; exact .inl e1
  · injection e with e1
    exact .inr ⟨g, e1, (Array.getElem?_eq_some_iff.1 hg).1⟩
/-- The cells of a row's first things, and of those behind. -/
theorem srow_front {α : Type} {Sh : Shape α} {S : Nat → Prop} {t : TypeId} {w : World} {A : Option Addr} {n c : Nat} {L : List α} (h : SRow S t Sh.m w (.slice A n c) n (Sh.flat L)) (i : Nat) : ∀ ad, A = some ad → ∀ j u, (Sh.flat (L.take i))[j]? = some u → w.cell? (ad.add j) = some u := fun ad e j u hu => by
  refine h.cells ad e j u ?_
  rw [← List.take_append_drop i L, Sh.flat_append, List.getElem?_append_left (List.getElem?_eq_some_iff.1 hu).1]
  exact hu
theorem srow_back {α : Type} {Sh : Shape α} {S : Nat → Prop} {t : TypeId} {w : World} {g n c : Nat} {L : List α} (h : SRow S t Sh.m w (.slice (some ⟨g, 0, none⟩) n c) n (Sh.flat L)) (i : Nat) (hi : i ≤ L.length) : ∀ ad, some (⟨g, i * Sh.m, none⟩ : Addr) = some ad → ∀ j u, (Sh.flat (L.drop i))[j]? = some u → w.cell? (ad.add j) = some u := fun ad e j u hu => by
  injection e with e
  subst e
  have hl : (Sh.flat (L.take i)).length = i * Sh.m := by rw [Sh.flat_length, List.length_take, Nat.min_eq_left hi]
  have := h.cells ⟨g, 0, none⟩ rfl (i * Sh.m + j) u (by rw [← List.take_append_drop i L, Sh.flat_append, List.getElem?_append_right (by omega), hl, Nat.add_sub_cancel_left]; exact hu)
  rw [arr_flat, Nat.zero_add] at this
  rw [arr_flat]
  exact this
theorem srow_back_if {S : Nat → Prop} {t : TypeId} {w : World} {g n c : Nat} {L : List Ch.Ent} (h : SRow S t 3 w (.slice (some ⟨g, 0, none⟩) n c) n (entS.flat L)) (i : Nat) (hi : i ≤ L.length) : ∀ ad, (if c = i then some (⟨g, 0, none⟩ : Addr) else some ⟨g, i * 3, none⟩) = some ad → ∀ j u, (entS.flat (L.drop i))[j]? = some u → w.cell? (ad.add j) = some u := fun ad e j u hu => by
  split at e
  · rename_i hc
    obtain ⟨A', c', e', hs⟩ := h.open_
    injection e' with _ _ e3
    subst e3
    have hl := h.len (Sh := entS)
    have := hs.2.1
    rw [List.drop_eq_nil_of_le (by omega)] at hu
    cases hu
  · exact srow_back (Sh := entS) h i hi ad e j u hu
theorem ent_take {L : List Ch.Ent} {i : Nat} (hi : i ≤ L.length) : (entS.flat (L.take i)).length = i * 3 := by rw [entS.flat_length, List.length_take, Nat.min_eq_left hi]; rfl
theorem ent_drop {L : List Ch.Ent} {i n : Nat} (hn : L.length = n) : (entS.flat (L.drop i)).length = (n - i) * 3 := by rw [entS.flat_length, List.length_drop, hn]; rfl
theorem info_ent : (Try.prog.info? 38).map (fun i => (i.zero, i.size, i.bytes)) = some (some (.agg (enc3 Ch.Ent0).toArray), entS.m, 32) := by kernel_rfl
theorem info_num : (Try.prog.info? 3).map (fun i => (i.zero, i.size, i.bytes)) = some (some (.int .i64 0), intS.m, 8) := by kernel_rfl
/-- What the reference's Items answers. -/
def RItems (L : List Ch.Ent) (s : Int) (w : World) (e : Ending) (w' : World) : Prop :=
  ∃ v, e = .returned v ∧ ARow entS 38 w' w.heap.size v (Ch.fl L s).length (Ch.fl L s) ∧ Below w.heap.size w w'
theorem three_cells_at {w : World} {g : Nat} {a b c : Value} {t : TypeId} (hg : w.heap[g]? = some (.cells #[a, b, c] t (0, 0))) : w.cell? ⟨g, 0, none⟩ = some a ∧ w.cell? ⟨g, 1, none⟩ = some b ∧ w.cell? ⟨g, 2, none⟩ = some c :=
  ⟨cell_of_row _ _ 0 _ _ _ hg, cell_of_row _ _ 1 _ _ _ hg, cell_of_row _ _ 2 _ _ _ hg⟩
set_option maxHeartbeats 4000000 in
theorem refitems_any (m : Nat) (s : Int) (L : List Ch.Ent) (R : Nat → Prop) (w : World) (hL : L.length ≤ 1000) (hT : Hid (CR R w m L)) :
    Calls Try.prog 13 #[.pointer (some ⟨m, 0, none⟩), .int .i64 s] w (RItems L s w) := by
  obtain ⟨A, c, hR, hm, hr, hsl, ha, hA⟩ := hT.out.open_
  obtain ⟨n, hn⟩ : ∃ n, L.length = n := ⟨_, rfl⟩
  have HA := Lib.hid ha
  have HAA := Lib.hid hA
  have hcap := hsl.2.2
  have hnc := hsl.2.1
  have c0 := one_cell_of hm
  rw [hn] at hL hnc c0
  have HN := Lib.hid hn
  obtain ⟨B, hB⟩ : ∃ B, w.heap.size = B := ⟨_, rfl⟩
  rw [hB] at HA
  have HB := Lib.hid hB
  clear hm hr ha hsl hn hA hR
  go_enter Try.func13, Try.ntmps13
  go_wp2_with fail
  clear c0
  go_loopw [5, 13] (fun v iv wr => ∃ i : Nat, i ≤ n ∧ iv = .int .i64 (i : Int) ∧ Hid (SRow (fun k => B ≤ k) 38 3 wr v (Ch.fl (L.take i) s).length (entS.flat (Ch.fl (L.take i) s))) ∧ Hid (Below B w wr)) (fun _ i _ => n - (Go.RowKit.intOf i).toNat)
  case atStart => exact ⟨0, Nat.zero_le _, rfl, SRow.nil, Below.refl _ _⟩
  case round =>
    obtain ⟨i, hi, rfl, hrow, hbel⟩ := hrel
    generalize hv : u5 = v at *
    clear hv
    by_cases hlt : i < n
    · have hiL : i < L.length := by rw [HN.out]; exact hlt
      obtain ⟨ad, rfl⟩ := HA.out.some hiL
      obtain ⟨g, rfl⟩ : ∃ g, ad = ⟨g, 0, none⟩ := by
        rcases HAA.out with h | ⟨g, h, -⟩
        · cases h
        · injection h with h; exact ⟨g, h⟩
      obtain ⟨⟨s0, o0, k0⟩, hp⟩ : ∃ p, Ch.ge L i = p := ⟨_, rfl⟩
      obtain ⟨m0, m1, m2⟩ := ents_at (HA.out.below hbel.out (Nat.le_refl _)) i hiL _ _ _ hp
      have HNX := Lib.hid (Ch.fl_next hiL s)
      rw [hp] at HNX
      have HLE : Hid ((Ch.fl (L.take i) s).length ≤ 1000) := by
        show _ ≤ _
        have h1 := Ch.fl_le (L.take i) s
        have h2 := List.length_take_le i L
        omega
      have HX1 := Lib.hid (heap_alloc_new wr (.cells #[.int .i64 s0, .int .i64 o0, .string k0] 38))
      have HL1 : Hid (Below wr.heap.size wr (wr.alloc (.cells #[.int .i64 s0, .int .i64 o0, .string k0] 38))) := (Below.refl _ _).alloc (Nat.le_refl _) _
      have HZ : Hid (B ≤ wr.heap.size) := HB.out ▸ hbel.out.size
      have HB1 := Lib.hid (hbel.out.trans (HL1.out.mono HZ.out))
      have HR1 := Lib.hid (hrow.out.new HL1.out)
      clear hp
      go_upto_region 5 with fail
      clear m0 m1 m2
      generalize wr.alloc (.cells #[.int .i64 s0, .int .i64 o0, .string k0] 38) = w1 at *
      generalize wr.heap.size = x at *
      obtain ⟨x0, x1, x2⟩ := three_cells_at HX1.out
      by_cases hss : s0 = s
      · subst hss
        rw [if_pos rfl] at HNX
        have hb0 : (s0 == s0) = true := beq_self_eq_true _
        have HX2 := Lib.hid (heap_alloc_new w1 (.cells #[.int .i64 s0, .int .i64 o0, .string k0] 38))
        have HL2 : Hid (Below w1.heap.size w1 (w1.alloc (.cells #[.int .i64 s0, .int .i64 o0, .string k0] 38))) := (Below.refl _ _).alloc (Nat.le_refl _) _
        have HZ1 : Hid (B ≤ w1.heap.size) := HB.out ▸ HB1.out.size
        have HB2 := Lib.hid (HB1.out.trans (HL2.out.mono HZ1.out))
        have HR2 := Lib.hid (HR1.out.new HL2.out)
        have HZ2 : Hid (B ≤ (w1.alloc (.cells #[.int .i64 s0, .int .i64 o0, .string k0] 38)).heap.size) := Nat.le_trans HZ1.out HL2.out.size
        have HLE2 : Hid ((Ch.fl (L.take i) s0).length ≤ 1000000) := Nat.le_trans HLE.out (by decide)
        have HLE3 : Hid (((Ch.fl (L.take i) s0).length + 1) * 32 ≤ 140737488355328) := by show _ ≤ _; have := HLE.out; omega
        clear HL2 HL1 HB1 HR1 HX1 hrow hbel
        go_wp2_with (at_builtin; refine append_one (Sh := entS) (by rfl) (.tmp 21) (.tmp 23) 26 rfl Try.underlying26 info_ent rfl v _ _ rfl HR2.out w1.heap.size 1 ⟨s0, o0, k0⟩ rfl HX2.out HLE2.out HLE3.out ?_; intro v3 w3 hr3 hk3; have HR3 := Lib.hid (hr3.mono fun k _ h => h.elim id fun h => Nat.le_trans HZ2.out h); have HB3 := Lib.hid (HB2.out.trans (hk3.below HZ2.out fun k h => h)); clear hr3 hk3)
        go_roundw
        case rel => exact ⟨i + 1, by omega, by go_num, by rw [HNX.out, List.length_append]; exact HR3, HB3⟩
        case measure => simp [Go.RowKit.intOf]; omega
      · rw [if_neg hss, List.append_nil] at HNX
        have hb0 : (s0 == s) = false := by rw [beq_eq_false_iff_ne]; exact hss
        clear hss
        go_wp2_with fail
        go_roundw
        case rel => exact ⟨i + 1, by omega, by go_num, by rw [HNX.out]; exact HR1, HB1⟩
        case measure => simp [Go.RowKit.intOf]; omega
    · obtain rfl : i = n := by omega
      have HE : Hid (L.take i = L) := List.take_of_length_le (by rw [HN.out]; exact Nat.le_refl _)
      rw [HE.out] at hrow
      clear HE hlt
      go_wp2_with fail
      go_ret
      refine ⟨v, rfl, ⟨hrow.out.1.1, ?_⟩, by rw [HB.out]; exact hbel.out⟩
      rcases hrow.out.1.2 with h0 | ⟨g, cap, cur, h1, -, h3⟩
      · exact .inl h0
      · exact .inr ⟨g, cap, cur, h1, by rw [HB.out]; exact hrow.out.2 g (by rw [h1]; rfl), h3⟩
end Go.Proofs.Ytlhjofcpcccdpaa
