/-
  The texts FlashAwake, DeviceNew, DeviceFuse, DeviceWords, DeviceKeep, DeviceSafe, RefWords, RefOps, RefWrite, RefBarrier of this proof, one behind the other.
-/
import Derived.Test.YtgnbmmceffolmaaGreatDoorFoldJ
import Derived.Lib.SlBytesConst
import Derived.IntWalk
section
namespace Go.Proofs.YtgnbmmceffolmaaGreatDoor
open Go.RowKit Go.Maps
end Go.Proofs.YtgnbmmceffolmaaGreatDoor
end
section
namespace Go.Proofs.YtgnbmmceffolmaaGreatDoor
open Go.RowKit Go.Maps
theorem sec_zero {n i : Nat} (hi : i < n) : sec (List.replicate (n * 64) 0) i = List.replicate 64 0 := by
  unfold sec
  rw [List.drop_replicate, List.take_replicate]
  congr 1
  omega
end Go.Proofs.YtgnbmmceffolmaaGreatDoor
end
section
namespace Go.Proofs.YtgnbmmceffolmaaGreatDoor
open Go.RowKit Go.Maps
/-- A device with a fuse of the length N behind i calls. -/
structure FuseAt (N i : Nat) (s : Flash) : Prop where
  wr : s.wr ≤ i
  fused : s.fused = true
  dead : s.dead = decide (N < i)
  fuse : i ≤ N → s.fuse = (N : Int) - (i : Int)
theorem FuseAt.lasts {N i : Nat} {s : Flash} (h : FuseAt N i s) (hi : i ≤ N) : s.lasts = decide (i < N) := by
  unfold Flash.lasts
  rw [h.fused, h.fuse hi]
  by_cases e : i < N
  · rw [decide_eq_true e]; simp; omega
  · rw [decide_eq_false e]; simp; omega
theorem FuseAt.burnt {N i : Nat} {s : Flash} (h : FuseAt N i s) (hi : i ≤ N) : FuseAt N (i + 1) s.burnt := by
  have hf := h.fuse hi
  unfold Flash.burnt
  rw [if_pos h.fused]
  by_cases e : i < N
  · rw [if_neg (by omega)]
    exact ⟨by have := h.wr; show s.wr ≤ _; omega, h.fused, by show s.dead = _; rw [h.dead, decide_eq_false (by omega), decide_eq_false (by omega)], fun _ => by show s.fuse - 1 = _; omega⟩
  · rw [if_pos (by omega)]
    exact ⟨by have := h.wr; show s.wr ≤ _; omega, h.fused, by show true = _; rw [decide_eq_true (by omega)], fun _ => by omega⟩
theorem FuseAt.barrier {N i : Nat} {s : Flash} (h : FuseAt N i s) : s.barrierErr = (if i < N then 0 else 1) ∧ FuseAt N (i + 1) s.barrier := by
  unfold Flash.barrierErr Flash.barrier
  by_cases hi : i ≤ N
  · have hd : ¬ s.dead = true := by rw [h.dead]; simp; omega
    have hb := h.burnt hi
    rw [if_neg hd, if_neg hd, h.lasts hi]
    by_cases e : i < N
    · rw [decide_eq_true e, if_pos rfl, if_pos e, if_pos rfl]
      exact ⟨rfl, hb.wr, hb.fused, hb.dead, hb.fuse⟩
    · rw [decide_eq_false e, if_neg (by simp), if_neg e, if_neg (by simp)]
      exact ⟨rfl, hb⟩
  · have hd : s.dead = true := by rw [h.dead]; simp; omega
    rw [if_pos hd, if_pos hd, if_neg (by omega)]
    exact ⟨rfl, by have := h.wr; omega, h.fused, by rw [hd]; simp; omega, fun _ => by omega⟩
theorem FuseAt.write {N i : Nat} {s : Flash} (h : FuseAt N i s) (j : Int) (hj0 : 0 ≤ j) (hj : j < 2) (b : List Nat) (hb64 : b.length ≤ 64) : s.writeErr 2 j b = (if i < N then 0 else 1) ∧ FuseAt N (i + 1) (s.write 2 j b) := by
  unfold Flash.writeErr Flash.write
  have hne : ¬ (j < 0 ∨ ((2 : Nat) : Int) ≤ j) := by omega
  have hnl : ¬ 64 < b.length := by omega
  by_cases hi : i ≤ N
  · have hd : ¬ s.dead = true := by rw [h.dead]; simp; omega
    have hb := h.burnt hi
    have hw := (burnt_cur s).2.2
    have hn4 : ¬ (s.dead = true ∨ j < 0 ∨ ((2 : Nat) : Int) ≤ j ∨ 64 < b.length) := fun h => h.elim hd (fun h => by omega)
    by_cases e : i < N
    · have hla : s.lasts = true := by rw [h.lasts hi, decide_eq_true e]
      rw [if_neg hd, if_neg hne, if_neg hnl, if_pos hla, if_neg hn4, if_pos hla, if_pos e]
      refine ⟨rfl, ?_, hb.fused, hb.dead, hb.fuse⟩
      show s.burnt.wr + 1 ≤ i + 1
      have := h.wr
      omega
    · have hla : ¬ s.lasts = true := by rw [h.lasts hi, decide_eq_false e]; simp
      rw [if_neg hd, if_neg hne, if_neg hnl, if_neg hla, if_neg hn4, if_neg hla, if_neg e]
      exact ⟨rfl, hb⟩
  · have hd : s.dead = true := by rw [h.dead]; simp; omega
    have hn4 : s.dead = true ∨ j < 0 ∨ ((2 : Nat) : Int) ≤ j ∨ 64 < b.length := .inl hd
    have e : ¬ i < N := by omega
    rw [if_pos hd, if_pos hn4, if_neg e]
    exact ⟨rfl, by have := h.wr; omega, h.fused, by rw [hd]; simp; omega, fun _ => by omega⟩
end Go.Proofs.YtgnbmmceffolmaaGreatDoor
end
section
set_option maxRecDepth 100000
namespace Go.Proofs.YtgnbmmceffolmaaGreatDoor
open Go.RowKit Go.Maps
theorem keptBy_nil (r : Nat) : keptBy [] [] r = 0 := by simp [keptBy]
theorem crashByte_nil (cur : List Nat) (old : Nat → Option (List Nat)) (p : Nat) : crashByte cur old [] [] p = match old (p / 64) with | some l => l.getD (p % 64) 0 | none => cur.getD p 0 := by
  unfold crashByte
  cases old (p / 64) with
  | none => rfl
  | some l =>
    dsimp only
    rw [keptBy_nil, if_neg (by omega)]
theorem crashed_len (n : Nat) (cur : List Nat) (old : Nat → Option (List Nat)) (keep : List Bool) (T : List (Int × Int)) : (crashed n cur old keep T).length = n * 64 := by simp [crashed]
theorem crashed_get {n : Nat} {cur : List Nat} {old : Nat → Option (List Nat)} {keep : List Bool} {T : List (Int × Int)} {p : Nat} (hp : p < n * 64) : (crashed n cur old keep T).getD p 0 = crashByte cur old keep T p := by
  unfold crashed
  rw [List.getD_eq_getElem?_getD, List.getElem?_map, List.getElem?_range hp]; rfl
theorem list_ext {a b : List Nat} {k : Nat} (ha : a.length = k) (hb : b.length = k) (h : ∀ p, p < k → a.getD p 0 = b.getD p 0) : a = b :=
  getD_ext (ha.trans hb.symm) (fun j hj => h j (by omega))
theorem crashed_none {n : Nat} {cur : List Nat} (hl : cur.length = n * 64) (keep : List Bool) (T : List (Int × Int)) : crashed n cur (fun _ => none) keep T = cur :=
  list_ext (crashed_len _ _ _ _ _) hl fun p hp => by rw [crashed_get hp]; rfl
/-- A Write leaves the old image. -/
theorem crashed_wrote {n j : Nat} {s : Flash} {b : List Nat} (hl : s.cur.length = n * 64) (hj : j < n) (hb : b.length ≤ 64) : crashed n (s.wrote j b).cur (s.wrote j b).old [] [] = crashed n s.cur s.old [] [] :=
  list_ext (crashed_len _ _ _ _ _) (crashed_len _ _ _ _ _) fun p hp => by
    rw [crashed_get hp, crashed_get hp, crashByte_nil, crashByte_nil]
    show (match (if p / 64 = j then some ((s.old j).getD (sec s.cur j)) else s.old (p / 64)) with | some l => l.getD (p % 64) 0 | none => (putSec s.cur j (pad b)).getD p 0) = _
    by_cases e : p / 64 = j
    · rw [if_pos e, e]
      dsimp only
      cases s.old j with
      | some l => rfl
      | none =>
        show (sec s.cur j).getD (p % 64) 0 = s.cur.getD p 0
        rw [sec_get (Nat.mod_lt _ (by decide)), show j * 64 + p % 64 = p by omega]
    · rw [if_neg e]
      cases s.old (p / 64) with
      | some l => rfl
      | none =>
        show (putSec s.cur j (pad b)).getD p 0 = s.cur.getD p 0
        rw [putSec_get hl hj (pad_len hb), if_neg e]
/-- Alive, and no fuse. -/
structure Plain (s : Flash) : Prop where
  dead : s.dead = false
  fused : s.fused = false
theorem Plain.burnt {s : Flash} (h : Plain s) : s.burnt = s := by unfold Flash.burnt; rw [if_neg (by rw [h.fused]; simp)]
theorem Plain.lasts {s : Flash} (h : Plain s) : s.lasts = true := by unfold Flash.lasts; rw [h.fused]; rfl
theorem Plain.write {s : Flash} (h : Plain s) {n j : Nat} (hj : j < n) {b : List Nat} (hb : b.length ≤ 64) : s.writeErr n (j : Int) b = 0 ∧ s.write n (j : Int) b = s.wrote j b := by
  have h1 : ¬ s.dead = true := by rw [h.dead]; simp
  have h2 : ¬ ((j : Int) < 0 ∨ (n : Int) ≤ (j : Int)) := by omega
  have h3 : ¬ 64 < b.length := by omega
  have h4 : ¬ (s.dead = true ∨ (j : Int) < 0 ∨ (n : Int) ≤ (j : Int) ∨ 64 < b.length) := fun h => h.elim h1 (fun h => by omega)
  unfold Flash.writeErr Flash.write
  rw [if_neg h1, if_neg h2, if_neg h3, if_pos h.lasts, if_neg h4, if_pos h.lasts, h.burnt, Int.toNat_natCast]
  exact ⟨rfl, rfl⟩
theorem Plain.barrier {s : Flash} (h : Plain s) : s.barrierErr = 0 ∧ s.barrier = { s with old := fun _ => none } := by
  have h1 : ¬ s.dead = true := by rw [h.dead]; simp
  unfold Flash.barrierErr Flash.barrier
  rw [if_neg h1, if_neg h1, if_pos h.lasts, if_pos h.lasts, h.burnt]
  exact ⟨rfl, rfl⟩
theorem Plain.wrote {s : Flash} (h : Plain s) (j : Nat) (b : List Nat) : Plain (s.wrote j b) := ⟨h.dead, h.fused⟩
theorem plain_fresh (l : List Nat) : Plain (Flash.fresh l) := ⟨rfl, rfl⟩
theorem field_at (ad : Addr) (k j : Nat) : (ad.add k).add (j + 1) = ⟨(ad.add k).block, (ad.add k).off + (j + 1), none⟩ := by
  unfold Addr.add
  by_cases hk : k = 0 <;> simp [hk, Nat.add_assoc]
theorem Bls.take {B : Nat} {w : World} {A : Option Addr} {l : List Bool} (h : Bls w B A l) (n : Nat) : Bls w B A (l.take n) := fun k hk => by
  rw [List.length_take] at hk
  obtain ⟨ad, h1, h2, h3⟩ := h k (by omega)
  exact ⟨ad, h1, h2, by rw [h3, List.getD_eq_getElem?_getD, List.getD_eq_getElem?_getD, List.getElem?_take_of_lt (by omega)]⟩
theorem Trs.take {B : Nat} {w : World} {A : Option Addr} {l : List (Int × Int)} (h : Trs w B A l) (n : Nat) : Trs w B A (l.take n) := fun k hk => by
  rw [List.length_take] at hk
  obtain ⟨ad, h1, h2, h3, h4⟩ := h k (by omega)
  have e : (l.take n).getD k (0, 0) = l.getD k (0, 0) := by rw [List.getD_eq_getElem?_getD, List.getD_eq_getElem?_getD, List.getElem?_take_of_lt (by omega)]
  exact ⟨ad, h1, h2, by rw [e]; exact h3, by rw [e]; exact h4⟩
theorem Bls.up' {w w' : World} {A : Option Addr} {l : List Bool} (h : Bls w w.heap.size A l) (hb : Below w.heap.size w w') : Bls w' w'.heap.size A l := (h.below hb (Nat.le_refl _)).up hb.size
theorem Bs.next {w w' : World} {A : Option Addr} {l : List Nat} (h : Bs w w.heap.size A l) (hb : Below w.heap.size w w') : Bs w' w'.heap.size A l := (h.below hb (Nat.le_refl _)).more hb.size
theorem Dev.next {w w' : World} {g c m n : Nat} {s : Flash} (h : Dev w g c m n s) (hb : Below w.heap.size w w') : Dev w' g c m n s := h.below hb h.lt.1 h.lt.2.1 h.lt.2.2
/-- What stays true at the end of a law on crashes. -/
structure EndAt (w wx : World) (n g c m : Nat) (s : Flash) (g' c' m' : Nat) (C : List Nat) (r : Nat) (all : List Bool) (Ao : Option Addr) (lo : List Nat) : Prop where
  dev : Dev wx g c m n s
  below : Below w.heap.size w wx
  dev' : Dev wx g' c' m' n (Flash.fresh C)
  all_ : Bls wx wx.heap.size (some ⟨r, 0, none⟩) all
  olds : Bs wx wx.heap.size Ao lo
theorem EndAt.next {w wx wy : World} {n g c m : Nat} {s : Flash} {g' c' m' : Nat} {C : List Nat} {r : Nat} {all : List Bool} {Ao : Option Addr} {lo : List Nat} (h : EndAt w wx n g c m s g' c' m' C r all Ao lo) (hb : Below wx.heap.size wx wy) : EndAt w wy n g c m s g' c' m' C r all Ao lo :=
  ⟨h.dev.next hb, h.below.trans (hb.mono h.below.size), h.dev'.next hb, h.all_.up' hb, h.olds.next hb⟩
theorem EndAt.drewN {w wx : World} {n g c m : Nat} {s : Flash} {g' c' m' : Nat} {C : List Nat} {r : Nat} {all : List Bool} {Ao : Option Addr} {lo : List Nat} (h : EndAt w wx n g c m s g' c' m' C r all Ao lo) (k : Nat) : EndAt w (wx.drewN k) n g c m s g' c' m' C r all Ao lo :=
  ⟨h.dev, ⟨h.below.os, h.below.tape, h.below.output, h.below.size, h.below.block⟩, h.dev', h.all_, h.olds⟩
end Go.Proofs.YtgnbmmceffolmaaGreatDoor
end
section
set_option maxRecDepth 100000
namespace Go.Proofs.YtgnbmmceffolmaaGreatDoor
open Go.RowKit Go.Maps
theorem OpIs.cells {w : World} {B k : Nat} {ad : Addr} {kd ix : Int} {Ab : Option Addr} {nb cb : Nat} {lb : List Nat} {Ak : Option Addr} {nk ck : Nat} {lk : List Bool} {At : Option Addr} {nt ct : Nat} {lt : List (Int × Int)}
    (h : OpIs w B (ad.add k) kd ix Ab nb cb lb Ak nk ck lk At nt ct lt) :
    w.cell? (ad.add k) = some (.int .i64 kd) ∧ w.cell? ⟨(ad.add k).block, (ad.add k).off + 1, none⟩ = some (.int .i64 ix) ∧ w.cell? ⟨(ad.add k).block, (ad.add k).off + 2, none⟩ = some (.slice Ab nb cb) ∧
      w.cell? ⟨(ad.add k).block, (ad.add k).off + 3, none⟩ = some (.slice Ak nk ck) ∧ w.cell? ⟨(ad.add k).block, (ad.add k).off + 4, none⟩ = some (.slice At nt ct) := by
  refine ⟨?_, ?_, ?_, ?_, ?_⟩
  · have e : (ad.add k).add 0 = ad.add k := by unfold Addr.add; rfl
    rw [← e]; exact h.c0
  · rw [← field_at ad k 0]; exact h.c1
  · rw [← field_at ad k 1]; exact h.c2
  · rw [← field_at ad k 2]; exact h.c3
  · rw [← field_at ad k 3]; exact h.c4
/-- What holds at the head of the rounds of DeviceKeep. -/
structure KeepAt (w wr : World) (g c m i : Nat) (s : Flash) (Ao : Option Addr) (no : Nat) : Prop where
  dev : Dev wr g c m 5 s
  plain : Plain s
  wr_ : s.wr ≤ i
  below : Below w.heap.size w wr
  olds : Bs wr wr.heap.size Ao (crashed 5 s.cur s.old [] [])
  olen : no = 5 * 64
  far : ∀ ad, Ao = some ad → w.heap.size ≤ ad.block ∧ ad.block ≠ g ∧ ad.block ≠ c ∧ ad.block ≠ m
end Go.Proofs.YtgnbmmceffolmaaGreatDoor
end
section
set_option maxRecDepth 100000
namespace Go.Proofs.YtgnbmmceffolmaaGreatDoor
open Go.RowKit Go.Maps
/-- A row of bools in a block of its own. -/
def bvals (L : List Bool) : List Value := L.map fun x => .bool x
def BRow (w : World) (G : Nat) (L : List Bool) : Prop := w.heap[G]? = some (.cells (bvals L).toArray 4 (0, 0))
theorem BRow.cell {w : World} {G : Nat} {L : List Bool} (h : BRow w G L) {j : Nat} (hj : j < L.length) : w.cell? ⟨G, j, none⟩ = some (.bool (L.getD j false)) ∧ w.frozen? ⟨G, j, none⟩ = false := by
  refine ⟨?_, frozen_of_row w G j _ _ h⟩
  rw [cell_of_row w G j _ _ _ h, List.getElem?_toArray]
  unfold bvals
  rw [List.getElem?_map, List.getElem?_eq_getElem hj, List.getD_eq_getElem?_getD, List.getElem?_eq_getElem hj]; rfl
theorem BRow.set {w : World} {G : Nat} {L : List Bool} (h : BRow w G L) (j : Nat) (x : Bool) : BRow (w.setCell ⟨G, j, none⟩ (.bool x)) G (L.set j x) := by
  unfold BRow
  rw [heap_setCell_same w G j _ _ _ h]
  simp [bvals, List.map_set]
theorem info_bool : (Tryz.prog.info? 4).map (fun i => (i.zero, i.size, i.bytes)) = some (some (.bool false), 1, 1) := by kernel_rfl
theorem made_bvals (k : Nat) : (madeCells (Value.cells (.bool false)) (k * 1)).toList = bvals (List.replicate k false) := by
  simp only [madeCells, bvals, Value.cells, List.map_replicate]
  apply List.ext_getElem
  · simp
  · intro i h1 h2
    simp [Nat.mod_one]
/-- What holds at the head of the second loop's rounds. -/
structure SafeAt (w wr : World) (g c m i : Nat) (s : Flash) (go : Nat) (lo : List Nat) (gt : Nat) (Tl : List Bool) : Prop where
  dev : Dev wr g c m 6 s
  plain : Plain s
  wr_ : s.wr ≤ 6 + i
  below : Below w.heap.size w wr
  olds : Bs wr wr.heap.size (some ⟨go, 0, none⟩) lo
  lo_ : lo = crashed 6 s.cur s.old [] []
  row : BRow wr gt Tl
  tl : Tl.length = 6
  marks : ∀ q, q < 6 → (s.old q).isSome = true → Tl.getD q false = true
  far : go ≠ g ∧ go ≠ c ∧ go ≠ m ∧ gt ≠ g ∧ gt ≠ c ∧ gt ≠ m ∧ go ≠ gt ∧ w.heap.size ≤ go ∧ w.heap.size ≤ gt
end Go.Proofs.YtgnbmmceffolmaaGreatDoor
end
section
set_option maxRecDepth 100000
namespace Go.Proofs.YtgnbmmceffolmaaGreatDoor
open Go.RowKit Go.Maps
/-- The bytes at the last Barrier. -/
def oldImg (n : Nat) (s : Flash) : List Nat := crashed n s.cur s.old [] []
def dirtL (n : Nat) (old : Nat → Option (List Nat)) : List Bool := (List.range n).map fun i => (old i).isSome
theorem dirtL_len (n : Nat) (old : Nat → Option (List Nat)) : (dirtL n old).length = n := by simp [dirtL]
/-- What every state of a device keeps. -/
structure FlashOk (n : Nat) (s : Flash) : Prop where
  n1 : 1 ≤ n
  n2 : n ≤ 1048576
  len : s.cur.length = n * 64
  lt : ∀ x ∈ s.cur, x < 256
  olds : ∀ i l, s.old i = some l → l.length = 64 ∧ ∀ x ∈ l, x < 256
  fuse : s.fused = true → 0 ≤ s.fuse ∧ s.fuse ≤ 9223372036854775807
theorem Dev.ok {w : World} {g c m n : Nat} {s : Flash} (h : Dev w g c m n s) : FlashOk n s := by
  obtain ⟨rest, D, hh, hc, hm, ho, hl, hb, hn1, hn2, hcap, hgc, hfu⟩ := h
  exact ⟨hn1, hn2, hl, hb, ho.len, hfu⟩
theorem oldImg_len (n : Nat) (s : Flash) : (oldImg n s).length = n * 64 := crashed_len _ _ _ _ _
theorem getD_mem {l : List Nat} {p : Nat} (hp : p < l.length) : l.getD p 0 ∈ l := by
  rw [List.getD_eq_getElem?_getD, List.getElem?_eq_getElem hp]; exact List.getElem_mem hp
/-- The reference's device: the struct in block g, the old bytes in o, the new ones in v, the marks in t. -/
def RDev (w : World) (g o v t n lo : Nat) (s : Flash) : Prop :=
  ∃ (ro rv : List Value) (left : Int),
    w.heap[g]? = some (.cells #[.slice (some ⟨o, 0, none⟩) (n * 64) (n * 64 + ro.length), .slice (some ⟨v, 0, none⟩) (n * 64) (n * 64 + rv.length), .slice (some ⟨t, 0, none⟩) n n, .bool s.fused, .int .i64 left, .bool s.dead, .int .i64 (s.wr : Int)] 59 (0, 0)) ∧
    w.heap[o]? = some (.cells (vals (oldImg n s) ++ ro).toArray 5 (0, 0)) ∧ w.heap[v]? = some (.cells (vals s.cur ++ rv).toArray 5 (0, 0)) ∧ BRow w t (dirtL n s.old) ∧
    (s.fused = true → left = s.fuse) ∧ -(lo : Int) ≤ left ∧ left ≤ 9223372036854775807 ∧ n * 64 + ro.length ≤ 9223372036854775807 ∧ n * 64 + rv.length ≤ 9223372036854775807 ∧
    g ≠ o ∧ g ≠ v ∧ g ≠ t ∧ o ≠ v ∧ o ≠ t ∧ v ≠ t
theorem rd7 {w : World} {g : Nat} {a0 a1 a2 a3 a4 a5 a6 : Value} {t : TypeId} (h : w.heap[g]? = some (.cells #[a0, a1, a2, a3, a4, a5, a6] t (0, 0))) :
    (w.cell? ⟨g, 0, none⟩ = some a0 ∧ w.cell? ⟨g, 1, none⟩ = some a1 ∧ w.cell? ⟨g, 2, none⟩ = some a2 ∧ w.cell? ⟨g, 3, none⟩ = some a3 ∧ w.cell? ⟨g, 4, none⟩ = some a4 ∧ w.cell? ⟨g, 5, none⟩ = some a5 ∧ w.cell? ⟨g, 6, none⟩ = some a6) ∧
    (w.frozen? ⟨g, 3, none⟩ = false ∧ w.frozen? ⟨g, 4, none⟩ = false ∧ w.frozen? ⟨g, 5, none⟩ = false ∧ w.frozen? ⟨g, 6, none⟩ = false) := by
  refine ⟨⟨?_, ?_, ?_, ?_, ?_, ?_, ?_⟩, ⟨?_, ?_, ?_, ?_⟩⟩
  · rw [cell_of_row w g 0 _ t (0, 0) h]; rfl
  · rw [cell_of_row w g 1 _ t (0, 0) h]; rfl
  · rw [cell_of_row w g 2 _ t (0, 0) h]; rfl
  · rw [cell_of_row w g 3 _ t (0, 0) h]; rfl
  · rw [cell_of_row w g 4 _ t (0, 0) h]; rfl
  · rw [cell_of_row w g 5 _ t (0, 0) h]; rfl
  · rw [cell_of_row w g 6 _ t (0, 0) h]; rfl
  · exact frozen_of_row w g 3 _ t h
  · exact frozen_of_row w g 4 _ t h
  · exact frozen_of_row w g 5 _ t h
  · exact frozen_of_row w g 6 _ t h
section
variable {w w' : World} {g o v t n lo : Nat} {s : Flash}
theorem RDev.block (h : RDev w g o v t n lo s) (hg : w'.heap[g]? = w.heap[g]?) (ho : w'.heap[o]? = w.heap[o]?) (hv : w'.heap[v]? = w.heap[v]?) (ht : w'.heap[t]? = w.heap[t]?) : RDev w' g o v t n lo s := by
  obtain ⟨ro, rv, left, h1, h2, h3, h4, h5⟩ := h
  exact ⟨ro, rv, left, hg.trans h1, ho.trans h2, hv.trans h3, ht.trans h4, h5⟩
theorem RDev.lt (h : RDev w g o v t n lo s) : g < w.heap.size ∧ o < w.heap.size ∧ v < w.heap.size ∧ t < w.heap.size := by
  obtain ⟨ro, rv, left, h1, h2, h3, h4, h5⟩ := h
  exact ⟨(Array.getElem?_eq_some_iff.1 h1).1, (Array.getElem?_eq_some_iff.1 h2).1, (Array.getElem?_eq_some_iff.1 h3).1, (Array.getElem?_eq_some_iff.1 h4).1⟩
theorem RDev.kept {S : Nat → Prop} (h : RDev w g o v t n lo s) (hk : Kept S w w') (hg : ¬ S g) (ho : ¬ S o) (hv : ¬ S v) (ht : ¬ S t) : RDev w' g o v t n lo s :=
  h.block (hk.block g h.lt.1 hg) (hk.block o h.lt.2.1 ho) (hk.block v h.lt.2.2.1 hv) (hk.block t h.lt.2.2.2 ht)
theorem RDev.next (h : RDev w g o v t n lo s) (hb : Below w.heap.size w w') : RDev w' g o v t n lo s := h.block (hb.block g h.lt.1) (hb.block o h.lt.2.1) (hb.block v h.lt.2.2.1) (hb.block t h.lt.2.2.2)
theorem RDev.apart (h : RDev w g o v t n lo s) : g ≠ o ∧ g ≠ v ∧ g ≠ t ∧ o ≠ v ∧ o ≠ t ∧ v ≠ t := by
  obtain ⟨ro, rv, left, h1, h2, h3, h4, _, _, _, _, _, h5⟩ := h
  exact h5
theorem RDev.more {k : Nat} (h : RDev w g o v t n lo s) (hk : lo ≤ k) : RDev w g o v t n k s := by
  obtain ⟨ro, rv, left, h1, h2, h3, h4, h5, h6, h7⟩ := h
  exact ⟨ro, rv, left, h1, h2, h3, h4, h5, by omega, h7⟩
/-- The struct alone written. -/
theorem rdev_struct (h : RDev w g o v t n lo s) (s' : Flash) (lo' : Nat) (hcur : s'.cur = s.cur) (hold : s'.old = s.old) (hk : Kept (fun k => k = g) w w')
    (hg : ∀ a0 a1 a2 left, (s.fused = true → left = s.fuse) → -(lo : Int) ≤ left → left ≤ 9223372036854775807 → w.heap[g]? = some (.cells #[a0, a1, a2, .bool s.fused, .int .i64 left, .bool s.dead, .int .i64 (s.wr : Int)] 59 (0, 0)) →
      ∃ left', w'.heap[g]? = some (.cells #[a0, a1, a2, .bool s'.fused, .int .i64 left', .bool s'.dead, .int .i64 (s'.wr : Int)] 59 (0, 0)) ∧ (s'.fused = true → left' = s'.fuse) ∧ -(lo' : Int) ≤ left' ∧ left' ≤ 9223372036854775807) : RDev w' g o v t n lo' s' := by
  obtain ⟨a1, a2, a3, a4, a5, a6⟩ := h.apart
  obtain ⟨l1, l2, l3, l4⟩ := h.lt
  obtain ⟨ro, rv, left, hh, ho, hv, ht, hf, hlo, hhi, hr⟩ := h
  obtain ⟨left', e1, e2, e3, e4⟩ := hg _ _ _ left hf hlo hhi hh
  refine ⟨ro, rv, left', e1, ?_, ?_, ?_, e2, e3, e4, hr⟩
  · rw [show oldImg n s' = oldImg n s by unfold oldImg; rw [hcur, hold]]
    exact (hk.block o l2 (fun e => a1 e.symm)).trans ho
  · rw [hcur]; exact (hk.block v l3 (fun e => a2 e.symm)).trans hv
  · rw [hold]; exact (hk.block t l4 (fun e => a3 e.symm)).trans ht
theorem rburn_any (hlo : lo ≤ 1000) (hd : Hid (RDev w g o v t n lo s)) :
    Calls Tryz.prog 71 #[.pointer (some ⟨g, 0, none⟩)] w fun e w' => e = .returned (.bool s.lasts) ∧ RDev w' g o v t n (lo + 1) s.burnt ∧ Kept (fun k => k = g) w w' := by
  obtain ⟨ro, rv, left, hh, ho, hv, ht, hf, hlo1, hhi, hr⟩ := hd.out
  obtain ⟨⟨-, -, -, c3, c4, c5, -⟩, -, f4, f5, -⟩ := rd7 hh
  have H := Lib.hid (And.intro hh (And.intro ho (And.intro hv ht))); clear hh ho hv ht hr
  by_cases hfu : s.fused = true
  · have hl := hf hfu
    clear hf
    rw [hfu] at c3
    by_cases h0 : s.fuse = 0
    · rw [hl, h0] at c4
      have HF := Lib.hid (And.intro hfu (And.intro h0 hl)); clear hfu h0 hl
      go_enter Tryz.func71, Tryz.ntmps71
      go_wp2
      go_ret
      have K : Kept (fun k => k = g) w (w.setCell ⟨g, 5, none⟩ (.bool true)) := Kept.setCell (S := fun k => k = g) w ⟨g, 5, none⟩ _ rfl
      have e : s.burnt = { s with dead := true } := by rw [Flash.burnt, if_pos HF.out.1, if_pos HF.out.2.1]
      refine ⟨by simp [Flash.lasts, HF.out.1, HF.out.2.1], ?_, K⟩
      rw [e]
      refine rdev_struct hd.out _ _ rfl rfl K (fun a0 a1 a2 left h1 h2 h3 h => ⟨left, ?_, h1, by omega, h3⟩)
      simp [World.setCell, Array.getElem?_modify, h]
    · have h1 : (left == 0) = false := by rw [hl]; simpa using h0
      have HF := Lib.hid (And.intro hfu (And.intro h0 hl)); clear hfu h0 hl
      go_enter Tryz.func71, Tryz.ntmps71
      go_wp2
      go_ret
      have K : Kept (fun k => k = g) w (w.setCell ⟨g, 4, none⟩ (.int .i64 (left - 1))) := Kept.setCell (S := fun k => k = g) w ⟨g, 4, none⟩ _ rfl
      have e : s.burnt = { s with fuse := s.fuse - 1 } := by rw [Flash.burnt, if_pos HF.out.1, if_neg HF.out.2.1]
      refine ⟨by simp [Flash.lasts, HF.out.1, HF.out.2.1], ?_, K⟩
      rw [e]
      refine rdev_struct hd.out _ _ rfl rfl K (fun a0 a1 a2 left2 h1 h2 h3 h => ⟨left - 1, ?_, fun _ => by rw [HF.out.2.2], by omega, by omega⟩)
      simp [World.setCell, Array.getElem?_modify, h]
  · have hfu' : s.fused = false := by simpa using hfu
    rw [hfu'] at c3
    clear hf
    have HF := Lib.hid hfu; clear hfu
    have HF' := Lib.hid hfu'; clear hfu'
    go_enter Tryz.func71, Tryz.ntmps71
    go_wp2
    go_ret
    have K : Kept (fun k => k = g) w (w.setCell ⟨g, 4, none⟩ (.int .i64 (left - 1))) := Kept.setCell (S := fun k => k = g) w ⟨g, 4, none⟩ _ rfl
    have e : s.burnt = s := by rw [Flash.burnt, if_neg HF.out]
    refine ⟨by simp [Flash.lasts, HF'.out], ?_, K⟩
    rw [e]
    refine rdev_struct hd.out _ _ rfl rfl K (fun a0 a1 a2 left2 h1 h2 h3 h => ⟨left - 1, ?_, fun h => absurd h HF.out, by omega, by omega⟩)
    simp [World.setCell, Array.getElem?_modify, h]
end
end Go.Proofs.YtgnbmmceffolmaaGreatDoor
end
section
set_option maxRecDepth 100000
namespace Go.Proofs.YtgnbmmceffolmaaGreatDoor
open Go.RowKit Go.Maps
section
variable {w w' : World} {g o v t n lo : Nat} {s : Flash}
end
section
variable {w w' : World} {g o v t n lo : Nat} {s : Flash}
theorem RDev.bytes (h : RDev w g o v t n lo s) (hk : FlashOk n s) : Bs w w.heap.size (some ⟨v, 0, none⟩) s.cur := by
  obtain ⟨ro, rv, left, hh, ho, hv, ht, hf, hlo1, hhi, hr⟩ := h
  intro k hkl
  refine ⟨hk.lt _ (getD_mem hkl), _, rfl, (Array.getElem?_eq_some_iff.1 hv).1, ?_⟩
  rw [add_flat, Nat.zero_add, cell_of_row w v k _ _ _ hv, List.getElem?_toArray, List.getElem?_append_left (by rw [vals_length]; exact hkl)]
  exact vals_at hkl
end
end Go.Proofs.YtgnbmmceffolmaaGreatDoor
end
section
set_option maxRecDepth 100000
namespace Go.Proofs.YtgnbmmceffolmaaGreatDoor
open Go.RowKit Go.Maps
def rS (g o v t : Nat) (k : Nat) : Prop := k = g ∨ k = o ∨ k = v ∨ k = t
def RDid (w : World) (g o v t n lo : Nat) (s : Flash) (k : Int) (e : Ending) (w' : World) : Prop := e = .returned (.int .i64 k) ∧ RDev w' g o v t n lo s ∧ Kept (rS g o v t) w w'
/-- The new bytes when k bytes of the sector are written. -/
def partly (cur b : List Nat) (i k : Nat) : List Nat := cur.take (i * 64) ++ (pad b).take k ++ cur.drop (i * 64 + k)
theorem partly_zero (cur b : List Nat) (i : Nat) : partly cur b i 0 = cur := by simp [partly]
theorem partly_end {b : List Nat} (hb : b.length ≤ 64) (cur : List Nat) (i : Nat) : partly cur b i 64 = putSec cur i (pad b) := by
  unfold partly putSec
  rw [List.take_of_length_le (l := pad b) (by rw [pad_len hb]; omega)]
theorem pad_get {b : List Nat} (k : Nat) : (pad b).getD k 0 = if k < b.length then b.getD k 0 else 0 := by
  unfold pad
  rw [List.getD_eq_getElem?_getD, List.getD_eq_getElem?_getD]
  by_cases h : k < b.length
  · rw [if_pos h, List.getElem?_append_left h]
  · rw [if_neg h, List.getElem?_append_right (by omega), List.getElem?_replicate]
    split <;> rfl
theorem partly_len {cur b : List Nat} {n i k : Nat} (hl : cur.length = n * 64) (hi : i < n) (hb : b.length ≤ 64) (hk : k ≤ 64) : (partly cur b i k).length = n * 64 := by
  unfold partly
  rw [List.length_append, List.length_append, List.length_take, List.length_take, List.length_drop, pad_len hb]
  omega
theorem partly_get {cur b : List Nat} {n i k : Nat} (hl : cur.length = n * 64) (hi : i < n) (hb : b.length ≤ 64) (hk : k ≤ 64) (p : Nat) :
    (partly cur b i k).getD p 0 = if i * 64 ≤ p ∧ p < i * 64 + k then (pad b).getD (p - i * 64) 0 else cur.getD p 0 := by
  have hpl := pad_len hb
  unfold partly
  simp only [List.getD_eq_getElem?_getD]
  by_cases h1 : p < i * 64
  · rw [if_neg (by omega), List.append_assoc, List.getElem?_append_left (by rw [List.length_take]; omega), List.getElem?_take_of_lt h1]
  · by_cases h2 : p < i * 64 + k
    · rw [if_pos ⟨by omega, h2⟩, List.getElem?_append_left (by rw [List.length_append, List.length_take, List.length_take]; omega), List.getElem?_append_right (by rw [List.length_take]; omega), List.getElem?_take_of_lt (by rw [List.length_take]; omega), List.length_take, Nat.min_eq_left (by omega)]
    · rw [if_neg (by omega), List.getElem?_append_right (by rw [List.length_append, List.length_take, List.length_take]; omega), List.getElem?_drop, List.length_append, List.length_take, List.length_take]
      congr 2
      omega
theorem partly_set {cur b : List Nat} {n i k : Nat} (hl : cur.length = n * 64) (hi : i < n) (hb : b.length ≤ 64) (hk : k < 64) : (partly cur b i k).set (i * 64 + k) ((pad b).getD k 0) = partly cur b i (k + 1) := by
  refine list_ext (k := n * 64) (by rw [List.length_set]; exact partly_len hl hi hb (by omega)) (partly_len hl hi hb (by omega)) (fun p hp => ?_)
  rw [getD_set (by rw [partly_len hl hi hb (by omega)]; omega), partly_get hl hi hb (by omega) p, partly_get hl hi hb (by omega) p]
  by_cases e : p = i * 64 + k
  · subst e
    rw [if_pos rfl, if_pos ⟨by omega, by omega⟩]
    congr 1; omega
  · rw [if_neg e]
    by_cases h1 : i * 64 ≤ p ∧ p < i * 64 + k
    · rw [if_pos h1, if_pos ⟨h1.1, by omega⟩]
    · rw [if_neg h1, if_neg (by omega)]
def VRow (w : World) (v : Nat) (L : List Nat) (rv : List Value) : Prop := w.heap[v]? = some (.cells (vals L ++ rv).toArray 5 (0, 0))
theorem VRow.cell {w : World} {v : Nat} {L : List Nat} {rv : List Value} (h : VRow w v L rv) {j : Nat} (hj : j < L.length) : w.cell? ⟨v, j, none⟩ = some (.int .u8 ((L.getD j 0 : Nat) : Int)) ∧ w.frozen? ⟨v, j, none⟩ = false := by
  refine ⟨?_, frozen_of_row w v j _ _ h⟩
  rw [cell_of_row w v j _ _ _ h, List.getElem?_toArray, List.getElem?_append_left (by rw [vals_length]; exact hj)]
  exact vals_at hj
theorem VRow.set {w : World} {v : Nat} {L : List Nat} {rv : List Value} (h : VRow w v L rv) (j x : Nat) (hj : j < L.length) : VRow (w.setCell ⟨v, j, none⟩ (.int .u8 (x : Int))) v (L.set j x) rv := by
  unfold VRow
  rw [heap_setCell_same w v j _ _ _ h]
  have e : (vals L ++ rv).set j (.int .u8 (x : Int)) = vals (L.set j x) ++ rv := by
    rw [List.set_append_left _ _ (by rw [vals_length]; exact hj)]
    simp only [vals, List.map_set]
  rw [← e]
  simp
theorem dirtL_put {n i : Nat} (s : Flash) (b : List Nat) : dirtL n (s.wrote i b).old = (dirtL n s.old).set i true := by
  apply List.ext_getElem
  · simp [dirtL]
  · intro k h1 h2
    rw [List.getElem_set]
    simp only [dirtL, List.getElem_map, List.getElem_range, Flash.wrote]
    by_cases e : i = k
    · subst e; simp
    · rw [if_neg e, if_neg (fun h => e h.symm)]
section
variable {w : World} {g o v t n lo : Nat} {s : Flash}
theorem rwrite_dead (i : Int) (x : Value) (hd : Hid (RDev w g o v t n lo s)) (hdead : Hid (s.dead = true)) :
    Calls Tryz.prog 40 #[.pointer (some ⟨g, 0, none⟩), .int .i64 i, x] w (RDid w g o v t n lo s 1) := by
  obtain ⟨ro, rv, left, hh, ho, hv, ht, hf, hlo1, hhi, hr⟩ := hd.out
  obtain ⟨⟨-, -, -, -, -, c5, -⟩, -⟩ := rd7 hh
  rw [hdead.out] at c5
  clear hh ho hv ht hf hr
  go_enter Tryz.func40, Tryz.ntmps40
  go_wp2
  go_ret
  exact ⟨rfl, hd.out, Kept.refl _ _⟩
theorem rwrite_range (i : Int) (x : Value) (hi : i < 0 ∨ (n : Int) ≤ i) (hd : Hid (RDev w g o v t n lo s)) (hdead : Hid (s.dead = false)) :
    Calls Tryz.prog 40 #[.pointer (some ⟨g, 0, none⟩), .int .i64 i, x] w (RDid w g o v t n lo s 2) := by
  obtain ⟨ro, rv, left, hh, ho, hv, ht, hf, hlo1, hhi, hr⟩ := hd.out
  obtain ⟨⟨-, -, c2, -, -, c5, -⟩, -⟩ := rd7 hh
  rw [hdead.out] at c5
  clear hh ho hv ht hf hr
  by_cases h0 : i < 0
  · clear hi
    go_enter Tryz.func40, Tryz.ntmps40
    go_wp2
    go_ret
    exact ⟨rfl, hd.out, Kept.refl _ _⟩
  · have h1 : decide (i < 0) = false := by simpa using h0
    have h2 : (n : Int) ≤ i := by omega
    clear hi h0
    go_enter Tryz.func40, Tryz.ntmps40
    go_wp2
    go_ret
    exact ⟨rfl, hd.out, Kept.refl _ _⟩
theorem rwrite_long (i : Nat) (hi : i < n) (A : Option Addr) (k cb : Nat) (hk : 64 < k) (hkm : k ≤ 9223372036854775807) (hd : Hid (RDev w g o v t n lo s)) (hdead : Hid (s.dead = false)) :
    Calls Tryz.prog 40 #[.pointer (some ⟨g, 0, none⟩), .int .i64 (i : Int), .slice A k cb] w (RDid w g o v t n lo s 3) := by
  obtain ⟨ro, rv, left, hh, ho, hv, ht, hf, hlo1, hhi, hr⟩ := hd.out
  obtain ⟨⟨-, -, c2, -, -, c5, -⟩, -⟩ := rd7 hh
  rw [hdead.out] at c5
  clear hh ho hv ht hf hr
  have h1 : decide ((i : Int) < 0) = false := by simp
  have h2 : decide (n ≤ i) = false := by simp; omega
  go_enter Tryz.func40, Tryz.ntmps40
  go_wp2
  go_ret
  exact ⟨rfl, hd.out, Kept.refl _ _⟩
theorem rwrite_burnt (i : Nat) (hi : i < n) (A : Option Addr) (k cb : Nat) (hk : k ≤ 64) (hlo : lo ≤ 1000) (hd : Hid (RDev w g o v t n lo s)) (hdead : Hid (s.dead = false)) (hlast : Hid (s.lasts = false)) :
    Calls Tryz.prog 40 #[.pointer (some ⟨g, 0, none⟩), .int .i64 (i : Int), .slice A k cb] w (RDid w g o v t n (lo + 1) s.burnt 1) := by
  obtain ⟨ro, rv, left, hh, ho, hv, ht, hf, hlo1, hhi, hr⟩ := hd.out
  obtain ⟨⟨-, -, c2, -, -, c5, -⟩, -⟩ := rd7 hh
  rw [hdead.out] at c5
  clear hh ho hv ht hf hr
  have h1 : decide ((i : Int) < 0) = false := by simp
  have h2 : decide (n ≤ i) = false := by simp; omega
  have h3 : decide (64 < k) = false := by simpa using hk
  go_enter Tryz.func40, Tryz.ntmps40
  go_wp2_with (go_at_call 71; refine (rburn_any hlo hd).mono ?_; rw [hlast.out]; rintro e w1 ⟨rfl, hd1, hk1⟩)
  go_ret
  exact ⟨rfl, hd1, hk1.mono fun k _ e => .inl e⟩
set_option maxHeartbeats 1000000 in
theorem rwrite_ok (i : Nat) (hi : i < n) (A : Option Addr) (B k cb : Nat) (b : List Nat) (hk : k ≤ 64) (hl : Hid (b.length = k)) (hb : Hid (Bs w B A b)) (hap : Hid (∀ ad, A = some ad → 0 < b.length → ¬ rS g o v t ad.block)) (hlo : lo ≤ 1000) (hF : FlashOk n s)
    (hd : Hid (RDev w g o v t n lo s)) (hdead : Hid (s.dead = false)) (hlast : Hid (s.lasts = true)) (hwr : s.wr < 4611686018427387904) :
    Calls Tryz.prog 40 #[.pointer (some ⟨g, 0, none⟩), .int .i64 (i : Int), .slice A k cb] w (RDid w g o v t n (lo + 1) (s.burnt.wrote i b) 0) := by
  obtain ⟨ro, rv, left, hh, ho, hv, ht, hf, hlo1, hhi, hr⟩ := hd.out
  obtain ⟨⟨-, -, c2, -, -, c5, -⟩, -⟩ := rd7 hh
  rw [hdead.out] at c5
  clear hh ho hv ht hf hr
  have h1 : decide ((i : Int) < 0) = false := by simp
  have h2 : decide (n ≤ i) = false := by simp; omega
  have h3 : decide (64 < k) = false := by simpa using hk
  have hn2 := hF.n2
  have hwr1 : s.burnt.wr < 4611686018427387904 := by rw [(burnt_cur s).2.2]; exact hwr
  have hcl : Hid (s.burnt.cur.length = n * 64) := by show _ = _; rw [(burnt_cur s).1]; exact hF.len
  have hbl : Hid (b.length ≤ 64) := by show _ ≤ _; rw [hl.out]; exact hk
  clear hF
  go_enter Tryz.func40, Tryz.ntmps40
  go_wp2_with (go_at_call 71; refine (rburn_any hlo hd).mono ?_; rw [hlast.out]; rintro e w1 ⟨rfl, hd1, hk1⟩)
  clear c2 c5 h1 h2 h3
  have HD1 : Hid (RDev w1 g o v t n (lo + 1) s.burnt) := hd1
  have HB1 : Hid (Bs w1 B A b) := hb.out.kept hk1 (fun ad e h h' => hap.out ad e h (.inl h'))
  have HK1 := Lib.hid hk1
  clear hd1 hk1
  obtain ⟨ro, rv, left1, hh, ho, hv, ht, hf, hlo2, hhi2, hco, hcv, hr⟩ := HD1.out
  have HP := Lib.hid (And.intro hh (And.intro ho (And.intro ht (And.intro hf (And.intro hlo2 (And.intro hhi2 (And.intro hco (And.intro hcv hr))))))))
  have HV : Hid (VRow w1 v (partly s.burnt.cur b i 0) rv) := by show VRow _ _ _ _; rw [partly_zero]; exact hv
  clear hh ho hv ht hf hr hco hlo2 hhi2
  go_loopw [7] (fun iv wr => ∃ j : Nat, j ≤ 64 ∧ iv = .int .i64 (j : Int) ∧ Hid (VRow wr v (partly s.burnt.cur b i j) rv) ∧ Hid (Kept (fun k => k = v) w1 wr)) (fun iv _ => 64 - (RowKit.intOf iv).toNat)
  case atStart => exact ⟨0, by omega, rfl, HV, Kept.refl _ _⟩
  case round =>
    obtain ⟨j, hj, rfl, hrow, hkw⟩ := hrel
    have HG : Hid (wr.heap[g]? = some (.cells #[.slice (some ⟨o, 0, none⟩) (n * 64) (n * 64 + ro.length), .slice (some ⟨v, 0, none⟩) (n * 64) (n * 64 + rv.length), .slice (some ⟨t, 0, none⟩) n n, .bool s.burnt.fused, .int .i64 left1, .bool s.burnt.dead, .int .i64 (s.burnt.wr : Int)] 59 (0, 0))) :=
      (hkw.out.block g HD1.out.lt.1 (HD1.out.apart.2.1)).trans HP.out.1
    obtain ⟨⟨-, c1, c2, -, -, -, c6⟩, -, -, -, f6⟩ := rd7 HG.out
    by_cases hlt : j < 64
    · obtain ⟨hc, hfz⟩ := hrow.out.cell (j := i * 64 + j) (by rw [partly_len hcl.out hi hbl.out (by omega)]; omega)
      have HN : Hid (∀ x, x = (pad b).getD j 0 → VRow (wr.setCell ⟨v, i * 64 + j, none⟩ (.int .u8 ((x : Nat) : Int))) v (partly s.burnt.cur b i (j + 1)) rv) := fun x hx => by
        have h := hrow.out.set (i * 64 + j) x (by rw [partly_len hcl.out hi hbl.out (by omega)]; omega)
        rw [hx, partly_set hcl.out hi hbl.out hlt] at h
        rw [hx]; exact h
      have HN2 : Hid (∀ u, Kept (fun k => k = v) w1 (wr.setCell ⟨v, i * 64 + j, none⟩ u)) := fun u => hkw.out.trans (Kept.setCell (S := fun k => k = v) wr ⟨v, i * 64 + j, none⟩ u rfl)
      by_cases hjb : j < k
      · have hBr : Bs wr B A b := HB1.out.kept hkw.out (fun ad e h h' => hap.out ad e h (.inr (.inr (.inl h'))))
        obtain ⟨hx256, ad, rfl, hab, hcb⟩ := hBr j (by rw [hl.out]; exact hjb)
        have HX : Hid (b.getD j 0 = (pad b).getD j 0) := by show _ = _; rw [pad_get, if_pos (by rw [hl.out]; exact hjb)]
        clear hBr
        generalize hgx : b.getD j 0 = x at hcb hx256
        have HX2 : Hid (x = (pad b).getD j 0) := by show _ = _; rw [← hgx]; exact HX.out
        clear hgx
        go_wp2
        go_roundw
        case rel => exact ⟨j + 1, by omega, by go_num, HN.out x HX2.out, HN2.out _⟩
        case measure => simp [RowKit.intOf]; omega
      · have hd3 : decide (j < k) = false := by simpa using hjb
        have HX : Hid (0 = (pad b).getD j 0) := by show _ = _; rw [pad_get, if_neg (by rw [hl.out]; exact hjb)]
        go_wp2
        go_roundw
        case rel => exact ⟨j + 1, by omega, by go_num, HN.out 0 HX.out, HN2.out _⟩
        case measure => simp [RowKit.intOf]; omega
    · have HT : Hid (BRow wr t (dirtL n s.burnt.old)) := (hkw.out.block t HD1.out.lt.2.2.2 (fun e => HD1.out.apart.2.2.2.2.2 e.symm)).trans HP.out.2.2.1
      obtain ⟨ct, ft⟩ := HT.out.cell (j := i) (by rw [dirtL_len]; exact hi)
      have c6' : (wr.setCell ⟨t, i, none⟩ (.bool true)).cell? ⟨g, 6, none⟩ = some (.int .i64 (s.burnt.wr : Int)) := by
        rw [cell_of_row _ g 6 _ _ _ (((Kept.setCell (S := fun k => k = t) wr ⟨t, i, none⟩ (.bool true) rfl).block g (by have := HD1.out.lt; have := hkw.out.size; omega) HD1.out.apart.2.2.1).trans HG.out)]; rfl
      have f6' : (wr.setCell ⟨t, i, none⟩ (.bool true)).frozen? ⟨g, 6, none⟩ = false :=
        frozen_of_row _ g 6 _ _ (((Kept.setCell (S := fun k => k = t) wr ⟨t, i, none⟩ (.bool true) rfl).block g (by have := HD1.out.lt; have := hkw.out.size; omega) HD1.out.apart.2.2.1).trans HG.out)
      go_wp2
      go_ret
      obtain rfl : j = 64 := by omega
      obtain ⟨a1, a2, a3, a4, a5, a6⟩ := HD1.out.apart
      have K2 : Kept (fun k => k = t ∨ k = g) wr ((wr.setCell ⟨t, i, none⟩ (.bool true)).setCell ⟨g, 6, none⟩ (.int .i64 ((s.burnt.wr : Int) + 1))) :=
        (Kept.setCell (S := fun k => k = t ∨ k = g) wr ⟨t, i, none⟩ _ (.inl rfl)).trans (Kept.setCell (S := fun k => k = t ∨ k = g) _ ⟨g, 6, none⟩ _ (.inr rfl))
      have l1 := HD1.out.lt
      have l2 := hkw.out.size
      have k1 : Kept (rS g o v t) w w1 := HK1.out.mono fun k _ e => .inl e
      have k2 : Kept (rS g o v t) w1 wr := hkw.out.mono fun k _ e => .inr (.inr (.inl e))
      have k3 : Kept (rS g o v t) wr ((wr.setCell ⟨t, i, none⟩ (.bool true)).setCell ⟨g, 6, none⟩ (.int .i64 ((s.burnt.wr : Int) + 1))) := K2.mono fun k _ e => by
        rcases e with e | e
        · exact .inr (.inr (.inr e))
        · exact .inl e
      refine ⟨rfl, ⟨ro, rv, left1, ?_, ?_, ?_, ?_, ?_, HP.out.2.2.2.2.1, HP.out.2.2.2.2.2.1, HP.out.2.2.2.2.2.2.1, HP.out.2.2.2.2.2.2.2.1, HP.out.2.2.2.2.2.2.2.2⟩, (k1.trans k2).trans k3⟩
      · have h := HG.out
        have h' : (wr.setCell ⟨t, i, none⟩ (.bool true)).heap[g]? = wr.heap[g]? := (Kept.setCell (S := fun k => k = t) wr ⟨t, i, none⟩ _ rfl).block g (by omega) a3
        rw [← h'] at h
        simp [World.setCell, Array.getElem?_modify, Flash.wrote]
        simp [World.setCell, Array.getElem?_modify] at h
        simp [h]
      · rw [show oldImg n (s.burnt.wrote i b) = oldImg n s.burnt from crashed_wrote hcl.out hi hbl.out]
        exact (K2.block o (by omega) (by rintro (e | e); exact a5 e; exact a1 e.symm)).trans ((hkw.out.block o l1.2.1 a4).trans HP.out.2.1)
      · have h := hrow.out
        rw [partly_end hbl.out] at h
        exact (K2.block v (by omega) (by rintro (e | e); exact a6 e; exact a2 e.symm)).trans h
      · rw [dirtL_put]
        have h := HT.out.set i true
        exact ((Kept.setCell (S := fun k => k = g) _ ⟨g, 6, none⟩ _ rfl).block t (by simp [World.setCell]; omega) (fun e => a3 e.symm)).trans h
      · exact HP.out.2.2.2.1
theorem rwrite_any (i : Int) (A : Option Addr) (B k cb : Nat) (b : List Nat) (hkm : k ≤ 9223372036854775807) (hl : Hid (b.length = k)) (hb : Hid (Bs w B A b)) (hap : Hid (∀ ad, A = some ad → 0 < b.length → ¬ rS g o v t ad.block)) (hlo : lo ≤ 1000) (hF : FlashOk n s)
    (hd : Hid (RDev w g o v t n lo s)) (hwr : s.wr < 4611686018427387904) :
    Calls Tryz.prog 40 #[.pointer (some ⟨g, 0, none⟩), .int .i64 i, .slice A k cb] w (RDid w g o v t n (lo + 1) (s.write n i b) (s.writeErr n i b)) := by
  unfold Flash.write Flash.writeErr
  have more : ∀ {x : Flash} {k : Int} {e : Ending} {w' : World}, RDid w g o v t n lo x k e w' → RDid w g o v t n (lo + 1) x k e w' := fun ⟨h1, h2, h3⟩ => ⟨h1, h2.more (by omega), h3⟩
  by_cases h1 : s.dead = true
  · rw [if_pos (.inl h1), if_pos h1]
    exact (rwrite_dead i _ hd h1).mono fun _ _ => more
  have h1' : s.dead = false := by simpa using h1
  by_cases h2 : i < 0 ∨ (n : Int) ≤ i
  · rw [if_pos (by rcases h2 with h2 | h2; exact .inr (.inl h2); exact .inr (.inr (.inl h2))), if_neg h1, if_pos h2]
    exact (rwrite_range i _ h2 hd h1').mono fun _ _ => more
  obtain ⟨j, rfl⟩ : ∃ j : Nat, i = (j : Int) := ⟨i.toNat, by omega⟩
  by_cases h3 : 64 < b.length
  · rw [if_pos (.inr (.inr (.inr h3))), if_neg h1, if_neg h2, if_pos h3]
    have := hl.out
    exact (rwrite_long j (by omega) A k cb (by omega) hkm hd h1').mono fun _ _ => more
  have h0 : ¬ (s.dead = true ∨ (j : Int) < 0 ∨ (n : Int) ≤ (j : Int) ∨ 64 < b.length) := by
    rintro (h | h | h | h)
    · exact h1 h
    · exact h2 (.inl h)
    · exact h2 (.inr h)
    · exact h3 h
  rw [if_neg h0, if_neg h1, if_neg h2, if_neg h3]
  have hk : k ≤ 64 := by have := hl.out; omega
  by_cases h4 : s.lasts = true
  · rw [if_pos h4, if_pos h4, Int.toNat_natCast]
    exact rwrite_ok j (by omega) A B k cb b hk hl hb hap hlo hF hd h1' h4 hwr
  · rw [if_neg h4, if_neg h4]
    exact rwrite_burnt j (by omega) A k cb hk hlo hd h1' (Lib.hid (by simpa using h4))
end
end Go.Proofs.YtgnbmmceffolmaaGreatDoor
end
section
set_option maxRecDepth 100000
namespace Go.Proofs.YtgnbmmceffolmaaGreatDoor
open Go.RowKit Go.Maps
/-- The first k marks cleared. -/
def cleared (L : List Bool) (k : Nat) : List Bool := List.replicate k false ++ L.drop k
theorem cleared_len {L : List Bool} {k : Nat} (h : k ≤ L.length) : (cleared L k).length = L.length := by
  unfold cleared; rw [List.length_append, List.length_replicate, List.length_drop]; omega
theorem cleared_set {L : List Bool} {k : Nat} (h : k < L.length) : (cleared L k).set k false = cleared L (k + 1) := by
  unfold cleared
  rw [List.set_append_right _ _ (by rw [List.length_replicate]; omega), List.length_replicate, Nat.sub_self, List.drop_eq_getElem_cons h, List.set_cons_zero, List.replicate_succ']
  simp
theorem cleared_end {n : Nat} {L : List Bool} (h : L.length = n) : cleared L n = dirtL n (fun _ => none) := by
  unfold cleared
  rw [List.drop_of_length_le (by omega), List.append_nil]
  apply List.ext_getElem
  · simp [dirtL]
  · intro k h1 h2; simp [dirtL]
section
variable {w : World} {g o v t n lo : Nat} {s : Flash}
theorem rbarrier_dead (hd : Hid (RDev w g o v t n lo s)) (hdead : Hid (s.dead = true)) :
    Calls Tryz.prog 42 #[.pointer (some ⟨g, 0, none⟩)] w (RDid w g o v t n lo s 1) := by
  obtain ⟨ro, rv, left, hh, ho, hv, ht, hf, hlo1, hhi, hr⟩ := hd.out
  obtain ⟨⟨-, -, -, -, -, c5, -⟩, -⟩ := rd7 hh
  rw [hdead.out] at c5
  clear hh ho hv ht hf hr
  go_enter Tryz.func42, Tryz.ntmps42
  go_wp2
  go_ret
  exact ⟨rfl, hd.out, Kept.refl _ _⟩
theorem rbarrier_burnt (hlo : lo ≤ 1000) (hd : Hid (RDev w g o v t n lo s)) (hdead : Hid (s.dead = false)) (hlast : Hid (s.lasts = false)) :
    Calls Tryz.prog 42 #[.pointer (some ⟨g, 0, none⟩)] w (RDid w g o v t n (lo + 1) s.burnt 1) := by
  obtain ⟨ro, rv, left, hh, ho, hv, ht, hf, hlo1, hhi, hr⟩ := hd.out
  obtain ⟨⟨-, -, -, -, -, c5, -⟩, -⟩ := rd7 hh
  rw [hdead.out] at c5
  clear hh ho hv ht hf hr
  go_enter Tryz.func42, Tryz.ntmps42
  go_wp2_with (go_at_call 71; refine (rburn_any hlo hd).mono ?_; rw [hlast.out]; rintro e w1 ⟨rfl, hd1, hk1⟩)
  go_ret
  exact ⟨rfl, hd1, hk1.mono fun k _ e => .inl e⟩
set_option maxHeartbeats 1000000 in
theorem rbarrier_ok (hlo : lo ≤ 1000) (hF : FlashOk n s) (hd : Hid (RDev w g o v t n lo s)) (hdead : Hid (s.dead = false)) (hlast : Hid (s.lasts = true)) :
    Calls Tryz.prog 42 #[.pointer (some ⟨g, 0, none⟩)] w (RDid w g o v t n (lo + 1) { s.burnt with old := fun _ => none } 0) := by
  obtain ⟨ro, rv, left, hh, ho, hv, ht, hf, hlo1, hhi, hr⟩ := hd.out
  obtain ⟨⟨-, -, -, -, -, c5, -⟩, -⟩ := rd7 hh
  rw [hdead.out] at c5
  clear hh ho hv ht hf hr
  have hn2 := hF.n2
  have hcl : Hid (s.burnt.cur.length = n * 64) := by show _ = _; rw [(burnt_cur s).1]; exact hF.len
  have HI : Hid ((Tryz.prog.info? 5).map (·.size) = some 1 ∧ (vals s.burnt.cur).length = n * 64 ∧ (vals s.burnt.cur).length = Nat.min (n * 64) (n * 64)) :=
    ⟨by kernel_rfl, by rw [vals_length, hcl.out], by rw [vals_length, hcl.out]; exact (Nat.min_self _).symm⟩
  clear hF
  go_enter Tryz.func42, Tryz.ntmps42
  go_wp2_with (go_at_call 71; refine (rburn_any hlo hd).mono ?_; rw [hlast.out]; rintro e w1 ⟨rfl, hd1, hk1⟩; have HD1 := Lib.hid hd1; have HK1 := Lib.hid hk1; clear hd1 hk1; obtain ⟨ro, rv, left1, hh, ho, hv, ht, hf, hlo2, hhi2, hco, hcv, hr⟩ := HD1.out; obtain ⟨⟨c0, c1, -, -, -, -, -⟩, -⟩ := rd7 hh; have HP := Lib.hid (And.intro hh (And.intro ho (And.intro hv (And.intro ht (And.intro hf (And.intro hlo2 (And.intro hhi2 (And.intro hco (And.intro hcv hr))))))))); clear hh ho hv ht hf hr hlo2 hhi2)
  refine wp_region_still_tail 8 (by kernel_rfl) (by kernel_rfl) ?_
  simp only [List.take_succ_cons, List.take_zero, List.drop_succ_cons, List.drop_zero]
  iterate 8 still_step
  refine wpStill_nil ?_
  change wpList _ _ _ _ _ w1.drew
  have HP2 : Hid (w1.drew.heap = w1.heap) := rfl
  have HK2 : Hid (Kept (fun k => k = g) w w1.drew) := HK1.out.drewN 1
  clear HK1 c0 c1 c5
  have HPo : Hid (w1.drew.heap[o]? = some (.cells (vals (oldImg n s.burnt) ++ ro).toArray 5 (0, 0))) := HP.out.2.1
  have HPv : Hid (w1.drew.heap[v]? = some (.cells (vals s.burnt.cur ++ rv).toArray 5 (0, 0))) := HP.out.2.2.1
  have HD1' : Hid (RDev w1.drew g o v t n (lo + 1) s.burnt) := HD1.out
  have HPg : Hid (w1.drew.heap[g]? = some (.cells #[.slice (some ⟨o, 0, none⟩) (n * 64) (n * 64 + ro.length), .slice (some ⟨v, 0, none⟩) (n * 64) (n * 64 + rv.length), .slice (some ⟨t, 0, none⟩) n n, .bool s.burnt.fused, .int .i64 left1, .bool s.burnt.dead, .int .i64 (s.burnt.wr : Int)] 59 (0, 0))) := HP.out.1
  have HPt : Hid (BRow w1.drew t (dirtL n s.burnt.old)) := HP.out.2.2.2.1
  have HPr := Lib.hid HP.out.2.2.2.2
  clear HP HP2 HD1
  generalize w1.drew = wd at HK2 HPo HPv HD1' HPg HPt ⊢
  go_wp2_with (first
    | (with_reducible refine wpList_copy_into rfl (.tmp 14) (.tmp 18) 27 27 rfl 5 Tryz.underlying27 HI.out.1 (some ⟨o, 0, none⟩) (some ⟨v, 0, none⟩) (n * 64) (n * 64 + ro.length) (n * 64) (n * 64 + rv.length) rfl rfl o 0 (vals (oldImg n s.burnt) ++ ro) 5 HPo.out (vals s.burnt.cur) HI.out.2.2 ?_ ?_ (vals_one _) (n * 64) HI.out.2.1 ?_
       · intro hp
         refine ⟨rfl, _, rfl, fun j x hv => ?_⟩
         have hj : j < (vals s.burnt.cur).length := (List.getElem?_eq_some_iff.1 hv).1
         rw [add_flat, Nat.zero_add, cell_of_row wd v j _ _ _ HPv.out, List.getElem?_toArray, List.getElem?_append_left hj]
         exact hv
       · rw [HI.out.2.1, List.length_append, vals_length, oldImg_len]
         omega
       intro w2 hw2 hk2
       have HG2 : Hid (w2.heap[g]? = some (.cells #[.slice (some ⟨o, 0, none⟩) (n * 64) (n * 64 + ro.length), .slice (some ⟨v, 0, none⟩) (n * 64) (n * 64 + rv.length), .slice (some ⟨t, 0, none⟩) n n, .bool s.burnt.fused, .int .i64 left1, .bool s.burnt.dead, .int .i64 (s.burnt.wr : Int)] 59 (0, 0))) :=
         (hk2.block g HD1'.out.lt.1 HD1'.out.apart.1).trans HPg.out
       obtain ⟨⟨-, -, c2, -, -, -, -⟩, -⟩ := rd7 HG2.out
       have HW2 : Hid (w2.heap[o]? = some (.cells (vals s.burnt.cur ++ ro).toArray 5 (0, 0))) := by
         show _ = _
         rw [hw2]
         have e1 : (vals (oldImg n s.burnt)).length = n * 64 := by rw [vals_length, oldImg_len]
         have e2 := HI.out.2.1
         have e : splice (vals (oldImg n s.burnt) ++ ro) 0 (vals s.burnt.cur) = vals s.burnt.cur ++ ro := by
           unfold splice
           rw [List.take_zero, List.nil_append, Nat.zero_add, e2, ← e1, List.drop_left]
         rw [e]
       have HK3 := Lib.hid hk2
       clear hk2 hw2))
  go_loopw [25] (fun iv wr => ∃ k : Nat, k ≤ n ∧ iv = .int .i64 (k : Int) ∧ Hid (BRow wr t (cleared (dirtL n s.burnt.old) k)) ∧ Hid (Kept (fun k => k = t) w2 wr)) (fun iv _ => n - (RowKit.intOf iv).toNat)
  case atStart =>
    refine ⟨0, Nat.zero_le _, rfl, ?_, Kept.refl _ _⟩
    exact (HK3.out.block t HD1'.out.lt.2.2.2 (fun e => HD1'.out.apart.2.2.2.2.1 e.symm)).trans HPt.out
  case round =>
    obtain ⟨k, hk, rfl, hrow, hkw⟩ := hrel
    have HGr : Hid (wr.heap[g]? = some (.cells #[.slice (some ⟨o, 0, none⟩) (n * 64) (n * 64 + ro.length), .slice (some ⟨v, 0, none⟩) (n * 64) (n * 64 + rv.length), .slice (some ⟨t, 0, none⟩) n n, .bool s.burnt.fused, .int .i64 left1, .bool s.burnt.dead, .int .i64 (s.burnt.wr : Int)] 59 (0, 0))) :=
      (hkw.out.block g (Nat.lt_of_lt_of_le HD1'.out.lt.1 HK3.out.size) HD1'.out.apart.2.2.1).trans HG2.out
    by_cases hlt : k < n
    · obtain ⟨⟨-, -, c2r, -, -, -, -⟩, -⟩ := rd7 HGr.out
      obtain ⟨hc, hfz⟩ := hrow.out.cell (j := k) (by rw [cleared_len (by rw [dirtL_len]; omega), dirtL_len]; exact hlt)
      go_wp2
      go_roundw
      case rel =>
        refine ⟨k + 1, by omega, by go_num, ?_, hkw.out.trans (Kept.setCell (S := fun k => k = t) wr ⟨t, k, none⟩ _ rfl)⟩
        have h := hrow.out.set k false
        rw [cleared_set (by rw [dirtL_len]; exact hlt)] at h
        exact h
      case measure => simp [RowKit.intOf]; omega
    · go_wp2
      go_ret
      obtain rfl : k = n := by omega
      obtain ⟨a1, a2, a3, a4, a5, a6⟩ := HD1'.out.apart
      have l1 := HD1'.out.lt
      have l2 := HK3.out.size
      have k1 : Kept (rS g o v t) w wd := HK2.out.mono fun k _ e => .inl e
      have k2 : Kept (rS g o v t) wd w2 := HK3.out.mono fun k _ e => .inr (.inl e)
      have k3 : Kept (rS g o v t) w2 wr := hkw.out.mono fun k _ e => .inr (.inr (.inr e))
      refine ⟨rfl, ⟨ro, rv, left1, HGr.out, ?_, ?_, ?_, HPr.out⟩, (k1.trans k2).trans k3⟩
      · rw [show oldImg k { s.burnt with old := fun _ => none } = s.burnt.cur from crashed_none hcl.out [] []]
        exact (hkw.out.block o (by omega) a5).trans HW2.out
      · exact (hkw.out.block v (by omega) a6).trans ((HK3.out.block v l1.2.2.1 (fun e => a4 e.symm)).trans HPv.out)
      · have h := hrow.out
        rw [cleared_end (dirtL_len _ _)] at h
        exact h
theorem rbarrier_any (hlo : lo ≤ 1000) (hF : FlashOk n s) (hd : Hid (RDev w g o v t n lo s)) :
    Calls Tryz.prog 42 #[.pointer (some ⟨g, 0, none⟩)] w (RDid w g o v t n (lo + 1) s.barrier s.barrierErr) := by
  unfold Flash.barrier Flash.barrierErr
  by_cases h1 : s.dead = true
  · rw [if_pos h1, if_pos h1]
    exact (rbarrier_dead hd h1).mono fun _ _ ⟨h1, h2, h3⟩ => ⟨h1, h2.more (by omega), h3⟩
  have h1' : s.dead = false := by simpa using h1
  rw [if_neg h1, if_neg h1]
  by_cases h4 : s.lasts = true
  · rw [if_pos h4, if_pos h4]
    exact rbarrier_ok hlo hF hd h1' h4
  · rw [if_neg h4, if_neg h4]
    exact rbarrier_burnt hlo hd h1' (Lib.hid (by simpa using h4))
end
end Go.Proofs.YtgnbmmceffolmaaGreatDoor
end
