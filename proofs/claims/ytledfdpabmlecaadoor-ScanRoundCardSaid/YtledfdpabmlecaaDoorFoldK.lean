/-
  The texts FlashAwake, DeviceNew, DeviceFuse, DeviceWords, DeviceKeep, DeviceSafe, RefWords, RefOps, RefWrite, RefBarrier of this proof, one behind the other.
-/
import Derived.Test.YtledfdpabmlecaaDoorFoldJ
import Derived.Lib.SlBytesConst
import Derived.IntWalk
section
namespace Go.Proofs.YtledfdpabmlecaaDoor
open Go.RowKit Go.Maps
def AwakeS1 : Flash := (Flash.fresh (List.replicate (3 * 64) 0)).write 3 1 [97, 97]
def AwakeS3 : Flash := AwakeS1.barrier.write 3 1 [98, 98]
theorem awake_e1 : (Flash.fresh (List.replicate (3 * 64) 0)).writeErr 3 1 [97, 97] = 0 := by decide +kernel
theorem awake_e2 : AwakeS1.barrierErr = 0 := by decide +kernel
theorem awake_e3 : AwakeS1.barrier.writeErr 3 1 [98, 98] = 0 := by decide +kernel
theorem awake_b0 : (sec (crashed 3 AwakeS3.cur AwakeS3.old [] [(0, 1)]) 1).getD 0 0 = 98 := by decide +kernel
theorem awake_b1 : (sec (crashed 3 AwakeS3.cur AwakeS3.old [] [(0, 1)]) 1).getD 1 0 = 97 := by decide +kernel
theorem awake_wr : (Flash.fresh (List.replicate (3 * 64) 0)).wr < 4611686018427387904 ∧ AwakeS1.barrier.wr < 4611686018427387904 := by decide +kernel
/-- Bytes in the block that was just made. -/
theorem bs_new (w : World) (t : TypeId) (l : List Nat) (hl : ∀ x ∈ l, x < 256) (cs : Array Value) (fr : Nat × Nat) (h : cs = (vals l).toArray) : Bs (w.alloc (.cells cs t fr)) (w.heap.size + 1) (some ⟨w.heap.size, 0, none⟩) l := fun k hk => by
  subst h
  refine ⟨getD_lt hl k, _, rfl, Nat.lt_succ_self _, ?_⟩
  rw [add_flat, Nat.zero_add, cell_of_row _ _ k _ _ _ (heap_alloc_new w _), List.getElem?_toArray]
  exact vals_at hk
def AwakeDid (w : World) (e : Ending) (w' : World) : Prop := e = .returned (.bool true) ∧ Below w.heap.size w w'
end Go.Proofs.YtledfdpabmlecaaDoor
end
section
namespace Go.Proofs.YtledfdpabmlecaaDoor
open Go.RowKit Go.Maps
theorem sec_zero {n i : Nat} (hi : i < n) : sec (List.replicate (n * 64) 0) i = List.replicate 64 0 := by
  unfold sec
  rw [List.drop_replicate, List.take_replicate]
  congr 1
  omega
theorem made_bytes {w : World} {base : Nat} {v : Value} {k : Nat} (h : w.ownsRow base 5 1 v k (madeCells (Value.cells (.int .u8 0)) (k * 1)).toList) : w.ownsRow base 5 1 v k (vals (List.replicate k 0)) := by
  rw [← vals_zero]; exact h
def LawDid (w : World) (e : Ending) (w' : World) : Prop := e = .returned (.bool true) ∧ Below w.heap.size w w'
end Go.Proofs.YtledfdpabmlecaaDoor
end
section
namespace Go.Proofs.YtledfdpabmlecaaDoor
open Go.RowKit Go.Maps
theorem low15 (n : Int) : ∃ N : Nat, N ≤ 15 ∧ bits .and .i64 n 15 = (N : Int) := by
  have h1 : (BitVec.ofInt 64 15).toNat = 15 := by decide
  have hle : (BitVec.ofInt 64 n).toNat &&& 15 ≤ 15 := Nat.and_le_right
  refine ⟨(BitVec.ofInt 64 n).toNat &&& 15, hle, ?_⟩
  show IntKind.i64.wrap ((BitVec.ofInt 64 n &&& BitVec.ofInt 64 15).toNat : Int) = _
  rw [BitVec.toNat_and, h1, IntKind.wrap_i64]
  omega
theorem odd_i64 (m : Nat) (h : m < 9223372036854775808) : bits .and .i64 (m : Int) 1 = ((m % 2 : Nat) : Int) := by
  have h1 : (BitVec.ofInt 64 1).toNat = 1 := by decide
  have h2 : (BitVec.ofInt 64 (m : Int)).toNat = m := by
    rw [BitVec.ofInt_natCast, BitVec.toNat_ofNat]; exact Nat.mod_eq_of_lt (by omega)
  have h3 : m &&& 1 = m % 2 := Nat.and_two_pow_sub_one_eq_mod m 1
  show IntKind.i64.wrap ((BitVec.ofInt 64 (m : Int) &&& BitVec.ofInt 64 1).toNat : Int) = _
  rw [BitVec.toNat_and, h1, h2, h3, IntKind.wrap_i64]
  omega
/-- A device with a fuse of the length N behind i calls. -/
structure FuseAt (N i : Nat) (s : Flash) : Prop where
  wr : s.wr ≤ i
  fused : s.fused = true
  dead : s.dead = decide (N < i)
  fuse : i ≤ N → s.fuse = (N : Int) - (i : Int)
theorem fuseAt_start (N : Nat) (l : List Nat) : FuseAt N 0 ((Flash.fresh l).setFuse (N : Int)) :=
  ⟨Nat.le_refl _, by simp [Flash.setFuse], by simp [Flash.setFuse, Flash.fresh], fun _ => by simp [Flash.setFuse]⟩
theorem FuseAt.lasts {N i : Nat} {s : Flash} (h : FuseAt N i s) (hi : i ≤ N) : s.lasts = decide (i < N) := by
  unfold Flash.lasts
  rw [h.fused, h.fuse hi]
  by_cases e : i < N
  · rw [decide_eq_true e]; simp; omega
  · rw [decide_eq_false e]; simp; omega
theorem FuseAt.burnt {N i : Nat} {s : Flash} (h : FuseAt N i s) (hi : i ≤ N) : FuseAt N (i + 1) s.burnt := by
  have hf := h.fuse hi
  unfold Flash.burnt
  rw [if_pos h.fused]
  by_cases e : i < N
  · rw [if_neg (by omega)]
    exact ⟨by have := h.wr; show s.wr ≤ _; omega, h.fused, by show s.dead = _; rw [h.dead, decide_eq_false (by omega), decide_eq_false (by omega)], fun _ => by show s.fuse - 1 = _; omega⟩
  · rw [if_pos (by omega)]
    exact ⟨by have := h.wr; show s.wr ≤ _; omega, h.fused, by show true = _; rw [decide_eq_true (by omega)], fun _ => by omega⟩
theorem FuseAt.barrier {N i : Nat} {s : Flash} (h : FuseAt N i s) : s.barrierErr = (if i < N then 0 else 1) ∧ FuseAt N (i + 1) s.barrier := by
  unfold Flash.barrierErr Flash.barrier
  by_cases hi : i ≤ N
  · have hd : ¬ s.dead = true := by rw [h.dead]; simp; omega
    have hb := h.burnt hi
    rw [if_neg hd, if_neg hd, h.lasts hi]
    by_cases e : i < N
    · rw [decide_eq_true e, if_pos rfl, if_pos e, if_pos rfl]
      exact ⟨rfl, hb.wr, hb.fused, hb.dead, hb.fuse⟩
    · rw [decide_eq_false e, if_neg (by simp), if_neg e, if_neg (by simp)]
      exact ⟨rfl, hb⟩
  · have hd : s.dead = true := by rw [h.dead]; simp; omega
    rw [if_pos hd, if_pos hd, if_neg (by omega)]
    exact ⟨rfl, by have := h.wr; omega, h.fused, by rw [hd]; simp; omega, fun _ => by omega⟩
theorem FuseAt.write {N i : Nat} {s : Flash} (h : FuseAt N i s) (j : Int) (hj0 : 0 ≤ j) (hj : j < 2) (b : List Nat) (hb64 : b.length ≤ 64) : s.writeErr 2 j b = (if i < N then 0 else 1) ∧ FuseAt N (i + 1) (s.write 2 j b) := by
  unfold Flash.writeErr Flash.write
  have hne : ¬ (j < 0 ∨ ((2 : Nat) : Int) ≤ j) := by omega
  have hnl : ¬ 64 < b.length := by omega
  by_cases hi : i ≤ N
  · have hd : ¬ s.dead = true := by rw [h.dead]; simp; omega
    have hb := h.burnt hi
    have hw := (burnt_cur s).2.2
    have hn4 : ¬ (s.dead = true ∨ j < 0 ∨ ((2 : Nat) : Int) ≤ j ∨ 64 < b.length) := fun h => h.elim hd (fun h => by omega)
    by_cases e : i < N
    · have hla : s.lasts = true := by rw [h.lasts hi, decide_eq_true e]
      rw [if_neg hd, if_neg hne, if_neg hnl, if_pos hla, if_neg hn4, if_pos hla, if_pos e]
      refine ⟨rfl, ?_, hb.fused, hb.dead, hb.fuse⟩
      show s.burnt.wr + 1 ≤ i + 1
      have := h.wr
      omega
    · have hla : ¬ s.lasts = true := by rw [h.lasts hi, decide_eq_false e]; simp
      rw [if_neg hd, if_neg hne, if_neg hnl, if_neg hla, if_neg hn4, if_neg hla, if_neg e]
      exact ⟨rfl, hb⟩
  · have hd : s.dead = true := by rw [h.dead]; simp; omega
    have hn4 : s.dead = true ∨ j < 0 ∨ ((2 : Nat) : Int) ≤ j ∨ 64 < b.length := .inl hd
    have e : ¬ i < N := by omega
    rw [if_pos hd, if_pos hn4, if_neg e]
    exact ⟨rfl, by have := h.wr; omega, h.fused, by rw [hd]; simp; omega, fun _ => by omega⟩
end Go.Proofs.YtledfdpabmlecaaDoor
end
section
set_option maxRecDepth 100000
namespace Go.Proofs.YtledfdpabmlecaaDoor
open Go.RowKit Go.Maps
theorem keptBy_nil (r : Nat) : keptBy [] [] r = 0 := by simp [keptBy]
theorem crashByte_nil (cur : List Nat) (old : Nat → Option (List Nat)) (p : Nat) : crashByte cur old [] [] p = match old (p / 64) with | some l => l.getD (p % 64) 0 | none => cur.getD p 0 := by
  unfold crashByte
  cases old (p / 64) with
  | none => rfl
  | some l =>
    dsimp only
    rw [keptBy_nil, if_neg (by omega)]
theorem crashed_len (n : Nat) (cur : List Nat) (old : Nat → Option (List Nat)) (keep : List Bool) (T : List (Int × Int)) : (crashed n cur old keep T).length = n * 64 := by simp [crashed]
theorem crashed_get {n : Nat} {cur : List Nat} {old : Nat → Option (List Nat)} {keep : List Bool} {T : List (Int × Int)} {p : Nat} (hp : p < n * 64) : (crashed n cur old keep T).getD p 0 = crashByte cur old keep T p := by
  unfold crashed
  rw [List.getD_eq_getElem?_getD, List.getElem?_map, List.getElem?_range hp]; rfl
theorem list_ext {a b : List Nat} {k : Nat} (ha : a.length = k) (hb : b.length = k) (h : ∀ p, p < k → a.getD p 0 = b.getD p 0) : a = b :=
  getD_ext (ha.trans hb.symm) (fun j hj => h j (by omega))
theorem crashed_none {n : Nat} {cur : List Nat} (hl : cur.length = n * 64) (keep : List Bool) (T : List (Int × Int)) : crashed n cur (fun _ => none) keep T = cur :=
  list_ext (crashed_len _ _ _ _ _) hl fun p hp => by rw [crashed_get hp]; rfl
theorem count_le (i : Nat) (old : Nat → Option (List Nat)) : dirtyCount i old ≤ i := dirty_le i old
theorem crashed_all {n : Nat} {cur : List Nat} {old : Nat → Option (List Nat)} (hl : cur.length = n * 64) (keep : List Bool) (hk : ∀ r, r < n → keep.getD r false = true) : crashed n cur old keep [] = cur :=
  list_ext (crashed_len _ _ _ _ _) hl fun p hp => by
    rw [crashed_get hp]
    unfold crashByte
    cases old (p / 64) with
    | none => rfl
    | some l =>
      dsimp only
      have h1 : keptBy keep [] (dirtyCount (p / 64) old) = 64 := by
        unfold keptBy
        show (if keep.getD (dirtyCount (p / 64) old) false = true then 64 else 0) = 64
        rw [if_pos (hk _ (by have := count_le (p / 64) old; omega))]
      rw [h1, if_pos (Nat.mod_lt _ (by decide))]
/-- A Write leaves the old image. -/
theorem crashed_wrote {n j : Nat} {s : Flash} {b : List Nat} (hl : s.cur.length = n * 64) (hj : j < n) (hb : b.length ≤ 64) : crashed n (s.wrote j b).cur (s.wrote j b).old [] [] = crashed n s.cur s.old [] [] :=
  list_ext (crashed_len _ _ _ _ _) (crashed_len _ _ _ _ _) fun p hp => by
    rw [crashed_get hp, crashed_get hp, crashByte_nil, crashByte_nil]
    show (match (if p / 64 = j then some ((s.old j).getD (sec s.cur j)) else s.old (p / 64)) with | some l => l.getD (p % 64) 0 | none => (putSec s.cur j (pad b)).getD p 0) = _
    by_cases e : p / 64 = j
    · rw [if_pos e, e]
      dsimp only
      cases s.old j with
      | some l => rfl
      | none =>
        show (sec s.cur j).getD (p % 64) 0 = s.cur.getD p 0
        rw [sec_get (Nat.mod_lt _ (by decide)), show j * 64 + p % 64 = p by omega]
    · rw [if_neg e]
      cases s.old (p / 64) with
      | some l => rfl
      | none =>
        show (putSec s.cur j (pad b)).getD p 0 = s.cur.getD p 0
        rw [putSec_get hl hj (pad_len hb), if_neg e]
/-- Alive, and no fuse. -/
structure Plain (s : Flash) : Prop where
  dead : s.dead = false
  fused : s.fused = false
theorem Plain.burnt {s : Flash} (h : Plain s) : s.burnt = s := by unfold Flash.burnt; rw [if_neg (by rw [h.fused]; simp)]
theorem Plain.lasts {s : Flash} (h : Plain s) : s.lasts = true := by unfold Flash.lasts; rw [h.fused]; rfl
theorem Plain.write {s : Flash} (h : Plain s) {n j : Nat} (hj : j < n) {b : List Nat} (hb : b.length ≤ 64) : s.writeErr n (j : Int) b = 0 ∧ s.write n (j : Int) b = s.wrote j b := by
  have h1 : ¬ s.dead = true := by rw [h.dead]; simp
  have h2 : ¬ ((j : Int) < 0 ∨ (n : Int) ≤ (j : Int)) := by omega
  have h3 : ¬ 64 < b.length := by omega
  have h4 : ¬ (s.dead = true ∨ (j : Int) < 0 ∨ (n : Int) ≤ (j : Int) ∨ 64 < b.length) := fun h => h.elim h1 (fun h => by omega)
  unfold Flash.writeErr Flash.write
  rw [if_neg h1, if_neg h2, if_neg h3, if_pos h.lasts, if_neg h4, if_pos h.lasts, h.burnt, Int.toNat_natCast]
  exact ⟨rfl, rfl⟩
theorem Plain.barrier {s : Flash} (h : Plain s) : s.barrierErr = 0 ∧ s.barrier = { s with old := fun _ => none } := by
  have h1 : ¬ s.dead = true := by rw [h.dead]; simp
  unfold Flash.barrierErr Flash.barrier
  rw [if_neg h1, if_neg h1, if_pos h.lasts, if_pos h.lasts, h.burnt]
  exact ⟨rfl, rfl⟩
theorem Plain.wrote {s : Flash} (h : Plain s) (j : Nat) (b : List Nat) : Plain (s.wrote j b) := ⟨h.dead, h.fused⟩
theorem plain_fresh (l : List Nat) : Plain (Flash.fresh l) := ⟨rfl, rfl⟩
/-- 'min' of two integers, in a region that stands still. -/
theorem wpStill_min2 {P : Program} {ops : Array Oper} {rest : List Oper} {o : Oper} {a : Act} {w : World} {Q : Act → Prop} (hw : Region.wanted o (yielded ops a.tmps) = true) (x y : Operand) (ats : Array TypeId)
    (ho : o.op = .call { callee := .builtin .min, args := #[x, y], argTypes := ats }) (k : IntKind) (p q r : Int) (hx : a.eval x = .int k p) (hy : a.eval y = .int k q) (hm : (if q < p then q else p) = r)
    (h : wpStill P ops w Q rest (a.put o.dst (.int k r))) : wpStill P ops w Q (o :: rest) a := by
  refine wpStill_step fun K hK => ?_
  rw [if_pos hw]
  have hrun : (Builtin.min_ ats o.type #[.int k p, .int k q]).run P w = .ok (.int k r) w := by rw [← hm]; simp [Builtin.min_, Builtin.min2]
  unfold Oper.still
  simp [execOp, ho, resolve, invoke, builtin, hx, hy, hrun, Result.andThen, Oper.stillUpon]
  exact hK _ h
theorem min_named (q : Nat) (b : Nat) : ∃ mn : Nat, mn ≤ q ∧ mn ≤ b ∧ mn = min q b ∧ Hid ((if ((b : Nat) : Int) < (q : Int) then ((b : Nat) : Int) else (q : Int)) = (mn : Int)) := by
  by_cases h : ((b : Nat) : Int) < (q : Int)
  · exact ⟨b, by omega, Nat.le_refl _, by omega, if_pos h⟩
  · exact ⟨q, Nat.le_refl _, by omega, by omega, if_neg h⟩
theorem field_at (ad : Addr) (k j : Nat) : (ad.add k).add (j + 1) = ⟨(ad.add k).block, (ad.add k).off + (j + 1), none⟩ := by
  unfold Addr.add
  by_cases hk : k = 0 <;> simp [hk, Nat.add_assoc]
theorem mod_named (x K : Int) (hK : 0 < K) (hK2 : K ≤ 1000) : ∃ j : Nat, (j : Int) < K ∧ Hid ((wrap64 (x.tmod K + K)).tmod K = (j : Int)) := by
  have h2 : x.tmod K < K := Int.tmod_lt_of_pos x hK
  have h3 : -K < x.tmod K := Int.lt_tmod_of_pos x hK
  have h4 : wrap64 (x.tmod K + K) = x.tmod K + K := IntWalk.wrap64_in _ ⟨by omega, by omega⟩
  have h5 : 0 ≤ (x.tmod K + K).tmod K := Int.tmod_nonneg _ (by omega)
  have h6 : (x.tmod K + K).tmod K < K := Int.tmod_lt_of_pos _ hK
  refine ⟨((x.tmod K + K).tmod K).toNat, by omega, ?_⟩
  show _ = _
  rw [h4]
  omega
theorem Bls.take {B : Nat} {w : World} {A : Option Addr} {l : List Bool} (h : Bls w B A l) (n : Nat) : Bls w B A (l.take n) := fun k hk => by
  rw [List.length_take] at hk
  obtain ⟨ad, h1, h2, h3⟩ := h k (by omega)
  exact ⟨ad, h1, h2, by rw [h3, List.getD_eq_getElem?_getD, List.getD_eq_getElem?_getD, List.getElem?_take_of_lt (by omega)]⟩
theorem Trs.take {B : Nat} {w : World} {A : Option Addr} {l : List (Int × Int)} (h : Trs w B A l) (n : Nat) : Trs w B A (l.take n) := fun k hk => by
  rw [List.length_take] at hk
  obtain ⟨ad, h1, h2, h3, h4⟩ := h k (by omega)
  have e : (l.take n).getD k (0, 0) = l.getD k (0, 0) := by rw [List.getD_eq_getElem?_getD, List.getD_eq_getElem?_getD, List.getElem?_take_of_lt (by omega)]
  exact ⟨ad, h1, h2, by rw [e]; exact h3, by rw [e]; exact h4⟩
theorem Bls.up' {w w' : World} {A : Option Addr} {l : List Bool} (h : Bls w w.heap.size A l) (hb : Below w.heap.size w w') : Bls w' w'.heap.size A l := (h.below hb (Nat.le_refl _)).up hb.size
theorem Bs.next {w w' : World} {A : Option Addr} {l : List Nat} (h : Bs w w.heap.size A l) (hb : Below w.heap.size w w') : Bs w' w'.heap.size A l := (h.below hb (Nat.le_refl _)).more hb.size
theorem Dev.next {w w' : World} {g c m n : Nat} {s : Flash} (h : Dev w g c m n s) (hb : Below w.heap.size w w') : Dev w' g c m n s := h.below hb h.lt.1 h.lt.2.1 h.lt.2.2
/-- What stays true at the end of a law on crashes. -/
structure EndAt (w wx : World) (n g c m : Nat) (s : Flash) (g' c' m' : Nat) (C : List Nat) (r : Nat) (all : List Bool) (Ao : Option Addr) (lo : List Nat) : Prop where
  dev : Dev wx g c m n s
  below : Below w.heap.size w wx
  dev' : Dev wx g' c' m' n (Flash.fresh C)
  all_ : Bls wx wx.heap.size (some ⟨r, 0, none⟩) all
  olds : Bs wx wx.heap.size Ao lo
theorem EndAt.next {w wx wy : World} {n g c m : Nat} {s : Flash} {g' c' m' : Nat} {C : List Nat} {r : Nat} {all : List Bool} {Ao : Option Addr} {lo : List Nat} (h : EndAt w wx n g c m s g' c' m' C r all Ao lo) (hb : Below wx.heap.size wx wy) : EndAt w wy n g c m s g' c' m' C r all Ao lo :=
  ⟨h.dev.next hb, h.below.trans (hb.mono h.below.size), h.dev'.next hb, h.all_.up' hb, h.olds.next hb⟩
theorem EndAt.drewN {w wx : World} {n g c m : Nat} {s : Flash} {g' c' m' : Nat} {C : List Nat} {r : Nat} {all : List Bool} {Ao : Option Addr} {lo : List Nat} (h : EndAt w wx n g c m s g' c' m' C r all Ao lo) (k : Nat) : EndAt w (wx.drewN k) n g c m s g' c' m' C r all Ao lo :=
  ⟨h.dev, ⟨h.below.os, h.below.tape, h.below.output, h.below.size, h.below.block⟩, h.dev', h.all_, h.olds⟩
theorem bls_nil (w : World) : Bls w w.heap.size none [] := fun k hk => absurd hk (by simp)
theorem trs_nil (w : World) : Trs w w.heap.size none [] := fun k hk => absurd hk (by simp)
end Go.Proofs.YtledfdpabmlecaaDoor
end
section
set_option maxRecDepth 100000
namespace Go.Proofs.YtledfdpabmlecaaDoor
open Go.RowKit Go.Maps
theorem OpIs.cells {w : World} {B k : Nat} {ad : Addr} {kd ix : Int} {Ab : Option Addr} {nb cb : Nat} {lb : List Nat} {Ak : Option Addr} {nk ck : Nat} {lk : List Bool} {At : Option Addr} {nt ct : Nat} {lt : List (Int × Int)}
    (h : OpIs w B (ad.add k) kd ix Ab nb cb lb Ak nk ck lk At nt ct lt) :
    w.cell? (ad.add k) = some (.int .i64 kd) ∧ w.cell? ⟨(ad.add k).block, (ad.add k).off + 1, none⟩ = some (.int .i64 ix) ∧ w.cell? ⟨(ad.add k).block, (ad.add k).off + 2, none⟩ = some (.slice Ab nb cb) ∧
      w.cell? ⟨(ad.add k).block, (ad.add k).off + 3, none⟩ = some (.slice Ak nk ck) ∧ w.cell? ⟨(ad.add k).block, (ad.add k).off + 4, none⟩ = some (.slice At nt ct) := by
  refine ⟨?_, ?_, ?_, ?_, ?_⟩
  · have e : (ad.add k).add 0 = ad.add k := by unfold Addr.add; rfl
    rw [← e]; exact h.c0
  · rw [← field_at ad k 0]; exact h.c1
  · rw [← field_at ad k 1]; exact h.c2
  · rw [← field_at ad k 2]; exact h.c3
  · rw [← field_at ad k 3]; exact h.c4
/-- What holds at the head of the rounds of DeviceKeep. -/
structure KeepAt (w wr : World) (g c m i : Nat) (s : Flash) (Ao : Option Addr) (no : Nat) : Prop where
  dev : Dev wr g c m 5 s
  plain : Plain s
  wr_ : s.wr ≤ i
  below : Below w.heap.size w wr
  olds : Bs wr wr.heap.size Ao (crashed 5 s.cur s.old [] [])
  olen : no = 5 * 64
  far : ∀ ad, Ao = some ad → w.heap.size ≤ ad.block ∧ ad.block ≠ g ∧ ad.block ≠ c ∧ ad.block ≠ m
end Go.Proofs.YtledfdpabmlecaaDoor
end
section
set_option maxRecDepth 100000
namespace Go.Proofs.YtledfdpabmlecaaDoor
open Go.RowKit Go.Maps
/-- A row of bools in a block of its own. -/
def bvals (L : List Bool) : List Value := L.map fun x => .bool x
def BRow (w : World) (G : Nat) (L : List Bool) : Prop := w.heap[G]? = some (.cells (bvals L).toArray 4 (0, 0))
theorem BRow.cell {w : World} {G : Nat} {L : List Bool} (h : BRow w G L) {j : Nat} (hj : j < L.length) : w.cell? ⟨G, j, none⟩ = some (.bool (L.getD j false)) ∧ w.frozen? ⟨G, j, none⟩ = false := by
  refine ⟨?_, frozen_of_row w G j _ _ h⟩
  rw [cell_of_row w G j _ _ _ h, List.getElem?_toArray]
  unfold bvals
  rw [List.getElem?_map, List.getElem?_eq_getElem hj, List.getD_eq_getElem?_getD, List.getElem?_eq_getElem hj]; rfl
theorem BRow.set {w : World} {G : Nat} {L : List Bool} (h : BRow w G L) (j : Nat) (x : Bool) : BRow (w.setCell ⟨G, j, none⟩ (.bool x)) G (L.set j x) := by
  unfold BRow
  rw [heap_setCell_same w G j _ _ _ h]
  simp [bvals, List.map_set]
theorem info_bool : (Tryd.prog.info? 4).map (fun i => (i.zero, i.size, i.bytes)) = some (some (.bool false), 1, 1) := by kernel_rfl
theorem made_bvals (k : Nat) : (madeCells (Value.cells (.bool false)) (k * 1)).toList = bvals (List.replicate k false) := by
  simp only [madeCells, bvals, Value.cells, List.map_replicate]
  apply List.ext_getElem
  · simp
  · intro i h1 h2
    simp [Nat.mod_one]
theorem made_brow {w : World} {base g k cap : Nat} (h : w.ownsRow base 4 1 (.slice (some ⟨g, 0, none⟩) k k) k (madeCells (Value.cells (.bool false)) (k * 1)).toList) (hcap : cap = k) : BRow w g (List.replicate cap false) := by
  subst hcap
  rw [made_bvals] at h
  rcases h.2 with ⟨e, _⟩ | ⟨g', cap', cur, e, _, hgg, _, _, hsz, htk⟩
  · cases e
  · injection e with e1 e2 e3
    injection e1 with e1
    injection e1 with e1
    subst e1
    unfold BRow
    rw [hgg]
    have : cur.toList = bvals (List.replicate cap false) := by rw [← htk, List.take_of_length_le (by rw [Array.length_toList]; omega)]
    rw [← this]
theorem getD_setB {L : List Bool} {j k : Nat} {x : Bool} (hj : j < L.length) : (L.set j x).getD k false = if k = j then x else L.getD k false := by
  rw [List.getD_eq_getElem?_getD, List.getD_eq_getElem?_getD, List.getElem?_set]
  by_cases e : j = k
  · subst e; simp [hj]
  · rw [if_neg e, if_neg (fun h => e h.symm)]
/-- A byte behind a crash is the old one, or the new one of a sector that was written. -/
theorem crashByte_either (cur : List Nat) (old : Nat → Option (List Nat)) (keep : List Bool) (T : List (Int × Int)) (p : Nat) :
    crashByte cur old keep T p = crashByte cur old [] [] p ∨ ((old (p / 64)).isSome = true ∧ crashByte cur old keep T p = cur.getD p 0) := by
  rw [crashByte_nil]
  unfold crashByte
  cases h : old (p / 64) with
  | none => exact .inl rfl
  | some l =>
    dsimp only
    by_cases e : p % 64 < keptBy keep T (dirtyCount (p / 64) old)
    · rw [if_pos e]; exact .inr ⟨rfl, rfl⟩
    · rw [if_neg e]; exact .inl rfl
/-- What holds at the head of the second loop's rounds. -/
structure SafeAt (w wr : World) (g c m i : Nat) (s : Flash) (go : Nat) (lo : List Nat) (gt : Nat) (Tl : List Bool) : Prop where
  dev : Dev wr g c m 6 s
  plain : Plain s
  wr_ : s.wr ≤ 6 + i
  below : Below w.heap.size w wr
  olds : Bs wr wr.heap.size (some ⟨go, 0, none⟩) lo
  lo_ : lo = crashed 6 s.cur s.old [] []
  row : BRow wr gt Tl
  tl : Tl.length = 6
  marks : ∀ q, q < 6 → (s.old q).isSome = true → Tl.getD q false = true
  far : go ≠ g ∧ go ≠ c ∧ go ≠ m ∧ gt ≠ g ∧ gt ≠ c ∧ gt ≠ m ∧ go ≠ gt ∧ w.heap.size ≤ go ∧ w.heap.size ≤ gt
theorem wrote_old {s : Flash} {j : Nat} {b : List Nat} {q : Nat} (h : ((s.wrote j b).old q).isSome = true) : q = j ∨ (s.old q).isSome = true := by
  have h' : (if q = j then some ((s.old j).getD (sec s.cur j)) else s.old q).isSome = true := h
  by_cases e : q = j
  · exact .inl e
  · rw [if_neg e] at h'; exact .inr h'
end Go.Proofs.YtledfdpabmlecaaDoor
end
section
set_option maxRecDepth 100000
namespace Go.Proofs.YtledfdpabmlecaaDoor
open Go.RowKit Go.Maps
/-- The bytes at the last Barrier. -/
def oldImg (n : Nat) (s : Flash) : List Nat := crashed n s.cur s.old [] []
def dirtL (n : Nat) (old : Nat → Option (List Nat)) : List Bool := (List.range n).map fun i => (old i).isSome
theorem dirtL_len (n : Nat) (old : Nat → Option (List Nat)) : (dirtL n old).length = n := by simp [dirtL]
theorem dirtL_get {n i : Nat} (hi : i < n) (old : Nat → Option (List Nat)) : (dirtL n old).getD i false = (old i).isSome := by
  unfold dirtL
  rw [List.getD_eq_getElem?_getD, List.getElem?_map, List.getElem?_range hi]; rfl
/-- What every state of a device keeps. -/
structure FlashOk (n : Nat) (s : Flash) : Prop where
  n1 : 1 ≤ n
  n2 : n ≤ 1048576
  len : s.cur.length = n * 64
  lt : ∀ x ∈ s.cur, x < 256
  olds : ∀ i l, s.old i = some l → l.length = 64 ∧ ∀ x ∈ l, x < 256
  fuse : s.fused = true → 0 ≤ s.fuse ∧ s.fuse ≤ 9223372036854775807
theorem Dev.ok {w : World} {g c m n : Nat} {s : Flash} (h : Dev w g c m n s) : FlashOk n s := by
  obtain ⟨rest, D, hh, hc, hm, ho, hl, hb, hn1, hn2, hcap, hgc, hfu⟩ := h
  exact ⟨hn1, hn2, hl, hb, ho.len, hfu⟩
theorem oldImg_len (n : Nat) (s : Flash) : (oldImg n s).length = n * 64 := crashed_len _ _ _ _ _
theorem getD_mem {l : List Nat} {p : Nat} (hp : p < l.length) : l.getD p 0 ∈ l := by
  rw [List.getD_eq_getElem?_getD, List.getElem?_eq_getElem hp]; exact List.getElem_mem hp
theorem oldImg_lt {n : Nat} {s : Flash} (h : FlashOk n s) : ∀ x ∈ oldImg n s, x < 256 := fun x hx => by
  unfold oldImg crashed at hx
  obtain ⟨p, hp, rfl⟩ := List.mem_map.1 hx
  rw [List.mem_range] at hp
  rw [crashByte_nil]
  cases ho : s.old (p / 64) with
  | none => exact h.lt _ (getD_mem (by rw [h.len]; exact hp))
  | some l => exact (h.olds _ _ ho).2 _ (getD_mem (by rw [(h.olds _ _ ho).1]; exact Nat.mod_lt _ (by decide)))
theorem rd7 {w : World} {g : Nat} {a0 a1 a2 a3 a4 a5 a6 : Value} {t : TypeId} (h : w.heap[g]? = some (.cells #[a0, a1, a2, a3, a4, a5, a6] t (0, 0))) :
    (w.cell? ⟨g, 0, none⟩ = some a0 ∧ w.cell? ⟨g, 1, none⟩ = some a1 ∧ w.cell? ⟨g, 2, none⟩ = some a2 ∧ w.cell? ⟨g, 3, none⟩ = some a3 ∧ w.cell? ⟨g, 4, none⟩ = some a4 ∧ w.cell? ⟨g, 5, none⟩ = some a5 ∧ w.cell? ⟨g, 6, none⟩ = some a6) ∧
    (w.frozen? ⟨g, 3, none⟩ = false ∧ w.frozen? ⟨g, 4, none⟩ = false ∧ w.frozen? ⟨g, 5, none⟩ = false ∧ w.frozen? ⟨g, 6, none⟩ = false) := by
  refine ⟨⟨?_, ?_, ?_, ?_, ?_, ?_, ?_⟩, ⟨?_, ?_, ?_, ?_⟩⟩
  · rw [cell_of_row w g 0 _ t (0, 0) h]; rfl
  · rw [cell_of_row w g 1 _ t (0, 0) h]; rfl
  · rw [cell_of_row w g 2 _ t (0, 0) h]; rfl
  · rw [cell_of_row w g 3 _ t (0, 0) h]; rfl
  · rw [cell_of_row w g 4 _ t (0, 0) h]; rfl
  · rw [cell_of_row w g 5 _ t (0, 0) h]; rfl
  · rw [cell_of_row w g 6 _ t (0, 0) h]; rfl
  · exact frozen_of_row w g 3 _ t h
  · exact frozen_of_row w g 4 _ t h
  · exact frozen_of_row w g 5 _ t h
  · exact frozen_of_row w g 6 _ t h
section
variable {w w' : World} {g o v t n lo : Nat} {s : Flash}
end
end Go.Proofs.YtledfdpabmlecaaDoor
end
section
set_option maxRecDepth 100000
namespace Go.Proofs.YtledfdpabmlecaaDoor
open Go.RowKit Go.Maps
section
variable {w w' : World} {g o v t n lo : Nat} {s : Flash}
theorem count_next (k : Nat) (old : Nat → Option (List Nat)) : dirtyCount (k + 1) old = dirtyCount k old + (if (old k).isSome = true then 1 else 0) := by
  unfold dirtyCount
  rw [dirty_succ, List.length_append]
  split <;> rfl
end
def KeptDid (w : World) (k : Nat) (e : Ending) (w' : World) : Prop := e = .returned (.int .i64 (k : Int)) ∧ Below w.heap.size w w'
/-- No tear of the first k hits. -/
def NoHit (T : List (Int × Int)) (r k : Nat) : Prop := (T.take k).find? (tearHits r) = none
theorem noHit_next {T : List (Int × Int)} {r k : Nat} {q : Int × Int} (h : NoHit T r k) (hk : k < T.length) (ht : T.getD k (0, 0) = q) (hn : tearHits r q = false) : NoHit T r (k + 1) := by
  have e : T[k] = q := by rw [List.getD_eq_getElem?_getD, List.getElem?_eq_getElem hk] at ht; exact ht
  unfold NoHit
  rw [take_nextT T k hk, List.find?_append, h, e]
  simp [hn]
theorem hit_found {T : List (Int × Int)} {r k : Nat} {q : Int × Int} (h : NoHit T r k) (hk : k < T.length) (ht : T.getD k (0, 0) = q) (hn : tearHits r q = true) (keep : List Bool) : keptBy keep T r = q.2.toNat := by
  have e : T[k] = q := by rw [List.getD_eq_getElem?_getD, List.getElem?_eq_getElem hk] at ht; exact ht
  have e2 : T.find? (tearHits r) = some q := by
    rw [← List.take_append_drop (k + 1) T, List.find?_append, take_nextT T k hk, List.find?_append, h, e]
    simp [hn]
  unfold keptBy
  rw [e2]
section
variable {w w' : World} {g o v t n lo : Nat} {s : Flash}
theorem sec_bytes {c : Nat} {l : List Nat} {i : Nat} (h : Bs w w.heap.size (some ⟨c, 0, none⟩) l) (hl : l.length = n * 64) (hi : i < n) : Bs w w.heap.size (some ⟨c, i * 64, none⟩) (sec l i) := by
  intro k hk
  rw [sec_len hl hi] at hk
  obtain ⟨h1, ad, e, h3, h4⟩ := h (i * 64 + k) (by rw [hl]; omega)
  injection e with e
  subst e
  rw [sec_get hk]
  refine ⟨h1, _, rfl, h3, ?_⟩
  rw [add_flat, Nat.zero_add] at h4
  rw [add_flat]
  exact h4
end
end Go.Proofs.YtledfdpabmlecaaDoor
end
section
set_option maxRecDepth 100000
namespace Go.Proofs.YtledfdpabmlecaaDoor
open Go.RowKit Go.Maps
def rS (g o v t : Nat) (k : Nat) : Prop := k = g ∨ k = o ∨ k = v ∨ k = t
/-- The new bytes when k bytes of the sector are written. -/
def partly (cur b : List Nat) (i k : Nat) : List Nat := cur.take (i * 64) ++ (pad b).take k ++ cur.drop (i * 64 + k)
theorem partly_zero (cur b : List Nat) (i : Nat) : partly cur b i 0 = cur := by simp [partly]
theorem partly_end {b : List Nat} (hb : b.length ≤ 64) (cur : List Nat) (i : Nat) : partly cur b i 64 = putSec cur i (pad b) := by
  unfold partly putSec
  rw [List.take_of_length_le (l := pad b) (by rw [pad_len hb]; omega)]
theorem pad_get {b : List Nat} (k : Nat) : (pad b).getD k 0 = if k < b.length then b.getD k 0 else 0 := by
  unfold pad
  rw [List.getD_eq_getElem?_getD, List.getD_eq_getElem?_getD]
  by_cases h : k < b.length
  · rw [if_pos h, List.getElem?_append_left h]
  · rw [if_neg h, List.getElem?_append_right (by omega), List.getElem?_replicate]
    split <;> rfl
theorem partly_len {cur b : List Nat} {n i k : Nat} (hl : cur.length = n * 64) (hi : i < n) (hb : b.length ≤ 64) (hk : k ≤ 64) : (partly cur b i k).length = n * 64 := by
  unfold partly
  rw [List.length_append, List.length_append, List.length_take, List.length_take, List.length_drop, pad_len hb]
  omega
theorem partly_get {cur b : List Nat} {n i k : Nat} (hl : cur.length = n * 64) (hi : i < n) (hb : b.length ≤ 64) (hk : k ≤ 64) (p : Nat) :
    (partly cur b i k).getD p 0 = if i * 64 ≤ p ∧ p < i * 64 + k then (pad b).getD (p - i * 64) 0 else cur.getD p 0 := by
  have hpl := pad_len hb
  unfold partly
  simp only [List.getD_eq_getElem?_getD]
  by_cases h1 : p < i * 64
  · rw [if_neg (by omega), List.append_assoc, List.getElem?_append_left (by rw [List.length_take]; omega), List.getElem?_take_of_lt h1]
  · by_cases h2 : p < i * 64 + k
    · rw [if_pos ⟨by omega, h2⟩, List.getElem?_append_left (by rw [List.length_append, List.length_take, List.length_take]; omega), List.getElem?_append_right (by rw [List.length_take]; omega), List.getElem?_take_of_lt (by rw [List.length_take]; omega), List.length_take, Nat.min_eq_left (by omega)]
    · rw [if_neg (by omega), List.getElem?_append_right (by rw [List.length_append, List.length_take, List.length_take]; omega), List.getElem?_drop, List.length_append, List.length_take, List.length_take]
      congr 2
      omega
theorem partly_set {cur b : List Nat} {n i k : Nat} (hl : cur.length = n * 64) (hi : i < n) (hb : b.length ≤ 64) (hk : k < 64) : (partly cur b i k).set (i * 64 + k) ((pad b).getD k 0) = partly cur b i (k + 1) := by
  refine list_ext (k := n * 64) (by rw [List.length_set]; exact partly_len hl hi hb (by omega)) (partly_len hl hi hb (by omega)) (fun p hp => ?_)
  rw [getD_set (by rw [partly_len hl hi hb (by omega)]; omega), partly_get hl hi hb (by omega) p, partly_get hl hi hb (by omega) p]
  by_cases e : p = i * 64 + k
  · subst e
    rw [if_pos rfl, if_pos ⟨by omega, by omega⟩]
    congr 1; omega
  · rw [if_neg e]
    by_cases h1 : i * 64 ≤ p ∧ p < i * 64 + k
    · rw [if_pos h1, if_pos ⟨h1.1, by omega⟩]
    · rw [if_neg h1, if_neg (by omega)]
def VRow (w : World) (v : Nat) (L : List Nat) (rv : List Value) : Prop := w.heap[v]? = some (.cells (vals L ++ rv).toArray 5 (0, 0))
theorem VRow.cell {w : World} {v : Nat} {L : List Nat} {rv : List Value} (h : VRow w v L rv) {j : Nat} (hj : j < L.length) : w.cell? ⟨v, j, none⟩ = some (.int .u8 ((L.getD j 0 : Nat) : Int)) ∧ w.frozen? ⟨v, j, none⟩ = false := by
  refine ⟨?_, frozen_of_row w v j _ _ h⟩
  rw [cell_of_row w v j _ _ _ h, List.getElem?_toArray, List.getElem?_append_left (by rw [vals_length]; exact hj)]
  exact vals_at hj
theorem VRow.set {w : World} {v : Nat} {L : List Nat} {rv : List Value} (h : VRow w v L rv) (j x : Nat) (hj : j < L.length) : VRow (w.setCell ⟨v, j, none⟩ (.int .u8 (x : Int))) v (L.set j x) rv := by
  unfold VRow
  rw [heap_setCell_same w v j _ _ _ h]
  have e : (vals L ++ rv).set j (.int .u8 (x : Int)) = vals (L.set j x) ++ rv := by
    rw [List.set_append_left _ _ (by rw [vals_length]; exact hj)]
    simp only [vals, List.map_set]
  rw [← e]
  simp
theorem dirtL_put {n i : Nat} (s : Flash) (b : List Nat) : dirtL n (s.wrote i b).old = (dirtL n s.old).set i true := by
  apply List.ext_getElem
  · simp [dirtL]
  · intro k h1 h2
    rw [List.getElem_set]
    simp only [dirtL, List.getElem_map, List.getElem_range, Flash.wrote]
    by_cases e : i = k
    · subst e; simp
    · rw [if_neg e, if_neg (fun h => e h.symm)]
section
variable {w : World} {g o v t n lo : Nat} {s : Flash}
end
end Go.Proofs.YtledfdpabmlecaaDoor
end
section
set_option maxRecDepth 100000
namespace Go.Proofs.YtledfdpabmlecaaDoor
open Go.RowKit Go.Maps
/-- The first k marks cleared. -/
def cleared (L : List Bool) (k : Nat) : List Bool := List.replicate k false ++ L.drop k
theorem cleared_len {L : List Bool} {k : Nat} (h : k ≤ L.length) : (cleared L k).length = L.length := by
  unfold cleared; rw [List.length_append, List.length_replicate, List.length_drop]; omega
theorem cleared_set {L : List Bool} {k : Nat} (h : k < L.length) : (cleared L k).set k false = cleared L (k + 1) := by
  unfold cleared
  rw [List.set_append_right _ _ (by rw [List.length_replicate]; omega), List.length_replicate, Nat.sub_self, List.drop_eq_getElem_cons h, List.set_cons_zero, List.replicate_succ']
  simp
theorem cleared_end {n : Nat} {L : List Bool} (h : L.length = n) : cleared L n = dirtL n (fun _ => none) := by
  unfold cleared
  rw [List.drop_of_length_le (by omega), List.append_nil]
  apply List.ext_getElem
  · simp [dirtL]
  · intro k h1 h2; simp [dirtL]
section
variable {w : World} {g o v t n lo : Nat} {s : Flash}
end
end Go.Proofs.YtledfdpabmlecaaDoor
end
