/-
  What the laws on crashes share: devices without a fuse, what a crash keeps, calls read out of a list.
-/
import Derived.Test.YtfacinlpkblopaaDeviceFuse
import Derived.Test.YtfacinlpkblopaaRowMore
import Derived.IntWalk
namespace Go.Proofs.Ytfacinlpkblopaa
open Go.RowKit Go.Maps
theorem keptBy_nil (r : Nat) : keptBy [] [] r = 0 := by simp [keptBy]
theorem crashByte_nil (cur : List Nat) (old : Nat → Option (List Nat)) (p : Nat) : crashByte cur old [] [] p = match old (p / 64) with | some l => l.getD (p % 64) 0 | none => cur.getD p 0 := by
  unfold crashByte
  cases old (p / 64) with
  | none => rfl
  | some l =>
    dsimp only
    rw [keptBy_nil, if_neg (by omega)]
theorem crashed_len (n : Nat) (cur : List Nat) (old : Nat → Option (List Nat)) (keep : List Bool) (T : List (Int × Int)) : (crashed n cur old keep T).length = n * 64 := by simp [crashed]
theorem crashed_get {n : Nat} {cur : List Nat} {old : Nat → Option (List Nat)} {keep : List Bool} {T : List (Int × Int)} {p : Nat} (hp : p < n * 64) : (crashed n cur old keep T).getD p 0 = crashByte cur old keep T p := by
  unfold crashed
  rw [List.getD_eq_getElem?_getD, List.getElem?_map, List.getElem?_range hp]; rfl
theorem list_ext {a b : List Nat} {k : Nat} (ha : a.length = k) (hb : b.length = k) (h : ∀ p, p < k → a.getD p 0 = b.getD p 0) : a = b :=
  getD_ext (ha.trans hb.symm) (fun j hj => h j (by omega))
theorem crashed_none {n : Nat} {cur : List Nat} (hl : cur.length = n * 64) (keep : List Bool) (T : List (Int × Int)) : crashed n cur (fun _ => none) keep T = cur :=
  list_ext (crashed_len _ _ _ _ _) hl fun p hp => by rw [crashed_get hp]; rfl
theorem count_le (i : Nat) (old : Nat → Option (List Nat)) : dirtyCount i old ≤ i := dirty_le i old
theorem crashed_all {n : Nat} {cur : List Nat} {old : Nat → Option (List Nat)} (hl : cur.length = n * 64) (keep : List Bool) (hk : ∀ r, r < n → keep.getD r false = true) : crashed n cur old keep [] = cur :=
  list_ext (crashed_len _ _ _ _ _) hl fun p hp => by
    rw [crashed_get hp]
    unfold crashByte
    cases old (p / 64) with
    | none => rfl
    | some l =>
      dsimp only
      have h1 : keptBy keep [] (dirtyCount (p / 64) old) = 64 := by
        unfold keptBy
        show (if keep.getD (dirtyCount (p / 64) old) false = true then 64 else 0) = 64
        rw [if_pos (hk _ (by have := count_le (p / 64) old; omega))]
      rw [h1, if_pos (Nat.mod_lt _ (by decide))]
/-- A Write leaves the old image. -/
theorem crashed_wrote {n j : Nat} {s : Flash} {b : List Nat} (hl : s.cur.length = n * 64) (hj : j < n) (hb : b.length ≤ 64) : crashed n (s.wrote j b).cur (s.wrote j b).old [] [] = crashed n s.cur s.old [] [] :=
  list_ext (crashed_len _ _ _ _ _) (crashed_len _ _ _ _ _) fun p hp => by
    rw [crashed_get hp, crashed_get hp, crashByte_nil, crashByte_nil]
    show (match (if p / 64 = j then some ((s.old j).getD (sec s.cur j)) else s.old (p / 64)) with | some l => l.getD (p % 64) 0 | none => (putSec s.cur j (pad b)).getD p 0) = _
    by_cases e : p / 64 = j
    · rw [if_pos e, e]
      dsimp only
      cases s.old j with
      | some l => rfl
      | none =>
        show (sec s.cur j).getD (p % 64) 0 = s.cur.getD p 0
        rw [sec_get (Nat.mod_lt _ (by decide)), show j * 64 + p % 64 = p by omega]
    · rw [if_neg e]
      cases s.old (p / 64) with
      | some l => rfl
      | none =>
        show (putSec s.cur j (pad b)).getD p 0 = s.cur.getD p 0
        rw [putSec_get hl hj (pad_len hb), if_neg e]
/-- Alive, and no fuse. -/
structure Plain (s : Flash) : Prop where
  dead : s.dead = false
  fused : s.fused = false
theorem Plain.burnt {s : Flash} (h : Plain s) : s.burnt = s := by unfold Flash.burnt; rw [if_neg (by rw [h.fused]; simp)]
theorem Plain.lasts {s : Flash} (h : Plain s) : s.lasts = true := by unfold Flash.lasts; rw [h.fused]; rfl
theorem Plain.write {s : Flash} (h : Plain s) {n j : Nat} (hj : j < n) {b : List Nat} (hb : b.length ≤ 64) : s.writeErr n (j : Int) b = 0 ∧ s.write n (j : Int) b = s.wrote j b := by
  have h1 : ¬ s.dead = true := by rw [h.dead]; simp
  have h2 : ¬ ((j : Int) < 0 ∨ (n : Int) ≤ (j : Int)) := by omega
  have h3 : ¬ 64 < b.length := by omega
  have h4 : ¬ (s.dead = true ∨ (j : Int) < 0 ∨ (n : Int) ≤ (j : Int) ∨ 64 < b.length) := fun h => h.elim h1 (fun h => by omega)
  unfold Flash.writeErr Flash.write
  rw [if_neg h1, if_neg h2, if_neg h3, if_pos h.lasts, if_neg h4, if_pos h.lasts, h.burnt, Int.toNat_natCast]
  exact ⟨rfl, rfl⟩
theorem Plain.barrier {s : Flash} (h : Plain s) : s.barrierErr = 0 ∧ s.barrier = { s with old := fun _ => none } := by
  have h1 : ¬ s.dead = true := by rw [h.dead]; simp
  unfold Flash.barrierErr Flash.barrier
  rw [if_neg h1, if_neg h1, if_pos h.lasts, if_pos h.lasts, h.burnt]
  exact ⟨rfl, rfl⟩
theorem Plain.wrote {s : Flash} (h : Plain s) (j : Nat) (b : List Nat) : Plain (s.wrote j b) := ⟨h.dead, h.fused⟩
theorem plain_fresh (l : List Nat) : Plain (Flash.fresh l) := ⟨rfl, rfl⟩
/-- 'min' of two integers, in a region that stands still. -/
theorem wpStill_min2 {P : Program} {ops : Array Oper} {rest : List Oper} {o : Oper} {a : Act} {w : World} {Q : Act → Prop} (hw : Region.wanted o (yielded ops a.tmps) = true) (x y : Operand) (ats : Array TypeId)
    (ho : o.op = .call { callee := .builtin .min, args := #[x, y], argTypes := ats }) (k : IntKind) (p q r : Int) (hx : a.eval x = .int k p) (hy : a.eval y = .int k q) (hm : (if q < p then q else p) = r)
    (h : wpStill P ops w Q rest (a.put o.dst (.int k r))) : wpStill P ops w Q (o :: rest) a := by
  refine wpStill_step fun K hK => ?_
  rw [if_pos hw]
  have hrun : (Builtin.min_ ats o.type #[.int k p, .int k q]).run P w = .ok (.int k r) w := by rw [← hm]; simp [Builtin.min_, Builtin.min2]
  unfold Oper.still
  simp [execOp, ho, resolve, invoke, builtin, hx, hy, hrun, Result.andThen, Oper.stillUpon]
  exact hK _ h
theorem min_named (q : Nat) (b : Nat) : ∃ mn : Nat, mn ≤ q ∧ mn ≤ b ∧ mn = min q b ∧ Hid ((if ((b : Nat) : Int) < (q : Int) then ((b : Nat) : Int) else (q : Int)) = (mn : Int)) := by
  by_cases h : ((b : Nat) : Int) < (q : Int)
  · exact ⟨b, by omega, Nat.le_refl _, by omega, if_pos h⟩
  · exact ⟨q, Nat.le_refl _, by omega, by omega, if_neg h⟩
theorem field_at (ad : Addr) (k j : Nat) : (ad.add k).add (j + 1) = ⟨(ad.add k).block, (ad.add k).off + (j + 1), none⟩ := by
  unfold Addr.add
  by_cases hk : k = 0 <;> simp [hk, Nat.add_assoc]
theorem mod_named (x K : Int) (hK : 0 < K) (hK2 : K ≤ 1000) : ∃ j : Nat, (j : Int) < K ∧ Hid ((wrap64 (x.tmod K + K)).tmod K = (j : Int)) := by
  have h2 : x.tmod K < K := Int.tmod_lt_of_pos x hK
  have h3 : -K < x.tmod K := Int.lt_tmod_of_pos x hK
  have h4 : wrap64 (x.tmod K + K) = x.tmod K + K := IntWalk.wrap64_in _ ⟨by omega, by omega⟩
  have h5 : 0 ≤ (x.tmod K + K).tmod K := Int.tmod_nonneg _ (by omega)
  have h6 : (x.tmod K + K).tmod K < K := Int.tmod_lt_of_pos _ hK
  refine ⟨((x.tmod K + K).tmod K).toNat, by omega, ?_⟩
  show _ = _
  rw [h4]
  omega
theorem Bls.take {B : Nat} {w : World} {A : Option Addr} {l : List Bool} (h : Bls w B A l) (n : Nat) : Bls w B A (l.take n) := fun k hk => by
  rw [List.length_take] at hk
  obtain ⟨ad, h1, h2, h3⟩ := h k (by omega)
  exact ⟨ad, h1, h2, by rw [h3, List.getD_eq_getElem?_getD, List.getD_eq_getElem?_getD, List.getElem?_take_of_lt (by omega)]⟩
theorem Trs.take {B : Nat} {w : World} {A : Option Addr} {l : List (Int × Int)} (h : Trs w B A l) (n : Nat) : Trs w B A (l.take n) := fun k hk => by
  rw [List.length_take] at hk
  obtain ⟨ad, h1, h2, h3, h4⟩ := h k (by omega)
  have e : (l.take n).getD k (0, 0) = l.getD k (0, 0) := by rw [List.getD_eq_getElem?_getD, List.getD_eq_getElem?_getD, List.getElem?_take_of_lt (by omega)]
  exact ⟨ad, h1, h2, by rw [e]; exact h3, by rw [e]; exact h4⟩
theorem Bls.up' {w w' : World} {A : Option Addr} {l : List Bool} (h : Bls w w.heap.size A l) (hb : Below w.heap.size w w') : Bls w' w'.heap.size A l := (h.below hb (Nat.le_refl _)).up hb.size
theorem Bs.next {w w' : World} {A : Option Addr} {l : List Nat} (h : Bs w w.heap.size A l) (hb : Below w.heap.size w w') : Bs w' w'.heap.size A l := (h.below hb (Nat.le_refl _)).more hb.size
theorem Dev.next {w w' : World} {g c m n : Nat} {s : Flash} (h : Dev w g c m n s) (hb : Below w.heap.size w w') : Dev w' g c m n s := h.below hb h.lt.1 h.lt.2.1 h.lt.2.2
/-- What stays true at the end of a law on crashes. -/
structure EndAt (w wx : World) (n g c m : Nat) (s : Flash) (g' c' m' : Nat) (C : List Nat) (r : Nat) (all : List Bool) (Ao : Option Addr) (lo : List Nat) : Prop where
  dev : Dev wx g c m n s
  below : Below w.heap.size w wx
  dev' : Dev wx g' c' m' n (Flash.fresh C)
  all_ : Bls wx wx.heap.size (some ⟨r, 0, none⟩) all
  olds : Bs wx wx.heap.size Ao lo
theorem EndAt.next {w wx wy : World} {n g c m : Nat} {s : Flash} {g' c' m' : Nat} {C : List Nat} {r : Nat} {all : List Bool} {Ao : Option Addr} {lo : List Nat} (h : EndAt w wx n g c m s g' c' m' C r all Ao lo) (hb : Below wx.heap.size wx wy) : EndAt w wy n g c m s g' c' m' C r all Ao lo :=
  ⟨h.dev.next hb, h.below.trans (hb.mono h.below.size), h.dev'.next hb, h.all_.up' hb, h.olds.next hb⟩
theorem EndAt.drewN {w wx : World} {n g c m : Nat} {s : Flash} {g' c' m' : Nat} {C : List Nat} {r : Nat} {all : List Bool} {Ao : Option Addr} {lo : List Nat} (h : EndAt w wx n g c m s g' c' m' C r all Ao lo) (k : Nat) : EndAt w (wx.drewN k) n g c m s g' c' m' C r all Ao lo :=
  ⟨h.dev, ⟨h.below.os, h.below.tape, h.below.output, h.below.size, h.below.block⟩, h.dev', h.all_, h.olds⟩
theorem bls_nil (w : World) : Bls w w.heap.size none [] := fun k hk => absurd hk (by simp)
theorem trs_nil (w : World) : Trs w w.heap.size none [] := fun k hk => absurd hk (by simp)
end Go.Proofs.Ytfacinlpkblopaa
