/-
  The texts Frame, Kept of this proof, one behind the other.
-/
import Derived.Test.YtgnbmmceffolmaaGreatDoorFoldA
import Derived.Deep.DeepCutAuto
import Derived.Deep.CutBlock
import Derived.OwnWalk
import Derived.Deep.AppendLies
import Derived.Lib.SlBytesConst
import Derived.Laws.StructEq
import Derived.Maps.AppendAt
section
section
namespace Go.Proofs.YtgnbmmceffolmaaGreatDoor.Fr
open Wire
/-- Are there frames of this kind, for this salt and sector? -/
def may (kind salt sector : Int) : Prop := 1 ≤ kind ∧ kind ≤ 4 ∧ 0 ≤ salt ∧ 0 ≤ sector ∧ sector < 1048576
instance (kind salt sector : Int) : Decidable (may kind salt sector) := by unfold may; infer_instance
/-- What precedes the checksum. -/
def body (kind : Int) (p : List Nat) : List Nat := kind.toNat :: (p ++ List.replicate (59 - p.length) 0)
def sum (kind salt sector : Int) (p : List Nat) : Nat := Crc.U (Crc.upd 0#32 (Rc.spot salt sector ++ body kind p))
def enc (kind salt sector : Int) (p : List Nat) : List Nat := body kind p ++ be 4 (sum kind salt sector p)
/-- Is b a frame? -/
def good (kind salt sector : Int) (b : List Nat) : Prop := may kind salt sector ∧ b.length = 64 ∧ enc kind salt sector (Rc.sub b 1 59) = b
theorem body_length (kind : Int) (p : List Nat) (h : p.length ≤ 59) : (body kind p).length = 60 := by
  unfold body
  rw [List.length_cons, List.length_append, List.length_replicate]; omega
theorem enc_length (kind salt sector : Int) (p : List Nat) (h : p.length ≤ 59) : (enc kind salt sector p).length = 64 := by
  unfold enc
  rw [List.length_append, body_length _ _ h, be_length]
theorem body_lt (kind : Int) (p : List Nat) (hk : 1 ≤ kind ∧ kind ≤ 4) (hp : ∀ x ∈ p, x < 256) : ∀ x ∈ body kind p, x < 256 := by
  intro x hx
  unfold body at hx
  rcases List.mem_cons.1 hx with rfl | h
  · omega
  rcases List.mem_append.1 h with h | h
  · exact hp x h
  · rw [(List.mem_replicate.1 h).2]; decide
theorem enc_lt (kind salt sector : Int) (p : List Nat) (hk : 1 ≤ kind ∧ kind ≤ 4) (hp : ∀ x ∈ p, x < 256) : ∀ x ∈ enc kind salt sector p, x < 256 := by
  intro x hx
  unfold enc at hx
  rcases List.mem_append.1 hx with h | h
  · exact body_lt kind p hk hp x h
  · exact be_lt _ _ x h
theorem body_full (kind : Int) (p : List Nat) (h : p.length = 59) : body kind p = kind.toNat :: p := by
  unfold body
  rw [h]
  simp
theorem fill_length (p : List Nat) (h : p.length ≤ 59) : (p ++ List.replicate (59 - p.length) 0).length = 59 := by
  rw [List.length_append, List.length_replicate]; omega
theorem body_fill (kind : Int) (p : List Nat) (h : p.length ≤ 59) : body kind (p ++ List.replicate (59 - p.length) 0) = body kind p := by
  rw [body_full _ _ (fill_length p h)]; rfl
theorem enc_fill (kind salt sector : Int) (p : List Nat) (h : p.length ≤ 59) : enc kind salt sector (p ++ List.replicate (59 - p.length) 0) = enc kind salt sector p := by
  unfold enc sum
  rw [body_fill kind p h]
theorem sub_enc (kind salt sector : Int) (p : List Nat) (h : p.length ≤ 59) : Rc.sub (enc kind salt sector p) 1 59 = p ++ List.replicate (59 - p.length) 0 := by
  have hl := fill_length p h
  unfold enc body Rc.sub
  rw [List.cons_append, List.drop_succ_cons, List.drop_zero]
  exact List.take_left' hl
theorem sub59 (b : List Nat) (h : b.length = 64) : (Rc.sub b 1 59).length = 59 := Rc.sub_length b 1 59 (by omega)
/-- What was encoded is a frame. -/
theorem round (kind salt sector : Int) (p : List Nat) (hm : may kind salt sector) (h : p.length ≤ 59) : good kind salt sector (enc kind salt sector p) :=
  ⟨hm, enc_length _ _ _ _ h, by rw [sub_enc _ _ _ _ h, enc_fill _ _ _ _ h]⟩
theorem be_inj (n m : Nat) (hn : n < 4294967296) (hm : m < 4294967296) (h : be 4 n = be 4 m) : n = m := by
  have e := congrArg num h
  rw [num_be, num_be, show (256 : Nat) ^ 4 = 4294967296 from rfl] at e
  omega
theorem be8 (n : Nat) : be 8 n = be 4 (n / 4294967296) ++ be 4 n := by
  have e : ∀ k, n / 256 ^ (4 + k) % 256 = n / 4294967296 / 256 ^ k % 256 := fun k => by
    rw [Nat.div_div_eq_div_mul, Nat.pow_add]
  show [n / 256 ^ (4 + 3) % 256, n / 256 ^ (4 + 2) % 256, n / 256 ^ (4 + 1) % 256, n / 256 ^ (4 + 0) % 256, n / 256 ^ 3 % 256, n / 256 ^ 2 % 256, n / 256 ^ 1 % 256, n / 256 ^ 0 % 256] = [n / 4294967296 / 256 ^ 3 % 256, n / 4294967296 / 256 ^ 2 % 256, n / 4294967296 / 256 ^ 1 % 256, n / 4294967296 / 256 ^ 0 % 256] ++ [n / 256 ^ 3 % 256, n / 256 ^ 2 % 256, n / 256 ^ 1 % 256, n / 256 ^ 0 % 256]
  rw [e 3, e 2, e 1, e 0]; rfl
/-- Two messages that part in four neighbouring bytes at most, and have the same checksum, are the same. -/
theorem burst_eq (c : Crc.B32) (q a b : List Nat) (ha : a.length = 4) (hb : b.length = 4) (la : ∀ x ∈ a, x < 256) (lb : ∀ x ∈ b, x < 256) (h : Crc.upd c (a ++ q) = Crc.upd c (b ++ q)) : a = b := by
  match a, ha, b, hb with
  | [a0, a1, a2, a3], _, [b0, b1, b2, b3], _ =>
    have la0 := la a0 (by simp); have la1 := la a1 (by simp); have la2 := la a2 (by simp); have la3 := la a3 (by simp)
    have lb0 := lb b0 (by simp); have lb1 := lb b1 (by simp); have lb2 := lb b2 (by simp); have lb3 := lb b3 (by simp)
    have x0 := Nat.xor_lt_two_pow (n := 8) la0 lb0
    have x1 := Nat.xor_lt_two_pow (n := 8) la1 lb1
    have x2 := Nat.xor_lt_two_pow (n := 8) la2 lb2
    have x3 := Nat.xor_lt_two_pow (n := 8) la3 lb3
    have k : ∀ u v : Nat, u ^^^ (u ^^^ v) = v := fun u v => by rw [← Nat.xor_assoc, Nat.xor_self, Nat.zero_xor]
    have z : ∀ u v : Nat, u ^^^ v = 0 → u = v := fun u v e => by
      have := k u v
      rw [e, Nat.xor_zero] at this
      exact this
    by_cases hne : a0 ^^^ b0 = 0 ∧ a1 ^^^ b1 = 0 ∧ a2 ^^^ b2 = 0 ∧ a3 ^^^ b3 = 0
    · obtain ⟨e0, e1, e2, e3⟩ := hne
      rw [z _ _ e0, z _ _ e1, z _ _ e2, z _ _ e3]
    · have hb := Crc.burst c [] q a0 a1 a2 a3 _ _ _ _ x0 x1 x2 x3 hne
      rw [k, k, k, k] at hb
      exact absurd h hb
theorem spot_eq (s x : Int) : Rc.spot s x = be 8 s.toNat ++ be 4 x.toNat := by
  simp [Rc.spot, Rc.flat]
/-- The same bytes: the same beginning, the same checksum. -/
theorem enc_parts {kind salt sector kind' salt' sector' : Int} {p q : List Nat} (hp : p.length ≤ 59) (hq : q.length ≤ 59) (h : enc kind salt sector p = enc kind' salt' sector' q) :
    body kind p = body kind' q ∧ Crc.upd 0#32 (Rc.spot salt sector ++ body kind p) = Crc.upd 0#32 (Rc.spot salt' sector' ++ body kind p) := by
  unfold enc at h
  have h1 := List.append_inj h (by rw [body_length _ _ hp, body_length _ _ hq])
  refine ⟨h1.1, ?_⟩
  have h2 := be_inj _ _ (Crc.U_lt _) (Crc.U_lt _) h1.2
  unfold sum at h2
  have h3 := Crc.U_inj _ _ h2
  rw [h3, h1.1]
theorem other_sector (kind salt sector sector' : Int) (p : List Nat) (hm : may kind salt sector) (hp : p.length ≤ 59) : good kind salt sector' (enc kind salt sector p) ↔ sector' = sector := by
  constructor
  · intro hg
    obtain ⟨hm', -, h⟩ := hg
    rw [sub_enc _ _ _ _ hp, enc_fill _ _ _ _ hp] at h
    have h1 := (enc_parts hp hp h).2
    rw [spot_eq, spot_eq, List.append_assoc, List.append_assoc, Crc.upd_append, Crc.upd_append _ (be 8 salt.toNat)] at h1
    have h2 := be_inj _ _ (by unfold may at hm'; omega) (by unfold may at hm; omega) (burst_eq _ _ _ _ (be_length _ _) (be_length _ _) (be_lt _ _) (be_lt _ _) h1)
    unfold may at hm hm'
    omega
  · rintro rfl; exact round _ _ _ _ hm hp
theorem other_salt (kind salt salt' sector : Int) (p : List Nat) (hm : may kind salt sector) (hp : p.length ≤ 59) (hs : 0 ≤ salt') (h32 : salt'.toNat / 4294967296 = salt.toNat / 4294967296) : good kind salt' sector (enc kind salt sector p) ↔ salt' = salt := by
  constructor
  · intro hg
    obtain ⟨hm', -, h⟩ := hg
    rw [sub_enc _ _ _ _ hp, enc_fill _ _ _ _ hp] at h
    have h1 := (enc_parts hp hp h).2
    rw [spot_eq, spot_eq, be8, be8, h32, List.append_assoc, List.append_assoc, List.append_assoc, List.append_assoc, Crc.upd_append, Crc.upd_append _ (be 4 (salt.toNat / 4294967296))] at h1
    have h2 := congrArg num (burst_eq _ _ _ _ (be_length _ _) (be_length _ _) (be_lt _ _) (be_lt _ _) h1)
    rw [num_be, num_be, show (256 : Nat) ^ 4 = 4294967296 from rfl] at h2
    unfold may at hm
    omega
  · rintro rfl; exact round _ _ _ _ hm hp
end Go.Proofs.YtgnbmmceffolmaaGreatDoor.Fr
end
section
namespace Go.Proofs.YtgnbmmceffolmaaGreatDoor
open Go.RowKit

theorem isplace_any (k s x : Int) (w : World) : Calls Tryz.prog 105 #[.int .i64 k, .int .i64 s, .int .i64 x] w fun e w' => e = .returned (.bool (decide (Fr.may k s x))) ∧ w = w' := by
  go_enter Tryz.func105, Tryz.ntmps105
  go_wp2
  all_goals
    go_ret
    refine ⟨ret_bool ?_, rfl⟩
    first
      | exact (decide_eq_false (by unfold Fr.may; omega)).symm
      | exact decide_eq_decide.2 (by unfold Fr.may; omega)
/-- wire.Put of a slice that lies anywhere. -/
theorem put_row (A : Option Addr) (B n c : Nat) (l : List Nat) (N m : Nat) (mi : Int) (hmi : mi = (m : Int)) (w : World) (hs : SlIs A n c) (hl : l.length = n) (hn : n ≤ 70368744177664) (hb : Bs w B A l) (hm : 1 ≤ m) (hm8 : m ≤ 8) :
    Calls Tryz.prog 106 #[.slice A n c, .int .u64 (N : Int), .int .i64 mi] w fun e w' => ∃ A' n' c' p, e = .returned (.slice A' n' c') ∧ Hid (p = l ++ Wire.be m N) ∧ Hid (n' = n + m) ∧ Row w p n' A' c' w' := by
  refine (put_ok A B n c l N m mi hmi w hs.1 hl hn hb hm hm8).mono ?_
  rintro e w' ⟨v, rfl, hown, hbel⟩
  obtain ⟨A', c', rfl, hbs, hl2, hn2, hm2, ho2⟩ := own_bytes hown (fun y hy => by
    rcases List.mem_append.1 hy with h | h
    · exact hb.lt y h
    · exact Wire.be_lt _ _ y h)
  exact ⟨A', _, c', _, rfl, rfl, by show _ = _; rw [List.length_append, Wire.be_length, hl], hown, rfl, sl_own hn2 hm2 ho2, hbs, hbel⟩
theorem sl_nil : SlIs none 0 0 := ⟨fun _ => ⟨rfl, rfl⟩, Nat.le_refl _, by decide⟩
theorem bs_nil (w : World) (B : Nat) : Bs w B none [] := fun k hk => absurd hk (by simp)
theorem frsum_any (sa se : Nat) (A : Option Addr) (B n c : Nat) (l : List Nat) (w : World) (hsa : sa < 9223372036854775808) (hse : se < 1048576) (hB : B ≤ w.heap.size) (hl : Hid (l.length = n)) (hn : n ≤ 9223372036854775807) (hb : Hid (Bs w B A l)) (ht : Hid (TabW w)) (hz : 0 < w.heap.size) :
    Calls Tryz.prog 107 #[.int .i64 (sa : Int), .int .i64 (se : Int), .slice A n c] w fun e w' => e = .returned (.int .u32 (Crc.U (Crc.upd 0#32 (Rc.spot (sa : Int) (se : Int) ++ l)) : Int)) ∧ Below w.heap.size w w' := by
  have HSP : Hid (Rc.spot (sa : Int) (se : Int) = Wire.be 8 sa ++ Wire.be 4 se) := Fr.spot_eq _ _
  have HP1 := Lib.hid (put_row none 0 0 0 [] sa 8 8 rfl w sl_nil rfl (by decide) (bs_nil _ _) (by decide) (by decide))
  go_enter Tryz.func107, Tryz.ntmps107
  go_wp2_with fail
  refine HP1.out.mono ?_
  rintro e w1 ⟨A1, n1, c1, p1, rfl, hp1, hn1, hr1⟩
  have HR1 := Lib.hid hr1
  have h8 : n1 = 8 := hn1.out
  subst h8
  clear hr1
  go_wp2_with fail
  refine (put_row A1 w1.heap.size 8 c1 p1 se 4 4 rfl w1 HR1.out.2.2.1 HR1.out.2.1 (by decide) HR1.out.2.2.2.1 (by decide) (by decide)).mono ?_
  rintro e w2 ⟨A2, n2, c2, p2, rfl, hp2, hn2, hr2⟩
  have h12 : n2 = 12 := hn2.out
  subst h12
  have HB2 : Hid (Below w.heap.size w w2) := HR1.out.2.2.2.2.trans (hr2.2.2.2.2.mono HR1.out.2.2.2.2.size)
  have HT2 : Hid (TabW w2) := ht.out.below HB2.out hz
  have HP2 : Hid (p2 = Rc.spot (sa : Int) (se : Int)) := by
    show _ = _
    rw [HSP.out, hp2.out, hp1.out, List.nil_append]
  have HS2 := Lib.hid (sum_any A2 w2.heap.size c2 12 p2 w2 hr2.2.1 (by decide) hr2.2.2.2.1 HT2)
  have HU2 : Hid (∀ c0, Calls Tryz.prog 118 #[.int .u32 (Crc.U c0 : Int), .slice A n c] w2 fun e w' => e = .returned (.int .u32 (Crc.U (Crc.upd c0 l) : Int)) ∧ w2 = w') := fun c0 =>
    update_any _ c0 rfl A B c n l w2 hl hn (hb.out.below HB2.out hB) HT2
  clear hr2 hp2 hp1 hn1 hn2
  go_wp2_with fail
  refine HS2.out.mono ?_
  rintro e w' ⟨rfl, rfl⟩
  go_wp2_with fail
  refine (HU2.out _).mono ?_
  rintro e w' ⟨rfl, rfl⟩
  go_wp2
  go_ret
  rw [← HP2.out, Crc.upd_append]
  exact ⟨rfl, HB2.out⟩
/-- What Encode leaves: the error, and the bytes in a row of their own where there is none. -/
def FrEnc (w : World) (b : List Nat) (er : Int) (e : Ending) (w' : World) : Prop :=
  ∃ A' n' c', e = .returned (.tuple #[.slice A' n' c', .int .i64 er]) ∧ SlIs A' n' c' ∧ (er = 0 → n' = 64 ∧ w'.ownsRow w.heap.size 5 1 (.slice A' 64 c') 64 (vals b)) ∧ (er ≠ 0 → n' = 0) ∧ Below w.heap.size w w'
theorem frencode_early (k s x : Int) (A : Option Addr) (n c : Nat) (w : World) (h : ¬ Fr.may k s x ∨ 59 < n) :
    Calls Tryz.prog 80 #[.int .i64 k, .int .i64 s, .int .i64 x, .slice A n c] w (FrEnc w [] (if Fr.may k s x then 3 else 2)) := by
  by_cases hm : Fr.may k s x
  · have hn : decide ((59 : Int) < (n : Int)) = true := by
      have h2 := h.resolve_left (fun e => e hm)
      simp; omega
    have HP : Hid (∀ W, Calls Tryz.prog 105 #[.int .i64 k, .int .i64 s, .int .i64 x] W fun e w' => e = .returned (.bool true) ∧ W = w') := fun W => by
      have h := isplace_any k s x W
      rwa [decide_eq_true hm] at h
    rw [if_pos hm]
    clear h hm
    go_enter Tryz.func80, Tryz.ntmps80
    go_wp2_with fail
    refine (HP.out _).mono ?_
    rintro e w' ⟨rfl, rfl⟩
    go_wp2
    go_ret2
    exact ⟨none, 0, 0, rfl, sl_nil, fun e => absurd e (by decide), fun _ => rfl, Below.refl _ _⟩
  · have HP : Hid (∀ W, Calls Tryz.prog 105 #[.int .i64 k, .int .i64 s, .int .i64 x] W fun e w' => e = .returned (.bool false) ∧ W = w') := fun W => by
      have h := isplace_any k s x W
      rwa [decide_eq_false hm] at h
    rw [if_neg hm]
    clear h hm
    go_enter Tryz.func80, Tryz.ntmps80
    go_wp2_with fail
    refine (HP.out _).mono ?_
    rintro e w' ⟨rfl, rfl⟩
    go_wp2
    go_ret2
    exact ⟨none, 0, 0, rfl, sl_nil, fun e => absurd e (by decide), fun _ => rfl, Below.refl _ _⟩
theorem splice_body (kd : Nat) (l : List Nat) (n : Nat) (hl : l.length = n) : splice (vals (kd :: List.replicate 59 0)) 1 (vals l) = vals (Fr.body (kd : Int) l) := by
  have e1 : vals (kd :: List.replicate 59 0) = .int .u8 ((kd : Nat) : Int) :: vals (List.replicate 59 0) := rfl
  have e2 : (vals (List.replicate 59 0)).drop n = vals (List.replicate (59 - n) 0) := by
    unfold vals
    rw [← List.map_drop, List.drop_replicate]
  have e3 : vals (Fr.body (kd : Int) l) = .int .u8 ((kd : Nat) : Int) :: (vals l ++ vals (List.replicate (59 - n) 0)) := by
    unfold Fr.body
    rw [hl, Int.toNat_natCast, ← vals_append]; rfl
  unfold splice
  rw [vals_length, hl, e1, e3, Nat.add_comm 1 n, List.drop_succ_cons, e2]; rfl
set_option maxHeartbeats 1000000 in
theorem frencode_ok (kd sa se : Nat) (A : Option Addr) (B n c : Nat) (l : List Nat) (w : World) (hk : 1 ≤ kd ∧ kd ≤ 4) (hsa : sa < 9223372036854775808) (hse : se < 1048576) (hB : B ≤ w.heap.size) (hs : SlIs A n c) (hl : Hid (l.length = n)) (hn : n ≤ 59) (hb : Hid (Bs w B A l)) (ht : Hid (TabW w)) (hz : 0 < w.heap.size) :
    Calls Tryz.prog 80 #[.int .i64 (kd : Int), .int .i64 (sa : Int), .int .i64 (se : Int), .slice A n c] w (FrEnc w (Fr.enc (kd : Int) (sa : Int) (se : Int) l) 0) := by
  have hn' : decide ((59 : Int) < (n : Int)) = false := by simp; omega
  have HP : Hid (∀ W, Calls Tryz.prog 105 #[.int .i64 (kd : Int), .int .i64 (sa : Int), .int .i64 (se : Int)] W fun e w' => e = .returned (.bool true) ∧ W = w') := fun W => by
    have h := isplace_any (kd : Int) (sa : Int) (se : Int) W
    rwa [decide_eq_true (by unfold Fr.may; omega)] at h
  obtain ⟨i0, hi0, hz0, hz1, hz2⟩ := info_parts info_u8
  have hmk := fun (W : World) => run_make (P := Tryz.prog) W 27 5 i0 (.int .u8 0) Tryz.underlying27 hi0 hz0 .i64 .i64 60 60 (by omega) (by omega) (by rw [hz2]; omega) (by omega)
  rw [hz1] at hmk
  have I0 := Lib.hid (And.intro hi0 (And.intro hz0 (And.intro hz1 hz2))); clear hi0 hz0 hz1 hz2
  go_enter Tryz.func80, Tryz.ntmps80
  go_wp2_with fail
  refine (HP.out _).mono ?_
  rintro e w' ⟨rfl, rfl⟩
  go_upto_region 6 with fail
  have HR1 : Hid ((w.alloc (.cells (madeCells #[.int .u8 0] 60) 5)).heap[w.heap.size]? = some (.cells (vals (List.replicate 60 0)).toArray 5 (0, 0))) := by
    have h := made_row w 60
    rwa [show List.replicate 60 (Value.int .u8 0) = vals (List.replicate 60 0) by unfold vals; rw [List.map_replicate]; rfl] at h
  have HB1 : Hid (Below w.heap.size w (w.alloc (.cells (madeCells #[.int .u8 0] 60) 5))) := (Below.refl _ w).alloc (Nat.le_refl _) _
  generalize w.alloc (.cells (madeCells #[.int .u8 0] 60) 5) = w1 at *
  have c0 : w1.cell? ⟨w.heap.size, 0, none⟩ = some (.int .u8 0) := by rw [cell_of_row _ _ _ _ _ _ HR1.out]; rfl
  have f0 : w1.frozen? ⟨w.heap.size, 0, none⟩ = false := frozen_of_row _ _ _ _ _ HR1.out
  have ek : IntKind.u8.wrap (kd : Int) = (kd : Int) := by rw [IntKind.wrap_u8]; omega
  go_upto_region 7 with fail
  have HR2 : Hid ((w1.setCell ⟨w.heap.size, 0, none⟩ (.int .u8 (kd : Int))).heap[w.heap.size]? = some (.cells (vals (kd :: List.replicate 59 0)).toArray 5 (0, 0))) := by
    have h := HR1.out
    show _ = _
    simp only [World.setCell, Array.getElem?_modify, h]
    rfl
  have HB2 : Hid (Below w.heap.size w (w1.setCell ⟨w.heap.size, 0, none⟩ (.int .u8 (kd : Int)))) := HB1.out.trans (below_of_grown (grown_set _ _ _ _) (Nat.le_refl _) HB1.out.size)
  generalize w1.setCell ⟨w.heap.size, 0, none⟩ (.int .u8 (kd : Int)) = w2 at *
  have HV : Hid ((vals l).length = n) := (vals_length l).trans hl.out
  have HBS2 : Hid (Bs w2 B A l) := hb.out.below HB2.out hB
  have HSP := Lib.hid (splice_body kd l n hl.out)
  have HLB : Hid ((Fr.body (kd : Int) l).length = 60) := Fr.body_length _ _ (by rw [hl.out]; exact hn)
  have HLT : Hid (∀ y ∈ Fr.body (kd : Int) l, y < 256) := Fr.body_lt _ _ (by omega) hb.out.lt
  clear c0 f0 hmk HR1 HB1 I0
  have hsz : (Tryz.prog.info? 5).map (·.size) = some 1 := by kernel_rfl
  have HC : Hid ((vals l).length = Nat.min n 59 ∧ (0 < (vals l).length → (some (⟨w.heap.size, 1, none⟩ : Addr)) = some ⟨w.heap.size, 1, none⟩ ∧ ∃ ad, A = some ad ∧ ∀ j v, (vals l)[j]? = some v → w2.cell? (ad.add j) = some v) ∧ 1 + (vals l).length ≤ (vals (kd :: List.replicate 59 0)).length) :=
    ⟨by rw [HV.out]; exact (Nat.min_eq_left hn).symm, fun h => ⟨rfl, by cases A with | none => (have := hs.1 rfl; rw [HV.out] at h; omega) | some ad => exact ⟨ad, rfl, fun j v hv => HBS2.out.cells j v hv⟩⟩, by rw [HV.out, vals_length, List.length_cons, List.length_replicate]; omega⟩
  have HSZ := Lib.hid hsz; clear hsz
  go_wp2_with (with_reducible refine wpList_copy_splice rfl (.tmp 27) (.tmp 28) 27 27 rfl 5 Tryz.underlying27 HSZ.out (some ⟨w.heap.size, 1, none⟩) A 59 59 n c rfl rfl w.heap.size 1 (vals (kd :: List.replicate 59 0)) 5 HR2.out (vals l) HC.out.1 HC.out.2.1 HC.out.2.2 (vals_one l) w.heap.size w HB2.out (Nat.le_refl _) ?_; intro w3 hg3 hb3)
  have HG3 : Hid (w3.heap[w.heap.size]? = some (.cells (vals (Fr.body (kd : Int) l)).toArray 5 (0, 0))) := by
    have h := hg3.out
    rwa [HSP.out] at h
  have HB3 := Lib.hid hb3
  have HLT3 : w.heap.size < w3.heap.size := (Array.getElem?_eq_some_iff.1 HG3.out).1
  have HS3 : Hid (Bs w3 w3.heap.size (some ⟨w.heap.size, 0, none⟩) (Fr.body (kd : Int) l)) := fun k hk => by
    refine ⟨getD_lt HLT.out k, _, rfl, HLT3, ?_⟩
    rw [add_zero_block, cell_of_row _ _ _ _ _ _ HG3.out, List.getElem?_toArray, vals_at hk]
  have HF := Lib.hid (frsum_any sa se (some ⟨w.heap.size, 0, none⟩) w3.heap.size 60 60 (Fr.body (kd : Int) l) w3 hsa hse (Nat.le_refl _) HLB.out (by decide) HS3.out (ht.out.below HB3.out hz) (Nat.lt_of_lt_of_le hz HB3.out.size))
  have HE : Hid (Fr.enc (kd : Int) (sa : Int) (se : Int) l = Fr.body (kd : Int) l ++ Wire.be 4 (Crc.U (Crc.upd 0#32 (Rc.spot (sa : Int) (se : Int) ++ Fr.body (kd : Int) l)))) := rfl
  have hU := Crc.U_lt (Crc.upd 0#32 (Rc.spot (sa : Int) (se : Int) ++ Fr.body (kd : Int) l))
  clear hg3 hb3 HSP HBS2 HC HV HR2 HB2
  generalize Crc.U (Crc.upd 0#32 (Rc.spot (sa : Int) (se : Int) ++ Fr.body (kd : Int) l)) = q at *
  generalize Fr.body (kd : Int) l = bd at *
  go_wp2_with fail
  refine HF.out.mono ?_
  rintro e w4 ⟨rfl, hb4⟩
  have HS4 : Hid (Bs w4 w3.heap.size (some ⟨w.heap.size, 0, none⟩) bd) := HS3.out.below hb4 (Nat.le_refl _)
  have HB4 : Hid (Below w.heap.size w w4) := HB3.out.trans (hb4.mono HB3.out.size)
  clear hb4
  have sl60 : SlIs (some (⟨w.heap.size, 0, none⟩ : Addr)) 60 60 := ⟨(fun e => by cases e), Nat.le_refl _, by decide⟩
  have HPT := Lib.hid (put_row (some ⟨w.heap.size, 0, none⟩) w3.heap.size 60 60 bd q 4 4 rfl w4 sl60 HLB.out (by decide) HS4.out (by decide) (by decide))
  clear sl60
  go_wp2_with fail
  refine HPT.out.mono ?_
  rintro e w5 ⟨A5, n5, c5, p5, rfl, hp5, hn5, hr5⟩
  have h64 : n5 = 64 := hn5.out
  subst h64
  have HR5 := Lib.hid hr5
  clear hr5
  go_wp2
  go_ret2
  refine ⟨A5, 64, c5, rfl, HR5.out.2.2.1, fun _ => ⟨rfl, ?_⟩, fun e => absurd rfl e, HB4.out.trans (HR5.out.2.2.2.2.mono HB4.out.size)⟩
  rw [HE.out, ← hp5.out]
  exact ownsRow_mono HR5.out.1 HB4.out.size
end Go.Proofs.YtgnbmmceffolmaaGreatDoor
end
section
namespace Go.Proofs.YtgnbmmceffolmaaGreatDoor
open Go.RowKit
/-- The first error of Encode. -/
def Fr.err (k s x : Int) (n : Nat) : Int := if Fr.may k s x then (if 59 < n then 3 else 0) else 2
theorem frencode_any (k s x : Int) (A : Option Addr) (B n c : Nat) (l : List Nat) (w : World) (hs63 : s ≤ 9223372036854775807) (hB : B ≤ w.heap.size) (hs : SlIs A n c) (hl : l.length = n) (hb : Bs w B A l) (ht : TabW w) (hz : 0 < w.heap.size) :
    Calls Tryz.prog 80 #[.int .i64 k, .int .i64 s, .int .i64 x, .slice A n c] w (FrEnc w (Fr.enc k s x l) (Fr.err k s x n)) := by
  have early : ¬ Fr.may k s x ∨ 59 < n → Calls Tryz.prog 80 #[.int .i64 k, .int .i64 s, .int .i64 x, .slice A n c] w (FrEnc w (Fr.enc k s x l) (Fr.err k s x n)) := fun h => by
    have e : Fr.err k s x n = if Fr.may k s x then 3 else 2 := by
      unfold Fr.err
      by_cases hm : Fr.may k s x
      · rw [if_pos hm, if_pos hm, if_pos (h.resolve_left (fun e => e hm))]
      · rw [if_neg hm, if_neg hm]
    have hne : (if Fr.may k s x then (3 : Int) else 2) ≠ 0 := by split <;> decide
    rw [e]
    refine (frencode_early k s x A n c w h).mono ?_
    rintro e w' ⟨A', n', c', rfl, h1, -, h3, h4⟩
    exact ⟨A', n', c', rfl, h1, fun e => absurd e hne, h3, h4⟩
  by_cases hm : Fr.may k s x
  · by_cases hn : 59 < n
    · exact early (.inr hn)
    · have e : Fr.err k s x n = 0 := by unfold Fr.err; rw [if_pos hm, if_neg hn]
      rw [e]
      unfold Fr.may at hm
      obtain ⟨kd, rfl⟩ := Int.eq_ofNat_of_zero_le (show 0 ≤ k by omega)
      obtain ⟨sa, rfl⟩ := Int.eq_ofNat_of_zero_le (show 0 ≤ s by omega)
      obtain ⟨se, rfl⟩ := Int.eq_ofNat_of_zero_le (show 0 ≤ x by omega)
      exact frencode_ok kd sa se A B n c l w ⟨by omega, by omega⟩ (by omega) (by omega) hB hs hl (by omega) hb ht hz
  · exact early (.inl hm)
/-- Nothing was decoded. -/
def NoFr (w : World) (e : Ending) (w' : World) : Prop := e = .returned (.tuple #[.slice none 0 0, .bool false]) ∧ Below w.heap.size w w'
/-- The payload, in a row of its own. -/
def GotFr (w : World) (p : List Nat) (e : Ending) (w' : World) : Prop := ∃ A1 c1, e = .returned (.tuple #[.slice A1 59 c1, .bool true]) ∧ SlIs A1 59 c1 ∧ BsIn w' w.heap.size w'.heap.size A1 p ∧ Below w.heap.size w w'
theorem frdecode_any (k s x : Int) (A : Option Addr) (B n c : Nat) (l : List Nat) (w : World) (hs63 : s ≤ 9223372036854775807) (hB : B ≤ w.heap.size) (hs : SlIs A n c) (hl : Hid (l.length = n)) (hb : Hid (Bs w B A l)) (ht : Hid (TabW w)) (hz : 0 < w.heap.size) :
    Calls Tryz.prog 51 #[.int .i64 k, .int .i64 s, .int .i64 x, .slice A n c] w fun e w' => (Fr.good k s x l ∧ GotFr w (Rc.sub l 1 59) e w') ∨ (¬ Fr.good k s x l ∧ NoFr w e w') := by
  by_cases h64 : n = 64
  · subst h64
    obtain ⟨ad, rfl⟩ : ∃ ad, A = some ad := by
      cases A with
      | none => have := hs.1 rfl; omega
      | some ad => exact ⟨ad, rfl⟩
    have hc64 : 64 ≤ c := hs.2.1
    have hc63 := hs.2.2
    have i1 : (1 : Int) ≤ (c : Int) := by omega
    have i60 : (60 : Int) ≤ (c : Int) := by omega
    have hc1 : c ≠ 1 := by omega
    have HSP : Hid (SlIs (some (⟨ad.block, ad.off + 1, none⟩ : Addr)) 59 (c - 1)) := ⟨(fun e => by cases e), by omega, by omega⟩
    have HPL : Hid ((Rc.sub l 1 59).length = 59) := Fr.sub59 l hl.out
    have HPB : Hid (∀ W, Below w.heap.size w W → Bs W B (some (⟨ad.block, ad.off + 1, none⟩ : Addr)) (Rc.sub l 1 59)) := fun W hW => by
      have h := ((hb.out.bsIn.drop 1).bs.take 59).below hW hB
      rw [Option.map_some, add_pos ad 1 (by omega)] at h
      exact h
    have HEN : Hid (∀ W, Below w.heap.size w W → Calls Tryz.prog 80 #[.int .i64 k, .int .i64 s, .int .i64 x, .slice (some ⟨ad.block, ad.off + 1, none⟩) 59 (c - 1)] W (FrEnc W (Fr.enc k s x (Rc.sub l 1 59)) (Fr.err k s x 59))) := fun W hW =>
      frencode_any k s x _ B 59 (c - 1) _ W hs63 (Nat.le_trans hB hW.size) HSP.out HPL.out (HPB.out W hW) (ht.out.below hW hz) (Nat.lt_of_lt_of_le hz hW.size)
    by_cases hm : Fr.may k s x
    · have HLT : Hid (∀ y ∈ Fr.enc k s x (Rc.sub l 1 59), y < 256) := Fr.enc_lt _ _ _ _ ⟨hm.1, hm.2.1⟩ (sub_lt hb.out.lt _ _)
      have HLE : Hid ((Fr.enc k s x (Rc.sub l 1 59)).length = 64) := Fr.enc_length _ _ _ _ (by rw [HPL.out]; decide)
      have HG : Hid (Fr.good k s x l ↔ l = Fr.enc k s x (Rc.sub l 1 59)) := ⟨fun h => h.2.2.symm, fun h => ⟨hm, hl.out, h.symm⟩⟩
      have e0 : Fr.err k s x 59 = 0 := by unfold Fr.err; rw [if_pos hm]; rfl
      rw [e0] at HEN
      have HPLT : Hid (∀ y ∈ Rc.sub l 1 59, y < 256) := sub_lt hb.out.lt _ _
      clear hm e0 hs
      generalize Fr.enc k s x (Rc.sub l 1 59) = en at *
      generalize Rc.sub l 1 59 = pl at *
      unfold FrEnc at HEN
      have HQ : Hid (∀ W A' c', Below w.heap.size w W → Bs W W.heap.size A' en → Calls Tryz.prog 81 #[.slice (some ad) 64 c, .slice A' 64 c'] W fun e w' => e = .returned (.bool (decide (l = en))) ∧ W = w') := fun W A' c' hW h =>
        (equal_any (some ad) A' B W.heap.size 64 c 64 c' l en W (fun e => by cases e) (fun e => by
          subst e
          obtain ⟨_, ad', e, _⟩ := h 0 (by rw [HLE.out]; decide)
          cases e) hl.out HLE.out (hb.out.below hW hB) h).mono fun _ _ h => ⟨h.1, h.2.symm⟩
      by_cases he : l = en
      · rw [decide_eq_true he] at HQ
        have HGG := Lib.hid (HG.out.2 he)
        clear HG he
        go_enter Tryz.func51, Tryz.ntmps51
        go_wp2_with fail
        refine (HEN.out _ (Below.refl _ _)).mono ?_
        rintro e w1 ⟨A1, n1, c1, rfl, -, h2, -, hb1⟩
        obtain ⟨rfl, hown⟩ := h2 trivial
        obtain ⟨A1', c1', e1, hbs, -, -, -, -⟩ := own_bytes hown HLT.out
        injection e1 with e1 _ e3
        subst e1 e3
        have HB1 := Lib.hid hb1
        have HS1 := Lib.hid hbs
        clear hb1 hbs hown h2
        go_wp2_with fail
        refine (HQ.out _ _ _ HB1.out HS1.out).mono ?_
        rintro e w' ⟨rfl, rfl⟩
        have HCL := Lib.hid (clone_at w1 w1.heap.size (Nat.le_refl _) (some ⟨ad.block, ad.off + 1, none⟩) B 59 (c - 1) pl HSP.out HPL.out (by decide) (HPB.out _ HB1.out) HPLT.out w1 rfl rfl rfl rfl)
        go_wp2_with fail
        refine HCL.out.mono ?_
        rintro e w2 ⟨A2, c2, rfl, hs2, hb2, hbel⟩
        have HS2 := Lib.hid (And.intro hs2 (And.intro hb2 hbel))
        clear hs2 hb2 hbel
        go_wp2
        go_ret2
        exact .inl ⟨HGG.out, A2, c2, rfl, HS2.out.1, HS2.out.2.1.wider HB1.out.size (Nat.le_refl _), HB1.out.trans (HS2.out.2.2.mono HB1.out.size)⟩
      · rw [decide_eq_false he] at HQ
        have HGG : Hid (¬ Fr.good k s x l) := fun h => he (HG.out.1 h)
        clear HG he
        go_enter Tryz.func51, Tryz.ntmps51
        go_wp2_with fail
        refine (HEN.out _ (Below.refl _ _)).mono ?_
        rintro e w1 ⟨A1, n1, c1, rfl, -, h2, -, hb1⟩
        obtain ⟨rfl, hown⟩ := h2 trivial
        obtain ⟨A1', c1', e1, hbs, -, -, -, -⟩ := own_bytes hown HLT.out
        injection e1 with e1 _ e3
        subst e1 e3
        have HB1 := Lib.hid hb1
        have HS1 := Lib.hid hbs
        clear hb1 hbs hown h2
        go_wp2_with fail
        refine (HQ.out _ _ _ HB1.out HS1.out).mono ?_
        rintro e w' ⟨rfl, rfl⟩
        go_wp2
        go_ret2
        exact .inr ⟨HGG.out, rfl, HB1.out⟩
    · have HGG : Hid (¬ Fr.good k s x l) := fun h => hm h.1
      have e0 : Fr.err k s x 59 = 2 := by unfold Fr.err; rw [if_neg hm]
      rw [e0] at HEN
      clear hm e0 hs
      unfold FrEnc at HEN
      go_enter Tryz.func51, Tryz.ntmps51
      go_wp2_with fail
      refine (HEN.out _ (Below.refl _ _)).mono ?_
      rintro e w1 ⟨A1, n1, c1, rfl, -, -, -, hb1⟩
      have HB1 := Lib.hid hb1
      clear hb1
      go_wp2
      go_ret2
      exact .inr ⟨HGG.out, rfl, HB1.out⟩
  · have HGG : Hid (¬ Fr.good k s x l) := fun h => h64 (hl.out.symm.trans h.2.1)
    have h : ((n : Int) != 64) = true := by rw [bne_iff_ne]; omega
    clear h64
    go_enter Tryz.func51, Tryz.ntmps51
    go_wp2
    go_ret2
    exact .inr ⟨HGG.out, rfl, Below.refl _ _⟩
end Go.Proofs.YtgnbmmceffolmaaGreatDoor
end
section
namespace Go.Proofs.YtgnbmmceffolmaaGreatDoor
open Go.RowKit
theorem refmay_any (k s x : Int) (w : World) : Calls Tryz.prog 90 #[.int .i64 k, .int .i64 s, .int .i64 x] w fun e w' => e = .returned (.bool (decide (Fr.may k s x))) ∧ w = w' := by
  go_enter Tryz.func90, Tryz.ntmps90
  go_wp2
  all_goals
    go_ret
    refine ⟨ret_bool ?_, rfl⟩
    first
      | exact (decide_eq_false (by unfold Fr.may; omega)).symm
      | exact decide_eq_decide.2 (by unfold Fr.may; omega)
/-- A literal's row is the call's own. -/
theorem own_lit (w : World) (l : List Nat) (n : Nat) (hl : l.length = n) (h0 : n ≤ 1000) : (w.alloc (.cells (vals l).toArray 5)).ownsRow w.heap.size 5 1 (.slice (some ⟨w.heap.size, 0, none⟩) n n) n (vals l) := by
  have hv : (vals l).length = n := by rw [vals_length, hl]
  refine ⟨by rw [hv]; omega, .inr ⟨w.heap.size, n, (vals l).toArray, rfl, Nat.le_refl _, heap_alloc_new w _, Nat.le_refl _, by unfold maxLen; omega, ?_, ?_⟩⟩
  · rw [List.size_toArray, hv]; omega
  · rw [Nat.mul_one, List.take_of_length_le (by rw [hv]; exact Nat.le_refl _)]
theorem rep_snoc (l : List Nat) (j : Nat) : (l ++ List.replicate j 0) ++ [0] = l ++ List.replicate (j + 1) 0 := by
  rw [List.append_assoc, List.replicate_succ']
/-- The length of a slice's value. -/
def slLen (v : Value) : Nat := match v with
  | .slice _ n _ => n
  | _ => 0
set_option maxHeartbeats 1000000 in
theorem reffrenc_any (kd sa se : Nat) (A : Option Addr) (B n c : Nat) (l : List Nat) (w : World) (hk : 1 ≤ kd ∧ kd ≤ 4) (hsa : sa < 9223372036854775808) (hse : se < 1048576) (hB : B ≤ w.heap.size) (hs : SlIs A n c) (hl : Hid (l.length = n)) (hn : n ≤ 59) (hb : Hid (Bs w B A l)) :
    Calls Tryz.prog 73 #[.int .i64 (kd : Int), .int .i64 (sa : Int), .int .i64 (se : Int), .slice A n c] w fun e w' => ∃ A3 c3, e = .returned (.slice A3 64 c3) ∧ SlIs A3 64 c3 ∧ Bs w' w'.heap.size A3 (Fr.enc (kd : Int) (sa : Int) (se : Int) l) ∧ Below w.heap.size w w' := by
  obtain ⟨i0, hi0, hz0, hz1, hz2⟩ := info_parts info_u8
  have I0 := Lib.hid (And.intro hi0 (And.intro hz0 (And.intro hz1 hz2))); clear hi0 hz0 hz1 hz2
  have HO0 := Lib.hid (own_lit w [kd] 1 rfl (by decide))
  have HB0 : Hid (Below w.heap.size w (w.alloc (.cells #[.int .u8 (kd : Int)] 5))) := (Below.refl _ w).alloc (Nat.le_refl _) _
  have HX0 : Hid (Bs (w.alloc (.cells #[.int .u8 (kd : Int)] 5)) B A l) := hb.out.below HB0.out hB
  have HLT : Hid (∀ y ∈ l, y < 256) := hb.out.lt
  have HA : Hid ((A = none → n = 0 ∧ c = 0) ∧ (vals l).length = n * 1 ∧ 1 + n ≤ maxLen) := ⟨fun e => ⟨(hs.1 e).2, (hs.1 e).1⟩, by rw [vals_length, hl.out]; omega, by unfold maxLen; omega⟩
  have ek : IntKind.u8.wrap (kd : Int) = (kd : Int) := by rw [IntKind.wrap_u8]; omega
  have HBODY : Hid (Fr.body (kd : Int) l = (kd :: l) ++ List.replicate (59 - n) 0) := by
    show _ = _
    unfold Fr.body
    rw [hl.out, Int.toNat_natCast]; rfl
  have HBLT : Hid (∀ y ∈ Fr.body (kd : Int) l, y < 256) := Fr.body_lt _ _ (by omega) hb.out.lt
  have HBL : Hid ((Fr.body (kd : Int) l).length = 60) := Fr.body_length _ _ (by rw [hl.out]; exact hn)
  clear hs
  go_enter Tryz.func73, Tryz.ntmps73
  go_wp2_with (at_builtin; refine append_onto rfl (.tmp 13) (.tmp 14) 27 rfl w.heap.size 5 i0 (.int .u8 0) 1 1 Tryz.underlying27 I0.out.1 I0.out.2.1 I0.out.2.2.1 I0.out.2.2.2 rfl (by decide) _ 1 (vals [kd]) rfl HO0.out A n c (vals l) rfl HA.out.1 HA.out.2.1 (fun ad e => by have h := HX0.out; rw [e] at h; exact h.cells) (vals_one _) HA.out.2.2 (by omega) HB0.out.size ?_; intro v1 w1 hown1 hg1; rw [← vals_append] at hown1; have HO1 := Lib.hid hown1; have HB1 : Hid (Below w.heap.size w w1) := HB0.out.grown hg1 HB0.out.size (fun g e => (HO0.out.lt g e).1); clear hown1 hg1)
  go_loopw [9] (fun bv wr => ∃ (j N : Nat), j ≤ 59 - n ∧ Hid (N = 1 + n + j) ∧ slLen bv = N ∧ Hid (wr.ownsRow w.heap.size 5 1 bv N (vals ((kd :: l) ++ List.replicate j 0))) ∧ Hid (Below w.heap.size w wr)) (fun bv _ => 60 - slLen bv)
  case atStart =>
    refine ⟨0, 1 + n, Nat.zero_le _, rfl, ?_, ?_, HB1.out⟩
    · obtain ⟨A1, c1, rfl, _⟩ := own_bytes HO1.out (fun y hy => by
        rcases List.mem_append.1 hy with h | h
        · rw [List.mem_singleton.1 h]; omega
        · exact HLT.out y h)
      rfl
    · rw [List.replicate_zero, List.append_nil]; exact HO1.out
  case round =>
    obtain ⟨j, N, hj, hN, hlen, hown, hbel⟩ := hrel
    obtain ⟨A1, c1, rfl, hbs, hl1, hn1, hm1, hA1⟩ := own_bytes hown.out (fun y hy => by
      rcases List.mem_append.1 hy with h | h
      · rcases List.mem_cons.1 h with rfl | h
        · omega
        · exact HLT.out y h
      · rw [(List.mem_replicate.1 h).2]; decide)
    clear hlen
    by_cases hlt : N < 60
    · have hd : decide ((N : Int) < 60) = true := by simp; omega
      have b1 : Hid (N + 1 ≤ maxLen ∧ (N + 1) * 1 ≤ 140737488355328) := by unfold Hid maxLen; omega
      have hsz := hbel.out.size
      clear hbs hl1 hn1 hm1 hA1
      go_wp2_with (at_builtin; refine append_onto rfl (.tmp 19) (.tmp 20) 27 rfl w.heap.size 5 i0 (.int .u8 0) 1 1 Tryz.underlying27 I0.out.1 I0.out.2.1 I0.out.2.2.1 I0.out.2.2.2 rfl (by decide) _ N (vals ((kd :: l) ++ List.replicate j 0)) rfl (hown.out.alloc _) (some ⟨wr.heap.size, 0, none⟩) 1 1 (vals [0]) rfl (fun h => by cases h) rfl (fun ad e => by injection e with e; subst e; exact World.news_of_block (heap_alloc_new wr _)) (vals_one _) b1.out.1 b1.out.2 (by simp; omega) ?_; intro v2 w2 hown2 hg2; rw [← vals_append, rep_snoc] at hown2)
      have HO2 := Lib.hid hown2
      clear hown2
      have hL2 : slLen v2 = N + 1 := by
        obtain ⟨A2, c2, rfl, _⟩ := own_bytes HO2.out (fun y hy => by
          rcases List.mem_append.1 hy with h | h
          · rcases List.mem_cons.1 h with rfl | h
            · omega
            · exact HLT.out y h
          · rw [(List.mem_replicate.1 h).2]; decide)
        rfl
      go_roundw
      case rel =>
        refine ⟨j + 1, N + 1, ?_, ?_, ?_, HO2, (hbel.out.alloc hsz _).grown hg2 (by simp; omega) (fun g e => (hown.out.lt g e).1)⟩
        · have := hN.out; omega
        · show _ = _
          have := hN.out; omega
        · exact hL2
      case measure =>
        rw [hL2]
        simp only [slLen]
        omega
    · have hd : decide ((N : Int) < 60) = false := by simp; omega
      obtain rfl : j = 59 - n := by have := hN.out; omega
      obtain rfl : N = 60 := by have := hN.out; omega
      have HO := hown
      rw [← HBODY.out] at HO hbs hl1
      have HL1 := Lib.hid hl1
      have HS1 : Hid (Bs wr wr.heap.size A1 (Fr.body (kd : Int) l)) := hbs
      have HSL : Hid (SlIs A1 60 c1) := sl_own hn1 hm1 hA1
      have HE : Hid (Fr.enc (kd : Int) (sa : Int) (se : Int) l = Fr.body (kd : Int) l ++ Wire.be 4 (Crc.U (Crc.upd 0#32 (Rc.spot (sa : Int) (se : Int) ++ Fr.body (kd : Int) l)))) := rfl
      have hU := Crc.U_lt (Crc.upd 0#32 (Rc.spot (sa : Int) (se : Int) ++ Fr.body (kd : Int) l))
      have HSP : Hid (Rc.spot (sa : Int) (se : Int) = ([] ++ Wire.be 8 sa) ++ Wire.be 4 se) := Fr.spot_eq _ _
      clear hown hbs hl1 hn1 hm1 hA1 HO0 HX0 HB0 HO1 HB1 hN HBODY ek
      generalize Fr.body (kd : Int) l = bd at *
      have HP1 := Lib.hid (refput_row none 0 0 0 [] sa 8 8 rfl wr sl_nil rfl (by decide) (bs_nil _ _) (by decide) (by decide))
      go_wp2_with fail
      refine HP1.out.mono ?_
      rintro e w2 ⟨A2, n2, c2, p2, rfl, hp2, hn2, hr2⟩
      have HR2 := Lib.hid hr2
      have h8 : n2 = 8 := hn2.out
      subst h8
      clear hr2
      go_wp2_with fail
      refine (refput_row A2 w2.heap.size 8 c2 p2 se 4 4 rfl w2 HR2.out.2.2.1 HR2.out.2.1 (by decide) HR2.out.2.2.2.1 (by decide) (by decide)).mono ?_
      rintro e w3 ⟨A3, n3, c3, p3, rfl, hp3, hn3, hr3⟩
      have HR3 := Lib.hid hr3
      have h12 : n3 = 12 := hn3.out
      subst h12
      clear hr3
      have HP3 : Hid (p3 = Rc.spot (sa : Int) (se : Int)) := by
        show _ = _
        rw [HSP.out, hp3.out, hp2.out]
      have HB3 : Hid (Below wr.heap.size wr w3) := HR2.out.2.2.2.2.trans (HR3.out.2.2.2.2.mono HR2.out.2.2.2.2.size)
      have HS3 : Hid (Bs w3 wr.heap.size A1 bd) := HS1.out.below HB3.out (Nat.le_refl _)
      have HAP : Hid ((A1 = none → 60 = 0 ∧ c1 = 0) ∧ (vals bd).length = 60 * 1) := ⟨fun e => ⟨by have := (HSL.out.1 e).2; omega, (HSL.out.1 e).1⟩, by rw [vals_length, HL1.out]⟩
      rw [← HP3.out] at HE hU
      clear hp2 hp3 hn2 hn3 HSP HP1
      go_wp2_with (at_builtin; refine append_onto rfl (.tmp 29) (.tmp 30) 27 rfl w2.heap.size 5 i0 (.int .u8 0) 1 1 Tryz.underlying27 I0.out.1 I0.out.2.1 I0.out.2.2.1 I0.out.2.2.2 rfl (by decide) _ 12 (vals p3) rfl HR3.out.1 A1 60 c1 (vals bd) rfl HAP.out.1 HAP.out.2 (fun ad e => by have h := HS3.out; rw [e] at h; exact h.cells) (vals_one _) (by decide) (by decide) HR3.out.2.2.2.2.size ?_; intro v4 w4 hown4 hg4; rw [← vals_append] at hown4; have HO4 := Lib.hid hown4; have HB4 : Hid (Below w2.heap.size w3 w4) := (Below.refl _ _).grown hg4 HR3.out.2.2.2.2.size (fun g e => (HR3.out.1.lt g e).1); clear hown4 hg4; obtain ⟨A4, c4, rfl, hbs4, hl4, hn4, hm4, ho4⟩ := own_bytes HO4.out (fun y hy => by (rcases List.mem_append.1 hy with h | h; exact HR3.out.2.2.2.1.lt y h; exact HBLT.out y h)); have HS4 := Lib.hid (And.intro hl4 hbs4); clear hl4 hbs4 hn4 hm4 ho4)
      refine (refsum_any A4 w4.heap.size c4 72 (p3 ++ bd) w4 HS4.out.1 (by decide) HS4.out.2).mono ?_
      rintro e w' ⟨rfl, rfl⟩
      have HBX : Hid (Below wr.heap.size wr w4) := HR2.out.2.2.2.2.trans ((HR3.out.2.2.2.2.trans HB4.out).mono HR2.out.2.2.2.2.size)
      generalize Crc.U (Crc.upd 0#32 (p3 ++ bd)) = q at *
      have HPT := Lib.hid (refput_row A1 wr.heap.size 60 c1 bd q 4 4 rfl w4 HSL.out HL1.out (by decide) (HS1.out.below HBX.out (Nat.le_refl _)) (by decide) (by decide))
      go_wp2_with fail
      refine HPT.out.mono ?_
      rintro e w5 ⟨A5, n5, c5, p5, rfl, hp5, hn5, hr5⟩
      have h64 : n5 = 64 := hn5.out
      subst h64
      have HR5 := Lib.hid hr5
      clear hr5
      go_wp2
      go_ret
      refine ⟨A5, c5, rfl, HR5.out.2.2.1, ?_, hbel.out.trans ((HBX.out.trans (HR5.out.2.2.2.2.mono HBX.out.size)).mono hbel.out.size)⟩
      rw [HE.out, ← hp5.out]
      exact HR5.out.2.2.2.1
end Go.Proofs.YtgnbmmceffolmaaGreatDoor
end
section
namespace Go.Proofs.YtgnbmmceffolmaaGreatDoor
open Go.RowKit
theorem reffrdec_any (k s x : Int) (A : Option Addr) (B n c : Nat) (l : List Nat) (w : World) (hs63 : s ≤ 9223372036854775807) (hB : B ≤ w.heap.size) (hs : SlIs A n c) (hl : Hid (l.length = n)) (hb : Hid (Bs w B A l)) :
    Calls Tryz.prog 55 #[.int .i64 k, .int .i64 s, .int .i64 x, .slice A n c] w fun e w' => (Fr.good k s x l ∧ GotFr w (Rc.sub l 1 59) e w') ∨ (¬ Fr.good k s x l ∧ NoFr w e w') := by
  by_cases hm : Fr.may k s x
  · have HM : Hid (∀ W, Calls Tryz.prog 90 #[.int .i64 k, .int .i64 s, .int .i64 x] W fun e w' => e = .returned (.bool true) ∧ W = w') := fun W => by
      have h := refmay_any k s x W
      rwa [decide_eq_true hm] at h
    by_cases h64 : n = 64
    · subst h64
      obtain ⟨ad, rfl⟩ : ∃ ad, A = some ad := by
        cases A with
        | none => have := hs.1 rfl; omega
        | some ad => exact ⟨ad, rfl⟩
      have hc64 : 64 ≤ c := hs.2.1
      have hc63 := hs.2.2
      have i1 : (1 : Int) ≤ (c : Int) := by omega
      have i60 : (60 : Int) ≤ (c : Int) := by omega
      have hc1 : c ≠ 1 := by omega
      have HSP : Hid (SlIs (some (⟨ad.block, ad.off + 1, none⟩ : Addr)) 59 (c - 1)) := ⟨(fun e => by cases e), by omega, by omega⟩
      have HPL : Hid ((Rc.sub l 1 59).length = 59) := Fr.sub59 l hl.out
      have HPB : Hid (∀ W, Below w.heap.size w W → Bs W B (some (⟨ad.block, ad.off + 1, none⟩ : Addr)) (Rc.sub l 1 59)) := fun W hW => by
        have h := ((hb.out.bsIn.drop 1).bs.take 59).below hW hB
        rw [Option.map_some, add_pos ad 1 (by omega)] at h
        exact h
      have hm' := hm
      unfold Fr.may at hm'
      obtain ⟨kd, rfl⟩ := Int.eq_ofNat_of_zero_le (show 0 ≤ k by omega)
      obtain ⟨sa, rfl⟩ := Int.eq_ofNat_of_zero_le (show 0 ≤ s by omega)
      obtain ⟨se, rfl⟩ := Int.eq_ofNat_of_zero_le (show 0 ≤ x by omega)
      have HEN : Hid (∀ W, Below w.heap.size w W → Calls Tryz.prog 73 #[.int .i64 (kd : Int), .int .i64 (sa : Int), .int .i64 (se : Int), .slice (some ⟨ad.block, ad.off + 1, none⟩) 59 (c - 1)] W fun e w' => ∃ A3 c3, e = .returned (.slice A3 64 c3) ∧ SlIs A3 64 c3 ∧ Bs w' w'.heap.size A3 (Fr.enc (kd : Int) (sa : Int) (se : Int) (Rc.sub l 1 59)) ∧ Below W.heap.size W w') := fun W hW =>
        reffrenc_any kd sa se _ B 59 (c - 1) _ W ⟨by omega, by omega⟩ (by omega) (by omega) (Nat.le_trans hB hW.size) HSP.out HPL.out (by decide) (HPB.out W hW)
      have HLE : Hid ((Fr.enc (kd : Int) (sa : Int) (se : Int) (Rc.sub l 1 59)).length = 64) := Fr.enc_length _ _ _ _ (by rw [HPL.out]; decide)
      have HG : Hid (Fr.good (kd : Int) (sa : Int) (se : Int) l ↔ l = Fr.enc (kd : Int) (sa : Int) (se : Int) (Rc.sub l 1 59)) := ⟨fun h => h.2.2.symm, fun h => ⟨hm, hl.out, h.symm⟩⟩
      clear hm hm' hs
      generalize Fr.enc (kd : Int) (sa : Int) (se : Int) (Rc.sub l 1 59) = en at *
      generalize Rc.sub l 1 59 = pl at *
      have HQ : Hid (∀ W A' c', Below w.heap.size w W → Bs W W.heap.size A' en → Calls Tryz.prog 58 #[.slice (some ad) 64 c, .slice A' 64 c'] W (SaysQuiet (decide (l = en)) W)) := fun W A' c' hW h =>
        refeq_any (some ad) A' B W.heap.size 64 64 c c' l en W hl HLE (by decide) (by decide) (hb.out.below hW hB) h
      by_cases he : l = en
      · rw [decide_eq_true he] at HQ
        have HGG := Lib.hid (HG.out.2 he)
        clear HG he
        go_enter Tryz.func55, Tryz.ntmps55
        go_wp2_with fail
        refine (HM.out _).mono ?_
        rintro e w' ⟨rfl, rfl⟩
        go_wp2_with fail
        refine (HEN.out _ (Below.refl _ _)).mono ?_
        rintro e w1 ⟨A1, c1, rfl, -, hbs, hb1⟩
        have HB1 := Lib.hid hb1
        have HS1 := Lib.hid hbs
        clear hb1 hbs
        go_wp2_with fail
        refine (HQ.out _ _ _ HB1.out HS1.out).mono ?_
        rintro e w' ⟨rfl, k1, rfl⟩
        have HB2 : Hid (Below w.heap.size w (w1.drewN k1)) := below_drawn HB1.out k1
        clear HS1
        generalize w1.drewN k1 = w2 at *
        have HP2 := Lib.hid (HPB.out _ HB2.out)
        go_wp2_with (at_builtin; refine append_bytes rfl (.tmp 32) rfl B (some ⟨ad.block, ad.off + 1, none⟩) 59 (c - 1) pl (by simp [Act.eval]) (fun e => by cases e) HPL.out HP2.out (by decide) ?_; rintro A3 c3 w3 hs3 hb3 hB3; have HS3 := Lib.hid (And.intro hs3 (And.intro hb3 hB3)); clear hs3 hb3 hB3)
        go_ret2
        exact .inl ⟨HGG.out, A3, c3, rfl, HS3.out.1, HS3.out.2.1.wider HB2.out.size (Nat.le_refl _), HB2.out.trans (HS3.out.2.2.mono HB2.out.size)⟩
      · rw [decide_eq_false he] at HQ
        have HGG : Hid (¬ Fr.good (kd : Int) (sa : Int) (se : Int) l) := fun h => he (HG.out.1 h)
        clear HG he
        go_enter Tryz.func55, Tryz.ntmps55
        go_wp2_with fail
        refine (HM.out _).mono ?_
        rintro e w' ⟨rfl, rfl⟩
        go_wp2_with fail
        refine (HEN.out _ (Below.refl _ _)).mono ?_
        rintro e w1 ⟨A1, c1, rfl, -, hbs, hb1⟩
        have HB1 := Lib.hid hb1
        have HS1 := Lib.hid hbs
        clear hb1 hbs
        go_wp2_with fail
        refine (HQ.out _ _ _ HB1.out HS1.out).mono ?_
        rintro e w' ⟨rfl, k1, rfl⟩
        go_wp2
        go_ret2
        exact .inr ⟨HGG.out, rfl, below_drawn HB1.out k1⟩
    · have HGG : Hid (¬ Fr.good k s x l) := fun h => h64 (hl.out.symm.trans h.2.1)
      have h : ((n : Int) != 64) = true := by rw [bne_iff_ne]; omega
      clear h64 hm
      go_enter Tryz.func55, Tryz.ntmps55
      go_wp2_with fail
      refine (HM.out _).mono ?_
      rintro e w' ⟨rfl, rfl⟩
      go_wp2
      go_ret2
      exact .inr ⟨HGG.out, rfl, Below.refl _ _⟩
  · have HM : Hid (∀ W, Calls Tryz.prog 90 #[.int .i64 k, .int .i64 s, .int .i64 x] W fun e w' => e = .returned (.bool false) ∧ W = w') := fun W => by
      have h := refmay_any k s x W
      rwa [decide_eq_false hm] at h
    have HGG : Hid (¬ Fr.good k s x l) := fun h => hm h.1
    clear hm
    go_enter Tryz.func55, Tryz.ntmps55
    go_wp2_with fail
    refine (HM.out _).mono ?_
    rintro e w' ⟨rfl, rfl⟩
    go_wp2
    go_ret2
    exact .inr ⟨HGG.out, rfl, Below.refl _ _⟩
end Go.Proofs.YtgnbmmceffolmaaGreatDoor
end
section
namespace Go.Proofs.YtgnbmmceffolmaaGreatDoor
open Go.RowKit
end Go.Proofs.YtgnbmmceffolmaaGreatDoor
end
section
namespace Go.Proofs.YtgnbmmceffolmaaGreatDoor
namespace Wire
theorem num_mod (k n m : Nat) : be k (n + m * 256 ^ k) = be k n := by
  induction k generalizing m with
  | zero => rfl
  | succ k ih =>
    have e : n + m * 256 ^ (k + 1) = n + (m * 256) * 256 ^ k := by rw [Nat.pow_succ, Nat.mul_comm (256 ^ k) 256, Nat.mul_assoc]
    rw [be_succ, be_succ, e, ih (m * 256), Nat.add_mul_div_right _ _ (Nat.pow_pos (by decide)), Nat.add_mul_mod_self_right]
theorem be_num (l : List Nat) (h : ∀ x ∈ l, x < 256) : be l.length (num l) = l := by
  induction l with
  | nil => rfl
  | cons x l ih =>
    have hl : ∀ y ∈ l, y < 256 := fun y hy => h y (List.mem_cons_of_mem _ hy)
    have hx := h x (List.mem_cons_self ..)
    have hn := num_lt l hl
    rw [List.length_cons, num_cons, be_succ, Nat.add_comm (x * _) (num l), num_mod, ih hl, Nat.add_mul_div_right _ _ (Nat.pow_pos (by decide)), Nat.div_eq_of_lt hn, Nat.zero_add, Nat.mod_eq_of_lt hx]
end Wire
namespace Hd
open Wire
structure H where
  ver : Int
  slot : Int
  lay : Int
  seq : Int
  tail : Int
  now : Int
def zero : H := ⟨0, 0, 0, 0, 0, 0⟩
/-- Is each number in its range? -/
def valid (h : H) : Prop := (h.ver = 1 ∨ h.ver = 2) ∧ (0 ≤ h.slot ∧ h.slot ≤ 15) ∧ (1 ≤ h.lay ∧ h.lay ≤ 4294967295) ∧ (1 ≤ h.seq ∧ h.seq ≤ 281474976710655) ∧ (0 ≤ h.tail ∧ h.tail ≤ h.seq) ∧ (0 ≤ h.now ∧ h.now ≤ 549755813888)
instance (h : H) : Decidable (valid h) := by unfold valid; infer_instance
def body (h : H) : List Nat := be 1 h.ver.toNat ++ (be 1 h.slot.toNat ++ (be 4 h.lay.toNat ++ (be 6 h.seq.toNat ++ (be 6 h.tail.toNat ++ be 5 h.now.toNat))))
theorem body_length (h : H) : (body h).length = 23 := by simp [body, be_length]
theorem body_lt (h : H) : ∀ x ∈ body h, x < 256 := by
  intro x hx
  unfold body at hx
  rcases List.mem_append.1 hx with h | hx
  · exact be_lt _ _ x h
  rcases List.mem_append.1 hx with h | hx
  · exact be_lt _ _ x h
  rcases List.mem_append.1 hx with h | hx
  · exact be_lt _ _ x h
  rcases List.mem_append.1 hx with h | hx
  · exact be_lt _ _ x h
  rcases List.mem_append.1 hx with h | hx
  · exact be_lt _ _ x h
  exact be_lt _ _ x hx
/-- The bytes of a header's sector. -/
def enc (x : Int) (h : H) : List Nat := Fr.enc 1 0 x (body h)
theorem enc_length (x : Int) (h : H) : (enc x h).length = 64 := Fr.enc_length _ _ _ _ (by rw [body_length]; decide)
theorem enc_lt (x : Int) (h : H) : ∀ y ∈ enc x h, y < 256 := Fr.enc_lt _ _ _ _ (by decide) (body_lt h)
/-- The header that is read at the beginning of a payload. -/
def rd (p : List Nat) : H := ⟨num (p.take 1), num ((p.drop 1).take 1), num ((p.drop 2).take 4), num ((p.drop 6).take 6), num ((p.drop 12).take 6), num ((p.drop 18).take 5)⟩
theorem rd_body (h : H) (q : List Nat) (hv : valid h) : rd (body h ++ q) = h := by
  obtain ⟨h1, h2, h3, h4, h5, h6⟩ := hv
  have e : body h ++ q = be 1 h.ver.toNat ++ (be 1 h.slot.toNat ++ (be 4 h.lay.toNat ++ (be 6 h.seq.toNat ++ (be 6 h.tail.toNat ++ (be 5 h.now.toNat ++ q))))) := by simp [body]
  have p1 : (256 : Nat) ^ 1 = 256 := rfl
  have p4 : (256 : Nat) ^ 4 = 4294967296 := rfl
  have p5 : (256 : Nat) ^ 5 = 1099511627776 := rfl
  have p6 : (256 : Nat) ^ 6 = 281474976710656 := rfl
  have tk : ∀ (k n : Nat) (r : List Nat), (be k n ++ r).take k = be k n := fun k n r => List.take_left' (be_length k n)
  have dp : ∀ (j k n : Nat) (r : List Nat), (be k n ++ r).drop (k + j) = r.drop j := fun j k n r => by
    rw [← List.drop_drop, List.drop_left' (be_length k n)]
  have a1 : (body h ++ q).take 1 = be 1 h.ver.toNat := by rw [e]; exact tk 1 _ _
  have a2 : ((body h ++ q).drop 1).take 1 = be 1 h.slot.toNat := by
    rw [e, dp 0 1, List.drop_zero]; exact tk 1 _ _
  have a3 : ((body h ++ q).drop 2).take 4 = be 4 h.lay.toNat := by
    rw [e, dp 1 1, dp 0 1, List.drop_zero]; exact tk 4 _ _
  have a4 : ((body h ++ q).drop 6).take 6 = be 6 h.seq.toNat := by
    rw [e, dp 5 1, dp 4 1, dp 0 4, List.drop_zero]; exact tk 6 _ _
  have a5 : ((body h ++ q).drop 12).take 6 = be 6 h.tail.toNat := by
    rw [e, dp 11 1, dp 10 1, dp 6 4, dp 0 6, List.drop_zero]; exact tk 6 _ _
  have a6 : ((body h ++ q).drop 18).take 5 = be 5 h.now.toNat := by
    rw [e, dp 17 1, dp 16 1, dp 12 4, dp 6 6, dp 0 6, List.drop_zero]; exact tk 5 _ _
  unfold rd
  rw [a1, a2, a3, a4, a5, a6, num_be, num_be, num_be, num_be, num_be, num_be, p1, p4, p5, p6]
  obtain ⟨v, s, l, q', t, n⟩ := h
  simp only at h1 h2 h3 h4 h5 h6 ⊢
  congr 1 <;> omega
theorem body_rd (p : List Nat) (hl : 23 ≤ p.length) (hp : ∀ x ∈ p, x < 256) : body (rd p) = p.take 23 := by
  have one : ∀ (i k : Nat), i + k ≤ 23 → be k (num ((p.drop i).take k)) = (p.drop i).take k := fun i k h => by
    have hk : ((p.drop i).take k).length = k := by rw [List.length_take, List.length_drop]; omega
    have := be_num ((p.drop i).take k) (fun x hx => hp x (List.mem_of_mem_drop (List.mem_of_mem_take hx)))
    rwa [hk] at this
  have j : ∀ (i k : Nat), p.take i ++ (p.drop i).take k = p.take (i + k) := fun i k => (List.take_add ..).symm
  have b0 := one 0 1 (by decide)
  rw [List.drop_zero] at b0
  show be 1 (num (p.take 1) : Int).toNat ++ (be 1 (num ((p.drop 1).take 1) : Int).toNat ++ (be 4 (num ((p.drop 2).take 4) : Int).toNat ++ (be 6 (num ((p.drop 6).take 6) : Int).toNat ++ (be 6 (num ((p.drop 12).take 6) : Int).toNat ++ be 5 (num ((p.drop 18).take 5) : Int).toNat)))) = _
  simp only [Int.toNat_natCast]
  rw [b0, one 1 1 (by decide), one 2 4 (by decide), one 6 6 (by decide), one 12 6 (by decide), one 18 5 (by decide), ← List.append_assoc, j 1 1, ← List.append_assoc, j 2 4, ← List.append_assoc, j 6 6, ← List.append_assoc, j 12 6, j 18 5]
/-- Are the bytes behind the header's numbers all zero? -/
def rest0 (p : List Nat) : Bool := (p.drop 23).all (· == 0)
theorem rest0_iff (p : List Nat) : rest0 p = true ↔ p.drop 23 = List.replicate (p.length - 23) 0 := by
  unfold rest0
  rw [List.all_eq_true, List.eq_replicate_iff, List.length_drop]
  constructor
  · intro h
    exact ⟨rfl, fun x hx => by simpa using h x hx⟩
  · rintro ⟨-, h⟩ x hx
    simpa using h x hx
/-- Is b the sector of a valid header? -/
def good (x : Int) (b : List Nat) : Prop := Fr.good 1 0 x b ∧ valid (rd (Rc.sub b 1 59)) ∧ rest0 (Rc.sub b 1 59) = true
theorem fill_eq {p q : List Nat} (h : Fr.body 1 p = Fr.body 1 q) : p ++ List.replicate (59 - p.length) 0 = q ++ List.replicate (59 - q.length) 0 := by
  unfold Fr.body at h
  injection h
/-- The other definition: the header that is read has these bytes. -/
theorem again (x : Int) (b : List Nat) (hb : ∀ y ∈ b, y < 256) (hg : Fr.good 1 0 x b) : enc x (rd (Rc.sub b 1 59)) = b ↔ rest0 (Rc.sub b 1 59) = true := by
  obtain ⟨hm, hl, he⟩ := hg
  have hs := Fr.sub59 b hl
  have hlt : ∀ y ∈ Rc.sub b 1 59, y < 256 := fun y hy => hb y (List.mem_of_mem_drop (List.mem_of_mem_take hy))
  generalize Rc.sub b 1 59 = p at *
  have hbd := body_rd p (by omega) hlt
  have hln : (p.take 23).length = 23 := by rw [List.length_take]; omega
  rw [rest0_iff, hs]
  unfold enc
  rw [hbd]
  constructor
  · intro h
    have h1 := fill_eq (Fr.enc_parts (by rw [hln]; decide) (by omega) (h.trans he.symm)).1
    rw [hs, hln, Nat.sub_self, List.replicate_zero, List.append_nil] at h1
    have h2 := congrArg (List.drop 23) h1
    rw [List.drop_left' hln] at h2
    exact h2.symm
  · intro h
    rw [← Fr.enc_fill 1 0 x (p.take 23) (by rw [hln]; decide), hln, ← h, List.take_append_drop, he]
theorem sub_enc (x : Int) (h : H) : Rc.sub (enc x h) 1 59 = body h ++ List.replicate 36 0 := by
  unfold enc
  rw [Fr.sub_enc _ _ _ _ (by rw [body_length]; decide), body_length]
theorem rd_enc (x : Int) (h : H) (hv : valid h) : rd (Rc.sub (enc x h) 1 59) = h := by rw [sub_enc, rd_body h _ hv]
theorem rest0_enc (x : Int) (h : H) : rest0 (Rc.sub (enc x h) 1 59) = true := by
  rw [rest0_iff, sub_enc, List.drop_left' (body_length h), List.length_append, body_length, List.length_replicate]
theorem good_enc (x y : Int) (h : H) (hv : valid h) (hm : Fr.may 1 0 x) : good y (enc x h) ↔ y = x := by
  constructor
  · intro hg
    exact (Fr.other_sector 1 0 x y (body h) hm (by rw [body_length]; decide)).1 hg.1
  · rintro rfl
    exact ⟨Fr.round 1 0 y (body h) hm (by rw [body_length]; decide), by rw [rd_enc y h hv]; exact hv, rest0_enc y h⟩
theorem apart (x : Int) (a b : H) (ha : valid a) (hb : valid b) : enc x a = enc x b ↔ a = b := by
  constructor
  · intro h
    rw [← rd_enc x a ha, h, rd_enc x b hb]
  · rintro rfl; rfl
/-- The error of Encode. -/
def err (h : H) (x : Int) : Int := if valid h then (if 0 ≤ x ∧ x < 1048576 then 0 else 2) else 4
theorem err_fr (h : H) (x : Int) (hv : valid h) : err h x = if Fr.may 1 0 x then 0 else 2 := by
  unfold err
  rw [if_pos hv]
  by_cases hx : 0 ≤ x ∧ x < 1048576
  · rw [if_pos hx, if_pos (by unfold Fr.may; omega)]
  · rw [if_neg hx, if_neg (by unfold Fr.may; omega)]
end Hd
end Go.Proofs.YtgnbmmceffolmaaGreatDoor
end
section
namespace Go.Proofs.YtgnbmmceffolmaaGreatDoor
open Go.RowKit
theorem six_cells {w : World} {g : Nat} {a b c d e f : Value} {t : TypeId} (h : w.heap[g]? = some (.cells #[a, b, c, d, e, f] t (0, 0))) :
    w.cell? ⟨g, 0, none⟩ = some a ∧ w.cell? ⟨g, 1, none⟩ = some b ∧ w.cell? ⟨g, 2, none⟩ = some c ∧ w.cell? ⟨g, 3, none⟩ = some d ∧ w.cell? ⟨g, 4, none⟩ = some e ∧ w.cell? ⟨g, 5, none⟩ = some f := by
  refine ⟨?_, ?_, ?_, ?_, ?_, ?_⟩
  · rw [cell_of_row w g 0 _ t (0, 0) h]; rfl
  · rw [cell_of_row w g 1 _ t (0, 0) h]; rfl
  · rw [cell_of_row w g 2 _ t (0, 0) h]; rfl
  · rw [cell_of_row w g 3 _ t (0, 0) h]; rfl
  · rw [cell_of_row w g 4 _ t (0, 0) h]; rfl
  · rw [cell_of_row w g 5 _ t (0, 0) h]; rfl
theorem six_frozen {w : World} {g : Nat} {a b c d e f : Value} {t : TypeId} (h : w.heap[g]? = some (.cells #[a, b, c, d, e, f] t (0, 0))) :
    w.frozen? ⟨g, 0, none⟩ = false ∧ w.frozen? ⟨g, 1, none⟩ = false ∧ w.frozen? ⟨g, 2, none⟩ = false ∧ w.frozen? ⟨g, 3, none⟩ = false ∧ w.frozen? ⟨g, 4, none⟩ = false ∧ w.frozen? ⟨g, 5, none⟩ = false :=
  ⟨frozen_of_row w g 0 _ t h, frozen_of_row w g 1 _ t h, frozen_of_row w g 2 _ t h, frozen_of_row w g 3 _ t h, frozen_of_row w g 4 _ t h, frozen_of_row w g 5 _ t h⟩
theorem stored6 {w : World} {r : Nat} {a b c d e f a' b' c' d' e' f' : Value} {t : TypeId} (h : w.heap[r]? = some (.cells #[a, b, c, d, e, f] t (0, 0))) :
    ((((((w.setCell ⟨r, 0, none⟩ a').setCell ⟨r, 1, none⟩ b').setCell ⟨r, 2, none⟩ c').setCell ⟨r, 3, none⟩ d').setCell ⟨r, 4, none⟩ e').setCell ⟨r, 5, none⟩ f').heap[r]? = some (.cells #[a', b', c', d', e', f'] t (0, 0)) := by
  simp [World.setCell, Array.getElem?_modify, h]
theorem stored6_grown (w : World) (r : Nat) (a' b' c' d' e' f' : Value) : w.grownBy ((((((w.setCell ⟨r, 0, none⟩ a').setCell ⟨r, 1, none⟩ b').setCell ⟨r, 2, none⟩ c').setCell ⟨r, 3, none⟩ d').setCell ⟨r, 4, none⟩ e').setCell ⟨r, 5, none⟩ f') (some r) :=
  grown_trans' (grown_trans' (grown_trans' (grown_trans' (grown_trans' (grown_set _ _ _ _) (grown_set _ _ _ _)) (grown_set _ _ _ _)) (grown_set _ _ _ _)) (grown_set _ _ _ _)) (grown_set _ _ _ _)
theorem sd_new (w : World) (cs : Array Value) (t : TypeId) : Sd w w.heap.size (.cells cs t (0, 0)) (w.alloc (.cells cs t)) := ⟨heap_alloc_new _ _, (Below.refl _ w).alloc (Nat.le_refl _) _⟩
/-- A header as a value. -/
def Hd.val (h : Hd.H) : Value := .agg #[.int .i64 h.ver, .int .i64 h.slot, .int .i64 h.lay, .int .i64 h.seq, .int .i64 h.tail, .int .i64 h.now]
/-- Are they the same? -/
def Hd.same (a b : Hd.H) : Bool := a.ver == b.ver && (a.slot == b.slot && (a.lay == b.lay && (a.seq == b.seq && (a.tail == b.tail && a.now == b.now))))
theorem Hd.same_iff (a b : Hd.H) : Hd.same a b = true ↔ a = b := by
  obtain ⟨a0, a1, a2, a3, a4, a5⟩ := a
  obtain ⟨b0, b1, b2, b3, b4, b5⟩ := b
  unfold Hd.same
  simp only [Bool.and_eq_true, beq_iff_eq, Hd.H.mk.injEq]
theorem Hd.same_self (a : Hd.H) : Hd.same a a = true := (Hd.same_iff a a).2 rfl
theorem part_int {P : Program} (w : World) {e : TypeId} {k : IntKind} (he : P.underlying e = some (.int k)) (cs : Array Value) (j : Nat) (v : Value) (hv : cs[j]? = some v) : (part e cs j).run P w = .ok v w := by
  simp [part, isAgg, run_underlying he, hv]
/-- One field of numbers, compared. -/
theorem eq_field {P : Program} (w : World) {e : TypeId} {k : IntKind} (he : P.underlying e = some (.int k)) {f : Field} {nm : String} {off : Nat} (hf : (f.name, f.type, f.offset) = (nm, e, off)) (hn : nm ≠ "_") (d : Nat) (xs ys : Array Value) (x y : Int) (hx : xs[off]? = some (.int k x)) (hy : ys[off]? = some (.int k y)) (fs : List Field) :
    (Op.eqFields (d + 1) xs ys (f :: fs)).run P w = if (x == y) = true then (Op.eqFields (d + 1) xs ys fs).run P w else .ok false w := by
  obtain ⟨h1, h2, h3⟩ : f.name = nm ∧ f.type = e ∧ f.offset = off := by simpa using hf
  have e1 : (Op.equalIn (d + 1) e (.int k x) (.int k y)).run P w = .ok (x == y) w := by simp [Op.equalIn, run_underlying he]
  rw [Op.eqFields, if_pos (by rw [h1]; exact hn), h2, h3]
  simp only [Sem.run_bind, part_int w he xs off _ hx, part_int w he ys off _ hy, Result.andThen_ok, e1, Sem.run_ite, Sem.run_pure]
  cases (x == y) <;> rfl
theorem hdr_fields : (Tryz.prog.fieldsOf 35).toList.map (fun f => (f.name, f.type, f.offset)) = [("Version", 3, 0), ("Slot", 3, 1), ("Layout", 3, 2), ("Seq", 3, 3), ("Tail", 3, 4), ("Now", 3, 5)] := by kernel_rfl
theorem hdr_stood : Tryz.prog.stoodInHeld 35 = false := by kernel_rfl
theorem hdr_under : Tryz.prog.underlying 35 = some (.struct (Tryz.prog.fieldsOf 35)) := by kernel_rfl
theorem hdr_eq (w : World) (a b : Hd.H) : (Op.equalIn 10000 35 (Hd.val a) (Hd.val b)).run Tryz.prog w = .ok (Hd.same a b) w := by
  unfold Hd.val
  rw [run_equalIn_struct w 9999 _ _ _ hdr_under hdr_stood]
  have hf := hdr_fields
  generalize (Tryz.prog.fieldsOf 35).toList = fs at hf ⊢
  obtain ⟨f0, r0, rfl, e0, hf⟩ := List.map_eq_cons_iff.1 hf
  obtain ⟨f1, r1, rfl, e1, hf⟩ := List.map_eq_cons_iff.1 hf
  obtain ⟨f2, r2, rfl, e2, hf⟩ := List.map_eq_cons_iff.1 hf
  obtain ⟨f3, r3, rfl, e3, hf⟩ := List.map_eq_cons_iff.1 hf
  obtain ⟨f4, r4, rfl, e4, hf⟩ := List.map_eq_cons_iff.1 hf
  obtain ⟨f5, r5, rfl, e5, hf⟩ := List.map_eq_cons_iff.1 hf
  obtain rfl := List.map_eq_nil_iff.1 hf
  rw [eq_field w Tryz.underlying3 e0 (by decide) 9998 _ _ a.ver b.ver rfl rfl, eq_field w Tryz.underlying3 e1 (by decide) 9998 _ _ a.slot b.slot rfl rfl, eq_field w Tryz.underlying3 e2 (by decide) 9998 _ _ a.lay b.lay rfl rfl, eq_field w Tryz.underlying3 e3 (by decide) 9998 _ _ a.seq b.seq rfl rfl, eq_field w Tryz.underlying3 e4 (by decide) 9998 _ _ a.tail b.tail rfl rfl, eq_field w Tryz.underlying3 e5 (by decide) 9998 _ _ a.now b.now rfl rfl]
  unfold Hd.same Op.eqFields
  generalize (a.ver == b.ver) = q0
  generalize (a.slot == b.slot) = q1
  generalize (a.lay == b.lay) = q2
  generalize (a.seq == b.seq) = q3
  generalize (a.tail == b.tail) = q4
  generalize (a.now == b.now) = q5
  cases q0 <;> cases q1 <;> cases q2 <;> cases q3 <;> cases q4 <;> cases q5 <;> rfl
end Go.Proofs.YtgnbmmceffolmaaGreatDoor
end
section
namespace Go.Proofs.YtgnbmmceffolmaaGreatDoor
open Go.RowKit
theorem Sd.lt {w w1 : World} {r : Nat} {o : Obj} (h : Sd w r o w1) : r < w1.heap.size := (Array.getElem?_eq_some_iff.1 h.1).1
/-- While a header is read: the reader, the variable that holds it, all that was there before. -/
def Ps (w : World) (lo g gi : Nat) (bad : Bool) (l : List Nat) (W : World) : Prop :=
  Rdr W lo g bad l ∧ W.heap[gi]? = some (.cells #[.pointer (some ⟨g, 0, none⟩)] 128 (0, 0)) ∧ Below w.heap.size w W ∧ w.heap.size ≤ g ∧ g < gi
section
variable {w W W' : World} {lo g gi : Nat} {bad bad' : Bool} {l l' : List Nat}
theorem Ps.next (h : Ps w lo g gi bad l W) (hr : Rdr W' lo g bad' l') (hg : W.grownBy W' (some g)) : Ps w lo g gi bad' l' W' :=
  ⟨hr, (hg.block gi (Array.getElem?_eq_some_iff.1 h.2.1).1 (fun e => by injection e with e; have := h.2.2.2.2; omega)).trans h.2.1, h.2.2.1.trans (below_of_grown hg h.2.2.2.1 h.2.2.1.size), h.2.2.2⟩
theorem Ps.cell (h : Ps w lo g gi bad l W) : W.cell? ⟨gi, 0, none⟩ = some (.pointer (some ⟨g, 0, none⟩)) := by
  rw [cell_of_row W gi 0 _ _ (0, 0) h.2.1]; rfl
theorem Ps.alloc (h : Ps w lo g gi bad l W) (o : Obj) : Ps w lo g gi bad l (W.alloc o) :=
  ⟨h.1.below ((Below.refl _ W).alloc (Nat.le_refl _) o) h.1.lt, (heap_alloc_old _ _ (Array.getElem?_eq_some_iff.1 h.2.1).1).trans h.2.1, h.2.2.1.alloc h.2.2.1.size o, h.2.2.2⟩
theorem ps_first {w1 : World} (hr : Rdr w1 w.heap.size g false l) (hb : Below w.heap.size w w1) : Ps w w.heap.size g w1.heap.size false l (w1.alloc (.cells #[.pointer (some ⟨g, 0, none⟩)] 128)) :=
  ⟨hr.below ((Below.refl _ w1).alloc (Nat.le_refl _) _) hr.lt, heap_alloc_new w1 _, hb.alloc hb.size _, hr.lo_le, hr.lt⟩
end
theorem num6 (l : List Nat) (k : Nat) (hk : k ≤ 6) (h : ∀ x ∈ l, x < 256) : Wire.num (l.take k) < 281474976710656 := by
  have h1 := Wire.num_lt (l.take k) (fun x hx => h x (List.mem_of_mem_take hx))
  have h2 : (256 : Nat) ^ (l.take k).length ≤ 256 ^ 6 := Nat.pow_le_pow_right (by decide) (by rw [List.length_take]; omega)
  have h3 : (256 : Nat) ^ 6 = 281474976710656 := rfl
  omega
end Go.Proofs.YtgnbmmceffolmaaGreatDoor
end
end
section
set_option maxRecDepth 100000
namespace Go.Proofs.YtgnbmmceffolmaaGreatDoor
open Go.RowKit
/-- w' is w but for the blocks of S, and new ones. -/
structure Kept (S : Nat → Prop) (w w' : World) : Prop where
  os : w'.os = w.os
  tape : w'.tape = w.tape
  output : w'.output = w.output
  size : w.heap.size ≤ w'.heap.size
  block : ∀ k, k < w.heap.size → ¬ S k → w'.heap[k]? = w.heap[k]?
section
variable {S : Nat → Prop} {w w' w'' : World}
theorem Kept.refl (S : Nat → Prop) (w : World) : Kept S w w := ⟨rfl, rfl, rfl, Nat.le_refl _, fun _ _ _ => rfl⟩
theorem Kept.trans (h : Kept S w w') (k : Kept S w' w'') : Kept S w w'' :=
  ⟨k.os.trans h.os, k.tape.trans h.tape, k.output.trans h.output, Nat.le_trans h.size k.size, fun i hi hn => (k.block i (Nat.lt_of_lt_of_le hi h.size) hn).trans (h.block i hi hn)⟩
theorem Kept.mono {T : Nat → Prop} (h : Kept S w w') (hs : ∀ k, k < w.heap.size → S k → T k) : Kept T w w' := ⟨h.os, h.tape, h.output, h.size, fun i hi hn => h.block i hi fun hs' => hn (hs i hi hs')⟩
/-- What the second step writes behind the first world's heap does not count. -/
theorem Kept.trans' {T : Nat → Prop} (h : Kept S w w') (k : Kept T w' w'') (ht : ∀ i, T i → i < w.heap.size → S i) : Kept S w w'' :=
  ⟨k.os.trans h.os, k.tape.trans h.tape, k.output.trans h.output, Nat.le_trans h.size k.size, fun i hi hn => (k.block i (Nat.lt_of_lt_of_le hi h.size) fun t => hn (ht i t hi)).trans (h.block i hi hn)⟩
theorem Kept.of_new (h : Below w.heap.size w w') : Kept S w w' := ⟨h.os, h.tape, h.output, h.size, fun i hi _ => h.block i hi⟩
theorem Kept.of_grown {row : Option Nat} (h : w.grownBy w' row) (hr : ∀ k, row = some k → S k) : Kept S w w' := ⟨h.os, h.tape, h.output, h.size, fun i hi hn => h.block i hi fun e => hn (hr i e.symm)⟩
theorem Kept.alloc (w : World) (o : Obj) : Kept S w (w.alloc o) := Kept.of_grown (World.grownBy_alloc w o none) (fun _ e => by cases e)
theorem Kept.drewN (h : Kept S w w') (n : Nat) : Kept S w (w'.drewN n) := ⟨h.os, h.tape, h.output, h.size, h.block⟩
theorem Kept.below {B : Nat} (h : Kept S w w') (hB : B ≤ w.heap.size) (hs : ∀ k, S k → B ≤ k) : Below B w w' :=
  ⟨h.os, h.tape, h.output, h.size, fun i hi => h.block i (Nat.lt_of_lt_of_le hi hB) fun s => by have := hs i s; omega⟩
theorem Kept.setCell (w : World) (a : Addr) (u : Value) (hs : S a.block) : Kept S w (w.setCell a u) :=
  ⟨rfl, rfl, rfl, by simp [World.setCell], fun k _ hn => Below.heap_setCell w a u k (fun e => hn (e ▸ hs))⟩
theorem Kept.setRow (w : World) (g : Nat) (cs : Array Value) (hs : S g) : Kept S w (w.setRow g cs) :=
  ⟨rfl, rfl, rfl, by simp [World.setRow], fun k _ hn => setRow_other w g k cs (fun e => hn (e ▸ hs))⟩
end
theorem Bs.kept {S : Nat → Prop} {w w' : World} {B : Nat} {A : Option Addr} {l : List Nat} (h : Bs w B A l) (hk : Kept S w w') (hs : ∀ ad, A = some ad → 0 < l.length → ¬ S ad.block) : Bs w' B A l := fun k hl => by
  obtain ⟨h1, ad, rfl, h3, h4⟩ := h k hl
  refine ⟨h1, ad, rfl, h3, (World.cell?_of_block (hk.block _ ?_ ?_)).trans h4⟩
  · exact World.block_lt_of_cell? _ _ h4
  · rw [add_block]; exact hs ad rfl (by omega)

end Go.Proofs.YtgnbmmceffolmaaGreatDoor
end
