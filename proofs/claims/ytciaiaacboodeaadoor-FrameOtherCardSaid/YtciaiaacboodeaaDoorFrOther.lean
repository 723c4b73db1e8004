/-
  The walk of the statement on frames of another kind, salt or sector.
-/
import Derived.Test.YtciaiaacboodeaaDoorFrLaws
import Derived.Laws.BitsLemmas
namespace Go.Proofs.YtciaiaacboodeaaDoor
open Go.RowKit
theorem and32 (q : Int) : bits .and .i64 q 4294967295 = q % 4294967296 := by
  have h1 : (BitVec.ofInt 64 4294967295).toNat = 2 ^ 32 - 1 := by decide
  have key : (BitVec.ofInt 64 q &&& BitVec.ofInt 64 4294967295).toNat = (q % ((2 ^ 64 : Nat) : Int)).toNat % 2 ^ 32 := by
    rw [BitVec.toNat_and, BitVec.toNat_ofInt, h1, Nat.and_two_pow_sub_one_eq_mod]
  show IntKind.i64.wrap ((BitVec.ofInt 64 q &&& BitVec.ofInt 64 4294967295).toNat : Nat) = q % 4294967296
  rw [key, IntKind.wrap_i64]
  omega
theorem ones32 : ∀ i, i < 64 → (BitVec.ofInt 64 4294967295).getLsbD i = decide (i < 32) := by decide
theorem high32 (a : Nat) (h : a < 9223372036854775808) : bits .andNot .i64 (a : Int) 4294967295 = ((a / 4294967296 * 4294967296 : Nat) : Int) := by
  have e : BitVec.ofInt 64 (a : Int) &&& ~~~ BitVec.ofInt 64 4294967295 = (BitVec.ofNat 64 a >>> 32) <<< 32 := by
    rw [BitVec.ofInt_natCast]
    apply BitVec.eq_of_getLsbD_eq
    intro i hi
    rw [BitVec.getLsbD_and, BitVec.getLsbD_not, ones32 i hi, BitVec.getLsbD_shiftLeft, BitVec.getLsbD_ushiftRight]
    by_cases h32 : i < 32
    · simp [h32]
    · have e1 : 32 + (i - 32) = i := by omega
      simp [h32, hi, e1]
  show IntKind.i64.wrap ((BitVec.ofInt 64 (a : Int) &&& ~~~ BitVec.ofInt 64 4294967295).toNat : Nat) = _
  rw [e, BitVec.toNat_shiftLeft, BitVec.toNat_ushiftRight, BitVec.toNat_ofNat, Nat.shiftLeft_eq, Nat.shiftRight_eq_div_pow, IntKind.wrap_i64]
  omega
theorem mix32 (a : Nat) (q : Int) (h : a < 9223372036854775808) : bits .or .i64 ((a / 4294967296 * 4294967296 : Nat) : Int) (q % 4294967296) = ((a / 4294967296 * 4294967296 + (q % 4294967296).toNat : Nat) : Int) := by
  rw [bits_join .i64 63 (by decide) (fun n h0 h1 => by rw [IntKind.wrap_i64]; omega) 32 _ _ (by omega) (by omega) (by omega) (by omega) (by omega) (by omega)]
  omega
theorem sd2_boxes (w : World) (a b c a' b' c' : Value) (t t' : TypeId) : Sd2 w (.cells #[a, b, c] t (0, 0)) (.cells #[a', b', c'] t' (0, 0)) ((w.alloc (.cells #[a, b, c] t)).alloc (.cells #[a', b', c'] t')) :=
  ⟨(heap_alloc_old _ _ (by simp)).trans (heap_alloc_new w _), alloc_at (by simp), ((Below.refl _ w).alloc (Nat.le_refl _) _).alloc (by simp) _⟩
/-- What Decode says of a frame that is one or none, by a test. -/
def FrSays (W : World) (t : Bool) (e : Ending) (w' : World) : Prop := ∃ A1 n1 c1, e = .returned (.tuple #[.slice A1 n1 c1, .bool t]) ∧ (t = true → n1 = 59) ∧ Below W.heap.size W w'
theorem frsays {k s x : Int} {en : List Nat} {W w' : World} {e : Ending} {t : Bool} (ht : Fr.good k s x en ↔ t = true) (h : (Fr.good k s x en ∧ GotFr W (Rc.sub en 1 59) e w') ∨ (¬ Fr.good k s x en ∧ NoFr W e w')) : FrSays W t e w' := by
  rcases h with ⟨hg, A1, c1, rfl, -, -, hb⟩ | ⟨hg, rfl, hb⟩
  · have := ht.1 hg
    subst this
    exact ⟨A1, 59, c1, rfl, fun _ => rfl, hb⟩
  · have : t = false := by
      cases t with
      | false => rfl
      | true => exact absurd (ht.2 rfl) hg
    subst this
    exact ⟨none, 0, 0, rfl, (fun e => by cases e), hb⟩
set_option maxHeartbeats 2000000 in
set_option maxRecDepth 100000 in
theorem frameother_any (k s x k2 s2 x2 : Int) (A : Option Addr) (n c : Nat) (l : List Nat) (w : World) (hs63 : s ≤ 9223372036854775807) (hs : SlIs A n c) (hb : Hid (l.length = n ∧ Bs w w.heap.size A l)) (ht : Hid (TabW w)) (hz : 0 < w.heap.size) :
    Calls Tryd.prog 6 #[.agg #[.int .i64 k, .int .i64 s, .int .i64 x], .agg #[.int .i64 k2, .int .i64 s2, .int .i64 x2], .slice A n c] w fun e w' => e = .returned (.bool true) ∧ Below w.heap.size w w' := by
  obtain ⟨m, hm⟩ := min_is n 59
  obtain ⟨a1, a2⟩ := min_bs hb.out.1 hb.out.2 hm
  have q := min_sl hs hm
  have hm59 : m ≤ 59 := by unfold MinIs at hm; omega
  have HAW : Hid (∀ W, Below w.heap.size w W → Calls Tryd.prog 14 #[] W fun e w' => e = .returned (.bool true) ∧ Below W.heap.size W w') := fun W hW => frawake_any W (ht.out.below hW hz) (Nat.lt_of_lt_of_le hz hW.size)
  have HEN : Hid (∀ W, Below w.heap.size w W → Calls Tryd.prog 12 #[.int .i64 k, .int .i64 s, .int .i64 x, .slice A m c] W (FrEnc W (Fr.enc k s x (l.take m)) (Fr.err k s x m))) := fun W hW =>
    frencode_any k s x A w.heap.size m c _ W hs63 hW.size q a1 (a2.below hW (Nat.le_refl _)) (ht.out.below hW hz) (Nat.lt_of_lt_of_le hz hW.size)
  have hnc := hs.2.1
  have hc63 := hs.2.2
  unfold FrEnc at HEN
  by_cases hma : Fr.may k s x
  · have he : Fr.err k s x m = 0 := by unfold Fr.err; rw [if_pos hma, if_neg (by omega)]
    rw [he] at HEN
    have hlen : (l.take m).length ≤ 59 := by rw [a1]; exact hm59
    obtain ⟨sa, rfl⟩ : ∃ sa : Nat, s = (sa : Int) := Int.eq_ofNat_of_zero_le (by unfold Fr.may at hma; omega)
    have hsa : sa < 9223372036854775808 := by omega
    have e1 := high32 sa hsa
    have e2 := and32 s2
    have e3 := mix32 sa s2 hsa
    obtain ⟨s3, hs3⟩ : ∃ s3, sa / 4294967296 * 4294967296 + (s2 % 4294967296).toNat = s3 := ⟨_, rfl⟩
    rw [hs3] at e3
    have HS3a : Hid (s3 < 9223372036854775808 ∧ s3 / 4294967296 = sa / 4294967296) := ⟨by omega, by omega⟩
    generalize ((sa / 4294967296 * 4294967296 : Nat) : Int) = hi at e1 e3
    generalize s2 % 4294967296 = lo at e2 e3 hs3
    clear hs3
    have HLT : Hid (∀ y ∈ Fr.enc k (sa : Int) x (l.take m), y < 256) := Fr.enc_lt _ _ _ _ ⟨hma.1, hma.2.1⟩ a2.lt
    have HLE : Hid ((Fr.enc k (sa : Int) x (l.take m)).length = 64) := Fr.enc_length _ _ _ _ hlen
    have HD : Hid (∀ (k' s' x' : Int) (W : World) (A : Option Addr) (B c : Nat), s' ≤ 9223372036854775807 → Below w.heap.size w W → B ≤ W.heap.size → SlIs A 64 c → Bs W B A (Fr.enc k (sa : Int) x (l.take m)) → Calls Tryd.prog 17 #[.int .i64 k', .int .i64 s', .int .i64 x', .slice A 64 c] W fun e w' => (Fr.good k' s' x' (Fr.enc k (sa : Int) x (l.take m)) ∧ GotFr W (Rc.sub (Fr.enc k (sa : Int) x (l.take m)) 1 59) e w') ∨ (¬ Fr.good k' s' x' (Fr.enc k (sa : Int) x (l.take m)) ∧ NoFr W e w')) := fun k' s' x' W A B c h1 hW hB h2 h3 =>
      frdecode_any k' s' x' A B 64 c _ W h1 hB h2 HLE.out h3 (ht.out.below hW hz) (Nat.lt_of_lt_of_le hz hW.size)
    have HD1 : Hid (∀ (W : World) (A : Option Addr) (B c : Nat), Below w.heap.size w W → B ≤ W.heap.size → SlIs A 64 c → Bs W B A (Fr.enc k (sa : Int) x (l.take m)) → Calls Tryd.prog 17 #[.int .i64 k, .int .i64 (sa : Int), .int .i64 x2, .slice A 64 c] W (FrSays W (x2 == x))) := fun W A B c hW hB h2 h3 =>
      (HD.out k (sa : Int) x2 W A B c hs63 hW hB h2 h3).mono fun _ _ h => frsays ((Fr.other_sector k (sa : Int) x x2 _ hma hlen).trans (by rw [beq_iff_eq])) h
    have HD2 : Hid (∀ (W : World) (A : Option Addr) (B c : Nat), Below w.heap.size w W → B ≤ W.heap.size → SlIs A 64 c → Bs W B A (Fr.enc k (sa : Int) x (l.take m)) → Calls Tryd.prog 17 #[.int .i64 k2, .int .i64 (sa : Int), .int .i64 x, .slice A 64 c] W (FrSays W (k2 == k))) := fun W A B c hW hB h2 h3 =>
      (HD.out k2 (sa : Int) x W A B c hs63 hW hB h2 h3).mono fun _ _ h => frsays ((Fr.other_kind k k2 (sa : Int) x _ hma hlen).trans (by rw [beq_iff_eq])) h
    have HD3 : Hid (∀ (W : World) (A : Option Addr) (B c : Nat), Below w.heap.size w W → B ≤ W.heap.size → SlIs A 64 c → Bs W B A (Fr.enc k (sa : Int) x (l.take m)) → Calls Tryd.prog 17 #[.int .i64 k, .int .i64 (s3 : Int), .int .i64 x, .slice A 64 c] W (FrSays W ((s3 : Int) == (sa : Int)))) := fun W A B c hW hB h2 h3 =>
      (HD.out k (s3 : Int) x W A B c (by have := HS3a.out; omega) hW hB h2 h3).mono fun _ _ h => frsays ((Fr.other_salt k (sa : Int) (s3 : Int) x _ hma hlen (by omega) (by rw [Int.toNat_natCast, Int.toNat_natCast]; exact HS3a.out.2)).trans (by rw [beq_iff_eq])) h
    clear HD a1 a2 q hs hma he hlen HS3a
    unfold FrSays at HD1 HD2 HD3
    generalize Fr.enc k (sa : Int) x (l.take m) = en at *
    generalize hs1 : (sa : Int) = sai at *
    generalize hs4 : (s3 : Int) = sb at *
    clear hs1 hs4
    go_enter Tryd.func6, Tryd.ntmps6
    go_upto_region 1 with fail
    have HS0 := Lib.hid (sd2_boxes w (.int .i64 k) (.int .i64 sai) (.int .i64 x) (.int .i64 k2) (.int .i64 s2) (.int .i64 x2) 33 33)
    generalize (w.alloc (.cells #[.int .i64 k, .int .i64 sai, .int .i64 x] 33)).alloc (.cells #[.int .i64 k2, .int .i64 s2, .int .i64 x2] 33) = w0 at *
    go_cut [2] (fun s wx => s = .slice A m c ∧ w0 = wx)
    case first =>
      unfold MinIs at hm
      rcases hm with ⟨i0, rfl⟩ | ⟨i0, rfl⟩
      all_goals
        go_wp2_with fail
        go_meet
        exact ⟨rfl, rfl⟩
    case rest =>
      obtain ⟨rfl, rfl⟩ := hcut
      obtain ⟨y0, y1, y2⟩ := three_cells HS0.out.1
      go_wp2_with fail
      refine (HEN.out _ HS0.out.2.2).mono ?_
      rintro e w2 ⟨A1, n1, c1, rfl, hs1, h0, -, hb2⟩
      obtain ⟨rfl, hown⟩ := h0 trivial
      obtain ⟨A1', c1', e1', hbs, -, -, -, -⟩ := own_bytes hown HLT.out
      injection e1' with e1' _ e3'
      subst e1' e3'
      have HS2 := Lib.hid (HS0.out.next hb2 (by rfl) (by rfl) (by rfl) (by rfl))
      have HB2 : Hid (SlIs A1 64 c1 ∧ Bs w2 w2.heap.size A1 en) := ⟨hs1, hbs⟩
      clear hb2 y0 y1 y2 h0 hown hbs hs1
      obtain ⟨y0, y1, y2⟩ := three_cells HS2.out.1
      obtain ⟨z0, z1, z2⟩ := three_cells HS2.out.2.1
      go_wp2_with fail
      refine (HD1.out _ _ _ _ HS2.out.2.2 (Nat.le_refl _) HB2.out.1 HB2.out.2).mono ?_
      rintro e w3 ⟨A3, n3, c3, rfl, hn3, hb3⟩
      have HS3 := Lib.hid (HS2.out.next hb3 (by rfl) (by rfl) (by rfl) (by rfl))
      have HB3 : Hid (Bs w3 w2.heap.size A1 en ∧ w2.heap.size ≤ w3.heap.size) := ⟨HB2.out.2.below hb3 (Nat.le_refl _), hb3.size⟩
      clear hb3 y0 y1 y2 z0 z1 z2
      obtain ⟨y0, y1, y2⟩ := three_cells HS3.out.1
      obtain ⟨z0, z1, z2⟩ := three_cells HS3.out.2.1
      cases hx : (x2 == x)
      case' true => obtain rfl := hn3 hx
      all_goals
        clear hn3
        go_wp2_with fail
        refine (HD2.out _ _ _ _ HS3.out.2.2 HB3.out.2 HB2.out.1 HB3.out.1).mono ?_
        rintro e w4 ⟨A4, n4, c4, rfl, hn4, hb4⟩
        have HS4 := Lib.hid (HS3.out.next hb4 (by rfl) (by rfl) (by rfl) (by rfl))
        have HB4 : Hid (Bs w4 w2.heap.size A1 en ∧ w2.heap.size ≤ w4.heap.size) := ⟨HB3.out.1.below hb4 HB3.out.2, Nat.le_trans HB3.out.2 hb4.size⟩
        clear hb4 y0 y1 y2 z0 z1 z2
        obtain ⟨y0, y1, y2⟩ := three_cells HS4.out.1
        obtain ⟨z0, z1, z2⟩ := three_cells HS4.out.2.1
        cases hk : (k2 == k)
        case' true => obtain rfl := hn4 hk
        all_goals
          clear hn4
          go_wp2_with fail
          refine (HD3.out _ _ _ _ HS4.out.2.2 HB4.out.2 HB2.out.1 HB4.out.1).mono ?_
          rintro e w5 ⟨A5, n5, c5, rfl, -, hb5⟩
          have HS5 := Lib.hid (HS4.out.next hb5 (by rfl) (by rfl) (by rfl) (by rfl))
          clear hb5 y0 y1 y2 z0 z1 z2
          go_wp2_with fail
          refine (HAW.out _ HS5.out.2.2).mono ?_
          rintro e w6 ⟨rfl, hb6⟩
          have HS6 := Lib.hid (HS5.out.next hb6 (by rfl) (by rfl) (by rfl) (by rfl))
          clear hb6
          obtain ⟨y0, y1, y2⟩ := three_cells HS6.out.1
          go_wp2
          go_ret
          exact ⟨rfl, HS6.out.2.2⟩
  · have he : Fr.err k s x m = 2 := by unfold Fr.err; rw [if_neg hma]
    rw [he] at HEN
    clear hma he a1 a2 q hs
    go_enter Tryd.func6, Tryd.ntmps6
    go_upto_region 1 with fail
    have HS0 := Lib.hid (sd2_boxes w (.int .i64 k) (.int .i64 s) (.int .i64 x) (.int .i64 k2) (.int .i64 s2) (.int .i64 x2) 33 33)
    generalize (w.alloc (.cells #[.int .i64 k, .int .i64 s, .int .i64 x] 33)).alloc (.cells #[.int .i64 k2, .int .i64 s2, .int .i64 x2] 33) = w0 at *
    go_cut [2] (fun s wx => s = .slice A m c ∧ w0 = wx)
    case first =>
      unfold MinIs at hm
      rcases hm with ⟨i0, rfl⟩ | ⟨i0, rfl⟩
      all_goals
        go_wp2_with fail
        go_meet
        exact ⟨rfl, rfl⟩
    case rest =>
      obtain ⟨rfl, rfl⟩ := hcut
      obtain ⟨y0, y1, y2⟩ := three_cells HS0.out.1
      go_wp2_with fail
      refine (HEN.out _ HS0.out.2.2).mono ?_
      rintro e w2 ⟨A1, n1, c1, rfl, -, -, -, hb2⟩
      have HS2 := Lib.hid (HS0.out.next hb2 (by rfl) (by rfl) (by rfl) (by rfl))
      clear hb2 y0 y1 y2
      go_wp2_with (go_at_call 14; refine (HAW.out _ HS2.out.2.2).mono ?_; rintro e w3 ⟨rfl, hb3⟩; have HS3 := Lib.hid (HS2.out.next hb3 (by rfl) (by rfl) (by rfl) (by rfl)); clear hb3)
      go_ret
      exact ⟨rfl, HS3.out.2.2⟩
end Go.Proofs.YtciaiaacboodeaaDoor
