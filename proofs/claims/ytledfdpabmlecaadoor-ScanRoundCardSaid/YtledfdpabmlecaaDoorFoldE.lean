/-
  The texts RecRefCheck, RecCheckLaw, RecLengths, RecCut, RecRefEncode, RecRefEncode2, RecEncodeLaw, RecRefDecode, RecRefDec1, RecRefDec2, RecDecodeLaw of this proof, one behind the other.
-/
import Derived.Test.YtledfdpabmlecaaDoorFoldD
import Derived.Deep.DeepCutAuto
import Derived.Deep.CutBlock
import Derived.Test.YtledfdpabmlecaaDoorFoldC
section
namespace Go.Proofs.YtledfdpabmlecaaDoor
open Go.RowKit
end Go.Proofs.YtledfdpabmlecaaDoor
end
section
namespace Go.Proofs.YtledfdpabmlecaaDoor
open Go.RowKit
theorem cells4 {w : World} {g : Nat} {a b c d : Value} {t : TypeId} (h : w.heap[g]? = some (.cells #[a, b, c, d] t (0, 0))) : w.cell? ⟨g, 0, none⟩ = some a ∧ w.cell? ⟨g, 1, none⟩ = some b ∧ w.cell? ⟨g, 2, none⟩ = some c ∧ w.cell? ⟨g, 3, none⟩ = some d := four_cells h
end Go.Proofs.YtledfdpabmlecaaDoor
end
section
namespace Go.Proofs.YtledfdpabmlecaaDoor
open Go.RowKit
/-- What Encode leaves, with its error: bytes in a row of their own where there is none, nothing where there is one. -/
def EncR (w : World) (v seq off : Int) (r : Rc.Rec) (e : Ending) (w' : World) : Prop :=
  ∃ A3 n3 c3, e = .returned (.tuple #[.slice A3 n3 c3, .int .i64 (Rc.err v seq off r)]) ∧ SlIs A3 n3 c3 ∧ (Rc.err v seq off r = 0 → n3 = (Rc.enc v seq off r).length ∧ BsIn w' w.heap.size w'.heap.size A3 (Rc.enc v seq off r)) ∧ (Rc.err v seq off r ≠ 0 → n3 = 0) ∧ Below w.heap.size w w'
theorem err_zero {v seq off : Int} {r : Rc.Rec} : Rc.err v seq off r = 0 ↔ Rc.check v r = 0 ∧ Rc.place seq off := by
  unfold Rc.err
  by_cases h : Rc.check v r = 0
  · rw [if_neg (by rw [h]; decide)]
    by_cases hp : Rc.place seq off
    · rw [if_pos hp]; exact ⟨fun _ => ⟨h, hp⟩, fun _ => rfl⟩
    · rw [if_neg hp]; exact ⟨fun h => (by cases h), fun h => absurd h.2 hp⟩
  · rw [if_pos h]; exact ⟨fun e => absurd e h, fun e => absurd e.1 h⟩
theorem encode_any (v seq off kd x : Int) (key val : List Nat) (A : Option Addr) (B n c : Nat) (A' : Option Addr) (n' c' : Nat) (w : World) (hB : B ≤ w.heap.size) (hsq : seq ≤ 9223372036854775807)
    (hs : SlIs A n c) (hs' : SlIs A' n' c') (hk : key.length = n ∧ Bs w B A key) (hv : val.length = n' ∧ Bs w B A' val) (ht : TabW w) (hz : 0 < w.heap.size) :
    Calls Tryd.prog 36 #[.int .i64 v, .int .i64 seq, .int .i64 off, .agg #[.int .i64 kd, .slice A n c, .slice A' n' c', .int .i64 x]] w (EncR w v seq off ⟨kd, key, val, x⟩) := by
  by_cases h : Rc.err v seq off ⟨kd, key, val, x⟩ = 0
  · obtain ⟨h1, h2⟩ := err_zero.1 h
    refine (encode_ok v seq off kd x key val A B n c A' n' c' w h1 h2 hB hsq ⟨hs, hk⟩ ⟨hs', hv⟩ ht hz).mono ?_
    rintro e w' ⟨u, rfl, hown, hb⟩
    obtain ⟨A3, c3, rfl, hbs, hl3, hn3, hm3, ho3⟩ := own_bytes hown (Rc.enc_lt _ _ _ _ hk.2.lt hv.2.lt)
    refine ⟨A3, _, c3, by rw [h], sl_own hn3 hm3 ho3, fun _ => ⟨rfl, own_bsin hbs ?_⟩, fun e => absurd h e, hb⟩
    rcases ho3 with ⟨e, _⟩ | e
    · exact .inl e
    · exact .inr e
  · have hc : Rc.check v ⟨kd, key, val, x⟩ = Rc.chk v kd n n' x := by
      unfold Rc.check
      rw [hk.1, hv.1]
    have h2 : Rc.chk v kd n n' x ≠ 0 ∨ ¬ Rc.place seq off := by
      by_cases h3 : Rc.chk v kd n n' x = 0
      · exact .inr fun hp => h (err_zero.2 ⟨by rw [hc]; exact h3, hp⟩)
      · exact .inl h3
    refine (encode_bad v seq off kd x A n c A' n' c' w h2).mono ?_
    rintro e w' ⟨rfl, hb⟩
    refine ⟨none, 0, 0, ?_, ⟨fun _ => ⟨rfl, rfl⟩, Nat.le_refl _, by omega⟩, fun e => absurd e h, fun _ => rfl, hb⟩
    have e1 : Rc.err v seq off ⟨kd, key, val, x⟩ = if Rc.chk v kd n n' x ≠ 0 then Rc.chk v kd n n' x else 2 := by
      unfold Rc.err
      rw [hc]
      by_cases h3 : Rc.chk v kd n n' x = 0
      · have h4 := h2.resolve_left fun e => e h3
        simp [h3, h4]
      · simp [h3]
    rw [e1]
/-- The errors of the two formats. -/
theorem err_two (seq off : Int) (r : Rc.Rec) : (Rc.err 1 seq off r = 0 → Rc.err 2 seq off r = 0) ∧ (Rc.err 1 seq off r ≠ 0 → Rc.err 2 seq off r = Rc.err 1 seq off r ∨ Rc.err 1 seq off r = 7) := by
  have hm : Rc.most 1 = 4294967295 ∧ Rc.most 2 = 1099511627775 := ⟨rfl, rfl⟩
  have key : (Rc.check 1 r = Rc.check 2 r) ∨ Rc.check 1 r = 7 := by
    unfold Rc.check Rc.chk
    rw [hm.1, hm.2, if_neg (show ¬ ((1 : Int) ≠ 1 ∧ (1 : Int) ≠ 2) by decide), if_neg (show ¬ ((2 : Int) ≠ 1 ∧ (2 : Int) ≠ 2) by decide)]
    (repeat' split) <;> first | exact .inl rfl | exact .inr rfl | contradiction | (exfalso; omega)
  have h7 : Rc.check 1 r = 7 → Rc.err 1 seq off r = 7 := fun h => by unfold Rc.err; rw [if_pos (by rw [h]; decide), h]
  have heq : Rc.check 1 r = Rc.check 2 r → Rc.err 2 seq off r = Rc.err 1 seq off r := fun h => by unfold Rc.err; rw [h]
  constructor
  · intro h
    rcases key with k | k
    · rw [heq k]; exact h
    · rw [h7 k] at h; cases h
  · intro _
    rcases key with k | k
    · exact .inl (heq k)
    · exact .inr (h7 k)
/-- A record's box, behind Short and the store of what it gave. -/
theorem sd_box {w w1 : World} {o : Obj} {a b c d : Value} {t : TypeId} (e : o = .cells #[a, b, c, d] t) (hb : Below (w.alloc o).heap.size (w.alloc o) w1) : Sd w w.heap.size (.cells #[a, b, c, d] t (0, 0)) w1 := by
  subst e
  exact ⟨boxed hb, ((Below.refl _ w).alloc (Nat.le_refl _) _).trans (hb.mono (by simp))⟩
end Go.Proofs.YtledfdpabmlecaaDoor
end
section
namespace Go.Proofs.YtledfdpabmlecaaDoor
open Go.RowKit
theorem Sd2.drawn {w W : World} {o0 o1 : Obj} (h : Sd2 w o0 o1 W) (k : Nat) : Sd2 w o0 o1 (W.drewN k) := ⟨h.1, h.2.1, below_drawn h.2.2 k⟩
/-- The zero record is the zero record. -/
theorem zeq_any (w : World) : Calls Tryd.prog 24 #[.agg #[.int .i64 0, .slice none 0 0, .slice none 0 0, .int .i64 0], .agg #[.int .i64 0, .slice none 0 0, .slice none 0 0, .int .i64 0]] w fun e w' => e = .returned (.bool true) ∧ Below w.heap.size w w' := by
  have hnil : ∀ B, ([] : List Nat).length = 0 ∧ Bs w B none [] := fun B => ⟨rfl, fun k hk => absurd hk (by simp)⟩
  have h := receq_any 0 0 0 0 none none none none 0 0 0 0 0 0 0 0 0 0 [] [] [] [] w (Nat.zero_le _) (Nat.zero_le _) (hnil 0) (hnil 0) (hnil 0) (hnil 0) ⟨by omega, by omega, by omega, by omega⟩
  rwa [Rc.same_self] at h
/-- '(n%L + L) % L' as the walk writes it. -/
theorem wrap_mod (n : Int) (L : Nat) (h : 0 < L) (hL : L ≤ 70368744177664) : ∃ (t : Int) (m : Nat), n.tmod (L : Int) = t ∧ -(L : Int) < t ∧ t < (L : Int) ∧ (t + (L : Int)).tmod (L : Int) = (m : Int) ∧ m < L := by
  have h1 : (n.tmod (L : Int)).natAbs = n.natAbs % L := Int.natAbs_tmod n L
  have h2 := Nat.mod_lt n.natAbs h
  have h3 : 0 ≤ n.tmod (L : Int) + (L : Int) := by omega
  refine ⟨_, ((n.tmod (L : Int) + (L : Int)) % (L : Int)).toNat, rfl, by omega, by omega, ?_, ?_⟩
  · rw [Int.tmod_eq_emod_of_nonneg h3]
    have := Int.emod_nonneg (n.tmod (L : Int) + (L : Int)) (show (L : Int) ≠ 0 by omega)
    omega
  · have h4 := Int.emod_lt_of_pos (n.tmod (L : Int) + (L : Int)) (show (0 : Int) < (L : Int) by omega)
    have := Int.emod_nonneg (n.tmod (L : Int) + (L : Int)) (show (L : Int) ≠ 0 by omega)
    omega
end Go.Proofs.YtledfdpabmlecaaDoor
end
section
namespace Go.Proofs.YtledfdpabmlecaaDoor
open Go.RowKit
theorem head1 (kd xp : Nat) (key val : List Nat) (hk : kd ≤ 3) (hn : key.length ≤ 255) : Rc.head 1 ⟨(kd : Int), key, val, (xp : Int)⟩ = ([161, kd, key.length, 0] ++ Wire.be 4 val.length) ++ Wire.be 4 xp := by
  have e : Rc.head 1 ⟨(kd : Int), key, val, (xp : Int)⟩ = Rc.flat [(161, 1), (kd, 1), (key.length, 1), (0, 1), (val.length, 4), (xp, 4)] := rfl
  rw [e]
  simp only [Rc.flat, List.flatMap_cons, List.flatMap_nil, Rc.be_one]
  simp
  omega
theorem head2 (kd xp : Nat) (key val : List Nat) (hk : kd ≤ 3) (hn : key.length ≤ 255) : Rc.head 2 ⟨(kd : Int), key, val, (xp : Int)⟩ = (([162, key.length, 16 * kd] ++ Wire.be 3 val.length) ++ [0]) ++ Wire.be 5 xp := by
  have e : Rc.head 2 ⟨(kd : Int), key, val, (xp : Int)⟩ = Rc.flat [(162, 1), (key.length, 1), (16 * kd, 1), (val.length, 3), (0, 1), (xp, 5)] := rfl
  rw [e]
  simp only [Rc.flat, List.flatMap_cons, List.flatMap_nil, Rc.be_one]
  simp
  omega
end Go.Proofs.YtledfdpabmlecaaDoor
end
section
set_option maxRecDepth 100000
namespace Go.Proofs.YtledfdpabmlecaaDoor
open Go.RowKit
end Go.Proofs.YtledfdpabmlecaaDoor
end
section
set_option maxRecDepth 100000
namespace Go.Proofs.YtledfdpabmlecaaDoor
open Go.RowKit
end Go.Proofs.YtledfdpabmlecaaDoor
end
section
set_option maxRecDepth 100000
namespace Go.Proofs.YtledfdpabmlecaaDoor
open Go.RowKit
theorem byte_at (ad : Addr) (B i : Nat) (l : List Nat) (W : World) (hb : Bs W B (some ad) l) (h0 : 0 < i) (hl : i < l.length) : W.cell? ⟨ad.block, ad.off + i, none⟩ = some (.int .u8 ((l.getD i 0 : Nat) : Int)) := by
  obtain ⟨_, ad', e, _, hc⟩ := hb i hl
  injection e with e
  subst e
  rw [← add_pos ad i h0]; exact hc
theorem wrap_small (q : Nat) (h : q < 9223372036854775808) : IntKind.i64.wrap (q : Int) = (q : Int) := by
  rw [IntKind.wrap_i64]; omega
/-- The second box's second and third field, stored. -/
theorem sd2_set1 {w W : World} {o0 : Obj} {a b c d v : Value} {t : TypeId} (h : Sd2 w o0 (.cells #[a, b, c, d] t (0, 0)) W) : Sd2 w o0 (.cells #[a, v, c, d] t (0, 0)) (W.setCell ⟨w.heap.size + 1, 1, none⟩ v) :=
  ⟨((grown_set W _ _ _).block _ (Array.getElem?_eq_some_iff.1 h.1).1 (fun e => by injection e with e; omega)).trans h.1, by have h1 := h.2.1; simp [World.setCell, Array.getElem?_modify, h1], h.2.2.trans (below_of_grown (grown_set _ _ _ _) (by omega) h.2.2.size)⟩
theorem sd2_set2 {w W : World} {o0 : Obj} {a b c d v : Value} {t : TypeId} (h : Sd2 w o0 (.cells #[a, b, c, d] t (0, 0)) W) : Sd2 w o0 (.cells #[a, b, v, d] t (0, 0)) (W.setCell ⟨w.heap.size + 1, 2, none⟩ v) :=
  ⟨((grown_set W _ _ _).block _ (Array.getElem?_eq_some_iff.1 h.1).1 (fun e => by injection e with e; omega)).trans h.1, by have h1 := h.2.1; simp [World.setCell, Array.getElem?_modify, h1], h.2.2.trans (below_of_grown (grown_set _ _ _ _) (by omega) h.2.2.size)⟩
end Go.Proofs.YtledfdpabmlecaaDoor
end
section
set_option maxRecDepth 100000
namespace Go.Proofs.YtledfdpabmlecaaDoor
open Go.RowKit
end Go.Proofs.YtledfdpabmlecaaDoor
end
section
set_option maxRecDepth 100000
namespace Go.Proofs.YtledfdpabmlecaaDoor
open Go.RowKit
end Go.Proofs.YtledfdpabmlecaaDoor
end
section
set_option maxRecDepth 100000
namespace Go.Proofs.YtledfdpabmlecaaDoor
open Go.RowKit
theorem sd_place (w : World) (a b c : Value) (t : TypeId) : Sd w w.heap.size (.cells #[a, b, c] t (0, 0)) (w.alloc (.cells #[a, b, c] t)) := ⟨heap_alloc_new _ _, (Below.refl _ w).alloc (Nat.le_refl _) _⟩
end Go.Proofs.YtledfdpabmlecaaDoor
end
