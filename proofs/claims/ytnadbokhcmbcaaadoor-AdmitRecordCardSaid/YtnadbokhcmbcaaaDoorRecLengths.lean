/-
  Encode as one contract; the walk of the statement on the lengths of the two formats.
-/
import Derived.Test.YtnadbokhcmbcaaaDoorRecCheckLaw
namespace Go.Proofs.YtnadbokhcmbcaaaDoor
open Go.RowKit
/-- What Encode leaves, with its error: bytes in a row of their own where there is none, nothing where there is one. -/
def EncR (w : World) (v seq off : Int) (r : Rc.Rec) (e : Ending) (w' : World) : Prop :=
  ∃ A3 n3 c3, e = .returned (.tuple #[.slice A3 n3 c3, .int .i64 (Rc.err v seq off r)]) ∧ SlIs A3 n3 c3 ∧ (Rc.err v seq off r = 0 → n3 = (Rc.enc v seq off r).length ∧ BsIn w' w.heap.size w'.heap.size A3 (Rc.enc v seq off r)) ∧ (Rc.err v seq off r ≠ 0 → n3 = 0) ∧ Below w.heap.size w w'
theorem err_zero {v seq off : Int} {r : Rc.Rec} : Rc.err v seq off r = 0 ↔ Rc.check v r = 0 ∧ Rc.place seq off := by
  unfold Rc.err
  by_cases h : Rc.check v r = 0
  · rw [if_neg (by rw [h]; decide)]
    by_cases hp : Rc.place seq off
    · rw [if_pos hp]; exact ⟨fun _ => ⟨h, hp⟩, fun _ => rfl⟩
    · rw [if_neg hp]; exact ⟨fun h => (by cases h), fun h => absurd h.2 hp⟩
  · rw [if_pos h]; exact ⟨fun e => absurd e h, fun e => absurd e.1 h⟩
theorem encode_any (v seq off kd x : Int) (key val : List Nat) (A : Option Addr) (B n c : Nat) (A' : Option Addr) (n' c' : Nat) (w : World) (hB : B ≤ w.heap.size) (hsq : seq ≤ 9223372036854775807)
    (hs : SlIs A n c) (hs' : SlIs A' n' c') (hk : key.length = n ∧ Bs w B A key) (hv : val.length = n' ∧ Bs w B A' val) (ht : TabW w) (hz : 0 < w.heap.size) :
    Calls Tryd.prog 17 #[.int .i64 v, .int .i64 seq, .int .i64 off, .agg #[.int .i64 kd, .slice A n c, .slice A' n' c', .int .i64 x]] w (EncR w v seq off ⟨kd, key, val, x⟩) := by
  by_cases h : Rc.err v seq off ⟨kd, key, val, x⟩ = 0
  · obtain ⟨h1, h2⟩ := err_zero.1 h
    refine (encode_ok v seq off kd x key val A B n c A' n' c' w h1 h2 hB hsq ⟨hs, hk⟩ ⟨hs', hv⟩ ht hz).mono ?_
    rintro e w' ⟨u, rfl, hown, hb⟩
    obtain ⟨A3, c3, rfl, hbs, hl3, hn3, hm3, ho3⟩ := own_bytes hown (Rc.enc_lt _ _ _ _ hk.2.lt hv.2.lt)
    refine ⟨A3, _, c3, by rw [h], sl_own hn3 hm3 ho3, fun _ => ⟨rfl, own_bsin hbs ?_⟩, fun e => absurd h e, hb⟩
    rcases ho3 with ⟨e, _⟩ | e
    · exact .inl e
    · exact .inr e
  · have hc : Rc.check v ⟨kd, key, val, x⟩ = Rc.chk v kd n n' x := by
      unfold Rc.check
      rw [hk.1, hv.1]
    have h2 : Rc.chk v kd n n' x ≠ 0 ∨ ¬ Rc.place seq off := by
      by_cases h3 : Rc.chk v kd n n' x = 0
      · exact .inr fun hp => h (err_zero.2 ⟨by rw [hc]; exact h3, hp⟩)
      · exact .inl h3
    refine (encode_bad v seq off kd x A n c A' n' c' w h2).mono ?_
    rintro e w' ⟨rfl, hb⟩
    refine ⟨none, 0, 0, ?_, ⟨fun _ => ⟨rfl, rfl⟩, Nat.le_refl _, by omega⟩, fun e => absurd e h, fun _ => rfl, hb⟩
    have e1 : Rc.err v seq off ⟨kd, key, val, x⟩ = if Rc.chk v kd n n' x ≠ 0 then Rc.chk v kd n n' x else 2 := by
      unfold Rc.err
      rw [hc]
      by_cases h3 : Rc.chk v kd n n' x = 0
      · have h4 := h2.resolve_left fun e => e h3
        simp [h3, h4]
      · simp [h3]
    rw [e1]
/-- The errors of the two formats. -/
theorem err_two (seq off : Int) (r : Rc.Rec) : (Rc.err 1 seq off r = 0 → Rc.err 2 seq off r = 0) ∧ (Rc.err 1 seq off r ≠ 0 → Rc.err 2 seq off r = Rc.err 1 seq off r ∨ Rc.err 1 seq off r = 7) := by
  have hm : Rc.most 1 = 4294967295 ∧ Rc.most 2 = 1099511627775 := ⟨rfl, rfl⟩
  have key : (Rc.check 1 r = Rc.check 2 r) ∨ Rc.check 1 r = 7 := by
    unfold Rc.check Rc.chk
    rw [hm.1, hm.2, if_neg (show ¬ ((1 : Int) ≠ 1 ∧ (1 : Int) ≠ 2) by decide), if_neg (show ¬ ((2 : Int) ≠ 1 ∧ (2 : Int) ≠ 2) by decide)]
    (repeat' split) <;> first | exact .inl rfl | exact .inr rfl | contradiction | (exfalso; omega)
  have h7 : Rc.check 1 r = 7 → Rc.err 1 seq off r = 7 := fun h => by unfold Rc.err; rw [if_pos (by rw [h]; decide), h]
  have heq : Rc.check 1 r = Rc.check 2 r → Rc.err 2 seq off r = Rc.err 1 seq off r := fun h => by unfold Rc.err; rw [h]
  constructor
  · intro h
    rcases key with k | k
    · rw [heq k]; exact h
    · rw [h7 k] at h; cases h
  · intro _
    rcases key with k | k
    · exact .inl (heq k)
    · exact .inr (h7 k)
/-- A record's box, behind Short and the store of what it gave. -/
theorem sd_box {w w1 : World} {o : Obj} {a b c d : Value} {t : TypeId} (e : o = .cells #[a, b, c, d] t) (hb : Below (w.alloc o).heap.size (w.alloc o) w1) : Sd w w.heap.size (.cells #[a, b, c, d] t (0, 0)) w1 := by
  subst e
  exact ⟨boxed hb, ((Below.refl _ w).alloc (Nat.le_refl _) _).trans (hb.mono (by simp))⟩
end Go.Proofs.YtnadbokhcmbcaaaDoor
