/-
  The texts PkWords, Gate, PkPut, PkRows, FrRow, PkPad of this proof, one behind the other.
-/
import Derived.Test.YtgnbmmceffolmaaGreatDoorFoldC
import Derived.Test.YtgnbmmceffolmaaGreatDoorFoldD
import Derived.OrdersHeld
import Derived.RegionTactic
import Derived.Test.YtgnbmmceffolmaaGreatDoorFoldE
import Derived.OwnWalk
import Derived.Test.YtgnbmmceffolmaaGreatDoorFoldF
import Derived.Test.YtgnbmmceffolmaaGreatDoorFoldB
section
set_option maxRecDepth 100000
namespace Go.Proofs.YtgnbmmceffolmaaGreatDoor
open Go.RowKit
/-- A packer: its struct in the block g, its stream in a row of S. T: the program's type, or the reference's. -/
def PkIs (T : TypeId) (w : World) (S : Nat → Prop) (g : Nat) (a b c d slot seq : Int) (st : List Nat) (k : Nat) : Prop :=
  ∃ (A : Option Addr) (cp : Nat), w.heap[g]? = some (.cells #[.int .i64 a, .int .i64 b, .int .i64 c, .int .i64 d, .int .i64 slot, .int .i64 seq, .slice A st.length cp, .int .i64 (k : Int)] T (0, 0)) ∧ S g ∧
    SRow S 5 1 w (.slice A st.length cp) st.length (vals st) ∧ ∀ ad, A = some ad → ad.block ≠ g
section
variable {T : TypeId} {w w' : World} {S U : Nat → Prop} {g : Nat} {a b c d slot seq : Int} {st : List Nat} {k : Nat}
theorem PkIs.lt (h : PkIs T w S g a b c d slot seq st k) : g < w.heap.size := by
  obtain ⟨A, cp, h1, -⟩ := h
  exact (Array.getElem?_eq_some_iff.1 h1).1
theorem PkIs.has (h : PkIs T w S g a b c d slot seq st k) : S g := by
  obtain ⟨A, cp, -, h1, -⟩ := h
  exact h1
theorem PkIs.kept (h : PkIs T w S g a b c d slot seq st k) (hk : Kept U w w') (hd : ∀ b, b < w.heap.size → S b → ¬ U b) : PkIs T w' S g a b c d slot seq st k := by
  have hlt := h.lt
  obtain ⟨A, cp, h1, h2, h3, h4⟩ := h
  exact ⟨A, cp, (hk.block g hlt (hd g hlt h2)).trans h1, h2, h3.kept hk hd, h4⟩
theorem PkIs.new (h : PkIs T w S g a b c d slot seq st k) (hb : Below w.heap.size w w') : PkIs T w' S g a b c d slot seq st k :=
  h.kept (Kept.of_new (S := fun _ => False) hb) fun _ _ _ e => e
theorem PkIs.mono (h : PkIs T w S g a b c d slot seq st k) (hs : ∀ b, b < w.heap.size → S b → U b) : PkIs T w U g a b c d slot seq st k := by
  have hlt := h.lt
  obtain ⟨A, cp, h1, h2, h3, h4⟩ := h
  exact ⟨A, cp, h1, hs g hlt h2, h3.mono hs, h4⟩
theorem PkIs.heap (h : PkIs T w S g a b c d slot seq st k) (e : w'.heap = w.heap) : PkIs T w' S g a b c d slot seq st k := by
  obtain ⟨A, cp, h1, h2, h3, h4⟩ := h
  exact ⟨A, cp, by rw [e]; exact h1, h2, ⟨ownsRow_block h3.1 fun b _ => by rw [e], h3.2⟩, h4⟩
end
theorem pk8 {w : World} {g : Nat} {a0 a1 a2 a3 a4 a5 a6 a7 : Value} {t : TypeId} (h : w.heap[g]? = some (.cells #[a0, a1, a2, a3, a4, a5, a6, a7] t (0, 0))) :
    w.cell? ⟨g, 0, none⟩ = some a0 ∧ w.cell? ⟨g, 1, none⟩ = some a1 ∧ w.cell? ⟨g, 2, none⟩ = some a2 ∧ w.cell? ⟨g, 3, none⟩ = some a3 ∧ w.cell? ⟨g, 4, none⟩ = some a4 ∧ w.cell? ⟨g, 5, none⟩ = some a5 ∧ w.cell? ⟨g, 6, none⟩ = some a6 ∧ w.cell? ⟨g, 7, none⟩ = some a7 := by
  refine ⟨?_, ?_, ?_, ?_, ?_, ?_, ?_, ?_⟩
  · rw [cell_of_row w g 0 _ t (0, 0) h]; rfl
  · rw [cell_of_row w g 1 _ t (0, 0) h]; rfl
  · rw [cell_of_row w g 2 _ t (0, 0) h]; rfl
  · rw [cell_of_row w g 3 _ t (0, 0) h]; rfl
  · rw [cell_of_row w g 4 _ t (0, 0) h]; rfl
  · rw [cell_of_row w g 5 _ t (0, 0) h]; rfl
  · rw [cell_of_row w g 6 _ t (0, 0) h]; rfl
  · rw [cell_of_row w g 7 _ t (0, 0) h]; rfl
theorem pk8f {w : World} {g : Nat} {a0 a1 a2 a3 a4 a5 a6 a7 : Value} {t : TypeId} (h : w.heap[g]? = some (.cells #[a0, a1, a2, a3, a4, a5, a6, a7] t (0, 0))) : w.frozen? ⟨g, 6, none⟩ = false ∧ w.frozen? ⟨g, 7, none⟩ = false :=
  ⟨frozen_of_row w g 6 _ t h, frozen_of_row w g 7 _ t h⟩
theorem pks8 {w W : World} {g : Nat} {a0 a1 a2 a3 a4 a5 a6 a7 : Value} {t : TypeId} (h : Sd w g (.cells #[a0, a1, a2, a3, a4, a5, a6, a7] t (0, 0)) W) :
    W.cell? ⟨g, 0, none⟩ = some a0 ∧ W.cell? ⟨g, 1, none⟩ = some a1 ∧ W.cell? ⟨g, 2, none⟩ = some a2 ∧ W.cell? ⟨g, 3, none⟩ = some a3 ∧ W.cell? ⟨g, 4, none⟩ = some a4 ∧ W.cell? ⟨g, 5, none⟩ = some a5 ∧ W.cell? ⟨g, 6, none⟩ = some a6 ∧ W.cell? ⟨g, 7, none⟩ = some a7 := pk8 h.1
theorem sd_here {w : World} {g : Nat} {o : Obj} (h : w.heap[g]? = some o) : Sd w g o w := ⟨h, Below.refl _ _⟩
/-- The blocks that a slice's value owns. -/
def Own (v : Value) (k : Nat) : Prop := v.ownBlock = some k
theorem SRow.self {S : Nat → Prop} {t : TypeId} {z n : Nat} {w : World} {v : Value} {xs : List Value} (h : SRow S t z w v n xs) : SRow (Own v) t z w v n xs := ⟨h.1, fun _ e => e⟩
/-- 'append(out, xs...)' at bytes, the operation alone. -/
theorem op_append_sbytes {w : World} {S : Nat → Prop} {o : Oper} {a : Act} {K : Act → World → Prop} {Q : Exit → Act → World → Prop} (s x : Operand)
    (ho : o.op = .call { callee := .builtin .append, args := #[s, x], argTypes := #[27, 27] })
    (v : Value) (n : Nat) (xs : List Nat) (hs : a.eval s = v) (hown : SRow S 5 1 w v n (vals xs)) (A : Option Addr) (B m c : Nat) (news : List Nat) (hx : a.eval x = .slice A m c) (hsl : SlIs A m c) (hl : news.length = m) (hb : Bs w B A news) (h63 : n + m ≤ 1000000)
    (h : ∀ v' w', SRow (Grow S w) 5 1 w' v' (n + m) (vals (xs ++ news)) → Kept S w w' → K (a.put o.dst v') w') : o.wp Tryz.prog a w K Q :=
  op_append_srow s x 27 ho 5 (.int .u8 0) 1 1 Tryz.underlying27 info_byte rfl (by decide) v n (vals xs) hs hown A m c (vals news) hx (fun e => ⟨(hsl.1 e).2, (hsl.1 e).1⟩) (by rw [vals_length, hl, Nat.mul_one]) (fun ad e => by subst e; exact hb.cells) (vals_one _) (by unfold maxLen; omega) (by omega) fun v' w' h1 h2 => h v' w' (by rw [vals_append]; exact h1) h2
/-- 'append(out, xs...)' at bytes. -/
theorem append_sbytes {w : World} {S : Nat → Prop} {ops : Array Oper} {rest : List Oper} {o : Oper} {a : Act} {Q : Exit → Act → World → Prop} (hgd : Region.wanted o (yielded ops a.tmps) = true) (s x : Operand)
    (ho : o.op = .call { callee := .builtin .append, args := #[s, x], argTypes := #[27, 27] })
    (v : Value) (n : Nat) (xs : List Nat) (hs : a.eval s = v) (hown : SRow S 5 1 w v n (vals xs)) (A : Option Addr) (B m c : Nat) (news : List Nat) (hx : a.eval x = .slice A m c) (hsl : SlIs A m c) (hl : news.length = m) (hb : Bs w B A news) (h63 : n + m ≤ 1000000)
    (h : ∀ v' w', SRow (Grow S w) 5 1 w' v' (n + m) (vals (xs ++ news)) → Kept S w w' → wpList Tryz.prog ops Q rest (a.put o.dst v') w') : wpList Tryz.prog ops Q (o :: rest) a w :=
  append_srow hgd s x 27 ho 5 (.int .u8 0) 1 1 Tryz.underlying27 info_byte rfl (by decide) v n (vals xs) hs hown A m c (vals news) hx (fun e => ⟨(hsl.1 e).2, (hsl.1 e).1⟩) (by rw [vals_length, hl, Nat.mul_one]) (fun ad e => by subst e; exact hb.cells) (vals_one _) (by unfold maxLen; omega) (by omega) fun v' w' h1 h2 => h v' w' (by rw [vals_append]; exact h1) h2
section
variable {w : World} {S : Nat → Prop} {g : Nat} {a b c d slot seq : Int} {st : List Nat} {k : Nat}
theorem pkroom_any (hp : Hid (PkIs 134 w S g a b c d slot seq st k)) (hf : Pk.Fit ⟨a, b, c, d⟩ slot seq st k) :
    Calls Tryz.prog 93 #[.pointer (some ⟨g, 0, none⟩)] w fun e w' => e = .returned (.int .i64 ((Pk.cap ⟨a, b, c, d⟩ : Int) - (st.length : Int))) ∧ Below w.heap.size w w' := by
  have CC : Hid (∀ W, Calls Tryz.prog 34 #[.agg #[.int .i64 a, .int .i64 b, .int .i64 c, .int .i64 d]] W fun r w' => r = .returned (.int .i64 (Pk.cap ⟨a, b, c, d⟩ : Int)) ∧ Below W.heap.size W w') := fun W => by
    rw [← (Pk.cap_eq hf.ok.1.1).1]
    exact gmcap_any a b c d W
  have h1 := (Pk.cap_eq hf.ok.1.1).2.2.1
  have h2 := hf.short
  generalize Pk.cap ⟨a, b, c, d⟩ = C at *
  obtain ⟨A, cp, hh, -⟩ := hp.out
  clear hp hf
  have HS0 := Lib.hid (sd_here hh)
  obtain ⟨z0, z1, z2, z3, z4, z5, z6, z7⟩ := pk8 hh
  have m1 : IntKind.i64.wrap ((C : Int) - (st.length : Int)) = (C : Int) - (st.length : Int) := by rw [IntKind.wrap_i64]; omega
  clear hh
  generalize st.length = n at *
  go_enter Tryz.func93, Tryz.ntmps93
  go_wp2_with fail
  go_region_held3 (fun W => W.cell? ⟨g, 0, none⟩ = some (.int .i64 a) ∧ W.cell? ⟨g, 1, none⟩ = some (.int .i64 b) ∧ W.cell? ⟨g, 2, none⟩ = some (.int .i64 c) ∧ W.cell? ⟨g, 3, none⟩ = some (.int .i64 d) ∧ W.cell? ⟨g, 4, none⟩ = some (.int .i64 slot) ∧ W.cell? ⟨g, 5, none⟩ = some (.int .i64 seq) ∧ W.cell? ⟨g, 6, none⟩ = some (.slice A n cp) ∧ W.cell? ⟨g, 7, none⟩ = some (.int .i64 (k : Int)))
    (first
      | go_keep
      | (revert HS1; intro HS1; with_reducible exact pks8 HS1.out))
    (first
      | (go_at_call 34; refine (CC.out _).mono ?_; rintro e w1 ⟨rfl, hb1⟩; have HS1 := Lib.hid (HS0.out.next hb1 (by rfl) (by rfl) (by rfl) (by rfl)); clear hb1))
  all_goals
    go_wp2
    go_ret
    first
      | exact ⟨rfl, HS1.out.2⟩
      | exact ⟨gm_int m1, HS1.out.2⟩
theorem SRow.box {S : Nat → Prop} {t : TypeId} {z n : Nat} {w : World} {v : Value} {xs : List Value} (h : SRow S t z w v n xs) (hn : 0 < n) : ∃ g c, v = .slice (some ⟨g, 0, none⟩) n c ∧ n ≤ c ∧ c ≤ maxLen := by
  rcases h.1.2 with ⟨_, rfl⟩ | ⟨g, cap, cur, e, _, _, h1, h2, _⟩
  · exact absurd hn (Nat.lt_irrefl _)
  · exact ⟨g, cap, e, h1, h2⟩
theorem SRow.bs {S : Nat → Prop} {t : TypeId} {n : Nat} {w : World} {A : Option Addr} {cp : Nat} {l : List Nat} (h : SRow S t 1 w (.slice A n cp) n (vals l)) (hlt : ∀ x ∈ l, x < 256) : Bs w w.heap.size A l := by
  obtain ⟨A', cap, e, hb, -⟩ := own_bytes h.1 hlt
  injection e with e1
  subst e1
  exact hb
theorem Bs.sub {w : World} {B g : Nat} {l : List Nat} (h : Bs w B (some ⟨g, 0, none⟩) l) (i n : Nat) : Bs w B (some ⟨g, i, none⟩) (Rc.sub l i n) := fun k hk => by
  unfold Rc.sub at hk ⊢
  rw [List.length_take, List.length_drop] at hk
  rw [getD_take _ _ _ (by omega), getD_drop]
  obtain ⟨h1, ad, e, h3, h4⟩ := h (i + k) (by omega)
  injection e with e
  subst e
  refine ⟨h1, _, rfl, h3, ?_⟩
  rw [arr_flat] at h4 ⊢
  rwa [Nat.zero_add] at h4
set_option maxHeartbeats 1000000 in
theorem pkframe_any (hp : Hid (PkIs 134 w S g a b c d slot seq st k)) (hf : Pk.Fit ⟨a, b, c, d⟩ slot seq st k) (i : Nat) (hi : i < Pk.full st) (x : Int) (hx : Hid (x = Pk.sec ⟨a, b, c, d⟩ slot i)) (ht : Hid (TabW w)) (hz : 0 < w.heap.size) :
    Calls Tryz.prog 112 #[.pointer (some ⟨g, 0, none⟩), .int .i64 x, .int .i64 (i : Int)] w fun e w' => ∃ A' c', e = .returned (.slice A' 64 c') ∧ w'.ownsRow w.heap.size 5 1 (.slice A' 64 c') 64 (vals (Pk.frame ⟨a, b, c, d⟩ slot seq st i)) ∧ Below w.heap.size w w' := by
  have hi2 := hi
  unfold Pk.full at hi2
  obtain ⟨A, cp, hh, -, hr, -⟩ := hp.out
  obtain ⟨gs, cc, e, hc1, hc2⟩ := hr.box (by omega)
  injection e with e1 e2 e3
  subst e1 e3
  have HS0 := Lib.hid (sd_here hh)
  obtain ⟨z0, z1, z2, z3, z4, z5, z6, z7⟩ := pk8 hh
  have h2 := hf.short
  unfold maxLen at hc2
  have m1 : wrap64 ((i : Int) * 59) = (i : Int) * 59 := by unfold wrap64; omega
  have m2 : wrap64 ((i : Int) + 1) = (i : Int) + 1 := by unfold wrap64; omega
  have m3 : wrap64 (((i : Int) + 1) * 59) = ((i : Int) + 1) * 59 := by unfold wrap64; omega
  have hcp : ¬ (cp = i * 59) := by omega
  have b1 : (0 : Int) ≤ (i : Int) * 59 := by omega
  have b2 : (i : Int) * 59 ≤ ((i : Int) + 1) * 59 := by omega
  have b3 : ((i : Int) + 1) * 59 ≤ (cp : Int) := by omega
  clear hh z0 z1 z2 z3 z4 z7
  go_enter Tryz.func112, Tryz.ntmps112
  go_wp2_with fail
  have hl := Pk.frame_part hf hi
  have hm := Pk.frame_may hf hi
  refine (frencode_any 2 seq x (some ⟨gs, i * 59, none⟩) w.heap.size _ _ (Rc.sub st (i * 59) 59) w (by have := hf.ok.2.2; omega) (Nat.le_refl _) ⟨(fun e => by cases e), by omega, by omega⟩ (by rw [hl.1]; omega) ((hr.bs hf.lt).sub _ _) ht.out hz).mono ?_
  rintro e w1 ⟨A', n', c', rfl, hs, h0, -, hb1⟩
  have he : Fr.err 2 seq x ((i + 1) * 59 - i * 59) = 0 := by
    unfold Fr.err
    rw [if_pos (by rw [hx.out]; exact hm), if_neg (by omega)]
  obtain ⟨rfl, hown⟩ := h0 he
  have HO := Lib.hid hown
  have HB1 := Lib.hid hb1
  clear hown hb1 hs h0
  rw [he]
  go_wp2
  go_ret
  refine ⟨A', c', rfl, ?_, HB1.out⟩
  unfold Pk.frame
  rw [← hx.out]
  exact HO.out
/-- The part of the stream that Bytes is asked for. -/
def Pk.part (st : List Nat) (off n : Int) : List Nat := if 0 ≤ off ∧ 0 ≤ n ∧ n ≤ (st.length : Int) - off then Rc.sub st off.toNat n.toNat else []
/-- What New leaves. -/
def PkNew (w : World) (a b c d slot seq : Int) (e : Ending) (w' : World) : Prop :=
  ∃ p, e = .returned (.tuple #[p, .int .i64 (Pk.may ⟨a, b, c, d⟩ slot seq)]) ∧ Below w.heap.size w w' ∧ (¬ Pk.ok ⟨a, b, c, d⟩ slot seq → p = .pointer none) ∧
    (Pk.ok ⟨a, b, c, d⟩ slot seq → ∃ g, p = .pointer (some ⟨g, 0, none⟩) ∧ w.heap.size ≤ g ∧ PkIs 134 w' (fun k => w.heap.size ≤ k) g a b c d slot seq [] 0)
set_option maxHeartbeats 1000000 in
theorem pknew_any (a b c d slot seq : Int) (w : World) :
    Calls Tryz.prog 59 #[.agg #[.int .i64 a, .int .i64 b, .int .i64 c, .int .i64 d], .int .i64 slot, .int .i64 seq] w (PkNew w a b c d slot seq) := by
  have CF := Lib.hid (fun W => sbform_any a b c d W)
  have C1 := Lib.hid (fun W => gmfirst_any a b c d slot W)
  have HS0 := Lib.hid (sd_new w #[.int .i64 a, .int .i64 b, .int .i64 c, .int .i64 d] 29)
  unfold PkNew
  by_cases hf : Sb.form ⟨a, b, c, d⟩
  · rw [decide_eq_true hf] at CF
    have hways : (¬ Pk.ok ⟨a, b, c, d⟩ slot seq ∧ (decide (Gm.first ⟨a, b, c, d⟩ slot < 0) = true ∨ decide (Gm.first ⟨a, b, c, d⟩ slot < 0) = false ∧ (decide (seq < 1) = true ∨ decide (seq < 1) = false ∧ decide (281474976710655 < seq) = true))) ∨ (Pk.ok ⟨a, b, c, d⟩ slot seq ∧ decide (Gm.first ⟨a, b, c, d⟩ slot < 0) = false ∧ decide (seq < 1) = false ∧ decide (281474976710655 < seq) = false) := by
      simp only [decide_eq_true_eq, decide_eq_false_iff_not]
      by_cases hh : Gm.has ⟨a, b, c, d⟩ slot
      · have h1 : Gm.first ⟨a, b, c, d⟩ slot = Gm.spot ⟨a, b, c, d⟩ slot := if_pos hh
        have h2 := Gm.spot_small hf hh.2.1 (Int.le_of_lt hh.2.2)
        have h3 : Gm.spot ⟨a, b, c, d⟩ slot = 74 + slot * c := rfl
        simp only at h2
        unfold Pk.ok
        rw [h1]
        by_cases h4 : 1 ≤ seq ∧ seq ≤ 281474976710655
        · exact .inr ⟨⟨hh, h4⟩, by omega, by omega, by omega⟩
        · exact .inl ⟨fun h => h4 h.2, .inr ⟨by omega, by omega⟩⟩
      · have h1 : Gm.first ⟨a, b, c, d⟩ slot = -1 := if_neg hh
        exact .inl ⟨fun h => hh h.1, .inl (by rw [h1]; omega)⟩
    rcases hways with ⟨hno, hw⟩ | ⟨hok, f1, f2, f3⟩
    · have he : Hid (Pk.may ⟨a, b, c, d⟩ slot seq = 2) := by show _ = _; unfold Pk.may; rw [if_pos hf, if_neg hno]
      rw [he.out]
      have HNO := Lib.hid hno
      clear he hf hno
      generalize Gm.first ⟨a, b, c, d⟩ slot = x at *
      rcases hw with f1 | ⟨f1, f2 | ⟨f2, f3⟩⟩
      all_goals
        go_enter Tryz.func59, Tryz.ntmps59
        go_upto_region 1 with fail
        generalize w.alloc (.cells #[.int .i64 a, .int .i64 b, .int .i64 c, .int .i64 d] 29) = w0 at *
        obtain ⟨z0, z1, z2, z3⟩ := four_cells HS0.out.1
        go_wp2_with fail
        refine (CF.out _).mono ?_
        rintro r w1 ⟨rfl, hb1⟩
        have HS1 := Lib.hid (HS0.out.next hb1 (by rfl) (by rfl) (by rfl) (by rfl))
        clear hb1
        obtain ⟨y0, y1, y2, y3⟩ := four_cells HS1.out.1
        go_wp2_with fail
        refine (C1.out _).mono ?_
        rintro r w2 ⟨rfl, hb2⟩
        have HS2 := Lib.hid (HS1.out.next hb2 (by rfl) (by rfl) (by rfl) (by rfl))
        clear hb2
        go_wp2_with fail
        go_ret2
        exact ⟨_, rfl, HS2.out.2, fun _ => rfl, fun h => absurd h HNO.out⟩
    · have he : Hid (Pk.may ⟨a, b, c, d⟩ slot seq = 0) := Pk.may_zero hok
      rw [he.out]
      have HOK := Lib.hid hok
      clear he hf hok
      generalize Gm.first ⟨a, b, c, d⟩ slot = x at *
      go_enter Tryz.func59, Tryz.ntmps59
      go_upto_region 1 with fail
      generalize w.alloc (.cells #[.int .i64 a, .int .i64 b, .int .i64 c, .int .i64 d] 29) = w0 at *
      obtain ⟨z0, z1, z2, z3⟩ := four_cells HS0.out.1
      go_wp2_with fail
      refine (CF.out _).mono ?_
      rintro r w1 ⟨rfl, hb1⟩
      have HS1 := Lib.hid (HS0.out.next hb1 (by rfl) (by rfl) (by rfl) (by rfl))
      clear hb1
      obtain ⟨y0, y1, y2, y3⟩ := four_cells HS1.out.1
      go_wp2_with fail
      refine (C1.out _).mono ?_
      rintro r w2 ⟨rfl, hb2⟩
      have HS2 := Lib.hid (HS1.out.next hb2 (by rfl) (by rfl) (by rfl) (by rfl))
      clear hb2
      obtain ⟨x0, x1, x2, x3⟩ := four_cells HS2.out.1
      go_wp2_with fail
      go_ret2
      have hs := HS2.out.2.size
      exact ⟨_, rfl, HS2.out.2.alloc hs _, fun h => absurd HOK.out h, fun _ => ⟨_, rfl, hs, none, 0, heap_alloc_new _ _, hs, SRow.nil, fun _ e => by cases e⟩⟩
  · have he : Hid (Pk.may ⟨a, b, c, d⟩ slot seq = 4) := by show _ = _; unfold Pk.may; rw [if_neg hf]
    rw [he.out]
    have HNO : Hid (¬ Pk.ok ⟨a, b, c, d⟩ slot seq) := fun h => hf h.1.1
    rw [decide_eq_false hf] at CF
    clear he hf
    go_enter Tryz.func59, Tryz.ntmps59
    go_upto_region 1 with fail
    generalize w.alloc (.cells #[.int .i64 a, .int .i64 b, .int .i64 c, .int .i64 d] 29) = w0 at *
    obtain ⟨z0, z1, z2, z3⟩ := four_cells HS0.out.1
    go_wp2_with fail
    refine (CF.out _).mono ?_
    rintro r w1 ⟨rfl, hb1⟩
    have HS1 := Lib.hid (HS0.out.next hb1 (by rfl) (by rfl) (by rfl) (by rfl))
    clear hb1
    go_wp2_with fail
    go_ret2
    exact ⟨_, rfl, HS1.out.2, fun _ => rfl, fun h => absurd h HNO.out⟩
end
end Go.Proofs.YtgnbmmceffolmaaGreatDoor
end
section
section
namespace Go.Proofs.YtgnbmmceffolmaaGreatDoor
open Go
section
variable {P : Program} {ops : Array Oper} {Q : Exit → Act → World → Prop} {md : Region.Mode} {k : Nat} {S : World → Prop}
/-- Every order from here on; S holds behind every operation until the gate k has come up. -/
def Gated (P : Program) (md : Region.Mode) (ops : Array Oper) (Q : Exit → Act → World → Prop) (k : Nat) (S : World → Prop) : Nat → Array Bool → Act → World → Prop
  | 0, ls, a, w => Region.ready md ops ls = [] ∧ Q .normal a w
  | n + 1, ls, a, w => (Region.ready md ops ls = [] → Q .normal a w) ∧
      ∀ i ∈ Region.ready md ops ls, wpOp P ops Q i (fun b u => ((ls.setIfInBounds i true).getD k true = false → S u) ∧ Gated P md ops Q k S n (ls.setIfInBounds i true) b u) a w
theorem Gated.any : ∀ {n : Nat} {ls : Array Bool} {a : Act} {w : World}, Gated P md ops Q k S n ls a w → wpAny P md ops Q n ls a w
  | 0, _, _, _, h => h
  | _ + 1, _, _, _, h => ⟨h.1, fun i hi => wpOp_mono (fun _ _ h' => h'.2.any) (h.2 i hi)⟩
/-- An operation taken first: R holds wherever it may still come up (I: of what has come up by then). -/
theorem Gated.first {i : Nat} {oi : Oper} {v : Value} {R : World → Prop} {I : Array Bool → Prop} (hi : ops[i]? = some oi) (hns : Region.noSelect ops = true)
    (hQ : ∀ c a w, Q (.panic c) (a.put oi.dst v) w → Q (.panic c) a w)
    (hI : ∀ ls j oj, j ∈ Region.ready md ops ls → ops[j]? = some oj → (∀ e ∈ oj.after, Region.binds md e = true → e.on ≠ i) → j ≠ i → I ls → I (ls.setIfInBounds j true))
    (hR : ∀ ls u, I ls → ((ls.setIfInBounds i true).getD k true = false → S u) → R u) (hki : k ≠ i) :
    ∀ (n : Nat) (ls : Array Bool) (a : Act) (w : World),
      (∀ j oj, ops[j]? = some oj → j ≠ i → ls.getD j true = false → (∀ e ∈ oj.after, Region.binds md e = true → e.on ≠ i) → oi.apart ops oj = true) →
      i ∈ Region.ready md ops ls → YieldsIf P ops R oi v a → R w → I ls → (ls.getD k true = false → S w) →
      Gated P md ops Q k S n (ls.setIfInBounds i true) (a.put oi.dst v) w → Gated P md ops Q k S (n + 1) ls a w := by
  intro n
  induction n with
  | zero =>
    intro ls a w _ hr hy hRw _ hSw H
    refine ⟨fun h => (by rw [h] at hr; cases hr), fun j hj => ?_⟩
    by_cases e : j = i
    · subst e
      exact hy.wpOp hi hRw ⟨fun h => hSw (by rw [getD_set_ne true (Ne.symm hki)] at h; exact h), H⟩
    · have := ready_mono hj e
      rw [H.1] at this
      cases this
  | succ n ih =>
    intro ls a w hfree hr hy hRw hIl hSw H
    refine ⟨fun h => (by rw [h] at hr; cases hr), fun j hj => ?_⟩
    by_cases e : j = i
    · subst e
      exact hy.wpOp hi hRw ⟨fun h => hSw (by rw [getD_set_ne true (Ne.symm hki)] at h; exact h), H⟩
    · have hrun := H.2 j (ready_mono hj e)
      obtain ⟨hun, oj, hoj, hwait⟩ := mem_ready.1 hj
      have hiun := (mem_ready.1 hr).1
      have hno : ∀ x ∈ oj.after, Region.binds md x = true → x.on ≠ i := fun x hx hb heq => by
        have h1 := hwait x hx hb
        rw [heq] at h1
        rcases Nat.lt_or_ge i ls.size with h' | h'
        · simp [h'] at hiun h1; rw [hiun] at h1; cases h1
        · simp [Array.getElem?_eq_none h'] at h1
      have hput := wpOp_putIf hoj (hfree j oj hoj e hun hno) (fun cs b => Region.noSelect_spec hns i oi cs b hi) (fun cs b => Region.noSelect_spec hns j oj cs b hoj) hQ hy hrun
      have hIj : I (ls.setIfInBounds j true) := hI ls j oj hj hoj hno e hIl
      have hcomm : (ls.setIfInBounds i true).setIfInBounds j true = (ls.setIfInBounds j true).setIfInBounds i true := Array.setIfInBounds_comm _ _ (Ne.symm e)
      refine wpOp_mono (fun b u h => ?_) hput
      obtain ⟨hyb, hSu, hrest⟩ := h
      rw [hcomm] at hSu hrest
      have hSu' : (ls.setIfInBounds j true).getD k true = false → S u := fun h => hSu (by rw [getD_set_ne true (Ne.symm hki)]; exact h)
      refine ⟨hSu', ih (ls.setIfInBounds j true) b u (fun q oq hq hqi hqu hqn => ?_) (ready_mono hr (Ne.symm e)) hyb (hR _ u hIj hSu) hIj hSu' hrest⟩
      refine hfree q oq hq hqi ?_ hqn
      by_cases hjq : j = q
      · subst hjq; exact hun
      · rw [getD_set_ne true hjq] at hqu; exact hqu
/-- One that looks at no memory. -/
theorem Gated.take {i : Nat} {oi : Oper} {v : Value} {d : Option Tmp} {n : Nat} {ls : Array Bool} {a : Act} {w : World} (hi : ops[i]? = some oi) (hd : oi.dst = d) (hns : Region.noSelect ops = true) (hf : Region.free md ops ls i = true) (hr : (Region.ready md ops ls).contains i = true)
    (hQ : ∀ c a w, Q (.panic c) (a.put d v) w → Q (.panic c) a w) (hki : (k == i) = false) (hS : ls.getD k true = false → S w) (hy : Region.wanted oi (yielded ops a.tmps) = true ∧ ∀ w, (execOp a.eval oi).run P w = .ok (.value v) w)
    (h : Gated P md ops Q k S n (ls.setIfInBounds i true) (a.put d v) w) : Gated P md ops Q k S (n + 1) ls a w := by
  subst hd
  exact Gated.first (R := fun _ => True) (I := fun _ => True) hi hns hQ (fun _ _ _ _ _ _ _ _ => trivial) (fun _ _ _ _ => trivial) (by simpa using hki) n ls a w (fun j oj => Region.free_spec hi hf j oj) (by simpa using hr) (.inl ⟨hy.1, fun w _ => hy.2 w⟩) trivial trivial hS h
/-- Does operation k wait for operation i? -/
def waitsFor (md : Region.Mode) (ops : Array Oper) (k i : Nat) : Bool := match ops[k]? with
  | some o => o.after.toList.any fun e => Region.binds md e && e.on == i
  | none => false
/-- A load that the gate waits for. -/
theorem Gated.load {i : Nat} {oi : Oper} {v : Value} {d : Option Tmp} {n : Nat} {ls : Array Bool} {a : Act} {w : World} (hi : ops[i]? = some oi) (hd : oi.dst = d) (hns : Region.noSelect ops = true) (hf : Region.free md ops ls i = true) (hr : (Region.ready md ops ls).contains i = true)
    (hQ : ∀ c a w, Q (.panic c) (a.put d v) w → Q (.panic c) a w) (hki : (k == i) = false) (hwk : waitsFor md ops k i = true) (hlk : ls.getD k true = false) (hS : S w) (hy : Region.wanted oi (yielded ops a.tmps) = true ∧ ∀ w, S w → (execOp a.eval oi).run P w = .ok (.value v) w)
    (h : Gated P md ops Q k S n (ls.setIfInBounds i true) (a.put d v) w) : Gated P md ops Q k S (n + 1) ls a w := by
  subst hd
  have hki' : k ≠ i := by simpa using hki
  refine Gated.first (R := S) (I := fun ls => ls.getD k true = false) hi hns hQ (fun ls j oj _ hoj hno _ h => ?_) (fun ls u h hu => hu (by rw [getD_set_ne true (Ne.symm hki')]; exact h)) hki' n ls a w (fun j oj => Region.free_spec hi hf j oj) (by simpa using hr) (.inl hy) hS hlk (fun _ => hS) h
  have hjk : j ≠ k := fun e => by
    subst e
    unfold waitsFor at hwk
    rw [hoj] at hwk
    obtain ⟨e, he, hb⟩ := List.any_eq_true.1 hwk
    simp only [Bool.and_eq_true, beq_iff_eq] at hb
    exact hno e (by simpa using he) hb.1 hb.2
  rw [getD_set_ne true hjk]; exact h
theorem waitsFor_spec {k i : Nat} {o : Oper} (h : waitsFor md ops k i = true) (ho : ops[k]? = some o) : ∃ e ∈ o.after, Region.binds md e = true ∧ e.on = i := by
  unfold waitsFor at h
  rw [ho] at h
  obtain ⟨e, he, hb⟩ := List.any_eq_true.1 h
  simp only [Bool.and_eq_true, beq_iff_eq] at hb
  exact ⟨e, by simpa using he, hb.1, hb.2⟩
/-- A load that m waits for, for which the gate waits. -/
theorem Gated.load2 {i : Nat} (m : Nat) {oi : Oper} {v : Value} {d : Option Tmp} {n : Nat} {ls : Array Bool} {a : Act} {w : World} (hi : ops[i]? = some oi) (hd : oi.dst = d) (hns : Region.noSelect ops = true) (hf : Region.free md ops ls i = true) (hr : (Region.ready md ops ls).contains i = true)
    (hQ : ∀ c a w, Q (.panic c) (a.put d v) w → Q (.panic c) a w) (hki : (k == i) = false) (hmi : (m == i) = false) (hkm : waitsFor md ops k m = true) (hwm : waitsFor md ops m i = true) (hlk : ls.getD k true = false) (hlm : ls.getD m true = false) (hS : S w) (hy : Region.wanted oi (yielded ops a.tmps) = true ∧ ∀ w, S w → (execOp a.eval oi).run P w = .ok (.value v) w)
    (h : Gated P md ops Q k S n (ls.setIfInBounds i true) (a.put d v) w) : Gated P md ops Q k S (n + 1) ls a w := by
  subst hd
  have hki' : k ≠ i := by simpa using hki
  refine Gated.first (R := S) (I := fun ls => ls.getD k true = false ∧ ls.getD m true = false) hi hns hQ (fun ls j oj hj hoj hno _ h => ?_) (fun ls u h hu => hu (by rw [getD_set_ne true (Ne.symm hki')]; exact h.1)) hki' n ls a w (fun j oj => Region.free_spec hi hf j oj) (by simpa using hr) (.inl hy) hS ⟨hlk, hlm⟩ (fun _ => hS) h
  have hjm : j ≠ m := fun e => by
    subst e
    obtain ⟨e, he, hb, h2⟩ := waitsFor_spec hwm hoj
    exact hno e he hb h2
  have hjk : j ≠ k := fun e => by
    subst e
    obtain ⟨e, he, hb, h2⟩ := waitsFor_spec hkm hoj
    obtain ⟨_, o2, ho2, hw⟩ := mem_ready.1 hj
    rw [hoj] at ho2
    injection ho2 with ho2
    subst ho2
    have h1 := hw e he hb
    rw [h2] at h1
    rcases Nat.lt_or_ge m ls.size with h' | h'
    · have h3 := h.2
      simp [h'] at h3 h1
      rw [h3] at h1
      cases h1
    · simp [Array.getElem?_eq_none h'] at h1
  rw [getD_set_ne true hjk, getD_set_ne true hjm]; exact h
/-- The one that may come up is carried out. -/
theorem Gated.step {i : Nat} {oi : Oper} {n : Nat} {ls : Array Bool} {a : Act} {w : World} (hi : ops[i]? = some oi) (hr : Region.ready md ops ls = [i]) (hk : (ls.setIfInBounds i true).getD k true = true) (hw : Region.wanted oi (yielded ops a.tmps) = true)
    (h : ∀ K : Act → World → Prop, (∀ b u, Gated P md ops Q k S n (ls.setIfInBounds i true) b u → K b u) → Oper.wp P oi a w K Q) : Gated P md ops Q k S (n + 1) ls a w := by
  refine ⟨fun e => (by rw [hr] at e; cases e), fun j hj => ?_⟩
  rw [hr] at hj
  obtain rfl : j = i := by simpa using hj
  refine wpOp_step hi fun K hK => ?_
  rw [if_pos hw]
  exact h K fun b u hb => hK b u ⟨fun e => (by rw [hk] at e; cases e), hb⟩
/-- The same ahead of the gate: the condition goes on. -/
theorem Gated.go {P : Program} {ops : Array Oper} {Q : Exit → Act → World → Prop} {md : Region.Mode} {k : Nat} {S : World → Prop} {i : Nat} {oi : Oper} {n : Nat} {ls : Array Bool} {a : Act} {w : World} (hi : ops[i]? = some oi) (hr : Region.ready md ops ls = [i]) (hw : Region.wanted oi (yielded ops a.tmps) = true)
    (h : ∀ K : Act → World → Prop, (∀ b u, S u → Gated P md ops Q k S n (ls.setIfInBounds i true) b u → K b u) → Oper.wp P oi a w K Q) : Gated P md ops Q k S (n + 1) ls a w := by
  refine ⟨fun e => (by rw [hr] at e; cases e), fun j hj => ?_⟩
  rw [hr] at hj
  obtain rfl : j = i := by simpa using hj
  refine wpOp_step hi fun K hK => ?_
  rw [if_pos hw]
  exact h K fun b u hS hb => hK b u ⟨fun _ => hS, hb⟩
theorem Gated.done {n : Nat} {ls : Array Bool} {a : Act} {w : World} (hr : Region.ready md ops ls = []) (h : Q .normal a w) : Gated P md ops Q k S n ls a w := by
  cases n with
  | zero => exact ⟨hr, h⟩
  | succ n => exact ⟨fun _ => h, by rw [hr]; simp⟩
theorem wp_region_gated {id : Nat} {a : Act} {w : World} (k : Nat) (S : World → Prop) (hm : P.follows .mixedOrders = true) (h : Gated P .any ops Q k S ops.size (Array.replicate ops.size false) a w.drew) : (Code.region id ops true).wp P Q a w :=
  wp_region_any hm h.any
end
end Go.Proofs.YtgnbmmceffolmaaGreatDoor
end
end
section
set_option maxRecDepth 100000
namespace Go.Proofs.YtgnbmmceffolmaaGreatDoor
open Go.RowKit
/-- What a record's value stands for: where its key and its value lie. -/
def RecIn (w : World) (B : Nat) (A1 A2 : Option Addr) (n1 c1 n2 c2 : Nat) (key val : List Nat) : Prop := (SlIs A1 n1 c1 ∧ key.length = n1 ∧ Bs w B A1 key) ∧ (SlIs A2 n2 c2 ∧ val.length = n2 ∧ Bs w B A2 val)
theorem RecIn.below {w w' : World} {B C : Nat} {A1 A2 : Option Addr} {n1 c1 n2 c2 : Nat} {key val : List Nat} (h : RecIn w B A1 A2 n1 c1 n2 c2 key val) (hb : Below C w w') (hB : B ≤ C) : RecIn w' B A1 A2 n1 c1 n2 c2 key val :=
  ⟨⟨h.1.1, h.1.2.1, h.1.2.2.below hb hB⟩, ⟨h.2.1, h.2.2.1, h.2.2.2.below hb hB⟩⟩
/-- What Put leaves. -/
def PkPut (T : TypeId) (w : World) (S : Nat → Prop) (g : Nat) (a b c d slot seq : Int) (st : List Nat) (k : Nat) (r : Rc.Rec) (e : Ending) (w' : World) : Prop :=
  e = .returned (.tuple #[.int .i64 (if Pk.err ⟨a, b, c, d⟩ st r = 0 then (st.length : Int) else 0), .int .i64 (if Pk.err ⟨a, b, c, d⟩ st r = 0 then (Rc.len r : Int) else 0), .int .i64 (Pk.err ⟨a, b, c, d⟩ st r)]) ∧
    PkIs T w' (Grow S w) g a b c d slot seq (Pk.put ⟨a, b, c, d⟩ seq st r) k ∧ Kept S w w'
/-- Nothing was put. -/
theorem pkput_no {T : TypeId} {w w' : World} {S : Nat → Prop} {g : Nat} {a b c d slot seq : Int} {st : List Nat} {k : Nat} {r : Rc.Rec} {x : Int} (hp : PkIs T w S g a b c d slot seq st k) (hb : Below w.heap.size w w') (he : Pk.err ⟨a, b, c, d⟩ st r = x) (hx : x ≠ 0) :
    PkPut T w S g a b c d slot seq st k r (.returned (.tuple #[.int .i64 0, .int .i64 0, .int .i64 x])) w' := by
  subst he
  unfold PkPut
  rw [if_neg hx, if_neg hx, Pk.put_no hx]
  exact ⟨rfl, (hp.new hb).mono fun k _ h => .inl h, Kept.of_new hb⟩
theorem own_keeps {w1 w2 : World} {g q cp : Nat} {A : Option Addr} {o : Obj} (h1 : w1.heap[g]? = some o) (hne : ∀ ad, A = some ad → ad.block ≠ g) (hk : Kept (Own (.slice A q cp)) w1 w2) : w2.heap[g]? = some o :=
  (hk.block g (Array.getElem?_eq_some_iff.1 h1).1 fun e => by
    cases A with
    | none => cases e
    | some ad => exact hne ad rfl (by unfold Own at e; injection e)).trans h1
/-- The stream has grown, and lies in the struct. -/
theorem pk_grown {T : TypeId} {w w1 w2 : World} {S : Nat → Prop} {g : Nat} {a b c d slot seq : Int} {st st' : List Nat} {k q n' cp cp' : Nat} {A A' : Option Addr}
    (h1 : w1.heap[g]? = some (.cells #[.int .i64 a, .int .i64 b, .int .i64 c, .int .i64 d, .int .i64 slot, .int .i64 seq, .slice A q cp, .int .i64 (k : Int)] T (0, 0))) (hg : S g) (hr : SRow S 5 1 w1 (.slice A q cp) q (vals st)) (hne : ∀ ad, A = some ad → ad.block ≠ g)
    (hr' : SRow (Grow (Own (.slice A q cp)) w1) 5 1 w2 (.slice A' n' cp') n' (vals st')) (hk : Kept (Own (.slice A q cp)) w1 w2) (hb : Below w.heap.size w w1) :
    PkIs T (w2.setCell ⟨g, 6, none⟩ (.slice A' n' cp')) (Grow S w) g a b c d slot seq st' k ∧ Kept S w (w2.setCell ⟨g, 6, none⟩ (.slice A' n' cp')) := by
  have hn : st'.length = n' := by have := hr'.1.1; rw [vals_length] at this; omega
  subst hn
  have hlt := (Array.getElem?_eq_some_iff.1 h1).1
  have hno : ¬ (Value.slice A q cp).ownBlock = some g := fun e => by
    cases A with
    | none => cases e
    | some ad => exact hne ad rfl (by injection e)
  have h2 := (hk.block g hlt hno).trans h1
  have hne' : ∀ ad, A' = some ad → ad.block ≠ g := fun ad e => by
    subst e
    rcases hr'.2 ad.block rfl with h | h
    · exact fun e => hno (e ▸ h)
    · omega
  have K1 : Kept (fun k => k = g) w2 (w2.setCell ⟨g, 6, none⟩ (.slice A' st'.length cp')) := Kept.setCell (S := fun k => k = g) w2 ⟨g, 6, none⟩ _ rfl
  refine ⟨⟨A', cp', ?_, .inl hg, ?_, hne'⟩, ?_⟩
  · simp [World.setCell, Array.getElem?_modify, h2]
  · refine ⟨ownsRow_block hr'.1 fun k e => K1.block k (hr'.lt e) fun e' => ?_, fun k e => ?_⟩
    · cases A' with
      | none => cases e
      | some ad => exact hne' ad rfl (by injection e with e; rw [e, e'])
    · rcases hr'.2 k e with h | h
      · exact .inl (hr.2 k h)
      · have := hb.size; exact .inr (by omega)
  · exact (Kept.of_new hb).trans' ((hk.mono fun k _ h => hr.2 k h).trans (K1.mono fun k _ h => h ▸ hg)) fun i h _ => h
section
variable {w : World} {S : Nat → Prop} {g : Nat} {a b c d slot seq : Int} {st : List Nat} {k : Nat}
set_option maxHeartbeats 2000000 in
theorem pkput_any (kd x : Int) (key val : List Nat) (A1 A2 : Option Addr) (B n1 c1 n2 c2 : Nat) (hB : B ≤ w.heap.size) (hi : Hid (RecIn w B A1 A2 n1 c1 n2 c2 key val)) (hp : Hid (PkIs 134 w S g a b c d slot seq st k)) (hf : Pk.Fit ⟨a, b, c, d⟩ slot seq st k) (ht : Hid (TabW w)) (hz : 0 < w.heap.size) :
    Calls Tryz.prog 61 #[.pointer (some ⟨g, 0, none⟩), .agg #[.int .i64 kd, .slice A1 n1 c1, .slice A2 n2 c2, .int .i64 x]] w (PkPut 134 w S g a b c d slot seq st k ⟨kd, key, val, x⟩) := by
  have hlen : key.length = n1 ∧ val.length = n2 := ⟨hi.out.1.2.1, hi.out.2.2.1⟩
  have hplace := Pk.place_ok hf
  have hsq := hf.ok.2.2
  have HF := Lib.hid hf
  have h120 := hf.short
  have hC := (Pk.cap_eq hf.ok.1.1).2.2.1
  obtain ⟨A, cp, hh, hg, hr, hne⟩ := hp.out
  have HB0 : Hid (Below w.heap.size w (w.alloc (.cells #[.int .i64 kd, .slice A1 n1 c1, .slice A2 n2 c2, .int .i64 x] 55))) := (Below.refl _ w).alloc (Nat.le_refl _) _
  have HS0 : Hid (Sd w g _ (w.alloc (.cells #[.int .i64 kd, .slice A1 n1 c1, .slice A2 n2 c2, .int .i64 x] 55))) := ⟨(HB0.out.block g (Array.getElem?_eq_some_iff.1 hh).1).trans hh, HB0.out⟩
  have HT0 : Hid (TabW (w.alloc (.cells #[.int .i64 kd, .slice A1 n1 c1, .slice A2 n2 c2, .int .i64 x] 55))) := ht.out.below HB0.out hz
  have HI0 : Hid (RecIn (w.alloc (.cells #[.int .i64 kd, .slice A1 n1 c1, .slice A2 n2 c2, .int .i64 x] 55)) B A1 A2 n1 c1 n2 c2 key val) := hi.out.below HB0.out hB
  have HX0 : Hid (Sd w w.heap.size _ (w.alloc (.cells #[.int .i64 kd, .slice A1 n1 c1, .slice A2 n2 c2, .int .i64 x] 55))) := sd_new _ _ _
  have HZ0 : Hid (0 < (w.alloc (.cells #[.int .i64 kd, .slice A1 n1 c1, .slice A2 n2 c2, .int .i64 x] 55)).heap.size) := Nat.lt_of_lt_of_le hz HB0.out.size
  have HZB : Hid (B ≤ (w.alloc (.cells #[.int .i64 kd, .slice A1 n1 c1, .slice A2 n2 c2, .int .i64 x] 55)).heap.size) := Nat.le_trans hB HB0.out.size
  obtain ⟨z0, z1, z2, z3, z4, z5, z6, z7⟩ := pk8 hh
  have HG := Lib.hid (And.intro hg (And.intro hr hne))
  clear hh hg hr hne
  by_cases hck : Rc.check b ⟨kd, key, val, x⟩ = 0
  · have CE : Hid (∀ w0, TabW w0 → RecIn w0 B A1 A2 n1 c1 n2 c2 key val → B ≤ w0.heap.size → 0 < w0.heap.size → ∀ W, W.heap = w0.heap → W.os = w0.os → W.tape = w0.tape → W.output = w0.output → Calls Tryz.prog 68 #[.int .i64 b, .int .i64 seq, .int .i64 (st.length : Int), .agg #[.int .i64 kd, .slice A1 n1 c1, .slice A2 n2 c2, .int .i64 x]] W (Encoded W (Rc.enc b seq (st.length : Int) ⟨kd, key, val, x⟩))) := fun w0 h1 h2 h3 h4 W e1 _ _ _ =>
      encode_ok b seq (st.length : Int) kd x key val A1 B n1 c1 A2 n2 c2 W hck hplace (by rw [e1]; exact h3) (by omega) ⟨h2.1.1, h2.1.2.1, fun k hk => (fun h => ⟨h.1, h.2.choose, h.2.choose_spec.1, h.2.choose_spec.2.1, (World.cell?_of_block (by rw [e1])).trans h.2.choose_spec.2.2⟩) (h2.1.2.2 k hk)⟩ ⟨h2.2.1, h2.2.2.1, fun k hk => (fun h => ⟨h.1, h.2.choose, h.2.choose_spec.1, h.2.choose_spec.2.1, (World.cell?_of_block (by rw [e1])).trans h.2.choose_spec.2.2⟩) (h2.2.2.2 k hk)⟩ (fun k hk => (World.cell?_of_block (by rw [e1])).trans (h1 k hk)) (by rw [e1]; exact h4)
    have HEL : Hid ((Rc.enc b seq (st.length : Int) ⟨kd, key, val, x⟩).length = 16 + n1 + n2) := by
      show _ = _
      rw [Rc.enc_length]; unfold Rc.len; simp only; rw [hlen.1, hlen.2]
    have HELT : Hid (∀ y ∈ Rc.enc b seq (st.length : Int) ⟨kd, key, val, x⟩, y < 256) := Rc.enc_lt _ _ _ _ hi.out.1.2.2.lt hi.out.2.2.2.lt
    have HLEN : Hid (Rc.len ⟨kd, key, val, x⟩ = 16 + n1 + n2) := by show _ = _; unfold Rc.len; simp only; rw [hlen.1, hlen.2]
    have hsmall : n1 ≤ 255 ∧ n2 ≤ 65536 := by
      have := Rc.chk_ok hck
      simp only at this
      omega
    generalize hen : Rc.enc b seq (st.length : Int) ⟨kd, key, val, x⟩ = en at CE HEL HELT
    have HEN := Lib.hid hen; clear hen
    by_cases hfit : Pk.cap ⟨a, b, c, d⟩ < st.length + (16 + n1 + n2)
    · have HERR : Hid (Pk.err ⟨a, b, c, d⟩ st ⟨kd, key, val, x⟩ = 8) := by
        show _ = _
        unfold Pk.err
        rw [if_neg (Decidable.not_not.2 hck), HLEN.out, if_pos hfit]
      obtain ⟨m, hm⟩ : ∃ m, m = 16 + n1 + n2 := ⟨_, rfl⟩
      have HMV : Hid (Rc.len ⟨kd, key, val, x⟩ = m) := by show _ = _; rw [HLEN.out, hm]
      have HM : Hid (en.length = m) := by show _ = _; rw [HEL.out, hm]
      have hms : m ≤ 65807 := by omega
      have m1 : decide ((Pk.cap ⟨a, b, c, d⟩ : Int) - (st.length : Int) < (m : Int)) = true := by simp only [decide_eq_true_eq]; omega
      have CR : Hid (∀ W, Below w.heap.size w W → Calls Tryz.prog 93 #[.pointer (some ⟨g, 0, none⟩)] W fun e w' => e = .returned (.int .i64 ((Pk.cap ⟨a, b, c, d⟩ : Int) - (st.length : Int))) ∧ Below W.heap.size W w') := fun W hb => pkroom_any (Lib.hid (hp.out.new hb)) HF.out
      clear hck hlen hplace hfit hf hm HEL HLEN
      generalize Pk.cap ⟨a, b, c, d⟩ = C at *
      generalize hq : st.length = q at *
      have HQ := Lib.hid hq; clear hq
      go_enter Tryz.func61, Tryz.ntmps61
      go_upto_region 1 with fail
      generalize w.alloc (.cells #[.int .i64 kd, .slice A1 n1 c1, .slice A2 n2 c2, .int .i64 x] 55) = w0 at *
      clear z0 z1 z2 z3 z4 z5 z6 z7
      obtain ⟨z0, z1, z2, z3, z4, z5, z6, z7⟩ := pks8 HS0.out
      obtain ⟨y0, y1, y2, y3⟩ := four_cells HX0.out.1
      have CE0 := Lib.hid (CE.out w0 HT0.out HI0.out HZB.out HZ0.out)
      go_wp2_with fail
      go_region_held3 (fun W => (W.cell? ⟨g, 0, none⟩ = some (.int .i64 a) ∧ W.cell? ⟨g, 1, none⟩ = some (.int .i64 b) ∧ W.cell? ⟨g, 2, none⟩ = some (.int .i64 c) ∧ W.cell? ⟨g, 3, none⟩ = some (.int .i64 d) ∧ W.cell? ⟨g, 4, none⟩ = some (.int .i64 slot) ∧ W.cell? ⟨g, 5, none⟩ = some (.int .i64 seq) ∧ W.cell? ⟨g, 6, none⟩ = some (.slice A q cp) ∧ W.cell? ⟨g, 7, none⟩ = some (.int .i64 (k : Int))) ∧ W.cell? ⟨w.heap.size, 0, none⟩ = some (.int .i64 kd) ∧ W.cell? ⟨w.heap.size, 1, none⟩ = some (.slice A1 n1 c1) ∧ W.cell? ⟨w.heap.size, 2, none⟩ = some (.slice A2 n2 c2) ∧ W.cell? ⟨w.heap.size, 3, none⟩ = some (.int .i64 x))
        (first
          | go_keep
          | (revert HS1 HX1; intro HS1 HX1; with_reducible exact ⟨pks8 HS1.out, sd_cells4 HX1.out⟩))
        (first
          | (go_at_call 68; refine (CE0.out _ (by rfl) (by rfl) (by rfl) (by rfl)).mono ?_; rintro e w1 ⟨v1, rfl, hown, hb1⟩; obtain ⟨A3, c3, rfl, hbs3, hl3, hn3, hm3, ho3⟩ := own_bytes hown HELT.out; have HBS := Lib.hid hbs3; have HSL : Hid (SlIs A3 en.length c3) := sl_own hn3 hm3 ho3; have HS1 := Lib.hid (HS0.out.next hb1 (by rfl) (by rfl) (by rfl) (by rfl)); have HX1 := Lib.hid (HX0.out.next hb1 (by rfl) (by rfl) (by rfl) (by rfl)); clear hb1 hbs3 hl3 hn3 hm3 ho3 hown))
      all_goals
        rw [HM.out] at HSL
        rw [HM.out]
        go_wp2_with fail
        refine (CR.out _ HS1.out.2).mono ?_
        rintro e w2 ⟨rfl, hb2⟩
        have HS2 := Lib.hid (HS1.out.next hb2 (by rfl) (by rfl) (by rfl) (by rfl))
        clear hb2
        go_wp2
        go_ret3
        exact pkput_no hp.out HS2.out.2 HERR.out (by decide)
    · have HERR : Hid (Pk.err ⟨a, b, c, d⟩ st ⟨kd, key, val, x⟩ = 0) := by
        show _ = _
        unfold Pk.err
        rw [if_neg (Decidable.not_not.2 hck), HLEN.out, if_neg hfit]
      have HPUT : Hid (Pk.put ⟨a, b, c, d⟩ seq st ⟨kd, key, val, x⟩ = st ++ en) := by
        show _ = _
        rw [Pk.put_ok HERR.out, HEN.out]
      obtain ⟨m, hm⟩ : ∃ m, m = 16 + n1 + n2 := ⟨_, rfl⟩
      have HMV : Hid (Rc.len ⟨kd, key, val, x⟩ = m) := by show _ = _; rw [HLEN.out, hm]
      have HM : Hid (en.length = m) := by show _ = _; rw [HEL.out, hm]
      have hms : m ≤ 65807 := by omega
      have m1 : decide ((Pk.cap ⟨a, b, c, d⟩ : Int) - (st.length : Int) < (m : Int)) = false := by simp only [decide_eq_false_iff_not]; omega
      have CR : Hid (∀ W, Below w.heap.size w W → Calls Tryz.prog 93 #[.pointer (some ⟨g, 0, none⟩)] W fun e w' => e = .returned (.int .i64 ((Pk.cap ⟨a, b, c, d⟩ : Int) - (st.length : Int))) ∧ Below W.heap.size W w') := fun W hb => pkroom_any (Lib.hid (hp.out.new hb)) HF.out
      clear hck hlen hplace hfit hf hm HEL HLEN
      generalize Pk.cap ⟨a, b, c, d⟩ = C at *
      generalize hq : st.length = q at *
      have HQ := Lib.hid hq; clear hq
      go_enter Tryz.func61, Tryz.ntmps61
      go_upto_region 1 with fail
      generalize w.alloc (.cells #[.int .i64 kd, .slice A1 n1 c1, .slice A2 n2 c2, .int .i64 x] 55) = w0 at *
      clear z0 z1 z2 z3 z4 z5 z6 z7
      obtain ⟨z0, z1, z2, z3, z4, z5, z6, z7⟩ := pks8 HS0.out
      obtain ⟨y0, y1, y2, y3⟩ := four_cells HX0.out.1
      have CE0 := Lib.hid (CE.out w0 HT0.out HI0.out HZB.out HZ0.out)
      go_wp2_with fail
      go_region_held3 (fun W => (W.cell? ⟨g, 0, none⟩ = some (.int .i64 a) ∧ W.cell? ⟨g, 1, none⟩ = some (.int .i64 b) ∧ W.cell? ⟨g, 2, none⟩ = some (.int .i64 c) ∧ W.cell? ⟨g, 3, none⟩ = some (.int .i64 d) ∧ W.cell? ⟨g, 4, none⟩ = some (.int .i64 slot) ∧ W.cell? ⟨g, 5, none⟩ = some (.int .i64 seq) ∧ W.cell? ⟨g, 6, none⟩ = some (.slice A q cp) ∧ W.cell? ⟨g, 7, none⟩ = some (.int .i64 (k : Int))) ∧ W.cell? ⟨w.heap.size, 0, none⟩ = some (.int .i64 kd) ∧ W.cell? ⟨w.heap.size, 1, none⟩ = some (.slice A1 n1 c1) ∧ W.cell? ⟨w.heap.size, 2, none⟩ = some (.slice A2 n2 c2) ∧ W.cell? ⟨w.heap.size, 3, none⟩ = some (.int .i64 x))
        (first
          | go_keep
          | (revert HS1 HX1; intro HS1 HX1; with_reducible exact ⟨pks8 HS1.out, sd_cells4 HX1.out⟩))
        (first
          | (go_at_call 68; refine (CE0.out _ (by rfl) (by rfl) (by rfl) (by rfl)).mono ?_; rintro e w1 ⟨v1, rfl, hown, hb1⟩; obtain ⟨A3, c3, rfl, hbs3, hl3, hn3, hm3, ho3⟩ := own_bytes hown HELT.out; have HBS := Lib.hid hbs3; have HSL : Hid (SlIs A3 en.length c3) := sl_own hn3 hm3 ho3; have HS1 := Lib.hid (HS0.out.next hb1 (by rfl) (by rfl) (by rfl) (by rfl)); have HX1 := Lib.hid (HX0.out.next hb1 (by rfl) (by rfl) (by rfl) (by rfl)); clear hb1 hbs3 hl3 hn3 hm3 ho3 hown))
      all_goals
        rw [HM.out] at HSL
        rw [HM.out]
        go_wp2_with fail
        refine (CR.out _ HS1.out.2).mono ?_
        rintro e w2 ⟨rfl, hb2⟩
        have HS2 := Lib.hid (HS1.out.next hb2 (by rfl) (by rfl) (by rfl) (by rfl))
        have HBS2 := Lib.hid (HBS.out.below hb2 (Nat.le_refl _))
        clear hb2
        clear z0 z1 z2 z3 z4 z5 z6 z7
        obtain ⟨z0, z1, z2, z3, z4, z5, z6, z7⟩ := pks8 HS2.out
        have HR2 := Lib.hid (((HG.out.2.1).new HS2.out.2).self)
        go_wp2_with (at_builtin; refine append_sbytes rfl (.tmp 42) (.tmp 43) rfl _ q st rfl HR2.out A3 w1.heap.size m c3 en rfl HSL.out HM.out HBS2.out (by omega) ?_; intro v4 w4 hr4 hk4; obtain ⟨A4, c4, rfl, hs4⟩ := hr4.open_; have HH4 := Lib.hid (own_keeps HS2.out.1 HG.out.2.2 hk4); have HR4 := Lib.hid hr4; have HK4 := Lib.hid hk4; clear hr4 hk4 hs4; clear z0 z1 z2 z3 z4 z5 z6 z7; obtain ⟨-, -, -, -, -, -, z6, -⟩ := pk8 HH4.out; obtain ⟨f6, -⟩ := pk8f HH4.out)
        have HFIN := Lib.hid (pk_grown HS2.out.1 HG.out.1 (HG.out.2.1.new HS2.out.2) HG.out.2.2 HR4.out HK4.out HS2.out.2)
        clear z6 f6
        generalize w4.setCell ⟨g, 6, none⟩ (.slice A4 (q + m) c4) = w5 at *
        go_wp2
        go_ret3
        unfold PkPut
        rw [HERR.out, if_pos rfl, if_pos rfl, HMV.out, HPUT.out, HQ.out]
        exact ⟨rfl, HFIN.out⟩
  · have HERR : Hid (Pk.err ⟨a, b, c, d⟩ st ⟨kd, key, val, x⟩ = Rc.check b ⟨kd, key, val, x⟩) := by
      show _ = _
      unfold Pk.err
      rw [if_pos hck]
    have hce : Rc.check b ⟨kd, key, val, x⟩ = Rc.chk b kd n1 n2 x := by unfold Rc.check; simp only; rw [hlen.1, hlen.2]
    rw [hce] at HERR hck
    have CE : Hid (∀ W, Calls Tryz.prog 68 #[.int .i64 b, .int .i64 seq, .int .i64 (st.length : Int), .agg #[.int .i64 kd, .slice A1 n1 c1, .slice A2 n2 c2, .int .i64 x]] W fun e w' => e = .returned (.tuple #[.slice none 0 0, .int .i64 (Rc.chk b kd n1 n2 x)]) ∧ Below W.heap.size W w') := fun W => by
      have := encode_bad b seq (st.length : Int) kd x A1 n1 c1 A2 n2 c2 W (.inl hck)
      rwa [if_pos hck] at this
    have HNE := Lib.hid hck
    have f1 : (Rc.chk b kd n1 n2 x != 0) = true := by rw [bne_iff_ne]; exact hck
    clear hck hce hlen hplace
    generalize Rc.chk b kd n1 n2 x = y at *
    generalize hq : st.length = q at *
    have HQ := Lib.hid hq; clear hq
    go_enter Tryz.func61, Tryz.ntmps61
    go_upto_region 1 with fail
    generalize w.alloc (.cells #[.int .i64 kd, .slice A1 n1 c1, .slice A2 n2 c2, .int .i64 x] 55) = w0 at *
    clear z0 z1 z2 z3 z4 z5 z6 z7
    obtain ⟨z0, z1, z2, z3, z4, z5, z6, z7⟩ := pks8 HS0.out
    obtain ⟨y0, y1, y2, y3⟩ := four_cells HX0.out.1
    go_wp2_with fail
    go_region_held3 (fun W => (W.cell? ⟨g, 0, none⟩ = some (.int .i64 a) ∧ W.cell? ⟨g, 1, none⟩ = some (.int .i64 b) ∧ W.cell? ⟨g, 2, none⟩ = some (.int .i64 c) ∧ W.cell? ⟨g, 3, none⟩ = some (.int .i64 d) ∧ W.cell? ⟨g, 4, none⟩ = some (.int .i64 slot) ∧ W.cell? ⟨g, 5, none⟩ = some (.int .i64 seq) ∧ W.cell? ⟨g, 6, none⟩ = some (.slice A q cp) ∧ W.cell? ⟨g, 7, none⟩ = some (.int .i64 (k : Int))) ∧ W.cell? ⟨w.heap.size, 0, none⟩ = some (.int .i64 kd) ∧ W.cell? ⟨w.heap.size, 1, none⟩ = some (.slice A1 n1 c1) ∧ W.cell? ⟨w.heap.size, 2, none⟩ = some (.slice A2 n2 c2) ∧ W.cell? ⟨w.heap.size, 3, none⟩ = some (.int .i64 x))
      (first
        | go_keep
        | (revert HS1 HX1; intro HS1 HX1; with_reducible exact ⟨pks8 HS1.out, sd_cells4 HX1.out⟩))
      (first
        | (go_at_call 68; refine (CE.out _).mono ?_; rintro e w1 ⟨rfl, hb1⟩; have HS1 := Lib.hid (HS0.out.next hb1 (by rfl) (by rfl) (by rfl) (by rfl)); have HX1 := Lib.hid (HX0.out.next hb1 (by rfl) (by rfl) (by rfl) (by rfl)); clear hb1))
    all_goals
      go_wp2
      go_ret3
      exact pkput_no hp.out HS1.out.2 HERR.out HNE.out
theorem put_here {w5 : World} {g b : Nat} {a0 a1 a2 a3 a4 a5 a6 a7 y0 y1 y2 y3 : Value} {t t' : TypeId} (h : w5.heap[g]? = some (.cells #[a0, a1, a2, a3, a4, a5, a6, a7] t (0, 0))) (k : w5.heap[b]? = some (.cells #[y0, y1, y2, y3] t' (0, 0))) :
    (w5.cell? ⟨g, 1, none⟩ = some a1 ∧ w5.cell? ⟨g, 5, none⟩ = some a5) ∧ w5.cell? ⟨b, 0, none⟩ = some y0 ∧ w5.cell? ⟨b, 1, none⟩ = some y1 ∧ w5.cell? ⟨b, 2, none⟩ = some y2 ∧ w5.cell? ⟨b, 3, none⟩ = some y3 :=
  ⟨⟨(pk8 h).2.1, (pk8 h).2.2.2.2.2.1⟩, four_cells k⟩
theorem put_sd {w W : World} {g b : Nat} {a0 a1 a2 a3 a4 a5 a6 a7 y0 y1 y2 y3 : Value} {t t' : TypeId} (h : Sd w g (.cells #[a0, a1, a2, a3, a4, a5, a6, a7] t (0, 0)) W) (k : Sd w b (.cells #[y0, y1, y2, y3] t' (0, 0)) W) :
    (W.cell? ⟨g, 1, none⟩ = some a1 ∧ W.cell? ⟨g, 5, none⟩ = some a5) ∧ W.cell? ⟨b, 0, none⟩ = some y0 ∧ W.cell? ⟨b, 1, none⟩ = some y1 ∧ W.cell? ⟨b, 2, none⟩ = some y2 ∧ W.cell? ⟨b, 3, none⟩ = some y3 := put_here h.1 k.1
theorem refpkcap_any (a b c d : Int) (h1 : -1000000 ≤ c) (h2 : c ≤ 1000000) (w : World) :
    Calls Tryz.prog 76 #[.agg #[.int .i64 a, .int .i64 b, .int .i64 c, .int .i64 d]] w fun r w' => r = .returned (.int .i64 ((c - 1) * 59)) ∧ Below w.heap.size w w' := by
  have m1 : wrap64 (c - 1) = c - 1 := by unfold wrap64; omega
  have m2 : wrap64 ((c - 1) * 59) = (c - 1) * 59 := by unfold wrap64; omega
  have HS0 := Lib.hid (sd_new w #[.int .i64 a, .int .i64 b, .int .i64 c, .int .i64 d] 29)
  go_enter Tryz.func76, Tryz.ntmps76
  go_upto_region 1 with fail
  generalize w.alloc (.cells #[.int .i64 a, .int .i64 b, .int .i64 c, .int .i64 d] 29) = w0 at *
  obtain ⟨z0, z1, z2, z3⟩ := sd_cells4 HS0.out
  go_wp2
  go_ret
  first
    | exact ⟨rfl, HS0.out.2⟩
    | exact ⟨gm_int (by first | rw [m2] | rw [m1, m2]), HS0.out.2⟩
set_option maxHeartbeats 2000000 in
theorem refpkput_any (kd x : Int) (key val : List Nat) (A1 A2 : Option Addr) (B n1 c1 n2 c2 : Nat) (hB : B ≤ w.heap.size) (hi : Hid (RecIn w B A1 A2 n1 c1 n2 c2 key val)) (hp : Hid (PkIs 92 w S g a b c d slot seq st k)) (hf : Pk.Fit ⟨a, b, c, d⟩ slot seq st k) (hs62 : n1 ≤ 140737488355328 ∧ n2 ≤ 140737488355328) :
    Calls Tryz.prog 43 #[.pointer (some ⟨g, 0, none⟩), .agg #[.int .i64 kd, .slice A1 n1 c1, .slice A2 n2 c2, .int .i64 x]] w (PkPut 92 w S g a b c d slot seq st k ⟨kd, key, val, x⟩) := by
  have hlen : key.length = n1 ∧ val.length = n2 := ⟨hi.out.1.2.1, hi.out.2.2.1⟩
  have hplace := Pk.place_ok hf
  have hsq := hf.ok.2.2
  have h120 := hf.short
  have hC := (Pk.cap_eq hf.ok.1.1).2.2.1
  have hnum := Gm.form_nums hf.ok.1.1
  have hce0 : Rc.check b ⟨kd, key, val, x⟩ = Rc.chk b kd n1 n2 x := by unfold Rc.check; simp only; rw [hlen.1, hlen.2]
  have HRL : Hid (∀ W, Calls Tryz.prog 75 #[.agg #[.int .i64 kd, .slice A1 n1 c1, .slice A2 n2 c2, .int .i64 x]] W fun e w' => e = .returned (.int .i64 ((16 + n1 + n2 : Nat) : Int)) ∧ Below W.heap.size W w') := fun W => reflen_any kd A1 n1 c1 A2 n2 c2 x W hs62.1 hs62.2
  have HRC : Hid (∀ W, Calls Tryz.prog 76 #[.agg #[.int .i64 a, .int .i64 b, .int .i64 c, .int .i64 d]] W fun r w' => r = .returned (.int .i64 (Pk.cap ⟨a, b, c, d⟩ : Int)) ∧ Below W.heap.size W w') := fun W => by
    have e := (Pk.cap_eq hf.ok.1.1).1
    have e2 : Gm.cap ⟨a, b, c, d⟩ = (c - 1) * 59 := if_pos hf.ok.1.1
    rw [← e, e2]
    simp only at hnum
    exact refpkcap_any a b c d (by omega) (by omega) W
  have CK := Lib.hid (fun W => refcheck_any b kd A1 n1 c1 A2 n2 c2 x W)
  obtain ⟨A, cp, hh, hg, hr, hne⟩ := hp.out
  have HB0 : Hid (Below w.heap.size w (w.alloc (.cells #[.int .i64 kd, .slice A1 n1 c1, .slice A2 n2 c2, .int .i64 x] 55))) := (Below.refl _ w).alloc (Nat.le_refl _) _
  have HS0 : Hid (Sd w g _ (w.alloc (.cells #[.int .i64 kd, .slice A1 n1 c1, .slice A2 n2 c2, .int .i64 x] 55))) := ⟨(HB0.out.block g (Array.getElem?_eq_some_iff.1 hh).1).trans hh, HB0.out⟩
  have HX0 : Hid (Sd w w.heap.size _ (w.alloc (.cells #[.int .i64 kd, .slice A1 n1 c1, .slice A2 n2 c2, .int .i64 x] 55))) := sd_new _ _ _
  have HG := Lib.hid (And.intro hg (And.intro hr hne))
  clear hh hg hr hne hnum
  by_cases hck : Rc.check b ⟨kd, key, val, x⟩ = 0
  · have hck2 := hck
    rw [hce0] at hck2
    rw [hck2] at CK
    have CE : Hid (∀ W, Below w.heap.size w W → Calls Tryz.prog 77 #[.int .i64 b, .int .i64 seq, .int .i64 (st.length : Int), .agg #[.int .i64 kd, .slice A1 n1 c1, .slice A2 n2 c2, .int .i64 x]] W fun e w' => ∃ A3 c3, e = .returned (.slice A3 (Rc.enc b seq (st.length : Int) ⟨kd, key, val, x⟩).length c3) ∧ SlIs A3 (Rc.enc b seq (st.length : Int) ⟨kd, key, val, x⟩).length c3 ∧ Bs w' w'.heap.size A3 (Rc.enc b seq (st.length : Int) ⟨kd, key, val, x⟩) ∧ Below W.heap.size W w') := fun W hb =>
      refencode_any b seq (st.length : Int) kd x key val A1 B n1 c1 A2 n2 c2 W hck hplace (Nat.le_trans hB hb.size) (by omega) (hi.out.below hb hB).1 (hi.out.below hb hB).2
    have hsmall : n1 ≤ 255 ∧ n2 ≤ 65536 := by
      have := Rc.chk_ok hck
      simp only at this
      omega
    have HEL : Hid ((Rc.enc b seq (st.length : Int) ⟨kd, key, val, x⟩).length = 16 + n1 + n2) := by
      show _ = _
      rw [Rc.enc_length]; unfold Rc.len; simp only; rw [hlen.1, hlen.2]
    have HLEN : Hid (Rc.len ⟨kd, key, val, x⟩ = 16 + n1 + n2) := by show _ = _; unfold Rc.len; simp only; rw [hlen.1, hlen.2]
    generalize hen : Rc.enc b seq (st.length : Int) ⟨kd, key, val, x⟩ = en at CE HEL
    have HEN := Lib.hid hen; clear hen
    rw [HEL.out] at CE
    obtain ⟨m, hm⟩ : ∃ m, m = 16 + n1 + n2 := ⟨_, rfl⟩
    have HMV : Hid (Rc.len ⟨kd, key, val, x⟩ = m) := by show _ = _; rw [HLEN.out, hm]
    have HM : Hid (en.length = m) := by show _ = _; rw [HEL.out, hm]
    have hms : m ≤ 65807 := by omega
    rw [← hm] at CE HRL
    have hways : (Pk.cap ⟨a, b, c, d⟩ < st.length + m ∧ decide ((Pk.cap ⟨a, b, c, d⟩ : Int) - (st.length : Int) < (m : Int)) = true ∧ Hid (Pk.err ⟨a, b, c, d⟩ st ⟨kd, key, val, x⟩ = 8)) ∨ (decide ((Pk.cap ⟨a, b, c, d⟩ : Int) - (st.length : Int) < (m : Int)) = false ∧ Hid (Pk.err ⟨a, b, c, d⟩ st ⟨kd, key, val, x⟩ = 0) ∧ Hid (Pk.put ⟨a, b, c, d⟩ seq st ⟨kd, key, val, x⟩ = st ++ en)) := by
      by_cases h : Pk.cap ⟨a, b, c, d⟩ < st.length + m
      · refine .inl ⟨h, by simp only [decide_eq_true_eq]; omega, ?_⟩
        show _ = _
        unfold Pk.err
        rw [if_neg (Decidable.not_not.2 hck), HMV.out, if_pos h]
      · have he : Pk.err ⟨a, b, c, d⟩ st ⟨kd, key, val, x⟩ = 0 := by
          unfold Pk.err
          rw [if_neg (Decidable.not_not.2 hck), HMV.out, if_neg h]
        refine .inr ⟨by simp only [decide_eq_false_iff_not]; omega, he, ?_⟩
        show _ = _
        rw [Pk.put_ok he, HEN.out]
    have hg0 := (Array.getElem?_eq_some_iff.1 hp.out.choose_spec.choose_spec.1).1
    have HGN : Hid (w.heap.size ≠ g) := fun e => by omega
    clear hg0
    have m2 : wrap64 ((Pk.cap ⟨a, b, c, d⟩ : Int) - (st.length : Int)) = (Pk.cap ⟨a, b, c, d⟩ : Int) - (st.length : Int) := by unfold wrap64; omega
    clear hck hck2 hce0 hlen hplace hf hm HEL HLEN
    generalize Pk.cap ⟨a, b, c, d⟩ = C at *
    generalize hq : st.length = q at *
    have HQ := Lib.hid hq; clear hq
    rcases hways with ⟨-, f1, HERR⟩ | ⟨f1, HERR, HPUT⟩
    all_goals
      go_enter Tryz.func43, Tryz.ntmps43
      go_upto_region 1 with fail
      generalize (w.alloc (.cells #[.int .i64 kd, .slice A1 n1 c1, .slice A2 n2 c2, .int .i64 x] 55)) = w0 at *
      obtain ⟨z0, z1, z2, z3, z4, z5, z6, z7⟩ := pks8 HS0.out
      obtain ⟨y0, y1, y2, y3⟩ := four_cells HX0.out.1
      go_region_held3 (fun W => (W.cell? ⟨g, 0, none⟩ = some (.int .i64 a) ∧ W.cell? ⟨g, 1, none⟩ = some (.int .i64 b) ∧ W.cell? ⟨g, 2, none⟩ = some (.int .i64 c) ∧ W.cell? ⟨g, 3, none⟩ = some (.int .i64 d) ∧ W.cell? ⟨g, 4, none⟩ = some (.int .i64 slot) ∧ W.cell? ⟨g, 5, none⟩ = some (.int .i64 seq) ∧ W.cell? ⟨g, 6, none⟩ = some (.slice A q cp) ∧ W.cell? ⟨g, 7, none⟩ = some (.int .i64 (k : Int))) ∧ W.cell? ⟨w.heap.size, 0, none⟩ = some (.int .i64 kd) ∧ W.cell? ⟨w.heap.size, 1, none⟩ = some (.slice A1 n1 c1) ∧ W.cell? ⟨w.heap.size, 2, none⟩ = some (.slice A2 n2 c2) ∧ W.cell? ⟨w.heap.size, 3, none⟩ = some (.int .i64 x))
        (first
          | go_keep
          | (revert HS1 HX1; intro HS1 HX1; with_reducible exact ⟨pks8 HS1.out, sd_cells4 HX1.out⟩))
        (first
          | (go_at_call 74; refine (CK.out _).mono ?_; rintro e w1 ⟨rfl, hb1⟩; have HS1 := Lib.hid (HS0.out.next hb1 (by rfl) (by rfl) (by rfl) (by rfl)); have HX1 := Lib.hid (HX0.out.next hb1 (by rfl) (by rfl) (by rfl) (by rfl)); clear hb1))
      clear z0 z1 z2 z3 z4 z5 z6 z7 y0 y1 y2 y3
      obtain ⟨z0, z1, z2, z3, z4, z5, z6, z7⟩ := pks8 HS1.out
      obtain ⟨y0, y1, y2, y3⟩ := four_cells HX1.out.1
      go_wp2_with fail
      go_region_held3 (fun W => (W.cell? ⟨g, 0, none⟩ = some (.int .i64 a) ∧ W.cell? ⟨g, 1, none⟩ = some (.int .i64 b) ∧ W.cell? ⟨g, 2, none⟩ = some (.int .i64 c) ∧ W.cell? ⟨g, 3, none⟩ = some (.int .i64 d) ∧ W.cell? ⟨g, 4, none⟩ = some (.int .i64 slot) ∧ W.cell? ⟨g, 5, none⟩ = some (.int .i64 seq) ∧ W.cell? ⟨g, 6, none⟩ = some (.slice A q cp) ∧ W.cell? ⟨g, 7, none⟩ = some (.int .i64 (k : Int))) ∧ W.cell? ⟨w.heap.size, 0, none⟩ = some (.int .i64 kd) ∧ W.cell? ⟨w.heap.size, 1, none⟩ = some (.slice A1 n1 c1) ∧ W.cell? ⟨w.heap.size, 2, none⟩ = some (.slice A2 n2 c2) ∧ W.cell? ⟨w.heap.size, 3, none⟩ = some (.int .i64 x))
        (first
          | go_keep
          | (revert HS2 HX2; intro HS2 HX2; with_reducible exact ⟨pks8 HS2.out, sd_cells4 HX2.out⟩))
        (first
          | (go_at_call 75; refine (HRL.out _).mono ?_; rintro e w2 ⟨rfl, hb2⟩; have HS2 := Lib.hid (HS1.out.next hb2 (by rfl) (by rfl) (by rfl) (by rfl)); have HX2 := Lib.hid (HX1.out.next hb2 (by rfl) (by rfl) (by rfl) (by rfl)); clear hb2))
      clear z0 z1 z2 z3 z4 z5 z6 z7 y0 y1 y2 y3
      obtain ⟨z0, z1, z2, z3, z4, z5, z6, z7⟩ := pks8 HS2.out
      obtain ⟨y0, y1, y2, y3⟩ := four_cells HX2.out.1
      go_wp2_with fail
      refine (HRC.out _).mono ?_
      rintro e w3 ⟨rfl, hb3⟩
      have HS3 := Lib.hid (HS2.out.next hb3 (by rfl) (by rfl) (by rfl) (by rfl))
      have HX3 := Lib.hid (HX2.out.next hb3 (by rfl) (by rfl) (by rfl) (by rfl))
      clear hb3
      clear z0 z1 z2 z3 z4 z5 z6 z7 y0 y1 y2 y3
      obtain ⟨z0, z1, z2, z3, z4, z5, z6, z7⟩ := pks8 HS3.out
      obtain ⟨y0, y1, y2, y3⟩ := four_cells HX3.out.1
      go_wp2_with fail
    · go_ret3
      exact pkput_no hp.out HS3.out.2 HERR.out (by decide)
    · clear z0 z1 z2 z3 z4 z5 z6 z7 y0 y1 y2 y3
      refine wp_region_gated 17 (fun W => W.heap[g]? = some (.cells #[.int .i64 a, .int .i64 b, .int .i64 c, .int .i64 d, .int .i64 slot, .int .i64 seq, .slice A q cp, .int .i64 (k : Int)] 92 (0, 0)) ∧ W.heap[w.heap.size]? = some (.cells #[.int .i64 kd, .slice A1 n1 c1, .slice A2 n2 c2, .int .i64 x] 55 (0, 0))) (by kernel_rfl) ?_
      change Gated _ _ _ _ 17 _ 21 #[false, false, false, false, false, false, false, false, false, false, false, false, false, false, false, false, false, false, false, false, false] _ _
      refine Gated.take (i := 0) (v := ?_) (d := some 36) rfl rfl (by kernel_rfl) (by kernel_rfl) (by kernel_rfl) (fun _ _ _ h => h) rfl (fun _ => ⟨HS3.out.1, HX3.out.1⟩) ⟨by rfl, fun w => ?_⟩ ?_
      rotate_left 1
      · (go_simp; all_goals with_reducible rfl)
      simp only [Act.put, List.setIfInBounds_toArray, List.set_cons_zero, List.set_cons_succ]
      refine Gated.take (i := 1) (v := ?_) (d := some 37) rfl rfl (by kernel_rfl) (by kernel_rfl) (by kernel_rfl) (fun _ _ _ h => h) rfl (fun _ => ⟨HS3.out.1, HX3.out.1⟩) ⟨by rfl, fun w => ?_⟩ ?_
      rotate_left 1
      · (go_simp; all_goals with_reducible rfl)
      simp only [Act.put, List.setIfInBounds_toArray, List.set_cons_zero, List.set_cons_succ]
      refine Gated.take (i := 2) (v := ?_) (d := some 38) rfl rfl (by kernel_rfl) (by kernel_rfl) (by kernel_rfl) (fun _ _ _ h => h) rfl (fun _ => ⟨HS3.out.1, HX3.out.1⟩) ⟨by rfl, fun w => ?_⟩ ?_
      rotate_left 1
      · (go_simp; all_goals with_reducible rfl)
      simp only [Act.put, List.setIfInBounds_toArray, List.set_cons_zero, List.set_cons_succ]
      refine Gated.take (i := 3) (v := ?_) (d := some 39) rfl rfl (by kernel_rfl) (by kernel_rfl) (by kernel_rfl) (fun _ _ _ h => h) rfl (fun _ => ⟨HS3.out.1, HX3.out.1⟩) ⟨by rfl, fun w => ?_⟩ ?_
      rotate_left 1
      · (go_simp; all_goals with_reducible rfl)
      simp only [Act.put, List.setIfInBounds_toArray, List.set_cons_zero, List.set_cons_succ]
      refine Gated.load (i := 4) (v := ?_) (d := some 40) rfl rfl (by kernel_rfl) (by kernel_rfl) (by kernel_rfl) (fun _ _ _ h => h) rfl (by kernel_rfl) (by kernel_rfl) (⟨HS3.out.1, HX3.out.1⟩) ⟨by rfl, fun w hSw => ?_⟩ ?_
      rotate_left 1
      · obtain ⟨z0, z1, z2, z3, z4, z5, z6, z7⟩ := pk8 hSw.1
        obtain ⟨y0, y1, y2, y3⟩ := four_cells hSw.2
        (go_simp; all_goals with_reducible rfl)
      simp only [Act.put, List.setIfInBounds_toArray, List.set_cons_zero, List.set_cons_succ]
      refine Gated.take (i := 5) (v := ?_) (d := some 41) rfl rfl (by kernel_rfl) (by kernel_rfl) (by kernel_rfl) (fun _ _ _ h => h) rfl (fun _ => ⟨HS3.out.1, HX3.out.1⟩) ⟨by rfl, fun w => ?_⟩ ?_
      rotate_left 1
      · (go_simp; all_goals with_reducible rfl)
      simp only [Act.put, List.setIfInBounds_toArray, List.set_cons_zero, List.set_cons_succ]
      refine Gated.take (i := 6) (v := ?_) (d := some 42) rfl rfl (by kernel_rfl) (by kernel_rfl) (by kernel_rfl) (fun _ _ _ h => h) rfl (fun _ => ⟨HS3.out.1, HX3.out.1⟩) ⟨by rfl, fun w => ?_⟩ ?_
      rotate_left 1
      · (go_simp; all_goals with_reducible rfl)
      simp only [Act.put, List.setIfInBounds_toArray, List.set_cons_zero, List.set_cons_succ]
      refine Gated.take (i := 7) (v := ?_) (d := some 43) rfl rfl (by kernel_rfl) (by kernel_rfl) (by kernel_rfl) (fun _ _ _ h => h) rfl (fun _ => ⟨HS3.out.1, HX3.out.1⟩) ⟨by rfl, fun w => ?_⟩ ?_
      rotate_left 1
      · (go_simp; all_goals with_reducible rfl)
      simp only [Act.put, List.setIfInBounds_toArray, List.set_cons_zero, List.set_cons_succ]
      refine Gated.take (i := 8) (v := ?_) (d := some 44) rfl rfl (by kernel_rfl) (by kernel_rfl) (by kernel_rfl) (fun _ _ _ h => h) rfl (fun _ => ⟨HS3.out.1, HX3.out.1⟩) ⟨by rfl, fun w => ?_⟩ ?_
      rotate_left 1
      · (go_simp; all_goals with_reducible rfl)
      simp only [Act.put, List.setIfInBounds_toArray, List.set_cons_zero, List.set_cons_succ]
      refine Gated.load2 (i := 9) 16 (v := ?_) (d := some 45) rfl rfl (by kernel_rfl) (by kernel_rfl) (by kernel_rfl) (fun _ _ _ h => h) rfl rfl (by kernel_rfl) (by kernel_rfl) (by kernel_rfl) (by kernel_rfl) (⟨HS3.out.1, HX3.out.1⟩) ⟨by rfl, fun w hSw => ?_⟩ ?_
      rotate_left 1
      · obtain ⟨z0, z1, z2, z3, z4, z5, z6, z7⟩ := pk8 hSw.1
        obtain ⟨y0, y1, y2, y3⟩ := four_cells hSw.2
        (go_simp; all_goals with_reducible rfl)
      simp only [Act.put, List.setIfInBounds_toArray, List.set_cons_zero, List.set_cons_succ]
      refine Gated.take (i := 10) (v := ?_) (d := some 46) rfl rfl (by kernel_rfl) (by kernel_rfl) (by kernel_rfl) (fun _ _ _ h => h) rfl (fun _ => ⟨HS3.out.1, HX3.out.1⟩) ⟨by rfl, fun w => ?_⟩ ?_
      rotate_left 1
      · (go_simp; all_goals with_reducible rfl)
      simp only [Act.put, List.setIfInBounds_toArray, List.set_cons_zero, List.set_cons_succ]
      refine Gated.take (i := 11) (v := ?_) (d := some 47) rfl rfl (by kernel_rfl) (by kernel_rfl) (by kernel_rfl) (fun _ _ _ h => h) rfl (fun _ => ⟨HS3.out.1, HX3.out.1⟩) ⟨by rfl, fun w => ?_⟩ ?_
      rotate_left 1
      · (go_simp; all_goals with_reducible rfl)
      simp only [Act.put, List.setIfInBounds_toArray, List.set_cons_zero, List.set_cons_succ]
      refine Gated.take (i := 12) (v := ?_) (d := some 48) rfl rfl (by kernel_rfl) (by kernel_rfl) (by kernel_rfl) (fun _ _ _ h => h) rfl (fun _ => ⟨HS3.out.1, HX3.out.1⟩) ⟨by rfl, fun w => ?_⟩ ?_
      rotate_left 1
      · (go_simp; all_goals with_reducible rfl)
      simp only [Act.put, List.setIfInBounds_toArray, List.set_cons_zero, List.set_cons_succ]
      refine Gated.load2 (i := 13) 16 (v := ?_) (d := some 49) rfl rfl (by kernel_rfl) (by kernel_rfl) (by kernel_rfl) (fun _ _ _ h => h) rfl rfl (by kernel_rfl) (by kernel_rfl) (by kernel_rfl) (by kernel_rfl) (⟨HS3.out.1, HX3.out.1⟩) ⟨by rfl, fun w hSw => ?_⟩ ?_
      rotate_left 1
      · obtain ⟨z0, z1, z2, z3, z4, z5, z6, z7⟩ := pk8 hSw.1
        obtain ⟨y0, y1, y2, y3⟩ := four_cells hSw.2
        (go_simp; all_goals with_reducible rfl)
      simp only [Act.put, List.setIfInBounds_toArray, List.set_cons_zero, List.set_cons_succ]
      refine Gated.take (i := 14) (v := ?_) (d := some 50) rfl rfl (by kernel_rfl) (by kernel_rfl) (by kernel_rfl) (fun _ _ _ h => h) rfl (fun _ => ⟨HS3.out.1, HX3.out.1⟩) ⟨by rfl, fun w => ?_⟩ ?_
      rotate_left 1
      · (go_simp; all_goals with_reducible rfl)
      simp only [Act.put, List.setIfInBounds_toArray, List.set_cons_zero, List.set_cons_succ]
      refine Gated.load2 (i := 15) 16 (v := ?_) (d := some 51) rfl rfl (by kernel_rfl) (by kernel_rfl) (by kernel_rfl) (fun _ _ _ h => h) rfl rfl (by kernel_rfl) (by kernel_rfl) (by kernel_rfl) (by kernel_rfl) (⟨HS3.out.1, HX3.out.1⟩) ⟨by rfl, fun w hSw => ?_⟩ ?_
      rotate_left 1
      · obtain ⟨z0, z1, z2, z3, z4, z5, z6, z7⟩ := pk8 hSw.1
        obtain ⟨y0, y1, y2, y3⟩ := four_cells hSw.2
        (go_simp; all_goals with_reducible rfl)
      simp only [Act.put, List.setIfInBounds_toArray, List.set_cons_zero, List.set_cons_succ]
      refine Gated.go (i := 16) rfl (by kernel_rfl) (by rfl) (fun K hK => ?_)
      go_simp
      refine (CE.out _ (HS3.out.next (Below.refl _ _) (by rfl) (by rfl) (by rfl) (by rfl)).2).mono ?_
      rintro e w4 ⟨A3, c3, rfl, hs3, hbs3, hb4⟩
      have HSL := Lib.hid hs3
      have HBS := Lib.hid hbs3
      have HS4 := Lib.hid (HS3.out.next hb4 (by rfl) (by rfl) (by rfl) (by rfl))
      have HX4 := Lib.hid (HX3.out.next hb4 (by rfl) (by rfl) (by rfl) (by rfl))
      have HR4 := Lib.hid (((HG.out.2.1).new HS4.out.2).self)
      clear hb4 hs3 hbs3
      refine hK _ _ (⟨HS4.out.1, HX4.out.1⟩) ?_
      clear hK K
      simp only [List.setIfInBounds_toArray, List.set_cons_zero, List.set_cons_succ]
      refine Gated.step (i := 17) rfl (by kernel_rfl) (by rfl) (by rfl) (fun K hK => ?_)
      refine op_append_sbytes (.tmp 40) (.tmp 52) rfl _ q st rfl HR4.out A3 w4.heap.size m c3 en rfl HSL.out HM.out HBS.out (by omega) ?_
      intro v5 w5 hr5 hk5
      obtain ⟨A5, c5, rfl, hs5⟩ := hr5.open_
      have HH5 := Lib.hid (own_keeps HS4.out.1 HG.out.2.2 hk5)
      have HR5 := Lib.hid hr5
      have HK5 := Lib.hid hk5
      clear hr5 hk5 hs5
      refine hK _ _ ?_
      clear hK K
      simp only [Act.put, List.setIfInBounds_toArray, List.set_cons_zero, List.set_cons_succ]
      refine Gated.take (i := 18) (v := ?_) (d := some 54) rfl rfl (by kernel_rfl) (by kernel_rfl) (by kernel_rfl) (fun _ _ _ h => h) rfl (fun h => by cases h) ⟨by rfl, fun w => ?_⟩ ?_
      rotate_left 1
      · (go_simp; all_goals with_reducible rfl)
      simp only [Act.put, List.setIfInBounds_toArray, List.set_cons_zero, List.set_cons_succ]
      refine Gated.take (i := 19) (v := ?_) (d := some 55) rfl rfl (by kernel_rfl) (by kernel_rfl) (by kernel_rfl) (fun _ _ _ h => h) rfl (fun h => by cases h) ⟨by rfl, fun w => ?_⟩ ?_
      rotate_left 1
      · (go_simp; all_goals with_reducible rfl)
      simp only [Act.put, List.setIfInBounds_toArray, List.set_cons_zero, List.set_cons_succ]
      obtain ⟨-, -, -, -, -, -, v6, -⟩ := pk8 HH5.out
      obtain ⟨f6, -⟩ := pk8f HH5.out
      refine Gated.step (i := 20) rfl (by kernel_rfl) (by rfl) (by rfl) (fun K hK => ?_)
      go_simp
      refine hK _ _ ?_
      clear hK K
      simp only [List.setIfInBounds_toArray, List.set_cons_zero, List.set_cons_succ]
      refine Gated.done (by kernel_rfl) ?_
      have HFIN := Lib.hid (pk_grown HS4.out.1 HG.out.1 (HG.out.2.1.new HS4.out.2) HG.out.2.2 HR5.out HK5.out HS4.out.2)
      clear v6 f6
      generalize w5.setCell ⟨g, 6, none⟩ (.slice A5 (q + m) c5) = w6 at *
      go_wp2
      go_ret3
      unfold PkPut
      rw [HERR.out, if_pos rfl, if_pos rfl, HMV.out, HPUT.out, HQ.out]
      exact ⟨rfl, HFIN.out⟩
  · rw [hce0] at hck
    have HERR : Hid (Pk.err ⟨a, b, c, d⟩ st ⟨kd, key, val, x⟩ = Rc.chk b kd n1 n2 x) := by
      show _ = _
      unfold Pk.err
      simp only
      rw [hce0, if_pos hck]
    have HNE := Lib.hid hck
    have f1 : (Rc.chk b kd n1 n2 x != 0) = true := by rw [bne_iff_ne]; exact hck
    clear hck hce0 hlen hplace hf
    generalize Rc.chk b kd n1 n2 x = y at *
    generalize hq : st.length = q at *
    have HQ := Lib.hid hq; clear hq
    go_enter Tryz.func43, Tryz.ntmps43
    go_upto_region 1 with fail
    generalize (w.alloc (.cells #[.int .i64 kd, .slice A1 n1 c1, .slice A2 n2 c2, .int .i64 x] 55)) = w0 at *
    obtain ⟨z0, z1, z2, z3, z4, z5, z6, z7⟩ := pks8 HS0.out
    obtain ⟨y0, y1, y2, y3⟩ := four_cells HX0.out.1
    go_region_held3 (fun W => (W.cell? ⟨g, 1, none⟩ = some (.int .i64 b) ∧ W.cell? ⟨g, 5, none⟩ = some (.int .i64 seq)) ∧ W.cell? ⟨w.heap.size, 0, none⟩ = some (.int .i64 kd) ∧ W.cell? ⟨w.heap.size, 1, none⟩ = some (.slice A1 n1 c1) ∧ W.cell? ⟨w.heap.size, 2, none⟩ = some (.slice A2 n2 c2) ∧ W.cell? ⟨w.heap.size, 3, none⟩ = some (.int .i64 x))
      (first
        | (revert HS1 HX1; intro HS1 HX1; with_reducible exact put_sd HS1.out HX1.out)
        | go_keep)
      (first
        | (go_at_call 74; refine (CK.out _).mono ?_; rintro e w1 ⟨rfl, hb1⟩; have HS1 := Lib.hid (HS0.out.next hb1 (by rfl) (by rfl) (by rfl) (by rfl)); have HX1 := Lib.hid (HX0.out.next hb1 (by rfl) (by rfl) (by rfl) (by rfl)); clear hb1))
    all_goals
      go_wp2
      go_ret3
      exact pkput_no hp.out HS1.out.2 HERR.out HNE.out
end
end Go.Proofs.YtgnbmmceffolmaaGreatDoor
end
section
set_option maxRecDepth 100000
namespace Go.Proofs.YtgnbmmceffolmaaGreatDoor
open Go.RowKit
theorem SRow.cells {S : Nat → Prop} {t : TypeId} {z n m c : Nat} {w : World} {A : Option Addr} {xs : List Value} (h : SRow S t z w (.slice A m c) n xs) : ∀ ad, A = some ad → ∀ j u, xs[j]? = some u → w.cell? (ad.add j) = some u := fun ad e j u hu => by
  rcases h.1.2 with ⟨e1, -⟩ | ⟨g, cap, cur, e1, -⟩
  · injection e1 with e1; rw [e] at e1; cases e1
  · injection e1 with e1
    rw [e] at e1
    injection e1 with e1
    subst e1
    exact h.1.cells (g := g) (by rw [e]; rfl) j u hu
theorem SRow.len {α : Type} {Sh : Shape α} {S : Nat → Prop} {t : TypeId} {n : Nat} {w : World} {v : Value} {l : List α} (h : SRow S t Sh.m w v n (Sh.flat l)) : l.length = n := ARow.length h.1
section
variable {α : Type} {Sh : Shape α} {P : Program} {w : World} {S : Nat → Prop} {o : Oper} {a : Act} {K : Act → World → Prop} {Q : Exit → Act → World → Prop} {e : TypeId} {zv : Value} {bytes : Nat}
/-- 'append(s, p)': p lies in a box that was made for it. -/
theorem op_append_one (s x : Operand) (t : TypeId) (ho : o.op = .call { callee := .builtin .append, args := #[s, x], argTypes := #[t, t] })
    (ht : P.underlying t = some (.slice e)) (hi : (P.info? e).map (fun i => (i.zero, i.size, i.bytes)) = some (some zv, Sh.m, bytes)) (hzs : zv.cells.size = Sh.m)
    (v : Value) (n : Nat) (l : List α) (hs : a.eval s = v) (hown : SRow S e Sh.m w v n (Sh.flat l)) (g c : Nat) (p : α) (hx : a.eval x = .slice (some ⟨g, 0, none⟩) 1 c) (hg : w.heap[g]? = some (.cells (Sh.cs p).toArray e (0, 0))) (h63 : n ≤ 1000000) (hbytes : (n + 1) * bytes ≤ 140737488355328)
    (h : ∀ v' w', SRow (Grow S w) e Sh.m w' v' (n + 1) (Sh.flat (l ++ [p])) → Kept S w w' → K (a.put o.dst v') w') : o.wp P a w K Q := by
  refine op_append_srow s x t ho e zv Sh.m bytes ht hi hzs Sh.pos v n (Sh.flat l) hs hown (some ⟨g, 0, none⟩) 1 c (Sh.cs p) hx (fun e => by cases e) (by rw [Sh.len, Nat.one_mul]) (fun ad e j u hu => ?_) (Sh.one p) (by unfold maxLen; omega) hbytes fun v' w' h1 h2 => h v' w' (by rw [Sh.flat_append, Sh.flat_one]; exact h1) h2
  injection e with e
  subst e
  rw [arr_flat, Nat.zero_add, cell_of_row _ _ j _ _ _ hg, List.getElem?_toArray]; exact hu
end
/-- A slice's value. -/
def slS : Shape (Option Addr × Nat × Nat) := ⟨fun a => [.slice a.1 a.2.1 a.2.2], (none, 0, 0), 1, fun _ => rfl, by decide, fun a u hu => by
  simp only [List.mem_cons, List.not_mem_nil, or_false] at hu
  subst hu; rfl⟩
theorem info_sl : (Tryz.prog.info? 27).map (fun i => (i.zero, i.size, i.bytes)) = some (some (.slice none 0 0), 1, 24) := by kernel_rfl
/-- A row of frames: the slices in a block of S, each frame's bytes in a block of U. -/
def FrRow (w : World) (S U : Nat → Prop) (v : Value) (n : Nat) (fs : List (List Nat)) : Prop :=
  ∃ sl : List (Option Addr × Nat × Nat), SRow S 27 1 w v n (slS.flat sl) ∧ fs.length = n ∧ ∀ i, i < n → ∃ gf cf, sl.getD i (none, 0, 0) = (some ⟨gf, 0, none⟩, 64, cf) ∧ SRow U 5 1 w (.slice (some ⟨gf, 0, none⟩) 64 cf) 64 (vals (fs.getD i []))
section
variable {w w' : World} {S U S' U' T : Nat → Prop} {v v' : Value} {n m : Nat} {fs xs : List (List Nat)}
theorem FrRow.nil : FrRow w S U (.slice none 0 0) 0 [] := ⟨[], SRow.nil, rfl, fun _ h => absurd h (Nat.not_lt_zero _)⟩
theorem FrRow.kept (h : FrRow w S U v n fs) (hk : Kept T w w') (h1 : ∀ k, k < w.heap.size → S k → ¬ T k) (h2 : ∀ k, k < w.heap.size → U k → ¬ T k) : FrRow w' S U v n fs := by
  obtain ⟨sl, a1, a2, a3⟩ := h
  refine ⟨sl, a1.kept hk h1, a2, fun i hi => ?_⟩
  obtain ⟨gf, cf, b1, b2⟩ := a3 i hi
  exact ⟨gf, cf, b1, b2.kept hk h2⟩
theorem FrRow.mono (h : FrRow w S U v n fs) (h1 : ∀ k, k < w.heap.size → S k → S' k) (h2 : ∀ k, k < w.heap.size → U k → U' k) : FrRow w S' U' v n fs := by
  obtain ⟨sl, a1, a2, a3⟩ := h
  refine ⟨sl, a1.mono h1, a2, fun i hi => ?_⟩
  obtain ⟨gf, cf, b1, b2⟩ := a3 i hi
  exact ⟨gf, cf, b1, b2.mono h2⟩
theorem FrRow.new (h : FrRow w S U v n fs) (hb : Below w.heap.size w w') : FrRow w' S U v n fs := h.kept (Kept.of_new (S := fun _ => False) hb) (fun _ _ _ e => e) (fun _ _ _ e => e)
theorem FrRow.len (h : FrRow w S U v n fs) : fs.length = n := by obtain ⟨sl, -, e, -⟩ := h; exact e
theorem FrRow.open_ (h : FrRow w S U v n fs) : ∃ A c, v = .slice A n c ∧ SlIs A n c := by obtain ⟨sl, h1, -⟩ := h; exact h1.open_
theorem getD_left {α : Type} (a b : List α) (z : α) {i : Nat} (h : i < a.length) : (a ++ b).getD i z = a.getD i z := by
  rw [List.getD_eq_getElem?_getD, List.getElem?_append_left h, ← List.getD_eq_getElem?_getD]
theorem getD_right {α : Type} (a b : List α) (z : α) {i : Nat} (h : a.length ≤ i) : (a ++ b).getD i z = b.getD (i - a.length) z := by
  rw [List.getD_eq_getElem?_getD, List.getElem?_append_right h, ← List.getD_eq_getElem?_getD]
/-- One row of frames behind another, the bytes where they were. -/
theorem FrRow.both {sl sx : List (Option Addr × Nat × Nat)} (hr : SRow S' 27 1 w' v' (n + m) (slS.flat (sl ++ sx))) (hl : fs.length = n) (hx : xs.length = m) (hsl : sl.length = n)
    (h1 : ∀ i, i < n → ∃ gf cf, sl.getD i (none, 0, 0) = (some ⟨gf, 0, none⟩, 64, cf) ∧ SRow U' 5 1 w' (.slice (some ⟨gf, 0, none⟩) 64 cf) 64 (vals (fs.getD i [])))
    (h2 : ∀ i, i < m → ∃ gf cf, sx.getD i (none, 0, 0) = (some ⟨gf, 0, none⟩, 64, cf) ∧ SRow U' 5 1 w' (.slice (some ⟨gf, 0, none⟩) 64 cf) 64 (vals (xs.getD i []))) : FrRow w' S' U' v' (n + m) (fs ++ xs) := by
  refine ⟨_, hr, by rw [List.length_append, hl, hx], fun i hi => ?_⟩
  rcases Nat.lt_or_ge i n with h | h
  · obtain ⟨gf, cf, b1, b2⟩ := h1 i h
    exact ⟨gf, cf, by rw [getD_left _ _ _ (by omega)]; exact b1, by rw [getD_left _ _ _ (by omega)]; exact b2⟩
  · obtain ⟨gf, cf, b1, b2⟩ := h2 (i - n) (by omega)
    refine ⟨gf, cf, ?_, ?_⟩
    · rw [getD_right _ _ _ (by omega), hsl]; exact b1
    · rw [getD_right _ _ _ (by omega), hl]; exact b2
end
/-- While frames are taken: the sectors' row (1), the frames' row (2), the frames' bytes (3), the packer. -/
structure Tk (T : TypeId) (w : World) (S : Nat → Prop) (g : Nat) (a b c d slot seq : Int) (st : List Nat) (k : Nat) (wr : World) (col : Nat → Nat) (js jf jp : Nat) (sv fv : Value) : Prop where
  colr : Col w.heap.size wr col
  up : w.heap.size ≤ wr.heap.size
  secs : SRow (fun i => col i = 1) 3 1 wr sv js (intS.flat (Pk.secs ⟨a, b, c, d⟩ slot k js))
  frs : FrRow wr (fun i => col i = 2) (fun i => col i = 3) fv jf (Pk.frames ⟨a, b, c, d⟩ slot seq st k jf)
  pk : PkIs T wr (fun i => S i ∧ i < w.heap.size) g a b c d slot seq st jp
  kept : Kept (fun i => S i ∧ i < w.heap.size) w wr
section
variable {T : TypeId} {w wr wr' : World} {S : Nat → Prop} {g : Nat} {a b c d slot seq : Int} {st : List Nat} {k : Nat} {col : Nat → Nat} {js jf jp : Nat} {sv fv : Value}
theorem Tk.start (h : PkIs T w S g a b c d slot seq st k) : Tk T w S g a b c d slot seq st k w (fun _ => 0) 0 0 k (.slice none 0 0) (.slice none 0 0) :=
  ⟨Col.none _ _, Nat.le_refl _, SRow.nil, FrRow.nil, h.mono fun _ hi hs => ⟨hs, hi⟩, Kept.refl _ _⟩
theorem Tk.new (h : Tk T w S g a b c d slot seq st k wr col js jf jp sv fv) (hb : Below wr.heap.size wr wr') : Tk T w S g a b c d slot seq st k wr' col js jf jp sv fv :=
  ⟨h.colr.next hb.size, Nat.le_trans h.up hb.size, h.secs.new hb, h.frs.new hb, h.pk.new hb, h.kept.trans (Kept.of_new hb)⟩
theorem Tk.far (h : Tk T w S g a b c d slot seq st k wr col js jf jp sv fv) {i : Nat} (hi : i ≠ 0) : ∀ b, b < wr.heap.size → (S b ∧ b < w.heap.size) → ¬ col b = i := fun b _ hs e => by
  have := h.colr.2 b (by omega)
  omega
theorem Tk.sec (h : Tk T w S g a b c d slot seq st k wr col js jf jp sv fv) {sv' : Value} (hr : SRow (Grow (fun i => col i = 1) wr) 3 1 wr' sv' (js + 1) (intS.flat (Pk.secs ⟨a, b, c, d⟩ slot k (js + 1)))) (hk : Kept (fun i => col i = 1) wr wr') :
    Tk T w S g a b c d slot seq st k wr' (paint col wr wr' 1) (js + 1) jf jp sv' fv where
  colr := h.colr.paint h.up hk.size 1
  up := Nat.le_trans h.up hk.size
  secs := hr.mono fun i hi hs => paint_self hi hs
  frs := (h.frs.kept hk (fun i _ e e' => by omega) (fun i _ e e' => by omega)).mono (fun i hi e => by
      unfold paint; split
      · have := h.colr.1 i (by omega); omega
      · exact e) (fun i hi e => by
      unfold paint; split
      · have := h.colr.1 i (by omega); omega
      · exact e)
  pk := h.pk.kept hk (h.far (by decide))
  kept := h.kept.trans' (hk.mono fun i _ e => e) (fun i e hi => by have := h.colr.2 i (by omega); omega)
/-- New blocks hold the bytes of frames to come. -/
theorem Tk.paint3 (h : Tk T w S g a b c d slot seq st k wr col js jf jp sv fv) (hb : Below wr.heap.size wr wr') : Tk T w S g a b c d slot seq st k wr' (paint col wr wr' 3) js jf jp sv fv where
  colr := h.colr.paint h.up hb.size 3
  up := Nat.le_trans h.up hb.size
  secs := (h.secs.mono fun _ hi e => paint_keep hi e).new hb
  frs := (h.frs.mono (fun _ hi e => paint_keep hi e) (fun _ hi e => paint_keep hi e)).new hb
  pk := h.pk.new hb
  kept := h.kept.trans (Kept.of_new hb)
theorem Tk.fr (h : Tk T w S g a b c d slot seq st k wr col js jf jp sv fv) {fv' : Value} {gf cf : Nat} {sl : List (Option Addr × Nat × Nat)} (hsl : SRow (fun i => col i = 2) 27 1 wr fv jf (slS.flat sl))
    (hs3 : ∀ i, i < jf → ∃ gf cf, sl.getD i (none, 0, 0) = (some ⟨gf, 0, none⟩, 64, cf) ∧ SRow (fun i => col i = 3) 5 1 wr (.slice (some ⟨gf, 0, none⟩) 64 cf) 64 (vals ((Pk.frames ⟨a, b, c, d⟩ slot seq st k jf).getD i [])))
    (hf : SRow (fun i => col i = 3) 5 1 wr (.slice (some ⟨gf, 0, none⟩) 64 cf) 64 (vals (Pk.frame ⟨a, b, c, d⟩ slot seq st (k + jf))))
    (hr : SRow (Grow (fun i => col i = 2) wr) 27 1 wr' fv' (jf + 1) (slS.flat (sl ++ [(some ⟨gf, 0, none⟩, 64, cf)]))) (hk : Kept (fun i => col i = 2) wr wr') :
    Tk T w S g a b c d slot seq st k wr' (paint col wr wr' 2) js (jf + 1) jp sv fv' where
  colr := h.colr.paint h.up hk.size 2
  up := Nat.le_trans h.up hk.size
  secs := (h.secs.mono fun i hi e => paint_keep hi e).kept hk (fun i hi e e' => by rw [paint_old hi] at e; omega)
  frs := by
    rw [Pk.frames_next]
    refine FrRow.both (hr.mono fun i hi e => paint_self hi e) (Pk.frames_length ..) rfl hsl.len (fun i hi => ?_) (fun i hi => ?_)
    · obtain ⟨gf, cf, b1, b2⟩ := hs3 i hi
      exact ⟨gf, cf, b1, (b2.mono fun i hi e => paint_keep hi e).kept hk (fun i hi e e' => by rw [paint_old hi] at e; omega)⟩
    · obtain rfl : i = 0 := by omega
      exact ⟨gf, cf, rfl, (hf.mono fun i hi e => paint_keep hi e).kept hk (fun i hi e e' => by rw [paint_old hi] at e; omega)⟩
  pk := h.pk.kept hk (h.far (by decide))
  kept := h.kept.trans' (hk.mono fun i _ e => e) (fun i e hi => by have := h.colr.2 i (by omega); omega)
/-- One more frame counts as taken. -/
theorem Tk.stored (h : Tk T w S g a b c d slot seq st k wr col js jf jp sv fv) (jp' : Nat) : Tk T w S g a b c d slot seq st k (wr.setCell ⟨g, 7, none⟩ (.int .i64 (jp' : Int))) col js jf jp' sv fv := by
  have K1 : Kept (fun i => i = g) wr (wr.setCell ⟨g, 7, none⟩ (.int .i64 (jp' : Int))) := Kept.setCell (S := fun i => i = g) wr ⟨g, 7, none⟩ _ rfl
  have hg := h.pk.has
  have hc : ∀ i, i ≠ 0 → ∀ j, j < wr.heap.size → col j = i → ¬ j = g := fun i hi j _ e e' => by
    have := h.colr.2 j (by omega)
    omega
  refine ⟨h.colr.next K1.size, Nat.le_trans h.up K1.size, h.secs.kept K1 (hc 1 (by decide)), h.frs.kept K1 (hc 2 (by decide)) (hc 3 (by decide)), ?_, h.kept.trans (K1.mono fun i _ e => e ▸ hg)⟩
  obtain ⟨A, cp, h1, h2, h3, h4⟩ := h.pk
  refine ⟨A, cp, by simp [World.setCell, Array.getElem?_modify, h1], h2, ⟨ownsRow_block h3.1 fun i e => K1.block i (h3.lt e) fun e' => ?_, h3.2⟩, h4⟩
  cases A with
  | none => cases e
  | some ad => exact h4 ad rfl (by injection e with e; rw [e, e'])
end
/-- What Take leaves. -/
def PkTook (T : TypeId) (w : World) (S : Nat → Prop) (g : Nat) (a b c d slot seq : Int) (st : List Nat) (k : Nat) (e : Ending) (w' : World) : Prop :=
  ∃ v1 v2, e = .returned (.tuple #[v1, v2]) ∧ SRow (fun i => w.heap.size ≤ i) 3 1 w' v1 (Pk.full st - k) (intS.flat (Pk.secs ⟨a, b, c, d⟩ slot k (Pk.full st - k))) ∧
    FrRow w' (fun i => w.heap.size ≤ i) (fun i => w.heap.size ≤ i) v2 (Pk.full st - k) (Pk.frames ⟨a, b, c, d⟩ slot seq st k (Pk.full st - k)) ∧ PkIs T w' S g a b c d slot seq st (Pk.full st) ∧ Kept S w w'
theorem Tk.took {T : TypeId} {w wr : World} {S : Nat → Prop} {g : Nat} {a b c d slot seq : Int} {st : List Nat} {k : Nat} {col : Nat → Nat} {sv fv : Value} (h : Tk T w S g a b c d slot seq st k wr col (Pk.full st - k) (Pk.full st - k) (Pk.full st) sv fv) : PkTook T w S g a b c d slot seq st k (.returned (.tuple #[sv, fv])) wr :=
  ⟨sv, fv, rfl, h.secs.mono fun i _ e => h.colr.2 i (by omega), h.frs.mono (fun i _ e => h.colr.2 i (by omega)) (fun i _ e => h.colr.2 i (by omega)), h.pk.mono fun _ _ e => e.1, h.kept.mono fun _ _ e => e.1⟩
end Go.Proofs.YtgnbmmceffolmaaGreatDoor
end
section
set_option maxRecDepth 100000
namespace Go.Proofs.YtgnbmmceffolmaaGreatDoor
open Go.RowKit
set_option maxHeartbeats 1000000 in
theorem reffrenc_row (kd sa se : Nat) (A : Option Addr) (B n c : Nat) (l : List Nat) (w : World) (hk : 1 ≤ kd ∧ kd ≤ 4) (hsa : sa < 9223372036854775808) (hse : se < 1048576) (hB : B ≤ w.heap.size) (hs : SlIs A n c) (hl : Hid (l.length = n)) (hn : n ≤ 59) (hb : Hid (Bs w B A l)) :
    Calls Tryz.prog 73 #[.int .i64 (kd : Int), .int .i64 (sa : Int), .int .i64 (se : Int), .slice A n c] w fun e w' => ∃ A3 c3, e = .returned (.slice A3 64 c3) ∧ w'.ownsRow w.heap.size 5 1 (.slice A3 64 c3) 64 (vals (Fr.enc (kd : Int) (sa : Int) (se : Int) l)) ∧ Below w.heap.size w w' := by
  obtain ⟨i0, hi0, hz0, hz1, hz2⟩ := info_parts info_u8
  have I0 := Lib.hid (And.intro hi0 (And.intro hz0 (And.intro hz1 hz2))); clear hi0 hz0 hz1 hz2
  have HO0 := Lib.hid (own_lit w [kd] 1 rfl (by decide))
  have HB0 : Hid (Below w.heap.size w (w.alloc (.cells #[.int .u8 (kd : Int)] 5))) := (Below.refl _ w).alloc (Nat.le_refl _) _
  have HX0 : Hid (Bs (w.alloc (.cells #[.int .u8 (kd : Int)] 5)) B A l) := hb.out.below HB0.out hB
  have HLT : Hid (∀ y ∈ l, y < 256) := hb.out.lt
  have HA : Hid ((A = none → n = 0 ∧ c = 0) ∧ (vals l).length = n * 1 ∧ 1 + n ≤ maxLen) := ⟨fun e => ⟨(hs.1 e).2, (hs.1 e).1⟩, by rw [vals_length, hl.out]; omega, by unfold maxLen; omega⟩
  have ek : IntKind.u8.wrap (kd : Int) = (kd : Int) := by rw [IntKind.wrap_u8]; omega
  have HBODY : Hid (Fr.body (kd : Int) l = (kd :: l) ++ List.replicate (59 - n) 0) := by
    show _ = _
    unfold Fr.body
    rw [hl.out, Int.toNat_natCast]; rfl
  have HBLT : Hid (∀ y ∈ Fr.body (kd : Int) l, y < 256) := Fr.body_lt _ _ (by omega) hb.out.lt
  have HBL : Hid ((Fr.body (kd : Int) l).length = 60) := Fr.body_length _ _ (by rw [hl.out]; exact hn)
  clear hs
  go_enter Tryz.func73, Tryz.ntmps73
  go_wp2_with (at_builtin; refine append_onto rfl (.tmp 13) (.tmp 14) 27 rfl w.heap.size 5 i0 (.int .u8 0) 1 1 Tryz.underlying27 I0.out.1 I0.out.2.1 I0.out.2.2.1 I0.out.2.2.2 rfl (by decide) _ 1 (vals [kd]) rfl HO0.out A n c (vals l) rfl HA.out.1 HA.out.2.1 (fun ad e => by have h := HX0.out; rw [e] at h; exact h.cells) (vals_one _) HA.out.2.2 (by omega) HB0.out.size ?_; intro v1 w1 hown1 hg1; rw [← vals_append] at hown1; have HO1 := Lib.hid hown1; have HB1 : Hid (Below w.heap.size w w1) := HB0.out.grown hg1 HB0.out.size (fun g e => (HO0.out.lt g e).1); clear hown1 hg1)
  go_loopw [9] (fun bv wr => ∃ (j N : Nat), j ≤ 59 - n ∧ Hid (N = 1 + n + j) ∧ slLen bv = N ∧ Hid (wr.ownsRow w.heap.size 5 1 bv N (vals ((kd :: l) ++ List.replicate j 0))) ∧ Hid (Below w.heap.size w wr)) (fun bv _ => 60 - slLen bv)
  case atStart =>
    refine ⟨0, 1 + n, Nat.zero_le _, rfl, ?_, ?_, HB1.out⟩
    · obtain ⟨A1, c1, rfl, _⟩ := own_bytes HO1.out (fun y hy => by
        rcases List.mem_append.1 hy with h | h
        · rw [List.mem_singleton.1 h]; omega
        · exact HLT.out y h)
      rfl
    · rw [List.replicate_zero, List.append_nil]; exact HO1.out
  case round =>
    obtain ⟨j, N, hj, hN, hlen, hown, hbel⟩ := hrel
    obtain ⟨A1, c1, rfl, hbs, hl1, hn1, hm1, hA1⟩ := own_bytes hown.out (fun y hy => by
      rcases List.mem_append.1 hy with h | h
      · rcases List.mem_cons.1 h with rfl | h
        · omega
        · exact HLT.out y h
      · rw [(List.mem_replicate.1 h).2]; decide)
    clear hlen
    by_cases hlt : N < 60
    · have hd : decide ((N : Int) < 60) = true := by simp; omega
      have b1 : Hid (N + 1 ≤ maxLen ∧ (N + 1) * 1 ≤ 140737488355328) := by unfold Hid maxLen; omega
      have hsz := hbel.out.size
      clear hbs hl1 hn1 hm1 hA1
      go_wp2_with (at_builtin; refine append_onto rfl (.tmp 19) (.tmp 20) 27 rfl w.heap.size 5 i0 (.int .u8 0) 1 1 Tryz.underlying27 I0.out.1 I0.out.2.1 I0.out.2.2.1 I0.out.2.2.2 rfl (by decide) _ N (vals ((kd :: l) ++ List.replicate j 0)) rfl (hown.out.alloc _) (some ⟨wr.heap.size, 0, none⟩) 1 1 (vals [0]) rfl (fun h => by cases h) rfl (fun ad e => by injection e with e; subst e; exact World.news_of_block (heap_alloc_new wr _)) (vals_one _) b1.out.1 b1.out.2 (by simp; omega) ?_; intro v2 w2 hown2 hg2; rw [← vals_append, rep_snoc] at hown2)
      have HO2 := Lib.hid hown2
      clear hown2
      have hL2 : slLen v2 = N + 1 := by
        obtain ⟨A2, c2, rfl, _⟩ := own_bytes HO2.out (fun y hy => by
          rcases List.mem_append.1 hy with h | h
          · rcases List.mem_cons.1 h with rfl | h
            · omega
            · exact HLT.out y h
          · rw [(List.mem_replicate.1 h).2]; decide)
        rfl
      go_roundw
      case rel =>
        refine ⟨j + 1, N + 1, ?_, ?_, ?_, HO2, (hbel.out.alloc hsz _).grown hg2 (by simp; omega) (fun g e => (hown.out.lt g e).1)⟩
        · have := hN.out; omega
        · show _ = _
          have := hN.out; omega
        · exact hL2
      case measure =>
        rw [hL2]
        simp only [slLen]
        omega
    · have hd : decide ((N : Int) < 60) = false := by simp; omega
      obtain rfl : j = 59 - n := by have := hN.out; omega
      obtain rfl : N = 60 := by have := hN.out; omega
      have HO := hown
      rw [← HBODY.out] at HO hbs hl1
      have HL1 := Lib.hid hl1
      have HS1 : Hid (Bs wr wr.heap.size A1 (Fr.body (kd : Int) l)) := hbs
      have HSL : Hid (SlIs A1 60 c1) := sl_own hn1 hm1 hA1
      have HE : Hid (Fr.enc (kd : Int) (sa : Int) (se : Int) l = Fr.body (kd : Int) l ++ Wire.be 4 (Crc.U (Crc.upd 0#32 (Rc.spot (sa : Int) (se : Int) ++ Fr.body (kd : Int) l)))) := rfl
      have hU := Crc.U_lt (Crc.upd 0#32 (Rc.spot (sa : Int) (se : Int) ++ Fr.body (kd : Int) l))
      have HSP : Hid (Rc.spot (sa : Int) (se : Int) = ([] ++ Wire.be 8 sa) ++ Wire.be 4 se) := Fr.spot_eq _ _
      clear hown hbs hl1 hn1 hm1 hA1 HO0 HX0 HB0 HO1 HB1 hN HBODY ek
      generalize Fr.body (kd : Int) l = bd at *
      have HP1 := Lib.hid (refput_row none 0 0 0 [] sa 8 8 rfl wr sl_nil rfl (by decide) (bs_nil _ _) (by decide) (by decide))
      go_wp2_with fail
      refine HP1.out.mono ?_
      rintro e w2 ⟨A2, n2, c2, p2, rfl, hp2, hn2, hr2⟩
      have HR2 := Lib.hid hr2
      have h8 : n2 = 8 := hn2.out
      subst h8
      clear hr2
      go_wp2_with fail
      refine (refput_row A2 w2.heap.size 8 c2 p2 se 4 4 rfl w2 HR2.out.2.2.1 HR2.out.2.1 (by decide) HR2.out.2.2.2.1 (by decide) (by decide)).mono ?_
      rintro e w3 ⟨A3, n3, c3, p3, rfl, hp3, hn3, hr3⟩
      have HR3 := Lib.hid hr3
      have h12 : n3 = 12 := hn3.out
      subst h12
      clear hr3
      have HP3 : Hid (p3 = Rc.spot (sa : Int) (se : Int)) := by
        show _ = _
        rw [HSP.out, hp3.out, hp2.out]
      have HB3 : Hid (Below wr.heap.size wr w3) := HR2.out.2.2.2.2.trans (HR3.out.2.2.2.2.mono HR2.out.2.2.2.2.size)
      have HS3 : Hid (Bs w3 wr.heap.size A1 bd) := HS1.out.below HB3.out (Nat.le_refl _)
      have HAP : Hid ((A1 = none → 60 = 0 ∧ c1 = 0) ∧ (vals bd).length = 60 * 1) := ⟨fun e => ⟨by have := (HSL.out.1 e).2; omega, (HSL.out.1 e).1⟩, by rw [vals_length, HL1.out]⟩
      rw [← HP3.out] at HE hU
      clear hp2 hp3 hn2 hn3 HSP HP1
      go_wp2_with (at_builtin; refine append_onto rfl (.tmp 29) (.tmp 30) 27 rfl w2.heap.size 5 i0 (.int .u8 0) 1 1 Tryz.underlying27 I0.out.1 I0.out.2.1 I0.out.2.2.1 I0.out.2.2.2 rfl (by decide) _ 12 (vals p3) rfl HR3.out.1 A1 60 c1 (vals bd) rfl HAP.out.1 HAP.out.2 (fun ad e => by have h := HS3.out; rw [e] at h; exact h.cells) (vals_one _) (by decide) (by decide) HR3.out.2.2.2.2.size ?_; intro v4 w4 hown4 hg4; rw [← vals_append] at hown4; have HO4 := Lib.hid hown4; have HB4 : Hid (Below w2.heap.size w3 w4) := (Below.refl _ _).grown hg4 HR3.out.2.2.2.2.size (fun g e => (HR3.out.1.lt g e).1); clear hown4 hg4; obtain ⟨A4, c4, rfl, hbs4, hl4, hn4, hm4, ho4⟩ := own_bytes HO4.out (fun y hy => by (rcases List.mem_append.1 hy with h | h; exact HR3.out.2.2.2.1.lt y h; exact HBLT.out y h)); have HS4 := Lib.hid (And.intro hl4 hbs4); clear hl4 hbs4 hn4 hm4 ho4)
      refine (refsum_any A4 w4.heap.size c4 72 (p3 ++ bd) w4 HS4.out.1 (by decide) HS4.out.2).mono ?_
      rintro e w' ⟨rfl, rfl⟩
      have HBX : Hid (Below wr.heap.size wr w4) := HR2.out.2.2.2.2.trans ((HR3.out.2.2.2.2.trans HB4.out).mono HR2.out.2.2.2.2.size)
      generalize Crc.U (Crc.upd 0#32 (p3 ++ bd)) = q at *
      have HPT := Lib.hid (refput_row A1 wr.heap.size 60 c1 bd q 4 4 rfl w4 HSL.out HL1.out (by decide) (HS1.out.below HBX.out (Nat.le_refl _)) (by decide) (by decide))
      go_wp2_with fail
      refine HPT.out.mono ?_
      rintro e w5 ⟨A5, n5, c5, p5, rfl, hp5, hn5, hr5⟩
      have h64 : n5 = 64 := hn5.out
      subst h64
      have HR5 := Lib.hid hr5
      clear hr5
      go_wp2
      go_ret
      have HF : Fr.enc (kd : Int) (sa : Int) (se : Int) l = p5 := by rw [HE.out, ← hp5.out]
      rw [HF]
      exact ⟨A5, c5, rfl, ownsRow_mono HR5.out.1 (Nat.le_trans hbel.out.size HBX.out.size), hbel.out.trans ((HBX.out.trans (HR5.out.2.2.2.2.mono HBX.out.size)).mono hbel.out.size)⟩
end Go.Proofs.YtgnbmmceffolmaaGreatDoor
end
section
set_option maxRecDepth 100000
namespace Go.Proofs.YtgnbmmceffolmaaGreatDoor
open Go.RowKit
theorem grow_grow {S : Nat → Prop} {w w' : World} {k : Nat} (h : Grow (Grow S w) w' k) (hs : w.heap.size ≤ w'.heap.size) : Grow S w k := by
  rcases h with h | h
  · exact h
  · exact .inr (Nat.le_trans hs h)
theorem Kept.grow {S : Nat → Prop} {w w' w'' : World} (h : Kept S w w') (k : Kept (Grow S w) w' w'') : Kept S w w'' :=
  h.trans' k fun i hi hlt => hi.resolve_right (by omega)
theorem one_zero (w : World) : Bs (w.alloc (.cells #[.int .u8 0] 5)) (w.heap.size + 1) (some ⟨w.heap.size, 0, none⟩) [0] := fun k hk => by
  obtain rfl : k = 0 := by simpa using hk
  refine ⟨by decide, _, rfl, Nat.lt_succ_self _, ?_⟩
  rw [arr_flat, cell_of_row _ _ _ _ _ _ (heap_alloc_new w _)]
  rfl
theorem rep_next (st : List Nat) (j : Nat) : st ++ List.replicate (j + 1) 0 = (st ++ List.replicate j 0) ++ [0] := by
  rw [List.append_assoc]
  congr 1
  exact List.replicate_succ' ..
section
variable {w : World} {S : Nat → Prop} {g : Nat} {a b c d slot seq : Int} {st : List Nat} {k : Nat}
set_option maxHeartbeats 1000000 in
theorem pkpad_any (hp : Hid (PkIs 134 w S g a b c d slot seq st k)) (hn : st.length ≤ 120773) :
    Calls Tryz.prog 63 #[.pointer (some ⟨g, 0, none⟩)] w fun e w' => e = .returned (.tuple #[]) ∧ PkIs 134 w' (Grow S w) g a b c d slot seq (Pk.pad st) k ∧ Kept S w w' := by
  have HP : Hid (Pk.pad st = st ++ List.replicate ((59 - st.length % 59) % 59) 0) := rfl
  rw [HP.out]
  obtain ⟨m, hm⟩ : ∃ m, m = (59 - st.length % 59) % 59 := ⟨_, rfl⟩
  rw [← hm]
  clear HP
  go_enter Tryz.func63, Tryz.ntmps63
  go_wp2_with fail
  go_loopg [] m (fun gk wr => gk ≤ m ∧ Hid (PkIs 134 wr (Grow S w) g a b c d slot seq (st ++ List.replicate (m - gk) 0) k) ∧ Hid (Kept S w wr))
  case atStart => exact ⟨Nat.le_refl _, by rw [Nat.sub_self, List.replicate_zero, List.append_nil]; exact hp.out.mono fun _ _ h => .inl h, Kept.refl _ _⟩
  case round =>
    obtain ⟨hgk, hpr, hkr⟩ := hrel
    have HPR := hpr
    obtain ⟨A, cp, hh, hg, hr, hne⟩ := hpr.out
    have HL : Hid ((st ++ List.replicate (m - gk) 0).length = st.length + (m - gk)) := by
      show _ = _
      rw [List.length_append, List.length_replicate]
    rw [HL.out] at hh hr
    by_cases h0 : gk = 0
    · subst h0
      have f1 : ((((st.length + (m - 0) : Nat) : Int) % 59) != 0) = false := by simp only [bne_eq_false_iff_eq]; omega
      obtain ⟨-, -, -, -, -, -, z6, -⟩ := pk8 hh
      clear hh hg hr hne hm
      generalize st.length + (m - 0) = q at *
      go_wp2
      go_end0
      exact ⟨rfl, by simpa using HPR.out, hkr.out⟩
    · have f1 : ((((st.length + (m - gk) : Nat) : Int) % 59) != 0) = true := by rw [bne_iff_ne]; omega
      obtain ⟨-, -, -, -, -, -, z6, -⟩ := pk8 hh
      have hq : st.length + (m - gk) ≤ 130000 := by omega
      have HB : Hid (Below wr.heap.size wr (wr.alloc (.cells #[.int .u8 0] 5))) := (Below.refl _ wr).alloc (Nat.le_refl _) _
      have HH := Lib.hid ((HB.out.block g (Array.getElem?_eq_some_iff.1 hh).1).trans hh)
      have HR := Lib.hid ((hr.new HB.out).self)
      have HG := Lib.hid (And.intro hg (And.intro hr hne))
      have HZ := Lib.hid (one_zero wr)
      have HN : Hid (st ++ List.replicate (m - (gk - 1)) 0 = (st ++ List.replicate (m - gk) 0) ++ [0]) := by
        show _ = _
        rw [show m - (gk - 1) = (m - gk) + 1 by omega, rep_next]
      have hone := Nat.pos_of_ne_zero h0
      clear hh hg hr hne hm HL h0
      generalize hst : st ++ List.replicate (m - gk) 0 = s1 at *
      clear hst
      generalize st.length + (m - gk) = q at *
      go_wp2_with (at_builtin; refine append_sbytes rfl (.tmp 15) (.tmp 16) rfl _ q s1 rfl HR.out (some ⟨wr.heap.size, 0, none⟩) (wr.heap.size + 1) 1 1 [0] rfl ⟨(fun e => by cases e), Nat.le_refl _, by decide⟩ rfl HZ.out (by omega) ?_; intro v4 w4 hr4 hk4; obtain ⟨A4, c4, rfl, hs4⟩ := hr4.open_; have HH4 := Lib.hid (own_keeps HH.out HG.out.2.2 hk4); have HR4 := Lib.hid hr4; have HK4 := Lib.hid hk4; clear hr4 hk4 hs4 z6; obtain ⟨-, -, -, -, -, -, z6, -⟩ := pk8 HH4.out; obtain ⟨f6, -⟩ := pk8f HH4.out)
      have HFIN := Lib.hid (pk_grown HH.out HG.out.1 (HG.out.2.1.new HB.out) HG.out.2.2 HR4.out HK4.out HB.out)
      clear z6 f6
      generalize w4.setCell ⟨g, 6, none⟩ (.slice A4 (q + 1) c4) = w5 at *
      go_wp2
      go_roundg (gk - 1)
      case measure => omega
      case rel => exact ⟨by omega, by rw [HN.out]; exact HFIN.out.1.mono fun i _ e => grow_grow e hkr.out.size, hkr.out.grow HFIN.out.2⟩
set_option maxHeartbeats 1000000 in
theorem refpkpad_any (hp : Hid (PkIs 92 w S g a b c d slot seq st k)) (hn : st.length ≤ 120773) :
    Calls Tryz.prog 45 #[.pointer (some ⟨g, 0, none⟩)] w fun e w' => e = .returned (.tuple #[]) ∧ PkIs 92 w' (Grow S w) g a b c d slot seq (Pk.pad st) k ∧ Kept S w w' := by
  have HP : Hid (Pk.pad st = st ++ List.replicate ((59 - st.length % 59) % 59) 0) := rfl
  rw [HP.out]
  obtain ⟨m, hm⟩ : ∃ m, m = (59 - st.length % 59) % 59 := ⟨_, rfl⟩
  rw [← hm]
  clear HP
  go_enter Tryz.func45, Tryz.ntmps45
  go_wp2_with fail
  go_loopg [] m (fun gk wr => gk ≤ m ∧ Hid (PkIs 92 wr (Grow S w) g a b c d slot seq (st ++ List.replicate (m - gk) 0) k) ∧ Hid (Kept S w wr))
  case atStart => exact ⟨Nat.le_refl _, by rw [Nat.sub_self, List.replicate_zero, List.append_nil]; exact hp.out.mono fun _ _ h => .inl h, Kept.refl _ _⟩
  case round =>
    obtain ⟨hgk, hpr, hkr⟩ := hrel
    have HPR := hpr
    obtain ⟨A, cp, hh, hg, hr, hne⟩ := hpr.out
    have HL : Hid ((st ++ List.replicate (m - gk) 0).length = st.length + (m - gk)) := by
      show _ = _
      rw [List.length_append, List.length_replicate]
    rw [HL.out] at hh hr
    by_cases h0 : gk = 0
    · subst h0
      have f1 : ((((st.length + (m - 0) : Nat) : Int) % 59) != 0) = false := by simp only [bne_eq_false_iff_eq]; omega
      obtain ⟨-, -, -, -, -, -, z6, -⟩ := pk8 hh
      clear hh hg hr hne hm
      generalize st.length + (m - 0) = q at *
      go_wp2
      go_end0
      exact ⟨rfl, by simpa using HPR.out, hkr.out⟩
    · have f1 : ((((st.length + (m - gk) : Nat) : Int) % 59) != 0) = true := by rw [bne_iff_ne]; omega
      obtain ⟨-, -, -, -, -, -, z6, -⟩ := pk8 hh
      have hq : st.length + (m - gk) ≤ 130000 := by omega
      have HB : Hid (Below wr.heap.size wr (wr.alloc (.cells #[.int .u8 0] 5))) := (Below.refl _ wr).alloc (Nat.le_refl _) _
      have HH := Lib.hid ((HB.out.block g (Array.getElem?_eq_some_iff.1 hh).1).trans hh)
      have HR := Lib.hid ((hr.new HB.out).self)
      have HG := Lib.hid (And.intro hg (And.intro hr hne))
      have HZ := Lib.hid (one_zero wr)
      have HN : Hid (st ++ List.replicate (m - (gk - 1)) 0 = (st ++ List.replicate (m - gk) 0) ++ [0]) := by
        show _ = _
        rw [show m - (gk - 1) = (m - gk) + 1 by omega, rep_next]
      have hone := Nat.pos_of_ne_zero h0
      clear hh hg hr hne hm HL h0
      generalize hst : st ++ List.replicate (m - gk) 0 = s1 at *
      clear hst
      generalize st.length + (m - gk) = q at *
      go_wp2_with (at_builtin; refine append_sbytes rfl (.tmp 13) (.tmp 14) rfl _ q s1 rfl HR.out (some ⟨wr.heap.size, 0, none⟩) (wr.heap.size + 1) 1 1 [0] rfl ⟨(fun e => by cases e), Nat.le_refl _, by decide⟩ rfl HZ.out (by omega) ?_; intro v4 w4 hr4 hk4; obtain ⟨A4, c4, rfl, hs4⟩ := hr4.open_; have HH4 := Lib.hid (own_keeps HH.out HG.out.2.2 hk4); have HR4 := Lib.hid hr4; have HK4 := Lib.hid hk4; clear hr4 hk4 hs4 z6; obtain ⟨-, -, -, -, -, -, z6, -⟩ := pk8 HH4.out; obtain ⟨f6, -⟩ := pk8f HH4.out)
      have HFIN := Lib.hid (pk_grown HH.out HG.out.1 (HG.out.2.1.new HB.out) HG.out.2.2 HR4.out HK4.out HB.out)
      clear z6 f6
      generalize w4.setCell ⟨g, 6, none⟩ (.slice A4 (q + 1) c4) = w5 at *
      go_wp2
      go_roundg (gk - 1)
      case measure => omega
      case rel => exact ⟨by omega, by rw [HN.out]; exact HFIN.out.1.mono fun i _ e => grow_grow e hkr.out.size, hkr.out.grow HFIN.out.2⟩
end
end Go.Proofs.YtgnbmmceffolmaaGreatDoor
end
