/-
  Words on a packer in memory, and the walks of Off, Room, Bytes, frame and New.
-/
import Derived.Test.YtnadbokhcmbcaaaDoorPkMath
import Derived.Test.YtnadbokhcmbcaaaDoorGmWalk
import Derived.Test.YtnadbokhcmbcaaaDoorOwn
import Derived.Test.YtnadbokhcmbcaaaDoorRecEncode
import Derived.Test.YtnadbokhcmbcaaaDoorRecUse
set_option maxRecDepth 100000
namespace Go.Proofs.YtnadbokhcmbcaaaDoor
open Go.RowKit
/-- A packer: its struct in the block g, its stream in a row of S. T: the program's type, or the reference's. -/
def PkIs (T : TypeId) (w : World) (S : Nat → Prop) (g : Nat) (a b c d slot seq : Int) (st : List Nat) (k : Nat) : Prop :=
  ∃ (A : Option Addr) (cp : Nat), w.heap[g]? = some (.cells #[.int .i64 a, .int .i64 b, .int .i64 c, .int .i64 d, .int .i64 slot, .int .i64 seq, .slice A st.length cp, .int .i64 (k : Int)] T (0, 0)) ∧ S g ∧
    SRow S 5 1 w (.slice A st.length cp) st.length (vals st) ∧ ∀ ad, A = some ad → ad.block ≠ g
section
variable {T : TypeId} {w w' : World} {S U : Nat → Prop} {g : Nat} {a b c d slot seq : Int} {st : List Nat} {k : Nat}
theorem PkIs.lt (h : PkIs T w S g a b c d slot seq st k) : g < w.heap.size := by
  obtain ⟨A, cp, h1, -⟩ := h
  exact (Array.getElem?_eq_some_iff.1 h1).1
theorem PkIs.has (h : PkIs T w S g a b c d slot seq st k) : S g := by
  obtain ⟨A, cp, -, h1, -⟩ := h
  exact h1
theorem PkIs.kept (h : PkIs T w S g a b c d slot seq st k) (hk : Kept U w w') (hd : ∀ b, b < w.heap.size → S b → ¬ U b) : PkIs T w' S g a b c d slot seq st k := by
  have hlt := h.lt
  obtain ⟨A, cp, h1, h2, h3, h4⟩ := h
  exact ⟨A, cp, (hk.block g hlt (hd g hlt h2)).trans h1, h2, h3.kept hk hd, h4⟩
theorem PkIs.new (h : PkIs T w S g a b c d slot seq st k) (hb : Below w.heap.size w w') : PkIs T w' S g a b c d slot seq st k :=
  h.kept (Kept.of_new (S := fun _ => False) hb) fun _ _ _ e => e
theorem PkIs.mono (h : PkIs T w S g a b c d slot seq st k) (hs : ∀ b, b < w.heap.size → S b → U b) : PkIs T w U g a b c d slot seq st k := by
  have hlt := h.lt
  obtain ⟨A, cp, h1, h2, h3, h4⟩ := h
  exact ⟨A, cp, h1, hs g hlt h2, h3.mono hs, h4⟩
theorem PkIs.heap (h : PkIs T w S g a b c d slot seq st k) (e : w'.heap = w.heap) : PkIs T w' S g a b c d slot seq st k := by
  obtain ⟨A, cp, h1, h2, h3, h4⟩ := h
  exact ⟨A, cp, by rw [e]; exact h1, h2, ⟨ownsRow_block h3.1 fun b _ => by rw [e], h3.2⟩, h4⟩
end
theorem pk8 {w : World} {g : Nat} {a0 a1 a2 a3 a4 a5 a6 a7 : Value} {t : TypeId} (h : w.heap[g]? = some (.cells #[a0, a1, a2, a3, a4, a5, a6, a7] t (0, 0))) :
    w.cell? ⟨g, 0, none⟩ = some a0 ∧ w.cell? ⟨g, 1, none⟩ = some a1 ∧ w.cell? ⟨g, 2, none⟩ = some a2 ∧ w.cell? ⟨g, 3, none⟩ = some a3 ∧ w.cell? ⟨g, 4, none⟩ = some a4 ∧ w.cell? ⟨g, 5, none⟩ = some a5 ∧ w.cell? ⟨g, 6, none⟩ = some a6 ∧ w.cell? ⟨g, 7, none⟩ = some a7 := by
  refine ⟨?_, ?_, ?_, ?_, ?_, ?_, ?_, ?_⟩
  · rw [cell_of_row w g 0 _ t (0, 0) h]; rfl
  · rw [cell_of_row w g 1 _ t (0, 0) h]; rfl
  · rw [cell_of_row w g 2 _ t (0, 0) h]; rfl
  · rw [cell_of_row w g 3 _ t (0, 0) h]; rfl
  · rw [cell_of_row w g 4 _ t (0, 0) h]; rfl
  · rw [cell_of_row w g 5 _ t (0, 0) h]; rfl
  · rw [cell_of_row w g 6 _ t (0, 0) h]; rfl
  · rw [cell_of_row w g 7 _ t (0, 0) h]; rfl
theorem pk8f {w : World} {g : Nat} {a0 a1 a2 a3 a4 a5 a6 a7 : Value} {t : TypeId} (h : w.heap[g]? = some (.cells #[a0, a1, a2, a3, a4, a5, a6, a7] t (0, 0))) : w.frozen? ⟨g, 6, none⟩ = false ∧ w.frozen? ⟨g, 7, none⟩ = false :=
  ⟨frozen_of_row w g 6 _ t h, frozen_of_row w g 7 _ t h⟩
theorem pks8 {w W : World} {g : Nat} {a0 a1 a2 a3 a4 a5 a6 a7 : Value} {t : TypeId} (h : Sd w g (.cells #[a0, a1, a2, a3, a4, a5, a6, a7] t (0, 0)) W) :
    W.cell? ⟨g, 0, none⟩ = some a0 ∧ W.cell? ⟨g, 1, none⟩ = some a1 ∧ W.cell? ⟨g, 2, none⟩ = some a2 ∧ W.cell? ⟨g, 3, none⟩ = some a3 ∧ W.cell? ⟨g, 4, none⟩ = some a4 ∧ W.cell? ⟨g, 5, none⟩ = some a5 ∧ W.cell? ⟨g, 6, none⟩ = some a6 ∧ W.cell? ⟨g, 7, none⟩ = some a7 := pk8 h.1
theorem sd_here {w : World} {g : Nat} {o : Obj} (h : w.heap[g]? = some o) : Sd w g o w := ⟨h, Below.refl _ _⟩
/-- The blocks that a slice's value owns. -/
def Own (v : Value) (k : Nat) : Prop := v.ownBlock = some k
theorem SRow.self {S : Nat → Prop} {t : TypeId} {z n : Nat} {w : World} {v : Value} {xs : List Value} (h : SRow S t z w v n xs) : SRow (Own v) t z w v n xs := ⟨h.1, fun _ e => e⟩
/-- 'append(out, xs...)' at bytes, the operation alone. -/
theorem op_append_sbytes {w : World} {S : Nat → Prop} {o : Oper} {a : Act} {K : Act → World → Prop} {Q : Exit → Act → World → Prop} (s x : Operand)
    (ho : o.op = .call { callee := .builtin .append, args := #[s, x], argTypes := #[24, 24] })
    (v : Value) (n : Nat) (xs : List Nat) (hs : a.eval s = v) (hown : SRow S 5 1 w v n (vals xs)) (A : Option Addr) (B m c : Nat) (news : List Nat) (hx : a.eval x = .slice A m c) (hsl : SlIs A m c) (hl : news.length = m) (hb : Bs w B A news) (h63 : n + m ≤ 1000000)
    (h : ∀ v' w', SRow (Grow S w) 5 1 w' v' (n + m) (vals (xs ++ news)) → Kept S w w' → K (a.put o.dst v') w') : o.wp Tryd.prog a w K Q :=
  op_append_srow s x 24 ho 5 (.int .u8 0) 1 1 Tryd.underlying24 info_byte rfl (by decide) v n (vals xs) hs hown A m c (vals news) hx (fun e => ⟨(hsl.1 e).2, (hsl.1 e).1⟩) (by rw [vals_length, hl, Nat.mul_one]) (fun ad e => by subst e; exact hb.cells) (vals_one _) (by unfold maxLen; omega) (by omega) fun v' w' h1 h2 => h v' w' (by rw [vals_append]; exact h1) h2
/-- 'append(out, xs...)' at bytes. -/
theorem append_sbytes {w : World} {S : Nat → Prop} {ops : Array Oper} {rest : List Oper} {o : Oper} {a : Act} {Q : Exit → Act → World → Prop} (hgd : Region.wanted o (yielded ops a.tmps) = true) (s x : Operand)
    (ho : o.op = .call { callee := .builtin .append, args := #[s, x], argTypes := #[24, 24] })
    (v : Value) (n : Nat) (xs : List Nat) (hs : a.eval s = v) (hown : SRow S 5 1 w v n (vals xs)) (A : Option Addr) (B m c : Nat) (news : List Nat) (hx : a.eval x = .slice A m c) (hsl : SlIs A m c) (hl : news.length = m) (hb : Bs w B A news) (h63 : n + m ≤ 1000000)
    (h : ∀ v' w', SRow (Grow S w) 5 1 w' v' (n + m) (vals (xs ++ news)) → Kept S w w' → wpList Tryd.prog ops Q rest (a.put o.dst v') w') : wpList Tryd.prog ops Q (o :: rest) a w :=
  append_srow hgd s x 24 ho 5 (.int .u8 0) 1 1 Tryd.underlying24 info_byte rfl (by decide) v n (vals xs) hs hown A m c (vals news) hx (fun e => ⟨(hsl.1 e).2, (hsl.1 e).1⟩) (by rw [vals_length, hl, Nat.mul_one]) (fun ad e => by subst e; exact hb.cells) (vals_one _) (by unfold maxLen; omega) (by omega) fun v' w' h1 h2 => h v' w' (by rw [vals_append]; exact h1) h2
/-- The same at a step of a region that draws its order. -/
theorem step_append_sbytes {w : World} {S : Nat → Prop} {ops : Array Oper} {o : Oper} {a : Act} {K : Act → World → Prop} {Q : Exit → Act → World → Prop} {E : Prop} (hgd : Region.wanted o (yielded ops a.tmps) = true) (s x : Operand)
    (ho : o.op = .call { callee := .builtin .append, args := #[s, x], argTypes := #[24, 24] })
    (v : Value) (n : Nat) (xs : List Nat) (hs : a.eval s = v) (hown : SRow S 5 1 w v n (vals xs)) (A : Option Addr) (B m c : Nat) (news : List Nat) (hx : a.eval x = .slice A m c) (hsl : SlIs A m c) (hl : news.length = m) (hb : Bs w B A news) (h63 : n + m ≤ 1000000)
    (h : ∀ v' w', SRow (Grow S w) 5 1 w' v' (n + m) (vals (xs ++ news)) → Kept S w w' → K (a.put o.dst v') w') : if Region.wanted o (yielded ops a.tmps) = true then Oper.wp Tryd.prog o a w K Q else E :=
  step_append_srow hgd s x 24 ho 5 (.int .u8 0) 1 1 Tryd.underlying24 info_byte rfl (by decide) v n (vals xs) hs hown A m c (vals news) hx (fun e => ⟨(hsl.1 e).2, (hsl.1 e).1⟩) (by rw [vals_length, hl, Nat.mul_one]) (fun ad e => by subst e; exact hb.cells) (vals_one _) (by unfold maxLen; omega) (by omega) fun v' w' h1 h2 => h v' w' (by rw [vals_append]; exact h1) h2
section
variable {w : World} {S : Nat → Prop} {g : Nat} {a b c d slot seq : Int} {st : List Nat} {k : Nat}
theorem pkroom_any (hp : Hid (PkIs 48 w S g a b c d slot seq st k)) (hf : Pk.Fit ⟨a, b, c, d⟩ slot seq st k) :
    Calls Tryd.prog 18 #[.pointer (some ⟨g, 0, none⟩)] w fun e w' => e = .returned (.int .i64 ((Pk.cap ⟨a, b, c, d⟩ : Int) - (st.length : Int))) ∧ Below w.heap.size w w' := by
  have CC : Hid (∀ W, Calls Tryd.prog 11 #[.agg #[.int .i64 a, .int .i64 b, .int .i64 c, .int .i64 d]] W fun r w' => r = .returned (.int .i64 (Pk.cap ⟨a, b, c, d⟩ : Int)) ∧ Below W.heap.size W w') := fun W => by
    rw [← (Pk.cap_eq hf.ok.1.1).1]
    exact gmcap_any a b c d W
  have h1 := (Pk.cap_eq hf.ok.1.1).2.2.1
  have h2 := hf.short
  generalize Pk.cap ⟨a, b, c, d⟩ = C at *
  obtain ⟨A, cp, hh, -⟩ := hp.out
  clear hp hf
  have HS0 := Lib.hid (sd_here hh)
  obtain ⟨z0, z1, z2, z3, z4, z5, z6, z7⟩ := pk8 hh
  have m1 : IntKind.i64.wrap ((C : Int) - (st.length : Int)) = (C : Int) - (st.length : Int) := by rw [IntKind.wrap_i64]; omega
  clear hh
  generalize st.length = n at *
  go_enter Tryd.func18, Tryd.ntmps18
  go_wp2_with fail
  go_region_held3 (fun W => W.cell? ⟨g, 0, none⟩ = some (.int .i64 a) ∧ W.cell? ⟨g, 1, none⟩ = some (.int .i64 b) ∧ W.cell? ⟨g, 2, none⟩ = some (.int .i64 c) ∧ W.cell? ⟨g, 3, none⟩ = some (.int .i64 d) ∧ W.cell? ⟨g, 4, none⟩ = some (.int .i64 slot) ∧ W.cell? ⟨g, 5, none⟩ = some (.int .i64 seq) ∧ W.cell? ⟨g, 6, none⟩ = some (.slice A n cp) ∧ W.cell? ⟨g, 7, none⟩ = some (.int .i64 (k : Int)))
    (first
      | go_keep
      | (revert HS1; intro HS1; with_reducible exact pks8 HS1.out))
    (first
      | (go_at_call 11; refine (CC.out _).mono ?_; rintro e w1 ⟨rfl, hb1⟩; have HS1 := Lib.hid (HS0.out.next hb1 (by rfl) (by rfl) (by rfl) (by rfl)); clear hb1))
  all_goals
    go_wp2
    go_ret
    first
      | exact ⟨rfl, HS1.out.2⟩
      | exact ⟨gm_int m1, HS1.out.2⟩
theorem SRow.box {S : Nat → Prop} {t : TypeId} {z n : Nat} {w : World} {v : Value} {xs : List Value} (h : SRow S t z w v n xs) (hn : 0 < n) : ∃ g c, v = .slice (some ⟨g, 0, none⟩) n c ∧ n ≤ c ∧ c ≤ maxLen := by
  rcases h.1.2 with ⟨_, rfl⟩ | ⟨g, cap, cur, e, _, _, h1, h2, _⟩
  · exact absurd hn (Nat.lt_irrefl _)
  · exact ⟨g, cap, e, h1, h2⟩
theorem SRow.bs {S : Nat → Prop} {t : TypeId} {n : Nat} {w : World} {A : Option Addr} {cp : Nat} {l : List Nat} (h : SRow S t 1 w (.slice A n cp) n (vals l)) (hlt : ∀ x ∈ l, x < 256) : Bs w w.heap.size A l := by
  obtain ⟨A', cap, e, hb, -⟩ := own_bytes h.1 hlt
  injection e with e1
  subst e1
  exact hb
theorem Bs.sub {w : World} {B g : Nat} {l : List Nat} (h : Bs w B (some ⟨g, 0, none⟩) l) (i n : Nat) : Bs w B (some ⟨g, i, none⟩) (Rc.sub l i n) := fun k hk => by
  unfold Rc.sub at hk ⊢
  rw [List.length_take, List.length_drop] at hk
  rw [getD_take _ _ _ (by omega), getD_drop]
  obtain ⟨h1, ad, e, h3, h4⟩ := h (i + k) (by omega)
  injection e with e
  subst e
  refine ⟨h1, _, rfl, h3, ?_⟩
  rw [arr_flat] at h4 ⊢
  rwa [Nat.zero_add] at h4
/-- The part of the stream that Bytes is asked for. -/
def Pk.part (st : List Nat) (off n : Int) : List Nat := if 0 ≤ off ∧ 0 ≤ n ∧ n ≤ (st.length : Int) - off then Rc.sub st off.toNat n.toNat else []
/-- What New leaves. -/
def PkNew (w : World) (a b c d slot seq : Int) (e : Ending) (w' : World) : Prop :=
  ∃ p, e = .returned (.tuple #[p, .int .i64 (Pk.may ⟨a, b, c, d⟩ slot seq)]) ∧ Below w.heap.size w w' ∧ (¬ Pk.ok ⟨a, b, c, d⟩ slot seq → p = .pointer none) ∧
    (Pk.ok ⟨a, b, c, d⟩ slot seq → ∃ g, p = .pointer (some ⟨g, 0, none⟩) ∧ w.heap.size ≤ g ∧ PkIs 48 w' (fun k => w.heap.size ≤ k) g a b c d slot seq [] 0)
set_option maxHeartbeats 1000000 in
theorem pknew_any (a b c d slot seq : Int) (w : World) :
    Calls Tryd.prog 7 #[.agg #[.int .i64 a, .int .i64 b, .int .i64 c, .int .i64 d], .int .i64 slot, .int .i64 seq] w (PkNew w a b c d slot seq) := by
  have CF := Lib.hid (fun W => sbform_any a b c d W)
  have C1 := Lib.hid (fun W => gmfirst_any a b c d slot W)
  have HS0 := Lib.hid (sd_new w #[.int .i64 a, .int .i64 b, .int .i64 c, .int .i64 d] 23)
  unfold PkNew
  by_cases hf : Sb.form ⟨a, b, c, d⟩
  · rw [decide_eq_true hf] at CF
    have hways : (¬ Pk.ok ⟨a, b, c, d⟩ slot seq ∧ (decide (Gm.first ⟨a, b, c, d⟩ slot < 0) = true ∨ decide (Gm.first ⟨a, b, c, d⟩ slot < 0) = false ∧ (decide (seq < 1) = true ∨ decide (seq < 1) = false ∧ decide (281474976710655 < seq) = true))) ∨ (Pk.ok ⟨a, b, c, d⟩ slot seq ∧ decide (Gm.first ⟨a, b, c, d⟩ slot < 0) = false ∧ decide (seq < 1) = false ∧ decide (281474976710655 < seq) = false) := by
      simp only [decide_eq_true_eq, decide_eq_false_iff_not]
      by_cases hh : Gm.has ⟨a, b, c, d⟩ slot
      · have h1 : Gm.first ⟨a, b, c, d⟩ slot = Gm.spot ⟨a, b, c, d⟩ slot := if_pos hh
        have h2 := Gm.spot_small hf hh.2.1 (Int.le_of_lt hh.2.2)
        have h3 : Gm.spot ⟨a, b, c, d⟩ slot = 74 + slot * c := rfl
        simp only at h2
        unfold Pk.ok
        rw [h1]
        by_cases h4 : 1 ≤ seq ∧ seq ≤ 281474976710655
        · exact .inr ⟨⟨hh, h4⟩, by omega, by omega, by omega⟩
        · exact .inl ⟨fun h => h4 h.2, .inr ⟨by omega, by omega⟩⟩
      · have h1 : Gm.first ⟨a, b, c, d⟩ slot = -1 := if_neg hh
        exact .inl ⟨fun h => hh h.1, .inl (by rw [h1]; omega)⟩
    rcases hways with ⟨hno, hw⟩ | ⟨hok, f1, f2, f3⟩
    · have he : Hid (Pk.may ⟨a, b, c, d⟩ slot seq = 2) := by show _ = _; unfold Pk.may; rw [if_pos hf, if_neg hno]
      rw [he.out]
      have HNO := Lib.hid hno
      clear he hf hno
      generalize Gm.first ⟨a, b, c, d⟩ slot = x at *
      rcases hw with f1 | ⟨f1, f2 | ⟨f2, f3⟩⟩
      all_goals
        go_enter Tryd.func7, Tryd.ntmps7
        go_upto_region 1 with fail
        generalize w.alloc (.cells #[.int .i64 a, .int .i64 b, .int .i64 c, .int .i64 d] 23) = w0 at *
        obtain ⟨z0, z1, z2, z3⟩ := four_cells HS0.out.1
        go_wp2_with fail
        refine (CF.out _).mono ?_
        rintro r w1 ⟨rfl, hb1⟩
        have HS1 := Lib.hid (HS0.out.next hb1 (by rfl) (by rfl) (by rfl) (by rfl))
        clear hb1
        obtain ⟨y0, y1, y2, y3⟩ := four_cells HS1.out.1
        go_wp2_with fail
        refine (C1.out _).mono ?_
        rintro r w2 ⟨rfl, hb2⟩
        have HS2 := Lib.hid (HS1.out.next hb2 (by rfl) (by rfl) (by rfl) (by rfl))
        clear hb2
        go_wp2_with fail
        go_ret2
        exact ⟨_, rfl, HS2.out.2, fun _ => rfl, fun h => absurd h HNO.out⟩
    · have he : Hid (Pk.may ⟨a, b, c, d⟩ slot seq = 0) := Pk.may_zero hok
      rw [he.out]
      have HOK := Lib.hid hok
      clear he hf hok
      generalize Gm.first ⟨a, b, c, d⟩ slot = x at *
      go_enter Tryd.func7, Tryd.ntmps7
      go_upto_region 1 with fail
      generalize w.alloc (.cells #[.int .i64 a, .int .i64 b, .int .i64 c, .int .i64 d] 23) = w0 at *
      obtain ⟨z0, z1, z2, z3⟩ := four_cells HS0.out.1
      go_wp2_with fail
      refine (CF.out _).mono ?_
      rintro r w1 ⟨rfl, hb1⟩
      have HS1 := Lib.hid (HS0.out.next hb1 (by rfl) (by rfl) (by rfl) (by rfl))
      clear hb1
      obtain ⟨y0, y1, y2, y3⟩ := four_cells HS1.out.1
      go_wp2_with fail
      refine (C1.out _).mono ?_
      rintro r w2 ⟨rfl, hb2⟩
      have HS2 := Lib.hid (HS1.out.next hb2 (by rfl) (by rfl) (by rfl) (by rfl))
      clear hb2
      obtain ⟨x0, x1, x2, x3⟩ := four_cells HS2.out.1
      go_wp2_with fail
      go_ret2
      have hs := HS2.out.2.size
      exact ⟨_, rfl, HS2.out.2.alloc hs _, fun h => absurd HOK.out h, fun _ => ⟨_, rfl, hs, none, 0, heap_alloc_new _ _, hs, SRow.nil, fun _ e => by cases e⟩⟩
  · have he : Hid (Pk.may ⟨a, b, c, d⟩ slot seq = 4) := by show _ = _; unfold Pk.may; rw [if_neg hf]
    rw [he.out]
    have HNO : Hid (¬ Pk.ok ⟨a, b, c, d⟩ slot seq) := fun h => hf h.1.1
    rw [decide_eq_false hf] at CF
    clear he hf
    go_enter Tryd.func7, Tryd.ntmps7
    go_upto_region 1 with fail
    generalize w.alloc (.cells #[.int .i64 a, .int .i64 b, .int .i64 c, .int .i64 d] 23) = w0 at *
    obtain ⟨z0, z1, z2, z3⟩ := four_cells HS0.out.1
    go_wp2_with fail
    refine (CF.out _).mono ?_
    rintro r w1 ⟨rfl, hb1⟩
    have HS1 := Lib.hid (HS0.out.next hb1 (by rfl) (by rfl) (by rfl) (by rfl))
    clear hb1
    go_wp2_with fail
    go_ret2
    exact ⟨_, rfl, HS1.out.2, fun _ => rfl, fun h => absurd h HNO.out⟩
end
end Go.Proofs.YtnadbokhcmbcaaaDoor
