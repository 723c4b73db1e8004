/-
  Words of the statement on Drop: calls that came in, items that were handed back, the row of such rows.
-/
import Derived.Test.YtlhjofcpcccdpaaChLawOwn
import Derived.Test.YtlhjofcpcccdpaaEqWords
import Derived.Test.YtlhjofcpcccdpaaRowApp
set_option maxRecDepth 100000
namespace Go.Proofs.Ytlhjofcpcccdpaa
open Go.RowKit Go.Maps
/-- A call of the statements: Kind, Seq, Off, Key; the numbers are whole numbers of 64 bits. -/
structure COp where
  kd : Int
  sq : Int
  of : Int
  k : ByteArray
  h1 : (Lit.int .i64 sq).wf = true
  h2 : (Lit.int .i64 of).wf = true
def COp0 : COp := ⟨0, 0, 0, ⟨#[]⟩, by decide, by decide⟩
def copc (p : COp) : List Value := [.int .i64 p.kd, .int .i64 p.sq, .int .i64 p.of, .string p.k]
def copS : Shape COp := ⟨copc, COp0, 4, fun _ => rfl, by decide, fun p u hu => by
  simp only [copc, List.mem_cons, List.not_mem_nil, or_false] at hu
  rcases hu with rfl | rfl | rfl | rfl <;> rfl⟩
theorem cops_at {w : World} {lo B : Nat} {ad : Addr} {l : List COp} (h : Arr copS w lo B (some ad) l) (i : Nat) (hi : i < l.length) (p : COp) (e : l.getD i copS.z = p) :
    w.cell? (ad.add (i * 4)) = some (.int .i64 p.kd) ∧ w.cell? ⟨(ad.add (i * 4)).block, (ad.add (i * 4)).off + 1, none⟩ = some (.int .i64 p.sq) ∧ w.cell? ⟨(ad.add (i * 4)).block, (ad.add (i * 4)).off + 2, none⟩ = some (.int .i64 p.of) ∧ w.cell? ⟨(ad.add (i * 4)).block, (ad.add (i * 4)).off + 3, none⟩ = some (.string p.k) := by
  have h4 : ∀ j v, (copc p)[j]? = some v → w.cell? (ad.add (i * 4 + j)) = some v := fun j v hv => h.cell i hi j v (by rw [e]; exact hv)
  have g : ∀ j, 0 < j → ∀ v, (copc p)[j]? = some v → w.cell? ⟨(ad.add (i * 4)).block, (ad.add (i * 4)).off + j, none⟩ = some v := fun j hj v hv => by
    have := h4 j v hv
    rwa [at_field _ _ _ hj] at this
  exact ⟨h4 0 _ rfl, g 1 (by decide) _ rfl, g 2 (by decide) _ rfl, g 3 (by decide) _ rfl⟩
theorem ch_and (n : Int) (k : Nat) (ki : Int) (hk : (BitVec.ofInt 64 ki).toNat = k) (hk2 : k < 4611686018427387904) : ∃ N : Nat, N ≤ k ∧ bits .and .i64 n ki = (N : Int) := by
  have hle : (BitVec.ofInt 64 n).toNat &&& k ≤ k := Nat.and_le_right
  refine ⟨(BitVec.ofInt 64 n).toNat &&& k, hle, ?_⟩
  show IntKind.i64.wrap ((BitVec.ofInt 64 n &&& BitVec.ofInt 64 ki).toNat : Int) = _
  rw [BitVec.toNat_and, hk, IntKind.wrap_i64]
  omega
theorem wf_nat (n : Nat) (h : n ≤ 1000) : (Lit.int .i64 (n : Int)).wf = true := WalkArith.wf_i64 (by omega)
/-- The items l lie in block g. -/
def ItAt (w : World) (g : Nat) (l : List Ch.It) : Prop := ∀ i, i < l.length → w.cell? ⟨g, i * 2, none⟩ = some (.int .i64 (l.getD i Ch.It0).1) ∧ w.cell? ⟨g, i * 2 + 1, none⟩ = some (.string (l.getD i Ch.It0).2)
theorem ItAt.of {w : World} {lo B g : Nat} {l : List Ch.It} (h : Arr itS w lo B (some ⟨g, 0, none⟩) l) : ItAt w g l := fun i hi => its_at h i hi _ _ rfl
theorem ItAt.kept {T : Nat → Prop} {w w' : World} {g : Nat} {l : List Ch.It} (h : ItAt w g l) (hk : Kept T w w') (hg : ¬ T g) : ItAt w' g l := fun i hi => by
  obtain ⟨h1, h2⟩ := h i hi
  have hlt := World.block_lt_of_cell? w _ h1
  exact ⟨(World.cell?_of_block (hk.block g hlt hg)).trans h1, (World.cell?_of_block (hk.block g hlt hg)).trans h2⟩
/-- A slice of items. -/
structure Sl where
  g : Nat
  n : Nat
  c : Nat
def slc (p : Sl) : List Value := [.slice (some ⟨p.g, 0, none⟩) p.n p.c]
def slS : Shape Sl := ⟨slc, ⟨0, 0, 0⟩, 1, fun _ => rfl, by decide, fun p u hu => by
  simp only [slc, List.mem_cons, List.not_mem_nil, or_false] at hu
  subst hu; rfl⟩
theorem sls_at {w : World} {lo B : Nat} {ad : Addr} {l : List Sl} (h : Arr slS w lo B (some ad) l) (i : Nat) (hi : i < l.length) (p : Sl) (e : l.getD i slS.z = p) : w.cell? (ad.add i) = some (.slice (some ⟨p.g, 0, none⟩) p.n p.c) := by
  have := h.cell i hi 0 _ (by rw [e]; rfl)
  rwa [show i * slS.m + 0 = i from Nat.mul_one i] at this
/-- The slice of the items of region j. -/
def BOk (w : World) (S R : Nat → Prop) (H : Int → List Ch.It) (j : Nat) (p : Sl) : Prop := p.n = (H j).length ∧ p.n ≤ p.c ∧ p.c ≤ maxLen ∧ p.g < w.heap.size ∧ ¬ S p.g ∧ ¬ R p.g ∧ ItAt w p.g (H j)
/-- The row of the first regions' items, apart from the chain's blocks. -/
structure Bef (B : Nat) (w : World) (S R : Nat → Prop) (H : Int → List Ch.It) (v : Value) (xs : List Sl) : Prop where
  row : SRow R 34 1 w v xs.length (slS.flat xs)
  r : ∀ k, R k → k < w.heap.size → B ≤ k ∧ ¬ S k
  each : ∀ j, j < xs.length → BOk w S R H j (xs.getD j slS.z)
section
variable {B : Nat} {w w' : World} {S R T : Nat → Prop} {H : Int → List Ch.It} {v v' : Value} {xs : List Sl}
theorem BOk.kept {j : Nat} {p : Sl} (h : BOk w S R H j p) (hk : Kept T w w') (hd : ∀ k, k < w.heap.size → ¬ S k → ¬ R k → ¬ T k) : BOk w' S R H j p := by
  obtain ⟨h1, h2, h3, h4, h5, h6, h7⟩ := h
  exact ⟨h1, h2, h3, Nat.lt_of_lt_of_le h4 hk.size, h5, h6, h7.kept hk (hd _ h4 h5 h6)⟩
theorem Bef.kept (h : Bef B w S R H v xs) (hk : Kept T w w') (hT : ∀ k, k < w.heap.size → T k → S k) : Bef B w' S (fun k => R k ∧ k < w.heap.size) H v xs := by
  have h1 : SRow (fun k => R k ∧ k < w.heap.size) 34 1 w v xs.length (slS.flat xs) := h.row.mono fun k hl hr => ⟨hr, hl⟩
  refine ⟨h1.kept hk fun k hl hr ht => (h.r k hr.1 hl).2 (hT k hl ht), fun k hr hl => h.r k hr.1 hr.2, fun j hj => ?_⟩
  obtain ⟨h1, h2, h3, h4, h5, h6, h7⟩ := h.each j hj
  exact ⟨h1, h2, h3, Nat.lt_of_lt_of_le h4 hk.size, h5, fun h => h6 h.1, h7.kept hk fun ht => h5 (hT _ h4 ht)⟩
theorem Bef.next (h : Bef B w S R H v xs) (hb : Below w.heap.size w w') : Bef B w' S (fun k => R k ∧ k < w.heap.size) H v xs := h.kept (Kept.of_new hb : Kept (fun _ => False) w w') fun _ _ e => e.elim
/-- One more. -/
theorem Bef.push (h : Bef B w S R H v xs) (hS : ∀ k, S k → k < w.heap.size) (hB : B ≤ w.heap.size) {p : Sl} (hp : BOk w S R H xs.length p) (hr : SRow (Grow R w) 34 1 w' v' (xs.length + 1) (slS.flat (xs ++ [p]))) (hk : Kept R w w') : Bef B w' S (Grow R w) H v' (xs ++ [p]) := by
  refine ⟨by rw [List.length_append]; exact hr, fun k hr hl => ?_, fun j hj => ?_⟩
  · rcases hr with hr | hr
    · by_cases hlt : k < w.heap.size
      · exact h.r k hr hlt
      · exact ⟨by omega, fun hs => hlt (hS k hs)⟩
    · exact ⟨by omega, fun hs => by have := hS k hs; omega⟩
  · have ok : ∀ q, BOk w S R H j q → BOk w' S (Grow R w) H j q := fun q hq => by
      obtain ⟨h1, h2, h3, h4, h5, h6, h7⟩ := hq
      exact ⟨h1, h2, h3, Nat.lt_of_lt_of_le h4 hk.size, h5, fun hg => hg.elim h6 fun hg => by omega, h7.kept hk h6⟩
    rw [List.length_append, List.length_singleton] at hj
    rcases Nat.lt_or_ge j xs.length with h1 | h1
    · rw [List.getD_eq_getElem?_getD, List.getElem?_append_left h1, ← List.getD_eq_getElem?_getD]
      exact ok _ (h.each j h1)
    · obtain rfl : j = xs.length := by omega
      rw [List.getD_eq_getElem?_getD, List.getElem?_append_right (Nat.le_refl _), Nat.sub_self]
      exact ok _ hp
end
/-- 'append(s, p)' in a walk: p lies in a box that was made for it; rows in blocks of a set. -/
theorem append_one {α : Type} {Sh : Shape α} {P : Program} {w : World} {S : Nat → Prop} {ops : Array Oper} {rest : List Oper} {o : Oper} {a : Act} {Q : Exit → Act → World → Prop} {e : TypeId} {zv : Value} {bytes : Nat} (hgd : Region.wanted o (yielded ops a.tmps) = true) (s x : Operand) (t : TypeId) (ho : o.op = .call { callee := .builtin .append, args := #[s, x], argTypes := #[t, t] })
    (ht : P.underlying t = some (.slice e)) (hi : (P.info? e).map (fun i => (i.zero, i.size, i.bytes)) = some (some zv, Sh.m, bytes)) (hzs : zv.cells.size = Sh.m)
    (v : Value) (n : Nat) (l : List α) (hs : a.eval s = v) (hown : SRow S e Sh.m w v n (Sh.flat l)) (g c : Nat) (p : α) (hx : a.eval x = .slice (some ⟨g, 0, none⟩) 1 c) (hg : w.heap[g]? = some (.cells (Sh.cs p).toArray e (0, 0))) (h63 : n ≤ 1000000) (hbytes : (n + 1) * bytes ≤ 140737488355328)
    (h : ∀ v' w', SRow (Grow S w) e Sh.m w' v' (n + 1) (Sh.flat (l ++ [p])) → Kept S w w' → wpList P ops Q rest (a.put o.dst v') w') : wpList P ops Q (o :: rest) a w :=
  BigFrame.wpList_want hgd fun _ hK => op_append_one s x t ho ht hi hzs v n l hs hown g c p hx hg h63 hbytes fun v' w' h1 h2 => hK _ _ (h v' w' h1 h2)
theorem item_fields : (Try.prog.fieldsOf 45).toList.map (fun f => (f.name, f.type, f.offset)) = [("Off", 3, 0), ("Key", 9, 1)] := by kernel_rfl
theorem item_stood : Try.prog.stoodInHeld 45 = false := by kernel_rfl
theorem item_under : Try.prog.underlying 45 = some (.struct (Try.prog.fieldsOf 45)) := by kernel_rfl
theorem item_self (w : World) (o : Int) (k : ByteArray) : (Op.equalIn 10000 45 (.agg #[.int .i64 o, .string k]) (.agg #[.int .i64 o, .string k])).run Try.prog w = .ok true w := by
  rw [run_equalIn_struct w 9999 _ _ _ item_under item_stood]
  have hf := item_fields
  generalize (Try.prog.fieldsOf 45).toList = fs at hf ⊢
  obtain ⟨f0, r0, rfl, e0, hf⟩ := List.map_eq_cons_iff.1 hf
  obtain ⟨f1, r1, rfl, e1, hf⟩ := List.map_eq_cons_iff.1 hf
  obtain rfl := List.map_eq_nil_iff.1 hf
  have hs : ∀ cs : Array Value, cs[1]? = some (.string k) → (part 9 cs 1).run Try.prog w = .ok (.string k) w := fun cs h => by
    simp [part, isAgg, run_underlying Try.underlying9, h]
  rw [eq_field w Try.underlying3 e0 (by decide) 9998 _ _ o o rfl rfl, if_pos (beq_self_eq_true _),
    eq_fieldG w e1 (by decide) 9999 _ _ (.string k) (.string k) (hs _ rfl) (hs _ rfl) (str_self 9998 w k)]
  rfl
theorem info_items : (Try.prog.info? 34).map (fun i => (i.zero, i.size, i.bytes)) = some (some (.slice none 0 0), slS.m, 24) := by kernel_rfl
end Go.Proofs.Ytlhjofcpcccdpaa
