/-
  Small words that many layers share: values of slices and records, boxes that stay, bytes compared and cloned, appends, what a call leaves; no record is spoken of.
-/
import Derived.Test.YtjfgnojmdbfnmaaDoorRows
import Derived.Test.YtjfgnojmdbfnmaaDoorRowWords
import Derived.Test.YtjfgnojmdbfnmaaDoorWirePut
import Derived.Test.YtjfgnojmdbfnmaaDoorWireRef
import Derived.Test.YtjfgnojmdbfnmaaDoorRecMath
import Derived.Test.YtjfgnojmdbfnmaaDoorCrcLaws
import Derived.Deep.RegionHeld3
import Derived.BigQuiet
import Derived.Deep.Grids
import Derived.Laws.ResultCell
import Derived.Laws.BytesArg
import Derived.Laws.BytesString
import Derived.Lib.Bytes
import Derived.Lib.AppendZerosOnto
import Derived.Deep.AppendLies
import Derived.Laws.Rows
import Derived.ArgAppend
import Derived.Laws.OwnMore
import Derived.BigRegion
import Derived.RegionTactic
import Derived.Lib.SlBytesConst
import Derived.OpenShut
import Derived.ProofKit
namespace Go.Proofs.YtjfgnojmdbfnmaaDoor
open Go.RowKit
/-- A slice value: nil, or with bounds. -/
def SlIs (A : Option Addr) (n cap : Nat) : Prop := (A = none → cap = 0 ∧ n = 0) ∧ n ≤ cap ∧ cap ≤ 9223372036854775807
theorem ret_bool {a b : Bool} (h : a = b) : Ending.returned (.bool a) = .returned (.bool b) := by rw [h]
theorem four_cells {w : World} {g : Nat} {a b c d : Value} {t : TypeId} (h : w.heap[g]? = some (.cells #[a, b, c, d] t (0, 0))) :
    w.cell? ⟨g, 0, none⟩ = some a ∧ w.cell? ⟨g, 1, none⟩ = some b ∧ w.cell? ⟨g, 2, none⟩ = some c ∧ w.cell? ⟨g, 3, none⟩ = some d := by
  refine ⟨?_, ?_, ?_, ?_⟩
  · rw [cell_of_row w g 0 _ t (0, 0) h]; rfl
  · rw [cell_of_row w g 1 _ t (0, 0) h]; rfl
  · rw [cell_of_row w g 2 _ t (0, 0) h]; rfl
  · rw [cell_of_row w g 3 _ t (0, 0) h]; rfl
/-- The new block of a record, behind a call that keeps what there was. -/
theorem boxed {w w1 : World} {a b c d : Value} {t : TypeId} (hb : Below (w.alloc (.cells #[a, b, c, d] t)).heap.size (w.alloc (.cells #[a, b, c, d] t)) w1) :
    w1.heap[w.heap.size]? = some (.cells #[a, b, c, d] t (0, 0)) := (hb.block _ (by simp)).trans (heap_alloc_new w _)
theorem below_drawn {B : Nat} {a b : World} (h : Below B a b) (k : Nat) : Below B a (b.drewN k) := ⟨h.os, h.tape, h.output, h.size, h.block⟩
theorem alloc_at {w : World} {o : Obj} {g : Nat} (h : g = w.heap.size) : (w.alloc o).heap[g]? = some o := by subst h; exact heap_alloc_new w o
theorem add_zero_block (g i : Nat) : (Addr.mk g 0 none).add i = ⟨g, i, none⟩ := by
  unfold Addr.add
  by_cases h : i = 0
  · subst h; rfl
  · simp [h]
theorem sl_own {A : Option Addr} {n c : Nat} {g0 s : Nat} (h1 : n ≤ c) (h2 : c ≤ maxLen) (h3 : (A = none ∧ n = 0 ∧ c = 0) ∨ ∃ g, A = some ⟨g, 0, none⟩ ∧ g0 ≤ g ∧ g < s) : SlIs A n c := by
  refine ⟨fun e => ?_, h1, h2⟩
  rcases h3 with ⟨_, h, h'⟩ | ⟨g, h, _⟩
  · exact ⟨h', h⟩
  · rw [h] at e; cases e
theorem Bs.heap {w w' : World} {B : Nat} {A : Option Addr} {l : List Nat} (h : Bs w B A l) (e : w'.heap = w.heap) : Bs w' B A l := fun k hk => by
  obtain ⟨h1, ad, h2, h3, h4⟩ := h k hk
  exact ⟨h1, ad, h2, h3, (World.cell?_of_block (by rw [e])).trans h4⟩
theorem TabW.heap {w w' : World} (h : TabW w) (e : w'.heap = w.heap) : TabW w' := fun k hk => (World.cell?_of_block (by rw [e])).trans (h k hk)
theorem cells_12 {w : World} {g : Nat} {a b c d : Value} {t : TypeId} (h : w.heap[g]? = some (.cells #[a, b, c, d] t (0, 0))) : w.cell? ⟨g, 1, none⟩ = some b ∧ w.cell? ⟨g, 2, none⟩ = some c := by
  obtain ⟨_, h1, h2, _⟩ := four_cells h
  exact ⟨h1, h2⟩
/-- Bytes as a string. -/
def strOf (l : List Nat) : ByteArray := strOfNums (l.map Int.ofNat)
theorem conv_bytes (A : Option Addr) (B n c : Nat) (l : List Nat) (w : World) (hA : A = none → n = 0) (hl : l.length = n) (hb : Bs w B A l) :
    (convert 26 9 (.slice A n c)).run Tryd.prog w = .ok (.string (strOf l)) w := by
  rw [run_convert_bytes_string w 26 9 5 A n c Tryd.underlying26 Tryd.underlying5 Tryd.underlying9]
  cases A with
  | none =>
    obtain rfl := hA rfl
    obtain rfl := List.eq_nil_of_length_eq_zero hl
    simp [Conv.bytesToString]
    rfl
  | some ad =>
    have h := run_loadCells_list (P := Tryd.prog) (w := w) ad (vals l) hb.cells
    rw [vals_length, hl] at h
    have e : vals l = (l.map Int.ofNat).map (Value.int .u8) := by unfold vals; rw [List.map_map]; rfl
    rw [e] at h
    rw [run_bytesToString w ad n c (l.map Int.ofNat) h, foldl_push_bytes]
    simp [strOf, strOfNums, ByteArray.empty, ByteArray.emptyWithCapacity]
    rfl
theorem strOf_eq {a b : List Nat} (ha : ∀ x ∈ a, x < 256) (hb : ∀ x ∈ b, x < 256) : strOf a = strOf b ↔ a = b := by
  constructor
  · intro h
    have h2 : (strOf a).data.toList = (strOf b).data.toList := by rw [h]
    unfold strOf at h2
    rw [strOfNums_data, strOfNums_data, List.map_map, List.map_map] at h2
    have key : ∀ l : List Nat, (∀ x ∈ l, x < 256) → (l.map ((fun n : Int => UInt8.ofNat n.toNat) ∘ Int.ofNat)).map UInt8.toNat = l := by
      intro l hl
      rw [List.map_map]
      conv => rhs; rw [← List.map_id l]
      apply List.map_congr_left
      intro x hx
      have := hl x hx
      simp [Function.comp]
      omega
    rw [← key a ha, ← key b hb, h2]
  · rintro rfl; rfl
theorem strOf_beq {a b : List Nat} (ha : ∀ x ∈ a, x < 256) (hb : ∀ x ∈ b, x < 256) : ((strOf a).toList == (strOf b).toList) = decide (a = b) := by
  have e : ∀ l, (strOf l).toList = (strOf l).data.toList := fun l => by
    unfold strOf
    rw [Lib.strOfNums_toList, strOfNums_data]; rfl
  by_cases h : a = b
  · subst h
    rw [decide_eq_true rfl]; exact beq_self_eq_true _
  · rw [decide_eq_false h, beq_eq_false_iff_ne]
    intro h2
    rw [e, e] at h2
    exact h ((strOf_eq ha hb).1 (ByteArray.ext (Array.ext' h2)))
theorem equal_any (A A' : Option Addr) (B B' n c n' c' : Nat) (l l' : List Nat) (w : World) (hA : A = none → n = 0) (hA' : A' = none → n' = 0) (hl : l.length = n) (hl' : l'.length = n') (hb : Hid (Bs w B A l)) (hb' : Hid (Bs w B' A' l')) :
    Calls Tryd.prog 51 #[.slice A n c, .slice A' n' c'] w fun e w' => e = .returned (.bool (decide (l = l'))) ∧ w' = w := by
  have k1 := conv_bytes A B n c l w hA hl hb.out
  have k2 := conv_bytes A' B' n' c' l' w hA' hl' hb'.out
  have HE := Lib.hid (strOf_beq hb.out.lt hb'.out.lt)
  rw [← HE.out]
  generalize strOf l = s at k1 HE
  generalize strOf l' = s' at k2 HE
  clear HE hl hl' hA hA'
  go_enter Tryd.func51, Tryd.ntmps51
  go_wp2
  go_ret
  exact ⟨rfl, rfl⟩
theorem results_row3 {P : Program} {fn : Func} {p u v : Tmp} {ty : TypeId} (h : fn.results = #[.cell p ty, .tmp u, .tmp v]) (tmps : Array Value) (w : World) (g : Nat) (t : TypeId) (cs : Array Value) (fr : Nat × Nat) (d : TypeDesc)
    (hp : tmps.getD p undef = .pointer (some ⟨g, 0, none⟩)) (hg : w.heap[g]? = some (.cells cs t fr))
    (hu : P.underlying ty = some d) (hd : (match d with | .struct _ | .array _ _ => true | _ => false) = true) (hi : (P.info? ty).map (·.size) = some cs.size) :
    (results fn tmps).run P w = .ok (.tuple #[.agg cs, tmps.getD u undef, tmps.getD v undef]) w := by
  have hp' : tmps[p]?.getD undef = .pointer (some ⟨g, 0, none⟩) := by simpa using hp
  simp [results, h, hp', asAddr, run_loadVar_row w g t ty cs fr d hg hu hd hi, Result.andThen]
theorem results_row2 {P : Program} {fn : Func} {p u : Tmp} {ty : TypeId} (h : fn.results = #[.cell p ty, .tmp u]) (tmps : Array Value) (w : World) (g : Nat) (t : TypeId) (cs : Array Value) (fr : Nat × Nat) (d : TypeDesc)
    (hp : tmps.getD p undef = .pointer (some ⟨g, 0, none⟩)) (hg : w.heap[g]? = some (.cells cs t fr))
    (hu : P.underlying ty = some d) (hd : (match d with | .struct _ | .array _ _ => true | _ => false) = true) (hi : (P.info? ty).map (·.size) = some cs.size) :
    (results fn tmps).run P w = .ok (.tuple #[.agg cs, tmps.getD u undef]) w := by
  have hp' : tmps[p]?.getD undef = .pointer (some ⟨g, 0, none⟩) := by simpa using hp
  simp [results, h, hp', asAddr, run_loadVar_row w g t ty cs fr d hg hu hd hi, Result.andThen]
theorem four_frozen {w : World} {g : Nat} {a b c d : Value} {t : TypeId} (h : w.heap[g]? = some (.cells #[a, b, c, d] t (0, 0))) :
    w.frozen? ⟨g, 0, none⟩ = false ∧ w.frozen? ⟨g, 1, none⟩ = false ∧ w.frozen? ⟨g, 2, none⟩ = false ∧ w.frozen? ⟨g, 3, none⟩ = false :=
  ⟨frozen_of_row w g 0 _ t h, frozen_of_row w g 1 _ t h, frozen_of_row w g 2 _ t h, frozen_of_row w g 3 _ t h⟩
theorem sub_lt {l : List Nat} (h : ∀ x ∈ l, x < 256) (i n : Nat) : ∀ x ∈ Rc.sub l i n, x < 256 := fun x hx => h x (List.mem_of_mem_drop (List.mem_of_mem_take hx))
theorem stored {w : World} {r : Nat} {a b c d a' b' c' d' : Value} {t : TypeId} (h : w.heap[r]? = some (.cells #[a, b, c, d] t (0, 0))) :
    ((((w.setCell ⟨r, 0, none⟩ a').setCell ⟨r, 1, none⟩ b').setCell ⟨r, 2, none⟩ c').setCell ⟨r, 3, none⟩ d').heap[r]? = some (.cells #[a', b', c', d'] t (0, 0)) := by
  simp [World.setCell, Array.getElem?_modify, h]
theorem stored_grown (w : World) (r : Nat) (a' b' c' d' : Value) : w.grownBy ((((w.setCell ⟨r, 0, none⟩ a').setCell ⟨r, 1, none⟩ b').setCell ⟨r, 2, none⟩ c').setCell ⟨r, 3, none⟩ d') (some r) :=
  grown_trans' (grown_trans' (grown_trans' (grown_set _ _ _ _) (grown_set _ _ _ _)) (grown_set _ _ _ _)) (grown_set _ _ _ _)
/-- The result's block behind parseHead and one more block. -/
theorem after_head {w w1 : World} {a b c d : Value} {t : TypeId} (hb : Below (w.alloc (.cells #[a, b, c, d] t)).heap.size (w.alloc (.cells #[a, b, c, d] t)) w1) (o : Obj) :
    (w1.alloc o).heap[w.heap.size]? = some (.cells #[a, b, c, d] t (0, 0)) ∧ Below w.heap.size w (w1.alloc o) ∧ w.heap.size < w1.heap.size := by
  have hB : Below w1.heap.size w1 (w1.alloc o) := (Below.refl _ _).alloc (Nat.le_refl _) _
  have hw1 : Below w.heap.size w w1 := ((Below.refl _ w).alloc (Nat.le_refl _) _).trans (hb.mono (by simp))
  have hlt := (Array.getElem?_eq_some_iff.1 (boxed hb)).1
  exact ⟨(hB.block _ hlt).trans (boxed hb), hw1.trans (hB.mono hw1.size), hlt⟩
theorem bs_own {w : World} {B : Nat} {A : Option Addr} {l : List Nat} (h : Bs w B A l) : Bs w w.heap.size A l := fun k hk => by
  obtain ⟨a1, ad', e, _, h⟩ := h k hk
  refine ⟨a1, ad', e, ?_, h⟩
  have := World.block_lt_of_cell? w _ h
  rwa [add_block] at this
theorem own_bsin {w : World} {base : Nat} {A : Option Addr} {l : List Nat} (h : Bs w w.heap.size A l) (ho : A = none ∨ ∃ g, A = some ⟨g, 0, none⟩ ∧ base ≤ g ∧ g < w.heap.size) : BsIn w base w.heap.size A l := fun k hk => by
  obtain ⟨a1, ad, rfl, a3, a4⟩ := h k hk
  refine ⟨a1, ad, rfl, ?_, a3, a4⟩
  rcases ho with e | ⟨g, e, h2, _⟩
  · cases e
  · injection e with e; subst e; exact h2
/-- bytes.Clone in a world that has the memory of another. -/
theorem clone_at (w2 : World) (base : Nat) (hbase : base ≤ w2.heap.size) (A : Option Addr) (B n c : Nat) (l : List Nat) (hs : SlIs A n c) (hl : l.length = n) (hn : n ≤ 140737488355328) (hb : Bs w2 B A l) (hlt : ∀ x ∈ l, x < 256) (W : World) (e1 : W.heap = w2.heap) (e2 : W.os = w2.os) (e3 : W.tape = w2.tape) (e4 : W.output = w2.output) :
    Calls Tryd.prog 55 #[.slice A n c] W fun e w5 => ∃ A5 c5, e = .returned (.slice A5 n c5) ∧ SlIs A5 n c5 ∧ BsIn w5 base w5.heap.size A5 l ∧ Below w2.heap.size w2 w5 := by
  refine (clone_any A B n c l W hs.1 hl hn (hb.heap e1)).mono ?_
  rintro e w5 ⟨v, rfl, hown, hb5⟩
  obtain ⟨A5, c5, rfl, hbs, hl5, hn5, hm5, ho5⟩ := own_bytes hown hlt
  have hsz : W.heap.size = w2.heap.size := by rw [e1]
  refine ⟨A5, c5, rfl, sl_own hn5 hm5 ho5, own_bsin hbs ?_, hb5.os.trans e2, hb5.tape.trans e3, hb5.output.trans e4, by have := hb5.size; omega, fun b hlt => ?_⟩
  · rcases ho5 with ⟨h, _⟩ | ⟨g, h1, h2, h3⟩
    · exact .inl h
    · exact .inr ⟨g, h1, by omega, h3⟩
  · rw [hb5.block b (by omega), e1]
/-- What min(n, k) is. -/
def MinIs (n k m : Nat) : Prop := (n ≤ k ∧ m = n) ∨ (k < n ∧ m = k)
theorem min_is (n k : Nat) : ∃ m, MinIs n k m := by
  by_cases h : n ≤ k
  · exact ⟨n, .inl ⟨h, rfl⟩⟩
  · exact ⟨k, .inr ⟨by omega, rfl⟩⟩
theorem bs_one (w : World) (x : Nat) (hx : x < 256) (fz : Nat × Nat) : Bs (w.alloc (.cells #[.int .u8 (x : Int)] 5 fz)) (w.heap.size + 1) (some ⟨w.heap.size, 0, none⟩) [x] := by
  intro k hk
  obtain rfl : k = 0 := by simp at hk; exact hk
  refine ⟨hx, _, rfl, Nat.lt_succ_self _, ?_⟩
  rw [show (Addr.mk w.heap.size 0 none).add 0 = ⟨w.heap.size, 0, none⟩ from rfl, cell_of_row _ _ _ _ _ _ (heap_alloc_new w _)]
  rfl
/-- 'append(b, xs...)', b the call's own: what b held stays. -/
theorem append_keep {P : Program} {w : World} {ops : Array Oper} {rest : List Oper} {o : Oper} {a : Act} {Q : Exit → Act → World → Prop} (hgd : o.guard = none) (s x : Operand) (t : TypeId)
    (ho : o.op = .call { callee := .builtin .append, args := #[s, x], argTypes := #[t, t] })
    (base : Nat) (e : TypeId) (i : TypeInfo) (z : Value) (size bytes : Nat) (ht : P.underlying t = some (.slice e)) (hi : P.info? e = some i) (hz : i.zero = some z)
    (hsize : i.size = size) (hby : i.bytes = bytes) (hzs : z.cells.size = size) (hsz : 0 < size)
    (g n cap : Nat) (xs : List Value) (hs : a.eval s = .slice (some ⟨g, 0, none⟩) n cap) (hown : w.ownsRow base e size (.slice (some ⟨g, 0, none⟩) n cap) n xs)
    (ad : Addr) (m c : Nat) (news : List Value) (hx : a.eval x = .slice (some ad) m c) (hl : news.length = m * size) (hnews : ∀ j u, news[j]? = some u → w.cell? (ad.add j) = some u) (h1 : ∀ u ∈ news, u.oneCell' = true)
    (h63 : n + m ≤ maxLen) (hbytes : (n + m) * bytes ≤ 140737488355328) (hbase : base ≤ w.heap.size)
    (h : ∀ v' w', w'.ownsRow base e size v' (n + m) (xs ++ news) → Below base w w' → (∀ j, j < n * size → w'.cell? ⟨g, j, none⟩ = xs[j]?) → wpList P ops Q rest (a.put o.dst v') w') : wpList P ops Q (o :: rest) a w := by
  refine wpList_plain hgd fun K hK => ?_
  have hgb := hown.lt g rfl
  by_cases hr : n + m ≤ cap
  · obtain ⟨w', hrun, r1, r2⟩ := run_append_fits (P := P) w base t o.type e i size ht hi hsize g n cap xs hown ad m c news hl hnews h1 hr
    unfold Oper.wp
    simp [execOp, ho, resolve, invoke, builtin, hs, hx, hrun, Result.andThen]
    refine hK _ _ (h _ _ r1 (below_of_grown r2 hgb.1 hbase) fun j hj => ?_)
    rw [World.ownsRow.cellAt r1 j (by have := Nat.mul_le_mul_right size (Nat.le_add_right n m); omega), List.getElem?_append_left (by rw [hown.1]; exact hj)]
  · obtain ⟨v', w', hrun, r1, r2⟩ := run_append_arg_grows (P := P) w t o.type e i z size bytes ht hi hz hsize hby hzs hsz ⟨g, 0, none⟩ n cap xs hown.1 (fun j u hj => by
      have hj2 : j < xs.length := by
        rcases Nat.lt_or_ge j xs.length with h | h
        · exact h
        · rw [List.getElem?_eq_none h] at hj; cases hj
      rw [add_zero_block, World.ownsRow.cellAt hown j (by rw [← hown.1]; exact hj2)]; exact hj) ad m c news hl hnews (by omega) h63 hbytes
    unfold Oper.wp
    simp [execOp, ho, resolve, invoke, builtin, hs, hx, hrun, Result.andThen]
    refine hK _ _ (h _ _ (ownsRow_mono r1 hbase) ⟨r2.os, r2.tape, r2.output, r2.size, fun k hk => r2.block k (by omega) (by simp)⟩ fun j hj => ?_)
    rw [← World.ownsRow.cellAt hown j hj]
    exact World.cell?_of_block (r2.block g hgb.2 (by simp))
/-- A block stays as it is, and so does all that was there at first. -/
def Sd (w : World) (r : Nat) (o : Obj) (W : World) : Prop := W.heap[r]? = some o ∧ Below w.heap.size w W
theorem Sd.next {w W W' W'' : World} {r : Nat} {o : Obj} (h : Sd w r o W) (k : Below W'.heap.size W' W'') (e1 : W'.heap = W.heap) (e2 : W'.os = W.os) (e3 : W'.tape = W.tape) (e4 : W'.output = W.output) : Sd w r o W'' := by
  have hlt := (Array.getElem?_eq_some_iff.1 h.1).1
  refine ⟨(k.block r (by rw [e1]; exact hlt)).trans (by rw [e1]; exact h.1), k.os.trans (e2.trans h.2.os), k.tape.trans (e3.trans h.2.tape), k.output.trans (e4.trans h.2.output), ?_, fun b hb => ?_⟩
  · have h1 := k.size
    rw [e1] at h1
    exact Nat.le_trans h.2.size h1
  · have h1 := h.2.size
    rw [k.block b (by rw [e1]; omega), e1]
    exact h.2.block b hb
/-- A record's variable, overwritten. -/
theorem sd_stored {w w1 : World} {r : Nat} {a b c d a' b' c' d' : Value} {t : TypeId} (h : Sd w r (.cells #[a, b, c, d] t (0, 0)) w1) (hr : w.heap.size ≤ r) : Sd w r (.cells #[a', b', c', d'] t (0, 0)) ((((w1.setCell ⟨r, 0, none⟩ a').setCell ⟨r, 1, none⟩ b').setCell ⟨r, 2, none⟩ c').setCell ⟨r, 3, none⟩ d') :=
  ⟨stored h.1, h.2.trans (below_of_grown (stored_grown _ _ _ _ _ _) hr h.2.size)⟩
theorem min_le {n k m : Nat} (h : MinIs n k m) : m ≤ n := by unfold MinIs at h; omega
theorem min_sl {A : Option Addr} {n c k m : Nat} (hs : SlIs A n c) (h : MinIs n k m) : SlIs A m c := by
  have := min_le h
  obtain ⟨h1, h2, h3⟩ := hs
  exact ⟨fun e => ⟨(h1 e).1, by have := h1 e; omega⟩, by omega, h3⟩
theorem min_bs {w : World} {B : Nat} {A : Option Addr} {n k m : Nat} {l : List Nat} (hl : l.length = n) (hb : Bs w B A l) (h : MinIs n k m) : (l.take m).length = m ∧ Bs w B A (l.take m) :=
  ⟨by rw [List.length_take]; have := min_le h; omega, hb.take m⟩
/-- Two blocks stay as they are, and so does all that was there at first. -/
def Sd2 (w : World) (o0 o1 : Obj) (W : World) : Prop := W.heap[w.heap.size]? = some o0 ∧ W.heap[w.heap.size + 1]? = some o1 ∧ Below w.heap.size w W
theorem Sd2.next {w W W' W'' : World} {o0 o1 : Obj} (h : Sd2 w o0 o1 W) (k : Below W'.heap.size W' W'') (e1 : W'.heap = W.heap) (e2 : W'.os = W.os) (e3 : W'.tape = W.tape) (e4 : W'.output = W.output) : Sd2 w o0 o1 W'' := by
  have a : Sd w w.heap.size o0 W'' := Sd.next ⟨h.1, h.2.2⟩ k e1 e2 e3 e4
  have b : Sd w (w.heap.size + 1) o1 W'' := Sd.next ⟨h.2.1, h.2.2⟩ k e1 e2 e3 e4
  exact ⟨a.1, b.1, a.2⟩
theorem sd2_box {w w1 : World} {o0 o1 : Obj} {a b c a' b' c' d' : Value} {t t' : TypeId} (e0 : o0 = .cells #[a, b, c] t) (e1 : o1 = .cells #[a', b', c', d'] t') (hb : Below ((w.alloc o0).alloc o1).heap.size ((w.alloc o0).alloc o1) w1) : Sd2 w (.cells #[a, b, c] t (0, 0)) (.cells #[a', b', c', d'] t' (0, 0)) w1 := by
  subst e0 e1
  have hs : (w.alloc (.cells #[a, b, c] t)).heap.size = w.heap.size + 1 := by simp
  refine ⟨(hb.block _ (by simp; omega)).trans ((heap_alloc_old _ _ (by simp)).trans (heap_alloc_new w _)), ?_, (((Below.refl _ w).alloc (Nat.le_refl _) _).alloc (by simp) _).trans (hb.mono (by simp; omega))⟩
  exact (hb.block _ (by simp)).trans (alloc_at hs.symm)
theorem sd2_stored {w w1 : World} {o0 : Obj} {a b c d a' b' c' d' : Value} {t : TypeId} (h : Sd2 w o0 (.cells #[a, b, c, d] t (0, 0)) w1) :
    Sd2 w o0 (.cells #[a', b', c', d'] t (0, 0)) ((((w1.setCell ⟨w.heap.size + 1, 0, none⟩ a').setCell ⟨w.heap.size + 1, 1, none⟩ b').setCell ⟨w.heap.size + 1, 2, none⟩ c').setCell ⟨w.heap.size + 1, 3, none⟩ d') :=
  ⟨((stored_grown w1 (w.heap.size + 1) a' b' c' d').block _ (Array.getElem?_eq_some_iff.1 h.1).1 (fun e => by injection e with e; omega)).trans h.1, stored h.2.1, h.2.2.trans (below_of_grown (stored_grown _ _ _ _ _ _) (by omega) h.2.2.size)⟩
theorem three_cells {w : World} {g : Nat} {a b c : Value} {t : TypeId} (h : w.heap[g]? = some (.cells #[a, b, c] t (0, 0))) :
    w.cell? ⟨g, 0, none⟩ = some a ∧ w.cell? ⟨g, 1, none⟩ = some b ∧ w.cell? ⟨g, 2, none⟩ = some c := by
  refine ⟨?_, ?_, ?_⟩
  · rw [cell_of_row w g 0 _ t (0, 0) h]; rfl
  · rw [cell_of_row w g 1 _ t (0, 0) h]; rfl
  · rw [cell_of_row w g 2 _ t (0, 0) h]; rfl
theorem stored_far {w : World} {r g : Nat} {o : Obj} {a b c d : Value} (h : w.heap[g]? = some o) (hne : g < r) : ((((w.setCell ⟨r, 0, none⟩ a).setCell ⟨r, 1, none⟩ b).setCell ⟨r, 2, none⟩ c).setCell ⟨r, 3, none⟩ d).heap[g]? = some o :=
  ((stored_grown w r a b c d).block g (Array.getElem?_eq_some_iff.1 h).1 (fun e => by injection e with e; omega)).trans h
/-- Three blocks stay as they are, and so does all that was there at first. -/
def Sd3 (w : World) (o0 o1 o2 : Obj) (W : World) : Prop := W.heap[w.heap.size]? = some o0 ∧ W.heap[w.heap.size + 1]? = some o1 ∧ W.heap[w.heap.size + 2]? = some o2 ∧ Below w.heap.size w W
theorem Sd3.next {w W W' W'' : World} {o0 o1 o2 : Obj} (h : Sd3 w o0 o1 o2 W) (k : Below W'.heap.size W' W'') (e1 : W'.heap = W.heap) (e2 : W'.os = W.os) (e3 : W'.tape = W.tape) (e4 : W'.output = W.output) : Sd3 w o0 o1 o2 W'' := by
  have a : Sd w w.heap.size o0 W'' := Sd.next ⟨h.1, h.2.2.2⟩ k e1 e2 e3 e4
  have b : Sd w (w.heap.size + 1) o1 W'' := Sd.next ⟨h.2.1, h.2.2.2⟩ k e1 e2 e3 e4
  have c : Sd w (w.heap.size + 2) o2 W'' := Sd.next ⟨h.2.2.1, h.2.2.2⟩ k e1 e2 e3 e4
  exact ⟨a.1, b.1, c.1, a.2⟩
/-- 'append(out, xs...)' at a step of a region that draws its order: out the call's own, xs nil, empty or not. -/
theorem step_append_onto {P : Program} {w : World} {ops : Array Oper} {o : Oper} {a : Act} {K : Act → World → Prop} {Q : Exit → Act → World → Prop} {E : Prop} (hgd : o.guard = none) (s x : Operand) (t : TypeId)
    (ho : o.op = .call { callee := .builtin .append, args := #[s, x], argTypes := #[t, t] })
    (base : Nat) (e : TypeId) (i : TypeInfo) (z : Value) (size bytes : Nat) (ht : P.underlying t = some (.slice e)) (hi : P.info? e = some i) (hz : i.zero = some z)
    (hsize : i.size = size) (hby : i.bytes = bytes) (hzs : z.cells.size = size) (hsz : 0 < size)
    (v : Value) (n : Nat) (xs : List Value) (hs : a.eval s = v) (hown : w.ownsRow base e size v n xs)
    (A : Option Addr) (m c : Nat) (news : List Value) (hx : a.eval x = .slice A m c) (hA : A = none → m = 0 ∧ c = 0) (hl : news.length = m * size)
    (hnews : ∀ ad, A = some ad → ∀ j u, news[j]? = some u → w.cell? (ad.add j) = some u) (h1 : ∀ u ∈ news, u.oneCell' = true)
    (h63 : n + m ≤ maxLen) (hbytes : (n + m) * bytes ≤ 140737488355328) (hbase : base ≤ w.heap.size)
    (h : ∀ v' w', w'.ownsRow base e size v' (n + m) (xs ++ news) → Below base w w' → K (a.put o.dst v') w') :
    if Region.wanted o (yielded ops a.tmps) = true then Oper.wp P o a w K Q else E := by
  have hw : Region.wanted o (yielded ops a.tmps) = true := by simp [Region.wanted, hgd]
  rw [if_pos hw]
  cases A with
  | none =>
    obtain ⟨rfl, rfl⟩ := hA rfl
    have hn : news = [] := List.eq_nil_of_length_eq_zero (by simpa using hl)
    subst hn
    have hrun := run_append_owned_none (P := P) w base t o.type e i size ht hi v n xs hown
    unfold Oper.wp
    simp [execOp, ho, resolve, invoke, builtin, hs, hx, hrun, Result.andThen]
    exact h v w (by simpa using hown) (Below.refl _ _)
  | some ad =>
    exact wp_append_own w s x t ho base e i z size bytes ht hi hz hsize hby hzs hsz v n xs hs hown ad m c news hx hl (hnews ad rfl) h1 h63 hbytes hbase fun v' w' h2 h3 _ => h v' w' h2 ((Below.refl _ _).grown h3 hbase fun g e => (hown.lt g e).1)
theorem bs_lit (w : World) (l : List Nat) (hl : ∀ x ∈ l, x < 256) (fz : Nat × Nat) : Bs (w.alloc (.cells (vals l).toArray 5 fz)) (w.heap.size + 1) (some ⟨w.heap.size, 0, none⟩) l := by
  intro k hk
  refine ⟨getD_lt hl k, _, rfl, Nat.lt_succ_self _, ?_⟩
  rw [add_zero_block, cell_of_row _ _ _ _ _ _ (heap_alloc_new w _), List.getElem?_toArray, vals_at hk]
/-- What the reference's Put leaves, opened: n bytes p of its own. -/
def Row (w : World) (p : List Nat) (n : Nat) (A : Option Addr) (c : Nat) (w' : World) : Prop := w'.ownsRow w.heap.size 5 1 (.slice A n c) n (vals p) ∧ p.length = n ∧ SlIs A n c ∧ Bs w' w'.heap.size A p ∧ Below w.heap.size w w'
/-- The reference's Put, of a slice that lies anywhere. -/
theorem refput_row (A : Option Addr) (B n c : Nat) (l : List Nat) (N m : Nat) (mi : Int) (hmi : mi = (m : Int)) (w : World) (hs : SlIs A n c) (hl : l.length = n) (hn : n ≤ 70368744177664) (hb : Bs w B A l) (hm : 1 ≤ m) (hm8 : m ≤ 8) :
    Calls Tryd.prog 38 #[.slice A n c, .int .u64 (N : Int), .int .i64 mi] w fun e w' => ∃ A' n' c' p, e = .returned (.slice A' n' c') ∧ Hid (p = l ++ Wire.be m N) ∧ Hid (n' = n + m) ∧ Row w p n' A' c' w' := by
  refine (refput_ok A B n c l N m mi hmi w hs.1 hl hn hb hm hm8).mono ?_
  rintro e w' ⟨v, rfl, hown, hbel⟩
  obtain ⟨A', c', rfl, hbs, hl2, hn2, hm2, ho2⟩ := own_bytes hown (fun y hy => by
    rcases List.mem_append.1 hy with h | h
    · exact hb.lt y h
    · exact Wire.be_lt _ _ y h)
  exact ⟨A', _, c', _, rfl, rfl, by show _ = _; rw [List.length_append, Wire.be_length, hl], hown, rfl, sl_own hn2 hm2 ho2, hbs, hbel⟩
theorem add_pos (ad : Addr) (i : Nat) (h : 0 < i) : ad.add i = ⟨ad.block, ad.off + i, none⟩ := by
  unfold Addr.add
  rw [if_neg (by omega)]
/-- 'append([]byte(nil), x...)', x nil or not: the bytes in a row of their own. -/
theorem append_bytes {w : World} {ops : Array Oper} {rest : List Oper} {o : Oper} {a : Act} {Q : Exit → Act → World → Prop} (hgd : Region.wanted o (yielded ops a.tmps) = true) (x : Operand)
    (ho : o.op = .call { callee := .builtin .append, args := #[.const (.slice none 0 0), x], argTypes := #[26, 26] })
    (B : Nat) (A : Option Addr) (m c : Nat) (l : List Nat) (hx : a.eval x = .slice A m c) (hA : A = none → m = 0 ∧ c = 0) (hl : l.length = m) (hb : Bs w B A l) (hm : m ≤ 140737488355328)
    (h : ∀ A' c' w', SlIs A' m c' → BsIn w' w.heap.size w'.heap.size A' l → Below w.heap.size w w' → wpList Tryd.prog ops Q rest (a.put o.dst (.slice A' m c')) w') : wpList Tryd.prog ops Q (o :: rest) a w := by
  obtain ⟨i0, hi0, hz0, hz1, hz2⟩ := info_parts info_u8
  refine append_onto hgd (.const (.slice none 0 0)) x 26 ho w.heap.size 5 i0 (.int .u8 0) 1 1 Tryd.underlying26 hi0 hz0 hz1 hz2 rfl (by decide) _ 0 [] rfl (World.ownsRow_nil _ _ _ _) A m c (vals l) hx hA (by rw [vals_length]; omega) (fun ad e => by subst e; exact hb.cells) (vals_one _) (by unfold maxLen; omega) (by omega) (Nat.le_refl _) ?_
  intro v' w' hown hg
  rw [List.nil_append, Nat.zero_add] at hown
  obtain ⟨A', c', rfl, hbs, -, hn, hm', ho'⟩ := own_bytes hown hb.lt
  refine h A' c' w' (sl_own hn hm' ho') (own_bsin hbs ?_) ((Below.refl _ _).grown hg (Nat.le_refl _) (fun k e => by cases e))
  rcases ho' with ⟨e, _⟩ | ⟨g, h1, h2, h3⟩
  · exact .inl e
  · exact .inr ⟨g, h1, h2, h3⟩
theorem grown_below {w w' : World} {r B : Nat} (h : w.grownBy w' (some r)) (hB : B ≤ r) (hs : B ≤ w.heap.size) : Below B w w' := below_of_grown h hB hs
theorem below_drop {w w' : World} (h : Below w.drew.heap.size w.drew w') : Below w.heap.size w w' := ⟨h.os, h.tape, h.output, h.size, h.block⟩
theorem field_one {cs : List Value} {j : Nat} (hj : j < cs.length) : (cs.drop j).take 1 = [cs[j]] := by
  rw [List.take_one, List.head?_drop, List.getElem?_eq_getElem hj]; rfl
theorem int_wf64 {x : Int} (h : (Lit.int .i64 x).wf = true) : -9223372036854775808 ≤ x ∧ x ≤ 9223372036854775807 := by
  simp only [Lit.wf, Bool.and_eq_true, decide_eq_true_eq] at h
  simp [IntKind.min, IntKind.max, IntKind.signed, IntKind.bits] at h
  omega
section
open Go.ChangeShapes Go.WideShapes Go.ChangeAt
variable {H : Type} {enc : TypeId × Value → H} {P : Program} {W : World}
theorem bytes_field {t e : TypeId} {v : Value} {fuel : Nat} {x : DataW H × List MemPlace} (ht : P.underlying t = some (.slice e)) (he : P.underlying e = some (.int .u8)) (hc : P.cellsOf e = 1)
    (h : DataW.trod enc P W 0 (fun _ => true) true fuel t [v] = some x) : ∃ A n cap l, v = .slice A n cap ∧ SlIs A n cap ∧ l.length = n ∧ Bs W W.heap.size A l := by
  rcases open_ints ht he hc h with ⟨hcs, _⟩ | ⟨a, n, cap, zs, hcs, _, hl, hm, hz, _, hcell, hwz⟩
  · injection hcs with hcs
    exact ⟨none, 0, 0, [], hcs, ⟨fun _ => ⟨rfl, rfl⟩, Nat.le_refl _, by omega⟩, rfl, fun k hk => absurd hk (by simp)⟩
  · injection hcs with hcs
    have hz' : zs.length = cap := by simpa using hz
    have hlen : ((zs.take n).map Int.toNat).length = n := by rw [List.length_map, List.length_take]; omega
    refine ⟨some a, n, cap, _, hcs, ⟨(fun h => by cases h), hl, by unfold maxLen at hm; exact hm⟩, hlen, fun k hk => ?_⟩
    have hkn : k < n := by omega
    have hkz : k < zs.length := by omega
    have e2 : zs.getD k 0 = zs[k] := by rw [List.getD_eq_getElem?_getD, List.getElem?_eq_getElem hkz]; rfl
    have e1 : ((zs.take n).map Int.toNat).getD k 0 = (zs.getD k 0).toNat := by
      rw [List.getD_eq_getElem?_getD, List.getElem?_map, List.getElem?_take_of_lt hkn, e2, List.getElem?_eq_getElem hkz]; rfl
    obtain ⟨y, hy, hy2⟩ := u8_in (hwz _ (List.getElem_mem hkz))
    rw [e1, e2, hy, Int.toNat_natCast]
    have hcl := hcell k hkz
    rw [e2, hy] at hcl
    refine ⟨hy2, a, rfl, ?_, hcl⟩
    have := World.block_lt_of_cell? W _ hcl
    rwa [add_block] at this
end
end Go.Proofs.YtjfgnojmdbfnmaaDoor
