/-
  Words on memory that the walks share: bytes read through a slice, nil or not; append onto a row of the call's own.
-/
import Derived.WalkKit
import Derived.WalkSpells
import Derived.WalkLawsBesides
import Derived.Lib.Hide
import Derived.Laws.AppendOwnNone
import Derived.Deep.Draws
namespace Go.Proofs.YtjfgnojmdbfnmaaDoor
open Go.RowKit

theorem ret_int {k : IntKind} {a b : Int} (h : a = b) : Ending.returned (.int k a) = .returned (.int k b) := by rw [h]
theorem add_block (a : Addr) (n : Nat) : (a.add n).block = a.block := by unfold Addr.add; split <;> rfl

/-- A slice's bytes, read below block B. -/
def Bs (w : World) (B : Nat) (A : Option Addr) (l : List Nat) : Prop := ∀ k, k < l.length → l.getD k 0 < 256 ∧ ∃ ad, A = some ad ∧ ad.block < B ∧ w.cell? (ad.add k) = some (.int .u8 ((l.getD k 0 : Nat) : Int))
theorem take_next (l : List Nat) (k x : Nat) (hk : k < l.length) (hx : l.getD k 0 = x) : l.take (k + 1) = l.take k ++ [x] := by
  rw [List.take_succ_eq_append_getElem hk]
  rw [List.getD_eq_getElem?_getD, List.getElem?_eq_getElem hk] at hx
  rw [← hx]; rfl
theorem Bs.below {B C : Nat} {w w' : World} {A : Option Addr} {l : List Nat} (h : Bs w B A l) (hb : Below C w w') (hB : B ≤ C) : Bs w' B A l := fun k hk => by
  obtain ⟨h1, ad, h2, h3, h4⟩ := h k hk
  exact ⟨h1, ad, h2, h3, (hb.cell (by rw [add_block]; omega)).trans h4⟩
theorem Bs.more {B C : Nat} {w : World} {A : Option Addr} {l : List Nat} (h : Bs w B A l) (hB : B ≤ C) : Bs w C A l := fun k hk => by
  obtain ⟨h1, ad, h2, h3, h4⟩ := h k hk
  exact ⟨h1, ad, h2, by omega, h4⟩
theorem Bs.take {B : Nat} {w : World} {A : Option Addr} {l : List Nat} (h : Bs w B A l) (n : Nat) : Bs w B A (l.take n) := fun k hk => by
  rw [List.length_take] at hk
  have e : (l.take n).getD k 0 = l.getD k 0 := by
    rw [List.getD_eq_getElem?_getD, List.getD_eq_getElem?_getD, List.getElem?_take_of_lt (by omega)]
  rw [e]
  exact h k (by omega)
theorem Bs.grown {B : Nat} {w w' : World} {A : Option Addr} {l : List Nat} {row : Option Nat} (h : Bs w B A l) (hg : w.grownBy w' row) (hr : ∀ g, row = some g → B ≤ g) : Bs w' B A l := fun k hk => by
  obtain ⟨h1, ad, h2, h3, h4⟩ := h k hk
  refine ⟨h1, ad, h2, h3, hg.cell h4 (fun e => ?_)⟩
  have := hr _ e.symm
  rw [add_block] at this
  omega
theorem Bs.lt {B : Nat} {w : World} {A : Option Addr} {l : List Nat} (h : Bs w B A l) : ∀ x ∈ l, x < 256 := fun x hx => by
  obtain ⟨k, hk, rfl⟩ := List.getElem_of_mem hx
  have := (h k hk).1
  rwa [List.getD_eq_getElem?_getD, List.getElem?_eq_getElem hk] at this
/-- Bytes as values. -/
def vals (l : List Nat) : List Value := l.map fun x => .int .u8 ((x : Nat) : Int)
theorem vals_length (l : List Nat) : (vals l).length = l.length := by unfold vals; rw [List.length_map]
theorem vals_append (l m : List Nat) : vals (l ++ m) = vals l ++ vals m := by unfold vals; rw [List.map_append]
theorem vals_one (l : List Nat) : ∀ u ∈ vals l, u.oneCell' = true := by
  intro u hu
  unfold vals at hu
  obtain ⟨x, _, rfl⟩ := List.mem_map.1 hu
  rfl
theorem vals_get {l : List Nat} {j : Nat} {u : Value} (h : (vals l)[j]? = some u) : j < l.length ∧ u = .int .u8 ((l.getD j 0 : Nat) : Int) := by
  unfold vals at h
  rw [List.getElem?_map] at h
  cases hj : l[j]? with
  | none => rw [hj] at h; cases h
  | some y =>
    rw [hj] at h
    have hl : j < l.length := by
      rcases Nat.lt_or_ge j l.length with h2 | h2
      · exact h2
      · rw [List.getElem?_eq_none h2] at hj; cases hj
    refine ⟨hl, ?_⟩
    rw [List.getD_eq_getElem?_getD, hj]
    exact (Option.some.inj h).symm
theorem vals_at {l : List Nat} {j : Nat} (hj : j < l.length) : (vals l)[j]? = some (.int .u8 ((l.getD j 0 : Nat) : Int)) := by
  unfold vals
  rw [List.getElem?_map, List.getElem?_eq_getElem hj, List.getD_eq_getElem?_getD, List.getElem?_eq_getElem hj]; rfl
theorem vals_set (l : List Nat) (j x : Nat) : (vals l).set j (.int .u8 ((x : Nat) : Int)) = vals (l.set j x) := by
  unfold vals; rw [List.map_set]
theorem getD_lt {l : List Nat} (h : ∀ x ∈ l, x < 256) (j : Nat) : l.getD j 0 < 256 := by
  rw [List.getD_eq_getElem?_getD]
  cases hg : l[j]? with
  | none => decide
  | some y => exact h y (List.mem_of_getElem? hg)
theorem Bs.cells {B : Nat} {w : World} {ad : Addr} {l : List Nat} (h : Bs w B (some ad) l) : ∀ j u, (vals l)[j]? = some u → w.cell? (ad.add j) = some u := by
  intro j u hu
  obtain ⟨hj, rfl⟩ := vals_get hu
  obtain ⟨_, ad', e, _, hc⟩ := h j hj
  injection e with e
  subst e
  exact hc
/-- A row of the call's own, read as bytes: nil, or it begins at the head of a block from 'base' on. -/
theorem own_bytes {w : World} {base : Nat} {e : TypeId} {v : Value} {n : Nat} {l : List Nat} (h : w.ownsRow base e 1 v n (vals l)) (hlt : ∀ x ∈ l, x < 256) :
    ∃ A cap, v = .slice A n cap ∧ Bs w w.heap.size A l ∧ l.length = n ∧ n ≤ cap ∧ cap ≤ maxLen ∧ ((A = none ∧ n = 0 ∧ cap = 0) ∨ ∃ g, A = some ⟨g, 0, none⟩ ∧ base ≤ g ∧ g < w.heap.size) := by
  have hl : l.length = n := by have := h.1; rw [vals_length] at this; omega
  rcases h.2 with ⟨rfl, rfl⟩ | ⟨g, cap, cur, rfl, hb, hg, hnc, hcm, _, _⟩
  · exact ⟨none, 0, rfl, fun k hk => absurd hk (by omega), hl, Nat.le_refl _, by unfold maxLen; omega, .inl ⟨rfl, rfl, rfl⟩⟩
  · have hgl : g < w.heap.size := (h.lt g rfl).2
    refine ⟨some ⟨g, 0, none⟩, cap, rfl, fun k hk => ?_, hl, hnc, hcm, .inr ⟨g, rfl, hb, hgl⟩⟩
    have hx : l[k] = l.getD k 0 := by rw [List.getD_eq_getElem?_getD, List.getElem?_eq_getElem hk]; rfl
    refine ⟨by rw [← hx]; exact hlt _ (List.getElem_mem hk), _, rfl, hgl, ?_⟩
    refine h.cells (g := g) rfl k _ ?_
    unfold vals
    rw [List.getElem?_map, List.getElem?_eq_getElem hk, hx]; rfl

section
variable {P : Program} {w : World}
/-- 'append(out, xs...)': out the call's own, xs nil, empty or not; the operation may stand behind a guard that says yes. -/
theorem append_onto {ops : Array Oper} {rest : List Oper} {o : Oper} {a : Act} {Q : Exit → Act → World → Prop} (hgd : Region.wanted o (yielded ops a.tmps) = true) (s x : Operand) (t : TypeId)
    (ho : o.op = .call { callee := .builtin .append, args := #[s, x], argTypes := #[t, t] })
    (base : Nat) (e : TypeId) (i : TypeInfo) (z : Value) (size bytes : Nat) (ht : P.underlying t = some (.slice e)) (hi : P.info? e = some i) (hz : i.zero = some z)
    (hsize : i.size = size) (hby : i.bytes = bytes) (hzs : z.cells.size = size) (hsz : 0 < size)
    (v : Value) (n : Nat) (xs : List Value) (hs : a.eval s = v) (hown : w.ownsRow base e size v n xs)
    (A : Option Addr) (m c : Nat) (news : List Value) (hx : a.eval x = .slice A m c) (hA : A = none → m = 0 ∧ c = 0) (hl : news.length = m * size)
    (hnews : ∀ ad, A = some ad → ∀ j u, news[j]? = some u → w.cell? (ad.add j) = some u) (h1 : ∀ u ∈ news, u.oneCell' = true)
    (h63 : n + m ≤ maxLen) (hbytes : (n + m) * bytes ≤ 140737488355328) (hbase : base ≤ w.heap.size)
    (h : ∀ v' w', w'.ownsRow base e size v' (n + m) (xs ++ news) → w.grownBy w' v.ownBlock → wpList P ops Q rest (a.put o.dst v') w') : wpList P ops Q (o :: rest) a w := by
  refine BigFrame.wpList_want hgd fun K hK => ?_
  cases A with
  | none =>
    obtain ⟨rfl, rfl⟩ := hA rfl
    have hn : news = [] := List.eq_nil_of_length_eq_zero (by simpa using hl)
    subst hn
    have hrun := run_append_owned_none (P := P) (w := w) base t o.type e i size ht hi v n xs hown
    unfold Oper.wp
    simp [execOp, ho, resolve, invoke, builtin, hs, hx, hrun, Result.andThen]
    exact hK _ _ (h v w (by simpa using hown) ⟨rfl, rfl, rfl, Nat.le_refl _, fun _ _ _ => rfl⟩)
  | some ad =>
    exact wp_append_own w s x t ho base e i z size bytes ht hi hz hsize hby hzs hsz v n xs hs hown ad m c news hx hl (hnews ad rfl) h1 h63 hbytes hbase fun v' w' h2 h3 _ => hK _ _ (h v' w' h2 h3)
end
end Go.Proofs.YtjfgnojmdbfnmaaDoor
