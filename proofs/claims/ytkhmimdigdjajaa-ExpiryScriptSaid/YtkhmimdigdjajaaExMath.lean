/-
  Plain mathematics of queues: keys with their expiries in order, binary heaps of them. Nothing of the program.
-/
import Derived.Test.YtkhmimdigdjajaaStrOrd
namespace Go.Proofs.Ytkhmimdigdjajaa.Ex
open Go Tb
/-- A key with its expiry; the same with the block of its node. -/
structure On where
  k : ByteArray
  r : Int
structure Nd where
  o : On
  b : Nat
def On0 : On := ⟨⟨#[]⟩, 0⟩
def Nd0 : Nd := ⟨On0, 0⟩
def bf (x y : On) : Bool := if x.r = y.r then kl x.k y.k else decide (x.r < y.r)
def le (x y : On) : Prop := bf y x = false
theorem bf_irrefl (x : On) : bf x x = false := by unfold bf; rw [if_pos rfl]; exact kl_irrefl _
theorem bf_trans {x y z : On} (h : bf x y = true) (k : bf y z = true) : bf x z = true := by
  unfold bf at *
  by_cases h1 : x.r = y.r <;> by_cases h2 : y.r = z.r
  · rw [if_pos h1] at h; rw [if_pos h2] at k; rw [if_pos (h1.trans h2)]; exact kl_trans h k
  · rw [if_neg h2] at k; rw [if_neg (by rw [h1]; exact h2), h1]; exact k
  · rw [if_neg h1] at h; rw [if_neg (by rw [← h2]; exact h1), ← h2]; exact h
  · rw [if_neg h1] at h; rw [if_neg h2] at k
    have h := of_decide_eq_true h; have k := of_decide_eq_true k
    rw [if_neg (by omega)]; exact decide_eq_true (by omega)
theorem bf_tri {x y : On} (h : bf x y = false) (k : bf y x = false) : x = y := by
  unfold bf at *
  by_cases h1 : x.r = y.r
  · rw [if_pos h1] at h; rw [if_pos h1.symm] at k
    obtain ⟨a, b⟩ := x; obtain ⟨c, d⟩ := y
    have e : a = c := kl_tri h k
    have e2 : b = d := h1
    rw [e, e2]
  · rw [if_neg h1] at h; rw [if_neg (fun e => h1 e.symm)] at k
    have h := of_decide_eq_false h; have k := of_decide_eq_false k
    omega
theorem le_of_bf {x y : On} (h : bf x y = true) : le x y := by
  unfold le
  cases e : bf y x with
  | false => rfl
  | true => have := bf_trans h e; rw [bf_irrefl] at this; cases this
theorem le_refl (x : On) : le x x := bf_irrefl x
theorem le_cases {x y : On} (h : le x y) : bf x y = true ∨ x = y := by
  cases e : bf x y with
  | true => exact .inl rfl
  | false => exact .inr (bf_tri e h)
theorem le_trans {x y z : On} (h : le x y) (k : le y z) : le x z := by
  rcases le_cases h with h | rfl
  · rcases le_cases k with k | rfl
    · exact le_of_bf (bf_trans h k)
    · exact le_of_bf h
  · exact k
theorem le_anti {x y : On} (h : le x y) (k : le y x) : x = y := bf_tri k h
theorem le_r {x y : On} (h : le x y) : x.r ≤ y.r := by
  unfold le bf at h
  by_cases e : y.r = x.r
  · omega
  · rw [if_neg e] at h; have := of_decide_eq_false h; omega
/-! Heaps. -/
def nd (h : List Nd) (i : Nat) : Nd := h.getD i Nd0
def at_ (h : List Nd) (i : Nat) : On := (nd h i).o
def sw (h : List Nd) (i j : Nat) : List Nd := (h.set i (nd h j)).set j (nd h i)
theorem nd_in {h : List Nd} {i : Nat} (hi : i < h.length) : nd h i = h[i] := by
  unfold nd; rw [List.getD_eq_getElem?_getD, List.getElem?_eq_getElem hi]; rfl
theorem nd_set {h : List Nd} {i : Nat} (x : Nd) (j : Nat) (hi : i < h.length) : nd (h.set i x) j = if j = i then x else nd h j := by
  unfold nd
  rw [List.getD_eq_getElem?_getD, List.getElem?_set]
  by_cases e : i = j
  · subst e; simp [hi]
  · rw [if_neg e, if_neg (fun e' => e e'.symm), ← List.getD_eq_getElem?_getD]
theorem nd_take {h : List Nd} {n i : Nat} (hi : i < n) : nd (h.take n) i = nd h i := by
  unfold nd; rw [List.getD_eq_getElem?_getD, List.getElem?_take_of_lt hi, ← List.getD_eq_getElem?_getD]
theorem nd_left {h t : List Nd} {i : Nat} (hi : i < h.length) : nd (h ++ t) i = nd h i := by
  unfold nd; rw [List.getD_eq_getElem?_getD, List.getElem?_append_left hi, ← List.getD_eq_getElem?_getD]
theorem nd_last (h : List Nd) (x : Nd) : nd (h ++ [x]) h.length = x := by
  unfold nd; rw [List.getD_eq_getElem?_getD, List.getElem?_append_right (Nat.le_refl _), Nat.sub_self]; rfl
theorem sw_length (h : List Nd) (i j : Nat) : (sw h i j).length = h.length := by unfold sw; rw [List.length_set, List.length_set]
theorem sw_nd {h : List Nd} {i j : Nat} (hi : i < h.length) (hj : j < h.length) (k : Nat) : nd (sw h i j) k = if k = j then nd h i else if k = i then nd h j else nd h k := by
  unfold sw
  rw [nd_set _ _ (by rw [List.length_set]; exact hj), nd_set _ _ hi]
theorem sw_at {h : List Nd} {i j : Nat} (hi : i < h.length) (hj : j < h.length) (k : Nat) : at_ (sw h i j) k = if k = j then at_ h i else if k = i then at_ h j else at_ h k := by
  unfold at_; rw [sw_nd hi hj]; split
  · rfl
  · split <;> rfl
theorem sw_perm {h : List Nd} {i j : Nat} (hi : i < h.length) (hj : j < h.length) : (sw h i j).Perm h := by
  unfold sw
  rw [nd_in hi, nd_in hj]
  exact List.set_set_perm hi hj
/-- No node is before the one above it. -/
def Heap (h : List Nd) : Prop := ∀ j, 0 < j → j < h.length → le (at_ h ((j - 1) / 2)) (at_ h j)
/-- All but the one at i are in order. -/
def Off (h : List Nd) (i : Nat) : Prop := (∀ j, 0 < j → j < h.length → j ≠ i → (j - 1) / 2 ≠ i → le (at_ h ((j - 1) / 2)) (at_ h j)) ∧ ∀ c, 0 < i → 0 < c → c < h.length → (c - 1) / 2 = i → le (at_ h ((i - 1) / 2)) (at_ h c)
/-- The one at i is not before the one above it. -/
def Up (h : List Nd) (i : Nat) : Prop := 0 < i → le (at_ h ((i - 1) / 2)) (at_ h i)
theorem off_rise {h : List Nd} {i : Nat} (hO : Off h i) (hi : i < h.length) (h0 : 0 < i) : Off (sw h i ((i - 1) / 2)) ((i - 1) / 2) := by
  obtain ⟨p, hp⟩ : ∃ p, (i - 1) / 2 = p := ⟨_, rfl⟩
  have hpi : p < i := by omega
  have hpl : p < h.length := by omega
  rw [hp]
  refine ⟨fun j j0 jl j1 j2 => ?_, fun c p0 c0 cl cp => ?_⟩
  · rw [sw_length] at jl
    rw [sw_at hi hpl, sw_at hi hpl, if_neg j2, if_neg j1]
    have hji : j ≠ i := fun e => by rw [e] at j2; exact j2 hp
    rw [if_neg hji]
    by_cases e : (j - 1) / 2 = i
    · rw [if_pos e]
      have := hO.2 j h0 j0 jl e
      rwa [hp] at this
    · rw [if_neg e]
      exact hO.1 j j0 jl hji e
  · rw [sw_length] at cl
    have hpp : (p - 1) / 2 ≠ p := by omega
    have hpi2 : (p - 1) / 2 ≠ i := by omega
    have k1 : le (at_ h ((p - 1) / 2)) (at_ h p) := hO.1 p p0 hpl (by omega) hpi2
    rw [sw_at hi hpl, sw_at hi hpl, if_neg hpp, if_neg hpi2]
    have hcp : c ≠ p := by omega
    rw [if_neg hcp]
    by_cases e : c = i
    · rw [if_pos e]; exact k1
    · rw [if_neg e]
      have k2 := hO.1 c c0 cl e (by omega)
      rw [cp] at k2
      exact le_trans k1 k2
theorem off_sink {h : List Nd} {i c : Nat} (hO : Off h i) (hc : c < h.length) (c0 : 0 < c) (hp : (c - 1) / 2 = i) (hb : bf (at_ h c) (at_ h i) = true) (hl : ∀ d, 0 < d → d < h.length → (d - 1) / 2 = i → le (at_ h c) (at_ h d)) :
    Off (sw h i c) c ∧ Up (sw h i c) c := by
  have hic : i < c := by omega
  have hi : i < h.length := by omega
  refine ⟨⟨fun j j0 jl j1 j2 => ?_, fun d _ d0 dl dp => ?_⟩, fun _ => ?_⟩
  · rw [sw_length] at jl
    rw [sw_at hi hc, sw_at hi hc, if_neg j2, if_neg j1]
    by_cases e : j = i
    · subst e
      rw [if_pos rfl, if_neg (by omega)]
      exact hO.2 c j0 c0 hc hp
    · rw [if_neg e]
      by_cases e2 : (j - 1) / 2 = i
      · rw [if_pos e2]; exact hl j j0 jl e2
      · rw [if_neg e2]; exact hO.1 j j0 jl e e2
  · rw [sw_length] at dl
    rw [hp, sw_at hi hc, sw_at hi hc, if_neg (by omega), if_pos rfl, if_neg (by omega), if_neg (by omega)]
    have := hO.1 d d0 dl (by omega) (by omega)
    rwa [dp] at this
  · rw [hp, sw_at hi hc, sw_at hi hc, if_neg (by omega), if_pos rfl, if_pos rfl]
    exact le_of_bf hb
theorem heap_of {h : List Nd} {i : Nat} (hO : Off h i) (hU : Up h i) (hl : ∀ d, 0 < d → d < h.length → (d - 1) / 2 = i → le (at_ h i) (at_ h d)) : Heap h := fun j j0 jl => by
  by_cases e : j = i
  · subst e; exact hU j0
  · by_cases e2 : (j - 1) / 2 = i
    · rw [e2]; exact hl j j0 jl e2
    · exact hO.1 j j0 jl e e2
theorem heap_off {h h' : List Nd} {i : Nat} (hH : Heap h) (hl : h'.length ≤ h.length) (he : ∀ j, j < h'.length → j ≠ i → at_ h' j = at_ h j) : Off h' i := by
  refine ⟨fun j j0 jl j1 j2 => ?_, fun c i0 c0 cl cp => ?_⟩
  · rw [he _ (by omega) j2, he _ jl j1]
    exact hH j j0 (by omega)
  · rw [he _ (by omega) (by omega), he _ cl (by omega)]
    have k1 := hH c c0 (by omega)
    rw [cp] at k1
    exact le_trans (hH i i0 (by omega)) k1
theorem heap_min {h : List Nd} (hH : Heap h) : ∀ n j, j ≤ n → j < h.length → le (at_ h 0) (at_ h j)
  | 0, j, hj, _ => by obtain rfl : j = 0 := by omega
                      exact le_refl _
  | n + 1, j, hj, hl => by
    by_cases e : j = 0
    · subst e; exact le_refl _
    · exact le_trans (heap_min hH n ((j - 1) / 2) (by omega) (by omega)) (hH j (by omega) hl)
/-! The queue: keys with their expiries in ascending order of these, then of the keys. -/
def Srt (L : List On) : Prop := L.Pairwise fun x y => bf x y = true
def Ks (L : List On) : Prop := (L.map On.k).Nodup
def rem (L : List On) (k : ByteArray) : List On := L.filter fun x => decide (x.k ≠ k)
def ins (x : On) : List On → List On
  | [] => [x]
  | y :: l => if bf y x = true then y :: ins x l else x :: y :: l
def put (L : List On) (k : ByteArray) (a : Int) : List On := if a < 1 then rem L k else ins ⟨k, a⟩ (rem L k)
def due (now : Int) (L : List On) : List On := L.takeWhile fun x => decide (x.r ≤ now)
def left (now : Int) (L : List On) : List On := L.dropWhile fun x => decide (x.r ≤ now)
def keys (L : List On) : List ByteArray := L.map On.k
theorem ins_perm (x : On) : ∀ L : List On, (ins x L).Perm (x :: L)
  | [] => List.Perm.refl _
  | y :: l => by
    unfold ins
    split
    · exact ((ins_perm x l).cons y).trans (List.Perm.swap x y l)
    · exact List.Perm.refl _
theorem mem_ins {x y : On} {L : List On} : y ∈ ins x L ↔ y = x ∨ y ∈ L := by rw [(ins_perm x L).mem_iff, List.mem_cons]
theorem mem_rem {x : On} {L : List On} {k : ByteArray} : x ∈ rem L k ↔ x ∈ L ∧ x.k ≠ k := by unfold rem; rw [List.mem_filter, decide_eq_true_iff]
theorem srt_ins {x : On} : ∀ {L : List On}, Srt L → (∀ y ∈ L, y ≠ x) → Srt (ins x L)
  | [], _, _ => List.pairwise_singleton _ _
  | y :: l, h, hn => by
    obtain ⟨h1, h2⟩ := List.pairwise_cons.1 h
    unfold ins
    split
    · rename_i hy
      refine List.pairwise_cons.2 ⟨fun z hz => ?_, srt_ins h2 fun z hz => hn z (List.mem_cons_of_mem _ hz)⟩
      rcases mem_ins.1 hz with rfl | hz
      · exact hy
      · exact h1 z hz
    · rename_i hy
      have hxy : bf x y = true := by
        rcases le_cases (x := x) (y := y) (by unfold le; simpa using hy) with e | e
        · exact e
        · exact absurd e.symm (hn y List.mem_cons_self)
      refine List.pairwise_cons.2 ⟨fun z hz => ?_, h⟩
      rcases List.mem_cons.1 hz with rfl | hz
      · exact hxy
      · exact bf_trans hxy (h1 z hz)
theorem srt_rem {L : List On} (h : Srt L) (k : ByteArray) : Srt (rem L k) := h.filter _
theorem ks_rem {L : List On} (h : Ks L) (k : ByteArray) : Ks (rem L k) := h.sublist ((List.filter_sublist (l := L)).map _)
theorem ks_ins {x : On} {L : List On} (h : Ks L) (hn : ∀ y ∈ L, y.k ≠ x.k) : Ks (ins x L) := by
  unfold Ks at *
  rw [((ins_perm x L).map On.k).nodup_iff, List.map_cons, List.nodup_cons]
  refine ⟨fun hm => ?_, h⟩
  obtain ⟨y, hy, e⟩ := List.mem_map.1 hm
  exact hn y hy e
theorem srt_put {L : List On} (h : Srt L) (k : ByteArray) (a : Int) : Srt (put L k a) := by
  unfold put
  split
  · exact srt_rem h k
  · exact srt_ins (srt_rem h k) fun y hy e => (mem_rem.1 hy).2 (by rw [e])
theorem ks_put {L : List On} (h : Ks L) (k : ByteArray) (a : Int) : Ks (put L k a) := by
  unfold put
  split
  · exact ks_rem h k
  · exact ks_ins (ks_rem h k) fun y hy => (mem_rem.1 hy).2
theorem rem_le (L : List On) (k : ByteArray) : (rem L k).length ≤ L.length := List.length_filter_le _ _
theorem put_le (L : List On) (k : ByteArray) (a : Int) : (put L k a).length ≤ L.length + 1 := by
  have := rem_le L k
  unfold put
  split
  · omega
  · rw [(ins_perm _ _).length_eq, List.length_cons]; omega
theorem rem_no {L : List On} {k : ByteArray} (h : ∀ x ∈ L, x.k ≠ k) : rem L k = L := List.filter_eq_self.2 fun x hx => decide_eq_true (h x hx)
theorem srt_one {L L' : List On} (h : Srt L) (h' : Srt L') (hp : L.Perm L') : L = L' :=
  List.Perm.eq_of_pairwise (le := fun x y => bf x y = true) (fun a b _ _ h1 h2 => by have := bf_trans h1 h2; rw [bf_irrefl] at this; cases this) h h' hp
/-- A heap that holds a queue. -/
structure Rep (h : List Nd) (L : List On) : Prop where
  heap : Heap h
  perm : (h.map Nd.o).Perm L
  srt : Srt L
  ks : Ks L
theorem Rep.length {h : List Nd} {L : List On} (hR : Rep h L) : h.length = L.length := by have := hR.perm.length_eq; rwa [List.length_map] at this
theorem Rep.nil : Rep [] [] := ⟨fun _ _ h => absurd h (Nat.not_lt_zero _), List.Perm.refl _, List.Pairwise.nil, List.Pairwise.nil⟩
theorem nd_mem {h : List Nd} {i : Nat} (hi : i < h.length) : nd h i ∈ h := by rw [nd_in hi]; exact List.getElem_mem hi
theorem Rep.mem {h : List Nd} {L : List On} (hR : Rep h L) (x : On) : x ∈ L ↔ ∃ i, i < h.length ∧ at_ h i = x := by
  rw [← hR.perm.mem_iff, List.mem_map]
  constructor
  · rintro ⟨y, hy, rfl⟩
    obtain ⟨i, hi, rfl⟩ := List.getElem_of_mem hy
    exact ⟨i, hi, by unfold at_; rw [nd_in hi]⟩
  · rintro ⟨i, hi, rfl⟩
    exact ⟨nd h i, nd_mem hi, rfl⟩
theorem Rep.inj {h : List Nd} {L : List On} (hR : Rep h L) {i j : Nat} (hi : i < h.length) (hj : j < h.length) (e : (at_ h i).k = (at_ h j).k) : i = j := by
  have hn : (h.map fun x => x.o.k).Nodup := by
    have := hR.ks
    unfold Ks at this
    rw [← (hR.perm.map On.k).nodup_iff, List.map_map] at this
    exact this
  have key : ∀ i j, i < j → j < h.length → (at_ h i).k ≠ (at_ h j).k := fun i j h1 h2 => by
    have h3 : i < h.length := by omega
    have := List.pairwise_iff_getElem.1 hn i j (by rw [List.length_map]; exact h3) (by rw [List.length_map]; exact h2) h1
    rw [List.getElem_map, List.getElem_map] at this
    unfold at_; rw [nd_in h3, nd_in h2]
    exact this
  rcases Nat.lt_trichotomy i j with h1 | h1 | h1
  · exact absurd e (key i j h1 hj)
  · exact h1
  · exact absurd e.symm (key j i h1 hi)
/-- The first node is the queue's first key. -/
theorem Rep.first {h : List Nd} {x : On} {L : List On} (hR : Rep h (x :: L)) : 0 < h.length ∧ at_ h 0 = x := by
  have hl := hR.length
  rw [List.length_cons] at hl
  have h0 : 0 < h.length := by omega
  refine ⟨h0, ?_⟩
  obtain ⟨i, hi, e⟩ := (hR.mem x).1 List.mem_cons_self
  have k1 := heap_min hR.heap i i (Nat.le_refl _) hi
  rw [e] at k1
  have k2 : at_ h 0 ∈ x :: L := (hR.mem _).2 ⟨0, h0, rfl⟩
  rcases List.mem_cons.1 k2 with k2 | k2
  · exact k2
  · exact absurd ((List.pairwise_cons.1 hR.srt).1 _ k2) (by unfold le at k1; rw [k1]; decide)
/-- One key less. -/
theorem perm_rem {L R : List On} {x : On} (hp : L.Perm (x :: R)) (hk : Ks L) : (rem L x.k).Perm R := by
  have h1 : (rem L x.k).Perm (rem (x :: R) x.k) := hp.filter _
  refine h1.trans ?_
  have hn : Ks (x :: R) := by unfold Ks at *; exact (hp.map On.k).nodup_iff.1 hk
  unfold Ks at hn
  rw [List.map_cons, List.nodup_cons] at hn
  have e1 : rem (x :: R) x.k = rem R x.k := by unfold rem; rw [List.filter_cons_of_neg (by simp)]
  rw [e1, rem_no fun y hy e => hn.1 (List.mem_map.2 ⟨y, hy, e⟩)]
theorem Rep.cut {h h' : List Nd} {L : List On} {i : Nat} (hR : Rep h L) (hp : (nd h i :: h').Perm h) (hH : Heap h') : Rep h' (rem L (at_ h i).k) := by
  refine ⟨hH, ?_, srt_rem hR.srt _, ks_rem hR.ks _⟩
  have h1 : L.Perm (at_ h i :: h'.map Nd.o) := hR.perm.symm.trans ((hp.map Nd.o).symm)
  exact (perm_rem h1 hR.ks).symm
theorem Rep.set {h h' : List Nd} {L : List On} {i : Nat} (hR : Rep h L) (hi : i < h.length) {a : Int} (ha : ¬ a < 1) (hp : h'.Perm (h.set i ⟨⟨(at_ h i).k, a⟩, (nd h i).b⟩)) (hH : Heap h') : Rep h' (put L (at_ h i).k a) := by
  refine ⟨hH, ?_, srt_put hR.srt _ _, ks_put hR.ks _ _⟩
  have e : h = h.take i ++ (nd h i :: h.drop (i + 1)) := by rw [nd_in hi, ← List.drop_eq_getElem_cons hi, List.take_append_drop]
  have h1 : L.Perm (at_ h i :: (h.take i ++ h.drop (i + 1)).map Nd.o) := by
    refine hR.perm.symm.trans ?_
    rw [show (at_ h i :: (h.take i ++ h.drop (i + 1)).map Nd.o) = (nd h i :: (h.take i ++ h.drop (i + 1))).map Nd.o from rfl]
    refine List.Perm.map _ ?_
    have := @List.perm_middle _ (nd h i) (h.take i) (h.drop (i + 1))
    rw [← e] at this
    exact this
  have h2 := perm_rem h1 hR.ks
  unfold put
  rw [if_neg ha]
  refine (hp.map Nd.o).trans (List.Perm.trans ?_ (ins_perm _ _).symm)
  refine List.Perm.trans ?_ (h2.symm.cons _)
  rw [List.set_eq_take_append_cons_drop, if_pos hi, List.map_append, List.map_cons, List.map_append]
  exact List.perm_middle
theorem Rep.add {h h' : List Nd} {L : List On} (hR : Rep h L) {k : ByteArray} {a : Int} {b : Nat} (ha : ¬ a < 1) (hn : ∀ i, i < h.length → (at_ h i).k ≠ k) (hp : h'.Perm (h ++ [⟨⟨k, a⟩, b⟩])) (hH : Heap h') : Rep h' (put L k a) := by
  refine ⟨hH, ?_, srt_put hR.srt _ _, ks_put hR.ks _ _⟩
  have hno : rem L k = L := rem_no fun x hx e => by
    obtain ⟨i, hi, rfl⟩ := (hR.mem x).1 hx
    exact hn i hi e
  unfold put
  rw [if_neg ha, hno]
  refine (hp.map Nd.o).trans (List.Perm.trans ?_ (ins_perm _ _).symm)
  rw [List.map_append]
  exact (List.perm_append_comm).trans (hR.perm.cons _)
/-- What the queue answers. -/
theorem due_cons_yes {x : On} {L : List On} {now : Int} (h : x.r ≤ now) : due now (x :: L) = x :: due now L ∧ left now (x :: L) = left now L := by
  unfold due left; rw [List.takeWhile_cons, List.dropWhile_cons]; simp [h]
theorem due_cons_no {x : On} {L : List On} {now : Int} (h : ¬ x.r ≤ now) : due now (x :: L) = [] ∧ left now (x :: L) = x :: L := by
  unfold due left; rw [List.takeWhile_cons, List.dropWhile_cons]; simp [h]
theorem due_nil (now : Int) : due now [] = [] ∧ left now [] = [] := ⟨rfl, rfl⟩
theorem due_two {a b : Int} (h : a ≤ b) : ∀ L : List On, due a L ++ due b (left a L) = due b L ∧ left b (left a L) = left b L
  | [] => ⟨rfl, rfl⟩
  | x :: L => by
    by_cases h1 : x.r ≤ a
    · obtain ⟨e1, e2⟩ := due_cons_yes (L := L) h1
      obtain ⟨e3, e4⟩ := due_cons_yes (L := L) (Int.le_trans h1 h)
      obtain ⟨i1, i2⟩ := due_two h L
      rw [e1, e2, e3, e4, List.cons_append, i1, i2]
      exact ⟨rfl, rfl⟩
    · obtain ⟨e1, e2⟩ := due_cons_no (L := L) h1
      rw [e1, e2, List.nil_append]
      exact ⟨rfl, rfl⟩
theorem left_length (now : Int) (L : List On) : (left now L).length ≤ L.length := (List.dropWhile_sublist _).length_le
theorem due_length (now : Int) (L : List On) : (due now L).length ≤ L.length := (List.takeWhile_sublist _).length_le
/-- Taking the first key away is Remove of it. -/
theorem rem_first {x : On} {L : List On} (hk : Ks (x :: L)) : rem (x :: L) x.k = L := by
  unfold Ks at hk
  rw [List.map_cons, List.nodup_cons] at hk
  have e1 : rem (x :: L) x.k = rem L x.k := by unfold rem; rw [List.filter_cons_of_neg (by simp)]
  rw [e1, rem_no fun y hy e => hk.1 (List.mem_map.2 ⟨y, hy, e⟩)]
end Go.Proofs.Ytkhmimdigdjajaa.Ex
