/-
  Plain mathematics of replay: what a list of records leaves of a map, the sorted list of its pairs, the oldest records left out, a later time, a flush. Nothing of the program.
-/
import Derived.Test.YtcdomlgnfbdeoaaTbOrd
namespace Go.Proofs.Ytcdomlgnfbdeoaa
namespace Rp
open Go Tb
/-- A record that was found, with the number of its batch. -/
structure F where
  seq : Int
  off : Int
  len : Int
  kd : Int
  key : ByteArray
  exp : Int
def F0 : F := ⟨0, 0, 0, 0, ⟨#[]⟩, 0⟩
def F.en (f : F) : En := ⟨f.seq, f.off, f.len, f.exp, false⟩
abbrev St := ByteArray → Option En
def st0 : St := fun _ => none
def step (H : St) (f : F) : St := fun k => if f.kd = 3 then none else if f.kd = 2 then (if k = f.key then none else H k) else if f.kd = 1 then (if k = f.key then some f.en else H k) else H k
def run (H : St) (l : List F) : St := l.foldl step H
def fin (l : List F) : St := run st0 l
theorem run_append (H : St) (a b : List F) : run H (a ++ b) = run (run H a) b := List.foldl_append ..
theorem fin_nil : fin [] = st0 := rfl
theorem fin_next (l : List F) (f : F) : fin (l ++ [f]) = step (fin l) f := run_append st0 l [f]
theorem take_next {l : List F} {i : Nat} (hi : i < l.length) : l.take (i + 1) = l.take i ++ [l.getD i F0] := by
  rw [List.take_succ_eq_append_getElem hi, List.getD_eq_getElem?_getD, List.getElem?_eq_getElem hi]; rfl
/-- The records of one more: the last one decides, or it does not concern the key. -/
theorem fin_take {l : List F} {i : Nat} (hi : i < l.length) (k : ByteArray) : fin (l.take (i + 1)) k = step (fin (l.take i)) (l.getD i F0) k := by
  rw [take_next hi, fin_next]
theorem step_flush {H : St} {f : F} (h : f.kd = 3) (k : ByteArray) : step H f k = none := if_pos h
theorem step_gone {H : St} {f : F} (h : f.kd = 2) : step H f f.key = none := by unfold step; rw [if_neg (by omega), if_pos h, if_pos rfl]
theorem step_value {H : St} {f : F} (h : f.kd = 1) : step H f f.key = some f.en := by unfold step; rw [if_neg (by omega), if_neg (by omega), if_pos h, if_pos rfl]
theorem step_other {H : St} {f : F} {k : ByteArray} (h3 : f.kd ≠ 3) (hk : k ≠ f.key ∨ (f.kd ≠ 1 ∧ f.kd ≠ 2)) : step H f k = H k := by
  unfold step
  rw [if_neg h3]
  rcases hk with hk | ⟨h1, h2⟩
  · rw [if_neg hk, if_neg hk]
    split <;> simp
  · rw [if_neg h2, if_neg h1]
def alive (now : Int) (e : En) : Bool := decide (e.exp = 0) || decide (now < e.exp)
def out (now : Int) (H : St) : St := fun k => (H k).filter (alive now)
theorem out_some {now : Int} {H : St} {k : ByteArray} {e : En} : out now H k = some e ↔ H k = some e ∧ alive now e = true := by
  unfold out
  cases H k with
  | none => simp [Option.filter]
  | some x =>
    simp only [Option.filter]
    constructor
    · intro h
      split at h
      · next hx =>
        injection h with h
        subst h
        exact ⟨rfl, hx⟩
      · cases h
    · rintro ⟨h1, h2⟩
      injection h1 with h1
      subst h1
      rw [if_pos h2]
/-- A sorted list that holds a map. -/
def Is (L : List Pr) (H : St) : Prop := Srt L ∧ ∀ k e, (k, e) ∈ L ↔ H k = some e
theorem Is.one {L K : List Pr} {H : St} (h : Is L H) (k : Is K H) : L = K := srt_eq h.1 k.1 (perm_of (srt_dif h.1) (srt_dif k.1) fun a e => (h.2 a e).trans (k.2 a e).symm)
theorem Is.congr {L : List Pr} {H K : St} (h : Is L H) (e : ∀ k, H k = K k) : Is L K := ⟨h.1, fun k x => by rw [h.2, e]⟩
theorem Is.nil : Is [] st0 := ⟨List.Pairwise.nil, fun k e => ⟨fun h => (by cases h), fun h => (by cases h)⟩⟩
theorem Is.filter {L : List Pr} {H : St} (h : Is L H) (p : En → Bool) : Is (L.filter fun q => p q.2) (fun k => (H k).filter p) := by
  refine ⟨List.Pairwise.filter _ h.1, fun k e => ?_⟩
  rw [List.mem_filter, h.2]
  show _ ↔ (H k).filter p = some e
  cases H k with
  | none => simp [Option.filter]
  | some x =>
    simp only [Option.filter]
    constructor
    · rintro ⟨h1, h2⟩
      injection h1 with h1
      subst h1
      rw [if_pos h2]
    · intro h1
      split at h1
      · next hx =>
        injection h1 with h1
        subst h1
        exact ⟨rfl, hx⟩
      · cases h1
/-- The list of the program's map: what lies in it at the end, and is alive. -/
theorem Is.alive {L : List Pr} {H : St} (h : Is L H) (now : Int) : Is (L.filter fun q => alive now q.2) (out now H) := h.filter _
/-- What is in the map comes from a value of that key. -/
theorem fin_some : ∀ {l : List F} {n : Nat}, l.length = n → ∀ {k : ByteArray} {e : En}, fin l k = some e → ∃ f ∈ l, f.kd = 1 ∧ f.key = k ∧ e = f.en := by
  intro l n
  induction n generalizing l with
  | zero =>
    intro hl k e h
    obtain rfl : l = [] := List.length_eq_zero_iff.1 hl
    cases h
  | succ n ih =>
    intro hl k e h
    have hd : l = l.take n ++ [l.getD n F0] := by
      have := take_next (l := l) (i := n) (by omega)
      rwa [List.take_of_length_le (by omega)] at this
    have hlen : (l.take n).length = n := by rw [List.length_take]; omega
    have hin : ∀ {f}, f ∈ l.take n → f ∈ l := fun hf => List.mem_of_mem_take hf
    rw [hd, fin_next] at h
    unfold step at h
    have hlast : l.getD n F0 ∈ l := by
      rw [List.getD_eq_getElem?_getD, List.getElem?_eq_getElem (by omega)]; exact List.getElem_mem _
    split at h
    · cases h
    · split at h
      · split at h
        · cases h
        · obtain ⟨f, hf, h2⟩ := ih hlen h
          exact ⟨f, hin hf, h2⟩
      · split at h
        · next h1 =>
          split at h
          · next hk =>
            injection h with h
            exact ⟨_, hlast, h1, hk.symm, h.symm⟩
          · obtain ⟨f, hf, h2⟩ := ih hlen h
            exact ⟨f, hin hf, h2⟩
        · obtain ⟨f, hf, h2⟩ := ih hlen h
          exact ⟨f, hin hf, h2⟩
/-- The reference's table while j of the records were gone through. -/
structure Half (l : List F) (now : Int) (j : Nat) (L : List Pr) : Prop where
  srt : Srt L
  mem : ∀ k e, (k, e) ∈ L ↔ out now (fin l) k = some e ∧ ∃ f ∈ l.take j, f.kd = 1 ∧ f.key = k
theorem Half.zero (l : List F) (now : Int) : Half l now 0 [] := ⟨List.Pairwise.nil, fun k e => ⟨fun h => (by cases h), fun ⟨_, f, hf, _⟩ => (by rw [List.take_zero] at hf; cases hf)⟩⟩
theorem Half.same {l : List F} {now : Int} {j : Nat} {L : List Pr} (h : Half l now j L) (hj : j < l.length) (hn : (l.getD j F0).kd ≠ 1 ∨ out now (fin l) (l.getD j F0).key = none) : Half l now (j + 1) L := by
  refine ⟨h.srt, fun k e => (h.mem k e).trans ⟨fun ⟨h1, f, hf, h2⟩ => ⟨h1, f, by rw [take_next hj]; exact List.mem_append_left _ hf, h2⟩, fun ⟨h1, f, hf, h2, h3⟩ => ?_⟩⟩
  rw [take_next hj] at hf
  rcases List.mem_append.1 hf with hf | hf
  · exact ⟨h1, f, hf, h2, h3⟩
  · rw [List.mem_singleton.1 hf] at h2 h3
    rcases hn with hn | hn
    · exact absurd h2 hn
    · rw [h3] at hn
      rw [hn] at h1
      cases h1
theorem Half.set {l : List F} {now : Int} {j : Nat} {L L' : List Pr} {e : En} (h : Half l now j L) (hj : j < l.length) (hk : (l.getD j F0).kd = 1) (he : out now (fin l) (l.getD j F0).key = some e) (hS : Srt L')
    (hm : ∀ k' e', (k', e') ∈ L' ↔ ((l.getD j F0).key = k' ∧ e = e') ∨ ((l.getD j F0).key ≠ k' ∧ (k', e') ∈ L)) : Half l now (j + 1) L' := by
  refine ⟨hS, fun k x => (hm k x).trans ⟨fun hx => ?_, fun ⟨h1, f, hf, h2, h3⟩ => ?_⟩⟩
  · rcases hx with ⟨e1, e2⟩ | ⟨e1, e2⟩
    · rw [e1] at he
      rw [he, e2]
      exact ⟨rfl, _, by rw [take_next hj]; exact List.mem_append_right _ (List.mem_singleton.2 rfl), hk, e1⟩
    · obtain ⟨h1, f, hf, h2⟩ := (h.mem k x).1 e2
      exact ⟨h1, f, by rw [take_next hj]; exact List.mem_append_left _ hf, h2⟩
  · by_cases e1 : (l.getD j F0).key = k
    · rw [e1, h1] at he
      injection he with he
      exact .inl ⟨e1, he.symm⟩
    · refine .inr ⟨e1, (h.mem k x).2 ⟨h1, f, ?_, h2, h3⟩⟩
      rw [take_next hj] at hf
      rcases List.mem_append.1 hf with hf | hf
      · exact hf
      · rw [List.mem_singleton.1 hf] at h3
        exact absurd h3 e1
theorem Half.done {l : List F} {now : Int} {L : List Pr} (h : Half l now l.length L) : Is L (out now (fin l)) := by
  refine ⟨h.srt, fun k e => (h.mem k e).trans ⟨fun h1 => h1.1, fun h1 => ⟨h1, ?_⟩⟩⟩
  obtain ⟨h2, -⟩ := out_some.1 h1
  obtain ⟨f, hf, h3, h4, -⟩ := fin_some rfl h2
  exact ⟨f, by rw [List.take_of_length_le (Nat.le_refl _)]; exact hf, h3, h4⟩
/-- Ahead of some records: what they leave is as without what lies ahead, or they leave nothing and it is as it was. -/
theorem fin_two (a : List F) : ∀ (n : Nat) (b : List F), b.length = n → ∀ k, fin (a ++ b) k = fin b k ∨ (fin b k = none ∧ fin (a ++ b) k = fin a k) := by
  intro n
  induction n with
  | zero =>
    intro b hb k
    obtain rfl : b = [] := List.length_eq_zero_iff.1 hb
    rw [List.append_nil]
    exact .inr ⟨rfl, rfl⟩
  | succ n ih =>
    intro b hb k
    have hd : b = b.take n ++ [b.getD n F0] := by
      have := take_next (l := b) (i := n) (by omega)
      rwa [List.take_of_length_le (by omega)] at this
    have hlen : (b.take n).length = n := by rw [List.length_take]; omega
    generalize b.take n = c at *
    generalize b.getD n F0 = f at *
    subst hd
    have h := ih c hlen k
    rw [← List.append_assoc, fin_next, fin_next]
    by_cases h3 : f.kd = 3
    · rw [step_flush h3, step_flush h3]; exact .inl rfl
    · by_cases hk : k = f.key ∧ (f.kd = 1 ∨ f.kd = 2)
      · obtain ⟨rfl, h1 | h2⟩ := hk
        · rw [step_value h1, step_value h1]; exact .inl rfl
        · rw [step_gone h2, step_gone h2]; exact .inl rfl
      · have hk2 : k ≠ f.key ∨ (f.kd ≠ 1 ∧ f.kd ≠ 2) := by
          by_cases e : k = f.key
          · exact .inr ⟨fun h => hk ⟨e, .inl h⟩, fun h => hk ⟨e, .inr h⟩⟩
          · exact .inl e
        rw [step_other h3 hk2, step_other h3 hk2]
        exact h
/-- Without the oldest records: what lies in the rest. -/
theorem fin_rest {a b : List F} {n : Int} (ha : ∀ f ∈ a, f.seq ≤ n) (hb : ∀ f ∈ b, n < f.seq) (now : Int) (k : ByteArray) : (out now (fin (a ++ b)) k).filter (fun e => decide (n < e.seq)) = out now (fin b) k := by
  have hB : ∀ e, fin b k = some e → n < e.seq := fun e h => by
    obtain ⟨f, hf, -, -, rfl⟩ := fin_some rfl h
    exact hb f hf
  have hA : ∀ e, fin a k = some e → e.seq ≤ n := fun e h => by
    obtain ⟨f, hf, -, -, rfl⟩ := fin_some rfl h
    exact ha f hf
  unfold out
  rcases fin_two a b.length b rfl k with h | ⟨h1, h2⟩
  · rw [h]
    cases hx : fin b k with
    | none => rfl
    | some e =>
      have := hB e hx
      by_cases ha : Rp.alive now e = true
      · simp [Option.filter, ha, this]
      · simp [Option.filter, ha]
  · rw [h1, h2]
    cases hx : fin a k with
    | none => rfl
    | some e =>
      have := hA e hx
      have hn : ¬ n < e.seq := by omega
      by_cases ha : Rp.alive now e = true
      · simp [Option.filter, ha, hn]
      · simp [Option.filter, ha]
/-- A later time removes those whose expiry has come. -/
theorem out_later {now t : Int} (ht : now ≤ t) (H : St) (k : ByteArray) : (out now H k).filter (alive t) = out t H k := by
  unfold out
  cases H k with
  | none => rfl
  | some e =>
    by_cases h : Rp.alive now e = true
    · simp [Option.filter, h]
    · have h2 : ¬ Rp.alive t e = true := fun h3 => h (by
        unfold Rp.alive at h3 ⊢
        rw [Bool.or_eq_true] at h3 ⊢
        rcases h3 with h3 | h3
        · exact .inl h3
        · exact .inr (decide_eq_true (by have := of_decide_eq_true h3; omega)))
      simp [Option.filter, h, h2]
/-- What comes before a flush does not matter. -/
theorem fin_flush (a b : List F) {f : F} (h : f.kd = 3) : fin (a ++ f :: b) = fin b := by
  have e : step (run st0 a) f = st0 := funext fun k => step_flush h k
  show run st0 (a ++ f :: b) = run st0 b
  rw [run_append]
  show run (step (run st0 a) f) b = _
  rw [e]
/-- Expired ones go at any time: the same list. -/
theorem fin_small (l : List F) (L : List Pr) (now : Int) (h : Is L (out now (fin l))) : ∀ p ∈ L, ∃ f ∈ l, f.kd = 1 ∧ f.key = p.1 ∧ p.2 = f.en := fun p hp => fin_some rfl (out_some.1 ((h.2 p.1 p.2).1 hp)).1
end Rp
end Go.Proofs.Ytcdomlgnfbdeoaa
