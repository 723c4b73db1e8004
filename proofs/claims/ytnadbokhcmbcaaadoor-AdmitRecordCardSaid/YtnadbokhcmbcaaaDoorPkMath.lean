/-
  Plain mathematics of packing: the stream of records, its frames, what was put is found again. Nothing of the program.
-/
import Derived.Test.YtnadbokhcmbcaaaDoorGmMath
namespace Go.Proofs.YtnadbokhcmbcaaaDoor
namespace Pk
open Sb
/-- Can there be a packer? -/
def ok (l : L) (slot seq : Int) : Prop := Gm.has l slot ∧ 1 ≤ seq ∧ seq ≤ 281474976710655
instance (l : L) (slot seq : Int) : Decidable (ok l slot seq) := by unfold ok; infer_instance
def may (l : L) (slot seq : Int) : Int := if form l then (if ok l slot seq then 0 else 2) else 4
/-- How many bytes the stream can have. -/
def cap (l : L) : Nat := ((l.rs - 1) * 59).toNat
/-- The sector of a frame, the frame. -/
def sec (l : L) (slot : Int) (i : Nat) : Int := Gm.spot l slot + 1 + (i : Int)
def frame (l : L) (slot seq : Int) (st : List Nat) (i : Nat) : List Nat := Fr.enc 2 seq (sec l slot i) (Rc.sub st (i * 59) 59)
def full (st : List Nat) : Nat := st.length / 59
def secs (l : L) (slot : Int) (k n : Nat) : List Int := (List.range' k n).map (sec l slot)
def frames (l : L) (slot seq : Int) (st : List Nat) (k n : Nat) : List (List Nat) := (List.range' k n).map (frame l slot seq st)
def pad (st : List Nat) : List Nat := st ++ List.replicate ((59 - st.length % 59) % 59) 0
/-- The first error of Put. -/
def err (l : L) (st : List Nat) (r : Rc.Rec) : Int := if Rc.check l.ver r ≠ 0 then Rc.check l.ver r else if cap l < st.length + Rc.len r then 8 else 0
def put (l : L) (seq : Int) (st : List Nat) (r : Rc.Rec) : List Nat := if err l st r = 0 then st ++ Rc.enc l.ver seq st.length r else st
/-- A stream of this packer, of which k frames were taken. -/
structure Fit (l : L) (slot seq : Int) (st : List Nat) (k : Nat) : Prop where
  ok : ok l slot seq
  lt : ∀ x ∈ st, x < 256
  le : st.length ≤ cap l
  full : k ≤ full st
section
variable {l : L} {slot seq : Int} {st : List Nat} {k : Nat}
theorem may_zero (h : ok l slot seq) : may l slot seq = 0 := by unfold may; rw [if_pos h.1.1, if_pos h]
theorem may_ne (h : ¬ ok l slot seq) : may l slot seq ≠ 0 := by unfold may; split <;> simp_all
theorem cap_eq (h : form l) : Gm.cap l = (cap l : Int) ∧ cap l % 59 = 0 ∧ cap l ≤ 120773 ∧ 59 ≤ cap l := by
  obtain ⟨h1, h2, -, -⟩ := Gm.form_nums h
  unfold Gm.cap cap
  rw [if_pos h]
  omega
theorem first_eq (h : ok l slot seq) : Gm.first l slot = Gm.spot l slot := if_pos h.1
theorem spot_le (h : ok l slot seq) : 74 ≤ Gm.spot l slot ∧ Gm.spot l slot ≤ 32842 := by
  have := Gm.spot_small h.1.1 h.1.2.1 (Int.le_of_lt h.1.2.2)
  unfold Gm.spot
  omega
theorem Fit.start (h : Pk.ok l slot seq) : Fit l slot seq [] 0 := ⟨h, fun _ h => (by cases h), Nat.zero_le _, Nat.zero_le _⟩
theorem Fit.short (h : Fit l slot seq st k) : st.length ≤ 120773 := Nat.le_trans h.le (cap_eq h.ok.1.1).2.2.1
theorem full_le (h : Fit l slot seq st k) : Pk.full st ≤ 2047 := by
  have := h.short
  unfold Pk.full
  omega
theorem Fit.take (h : Fit l slot seq st k) {i : Nat} (hi : i ≤ Pk.full st) : Fit l slot seq st i := ⟨h.ok, h.lt, h.le, hi⟩
theorem pad_length (st : List Nat) : (pad st).length = st.length + (59 - st.length % 59) % 59 := by unfold pad; rw [List.length_append, List.length_replicate]
theorem pad_mod (st : List Nat) : (pad st).length % 59 = 0 := by rw [pad_length]; omega
theorem Fit.pad (h : Fit l slot seq st k) : Fit l slot seq (pad st) k := by
  have hl := pad_length st
  have hc := cap_eq h.ok.1.1
  refine ⟨h.ok, fun x hx => ?_, ?_, ?_⟩
  · unfold Pk.pad at hx
    rcases List.mem_append.1 hx with hx | hx
    · exact h.lt x hx
    · rw [(List.mem_replicate.1 hx).2]; decide
  · have := h.le
    omega
  · refine Nat.le_trans h.full ?_
    unfold Pk.full
    omega
theorem err_zero {r : Rc.Rec} : err l st r = 0 ↔ Rc.check l.ver r = 0 ∧ st.length + Rc.len r ≤ cap l := by
  unfold err
  split
  · next h => exact ⟨fun e => absurd e h, fun e => absurd e.1 h⟩
  · next h =>
    have h := Decidable.not_not.1 h
    split
    · next h2 => exact ⟨(fun e => by cases e), fun e => by omega⟩
    · next h2 => exact ⟨fun _ => ⟨h, by omega⟩, fun _ => rfl⟩
theorem put_ok {r : Rc.Rec} (h : err l st r = 0) : put l seq st r = st ++ Rc.enc l.ver seq st.length r := if_pos h
theorem put_no {r : Rc.Rec} (h : err l st r ≠ 0) : put l seq st r = st := if_neg h
theorem put_more (l : L) (seq : Int) (st : List Nat) (r : Rc.Rec) : ∃ x, put l seq st r = st ++ x := by
  unfold put
  split
  · exact ⟨_, rfl⟩
  · exact ⟨[], (List.append_nil _).symm⟩
theorem Fit.put (h : Fit l slot seq st k) (r : Rc.Rec) (hk : ∀ x ∈ r.key, x < 256) (hv : ∀ x ∈ r.val, x < 256) : Fit l slot seq (put l seq st r) k := by
  by_cases he : err l st r = 0
  · rw [put_ok he]
    have h2 := (err_zero.1 he).2
    refine ⟨h.ok, fun x hx => ?_, ?_, Nat.le_trans h.full ?_⟩
    · rcases List.mem_append.1 hx with hx | hx
      · exact h.lt x hx
      · exact Rc.enc_lt _ _ _ _ hk hv x hx
    · rw [List.length_append, Rc.enc_length]; exact h2
    · unfold Pk.full
      rw [List.length_append]
      exact Nat.div_le_div_right (Nat.le_add_right _ _)
  · rw [put_no he]; exact h
theorem place_ok (h : Fit l slot seq st k) : Rc.place seq (st.length : Int) := ⟨by have := h.ok.2.1; omega, by omega, by have := h.short; omega⟩
/-- A part of a stream is there whatever comes behind. -/
theorem sub_more (st x : List Nat) (i n : Nat) (h : i + n ≤ st.length) : Rc.sub (st ++ x) i n = Rc.sub st i n := by
  unfold Rc.sub
  rw [List.drop_append_of_le_length (by omega), List.take_append_of_le_length (by rw [List.length_drop]; omega)]
theorem frame_more (st x : List Nat) (i : Nat) (h : i < Pk.full st) : frame l slot seq (st ++ x) i = frame l slot seq st i := by
  unfold Pk.full at h
  unfold frame
  rw [sub_more st x (i * 59) 59 (by omega)]
theorem frames_more (st x : List Nat) (j n : Nat) (h : j + n ≤ Pk.full st) : frames l slot seq (st ++ x) j n = frames l slot seq st j n := by
  unfold frames
  refine List.map_congr_left fun i hi => frame_more st x i ?_
  have := List.mem_range'_1.1 hi
  omega
theorem sub_put (st x : List Nat) : Rc.sub (st ++ x) st.length x.length = x := by
  unfold Rc.sub
  rw [List.drop_left, List.take_length]
theorem secs_length (l : L) (slot : Int) (j n : Nat) : (secs l slot j n).length = n := by unfold secs; rw [List.length_map, List.length_range']
theorem frames_length (l : L) (slot seq : Int) (st : List Nat) (j n : Nat) : (frames l slot seq st j n).length = n := by unfold frames; rw [List.length_map, List.length_range']
theorem secs_next (l : L) (slot : Int) (j n : Nat) : secs l slot j (n + 1) = secs l slot j n ++ [sec l slot (j + n)] := by unfold secs; rw [List.range'_1_concat, List.map_append]; rfl
theorem frames_next (l : L) (slot seq : Int) (st : List Nat) (j n : Nat) : frames l slot seq st j (n + 1) = frames l slot seq st j n ++ [frame l slot seq st (j + n)] := by unfold frames; rw [List.range'_1_concat, List.map_append]; rfl
theorem secs_then (l : L) (slot : Int) (n m : Nat) : secs l slot 0 n ++ secs l slot n m = secs l slot 0 (n + m) := by
  unfold secs
  rw [← List.map_append]
  have e := List.range'_append_1 (s := 0) (m := n) (n := m)
  rw [Nat.zero_add] at e
  rw [e]
theorem frames_then (l : L) (slot seq : Int) (st : List Nat) (n m : Nat) : frames l slot seq st 0 n ++ frames l slot seq st n m = frames l slot seq st 0 (n + m) := by
  unfold frames
  rw [← List.map_append]
  have e := List.range'_append_1 (s := 0) (m := n) (n := m)
  rw [Nat.zero_add] at e
  rw [e]
theorem frame_may (h : Fit l slot seq st k) {i : Nat} (hi : i < Pk.full st) : Fr.may 2 seq (sec l slot i) := by
  have h1 := spot_le h.ok
  have h2 := full_le h
  have h3 := h.ok.2
  unfold Fr.may sec
  omega
theorem frame_part (h : Fit l slot seq st k) {i : Nat} (hi : i < Pk.full st) : (Rc.sub st (i * 59) 59).length = 59 ∧ ∀ x ∈ Rc.sub st (i * 59) 59, x < 256 := by
  refine ⟨Rc.sub_length _ _ _ (by unfold Pk.full at hi; omega), fun x hx => h.lt x ?_⟩
  unfold Rc.sub at hx
  exact List.mem_of_mem_drop (List.mem_of_mem_take hx)
theorem frame_length (h : Fit l slot seq st k) {i : Nat} (hi : i < Pk.full st) : (frame l slot seq st i).length = 64 := Fr.enc_length _ _ _ _ (by rw [(frame_part h hi).1]; exact Nat.le_refl _)
theorem frame_lt (h : Fit l slot seq st k) {i : Nat} (hi : i < Pk.full st) : ∀ x ∈ frame l slot seq st i, x < 256 := Fr.enc_lt _ _ _ _ (by omega) (frame_part h hi).2
end
end Pk
end Go.Proofs.YtnadbokhcmbcaaaDoor
