/-
  The texts RgLawOnce, ScMath, ScWalk, ScHead, ScStream, ScFound, ScImage, ScFacts, ScState, ScIn of this proof, one behind the other.
-/
import Derived.Test.YtgnbmmceffolmaaGreatDoorFoldM
import Derived.Test.YtgnbmmceffolmaaGreatDoorFoldI
import Derived.Test.YtgnbmmceffolmaaGreatDoorFoldC
import Derived.Test.YtgnbmmceffolmaaGreatDoorFoldJ
import Derived.Test.YtgnbmmceffolmaaGreatDoorFoldK
import Derived.Deep.DeepCutAuto
import Derived.Deep.CutBlock
import Derived.Test.YtgnbmmceffolmaaGreatDoorFoldP
import Derived.Test.YtgnbmmceffolmaaGreatDoorFoldG
import Derived.Test.YtgnbmmceffolmaaGreatDoorFoldD
import Derived.Test.YtgnbmmceffolmaaGreatDoorFoldE
import Derived.Test.YtgnbmmceffolmaaGreatDoorFoldL
section
set_option maxRecDepth 100000
namespace Go.Proofs.YtgnbmmceffolmaaGreatDoor
open Go.RowKit
theorem rg_low (v : Int) (k : Nat) (ki : Int) (hk : (BitVec.ofInt 64 ki).toNat = k) (hk2 : k < 4611686018427387904) : ∃ N : Nat, N ≤ k ∧ bits .and .i64 v ki = (N : Int) := by
  have hle : (BitVec.ofInt 64 v).toNat &&& k ≤ k := Nat.and_le_right
  refine ⟨(BitVec.ofInt 64 v).toNat &&& k, hle, ?_⟩
  show IntKind.i64.wrap ((BitVec.ofInt 64 v &&& BitVec.ofInt 64 ki).toNat : Int) = _
  rw [BitVec.toNat_and, hk, IntKind.wrap_i64]
  omega
/-- The laws' layouts. -/
def Small (ver : Int) (rs : Nat) : Prop := (ver = 1 ∨ ver = 2) ∧ (rs = 2 ∨ rs = 4 ∨ rs = 8 ∨ rs = 16)
theorem Small.form {ver : Int} {rs : Nat} (h : Small ver rs) : Sb.form ⟨3, ver, (rs : Int), 4⟩ := by
  obtain ⟨h1, h2⟩ := h
  unfold Sb.form Sb.pw
  simp only
  omega
theorem Small.ok {ver : Int} {rs : Nat} (h : Small ver rs) {slot : Int} (h1 : 0 ≤ slot) (h2 : slot < 4) : Pk.ok ⟨3, ver, (rs : Int), 4⟩ slot 7 := ⟨⟨h.form, h1, h2⟩, by decide, by decide⟩
theorem Small.may {ver : Int} {rs : Nat} (h : Small ver rs) {slot now : Int} (h1 : 0 ≤ slot) (h2 : slot < 4) (h3 : 0 ≤ now ∧ now ≤ 9) : Rg.may ⟨3, ver, (rs : Int), 4⟩ ⟨ver, slot, 3, 7, 3, now⟩ = 0 := by
  unfold Rg.may
  rw [if_pos ⟨by unfold Hd.valid; simp only; have := h.1; omega, rfl, rfl⟩]
  exact Pk.may_zero (h.ok h1 h2)
theorem Small.cap {ver : Int} {rs : Nat} (h : Small ver rs) : (Pk.cap ⟨3, ver, (rs : Int), 4⟩ : Int) = ((rs : Int) - 1) * 59 ∧ Pk.cap ⟨3, ver, (rs : Int), 4⟩ ≤ 885 := by
  unfold Pk.cap
  simp only
  have := h.2
  omega
theorem rglayout_any (v g : Int) : ∃ (ver : Int) (rs : Nat), Small ver rs ∧ ∀ w, Calls Tryz.prog 12 #[.int .i64 v, .int .i64 g] w fun e w' => e = .returned (.agg #[.int .i64 3, .int .i64 ver, .int .i64 (rs : Int), .int .i64 4]) ∧ Below w.heap.size w w' := by
  obtain ⟨b, hb, eb⟩ := rg_low v 1 1 (by decide) (by decide)
  obtain ⟨q, hq, eq⟩ := rg_low g 3 3 (by decide) (by decide)
  refine ⟨1 + (b : Int), 2 ^ (q + 1), ⟨by omega, ?_⟩, fun w => rglayout_at v g b q eb eq hb hq w⟩
  rcases (show q = 0 ∨ q = 1 ∨ q = 2 ∨ q = 3 by omega) with rfl | rfl | rfl | rfl <;> decide
theorem Free.went {c c' : Nat → Nat} {w w' : World} {b : Nat} {o : Obj} (h : Free c w b o) (hk : Went c c' w w') : Free c' w' b o :=
  ⟨(hk.1.block b (Array.getElem?_eq_some_iff.1 h.1).1 fun e => e h.2).trans h.1, (hk.2 b (Array.getElem?_eq_some_iff.1 h.1).1).trans h.2⟩
end Go.Proofs.YtgnbmmceffolmaaGreatDoor
end
section
set_option maxRecDepth 100000
namespace Go.Proofs.YtgnbmmceffolmaaGreatDoor
open Go.RowKit
instance (v seq off : Int) (b : List Nat) : Decidable (Rc.good v seq off b) := by unfold Rc.good; infer_instance
instance (k s x : Int) (b : List Nat) : Decidable (Fr.good k s x b) := by unfold Fr.good; infer_instance
namespace Sc
/-- The payloads of data sectors, from the i-th one on, at most m, up to the first sector that is no frame of the region. -/
def stream (img : List Nat) (l : Sb.L) (slot seq : Int) : Nat → Nat → List Nat
  | _, 0 => []
  | i, m + 1 => if Fr.good 2 seq (Pk.sec l slot i) (sec img (Pk.sec l slot i).toNat) then Rc.sub (sec img (Pk.sec l slot i).toNat) 1 59 ++ stream img l slot seq (i + 1) m else []
def recsF (v seq : Int) (st : List Nat) : Nat → Nat → List (Nat × Rc.Rec)
  | 0, _ => []
  | f + 1, off => if off < st.length then
      (if st.getD off 0 = 0 then recsF v seq st f ((off / 59 + 1) * 59)
      else if Rc.good v seq (off : Int) (st.drop off) then (off, Rc.rec v (st.drop off)) :: recsF v seq st f (off + Rc.len (Rc.rec v (st.drop off)))
      else [])
    else []
/-- The records of a stream, from an offset on. -/
def recs (v seq : Int) (st : List Nat) (off : Nat) : List (Nat × Rc.Rec) := recsF v seq st (st.length + 1 - off) off
/-- The records of a region in an image. -/
def region (img : List Nat) (l : Sb.L) (slot seq : Int) : List (Nat × Rc.Rec) := if Pk.ok l slot seq then recs l.ver seq (stream img l slot seq 0 (l.rs - 1).toNat) 0 else []
section
variable {v seq : Int} {st : List Nat}
theorem len_pos (r : Rc.Rec) : 16 ≤ Rc.len r := by unfold Rc.len; omega
theorem recsF_same : ∀ (f g off : Nat), st.length < f + off → st.length < g + off → recsF v seq st f off = recsF v seq st g off
  | 0, 0, _, _, _ => rfl
  | 0, g + 1, off, h, _ => by
    show [] = if off < st.length then _ else _
    rw [if_neg (by omega)]
  | f + 1, 0, off, _, h => by
    show (if off < st.length then _ else _) = []
    rw [if_neg (by omega)]
  | f + 1, g + 1, off, h, k => by
    show (if off < st.length then _ else _) = if off < st.length then _ else _
    split
    · split
      · exact recsF_same f g _ (by omega) (by omega)
      · split
        · have := len_pos (Rc.rec v (st.drop off))
          rw [recsF_same f g _ (by omega) (by omega)]
        · rfl
    · rfl
theorem recs_end {off : Nat} (h : st.length ≤ off) : recs v seq st off = [] := by
  unfold recs
  rcases Nat.eq_zero_or_pos (st.length + 1 - off) with e | e
  · rw [e]; rfl
  · obtain ⟨f, hf⟩ : ∃ f, st.length + 1 - off = f + 1 := ⟨st.length - off, by omega⟩
    rw [hf]
    show (if off < st.length then _ else _) = _
    rw [if_neg (by omega)]
theorem recs_skip {off : Nat} (h : off < st.length) (h0 : st.getD off 0 = 0) : recs v seq st off = recs v seq st ((off / 59 + 1) * 59) := by
  unfold recs
  obtain ⟨f, hf⟩ : ∃ f, st.length + 1 - off = f + 1 := ⟨st.length - off, by omega⟩
  rw [hf]
  show (if off < st.length then _ else _) = _
  rw [if_pos h, if_pos h0]
  exact recsF_same _ _ _ (by omega) (by omega)
theorem recs_one {off : Nat} (h : off < st.length) (h0 : st.getD off 0 ≠ 0) (hg : Rc.good v seq (off : Int) (st.drop off)) : recs v seq st off = (off, Rc.rec v (st.drop off)) :: recs v seq st (off + Rc.len (Rc.rec v (st.drop off))) := by
  have hp := len_pos (Rc.rec v (st.drop off))
  unfold recs
  obtain ⟨f, hf⟩ : ∃ f, st.length + 1 - off = f + 1 := ⟨st.length - off, by omega⟩
  rw [hf]
  show (if off < st.length then _ else _) = _
  rw [if_pos h, if_neg h0, if_pos hg, recsF_same f (st.length + 1 - (off + Rc.len (Rc.rec v (st.drop off)))) _ (by omega) (by omega)]
theorem recs_stop {off : Nat} (h : off < st.length) (h0 : st.getD off 0 ≠ 0) (hg : ¬ Rc.good v seq (off : Int) (st.drop off)) : recs v seq st off = [] := by
  unfold recs
  obtain ⟨f, hf⟩ : ∃ f, st.length + 1 - off = f + 1 := ⟨st.length - off, by omega⟩
  rw [hf]
  show (if off < st.length then _ else _) = _
  rw [if_pos h, if_neg h0, if_neg hg]
end
section
variable {img : List Nat} {l : Sb.L} {slot seq : Int}
theorem stream_yes {i m : Nat} (h : Fr.good 2 seq (Pk.sec l slot i) (sec img (Pk.sec l slot i).toNat)) : stream img l slot seq i (m + 1) = Rc.sub (sec img (Pk.sec l slot i).toNat) 1 59 ++ stream img l slot seq (i + 1) m := if_pos h
theorem stream_no {i m : Nat} (h : ¬ Fr.good 2 seq (Pk.sec l slot i) (sec img (Pk.sec l slot i).toNat)) : stream img l slot seq i (m + 1) = [] := if_neg h
theorem stream_zero (i : Nat) : stream img l slot seq i 0 = [] := rfl
theorem stream_len : ∀ (m i : Nat), (stream img l slot seq i m).length ≤ 59 * m
  | 0, _ => Nat.le_refl _
  | m + 1, i => by
    show (if _ then _ else _ : List Nat).length ≤ _
    split
    · have := stream_len m (i + 1)
      have h2 : (Rc.sub (sec img (Pk.sec l slot i).toNat) 1 59).length ≤ 59 := by unfold Rc.sub; rw [List.length_take]; omega
      rw [List.length_append]; omega
    · simp
theorem stream_lt (hi : ∀ x ∈ img, x < 256) : ∀ (m i : Nat), ∀ x ∈ stream img l slot seq i m, x < 256
  | 0, _ => fun x h => by cases h
  | m + 1, i => fun x h => by
    have e : stream img l slot seq i (m + 1) = if Fr.good 2 seq (Pk.sec l slot i) (sec img (Pk.sec l slot i).toNat) then Rc.sub (sec img (Pk.sec l slot i).toNat) 1 59 ++ stream img l slot seq (i + 1) m else [] := rfl
    rw [e] at h
    split at h
    · rcases List.mem_append.1 h with h | h
      · exact hi x (List.mem_of_mem_drop (List.mem_of_mem_take (List.mem_of_mem_drop (List.mem_of_mem_take h))))
      · exact stream_lt hi m (i + 1) x h
    · cases h
end
/-- Walking a stream from an offset finds these records and comes to another offset. -/
inductive Reach (v seq : Int) (s : List Nat) : Nat → List (Nat × Rc.Rec) → Nat → Prop
  | here (off : Nat) : Reach v seq s off [] off
  | skip {off off' : Nat} {ds : List (Nat × Rc.Rec)} : off < s.length → s.getD off 0 = 0 → Reach v seq s ((off / 59 + 1) * 59) ds off' → Reach v seq s off ds off'
  | one {off off' : Nat} {ds : List (Nat × Rc.Rec)} : off < s.length → s.getD off 0 ≠ 0 → Rc.good v seq (off : Int) (s.drop off) → Reach v seq s (off + Rc.len (Rc.rec v (s.drop off))) ds off' → Reach v seq s off ((off, Rc.rec v (s.drop off)) :: ds) off'
section
variable {v seq : Int} {s : List Nat}
theorem Reach.trans {a b c : Nat} {ds es : List (Nat × Rc.Rec)} (h : Reach v seq s a ds b) (k : Reach v seq s b es c) : Reach v seq s a (ds ++ es) c := by
  induction h with
  | here off => exact k
  | skip h1 h2 _ ih => exact .skip h1 h2 (ih k)
  | one h1 h2 h3 _ ih => exact .one h1 h2 h3 (ih k)
theorem Reach.recs {a b : Nat} {ds : List (Nat × Rc.Rec)} (h : Reach v seq s a ds b) : Sc.recs v seq s a = ds ++ Sc.recs v seq s b := by
  induction h with
  | here off => rfl
  | skip h1 h2 _ ih => rw [recs_skip h1 h2, ih]
  | one h1 h2 h3 _ ih => rw [recs_one h1 h2 h3, ih]; rfl
end
/-- A stream that was built of records and paddings. -/
inductive Built (v seq : Int) : List Nat → List (Nat × Rc.Rec) → Prop
  | start : Built v seq [] []
  | put {st : List Nat} {ds : List (Nat × Rc.Rec)} (r : Rc.Rec) : Built v seq st ds → Rc.check v r = 0 → Rc.place seq (st.length : Int) → Built v seq (st ++ Rc.enc v seq (st.length : Int) r) (ds ++ [(st.length, r)])
  | pad {st : List Nat} {ds : List (Nat × Rc.Rec)} : Built v seq st ds → Built v seq (Pk.pad st) ds
theorem enc_first {v seq off : Int} {r : Rc.Rec} (hv : Rc.check v r = 0) (more : List Nat) : (Rc.enc v seq off r ++ more).getD 0 0 ≠ 0 := by
  rcases (Rc.chk_ok hv).1 with rfl | rfl
  · rw [Rc.shape1]; show (161 : Nat) ≠ 0; decide
  · rw [Rc.shape2]; show (162 : Nat) ≠ 0; decide
theorem getD_behind (a b : List Nat) (k : Nat) : (a ++ b).getD (a.length + k) 0 = b.getD k 0 := by
  rw [List.getD_eq_getElem?_getD, List.getElem?_append_right (by omega), List.getD_eq_getElem?_getD, show a.length + k - a.length = k by omega]
theorem getD_first (a b : List Nat) : (a ++ b).getD a.length 0 = b.getD 0 0 := getD_behind a b 0
theorem pad_shape (st : List Nat) : (st.length % 59 = 0 ∧ Pk.pad st = st) ∨ (∃ k, Pk.pad st = st ++ List.replicate (k + 1) 0 ∧ (Pk.pad st).length = (st.length / 59 + 1) * 59) := by
  by_cases h : st.length % 59 = 0
  · refine .inl ⟨h, ?_⟩
    unfold Pk.pad
    rw [h]; simp
  · have hl := Pk.pad_length st
    obtain ⟨k, hk⟩ : ∃ k, (59 - st.length % 59) % 59 = k + 1 := ⟨(59 - st.length % 59) % 59 - 1, by omega⟩
    refine .inr ⟨k, ?_, by omega⟩
    unfold Pk.pad
    rw [hk]
theorem Built.reach {v seq : Int} {st : List Nat} {ds : List (Nat × Rc.Rec)} (h : Built v seq st ds) : ∀ x, Reach v seq (st ++ x) 0 ds st.length := by
  induction h with
  | start => exact fun x => .here _
  | @put st ds r _ hc hp ih =>
    intro x
    have h1 := ih (Rc.enc v seq (st.length : Int) r ++ x)
    rw [← List.append_assoc] at h1
    refine h1.trans ?_
    have hd : (st ++ Rc.enc v seq (st.length : Int) r ++ x).drop st.length = Rc.enc v seq (st.length : Int) r ++ x := by rw [List.append_assoc, List.drop_left]
    have he := Rc.enc_length v seq (st.length : Int) r
    have hpos := len_pos r
    obtain ⟨hg, hr⟩ := Rc.round v seq (st.length : Int) r x hc hp
    have h2 : Reach v seq (st ++ Rc.enc v seq (st.length : Int) r ++ x) st.length [(st.length, Rc.rec v ((st ++ Rc.enc v seq (st.length : Int) r ++ x).drop st.length))] (st.length + Rc.len (Rc.rec v ((st ++ Rc.enc v seq (st.length : Int) r ++ x).drop st.length))) := by
      refine .one ?_ ?_ ?_ (.here _)
      · rw [List.length_append, List.length_append, he]; omega
      · rw [List.append_assoc]
        rw [getD_first]
        exact enc_first hc x
      · rw [hd]; exact hg
    rw [hd, hr] at h2
    rw [List.length_append, he]
    exact h2
  | @pad st ds hb ih =>
    intro x
    rcases pad_shape st with ⟨-, e⟩ | ⟨k, e, hl⟩
    · rw [e]; exact ih x
    · rw [hl, e]
      have h1 := ih (List.replicate (k + 1) 0 ++ x)
      rw [← List.append_assoc] at h1
      have h2 : Reach v seq (st ++ List.replicate (k + 1) 0 ++ x) st.length [] ((st.length / 59 + 1) * 59) := by
        refine .skip ?_ ?_ (.here _)
        · rw [List.length_append, List.length_append, List.length_replicate]; omega
        · rw [List.append_assoc]
          rw [getD_first]; rfl
      have h3 := h1.trans h2
      rw [List.append_nil] at h3
      exact h3
/-- A stream that was built has the records that were put, and no other. -/
theorem Built.all {v seq : Int} {st : List Nat} {ds : List (Nat × Rc.Rec)} (h : Built v seq st ds) : recs v seq st 0 = ds := by
  have := (h.reach []).recs
  rw [List.append_nil, recs_end (Nat.le_refl _), List.append_nil] at this
  exact this
/-- Up to a frame's end a stream has the first ones of its records. -/
theorem Built.part {v seq : Int} {st : List Nat} {ds : List (Nat × Rc.Rec)} (h : Built v seq st ds) : ∀ k, k % 59 = 0 → k ≤ st.length → ∃ m, recs v seq (st.take k) 0 = ds.take m := by
  induction h with
  | start => exact fun k _ hk => ⟨0, by rw [List.take_nil, recs_end (Nat.zero_le _)]; rfl⟩
  | @put st ds r hb hc hp ih =>
    intro k h1 h2
    rcases Nat.lt_or_ge st.length k with hk | hk
    · have he := Rc.enc_length v seq (st.length : Int) r
      rw [List.length_append, he] at h2
      rw [List.take_append, List.take_of_length_le (Nat.le_of_lt hk)]
      rcases Nat.lt_or_ge (k - st.length) (Rc.len r) with hlt | hge
      · have hne : 0 < k - st.length := by omega
        obtain ⟨n, hn⟩ : ∃ n, k - st.length = n := ⟨_, rfl⟩
        rw [hn] at hlt hne ⊢
        have hd : (st ++ (Rc.enc v seq (st.length : Int) r).take n).drop st.length = (Rc.enc v seq (st.length : Int) r).take n := List.drop_left
        have hl : ((Rc.enc v seq (st.length : Int) r).take n).length = n := by rw [List.length_take, he]; omega
        have hr := (hb.reach ((Rc.enc v seq (st.length : Int) r).take n)).recs
        have hs : recs v seq (st ++ (Rc.enc v seq (st.length : Int) r).take n) st.length = [] := by
          refine recs_stop (by rw [List.length_append, hl]; omega) ?_ (by rw [hd]; exact Rc.cut v seq (st.length : Int) r n hc hlt seq _)
          rw [getD_first, Rc.getD_take' _ _ _ hne]
          have h3 := enc_first (seq := seq) (off := (st.length : Int)) hc []
          rw [List.append_nil] at h3
          exact h3
        rw [hs, List.append_nil] at hr
        exact ⟨ds.length, by rw [hr, List.take_left]⟩
      · rw [List.take_of_length_le (by rw [he]; exact hge), (Built.put r hb hc hp).all]
        exact ⟨(ds ++ [(st.length, r)]).length, by rw [List.take_length]⟩
    · obtain ⟨m, hm⟩ := ih k h1 hk
      refine ⟨min m ds.length, ?_⟩
      rw [List.take_append_of_le_length hk, hm, List.take_append_of_le_length (Nat.min_le_right _ _)]
      rcases Nat.le_total m ds.length with h | h
      · rw [Nat.min_eq_left h]
      · rw [Nat.min_eq_right h, List.take_of_length_le h, List.take_length]
  | @pad st ds hb ih =>
    intro k h1 h2
    rcases Nat.lt_or_ge st.length k with hk | hk
    · rcases pad_shape st with ⟨-, e⟩ | ⟨j, e, hl⟩
      · rw [e] at h2; omega
      · obtain rfl : k = (Pk.pad st).length := by rw [hl] at h2 ⊢; omega
        rw [List.take_length, hb.pad.all]
        exact ⟨ds.length, by rw [List.take_length]⟩
    · obtain ⟨m, hm⟩ := ih k h1 hk
      refine ⟨m, ?_⟩
      rw [← hm]
      unfold Pk.pad
      rw [List.take_append_of_le_length hk]
end Sc
end Go.Proofs.YtgnbmmceffolmaaGreatDoor
end
section
set_option maxRecDepth 100000
namespace Go.Proofs.YtgnbmmceffolmaaGreatDoor
open Go.RowKit
/-- What a device shows: nothing if it is dead. -/
def Flash.seen (s : Flash) : List Nat := if s.dead = true then [] else s.cur
theorem seen_plain {s : Flash} (h : s.dead = false) : s.seen = s.cur := if_neg (by rw [h]; decide)
theorem no_frame {k s x : Int} {b : List Nat} (h : b.length ≠ 64) : ¬ Fr.good k s x b := fun hg => h hg.2.1
/-- What Read of any sector says: its bytes, or an error where no frame is. -/
def SeenIs (w : World) (l : List Nat) (x : Int) (e : Ending) (w' : World) : Prop := (0 ≤ x ∧ ReadOk w l e w') ∨ ((∀ k s, ¬ Fr.good k s x l) ∧ ∃ er, (er == 0) = false ∧ (er != 0) = true ∧ ReadNo w er e w')
section
variable {w : World} {g cb mb nn : Nat} {fs : Flash}
theorem read_seen (x : Int) (hd : Hid (Dev w g cb mb nn fs)) :
    Calls Tryz.prog 22 #[.pointer (some ⟨g, 0, none⟩), .int .i64 x] w (SeenIs w (sec fs.seen x.toNat) x) := by
  cases hdead : fs.dead with
  | true =>
    refine (read_dead x hd hdead).mono fun e w' h => .inr ⟨fun k s => no_frame ?_, 1, rfl, rfl, h⟩
    unfold Flash.seen
    rw [if_pos hdead]
    simp [sec]
  | false =>
    rw [seen_plain hdead]
    by_cases hx : 0 ≤ x ∧ x < (nn : Int)
    · exact (read_ok x.toNat x (by omega) (by omega) hd hdead).mono fun e w' h => .inl ⟨hx.1, h⟩
    · refine (read_range x (by omega) hd hdead).mono fun e w' h => .inr ⟨fun k s => ?_, 2, rfl, rfl, h⟩
      rcases Int.lt_or_le x 0 with h0 | h0
      · exact fun hg => by have := hg.1.2.2.2.1; omega
      · refine no_frame ?_
        have hl := hd.out.cur_len
        unfold sec
        rw [List.length_take, List.length_drop]
        omega
set_option maxHeartbeats 1000000 in
theorem screadframe_any (x seq : Int) (hs63 : seq ≤ 9223372036854775807) (hd : Hid (Dev w g cb mb nn fs)) (ht : Hid (TabW w)) (hz : 0 < w.heap.size) :
    Calls Tryz.prog 65 #[.pointer (some ⟨g, 0, none⟩), .int .i64 x, .int .i64 seq] w fun e w' => (Fr.good 2 seq x (sec fs.seen x.toNat) ∧ GotFr w (Rc.sub (sec fs.seen x.toNat) 1 59) e w') ∨ (¬ Fr.good 2 seq x (sec fs.seen x.toNat) ∧ NoFr w e w') := by
  have HR := Lib.hid (read_seen x hd)
  have HF : Hid (∀ W gr cap, Below w.heap.size w W → (sec fs.seen x.toNat).length = 64 → Bs W W.heap.size (some ⟨gr, 0, none⟩) (sec fs.seen x.toNat) → 64 ≤ cap → cap ≤ maxLen → Calls Tryz.prog 51 #[.int .i64 2, .int .i64 seq, .int .i64 x, .slice (some ⟨gr, 0, none⟩) 64 cap] W fun e w' => (Fr.good 2 seq x (sec fs.seen x.toNat) ∧ GotFr W (Rc.sub (sec fs.seen x.toNat) 1 59) e w') ∨ (¬ Fr.good 2 seq x (sec fs.seen x.toNat) ∧ NoFr W e w')) := fun W gr cap hW h64 hbs h1 h2 =>
    frdecode_any 2 seq x _ W.heap.size 64 cap _ W hs63 (Nat.le_refl _) ⟨(fun e => by cases e), h1, by unfold maxLen at h2; exact h2⟩ h64 hbs (ht.out.below hW hz) (Nat.lt_of_lt_of_le hz hW.size)
  unfold SeenIs ReadOk ReadNo at HR
  clear hd ht
  generalize sec fs.seen x.toNat = l at *
  go_enter Tryz.func65, Tryz.ntmps65
  go_wp2_with fail
  refine HR.out.mono ?_
  rintro e w1 (⟨-, gr, cap, rfl, -, h64, hbs, hc1, hc2, hb1⟩ | ⟨hno, er, he0, he1, rfl, rfl⟩)
  · have HC := Lib.hid (HF.out w1 gr cap hb1 h64 hbs hc1 hc2)
    have HB := Lib.hid hb1
    clear h64 hbs hc1 hc2 hb1 HF HR
    unfold GotFr NoFr at *
    go_wp2_with fail
    refine HC.out.mono ?_
    rintro e w2 (⟨hg, A1, c1, rfl, hs1, hbs1, hb2⟩ | ⟨hg, rfl, hb2⟩)
    · have HS1 := Lib.hid (And.intro hs1 (And.intro hbs1 hb2))
      clear hs1 hbs1 hb2 HC
      go_wp2_with fail
      go_ret2
      exact .inl ⟨hg, A1, c1, rfl, HS1.out.1, HS1.out.2.1.wider HB.out.size (Nat.le_refl _), HB.out.trans (HS1.out.2.2.mono HB.out.size)⟩
    · have HS1 := Lib.hid hb2
      clear hb2 HC
      go_wp2_with fail
      go_ret2
      exact .inr ⟨hg, rfl, HB.out.trans (HS1.out.mono HB.out.size)⟩
  · have HN := Lib.hid (hno 2 seq)
    clear hno HF HR
    go_wp2_with fail
    go_ret2
    exact .inr ⟨HN.out, rfl, Below.refl _ _⟩
theorem scnext_any (off : Nat) (h : off ≤ 1000000) (w : World) :
    Calls Tryz.prog 35 #[.int .i64 (off : Int)] w fun e w' => e = .returned (.int .i64 (((off / 59 + 1) * 59 : Nat) : Int)) ∧ w = w' := by
  have h1 : Hid (((off : Int) / 59 + 1) * 59 = (((off / 59 + 1) * 59 : Nat) : Int)) := by show _ = _; omega
  go_enter Tryz.func35, Tryz.ntmps35
  go_wp2_with fail
  rw [h1.out]
  go_ret
  exact ⟨rfl, rfl⟩
set_option maxHeartbeats 1000000 in
theorem scisregion_any (a b c d slot seq : Int) (w : World) :
    Calls Tryz.prog 32 #[.agg #[.int .i64 a, .int .i64 b, .int .i64 c, .int .i64 d], .int .i64 slot, .int .i64 seq] w fun e w' => e = .returned (.bool (decide (Pk.ok ⟨a, b, c, d⟩ slot seq))) ∧ Below w.heap.size w w' := by
  have CF := Lib.hid (fun W => gmfirst_any a b c d slot W)
  have HS0 := Lib.hid (sd_new w #[.int .i64 a, .int .i64 b, .int .i64 c, .int .i64 d] 29)
  have HW : Hid ((decide (0 ≤ Gm.first ⟨a, b, c, d⟩ slot) = true ∧ Gm.has ⟨a, b, c, d⟩ slot) ∨ (decide (0 ≤ Gm.first ⟨a, b, c, d⟩ slot) = false ∧ ¬ Gm.has ⟨a, b, c, d⟩ slot)) := by
    by_cases hh : Gm.has ⟨a, b, c, d⟩ slot
    · refine .inl ⟨?_, hh⟩
      have e : Gm.first ⟨a, b, c, d⟩ slot = 74 + slot * c := if_pos hh
      have h1 := Gm.spot_small hh.1 (s := slot) hh.2.1 (Int.le_of_lt hh.2.2)
      rw [e, decide_eq_true_eq]
      have := h1.1
      simp only at this
      omega
    · refine .inr ⟨?_, hh⟩
      have e : Gm.first ⟨a, b, c, d⟩ slot = -1 := if_neg hh
      rw [e]; rfl
  have HOK : Hid (decide (Pk.ok ⟨a, b, c, d⟩ slot seq) = (decide (Gm.has ⟨a, b, c, d⟩ slot) && (decide (1 ≤ seq) && decide (seq ≤ 281474976710655)))) := by
    show _ = _
    by_cases h1 : Gm.has ⟨a, b, c, d⟩ slot <;> by_cases h2 : 1 ≤ seq <;> by_cases h3 : seq ≤ 281474976710655 <;> simp [Pk.ok, h1, h2, h3]
  rw [HOK.out]
  generalize Gm.first ⟨a, b, c, d⟩ slot = x at *
  go_enter Tryz.func32, Tryz.ntmps32
  go_upto_region 1 with fail
  generalize w.alloc (.cells #[.int .i64 a, .int .i64 b, .int .i64 c, .int .i64 d] 29) = w0 at *
  obtain ⟨z0, z1, z2, z3⟩ := four_cells HS0.out.1
  go_wp2_with fail
  refine (CF.out _).mono ?_
  rintro r w1 ⟨rfl, hb1⟩
  have HS1 := Lib.hid (HS0.out.next hb1 (by rfl) (by rfl) (by rfl) (by rfl))
  clear hb1
  rcases HW.out with ⟨f0, hh⟩ | ⟨f0, hh⟩
  · have HH := Lib.hid (decide_eq_true hh)
    clear hh HW HOK
    cases f1 : decide (1 ≤ seq) with
    | false => go_wp2_with fail; go_ret; exact ⟨by rw [HH.out, f1]; rfl, HS1.out.2⟩
    | true =>
      cases f2 : decide (seq ≤ 281474976710655) with
      | false => go_wp2_with fail; go_ret; exact ⟨by rw [HH.out, f1, f2]; rfl, HS1.out.2⟩
      | true => go_wp2_with fail; go_ret; exact ⟨by rw [HH.out, f1, f2]; rfl, HS1.out.2⟩
  · have HH := Lib.hid (decide_eq_false hh)
    clear hh HW HOK
    go_wp2_with fail; go_ret; exact ⟨by rw [HH.out]; rfl, HS1.out.2⟩
end
end Go.Proofs.YtgnbmmceffolmaaGreatDoor
end
section
set_option maxRecDepth 100000
namespace Go.Proofs.YtgnbmmceffolmaaGreatDoor
open Go.RowKit
instance (x : Int) (b : List Nat) : Decidable (Hd.good x b) := by unfold Hd.good; infer_instance
/-- The header of a slot in an image. -/
def Sc.head (img : List Nat) (l : Sb.L) (slot : Int) : Option Hd.H :=
  if Hd.good (Gm.first l slot) (sec img (Gm.first l slot).toNat) ∧ (Hd.rd (Rc.sub (sec img (Gm.first l slot).toNat) 1 59)).ver = l.ver ∧ (Hd.rd (Rc.sub (sec img (Gm.first l slot).toNat) 1 59)).lay = l.id ∧ (Hd.rd (Rc.sub (sec img (Gm.first l slot).toNat) 1 59)).slot = slot
  then some (Hd.rd (Rc.sub (sec img (Gm.first l slot).toNat) 1 59)) else none
/-- What Header finds. -/
def HeadIs (w : World) (o : Option Hd.H) (r : Ending) (w' : World) : Prop := (∃ h, o = some h ∧ GotHd w h r w') ∨ (o = none ∧ NoHd w r w')
theorem head_some {img : List Nat} {l : Sb.L} {slot : Int} (h1 : Hd.good (Gm.first l slot) (sec img (Gm.first l slot).toNat)) (h2 : (Hd.rd (Rc.sub (sec img (Gm.first l slot).toNat) 1 59)).ver = l.ver ∧ (Hd.rd (Rc.sub (sec img (Gm.first l slot).toNat) 1 59)).lay = l.id ∧ (Hd.rd (Rc.sub (sec img (Gm.first l slot).toNat) 1 59)).slot = slot) : Sc.head img l slot = some (Hd.rd (Rc.sub (sec img (Gm.first l slot).toNat) 1 59)) := if_pos ⟨h1, h2⟩
theorem head_none {img : List Nat} {l : Sb.L} {slot : Int} (h : ¬ (Hd.good (Gm.first l slot) (sec img (Gm.first l slot).toNat) ∧ (Hd.rd (Rc.sub (sec img (Gm.first l slot).toNat) 1 59)).ver = l.ver ∧ (Hd.rd (Rc.sub (sec img (Gm.first l slot).toNat) 1 59)).lay = l.id ∧ (Hd.rd (Rc.sub (sec img (Gm.first l slot).toNat) 1 59)).slot = slot)) : Sc.head img l slot = none := if_neg h
/-- The ways of a decoded header: it is this slot's, or one of its numbers is another. -/
theorem head_ways {o : Option Hd.H} {h0 h1 h2 h3 h4 h5 b a s : Int} (hyes : h0 = b ∧ h2 = a ∧ h1 = s → o = some ⟨h0, h1, h2, h3, h4, h5⟩) (hno : ¬ (h0 = b ∧ h2 = a ∧ h1 = s) → o = none) :
    ((h0 != b) = false ∧ (h2 != a) = false ∧ (h1 != s) = false ∧ o = some ⟨h0, h1, h2, h3, h4, h5⟩) ∨ ((h0 != b) = true ∧ o = none) ∨ ((h0 != b) = false ∧ (h2 != a) = true ∧ o = none) ∨ ((h0 != b) = false ∧ (h2 != a) = false ∧ (h1 != s) = true ∧ o = none) := by
  by_cases e0 : h0 = b <;> by_cases e2 : h2 = a <;> by_cases e1 : h1 = s <;> simp_all
theorem sd2_boxes4 (w : World) (a b c d : Int) : Sd2 w (.cells #[.int .i64 a, .int .i64 b, .int .i64 c, .int .i64 d] 29 (0, 0)) (.cells #[.int .i64 0, .int .i64 0, .int .i64 0, .int .i64 0, .int .i64 0, .int .i64 0] 35 (0, 0)) ((w.alloc (.cells #[.int .i64 a, .int .i64 b, .int .i64 c, .int .i64 d] 29)).alloc (.cells #[.int .i64 0, .int .i64 0, .int .i64 0, .int .i64 0, .int .i64 0, .int .i64 0] 35)) :=
  ⟨(heap_alloc_old _ _ (by simp)).trans (heap_alloc_new _ _), by have := heap_alloc_new (w.alloc (.cells #[.int .i64 a, .int .i64 b, .int .i64 c, .int .i64 d] 29)) (.cells #[.int .i64 0, .int .i64 0, .int .i64 0, .int .i64 0, .int .i64 0, .int .i64 0] 35); simpa using this, ((Below.refl _ w).alloc (Nat.le_refl _) _).alloc (by simp) _⟩
theorem sd2_res6 {w w1 : World} {o0 : Obj} {a b c d e f a' b' c' d' e' f' : Value} {t : TypeId} (h : Sd2 w o0 (.cells #[a, b, c, d, e, f] t (0, 0)) w1) :
    Below w.heap.size w ((((((w1.setCell ⟨w.heap.size + 1, 0, none⟩ a').setCell ⟨w.heap.size + 1, 1, none⟩ b').setCell ⟨w.heap.size + 1, 2, none⟩ c').setCell ⟨w.heap.size + 1, 3, none⟩ d').setCell ⟨w.heap.size + 1, 4, none⟩ e').setCell ⟨w.heap.size + 1, 5, none⟩ f') :=
  h.2.2.trans (below_of_grown (stored6_grown _ _ _ _ _ _ _ _) (Nat.le_succ _) h.2.2.size)
set_option maxHeartbeats 2000000 in
theorem scheader_any (a b c d slot : Int) {g cb mb nn : Nat} {fs : Flash} (w : World) (hd : Hid (Dev w g cb mb nn fs)) (ht : Hid (TabW w)) (hz : 0 < w.heap.size) :
    Calls Tryz.prog 6 #[.pointer (some ⟨g, 0, none⟩), .agg #[.int .i64 a, .int .i64 b, .int .i64 c, .int .i64 d], .int .i64 slot] w (HeadIs w (Sc.head fs.seen ⟨a, b, c, d⟩ slot)) := by
  have CF := Lib.hid (fun W => gmfirst_any a b c d slot W)
  have HY : Hid (Hd.good (Gm.first ⟨a, b, c, d⟩ slot) (sec fs.seen (Gm.first ⟨a, b, c, d⟩ slot).toNat) → _ → Sc.head fs.seen ⟨a, b, c, d⟩ slot = _) := fun h1 h2 => head_some h1 h2
  have HN : Hid (¬ _ → Sc.head fs.seen ⟨a, b, c, d⟩ slot = none) := fun h => head_none h
  generalize Sc.head fs.seen ⟨a, b, c, d⟩ slot = o at *
  generalize Gm.first ⟨a, b, c, d⟩ slot = x at *
  have HRD : Hid (∀ W, Below w.heap.size w W → Calls Tryz.prog 22 #[.pointer (some ⟨g, 0, none⟩), .int .i64 x] W (SeenIs W (sec fs.seen x.toNat) x)) := fun W hW => read_seen x (Lib.hid (hd.out.below hW hd.out.lt.1 hd.out.lt.2.1 hd.out.lt.2.2))
  have HDE : Hid (∀ W gr cap, Below w.heap.size w W → (sec fs.seen x.toNat).length = 64 → Bs W W.heap.size (some ⟨gr, 0, none⟩) (sec fs.seen x.toNat) → 64 ≤ cap → cap ≤ maxLen → Calls Tryz.prog 23 #[.slice (some ⟨gr, 0, none⟩) 64 cap, .int .i64 x] W fun r w' => (Hd.good x (sec fs.seen x.toNat) ∧ GotHd W (Hd.rd (Rc.sub (sec fs.seen x.toNat) 1 59)) r w') ∨ (¬ Hd.good x (sec fs.seen x.toNat) ∧ NoHd W r w')) := fun W gr cap hW h64 hbs h1 h2 =>
    hddecode_any x _ W.heap.size 64 cap _ W (Nat.le_refl _) ⟨(fun e => by cases e), h1, by unfold maxLen at h2; exact h2⟩ h64 hbs (ht.out.below hW hz) (Nat.lt_of_lt_of_le hz hW.size)
  have HNF : Hid ((∀ k s, ¬ Fr.good k s x (sec fs.seen x.toNat)) → ¬ Hd.good x (sec fs.seen x.toNat)) := fun h hg => h _ _ hg.1
  have HS0 := Lib.hid (sd2_boxes4 w a b c d)
  unfold SeenIs ReadOk ReadNo at HRD
  unfold HeadIs
  clear ht hd
  generalize sec fs.seen x.toNat = l at *
  generalize Hd.good x l = HG at *
  generalize Hd.rd (Rc.sub l 1 59) = h at *
  obtain ⟨h0, h1, h2, h3, h4, h5⟩ := h
  unfold GotHd NoHd at *
  simp only at HY HN HDE
  go_enter Tryz.func6, Tryz.ntmps6
  go_upto_region 1 with fail
  generalize (w.alloc (.cells #[.int .i64 a, .int .i64 b, .int .i64 c, .int .i64 d] 29)).alloc (.cells #[.int .i64 0, .int .i64 0, .int .i64 0, .int .i64 0, .int .i64 0, .int .i64 0] 35) = w0 at *
  obtain ⟨z0, z1, z2, z3⟩ := four_cells HS0.out.1
  go_wp2_with fail
  refine (CF.out _).mono ?_
  rintro r w1 ⟨rfl, hb1⟩
  have HS1 := Lib.hid (HS0.out.next hb1 (by rfl) (by rfl) (by rfl) (by rfl))
  clear hb1
  go_wp2_with fail
  refine (HRD.out _ HS1.out.2.2).mono ?_
  rintro r w2 (⟨-, gr, cap, rfl, -, h64, hbs, hc1, hc2, hb2⟩ | ⟨hno, er, he0, he1, rfl, rfl⟩)
  · have HS2 := Lib.hid (HS1.out.next hb2 (by rfl) (by rfl) (by rfl) (by rfl))
    have HC := Lib.hid (HDE.out _ gr cap HS2.out.2.2 h64 hbs hc1 hc2)
    clear hb2 h64 hbs hc1 hc2 HDE HRD HNF
    go_wp2_with fail
    refine HC.out.mono ?_
    rintro r w3 (⟨hg, rfl, hb3⟩ | ⟨hg, rfl, hb3⟩)
    · have HS3 := Lib.hid (HS2.out.next hb3 (by rfl) (by rfl) (by rfl) (by rfl))
      have HS4 := Lib.hid (HS3.out.next ((Below.refl _ w3).alloc (Nat.le_refl _) (.cells #[.int .i64 h0, .int .i64 h1, .int .i64 h2, .int .i64 h3, .int .i64 h4, .int .i64 h5] 35)) (by rfl) (by rfl) (by rfl) (by rfl))
      have HN4 : Hid ((w3.alloc (.cells #[.int .i64 h0, .int .i64 h1, .int .i64 h2, .int .i64 h3, .int .i64 h4, .int .i64 h5] 35)).heap[w3.heap.size]? = some (.cells #[.int .i64 h0, .int .i64 h1, .int .i64 h2, .int .i64 h3, .int .i64 h4, .int .i64 h5] 35 (0, 0))) := heap_alloc_new _ _
      have HWAY := Lib.hid (head_ways (fun e => HY.out hg e) (fun e => HN.out fun k => e k.2))
      clear hb3 hg HY HN HC
      rcases HWAY.out with ⟨g0, g1, g2, HO⟩ | ⟨g0, HO⟩ | ⟨g0, g1, HO⟩ | ⟨g0, g1, g2, HO⟩
      all_goals
        clear HWAY
        have HOO := Lib.hid HO
        clear HO
        obtain ⟨y0, y1, y2, y3, y4, y5⟩ := six_cells HS4.out.2.1
        obtain ⟨f0, f1, f2, f3, f4, f5⟩ := six_frozen HS4.out.2.1
        obtain ⟨x0, x1, x2, x3⟩ := four_cells HS4.out.1
        obtain ⟨z0, z1, z2, z3, z4, z5⟩ := six_cells HN4.out
        go_wp2_with fail
        (try simp only [Exit.inBlock, Exit.then])
        refine bodyPost_ret (results_row2 rfl _ _ (w.heap.size + 1) _ _ (0, 0) _ rfl (stored6 HS4.out.2.1) Tryz.underlying35 rfl (by kernel_rfl)) rfl ?_
        first
          | exact .inl ⟨_, HOO.out, rfl, sd2_res6 HS4.out⟩
          | exact .inr ⟨HOO.out, rfl, sd2_res6 HS4.out⟩
    · have HS3 := Lib.hid (HS2.out.next hb3 (by rfl) (by rfl) (by rfl) (by rfl))
      have HS4 := Lib.hid (HS3.out.next ((Below.refl _ w3).alloc (Nat.le_refl _) (.cells #[.int .i64 0, .int .i64 0, .int .i64 0, .int .i64 0, .int .i64 0, .int .i64 0] 35)) (by rfl) (by rfl) (by rfl) (by rfl))
      have HOO := Lib.hid (HN.out fun k => hg k.1)
      clear hb3 hg HY HN HC
      obtain ⟨y0, y1, y2, y3, y4, y5⟩ := six_cells HS4.out.2.1
      obtain ⟨f0, f1, f2, f3, f4, f5⟩ := six_frozen HS4.out.2.1
      go_wp2_with fail
      (try simp only [Exit.inBlock, Exit.then])
      refine bodyPost_ret (results_row2 rfl _ _ (w.heap.size + 1) _ _ (0, 0) _ rfl (stored6 HS4.out.2.1) Tryz.underlying35 rfl (by kernel_rfl)) rfl ?_
      exact .inr ⟨HOO.out, rfl, sd2_res6 HS4.out⟩
  · have HOO := Lib.hid (HN.out fun k => HNF.out hno k.1)
    clear hno HRD HDE HNF HY HN
    obtain ⟨y0, y1, y2, y3, y4, y5⟩ := six_cells HS1.out.2.1
    obtain ⟨f0, f1, f2, f3, f4, f5⟩ := six_frozen HS1.out.2.1
    go_wp2_with fail
    (try simp only [Exit.inBlock, Exit.then])
    refine bodyPost_ret (results_row2 rfl _ _ (w.heap.size + 1) _ _ (0, 0) _ rfl (stored6 HS1.out.2.1) Tryz.underlying35 rfl (by kernel_rfl)) rfl ?_
    exact .inr ⟨HOO.out, rfl, sd2_res6 HS1.out⟩
end Go.Proofs.YtgnbmmceffolmaaGreatDoor
end
section
set_option maxRecDepth 100000
namespace Go.Proofs.YtgnbmmceffolmaaGreatDoor
open Go.RowKit
/-- Bytes in a row of the call's own. -/
def BytesIs (w : World) (l : List Nat) (r : Ending) (w' : World) : Prop := ∃ v, r = .returned v ∧ w'.ownsRow w.heap.size 5 1 v l.length (vals l) ∧ Below w.heap.size w w'
/-- How far a stream was read: k frames, D their payloads. -/
def Sc.Part (img : List Nat) (l : Sb.L) (slot seq : Int) (M k : Nat) (D : List Nat) : Prop := k ≤ M ∧ D.length = 59 * k ∧ (∀ x ∈ D, x < 256) ∧ D ++ Sc.stream img l slot seq k (M - k) = Sc.stream img l slot seq 0 M
theorem part_first (img : List Nat) (l : Sb.L) (slot seq : Int) (M : Nat) : Sc.Part img l slot seq M 0 [] := ⟨Nat.zero_le _, rfl, (fun x h => by cases h), rfl⟩
theorem part_more {img : List Nat} {l : Sb.L} {slot seq : Int} {M k : Nat} {D p : List Nat} (h : Sc.Part img l slot seq M k D) (hk : k < M) (hg : Fr.good 2 seq (Pk.sec l slot k) (sec img (Pk.sec l slot k).toNat)) (hp : Rc.sub (sec img (Pk.sec l slot k).toNat) 1 59 = p) (hl : p.length = 59) (hlt : ∀ x ∈ p, x < 256) : Sc.Part img l slot seq M (k + 1) (D ++ p) := by
  refine ⟨hk, by rw [List.length_append, h.2.1, hl]; omega, fun x hx => ?_, ?_⟩
  · rcases List.mem_append.1 hx with h1 | h1
    · exact h.2.2.1 x h1
    · exact hlt x h1
  · have e := h.2.2.2
    obtain ⟨m, hm⟩ : ∃ m, M - k = m + 1 := ⟨M - k - 1, by omega⟩
    rw [hm, Sc.stream_yes hg, hp, ← List.append_assoc] at e
    rw [show M - (k + 1) = m by omega]
    exact e
theorem part_stop {img : List Nat} {l : Sb.L} {slot seq : Int} {M k : Nat} {D : List Nat} (h : Sc.Part img l slot seq M k D) (hk : k < M) (hg : ¬ Fr.good 2 seq (Pk.sec l slot k) (sec img (Pk.sec l slot k).toNat)) : Sc.stream img l slot seq 0 M = D := by
  have e := h.2.2.2
  obtain ⟨m, hm⟩ : ∃ m, M - k = m + 1 := ⟨M - k - 1, by omega⟩
  rw [hm, Sc.stream_no hg, List.append_nil] at e
  exact e.symm
theorem part_whole {img : List Nat} {l : Sb.L} {slot seq : Int} {M : Nat} {D : List Nat} (h : Sc.Part img l slot seq M M D) : Sc.stream img l slot seq 0 M = D := by
  have e := h.2.2.2
  rw [Nat.sub_self, Sc.stream_zero, List.append_nil] at e
  exact e.symm
set_option maxHeartbeats 2000000 in
theorem scstream_any (a b c d slot seq : Int) (n : Nat) {g cb mb nn : Nat} {fs : Flash} (w : World) (hok : Pk.ok ⟨a, b, c, d⟩ slot seq) (hn : n ≤ 120773) (hd : Hid (Dev w g cb mb nn fs)) (ht : Hid (TabW w)) (hz : 0 < w.heap.size) :
    Calls Tryz.prog 33 #[.pointer (some ⟨g, 0, none⟩), .agg #[.int .i64 a, .int .i64 b, .int .i64 c, .int .i64 d], .int .i64 slot, .int .i64 seq, .int .i64 (n : Int)] w (BytesIs w (Sc.stream fs.seen ⟨a, b, c, d⟩ slot seq 0 ((n + 58) / 59))) := by
  have hsp := Pk.spot_le hok
  have CF : Hid (∀ W, Calls Tryz.prog 21 #[.agg #[.int .i64 a, .int .i64 b, .int .i64 c, .int .i64 d], .int .i64 slot] W fun r w' => r = .returned (.int .i64 (Gm.spot ⟨a, b, c, d⟩ slot)) ∧ Below W.heap.size W w') := fun W => by rw [← Pk.first_eq hok]; exact gmfirst_any a b c d slot W
  obtain ⟨i0, hi0, hz0, hz1, hz2⟩ := info_parts info_u8
  have I0 := Lib.hid (And.intro hi0 (And.intro hz0 (And.intro hz1 hz2))); clear hi0 hz0 hz1 hz2
  have HS0 := Lib.hid (sd_new w #[.int .i64 a, .int .i64 b, .int .i64 c, .int .i64 d] 29)
  have HRF : Hid (∀ W (k : Nat), Below w.heap.size w W → Calls Tryz.prog 65 #[.pointer (some ⟨g, 0, none⟩), .int .i64 (Gm.spot ⟨a, b, c, d⟩ slot + 1 + (k : Int)), .int .i64 seq] W fun e w' => (Fr.good 2 seq (Pk.sec ⟨a, b, c, d⟩ slot k) (sec fs.seen (Pk.sec ⟨a, b, c, d⟩ slot k).toNat) ∧ GotFr W (Rc.sub (sec fs.seen (Pk.sec ⟨a, b, c, d⟩ slot k).toNat) 1 59) e w') ∨ (¬ Fr.good 2 seq (Pk.sec ⟨a, b, c, d⟩ slot k) (sec fs.seen (Pk.sec ⟨a, b, c, d⟩ slot k).toNat) ∧ NoFr W e w')) := fun W k hW =>
    screadframe_any (Pk.sec ⟨a, b, c, d⟩ slot k) seq (by have := hok.2.2; omega) (Lib.hid (hd.out.below hW hd.out.lt.1 hd.out.lt.2.1 hd.out.lt.2.2)) (ht.out.below hW hz) (Nat.lt_of_lt_of_le hz hW.size)
  obtain ⟨M, hM⟩ : ∃ M, (n + 58) / 59 = M := ⟨_, rfl⟩
  rw [hM]
  have HM : Hid (∀ k, 59 * k < n ↔ k < M) := fun k => by omega
  have hM2 : M ≤ 2047 := by omega
  generalize hsp0 : Gm.spot ⟨a, b, c, d⟩ slot = sp at *
  have e1 : IntKind.i64.wrap (sp + 1) = sp + 1 := by rw [IntKind.wrap_i64]; omega
  clear hd ht hM hsp0
  unfold GotFr NoFr at HRF
  unfold BytesIs
  go_enter Tryz.func33, Tryz.ntmps33
  go_upto_region 1 with fail
  generalize w.alloc (.cells #[.int .i64 a, .int .i64 b, .int .i64 c, .int .i64 d] 29) = w0 at *
  obtain ⟨z0, z1, z2, z3⟩ := four_cells HS0.out.1
  go_wp2_with fail
  refine (CF.out _).mono ?_
  rintro r w1 ⟨rfl, hb1⟩
  have HB1 := Lib.hid (HS0.out.2.trans (hb1.mono HS0.out.2.size))
  clear hb1 CF z0 z1 z2 z3 HS0
  go_wp2_with fail
  go_loopw [11, 12] (fun dv sv wr => ∃ (k : Nat) (D : List Nat), sv = .int .i64 (sp + 1 + (k : Int)) ∧ slLen dv = 59 * k ∧ Hid (Sc.Part fs.seen ⟨a, b, c, d⟩ slot seq M k D) ∧ Hid (wr.ownsRow w.heap.size 5 1 dv (59 * k) (vals D)) ∧ Hid (Below w.heap.size w wr)) (fun dv _ _ => 59 * M - slLen dv)
  case atStart => exact ⟨0, [], by simp, rfl, part_first _ _ _ _ _, World.ownsRow_nil _ _ _ _, HB1.out⟩
  case round =>
    obtain ⟨k, D, rfl, hlen, hp, hown, hbel⟩ := hrel
    obtain ⟨A1, c1, rfl, hbs, hl1, hn1, hm1, hA1⟩ := own_bytes hown.out hp.out.2.2.1
    have hk := hp.out.1
    have hd59 : IntKind.i64.wrap (sp + 1 + (k : Int)) = sp + 1 + (k : Int) := by rw [IntKind.wrap_i64]; omega
    clear hlen hbs hl1 hn1 hm1 hA1
    by_cases hlt : k < M
    · have hd1 : decide (59 * (k : Int) < (n : Int)) = true := by have := (HM.out k).2 hlt; simp only [decide_eq_true_eq]; omega
      have HC := Lib.hid (HRF.out wr k hbel.out)
      have hd60 : IntKind.i64.wrap (sp + 1 + (k : Int) + 1) = sp + 1 + (k : Int) + 1 := by rw [IntKind.wrap_i64]; omega
      have HKN : Hid (sp + 1 + (k : Int) + 1 = sp + 1 + ((k + 1 : Nat) : Int)) := by show _ = _; omega
      have hN2 : 59 * k ≤ 120773 := by omega
      go_wp2_with fail
      refine HC.out.mono ?_
      rintro e w2 (⟨hg, A2, c2, rfl, hs2, hbs2, hb2⟩ | ⟨hg, rfl, hb2⟩)
      · have HPL : Hid ((Rc.sub (sec fs.seen (Pk.sec ⟨a, b, c, d⟩ slot k).toNat) 1 59).length = 59) := Fr.sub59 _ hg.2.1
        have HPN := Lib.hid (part_more hp.out hlt hg rfl HPL.out hbs2.bs.lt)
        have HO2 : Hid (w2.ownsRow w.heap.size 5 1 (.slice A1 (59 * k) c1) (59 * k) (vals D)) := ownsRow_block hown.out fun q hq => hb2.block q (hown.out.lt q hq).2
        have HB2 := Lib.hid (hbel.out.trans (hb2.mono hbel.out.size))
        have HPB := Lib.hid hbs2.bs
        have HSL := Lib.hid hs2
        generalize Rc.sub (sec fs.seen (Pk.sec ⟨a, b, c, d⟩ slot k).toNat) 1 59 = p at *
        have HA : Hid ((A2 = none → (59 : Nat) = 0 ∧ c2 = 0) ∧ (vals p).length = 59 * 1 ∧ 59 * k + 59 ≤ maxLen ∧ (59 * k + 59) * 1 ≤ 140737488355328) := ⟨fun e => ⟨(HSL.out.1 e).2, (HSL.out.1 e).1⟩, by rw [vals_length, HPL.out], by unfold maxLen; omega, by omega⟩
        clear hg hs2 hbs2 hb2 hown hp hbel HC HRF
        go_wp2_with (at_builtin; refine append_onto rfl (.tmp 34) (.tmp 35) 27 rfl w.heap.size 5 i0 (.int .u8 0) 1 1 Tryz.underlying27 I0.out.1 I0.out.2.1 I0.out.2.2.1 I0.out.2.2.2 rfl (by decide) _ (59 * k) (vals D) rfl HO2.out A2 59 c2 (vals p) rfl HA.out.1 HA.out.2.1 (fun ad e => by have h := HPB.out; rw [e] at h; exact h.cells) (vals_one _) HA.out.2.2.1 HA.out.2.2.2 HB2.out.size ?_; intro v3 w3 hown3 hg3; rw [← vals_append] at hown3; have HO3 := Lib.hid hown3; have HB3 : Hid (Below w.heap.size w w3) := HB2.out.grown hg3 HB2.out.size (fun g e => (HO2.out.lt g e).1); clear hown3 hg3)
        have hL3 : slLen v3 = 59 * (k + 1) := by
          obtain ⟨A4, c4, rfl, _⟩ := own_bytes HO3.out HPN.out.2.2.1
          show 59 * k + 59 = _
          skip
          omega
        have HO4 : Hid (w3.ownsRow w.heap.size 5 1 v3 (59 * (k + 1)) (vals (D ++ p))) := by rw [show 59 * (k + 1) = 59 * k + 59 by omega]; exact HO3.out
        go_roundw
        case rel => exact ⟨k + 1, _, by rw [HKN.out], hL3, HPN, HO4, HB3⟩
        case measure =>
          rw [hL3]
          simp only [slLen]
          skip
          omega
      · have HE := Lib.hid (part_stop hp.out hlt hg)
        have HDL := Lib.hid hp.out.2.1
        have HO2 : Hid (w2.ownsRow w.heap.size 5 1 (.slice A1 (59 * k) c1) (59 * k) (vals D)) := ownsRow_block hown.out fun q hq => hb2.block q (hown.out.lt q hq).2
        have HB2 := Lib.hid (hbel.out.trans (hb2.mono hbel.out.size))
        clear hg hb2 hown hp hbel HC HRF
        go_wp2_with fail
        go_ret
        refine ⟨_, rfl, ?_, HB2.out⟩
        rw [HE.out, HDL.out]
        exact HO2.out
    · obtain rfl : k = M := by omega
      have hd1 : decide (59 * (k : Int) < (n : Int)) = false := by have := (HM.out k).1; simp only [decide_eq_false_iff_not]; omega
      have HE := Lib.hid (part_whole hp.out)
      have HDL := Lib.hid hp.out.2.1
      clear hp HRF
      go_wp2_with fail
      go_ret
      refine ⟨_, rfl, ?_, hbel.out⟩
      rw [HE.out, HDL.out]
      exact hown.out
end Go.Proofs.YtgnbmmceffolmaaGreatDoor
end
section
set_option maxRecDepth 100000
namespace Go.Proofs.YtgnbmmceffolmaaGreatDoor
open Go.RowKit
instance : DecidableEq Rc.Rec := fun a b => decidable_of_iff (Rc.same a b = true) (Rc.same_iff a b)
/-- A record that was found, in memory. -/
structure Fd where
  off : Int
  len : Int
  rd : Rd
def Fd0 : Fd := ⟨0, 0, Rd0⟩
def fdS : Shape Fd := ⟨fun f => [.int .i64 f.off, .int .i64 f.len, .int .i64 f.rd.kd, .slice f.rd.A1 f.rd.n1 f.rd.c1, .slice f.rd.A2 f.rd.n2 f.rd.c2, .int .i64 f.rd.x], Fd0, 6, fun _ => rfl, by decide, fun a u hu => by
  simp only [List.mem_cons, List.not_mem_nil, or_false] at hu
  rcases hu with rfl | rfl | rfl | rfl | rfl | rfl <;> rfl⟩
/-- What it says. -/
def Fd.says (f : Fd) : Int × Int × Rc.Rec := (f.off, f.len, f.rd.r)
def Sc.say (d : Nat × Rc.Rec) : Int × Int × Rc.Rec := (((d.1 : Nat) : Int), ((Rc.len d.2 : Nat) : Int), d.2)
def Fd.small (f : Fd) : Prop := f.rd.n1 ≤ 140737488355328 ∧ f.rd.n2 ≤ 140737488355328
/-- Found records read through a slice. -/
def FdsAt (w : World) (B : Nat) (A : Option Addr) (l : List Fd) : Prop := Arr fdS w 0 B A l ∧ ∀ f ∈ l, f.rd.here w B ∧ f.small
theorem FdsAt.below {w w' : World} {B C : Nat} {A : Option Addr} {l : List Fd} (h : FdsAt w B A l) (hb : Below C w w') (hB : B ≤ C) : FdsAt w' B A l := ⟨h.1.below hb hB, fun f hf => ⟨(h.2 f hf).1.below hb hB, (h.2 f hf).2⟩⟩
theorem FdsAt.take {w : World} {B : Nat} {A : Option Addr} {l : List Fd} (h : FdsAt w B A l) (n : Nat) : FdsAt w B A (l.take n) := ⟨h.1.take n, fun f hf => h.2 f (List.mem_of_mem_take hf)⟩
theorem mem_getD {α : Type} {l : List α} {k : Nat} (z : α) (hk : k < l.length) : l.getD k z ∈ l := by
  rw [List.getD_eq_getElem?_getD, List.getElem?_eq_getElem hk]; exact List.getElem_mem hk
theorem fds_at {w : World} {lo B : Nat} {ad : Addr} {l : List Fd} (h : Arr fdS w lo B (some ad) l) (k : Nat) (hk : k < l.length) (f : Fd) (e : l.getD k Fd0 = f) :
    w.cell? (ad.add (k * 6)) = some (.int .i64 f.off) ∧ w.cell? ⟨(ad.add (k * 6)).block, (ad.add (k * 6)).off + 1, none⟩ = some (.int .i64 f.len) ∧ w.cell? ⟨(ad.add (k * 6)).block, (ad.add (k * 6)).off + 2, none⟩ = some (.int .i64 f.rd.kd) ∧ w.cell? ⟨(ad.add (k * 6)).block, (ad.add (k * 6)).off + 3, none⟩ = some (.slice f.rd.A1 f.rd.n1 f.rd.c1) ∧ w.cell? ⟨(ad.add (k * 6)).block, (ad.add (k * 6)).off + 4, none⟩ = some (.slice f.rd.A2 f.rd.n2 f.rd.c2) ∧ w.cell? ⟨(ad.add (k * 6)).block, (ad.add (k * 6)).off + 5, none⟩ = some (.int .i64 f.rd.x) := by
  have h6 : ∀ j v, (fdS.cs f)[j]? = some v → w.cell? (ad.add (k * 6 + j)) = some v := fun j v hv => h.cell k hk j v (by rw [show l.getD k fdS.z = f from e]; exact hv)
  have g : ∀ i, 0 < i → ∀ v, (fdS.cs f)[i]? = some v → w.cell? ⟨(ad.add (k * 6)).block, (ad.add (k * 6)).off + i, none⟩ = some v := fun i hi v hv => by
    have := h6 i v hv
    rwa [at_field _ _ _ hi] at this
  exact ⟨h6 0 _ rfl, g 1 (by decide) _ rfl, g 2 (by decide) _ rfl, g 3 (by decide) _ rfl, g 4 (by decide) _ rfl, g 5 (by decide) _ rfl⟩
/-- Bytes that do not lie in the row's own block. -/
def OffV (w : World) (v : Value) (A : Option Addr) (l : List Nat) : Prop := ∃ lo hi, BsIn w lo hi A l ∧ hi ≤ w.heap.size ∧ ∀ g, v.ownBlock = some g → g < lo ∨ hi ≤ g
theorem OffV.new {w w' : World} {v : Value} {A : Option Addr} {l : List Nat} (h : OffV w v A l) (hb : Below w.heap.size w w') : OffV w' v A l := by
  obtain ⟨lo, hi, h1, h2, h3⟩ := h
  exact ⟨lo, hi, h1.keep fun b _ hb2 => hb.block b (by omega), Nat.le_trans h2 hb.size, h3⟩
theorem OffV.kept {w w' : World} {v v' : Value} {A : Option Addr} {l : List Nat} (h : OffV w v A l) (hk : Kept (fun k => v.ownBlock = some k) w w') (hv : ∀ g, v'.ownBlock = some g → v.ownBlock = some g ∨ w.heap.size ≤ g) : OffV w' v' A l := by
  obtain ⟨lo, hi, h1, h2, h3⟩ := h
  refine ⟨lo, hi, h1.keep fun b hb1 hb2 => hk.block b (by omega) fun e => ?_, Nat.le_trans h2 hk.size, fun g e => ?_⟩
  · have := h3 b e; omega
  · rcases hv g e with h4 | h4
    · exact h3 g h4
    · exact .inr (by omega)
theorem OffV.bs {w : World} {v : Value} {A : Option Addr} {l : List Nat} (h : OffV w v A l) : Bs w w.heap.size A l := by
  obtain ⟨lo, hi, h1, h2, h3⟩ := h
  exact h1.bs.more h2
def Fd.ok (f : Fd) : Prop := (SlIs f.rd.A1 f.rd.n1 f.rd.c1 ∧ f.rd.key.length = f.rd.n1) ∧ (SlIs f.rd.A2 f.rd.n2 f.rd.c2 ∧ f.rd.val.length = f.rd.n2) ∧ f.small
/-- Records that were found so far: a row of the call's own, keys and values elsewhere. -/
structure FRow (w : World) (base : Nat) (v : Value) (l : List Fd) : Prop where
  row : SRow (fun k => base ≤ k) 76 6 w v l.length (fdS.flat l)
  rd : ∀ f ∈ l, f.ok ∧ OffV w v f.rd.A1 f.rd.key ∧ OffV w v f.rd.A2 f.rd.val
section
variable {w w' : World} {base : Nat} {v : Value} {l : List Fd}
theorem FRow.nil : FRow w base (.slice none 0 0) [] := ⟨SRow.nil, fun f h => by cases h⟩
theorem FRow.new (h : FRow w base v l) (hb : Below w.heap.size w w') : FRow w' base v l := ⟨h.row.new hb, fun f hf => ⟨(h.rd f hf).1, (h.rd f hf).2.1.new hb, (h.rd f hf).2.2.new hb⟩⟩
theorem FRow.mono {base' : Nat} (h : FRow w base v l) (hb : base' ≤ base) : FRow w base' v l := ⟨h.row.mono fun _ _ e => Nat.le_trans hb e, h.rd⟩
theorem srow_fds {S : Nat → Prop} (h : SRow S 76 6 w v l.length (fdS.flat l)) : ∃ A c, v = .slice A l.length c ∧ SlIs A l.length c ∧ Arr fdS w 0 w.heap.size A l := ARow.open_ (S := fdS) h.1
theorem FRow.open_ (h : FRow w base v l) : ∃ A c, v = .slice A l.length c ∧ SlIs A l.length c ∧ FdsAt w w.heap.size A l := by
  obtain ⟨A, c, e, hs, ha⟩ := srow_fds h.row
  exact ⟨A, c, e, hs, ha, fun f hf => ⟨⟨⟨(h.rd f hf).1.1.1, (h.rd f hf).1.1.2, (h.rd f hf).2.1.bs⟩, ⟨(h.rd f hf).1.2.1.1, (h.rd f hf).1.2.1.2, (h.rd f hf).2.2.bs⟩⟩, (h.rd f hf).1.2.2⟩⟩
end
theorem info_found : (Tryz.prog.info? 76).map (fun i => (i.zero, i.size, i.bytes)) = some (some (.agg #[.int .i64 0, .int .i64 0, .int .i64 0, .slice none 0 0, .slice none 0 0, .int .i64 0]), 6, 80) := by kernel_rfl
/-- 'append(found, f)', the row in blocks of a set. -/
theorem append_fd {w : World} {S : Nat → Prop} {ops : Array Oper} {rest : List Oper} {o : Oper} {a : Act} {Q : Exit → Act → World → Prop} (hgd : Region.wanted o (yielded ops a.tmps) = true) (s x : Operand) (ho : o.op = .call { callee := .builtin .append, args := #[s, x], argTypes := #[41, 41] })
    (v : Value) (l : List Fd) (hs : a.eval s = v) (hrow : SRow S 76 6 w v l.length (fdS.flat l)) (g c : Nat) (p : Fd) (hx : a.eval x = .slice (some ⟨g, 0, none⟩) 1 c) (hg : w.heap[g]? = some (.cells #[.int .i64 p.off, .int .i64 p.len, .int .i64 p.rd.kd, .slice p.rd.A1 p.rd.n1 p.rd.c1, .slice p.rd.A2 p.rd.n2 p.rd.c2, .int .i64 p.rd.x] 76 (0, 0))) (hn : l.length ≤ 1000000)
    (h : ∀ v' w', SRow (Grow S w) 76 6 w' v' (l ++ [p]).length (fdS.flat (l ++ [p])) → Kept (fun k => v.ownBlock = some k) w w' → (∀ g, v'.ownBlock = some g → v.ownBlock = some g ∨ w.heap.size ≤ g) → wpList Tryz.prog ops Q rest (a.put o.dst v') w') : wpList Tryz.prog ops Q (o :: rest) a w := by
  have h0 : SRow (fun k => v.ownBlock = some k) 76 6 w v l.length (fdS.flat l) := ⟨hrow.1, fun _ e => e⟩
  refine BigFrame.wpList_want hgd fun K hK => ?_
  refine op_append_one (Sh := fdS) s x 41 ho Tryz.underlying41 info_found rfl v l.length l hs h0 g c p hx hg hn (by omega) fun v' w' h1 h2 => hK _ _ (h v' w' ⟨?_, fun k e => ?_⟩ h2 h1.2)
  · rw [List.length_append]; exact h1.1
  · rcases h1.2 k e with h3 | h3
    · exact .inl (hrow.2 k h3)
    · exact .inr h3
/-- 'append(found, f)', the row of the call's own. -/
theorem append_found {w : World} {base : Nat} {ops : Array Oper} {rest : List Oper} {o : Oper} {a : Act} {Q : Exit → Act → World → Prop} (hgd : Region.wanted o (yielded ops a.tmps) = true) (s x : Operand) (ho : o.op = .call { callee := .builtin .append, args := #[s, x], argTypes := #[41, 41] })
    (v : Value) (l : List Fd) (hs : a.eval s = v) (hrow : FRow w base v l) (g c : Nat) (p : Fd) (hx : a.eval x = .slice (some ⟨g, 0, none⟩) 1 c) (hg : w.heap[g]? = some (.cells #[.int .i64 p.off, .int .i64 p.len, .int .i64 p.rd.kd, .slice p.rd.A1 p.rd.n1 p.rd.c1, .slice p.rd.A2 p.rd.n2 p.rd.c2, .int .i64 p.rd.x] 76 (0, 0))) (hn : l.length ≤ 1000000) (hp : p.ok ∧ OffV w v p.rd.A1 p.rd.key ∧ OffV w v p.rd.A2 p.rd.val) (hbase : base ≤ w.heap.size)
    (h : ∀ v' w', FRow w' base v' (l ++ [p]) → Below base w w' → wpList Tryz.prog ops Q rest (a.put o.dst v') w') : wpList Tryz.prog ops Q (o :: rest) a w := by
  refine append_fd hgd s x ho v l hs hrow.row g c p hx hg hn fun v' w' h1 h2 h3 => h v' w' ⟨h1.mono fun k _ e => ?_, fun f hf => ?_⟩ (h2.below hbase hrow.row.2)
  · rcases e with e | e
    · exact e
    · exact Nat.le_trans hbase e
  · rcases List.mem_append.1 hf with hf | hf
    · exact ⟨(hrow.rd f hf).1, (hrow.rd f hf).2.1.kept h2 h3, (hrow.rd f hf).2.2.kept h2 h3⟩
    · rw [List.mem_singleton.1 hf]
      exact ⟨hp.1, hp.2.1.kept h2 h3, hp.2.2.kept h2 h3⟩
/-- A decoded record, or the zero one. -/
def RecIs (w : World) (t : Bool) (r : Rc.Rec) (n : Int) (e : Ending) (w' : World) : Prop := ∃ A1 c1 A2 c2, e = .returned (.tuple #[.agg #[.int .i64 r.kind, .slice A1 r.key.length c1, .slice A2 r.val.length c2, .int .i64 r.exp], .int .i64 n, .bool t]) ∧ SlIs A1 r.key.length c1 ∧ SlIs A2 r.val.length c2 ∧ BsIn w' w.heap.size w'.heap.size A1 r.key ∧ BsIn w' w.heap.size w'.heap.size A2 r.val ∧ Below w.heap.size w w'
/-- What a walk of a stream finds at an offset. -/
def Sc.Next (v seq : Int) (D : List Nat) (off : Nat) (t : Bool) (r : Rc.Rec) (n : Nat) : Prop := (t = true ∧ 16 ≤ n ∧ off + n ≤ D.length ∧ n = Rc.len r ∧ Sc.recs v seq D off = (off, r) :: Sc.recs v seq D (off + n)) ∨ (t = false ∧ r = ⟨0, [], [], 0⟩ ∧ n = 0 ∧ Sc.recs v seq D off = [])
theorem recis_got {w w' : World} {v seq off : Int} {l : List Nat} {e : Ending} (hg : Rc.good v seq off l) (h : GotRec w v l e w') : RecIs w true (Rc.rec v l) ((16 + Rc.kl v l + Rc.vl v l : Nat) : Int) e w' := by
  obtain ⟨A1, c1, A2, c2, rfl, h1, h2, h3, h4, h5⟩ := h
  have e1 : (Rc.rec v l).key.length = Rc.kl v l := Rc.sub_length _ _ _ (by have := hg.2.1; omega)
  have e2 : (Rc.rec v l).val.length = Rc.vl v l := Rc.sub_length _ _ _ (by have := hg.2.1; omega)
  refine ⟨A1, c1, A2, c2, ?_, by rw [e1]; exact h1, by rw [e2]; exact h2, h3, h4, h5⟩
  rw [e1, e2]; rfl
theorem recis_no {w w' : World} {e : Ending} (h : NoRec w e w') : RecIs w false ⟨0, [], [], 0⟩ 0 e w' := by
  obtain ⟨rfl, h⟩ := h
  exact ⟨none, 0, none, 0, rfl, ⟨fun _ => ⟨rfl, rfl⟩, Nat.le_refl _, by decide⟩, ⟨fun _ => ⟨rfl, rfl⟩, Nat.le_refl _, by decide⟩, BsIn.nil, BsIn.nil, h⟩
theorem next_good {v seq : Int} {D : List Nat} {off : Nat} (ho : off < D.length) (h0 : D.getD off 0 ≠ 0) (hg : Rc.good v seq (off : Int) (D.drop off)) : Sc.Next v seq D off true (Rc.rec v (D.drop off)) (16 + Rc.kl v (D.drop off) + Rc.vl v (D.drop off)) := by
  have e := rec_len v (D.drop off) ⟨hg.1, hg.2.1⟩
  refine .inl ⟨rfl, by omega, ?_, e.symm, ?_⟩
  · have := hg.2.1
    rw [List.length_drop] at this
    omega
  · rw [← e]; exact Sc.recs_one ho h0 hg
theorem next_bad {v seq : Int} {D : List Nat} {off : Nat} (ho : off < D.length) (h0 : D.getD off 0 ≠ 0) (hg : ¬ Rc.good v seq (off : Int) (D.drop off)) : Sc.Next v seq D off false ⟨0, [], [], 0⟩ 0 := .inr ⟨rfl, rfl, rfl, Sc.recs_stop ho h0 hg⟩
theorem Sc.Next.none {v seq : Int} {D : List Nat} {off n : Nat} {r : Rc.Rec} (h : Sc.Next v seq D off false r n) : Sc.recs v seq D off = [] := by
  rcases h with ⟨h1, -⟩ | ⟨-, -, -, h⟩
  · cases h1
  · exact h
theorem Sc.Next.bounds {v seq : Int} {D : List Nat} {off n : Nat} {r : Rc.Rec} (h : Sc.Next v seq D off true r n) : 16 ≤ n ∧ off + n ≤ D.length ∧ (r.key.length ≤ n ∧ r.val.length ≤ n) := by
  rcases h with ⟨-, h1, h2, h3, -⟩ | ⟨h1, -⟩
  · unfold Rc.len at h3
    exact ⟨h1, h2, by omega, by omega⟩
  · cases h1
/-- Bytes from an offset on. -/
theorem bs_drop {w : World} {B : Nat} {A : Option Addr} {l : List Nat} (h : Bs w B A l) (n : Nat) : Bs w B (A.map (·.add n)) (l.drop n) := (h.bsIn.drop n).bs
/-- The records found so far, and where the walk stands. -/
def Sc.Walked (v seq : Int) (D : List Nat) (off : Nat) (l : List Fd) : Prop := l.map Fd.says ++ (Sc.recs v seq D off).map Sc.say = (Sc.recs v seq D 0).map Sc.say
theorem walked_skip {v seq : Int} {D : List Nat} {off : Nat} {l : List Fd} (h : Sc.Walked v seq D off l) (ho : off < D.length) (h0 : D.getD off 0 = 0) : Sc.Walked v seq D ((off / 59 + 1) * 59) l := by
  unfold Sc.Walked at *
  rwa [Sc.recs_skip ho h0] at h
theorem walked_one {v seq : Int} {D : List Nat} {off n : Nat} {l : List Fd} {r : Rc.Rec} {f : Fd} (h : Sc.Walked v seq D off l) (hn : Sc.Next v seq D off true r n) (hf : f.says = (((off : Nat) : Int), ((n : Nat) : Int), r)) : Sc.Walked v seq D (off + n) (l ++ [f]) := by
  unfold Sc.Walked at *
  rcases hn with ⟨-, -, -, e, hr⟩ | ⟨h1, -⟩
  · rw [hr, List.map_cons] at h
    rw [List.map_append, List.map_cons, List.map_nil, List.append_assoc, hf]
    rw [← h]
    show _ = _ ++ (Sc.say (off, r) :: _)
    unfold Sc.say
    rw [← e]; rfl
  · cases h1
theorem walked_end {v seq : Int} {D : List Nat} {off : Nat} {l : List Fd} (h : Sc.Walked v seq D off l) (he : Sc.recs v seq D off = []) : l.map Fd.says = (Sc.recs v seq D 0).map Sc.say := by
  unfold Sc.Walked at h
  rwa [he, List.map_nil, List.append_nil] at h
/-- What a scan leaves: the records in a row of its own. -/
def FoundIs (w : World) (ds : List (Nat × Rc.Rec)) (r : Ending) (w' : World) : Prop := ∃ v l, r = .returned v ∧ FRow w' w.heap.size v l ∧ l.map Fd.says = ds.map Sc.say ∧ Below w.heap.size w w'
end Go.Proofs.YtgnbmmceffolmaaGreatDoor
end
section
set_option maxRecDepth 100000
namespace Go.Proofs.YtgnbmmceffolmaaGreatDoor
open Go.RowKit
theorem wrote_sec {s : Flash} {n i j : Nat} {b : List Nat} (hl : s.cur.length = n * 64) (hi : i < n) (hj : j < n) (hb : b.length = 64) : sec (s.wrote i b).cur j = if j = i then b else sec s.cur j := by
  have e : (s.wrote i b).cur = putSec s.cur i b := by show putSec s.cur i (pad b) = _; rw [pad_whole hb]
  rw [e, sec_put hl hi hj hb]
theorem wrote_len {s : Flash} {n i : Nat} {b : List Nat} (hl : s.cur.length = n * 64) (hi : i < n) (hb : b.length = 64) : (s.wrote i b).cur.length = n * 64 := by
  show (putSec s.cur i (pad b)).length = _
  exact putSec_len hl hi (by rw [pad_whole hb]; exact hb)
namespace Sc
/-- k frames of the stream st are written, q of them durable, zeros behind them. -/
structure Upto (l : Sb.L) (slot seq : Int) (hb : List Nat) (st : List Nat) (q n k : Nat) (fs : Flash) : Prop where
  plain : Plain fs
  len : fs.cur.length = n * 64
  fit : Pk.Fit l slot seq st (Pk.full st)
  room : Gm.spot l slot + l.rs ≤ (n : Int)
  kq : q ≤ k ∧ k ≤ Pk.full st
  head : sec fs.cur (Gm.spot l slot).toNat = hb
  frames : ∀ i, i < k → sec fs.cur (Pk.sec l slot i).toNat = Pk.frame l slot seq st i
  zeros : ∀ i : Nat, k ≤ i → (i : Int) < l.rs - 1 → sec fs.cur (Pk.sec l slot i).toNat = List.replicate 64 0
  durable : ∀ i, i < q → fs.old (Pk.sec l slot i).toNat = none
  fresh : ∀ (i : Nat) (o : List Nat), fs.old (Pk.sec l slot i).toNat = some o → o = List.replicate 64 0
abbrev Holds (l : Sb.L) (slot seq : Int) (hb : List Nat) (st : List Nat) (q n : Nat) (fs : Flash) : Prop := Upto l slot seq hb st q n (Pk.full st) fs
section
variable {l : Sb.L} {slot seq : Int} {hb st : List Nat} {q n k : Nat} {fs : Flash}
theorem full_rs (h : Pk.Fit l slot seq st k) : ((Pk.full st : Nat) : Int) ≤ l.rs - 1 ∧ (Pk.cap l : Int) = (l.rs - 1) * 59 := by
  have hcap : (Pk.cap l : Int) = (l.rs - 1) * 59 := by
    have := Gm.form_nums h.ok.1.1
    unfold Pk.cap
    omega
  have := h.le
  unfold Pk.full
  omega
theorem Upto.at_ (h : Upto l slot seq hb st q n k fs) {i : Nat} (hi : (i : Int) < l.rs - 1) : 0 ≤ Pk.sec l slot i ∧ (Pk.sec l slot i).toNat < n ∧ (Gm.spot l slot).toNat < n ∧ (Pk.sec l slot i).toNat ≠ (Gm.spot l slot).toNat := by
  have hs := Pk.spot_le h.fit.ok
  have := h.room
  unfold Pk.sec
  omega
theorem sec_ne {i j : Nat} (h : Pk.Fit l slot seq st k) (hij : i ≠ j) : (Pk.sec l slot i).toNat ≠ (Pk.sec l slot j).toNat := by
  have hs := Pk.spot_le h.ok
  unfold Pk.sec
  omega
/-- One more frame. -/
theorem Upto.next (h : Upto l slot seq hb st q n k fs) (hk : k < Pk.full st) : fs.writeErr n (Pk.sec l slot k) (Pk.frame l slot seq st k) = 0 ∧ Upto l slot seq hb st q n (k + 1) (fs.write n (Pk.sec l slot k) (Pk.frame l slot seq st k)) := by
  have hr := full_rs h.fit
  have hfl := Pk.frame_length h.fit hk
  obtain ⟨a1, a2, a3, a4⟩ := h.at_ (i := k) (by omega)
  obtain ⟨j, hj⟩ := Int.eq_ofNat_of_zero_le a1
  have hjn : j < n := by omega
  obtain ⟨e1, e2⟩ := h.plain.write (n := n) (j := j) hjn (b := Pk.frame l slot seq st k) (by rw [hfl]; exact Nat.le_refl _)
  rw [← hj] at e1 e2
  have hjt : (Pk.sec l slot k).toNat = j := by omega
  refine ⟨e1, ?_⟩
  rw [e2]
  exact {
    plain := h.plain.wrote _ _
    len := wrote_len h.len hjn hfl
    fit := h.fit
    room := h.room
    kq := ⟨by have := h.kq; omega, hk⟩
    head := by rw [wrote_sec h.len hjn a3 hfl, if_neg (by omega)]; exact h.head
    frames := fun i hi => by
      obtain ⟨-, b2, -, -⟩ := h.at_ (i := i) (by omega)
      rw [wrote_sec h.len hjn b2 hfl]
      by_cases e : i = k
      · subst e; rw [if_pos hjt]
      · rw [if_neg (by rw [← hjt]; exact sec_ne h.fit e)]; exact h.frames i (by omega)
    zeros := fun i hi hi2 => by
      obtain ⟨-, b2, -, -⟩ := h.at_ (i := i) hi2
      rw [wrote_sec h.len hjn b2 hfl, if_neg (by rw [← hjt]; exact sec_ne h.fit (by omega))]
      exact h.zeros i (by omega) hi2
    durable := fun i hi => by
      show (if (Pk.sec l slot i).toNat = j then _ else _) = _
      have := h.kq
      rw [if_neg (by rw [← hjt]; exact sec_ne h.fit (by omega))]
      exact h.durable i hi
    fresh := fun i o ho => by
      have ho2 : (if (Pk.sec l slot i).toNat = j then some ((fs.old j).getD (sec fs.cur j)) else fs.old (Pk.sec l slot i).toNat) = some o := ho
      split at ho2
      · injection ho2 with ho2
        rw [← ho2, ← hjt]
        cases ho3 : fs.old (Pk.sec l slot k).toNat with
        | some o' => exact h.fresh k o' ho3
        | none => exact h.zeros k (Nat.le_refl _) (by omega)
      · exact h.fresh i o ho2 }
/-- Frames one after the other. -/
theorem Upto.run (h : Upto l slot seq hb st q n k fs) : ∀ m, k + m ≤ Pk.full st → (Rg.run fs n (Rg.items l slot seq st k m)).2 = 0 ∧ Upto l slot seq hb st q n (k + m) (Rg.run fs n (Rg.items l slot seq st k m)).1
  | 0, _ => ⟨rfl, h⟩
  | m + 1, hm => by
    obtain ⟨i1, i2⟩ := Upto.run h m (by omega)
    have e := Rg.run_snoc (Rg.items l slot seq st k m) fs n (Pk.sec l slot (k + m), Pk.frame l slot seq st (k + m)) (Rg.run fs n (Rg.items l slot seq st k m)).1 (by rw [← i1])
    rw [← Rg.items_next] at e
    obtain ⟨e1, e2⟩ := i2.next (by omega)
    rw [e]
    exact ⟨e1, e2⟩
/-- More of the stream is known, none of it written. -/
theorem Upto.more (h : Upto l slot seq hb st q n k fs) (x : List Nat) (hf : Pk.Fit l slot seq (st ++ x) (Pk.full (st ++ x))) : Upto l slot seq hb (st ++ x) q n k fs :=
  { h with
    fit := hf
    kq := ⟨h.kq.1, Nat.le_trans h.kq.2 (by unfold Pk.full; rw [List.length_append]; omega)⟩
    frames := fun i hi => by rw [Pk.frame_more _ _ _ (by have := h.kq; omega)]; exact h.frames i hi }
theorem Holds.after (h : Holds l slot seq hb st q n fs) {st' : List Nat} (hx : ∃ x, st' = st ++ x) (hf : Pk.Fit l slot seq st' (Pk.full st')) : (Rg.after l slot seq fs n st st').2 = 0 ∧ Holds l slot seq hb st' q n (Rg.after l slot seq fs n st st').1 := by
  obtain ⟨x, rfl⟩ := hx
  have hle : Pk.full st ≤ Pk.full (st ++ x) := by unfold Pk.full; rw [List.length_append]; omega
  have h1 := (h.more x hf).run (Pk.full (st ++ x) - Pk.full st) (by omega)
  rw [show Pk.full st + (Pk.full (st ++ x) - Pk.full st) = Pk.full (st ++ x) by omega] at h1
  exact h1
/-- What was written is durable. -/
theorem Holds.sync (h : Holds l slot seq hb st q n fs) : fs.barrierErr = 0 ∧ Holds l slot seq hb st (Pk.full st) n fs.barrier := by
  obtain ⟨e1, e2⟩ := h.plain.barrier
  refine ⟨e1, ?_⟩
  rw [e2]
  exact { plain := ⟨h.plain.dead, h.plain.fused⟩, len := h.len, fit := h.fit, room := h.room, kq := ⟨Nat.le_refl _, Nat.le_refl _⟩, head := h.head, frames := h.frames, zeros := h.zeros, durable := fun _ _ => rfl, fresh := fun i o ho => by cases ho }
/-- A region was begun on a new device. -/
theorem holds_begun {b : List Nat} (hok : Pk.ok l slot seq) (hroom : Gm.spot l slot + l.rs ≤ (n : Int)) (hb : b.length = 64) :
    (Rg.begun (Flash.fresh (List.replicate (n * 64) 0)) n (Gm.spot l slot) b).2 = 0 ∧ Holds l slot seq b [] 0 n (Rg.begun (Flash.fresh (List.replicate (n * 64) 0)) n (Gm.spot l slot) b).1 := by
  have hs := Pk.spot_le hok
  have hrs := Gm.form_nums hok.1.1
  obtain ⟨j, hj⟩ := Int.eq_ofNat_of_zero_le (show 0 ≤ Gm.spot l slot by omega)
  have hjn : j < n := by omega
  have hp := plain_fresh (List.replicate (n * 64) 0)
  obtain ⟨e1, e2⟩ := hp.write (n := n) (j := j) hjn (b := b) (by omega)
  have hp2 := hp.wrote j b
  obtain ⟨e3, e4⟩ := hp2.barrier
  have hlen : (Flash.fresh (List.replicate (n * 64) 0)).cur.length = n * 64 := List.length_replicate
  unfold Rg.begun Rg.syncFs Rg.syncErr
  simp only
  rw [hj, e1, e2, if_pos rfl, if_pos rfl, e3, e4]
  refine ⟨rfl, ?_⟩
  exact {
    plain := ⟨hp2.dead, hp2.fused⟩
    len := wrote_len hlen hjn hb
    fit := Pk.Fit.start hok
    room := hroom
    kq := ⟨Nat.zero_le _, Nat.zero_le _⟩
    head := by
      show sec ((Flash.fresh (List.replicate (n * 64) 0)).wrote j b).cur _ = _
      rw [wrote_sec hlen hjn (by omega) hb, if_pos (by omega)]
    frames := fun i hi => absurd hi (Nat.not_lt_zero _)
    zeros := fun i hi hi2 => by
      show sec ((Flash.fresh (List.replicate (n * 64) 0)).wrote j b).cur _ = _
      have a1 : (Pk.sec l slot i).toNat < n ∧ (Pk.sec l slot i).toNat ≠ j := by unfold Pk.sec; omega
      rw [wrote_sec hlen hjn a1.1 hb, if_neg a1.2]
      exact sec_zero a1.1
    durable := fun _ _ => rfl
    fresh := fun i o ho => by cases ho }
end
/-- Zeros are no frame. -/
theorem zero_frame (s x : Int) : ¬ Fr.good 2 s x (List.replicate 64 0) := fun h => by
  have h1 := h.2.2
  have h2 : (Fr.enc 2 s x (Rc.sub (List.replicate 64 0) 1 59)).getD 0 0 = 2 := rfl
  rw [h1] at h2
  exact absurd h2 (by decide)
section
variable {l : Sb.L} {slot seq : Int} {hb st : List Nat} {q n k : Nat} {fs : Flash}
/-- The stream of an image with j of a region's frames. -/
theorem stream_is (img : List Nat) (hf : Pk.Fit l slot seq st (Pk.full st)) (j : Nat) (hj : j ≤ Pk.full st) (h1 : ∀ i, i < j → sec img (Pk.sec l slot i).toNat = Pk.frame l slot seq st i) (h2 : (j : Int) < l.rs - 1 → ¬ Fr.good 2 seq (Pk.sec l slot j) (sec img (Pk.sec l slot j).toNat)) :
    ∀ m i, i + m = (l.rs - 1).toNat → i ≤ j → stream img l slot seq i m = (st.take (59 * j)).drop (59 * i)
  | 0, i, hm, hi => by
    have hr := full_rs hf
    obtain rfl : i = j := by omega
    rw [stream_zero, List.drop_of_length_le (by rw [List.length_take]; omega)]
  | m + 1, i, hm, hi => by
    have hr := full_rs hf
    rcases Nat.lt_or_ge i j with hlt | hge
    · have hfr := Pk.frame_part hf (i := i) (by omega)
      have hfd : 59 * j ≤ st.length := by unfold Pk.full at hj; omega
      have hg : Fr.good 2 seq (Pk.sec l slot i) (sec img (Pk.sec l slot i).toNat) := by
        rw [h1 i hlt]
        exact Fr.round _ _ _ _ (Pk.frame_may hf (by omega)) (by rw [hfr.1]; exact Nat.le_refl _)
      have hsub : Rc.sub (sec img (Pk.sec l slot i).toNat) 1 59 = Rc.sub st (i * 59) 59 := by
        rw [h1 i hlt]
        unfold Pk.frame
        rw [Fr.sub_enc _ _ _ _ (by rw [hfr.1]; exact Nat.le_refl _), hfr.1]
        simp
      rw [stream_yes hg, hsub, stream_is img hf j hj h1 h2 m (i + 1) (by omega) hlt]
      unfold Rc.sub
      rw [show i * 59 = 59 * i by omega, List.drop_take, List.drop_take, show 59 * j - 59 * i = 59 + (59 * j - 59 * (i + 1)) by omega, List.take_add, List.drop_drop]
      rfl
    · obtain rfl : i = j := by omega
      rw [stream_no (h2 (by omega)), List.drop_of_length_le (by rw [List.length_take]; omega)]
theorem Holds.stream (h : Holds l slot seq hb st q n fs) : Sc.stream fs.cur l slot seq 0 (l.rs - 1).toNat = st.take (59 * Pk.full st) := by
  have := stream_is fs.cur h.fit (Pk.full st) (Nat.le_refl _) h.frames (fun hr => by rw [h.zeros _ (Nat.le_refl _) hr]; exact zero_frame _ _) (l.rs - 1).toNat 0 (by omega) (Nat.zero_le _)
  rw [this, Nat.mul_zero, List.drop_zero]
/-- A region has no stream for a number that differs from its own in the lowest 32 bits. -/
theorem Holds.other (h : Holds l slot seq hb st q n fs) {s : Int} (hs : 0 ≤ s) (h32 : s.toNat / 4294967296 = seq.toNat / 4294967296) (hne : s ≠ seq) : ∀ m, Sc.stream fs.cur l slot s 0 m = []
  | 0 => rfl
  | m + 1 => by
    have hr := full_rs h.fit
    have hrs := Gm.form_nums h.fit.ok.1.1
    refine stream_no ?_
    rcases Nat.eq_zero_or_pos (Pk.full st) with e | e
    · rw [h.zeros 0 (by omega) (by omega)]; exact zero_frame _ _
    · rw [h.frames 0 e]
      have hfr := Pk.frame_part h.fit e
      unfold Pk.frame
      intro hg
      exact hne ((Fr.other_salt 2 seq s (Pk.sec l slot 0) _ (Pk.frame_may h.fit e) (by rw [hfr.1]; exact Nat.le_refl _) hs h32).1 hg)
end
end Sc
end Go.Proofs.YtgnbmmceffolmaaGreatDoor
end
section
set_option maxRecDepth 100000
namespace Go.Proofs.YtgnbmmceffolmaaGreatDoor
open Go.RowKit
namespace Sc
section
variable {l : Sb.L} {slot seq : Int} {hb st : List Nat} {q n : Nat} {fs : Flash} {ds : List (Nat × Rc.Rec)}
def puts (l : Sb.L) (st : List Nat) (r : Rc.Rec) (ds : List (Nat × Rc.Rec)) : List (Nat × Rc.Rec) := if Pk.err l st r = 0 then ds ++ [(st.length, r)] else ds
theorem Built.puts (h : Built l.ver seq st ds) (hf : Pk.Fit l slot seq st (Pk.full st)) (r : Rc.Rec) : Built l.ver seq (Pk.put l seq st r) (Sc.puts l st r ds) := by
  unfold Sc.puts
  by_cases he : Pk.err l st r = 0
  · rw [if_pos he, Pk.put_ok he]
    exact h.put r (Pk.err_zero.1 he).1 (Pk.place_ok hf)
  · rw [if_neg he, Pk.put_no he]
    exact h
theorem pad_more (st : List Nat) : ∃ x, Pk.pad st = st ++ x := ⟨_, rfl⟩
theorem Holds.syncd (h : Holds l slot seq hb st q n fs) : Rg.syncErr (Rg.after l slot seq fs n st (Pk.pad st)) = 0 ∧ Holds l slot seq hb (Pk.pad st) (Pk.full (Pk.pad st)) n (Rg.syncFs (Rg.after l slot seq fs n st (Pk.pad st))) := by
  obtain ⟨e1, e2⟩ := h.after (pad_more st) (h.fit.pad.take (Nat.le_refl _))
  obtain ⟨e3, e4⟩ := e2.sync
  unfold Rg.syncErr Rg.syncFs
  rw [if_pos e1, if_pos e1]
  exact ⟨e3, e4⟩
theorem take_whole (h : st.length % 59 = 0) : st.take (59 * Pk.full st) = st := by
  rw [List.take_of_length_le]
  unfold Pk.full
  omega
theorem region_ok (img : List Nat) (hok : Pk.ok l slot seq) : region img l slot seq = recs l.ver seq (stream img l slot seq 0 (l.rs - 1).toNat) 0 := if_pos hok
theorem Holds.region (h : Holds l slot seq hb st q n fs) (hB : Built l.ver seq st ds) (hm : st.length % 59 = 0) : Sc.region fs.seen l slot seq = ds := by
  rw [region_ok _ h.fit.ok, seen_plain h.plain.dead, h.stream, take_whole hm, hB.all]
theorem Holds.none (h : Holds l slot seq hb st q n fs) {s : Int} (hs : 0 ≤ s) (h32 : s.toNat / 4294967296 = seq.toNat / 4294967296) (hne : s ≠ seq) : Sc.region fs.seen l slot s = [] := by
  unfold Sc.region
  split
  · rw [seen_plain h.plain.dead, h.other hs h32 hne, recs_end (Nat.zero_le _)]
  · rfl
theorem Holds.header {H : Hd.H} (h : Holds l slot seq (Hd.enc (Gm.spot l slot) H) st q n fs) (hv : Hd.valid H) (hf : H.ver = l.ver ∧ H.lay = l.id ∧ H.slot = slot) : Sc.head fs.seen l slot = some H := by
  have hs := Pk.spot_le h.fit.ok
  have e1 : Gm.first l slot = Gm.spot l slot := Pk.first_eq h.fit.ok
  have e2 : sec fs.seen (Gm.first l slot).toNat = Hd.enc (Gm.spot l slot) H := by rw [seen_plain h.plain.dead, e1, h.head]
  have e3 : Hd.rd (Rc.sub (sec fs.seen (Gm.first l slot).toNat) 1 59) = H := by rw [e2]; exact Hd.rd_enc _ _ hv
  have hmay : Fr.may 1 0 (Gm.spot l slot) := by unfold Fr.may; omega
  rw [head_some (by rw [e2, e1]; exact (Hd.good_enc _ _ _ hv hmay).2 rfl) (by rw [e3]; exact hf), e3]
end
end Sc
end Go.Proofs.YtgnbmmceffolmaaGreatDoor
end
section
set_option maxRecDepth 100000
namespace Go.Proofs.YtgnbmmceffolmaaGreatDoor
open Go.RowKit
structure ScSt (W : World) (B : Nat) (wr : World) (c : Nat → Nat) (r gd cd md n : Nat) (ver : Int) (rs gp ql : Nat) (f : Flash) (st : List Nat) (q : Nat) (ds : List (Nat × Rc.Rec)) (v : Value) (l : List Fd) : Prop where
  g : StG W wr c r gd cd md n f 3 ver (rs : Int) 4 ver 3 3 4 4 0 gp st (Pk.full st)
  h : Sc.Holds ⟨3, ver, (rs : Int), 4⟩ 3 4 (Hd.enc (Gm.spot ⟨3, ver, (rs : Int), 4⟩ 3) ⟨ver, 3, 3, 4, 4, 0⟩) st q n f
  w : f.wr = 1 + Pk.full st
  b : Sc.Built ver 4 st ds
  lay : Free c wr ql (.cells #[.int .i64 3, .int .i64 ver, .int .i64 (rs : Int), .int .i64 4] 29 (0, 0))
  ql : ql < B
  row : SRow (fun k => c k = 0 ∧ B ≤ k) 76 6 wr v l.length (fdS.flat l)
  base : W.heap.size ≤ B ∧ B ≤ wr.heap.size
  rd : ∀ f ∈ l, f.rd.here W W.heap.size ∧ f.small
section
variable {W : World} {B : Nat} {wr wr' : World} {c c' : Nat → Nat} {r gd cd md n : Nat} {ver : Int} {rs gp ql : Nat} {f f' : Flash} {st st' : List Nat} {q q' : Nat} {ds ds' : List (Nat × Rc.Rec)} {v v' : Value} {l : List Fd}
theorem ScSt.fit (h : ScSt W B wr c r gd cd md n ver rs gp ql f st q ds v l) : Pk.Fit ⟨3, ver, (rs : Int), 4⟩ 3 4 st (Pk.full st) := h.h.fit
theorem ScSt.few (h : ScSt W B wr c r gd cd md n ver rs gp ql f st q ds v l) : f.wr < 4000000000000000000 := by
  have h1 := h.w
  have h2 := Pk.full_le h.fit
  omega
theorem ScSt.new (h : ScSt W B wr c r gd cd md n ver rs gp ql f st q ds v l) (hb : Below wr.heap.size wr wr') : ScSt W B wr' c r gd cd md n ver rs gp ql f st q ds v l :=
  { g := h.g.new hb, h := h.h, w := h.w, b := h.b, lay := h.lay.new hb, ql := h.ql, row := h.row.new hb, base := ⟨h.base.1, Nat.le_trans h.base.2 hb.size⟩, rd := h.rd }
/-- The region goes on. -/
theorem ScSt.went (h : ScSt W B wr c r gd cd md n ver rs gp ql f st q ds v l) (hk : Went c c' wr wr') (hg : StG W wr' c' r gd cd md n f' 3 ver (rs : Int) 4 ver 3 3 4 4 0 gp st' (Pk.full st')) (hh : Sc.Holds ⟨3, ver, (rs : Int), 4⟩ 3 4 (Hd.enc (Gm.spot ⟨3, ver, (rs : Int), 4⟩ 3) ⟨ver, 3, 3, 4, 4, 0⟩) st' q' n f') (hw : f'.wr = 1 + Pk.full st') (hb : Sc.Built ver 4 st' ds') :
    ScSt W B wr' c' r gd cd md n ver rs gp ql f' st' q' ds' v l :=
  { g := hg, h := hh, w := hw, b := hb, lay := h.lay.went hk, ql := h.ql,
    row := ⟨(h.row.kept hk.1 fun _ _ e e2 => e2 e.1).1, fun k e => ⟨(hk.2 k (h.row.lt e)).trans (h.row.2 k e).1, (h.row.2 k e).2⟩⟩
    base := ⟨h.base.1, Nat.le_trans h.base.2 hk.1.size⟩, rd := h.rd }
/-- One more record in the law's row. -/
theorem ScSt.found (h : ScSt W B wr c r gd cd md n ver rs gp ql f st q ds v l) {p : Fd} (hr : SRow (Grow (fun k => c k = 0 ∧ B ≤ k) wr) 76 6 wr' v' (l ++ [p]).length (fdS.flat (l ++ [p]))) (hk : Kept (fun k => v.ownBlock = some k) wr wr') (hp : p.rd.here W W.heap.size ∧ p.small) :
    ScSt W B wr' c r gd cd md n ver rs gp ql f st q ds v' (l ++ [p]) := by
  have hone : ∀ k, (if v.ownBlock = some k then 1 else 0 : Nat) ≠ 0 ↔ v.ownBlock = some k := fun k => by
    split
    · next e => simp [e]
    · next e => simp [e]
  exact {
    g := h.g.other (c2 := fun k => if v.ownBlock = some k then 1 else 0) (hk.mono fun k _ e => (hone k).2 e) (fun k e => (h.row.2 k ((hone k).1 e)).1) ⟨fun k hge => if_neg fun e => by
        have := h.row.lt e
        omega, fun k e => Nat.le_trans h.base.1 (h.row.2 k ((hone k).1 e)).2⟩
    h := h.h, w := h.w, b := h.b
    lay := ⟨(hk.block ql (Array.getElem?_eq_some_iff.1 h.lay.1).1 fun e => by have := (h.row.2 ql e).2; have := h.ql; omega).trans h.lay.1, h.lay.2⟩
    ql := h.ql
    row := ⟨hr.1, fun k e => by
      rcases hr.2 k e with h1 | h1
      · exact h1
      · exact ⟨h.g.colr.1 k h1, Nat.le_trans h.base.2 h1⟩⟩
    base := ⟨h.base.1, Nat.le_trans h.base.2 hk.size⟩
    rd := fun f hf => by
      rcases List.mem_append.1 hf with hf | hf
      · exact h.rd f hf
      · rw [List.mem_singleton.1 hf]; exact hp }
/-- A record was put, or refused. -/
theorem ScSt.put (h : ScSt W B wr c r gd cd md n ver rs gp ql f st q ds v l) (rc : Rc.Rec) (h1 : ∀ x ∈ rc.key, x < 256) (h2 : ∀ x ∈ rc.val, x < 256) (hk : Went c c' wr wr') (hg : StG W wr' c' r gd cd md n (Rg.after ⟨3, ver, (rs : Int), 4⟩ 3 4 f n st (Pk.put ⟨3, ver, (rs : Int), 4⟩ 4 st rc)).1 3 ver (rs : Int) 4 ver 3 3 4 4 0 gp (Pk.put ⟨3, ver, (rs : Int), 4⟩ 4 st rc) (Pk.full (Pk.put ⟨3, ver, (rs : Int), 4⟩ 4 st rc))) :
    (Rg.after ⟨3, ver, (rs : Int), 4⟩ 3 4 f n st (Pk.put ⟨3, ver, (rs : Int), 4⟩ 4 st rc)).2 = 0 ∧ ScSt W B wr' c' r gd cd md n ver rs gp ql (Rg.after ⟨3, ver, (rs : Int), 4⟩ 3 4 f n st (Pk.put ⟨3, ver, (rs : Int), 4⟩ 4 st rc)).1 (Pk.put ⟨3, ver, (rs : Int), 4⟩ 4 st rc) q (Sc.puts ⟨3, ver, (rs : Int), 4⟩ st rc ds) v l := by
  have hf := (h.fit.put rc h1 h2).take (i := Pk.full (Pk.put ⟨3, ver, (rs : Int), 4⟩ 4 st rc)) (Nat.le_refl _)
  obtain ⟨e1, e2⟩ := h.h.after (Pk.put_more _ _ _ _) hf
  have hle := Rg.full_put ⟨3, ver, (rs : Int), 4⟩ 4 st rc
  have hp := Rg.after_plain (n := n) (fs := f) (st := st) h.h.plain hf h.h.room hle
  exact ⟨e1, h.went hk hg e2 (by rw [hp.2.2, h.w]; omega) (h.b.puts (l := ⟨3, ver, (rs : Int), 4⟩) h.fit rc)⟩
/-- The region was synchronized. -/
theorem ScSt.sync (h : ScSt W B wr c r gd cd md n ver rs gp ql f st q ds v l) (hk : Went c c' wr wr') (hg : StG W wr' c' r gd cd md n (Rg.syncFs (Rg.after ⟨3, ver, (rs : Int), 4⟩ 3 4 f n st (Pk.pad st))) 3 ver (rs : Int) 4 ver 3 3 4 4 0 gp (Pk.pad st) (Pk.full (Pk.pad st))) :
    Rg.syncErr (Rg.after ⟨3, ver, (rs : Int), 4⟩ 3 4 f n st (Pk.pad st)) = 0 ∧ ScSt W B wr' c' r gd cd md n ver rs gp ql (Rg.syncFs (Rg.after ⟨3, ver, (rs : Int), 4⟩ 3 4 f n st (Pk.pad st))) (Pk.pad st) (Pk.full (Pk.pad st)) ds v l := by
  obtain ⟨e1, e2⟩ := h.h.syncd
  have hle := Rg.full_pad st
  have hp := Rg.after_plain (n := n) (fs := f) (st := st) h.h.plain (h.fit.pad.take (i := Pk.full (Pk.pad st)) (Nat.le_refl _)) h.h.room hle
  have hs := Rg.sync_plain hp.1 hp.2.1
  exact ⟨e1, h.went hk hg e2 (by rw [hs.2.2.1, hp.2.2, h.w]; omega) h.b.pad⟩
end
/-- Some part of the stream, with su records, is durable. -/
def Sc.Sure (ver : Int) (st : List Nat) (q su : Nat) : Prop := ∃ s0 d0, Sc.Built ver 4 s0 d0 ∧ (∃ x, st = s0 ++ x) ∧ s0.length ≤ 59 * q ∧ d0.length = su
theorem Sc.Sure.more {ver : Int} {st st' : List Nat} {q su : Nat} (h : Sc.Sure ver st q su) (hx : ∃ x, st' = st ++ x) : Sc.Sure ver st' q su := by
  obtain ⟨s0, d0, h1, ⟨y, rfl⟩, h3, h4⟩ := h
  obtain ⟨x, rfl⟩ := hx
  exact ⟨s0, d0, h1, ⟨y ++ x, by rw [List.append_assoc]⟩, h3, h4⟩
theorem Small.ok4 {ver : Int} {rs : Nat} (h : Small ver rs) {slot seq : Int} (h1 : 0 ≤ slot) (h2 : slot < 4) (h3 : 1 ≤ seq) (h4 : seq ≤ 281474976710655) : Pk.ok ⟨3, ver, (rs : Int), 4⟩ slot seq := ⟨⟨h.form, h1, h2⟩, h3, h4⟩
end Go.Proofs.YtgnbmmceffolmaaGreatDoor
end
section
set_option maxRecDepth 100000
namespace Go.Proofs.YtgnbmmceffolmaaGreatDoor
open Go.ChangeShapes Go.WideShapes Go.ChangeAt Go.RowKit
/-- A change of one byte. -/
structure Spl where
  at_ : Int
  add : Nat
def Spl0 : Spl := ⟨0, 0⟩
def spS : Shape Spl := ⟨fun s => [.int .i64 s.at_, .int .u8 ((s.add : Nat) : Int)], Spl0, 2, fun _ => rfl, by decide, fun a u hu => by
  simp only [List.mem_cons, List.not_mem_nil, or_false] at hu
  rcases hu with rfl | rfl <;> rfl⟩
def Spl.ok (s : Spl) : Prop := s.add < 256 ∧ -9223372036854775808 ≤ s.at_ ∧ s.at_ ≤ 9223372036854775807
section
variable {H : Type} {enc : TypeId × Value → H} {W : World}
theorem spl_cells {fuel : Nat} {a0 a1 : Value} {y : DataW H × List MemPlace} (h : DataW.trod enc Tryz.prog W 0 (fun _ => true) true fuel 61 [a0, a1] = some y) :
    ∃ s : Spl, [a0, a1] = spS.cs s ∧ s.ok := by
  obtain ⟨xs, fu, _, _, _, hxl, hf⟩ := DataW.trod_struct Tryz.underlying61 h
  have tI : Tryz.prog.cellsOf 3 = 1 := by kernel_rfl
  have tU : Tryz.prog.cellsOf 5 = 1 := by kernel_rfl
  have hxl2 : xs.length = 2 := hxl
  have h0 : DataW.trod enc Tryz.prog W 0 (fun _ => true) true fu 3 (([a0, a1].drop 0).take (Tryz.prog.cellsOf 3)) = xs[0]? := hf 0 _ rfl
  have h1 : DataW.trod enc Tryz.prog W 0 (fun _ => true) true fu 5 (([a0, a1].drop 1).take (Tryz.prog.cellsOf 5)) = xs[1]? := hf 1 _ rfl
  rw [tI, List.getElem?_eq_getElem (by omega)] at h0
  rw [tU, List.getElem?_eq_getElem (by omega)] at h1
  obtain ⟨x, e0, _, hw⟩ := DataW.trod_int Tryz.underlying3 h0
  obtain ⟨z, e1, _, hw1⟩ := DataW.trod_int Tryz.underlying5 h1
  obtain ⟨k, rfl, hk⟩ := u8_in hw1
  have e0' : a0 = .int .i64 x := by simpa using e0
  have e1' : a1 = .int .u8 (k : Int) := by simpa using e1
  subst e0' e1'
  exact ⟨⟨x, k⟩, rfl, hk, int_wf64 hw⟩
theorem case_in {base : Nat} {v : Value} {d : DataW H} {ps : List MemPlace} (hval : Value.okWide Tryz.prog W .any base 26 v) (hd : DataW.Trod enc Tryz.prog W 0 (fun _ => true) true 26 v d ps) :
    ∃ (xv xg xm : Int) (A1 : Option Addr) (n1 c1 : Nat) (l1 : List Rd) (A2 : Option Addr) (n2 c2 : Nat) (l2 : List Bool) (A3 : Option Addr) (n3 c3 : Nat) (l3 : List Spl), v = .agg #[.int .i64 xv, .int .i64 xg, .slice A1 n1 c1, .slice A2 n2 c2, .slice A3 n3 c3, .int .i64 xm] ∧ Hid (SlIs A1 n1 c1 ∧ SlIs A2 n2 c2 ∧ SlIs A3 n3 c3) ∧ Hid (l1.length = n1) ∧ Hid (RecsAt W W.heap.size A1 l1) ∧ Hid (l2.length = n2) ∧ Hid (Arr boolS W 0 W.heap.size A2 l2) ∧ Hid (l3.length = n3) ∧ Hid (Arr spS W 0 W.heap.size A3 l3 ∧ ∀ k, k < n3 → (l3.getD k Spl0).ok) := by
  simp only [Value.okWide, Tryz.underlying26] at hval
  obtain ⟨cs, rfl, hsz, _⟩ := hval
  have hk : Tryz.prog.cellsOf 26 = 6 := by kernel_rfl
  have hlen : cs.toList.length = 6 := by rw [Array.length_toList, hsz, hk]
  obtain ⟨fuel, hf⟩ := hd
  obtain ⟨xs, fu, _, _, _, hxl, hf⟩ := DataW.trod_struct Tryz.underlying26 hf
  have tI : Tryz.prog.cellsOf 3 = 1 := by kernel_rfl
  have tR : Tryz.prog.cellsOf 22 = 1 := by kernel_rfl
  have tB : Tryz.prog.cellsOf 23 = 1 := by kernel_rfl
  have tS : Tryz.prog.cellsOf 24 = 1 := by kernel_rfl
  have hxl6 : xs.length = 6 := hxl
  obtain ⟨l⟩ := cs
  match l, hlen with
  | [a0, a1, a2, a3, a4, a5], _ =>
    have h0 : DataW.trod enc Tryz.prog W 0 (fun _ => true) true fu 3 (([a0, a1, a2, a3, a4, a5].drop 0).take (Tryz.prog.cellsOf 3)) = xs[0]? := hf 0 _ rfl
    have h1 : DataW.trod enc Tryz.prog W 0 (fun _ => true) true fu 3 (([a0, a1, a2, a3, a4, a5].drop 1).take (Tryz.prog.cellsOf 3)) = xs[1]? := hf 1 _ rfl
    have h2 : DataW.trod enc Tryz.prog W 0 (fun _ => true) true fu 22 (([a0, a1, a2, a3, a4, a5].drop 2).take (Tryz.prog.cellsOf 22)) = xs[2]? := hf 2 _ rfl
    have h3 : DataW.trod enc Tryz.prog W 0 (fun _ => true) true fu 23 (([a0, a1, a2, a3, a4, a5].drop 3).take (Tryz.prog.cellsOf 23)) = xs[3]? := hf 3 _ rfl
    have h4 : DataW.trod enc Tryz.prog W 0 (fun _ => true) true fu 24 (([a0, a1, a2, a3, a4, a5].drop 4).take (Tryz.prog.cellsOf 24)) = xs[4]? := hf 4 _ rfl
    have h5 : DataW.trod enc Tryz.prog W 0 (fun _ => true) true fu 3 (([a0, a1, a2, a3, a4, a5].drop 5).take (Tryz.prog.cellsOf 3)) = xs[5]? := hf 5 _ rfl
    rw [tI, List.getElem?_eq_getElem (by omega)] at h0 h1 h5
    rw [tR, List.getElem?_eq_getElem (by omega)] at h2
    rw [tB, List.getElem?_eq_getElem (by omega)] at h3
    rw [tS, List.getElem?_eq_getElem (by omega)] at h4
    obtain ⟨x0, e0, _⟩ := DataW.trod_int Tryz.underlying3 h0
    obtain ⟨x1, e1, _⟩ := DataW.trod_int Tryz.underlying3 h1
    obtain ⟨x5, e5, _⟩ := DataW.trod_int Tryz.underlying3 h5
    have e0' : a0 = .int .i64 x0 := by simpa using e0
    have e1' : a1 = .int .i64 x1 := by simpa using e1
    have e5' : a5 = .int .i64 x5 := by simpa using e5
    obtain ⟨A1, n1, c1, l1, ea, g1, g2, g3, g4⟩ := shape_trod recS (fun r => r.here W W.heap.size) (v := a2) Tryz.underlying22 (show _ = 4 by kernel_rfl) (fun {fuel cs y} hlen h2 => by
      match cs, hlen with
      | [v0, v1, v2, v3], _ => exact rec_cells h2) h2
    obtain ⟨A2, n2, c2, l2, eb, i1, i2, i3, -⟩ := shape_trod boolS (fun _ => True) (v := a3) Tryz.underlying23 (show _ = 1 by kernel_rfl) (fun {fuel cs y} hlen h2 => by
      match cs, hlen with
      | [v0], _ =>
        obtain ⟨t, et, _⟩ := DataW.trod_bool Tryz.underlying4 h2
        exact ⟨t, et, trivial⟩) h3
    obtain ⟨A3, n3, c3, l3, ec, j1, j2, j3, j4⟩ := shape_trod spS Spl.ok (v := a4) Tryz.underlying24 (show _ = 2 by kernel_rfl) (fun {fuel cs y} hlen h2 => by
      match cs, hlen with
      | [v0, v1], _ => exact spl_cells h2) h4
    subst e0' e1' e5' ea eb ec
    exact ⟨x0, x1, x5, A1, n1, c1, l1, A2, n2, c2, l2, A3, n3, c3, l3, rfl, ⟨g1, i1, j1⟩, g2, ⟨g3, fun k hk => g4 k (by omega)⟩, i2, i3, j2, j3, j4⟩
end
end Go.Proofs.YtgnbmmceffolmaaGreatDoor
end
