/-
  The walks of Table's calls: New, Len, Places, Work, find, Get, Delete, Set.
-/
import Derived.Test.YtcdomlgnfbdeoaaTbGrow
import Derived.Test.YtcdomlgnfbdeoaaTbPr
import Derived.Test.YtcdomlgnfbdeoaaSrt
import Derived.Lib.ConvBytes
set_option maxRecDepth 100000
namespace Go.Proofs.Ytcdomlgnfbdeoaa
open Go.RowKit
/-- What a search in one set of places leads to. -/
def FindV (v : Value) (l : List Tb.Pl) (k : ByteArray) (e : Ending) : Prop := (e = .returned (.pointer none) ∧ ∀ i, (Tb.g l i).st = 1 → (Tb.g l i).k ≠ k) ∨ ∃ d i, v = .slice (some ⟨d, 0, none⟩) l.length l.length ∧ e = .returned (.pointer (some ⟨d, i * 8, none⟩)) ∧ (Tb.g l i).st = 1 ∧ (Tb.g l i).k = k
theorem plfind_nil (q o N : Nat) (k : ByteArray) (w : World) (hv : w.cell? ⟨q, o, none⟩ = some (.slice none 0 0)) :
    Calls Try.prog 41 #[.pointer (some ⟨q, o, none⟩), .int .u64 (N : Int), .string k] w fun e w' => e = .returned (.pointer none) ∧ w = w' := by
  go_enter Try.func41, Try.ntmps41
  go_wp2_with fail
  go_ret
  exact ⟨rfl, rfl⟩
theorem plfind_all (q o b u N : Nat) (k : ByteArray) (v : Value) (l : List Tb.Pl) (w : World) (hn3 : l.length ≤ 1073741824) (hv : w.cell? ⟨q, o, none⟩ = some v) (hb : w.cell? ⟨q, o + 1, none⟩ = some (.int .i64 (b : Int))) (hp : PlAt w v l) (hG : Tb.Good l b u) (hN : N = Tb.hs k) :
    Calls Try.prog 41 #[.pointer (some ⟨q, o, none⟩), .int .u64 (N : Int), .string k] w fun e w' => FindV v l k e ∧ w = w' := by
  rcases hp with ⟨rfl, rfl⟩ | ⟨d, h0, rfl, hd⟩
  · exact (plfind_nil q o N k w hv).mono fun e w' h => ⟨.inl ⟨h.1, fun i hi => by cases hi⟩, h.2⟩
  · refine (plfind_any q o d l.length b u N k l w rfl h0 hn3 hv hb hd hG hN).mono fun e w' h => ⟨?_, h.2⟩
    rcases h.1 with h1 | ⟨i, h1, h2⟩
    · exact .inl h1
    · exact .inr ⟨d, i, rfl, h1, h2⟩
/-- What a search in a table leads to. -/
def TFind (v v' : Value) (l o : List Tb.Pl) (k : ByteArray) (e : Ending) : Prop :=
  (e = .returned (.pointer none) ∧ (∀ i, (Tb.g l i).st = 1 → (Tb.g l i).k ≠ k) ∧ ∀ i, (Tb.g o i).st = 1 → (Tb.g o i).k ≠ k) ∨
  (∃ d i, v = .slice (some ⟨d, 0, none⟩) l.length l.length ∧ e = .returned (.pointer (some ⟨d, i * 8, none⟩)) ∧ (Tb.g l i).st = 1 ∧ (Tb.g l i).k = k) ∨
  ∃ d i, v' = .slice (some ⟨d, 0, none⟩) o.length o.length ∧ e = .returned (.pointer (some ⟨d, i * 8, none⟩)) ∧ (Tb.g o i).st = 1 ∧ (Tb.g o i).k = k
theorem tbfind_any (M s q b u bo uo nx c wk N : Nat) (k : ByteArray) (v v' : Value) (l o : List Tb.Pl) (S : Nat → Prop) (w : World) (hM : M ≤ 1048576) (hO : Tb.Ok M s l b u o bo uo nx c) (hT : TbAt w S q v v' l b u o bo uo nx c wk) (hN : N = Tb.hs k) :
    Calls Try.prog 31 #[.pointer (some ⟨q, 0, none⟩), .int .u64 (N : Int), .string k] w fun e w' => TFind v v' l o k e ∧ w = w' := by
  obtain ⟨q0, q1, q2, q3, q4, q5, q6, q7, q8⟩ := nine_cells hT.box
  have C1 := Lib.hid (plfind_all q 0 b u N k v l w (by have := hO.len; omega) q0 q1 hT.new hO.gf hN)
  have C2 := Lib.hid (plfind_all q 3 bo uo N k v' o w (by have := hO.leno; omega) q3 q4 hT.old hO.go hN)
  clear hO hT hN q0 q1 q2 q3 q4 q5 q6 q7 q8
  go_enter Try.func31, Try.ntmps31
  go_wp2_with fail
  refine C1.out.mono ?_
  rintro e w' ⟨hf, rfl⟩
  rcases hf with ⟨rfl, h1⟩ | ⟨d, i, h1, rfl, h2, h3⟩
  · have H1 := Lib.hid h1
    clear h1
    go_wp2_with fail
    refine C2.out.mono ?_
    rintro e w' ⟨hf, rfl⟩
    rcases hf with ⟨rfl, h2⟩ | ⟨d, i, h2, rfl, h3, h4⟩
    · have H2 := Lib.hid h2
      clear h2
      go_wp2_with fail
      go_ret
      exact ⟨.inl ⟨rfl, H1.out, H2.out⟩, rfl⟩
    · have H2 := Lib.hid (And.intro h2 (And.intro h3 h4))
      clear h2 h3 h4
      go_wp2_with fail
      go_ret
      exact ⟨.inr (.inr ⟨d, i, H2.out.1, rfl, H2.out.2⟩), rfl⟩
  · have H1 := Lib.hid (And.intro h1 (And.intro h2 h3))
    clear h1 h2 h3
    go_wp2_with fail
    go_ret
    exact ⟨.inr (.inl ⟨d, i, H1.out.1, rfl, H1.out.2⟩), rfl⟩
/-- The hash of a key's bytes, which a conversion lays. -/
theorem bs_key (w : World) (k : ByteArray) : Bs (Lib.bytesWorld w 5 k) (w.heap.size + 1) (some ⟨w.heap.size, 0, none⟩) (Tb.nums k) := by
  intro j hj
  rw [Tb.nums_length] at hj
  have e : (Tb.nums k).getD j 0 = (k.data.toList.getD j 0).toNat := by
    unfold Tb.nums
    rw [List.getD_eq_getElem?_getD, List.getElem?_map, List.getD_eq_getElem?_getD]
    cases k.data.toList[j]? <;> rfl
  rw [e]
  refine ⟨UInt8.toNat_lt _, _, rfl, Nat.lt_succ_self _, ?_⟩
  rw [arr_flat, Nat.zero_add]
  exact Lib.bytesWorld_cell w 5 k j hj
theorem bytes_below (w : World) (k : ByteArray) : Below w.heap.size w (Lib.bytesWorld w 5 k) :=
  ⟨rfl, rfl, rfl, by rw [Lib.bytesWorld_size]; omega, fun i hi => Lib.bytesWorld_at_old w _ k i hi⟩
theorem keyhash_any (k : ByteArray) (hk : k.size ≤ 1048576) (w : World) :
    Calls Try.prog 30 #[.slice (some ⟨w.heap.size, 0, none⟩) k.size (grownCap w k.size 0 5)] (Lib.bytesWorld w 5 k) fun e w' => e = .returned (.int .u64 (Tb.hs k : Int)) ∧ w' = Lib.bytesWorld w 5 k :=
  (hash_any _ _ _ k.size (Tb.nums k) _ (Tb.nums_length k) (by omega) (bs_key w k)).mono fun _ _ h => ⟨h.1, h.2.symm⟩
theorem tbnew_any (w : World) : Calls Try.prog 13 #[] w fun e w' => e = .returned (.pointer (some ⟨w.heap.size, 0, none⟩)) ∧ Below w.heap.size w w' ∧ TbAt w' (fun k => k = w.heap.size) w.heap.size (.slice none 0 0) (.slice none 0 0) [] 0 0 [] 0 0 0 0 0 := by
  go_enter Try.func13, Try.ntmps13
  go_wp2_with fail
  go_ret
  exact ⟨rfl, (Below.refl _ w).alloc (Nat.le_refl _) _, heap_alloc_new w _, .inl ⟨rfl, rfl⟩, .inl ⟨rfl, rfl⟩, rfl, (fun k e => by cases e), (fun k e => by cases e)⟩
theorem TbAt.lt {w : World} {S : Nat → Prop} {q : Nat} {v v' : Value} {l : List Tb.Pl} {b u : Nat} {o : List Tb.Pl} {bo uo nx c wk : Nat} (h : TbAt w S q v v' l b u o bo uo nx c wk) : q < w.heap.size := (Array.getElem?_eq_some_iff.1 h.box).1
theorem TbAt.to {w : World} {S T : Nat → Prop} {q : Nat} {v v' : Value} {l : List Tb.Pl} {b u : Nat} {o : List Tb.Pl} {bo uo nx c wk : Nat} (h : TbAt w S q v v' l b u o bo uo nx c wk) (hs : ∀ k, k < w.heap.size → S k → T k) : TbAt w T q v v' l b u o bo uo nx c wk :=
  ⟨h.box, h.new, h.old, hs q h.lt h.own, fun k e => ⟨hs k (h.new.lt k e) (h.sn k e).1, (h.sn k e).2⟩, fun k e => ⟨hs k (h.old.lt k e) (h.so k e).1, (h.so k e).2⟩⟩
theorem tbmove_all (M q b u bo uo nx c wk : Nat) (v v' : Value) (l o : List Tb.Pl) (S : Nat → Prop) (w : World) (hM : M ≤ 1048576) (hO : Tb.Ok M 0 l b u o bo uo nx c) (hT : TbAt w S q v v' l b u o bo uo nx c wk) :
    Calls Try.prog 29 #[.pointer (some ⟨q, 0, none⟩)] w (Moved M S q v l b o c w) := by
  rcases hT.old with ⟨rfl, rfl⟩ | ⟨d, h0, rfl, _⟩
  · exact tbmove_nil M q b u bo uo nx c wk v l S w hO hT
  · exact tbmove_any M q b u bo uo nx c wk o.length v l o d S w hM rfl h0 hO hT
/-- A table that holds H, of c entries; its last call moved wk. -/
def Tab (M : Nat) (w : World) (S : Nat → Prop) (q : Nat) (H : ByteArray → Tb.En → Prop) (c wk : Nat) : Prop :=
  ∃ v v' l b u o bo uo nx, Tb.Ok M 0 l b u o bo uo nx c ∧ wk ≤ 8 ∧ TbAt w S q v v' l b u o bo uo nx c wk ∧ ∀ k e, H k e ↔ (Tb.Has l k e ∨ Tb.Has o k e)
section
variable {M : Nat} {w w' : World} {S T : Nat → Prop} {q : Nat} {H : ByteArray → Tb.En → Prop} {c wk : Nat}
theorem Tab.kept (h : Tab M w S q H c wk) (hk : Kept T w w') (hd : ∀ k, S k → ¬ T k) : Tab M w' S q H c wk := by
  obtain ⟨v, v', l, b, u, o, bo, uo, nx, h1, h2, h3, h4⟩ := h
  exact ⟨v, v', l, b, u, o, bo, uo, nx, h1, h2, h3.kept hk hd, h4⟩
theorem Tab.next (h : Tab M w S q H c wk) (hb : Below w.heap.size w w') : Tab M w' S q H c wk := h.kept (Kept.of_new (S := fun _ => False) hb) fun _ _ f => f
theorem Tab.to (h : Tab M w S q H c wk) (hs : ∀ k, k < w.heap.size → S k → T k) : Tab M w T q H c wk := by
  obtain ⟨v, v', l, b, u, o, bo, uo, nx, h1, h2, h3, h4⟩ := h
  exact ⟨v, v', l, b, u, o, bo, uo, nx, h1, h2, h3.to hs, h4⟩
theorem Tab.lt (h : Tab M w S q H c wk) : q < w.heap.size := by
  obtain ⟨v, v', l, b, u, o, bo, uo, nx, h1, h2, h3, h4⟩ := h
  exact h3.lt
theorem Tab.one (h : Tab M w S q H c wk) {k : ByteArray} {e e' : Tb.En} (h1 : H k e) (h2 : H k e') : e = e' := by
  obtain ⟨v, v', l, b, u, o, bo, uo, nx, hO, _, _, h4⟩ := h
  rcases (h4 k e).1 h1 with a | a <;> rcases (h4 k e').1 h2 with a' | a'
  · obtain ⟨i, i1, i2, rfl⟩ := a
    obtain ⟨j, j1, j2, rfl⟩ := a'
    rw [hO.gf.uniq i j i1 j1 (i2.trans j2.symm)]
  · exact absurd a' (hO.apart _ _ _ a)
  · exact absurd a (hO.apart _ _ _ a')
  · obtain ⟨i, i1, i2, rfl⟩ := a
    obtain ⟨j, j1, j2, rfl⟩ := a'
    rw [hO.go.uniq i j i1 j1 (i2.trans j2.symm)]
end
theorem g_pos {l : List Tb.Pl} {i : Nat} (h : (Tb.g l i).st = 1) : 0 < l.length := by have := Tb.g_lt (l := l) (i := i) (by rw [h]; decide); omega
/-- What Get answers. -/
def GetIs (H : ByteArray → Tb.En → Prop) (k : ByteArray) (e : Ending) : Prop := (∃ x, H k x ∧ e = .returned (.tuple #[.agg (enc x).toArray, .bool true])) ∨ ((∀ x, ¬ H k x) ∧ e = .returned (.tuple #[.agg (enc Tb.En0).toArray, .bool false]))
/-- What Delete answers, and what it leaves. -/
def DelIs (M : Nat) (S : Nat → Prop) (q : Nat) (H : ByteArray → Tb.En → Prop) (c : Nat) (k : ByteArray) (w : World) (e : Ending) (w' : World) : Prop :=
  ((∃ x, H k x) ∧ e = .returned (.bool true) ∧ Kept S w w' ∧ ∃ wk', 0 < c ∧ Tab M w' S q (fun k' e' => H k' e' ∧ k ≠ k') (c - 1) wk') ∨
  ((∀ x, ¬ H k x) ∧ e = .returned (.bool false) ∧ Kept S w w' ∧ ∃ wk', Tab M w' S q H c wk')
set_option maxHeartbeats 4000000 in
theorem tbdelete_any (M q c wk : Nat) (k : ByteArray) (H : ByteArray → Tb.En → Prop) (S : Nat → Prop) (w : World) (hM : M ≤ 1048576) (hk : k.size ≤ 1048576) (hT : Hid (Tab M w S q H c wk)) :
    Calls Try.prog 22 #[.pointer (some ⟨q, 0, none⟩), .string k] w fun e w' => DelIs M S q H c k w e w' := by
  obtain ⟨v, v', l, b, u, o, bo, uo, nx, hO, -, hA, hH⟩ := hT.out
  have HO := Lib.hid hO
  have HH := Lib.hid hH
  have HA0 := Lib.hid hA
  clear hO hA hH
  have kc := fun W => Lib.run_convert_string_bytes (P := Try.prog) W 9 40 5 k Try.underlying9 Try.underlying40 Try.underlying5
  go_enter Try.func22, Try.ntmps22
  go_wp2_with fail
  refine (tbmove_all M q b u bo uo nx c wk v v' l o S w hM HO.out HA0.out).mono ?_
  rintro e w1 ⟨rfl, hk1, v2, l2, u2, o2, bo2, uo2, nx2, wk2, hO2, ha2, hw2, hT2⟩
  have HO2 := Lib.hid hO2
  have HH2 : Hid (∀ k e, H k e ↔ (Tb.Has l2 k e ∨ Tb.Has o2 k e)) := fun k e => (HH.out k e).trans (ha2 k e).symm
  have HK1 := Lib.hid hk1
  have HA1 := Lib.hid hT2
  clear hO2 ha2 hT2 hk1 HA0
  go_wp2_with fail
  refine (keyhash_any k hk w1).mono ?_
  rintro e w2 ⟨rfl, hw⟩
  have HK2 : Hid (Kept S w w2) := by rw [hw]; exact HK1.out.trans (Kept.of_new (bytes_below w1 k))
  have HA2 : Hid (TbAt w2 S q v v2 l2 b u2 o2 bo2 uo2 nx2 c wk2) := by rw [hw]; exact HA1.out.next (bytes_below w1 k)
  clear hw HK1 HA1
  go_wp2_with fail
  refine (tbfind_any M 32 q b u2 bo2 uo2 nx2 c wk2 (Tb.hs k) k v v2 l2 o2 S w2 hM HO2.out HA2.out rfl).mono ?_
  rintro e w' ⟨hf, rfl⟩
  rcases hf with ⟨rfl, h1, h2⟩ | ⟨d, i, hv, rfl, h1, h2⟩ | ⟨d, i, hv, rfl, h1, h2⟩
  · have HN : Hid (∀ x, ¬ H k x) := fun x hx => by
      rcases (HH2.out k x).1 hx with ⟨i, i1, i2, _⟩ | ⟨i, i1, i2, _⟩
      · exact h1 i i1 i2
      · exact h2 i i1 i2
    clear h1 h2
    go_wp2_with fail
    go_ret
    exact .inr ⟨HN.out, rfl, HK2.out, wk2, v, v2, l2, b, u2, o2, bo2, uo2, nx2, HO2.out.slack (Nat.zero_le _), hw2, HA2.out, HH2.out⟩
  · obtain ⟨d', hd', HP⟩ := HA2.out.new.at_ (g_pos h1)
    rw [hv] at hd'
    obtain rfl : d = d' := by injection hd' with e; injection e with e; injection e with e
    have hi := Lib.hid (Tb.g_lt (l := l2) (i := i) (by rw [h1]; decide))
    obtain ⟨hc0, hO3, hA3⟩ := HO2.out.delNew h1
    rw [h2] at hA3
    have hyes : ∃ x, H k x := ⟨_, (HH2.out k _).2 (.inl ⟨i, h1, h2, rfl⟩)⟩
    have HY := Lib.hid hyes
    have HO3 := Lib.hid hO3
    have HA3 : Hid (∀ k' e', (H k' e' ∧ k ≠ k') ↔ _) := fun k' e' => (and_comm.trans (and_congr Iff.rfl (HH2.out k' e'))).trans (hA3 k' e').symm
    clear h1 h2 hd' hyes hO3 hA3
    have CV := Lib.hid (plvacate_any d i l2 w2 hi.out HP)
    go_wp2_with fail
    refine CV.out.mono ?_
    rintro e w5 ⟨rfl, hk5, hp5⟩
    have hdS := (HA2.out.sn d (by rw [hv]; rfl))
    have HT5 : Hid (TbAt w5 S q v v2 (l2.set i Tb.Gone) b u2 (o2) bo2 uo2 nx2 c wk2) := ⟨(hk5.block q HA2.out.lt (fun e => hdS.2 e.symm)).trans HA2.out.box, .inr ⟨d, by rw [List.length_set]; exact Nat.lt_of_le_of_lt (Nat.zero_le _) hi.out, by rw [List.length_set]; exact hv, hp5⟩, HA2.out.old.kept hk5 (fun k e e2 => (HA2.out.so k e).2.2 (by rw [e2, hv]; rfl)), HA2.out.own, HA2.out.sn, HA2.out.so⟩
    have HK5 : Hid (Kept S w w5) := HK2.out.trans (hk5.mono fun k _ e => by rw [e]; exact hdS.1)
    clear hk5 hp5 CV
    obtain ⟨q0, q1, q2, q3, q4, q5, q6, q7, q8⟩ := nine_cells HT5.out.box
    obtain ⟨r0, r1, r2, r3, r4, r5, r6, r7, r8⟩ := nine_frozen HT5.out.box
    have HC0 := Lib.hid hc0
    go_wp2_with fail
    go_ret
    have hc1 : (c : Int) - 1 = ((c - 1 : Nat) : Int) := by omega
    have hcm := HO2.out.most
    exact .inl ⟨HY.out, rfl, HK5.out.trans (Kept.setCell _ ⟨q, 7, none⟩ _ HA2.out.own), wk2, hc0, v, v2, _, b, u2, _, bo2, uo2, nx2, HO3.out.slack (Nat.zero_le _), hw2, HT5.out.set 7 _ (by rw [hc1, wrap64_fits _ (by omega)]; rfl), HA3.out⟩
  · obtain ⟨d', hd', HP⟩ := HA2.out.old.at_ (g_pos h1)
    rw [hv] at hd'
    obtain rfl : d = d' := by injection hd' with e; injection e with e; injection e with e
    have hi := Lib.hid (Tb.g_lt (l := o2) (i := i) (by rw [h1]; decide))
    obtain ⟨hc0, hO3, hA3⟩ := HO2.out.delOld h1
    rw [h2] at hA3
    have hyes : ∃ x, H k x := ⟨_, (HH2.out k _).2 (.inr ⟨i, h1, h2, rfl⟩)⟩
    have HY := Lib.hid hyes
    have HO3 := Lib.hid hO3
    have HA3 : Hid (∀ k' e', (H k' e' ∧ k ≠ k') ↔ _) := fun k' e' => (and_comm.trans (and_congr Iff.rfl (HH2.out k' e'))).trans (hA3 k' e').symm
    clear h1 h2 hd' hyes hO3 hA3
    have CV := Lib.hid (plvacate_any d i o2 w2 hi.out HP)
    go_wp2_with fail
    refine CV.out.mono ?_
    rintro e w5 ⟨rfl, hk5, hp5⟩
    have hdS := (HA2.out.so d (by rw [hv]; rfl))
    have HT5 : Hid (TbAt w5 S q v v2 (l2) b u2 (o2.set i Tb.Gone) bo2 uo2 nx2 c wk2) := ⟨(hk5.block q HA2.out.lt (fun e => hdS.2.1 e.symm)).trans HA2.out.box, HA2.out.new.kept hk5 (fun k e e2 => hdS.2.2 (by rw [e, e2])), .inr ⟨d, by rw [List.length_set]; exact Nat.lt_of_le_of_lt (Nat.zero_le _) hi.out, by rw [List.length_set]; exact hv, hp5⟩, HA2.out.own, HA2.out.sn, HA2.out.so⟩
    have HK5 : Hid (Kept S w w5) := HK2.out.trans (hk5.mono fun k _ e => by rw [e]; exact hdS.1)
    clear hk5 hp5 CV
    obtain ⟨q0, q1, q2, q3, q4, q5, q6, q7, q8⟩ := nine_cells HT5.out.box
    obtain ⟨r0, r1, r2, r3, r4, r5, r6, r7, r8⟩ := nine_frozen HT5.out.box
    have HC0 := Lib.hid hc0
    go_wp2_with fail
    go_ret
    have hc1 : (c : Int) - 1 = ((c - 1 : Nat) : Int) := by omega
    have hcm := HO2.out.most
    exact .inl ⟨HY.out, rfl, HK5.out.trans (Kept.setCell _ ⟨q, 7, none⟩ _ HA2.out.own), wk2, hc0, v, v2, _, b, u2, _, bo2, uo2, nx2, HO3.out.slack (Nat.zero_le _), hw2, HT5.out.set 7 _ (by rw [hc1, wrap64_fits _ (by omega)]; rfl), HA3.out⟩
end Go.Proofs.Ytcdomlgnfbdeoaa
