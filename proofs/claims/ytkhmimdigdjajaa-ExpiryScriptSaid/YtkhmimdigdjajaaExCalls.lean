/-
  The walks of New, Put, Remove, Next, Len, and of the calls on no queue.
-/
import Derived.Test.YtkhmimdigdjajaaExAdd
import Derived.Test.YtkhmimdigdjajaaStrClone
set_option maxRecDepth 100000
namespace Go.Proofs.Ytkhmimdigdjajaa
open Go.RowKit Go.Maps
theorem exnew_any (w : World) : Calls Try.prog 7 #[] w fun e w' => e = .returned (.pointer (some ⟨w.heap.size, 0, none⟩)) ∧ Below w.heap.size w w' ∧ w'.heap.size = w.heap.size + 1 ∧ Que 0 w' (fun k => k = w.heap.size) w.heap.size [] := by
  go_enter Try.func7, Try.ntmps7
  go_wp2_with fail
  go_ret
  exact ⟨rfl, (Below.refl _ w).alloc (Nat.le_refl _) _, by simp, .slice none 0 0, none, [], ⟨rfl, heap_alloc_new w _, SRow.nil, fun i hi => absurd hi (Nat.not_lt_zero _)⟩, .inl ⟨rfl, rfl⟩, Ex.Rep.nil, Nat.le_refl _, fun x hx => (by cases hx)⟩
set_option maxHeartbeats 1000000 in
theorem exput_any (M q : Nat) (k : ByteArray) (a : Int) (L : List Ex.On) (S : Nat → Prop) (w : World) (hM : M ≤ 900000) (hk : k.size ≤ 1048576) (hT : Hid (Que M w S q L)) :
    Calls Try.prog 8 #[.pointer (some ⟨q, 0, none⟩), .string k, .int .i64 a] w (ExSet M S q L k a w) := by
  by_cases ha : a < 1
  · have CR := Lib.hid (exremove_any M q k L S w (by omega) hk hT)
    have HPT : Hid (Ex.put L k a = Ex.rem L k) := by show _ = _; unfold Ex.put; rw [if_pos ha]
    clear hT
    go_enter Try.func8, Try.ntmps8
    go_wp2_with fail
    refine CR.out.mono ?_
    rintro e w1 ⟨rfl, hk1, hq1, hs1, -⟩
    have HE : Hid (ExSet M S q L k a w (.returned (.tuple #[])) w1) := ⟨rfl, hk1, by rw [HPT.out]; exact (hq1.more (Nat.le_succ _)).mono fun k _ h => .inl h⟩
    clear hk1 hq1 hs1
    go_wp2_with fail
    (try simp only [Exit.inBlock, Exit.then]); refine bodyPost_ret (results_none rfl _ _ _) rfl ?_
    exact HE.out
  · have CC := Lib.hid (strclone_any k hk)
    have HA : Hid (¬ a < 1) := ha
    have CS := Lib.hid (fun (w1 : World) (hb : Below w.heap.size w w1) => exset_any M q k a L S w1 hM hk HA (Lib.hid (hT.out.next hb)))
    have hge : 1 ≤ a := by omega
    clear hT ha
    go_enter Try.func8, Try.ntmps8
    go_upto_region 3 with fail
    go_region_with (first | (go_at_call 20; refine (CC.out _).mono ?_; rintro e wc ⟨rfl, hbc⟩; have HBc := Lib.hid (below_drop hbc); clear hbc) | (revert HBc; intro HBc; go_at_call 19; refine (CS.out _ HBc.out).mono ?_; rintro e w2 ⟨rfl, hk2, hq2⟩; have HK2 := Lib.hid hk2; have HQ2 := Lib.hid hq2; clear hk2 hq2))
    have HE : Hid (∀ w3 : World, w3.heap = w2.heap → w3.os = w2.os → w3.tape = w2.tape → w3.output = w2.output → ExSet M S q L k a w (.returned (.tuple #[])) w3) := fun w3 e1 e2 e3 e4 => by
      have hk : Kept S w w2 := (Kept.of_new HBc.out : Kept S w wc).trans HK2.out
      refine ⟨rfl, ⟨e2.trans hk.os, e3.trans hk.tape, e4.trans hk.output, by rw [e1]; exact hk.size, fun b hb hs => by rw [e1]; exact hk.block b hb hs⟩, ?_⟩
      have h1 : Que (M + 1) w2 (Snc S w w2) q (Ex.put L k a) := HQ2.out.mono fun k _ h => h.imp id fun h => ⟨Nat.le_trans HBc.out.size h.1, h.2⟩
      have h2 : Que (M + 1) w3 (Snc S w w2) q (Ex.put L k a) := h1.kept (⟨e2, e3, e4, by rw [e1]; exact Nat.le_refl _, fun b _ _ => by rw [e1]⟩ : Kept (fun _ => False) w2 w3) fun _ _ _ e => e
      exact h2.mono fun k _ h => h.imp id fun h => ⟨h.1, by rw [e1]; exact h.2⟩
    clear HBc HK2 HQ2
    go_wp2_with fail
    go_end0
    exact HE.out _ rfl rfl rfl rfl
/-- What Remove leaves. -/
theorem exqremove_any (M q : Nat) (k : ByteArray) (L : List Ex.On) (S : Nat → Prop) (w : World) (hM : M ≤ 1000000) (hk : k.size ≤ 1048576) (hT : Hid (Que M w S q L)) :
    Calls Try.prog 10 #[.pointer (some ⟨q, 0, none⟩), .string k] w (ExRem M S q L k w) := by
  have CR := Lib.hid (exremove_any M q k L S w hM hk hT)
  clear hT
  go_enter Try.func10, Try.ntmps10
  go_wp2_with fail
  refine CR.out.mono ?_
  rintro e w1 h1
  have HE := Lib.hid h1
  have HR := Lib.hid h1.1
  clear h1
  obtain rfl := HR.out
  go_wp2_with fail
  go_end0
  exact HE.out
/-- The first node, where the queue has keys. -/
theorem que_first {M : Nat} {w : World} {S : Nat → Prop} {q : Nat} {x : Ex.On} {L : List Ex.On} {v : Value} {mb : Option Nat} {h : List Ex.Nd} (H : HpIn w S q v mb h) (HR : Ex.Rep h (x :: L)) (_ : h.length ≤ M) : ∃ b p, h.length ≠ 0 ∧ ndp (Ex.nd h 0) = .pointer (some ⟨b, 0, none⟩) ∧ w.heap[b]? = some (.cells #[.string x.k, .int .i64 x.r, p] 58 (0, 0)) := by
  obtain ⟨h0, h1⟩ := HR.first
  have h2 := (H.node 0 h0).2
  refine ⟨(Ex.nd h 0).b, .int .i64 ((0 : Nat) : Int), by omega, rfl, h2.trans ?_⟩
  unfold ndc
  rw [show (Ex.nd h 0).o = x from h1]
/-- What first answers of a queue. -/
def Fst (L : List Ex.On) (w : World) (u : Value) : Prop :=
  (L = [] ∧ u = .pointer none) ∨ ∃ x L' b p, L = x :: L' ∧ u = .pointer (some ⟨b, 0, none⟩) ∧ w.heap[b]? = some (.cells #[.string x.k, .int .i64 x.r, p] 58 (0, 0))
theorem quefirst_any (M q : Nat) (L : List Ex.On) (S : Nat → Prop) (w : World) (hT : Hid (Que M w S q L)) :
    Calls Try.prog 21 #[.pointer (some ⟨q, 0, none⟩)] w fun e w' => (∃ u, e = .returned u ∧ Fst L w u) ∧ w' = w := by
  obtain ⟨v, mb, h, H, HM, HR, hle, hsm⟩ := hT.out
  refine (exfirst_any q h.length v mb h S w (Lib.hid rfl) (Lib.hid H)).mono ?_
  rintro e w' ⟨rfl, rfl⟩
  refine ⟨⟨_, rfl, ?_⟩, rfl⟩
  cases L with
  | nil =>
    have hl : h.length = 0 := HR.length
    rw [if_pos hl]
    exact .inl ⟨rfl, rfl⟩
  | cons x L' =>
    obtain ⟨b, p, h1, h2, h3⟩ := que_first H HR hle
    rw [if_neg h1, h2]
    exact .inr ⟨x, L', b, p, rfl, rfl, h3⟩
/-- What Next answers. -/
def nxt (L : List Ex.On) : Value := match L with
  | [] => .tuple #[.int .i64 0, .bool false]
  | x :: _ => .tuple #[.int .i64 x.r, .bool true]
theorem exnext_any (M q : Nat) (L : List Ex.On) (S : Nat → Prop) (w : World) (hT : Hid (Que M w S q L)) :
    Calls Try.prog 15 #[.pointer (some ⟨q, 0, none⟩)] w fun e w' => e = .returned (nxt L) ∧ w' = w := by
  have CF := Lib.hid (quefirst_any M q L S w hT)
  clear hT
  go_enter Try.func15, Try.ntmps15
  go_wp2_with fail
  refine CF.out.mono ?_
  rintro e w1 ⟨⟨u, rfl, hu⟩, rfl⟩
  clear CF
  rcases hu with ⟨rfl, rfl⟩ | ⟨x, L', b, p, rfl, rfl, hb⟩
  · go_wp2_with fail
    go_ret2
    exact ⟨rfl, rfl⟩
  · obtain ⟨a0, a1, -⟩ := nd3_cells hb
    clear hb
    go_wp2_with fail
    go_ret2
    exact ⟨rfl, rfl⟩
theorem exlen_any (M q n : Nat) (L : List Ex.On) (S : Nat → Prop) (w : World) (hn : Hid (L.length = n)) (hT : Hid (Que M w S q L)) :
    Calls Try.prog 16 #[.pointer (some ⟨q, 0, none⟩)] w fun e w' => e = .returned (.int .i64 (n : Int)) ∧ w' = w := by
  obtain ⟨v, mb, h, H, HM, HR, hle, hsm⟩ := hT.out
  obtain ⟨A, c, rfl, hsl⟩ := H.row.open_
  obtain ⟨q0, q1⟩ := two_cells_at H.box
  rw [HR.length, hn.out] at q0
  clear H HM HR hle hsm hsl hT
  go_enter Try.func16, Try.ntmps16
  go_wp2_with fail
  go_ret
  exact ⟨rfl, rfl⟩
/-! No queue. -/
theorem nilput_any (k : ByteArray) (a : Int) (w : World) : Calls Try.prog 8 #[.pointer none, .string k, .int .i64 a] w fun e w' => e = .returned (.tuple #[]) ∧ w' = w := by
  go_enter Try.func8, Try.ntmps8
  go_wp2_with fail
  (try simp only [Exit.inBlock, Exit.then]); refine bodyPost_ret (results_none rfl _ _ _) rfl ?_
  exact ⟨rfl, rfl⟩
theorem nilqremove_any (k : ByteArray) (w : World) : Calls Try.prog 10 #[.pointer none, .string k] w fun e w' => e = .returned (.tuple #[]) ∧ w' = w := by
  go_enter Try.func10, Try.ntmps10
  go_wp2_with fail
  (try simp only [Exit.inBlock, Exit.then]); refine bodyPost_ret (results_none rfl _ _ _) rfl ?_
  exact ⟨rfl, rfl⟩
theorem nilnext_any (w : World) : Calls Try.prog 15 #[.pointer none] w fun e w' => e = .returned (.tuple #[.int .i64 0, .bool false]) ∧ w' = w := by
  go_enter Try.func15, Try.ntmps15
  go_wp2_with fail
  go_ret2
  exact ⟨rfl, rfl⟩
theorem nildue_any (a : Int) (w : World) : Calls Try.prog 13 #[.pointer none, .int .i64 a] w fun e w' => e = .returned (.slice none 0 0) ∧ w' = w := by
  go_enter Try.func13, Try.ntmps13
  go_wp2_with fail
  go_ret
  exact ⟨rfl, rfl⟩
theorem nillen_any (w : World) : Calls Try.prog 16 #[.pointer none] w fun e w' => e = .returned (.int .i64 0) ∧ w' = w := by
  go_enter Try.func16, Try.ntmps16
  go_wp2_with fail
  go_ret
  exact ⟨rfl, rfl⟩
end Go.Proofs.Ytkhmimdigdjajaa
