/-
  The walk of the statement that a record is decoded from its bytes, whatever follows.
-/
import Derived.Test.YtgonpmfjfmmfoaaDoorRecApart
import Derived.Test.YtgonpmfjfmmfoaaDoorRecRefEncode
import Derived.Deep.CutBlock
import Derived.Deep.DeepCutAuto
namespace Go.Proofs.YtgonpmfjfmmfoaaDoor
open Go.RowKit
/-- 'append(out, xs...)' at a step of a region that draws its order: every block but out's own stays. -/
theorem step_append_far {P : Program} {w : World} {ops : Array Oper} {o : Oper} {a : Act} {K : Act → World → Prop} {Q : Exit → Act → World → Prop} {E : Prop} (hgd : o.guard = none) (s x : Operand) (t : TypeId)
    (ho : o.op = .call { callee := .builtin .append, args := #[s, x], argTypes := #[t, t] })
    (base : Nat) (e : TypeId) (i : TypeInfo) (z : Value) (size bytes : Nat) (ht : P.underlying t = some (.slice e)) (hi : P.info? e = some i) (hz : i.zero = some z)
    (hsize : i.size = size) (hby : i.bytes = bytes) (hzs : z.cells.size = size) (hsz : 0 < size)
    (v : Value) (n : Nat) (xs : List Value) (hs : a.eval s = v) (hown : w.ownsRow base e size v n xs)
    (A : Option Addr) (m c : Nat) (news : List Value) (hx : a.eval x = .slice A m c) (hA : A = none → m = 0 ∧ c = 0) (hl : news.length = m * size)
    (hnews : ∀ ad, A = some ad → ∀ j u, news[j]? = some u → w.cell? (ad.add j) = some u) (h1 : ∀ u ∈ news, u.oneCell' = true)
    (h63 : n + m ≤ maxLen) (hbytes : (n + m) * bytes ≤ 140737488355328) (hbase : base ≤ w.heap.size)
    (h : ∀ v' w', w'.ownsRow base e size v' (n + m) (xs ++ news) → Below base w w' → (∀ g ob, w.heap[g]? = some ob → v.ownBlock ≠ some g → w'.heap[g]? = some ob) → K (a.put o.dst v') w') :
    if Region.wanted o (yielded ops a.tmps) = true then Oper.wp P o a w K Q else E := by
  have hw : Region.wanted o (yielded ops a.tmps) = true := by simp [Region.wanted, hgd]
  rw [if_pos hw]
  cases A with
  | none =>
    obtain ⟨rfl, rfl⟩ := hA rfl
    have hn : news = [] := List.eq_nil_of_length_eq_zero (by simpa using hl)
    subst hn
    have hrun := run_append_owned_none (P := P) w base t o.type e i size ht hi v n xs hown
    unfold Oper.wp
    simp [execOp, ho, resolve, invoke, builtin, hs, hx, hrun, Result.andThen]
    exact h v w (by simpa using hown) (Below.refl _ _) (fun _ _ h _ => h)
  | some ad =>
    exact wp_append_own w s x t ho base e i z size bytes ht hi hz hsize hby hzs hsz v n xs hs hown ad m c news hx hl (hnews ad rfl) h1 h63 hbytes hbase fun v' w' h2 h3 _ => h v' w' h2 ((Below.refl _ _).grown h3 hbase fun g e => (hown.lt g e).1) fun g ob hg hne => (h3.block g (Array.getElem?_eq_some_iff.1 hg).1 (fun e => hne e.symm)).trans hg
theorem sd2_box0 (w : World) (a b c a' b' c' d' : Value) (t t' : TypeId) : Sd2 w (.cells #[a, b, c] t (0, 0)) (.cells #[a', b', c', d'] t' (0, 0)) ((w.alloc (.cells #[a, b, c] t)).alloc (.cells #[a', b', c', d'] t')) := sd2_box rfl rfl (Below.refl _ _)
theorem next1 {B : Nat} {a b W c : World} (h : Below B a b) (k : Below B W c) (e1 : W.heap = b.heap) (e2 : W.os = b.os) (e3 : W.tape = b.tape) (e4 : W.output = b.output) : Below B a c :=
  h.trans ⟨k.os.trans e2, k.tape.trans e3, k.output.trans e4, by have := k.size; rw [e1] at this; exact this, fun i hi => (k.block i hi).trans (by rw [e1])⟩
theorem next2 {B : Nat} {a b W c : World} (o : Obj) (h : Below B a b) (hB : B ≤ a.heap.size) (k : Below B W c) (e1 : W.heap = (b.alloc o).heap) (e2 : W.os = (b.alloc o).os) (e3 : W.tape = (b.alloc o).tape) (e4 : W.output = (b.alloc o).output) : Below B a c :=
  next1 (h.alloc (Nat.le_trans hB h.size) o) k e1 e2 e3 e4
/-- A world with another's memory, or with one block more. -/
def At (b W : World) : Prop := (W.heap = b.heap ∨ ∃ o, W.heap = (b.alloc o).heap) ∧ W.os = b.os ∧ W.tape = b.tape ∧ W.output = b.output
theorem At.below {b W : World} (h : At b W) : Below b.heap.size b W := by
  obtain ⟨h | ⟨o, h⟩, e2, e3, e4⟩ := h
  · exact ⟨e2, e3, e4, by rw [h]; exact Nat.le_refl _, fun i _ => by rw [h]⟩
  · have hb : Below b.heap.size b (b.alloc o) := (Below.refl _ _).alloc (Nat.le_refl _) _
    exact ⟨e2, e3, e4, by rw [h]; exact hb.size, fun i hi => by rw [h]; exact hb.block i hi⟩
theorem At.row {b W : World} (h : At b W) {base : Nat} {e : TypeId} {z : Nat} {v : Value} {n : Nat} {xs : List Value} (ho : b.ownsRow base e z v n xs) : W.ownsRow base e z v n xs := by
  obtain ⟨h | ⟨o, h⟩, -⟩ := h
  · unfold World.ownsRow at ho ⊢
    rw [h]
    exact ho
  · have h2 := ho.alloc o
    unfold World.ownsRow at h2 ⊢
    rw [h]
    exact h2
theorem next_at {B : Nat} {a b W c : World} (h : Below B a b) (hB : B ≤ a.heap.size) (k : Below B W c) (ha : At b W) : Below B a c :=
  (h.trans (ha.below.mono (Nat.le_trans hB h.size))).trans k
/-- What the statement needs behind its last store. -/
def Done (w : World) (o0 o1 o2 : Obj) (g : Nat) (B1 B2 : Option Addr) (kk ll : List Nat) (W : World) : Prop := Sd2 w o0 o1 W ∧ W.heap[g]? = some o2 ∧ Bs W W.heap.size B1 kk ∧ Bs W W.heap.size B2 ll
theorem Done.next {w W W' : World} {o0 o1 o2 : Obj} {g : Nat} {B1 B2 : Option Addr} {kk ll : List Nat} (h : Done w o0 o1 o2 g B1 B2 kk ll W) (k : Below W.heap.size W W') : Done w o0 o1 o2 g B1 B2 kk ll W' :=
  ⟨h.1.next k rfl rfl rfl rfl, (k.block g (Array.getElem?_eq_some_iff.1 h.2.1).1).trans h.2.1, (h.2.2.1.below k (Nat.le_refl _)).more k.size, (h.2.2.2.below k (Nat.le_refl _)).more k.size⟩
theorem done_stored {w w1 : World} {o0 o1 : Obj} {g lo : Nat} {a b c d a' b' c' d' : Value} {t : TypeId} {B1 B2 : Option Addr} {kk ll : List Nat} (hg : w.heap.size + 2 ≤ g) (hlo : g < lo) (h : Sd2 w o0 o1 w1) (hT : w1.heap[g]? = some (.cells #[a, b, c, d] t (0, 0)))
    (h1 : BsIn w1 lo w1.heap.size B1 kk) (h2 : BsIn w1 lo w1.heap.size B2 ll) : Done w o0 o1 (.cells #[a', b', c', d'] t (0, 0)) g B1 B2 kk ll ((((w1.setCell ⟨g, 0, none⟩ a').setCell ⟨g, 1, none⟩ b').setCell ⟨g, 2, none⟩ c').setCell ⟨g, 3, none⟩ d') := by
  have hgr := stored_grown w1 g a' b' c' d'
  have hk : ∀ b0, lo ≤ b0 → b0 < w1.heap.size → ((((w1.setCell ⟨g, 0, none⟩ a').setCell ⟨g, 1, none⟩ b').setCell ⟨g, 2, none⟩ c').setCell ⟨g, 3, none⟩ d').heap[b0]? = w1.heap[b0]? := fun b0 hb hb' => hgr.block b0 hb' (fun e => by injection e with e; omega)
  exact ⟨⟨stored_far h.1 (by omega), stored_far h.2.1 (by omega), h.2.2.trans (below_of_grown hgr (by omega) h.2.2.size)⟩, stored hT, (h1.keep hk).bs.more hgr.size, (h2.keep hk).bs.more hgr.size⟩
theorem done_alloc {w w1 : World} {o0 o1 : Obj} {lo : Nat} {a b c d : Value} {t : TypeId} {B1 B2 : Option Addr} {kk ll : List Nat} (h : Sd2 w o0 o1 w1) (h1 : BsIn w1 lo w1.heap.size B1 kk) (h2 : BsIn w1 lo w1.heap.size B2 ll) :
    Done w o0 o1 (.cells #[a, b, c, d] t (0, 0)) w1.heap.size B1 B2 kk ll (w1.alloc (.cells #[a, b, c, d] t)) := by
  have hb : Below w1.heap.size w1 (w1.alloc (.cells #[a, b, c, d] t)) := (Below.refl _ _).alloc (Nat.le_refl _) _
  exact ⟨h.next hb rfl rfl rfl rfl, heap_alloc_new _ _, (h1.bs.below hb (Nat.le_refl _)).more hb.size, (h2.bs.below hb (Nat.le_refl _)).more hb.size⟩
set_option maxHeartbeats 2000000 in
theorem recordround_any (v seq off kd x : Int) (A1 A2 A0 : Option Addr) (n1 n2 n0 c1 c2 c0 : Nat) (k l y : List Nat) (w : World) (hsq : seq ≤ 9223372036854775807) (hs1 : SlIs A1 n1 c1) (hs2 : SlIs A2 n2 c2) (hs0 : SlIs A0 n0 c0) (hk : Hid (k.length = n1 ∧ Bs w w.heap.size A1 k)) (hv : Hid (l.length = n2 ∧ Bs w w.heap.size A2 l)) (hy : Hid (y.length = n0 ∧ Bs w w.heap.size A0 y)) (ht : Hid (TabW w)) (hz : 0 < w.heap.size) :
    Calls Tryd.prog 5 #[.agg #[.int .i64 v, .int .i64 seq, .int .i64 off], .agg #[.int .i64 kd, .slice A1 n1 c1, .slice A2 n2 c2, .int .i64 x], .slice A0 n0 c0] w fun e w' => e = .returned (.bool true) ∧ Below w.heap.size w w' := by
  obtain ⟨m1, hm1⟩ := min_is n1 260
  obtain ⟨m2, hm2⟩ := min_is n2 200
  obtain ⟨m0, hm0⟩ := min_is n0 40
  have HSH := Lib.hid (fun W => short_any kd x A1 A2 n1 n2 c1 c2 m1 m2 W hs1 hs2 hm1 hm2)
  obtain ⟨a1, a2⟩ := min_bs hk.out.1 hk.out.2 hm1
  obtain ⟨b1, b2⟩ := min_bs hv.out.1 hv.out.2 hm2
  obtain ⟨d1, d2⟩ := min_bs hy.out.1 hy.out.2 hm0
  have q1 := min_sl hs1 hm1
  have q2 := min_sl hs2 hm2
  have HQ0 := Lib.hid (min_sl hs0 hm0)
  have HY0 : Hid ((y.take m0).length = m0 ∧ Bs w w.heap.size A0 (y.take m0)) := ⟨d1, d2⟩
  have HMM : Hid (m1 ≤ 260 ∧ m2 ≤ 200 ∧ m0 ≤ 40) := by
    unfold MinIs at hm1 hm2 hm0
    exact ⟨by omega, by omega, by omega⟩
  have hb0 := hs0.2.1
  have hb0' := hs0.2.2
  clear hs1 hs2 hm1 hm2 hs0 d1 d2
  have HEN : Hid (∀ W, Below w.heap.size w W → Calls Tryd.prog 16 #[.int .i64 v, .int .i64 seq, .int .i64 off, .agg #[.int .i64 kd, .slice A1 m1 c1, .slice A2 m2 c2, .int .i64 x]] W (EncR W v seq off ⟨kd, k.take m1, l.take m2, x⟩)) := fun W hW =>
    encode_any v seq off kd x _ _ A1 w.heap.size m1 c1 A2 m2 c2 W hW.size hsq q1 q2 ⟨a1, a2.below hW (Nat.le_refl _)⟩ ⟨b1, b2.below hW (Nat.le_refl _)⟩ (ht.out.below hW hz) (Nat.lt_of_lt_of_le hz hW.size)
  have HAW : Hid (∀ W, Below w.heap.size w W → Calls Tryd.prog 11 #[] W fun e w' => e = .returned (.bool true) ∧ Below W.heap.size W w') := fun W hW => awake_any W (ht.out.below hW hz) (Nat.lt_of_lt_of_le hz hW.size)
  have HLN := Rc.enc_length v seq off ⟨kd, k.take m1, l.take m2, x⟩
  have HLL : Rc.len ⟨kd, k.take m1, l.take m2, x⟩ = 16 + m1 + m2 := by
    unfold Rc.len
    simp only [a1, b1]
  rw [HLL] at HLN
  have HDEC : Hid (Rc.err v seq off ⟨kd, k.take m1, l.take m2, x⟩ = 0 → ∀ (W : World) (A : Option Addr) (c n : Nat), Below w.heap.size w W → n = 16 + m1 + m2 + m0 → SlIs A n c → Bs W W.heap.size A (Rc.enc v seq off ⟨kd, k.take m1, l.take m2, x⟩ ++ y.take m0) → Calls Tryd.prog 19 #[.int .i64 v, .int .i64 seq, .int .i64 off, .slice A n c] W fun e w' =>
      ∃ B1 e1 B2 e2, e = .returned (.tuple #[.agg #[.int .i64 kd, .slice B1 m1 e1, .slice B2 m2 e2, .int .i64 x], .int .i64 ((16 + m1 + m2 : Nat) : Int), .bool true]) ∧ BsIn w' W.heap.size w'.heap.size B1 (k.take m1) ∧ BsIn w' W.heap.size w'.heap.size B2 (l.take m2) ∧ Below W.heap.size W w') := fun h0 W A c n hW hn hs hb => by
    obtain ⟨e1, e2⟩ := err_zero.1 h0
    obtain ⟨r1, r2⟩ := Rc.round v seq off ⟨kd, k.take m1, l.take m2, x⟩ (y.take m0) e1 e2
    obtain ⟨t1, t2, -⟩ := Rc.back v seq off ⟨kd, k.take m1, l.take m2, x⟩ (y.take m0) e1
    obtain ⟨u1, u2, u3, u4⟩ := rec_parts r2
    refine (decode_good v seq off A W.heap.size n c _ W (Nat.le_refl _) hsq (fun e => ⟨(hs.1 e).1, (hs.1 e).2⟩) hs.2.1 hs.2.2 (by show _ = _; rw [List.length_append, HLN, HY0.out.1, hn]) hb (ht.out.below hW hz) (Nat.lt_of_lt_of_le hz hW.size) r1).mono ?_
    rintro e w' ⟨B1, e1, B2, e2, rfl, -, -, hB1, hB2, hbb⟩
    rw [u2] at hB1
    rw [u3] at hB2
    rw [u1, u4, t1, t2]
    simp only [a1, b1]
    exact ⟨B1, e1, B2, e2, rfl, hB1, hB2, hbb⟩
  have HEQ : Hid (∀ W B1 e1 B2 e2 B, B ≤ W.heap.size → Below w.heap.size w W → Bs W B B1 (k.take m1) → Bs W B B2 (l.take m2) → Calls Tryd.prog 20 #[.agg #[.int .i64 kd, .slice B1 m1 e1, .slice B2 m2 e2, .int .i64 x], .agg #[.int .i64 kd, .slice A1 m1 c1, .slice A2 m2 c2, .int .i64 x]] W fun e w' => e = .returned (.bool true) ∧ Below W.heap.size W w') := fun W B1 e1 B2 e2 B hB hW h1 h2 => by
    have h := receq_any kd x kd x B1 B2 A1 A2 B w.heap.size m1 m2 m1 m2 e1 e2 c1 c2 _ _ _ _ W hB hW.size ⟨a1, h1⟩ ⟨b1, h2⟩ ⟨a1, a2.below hW (Nat.le_refl _)⟩ ⟨b1, b2.below hW (Nat.le_refl _)⟩ ⟨by have := HMM.out; omega, by have := HMM.out; omega, by have := HMM.out; omega, by have := HMM.out; omega⟩
    rwa [Rc.same_self] at h
  have HLT : Hid (Rc.err v seq off ⟨kd, k.take m1, l.take m2, x⟩ = 0 → ∀ z ∈ Rc.enc v seq off ⟨kd, k.take m1, l.take m2, x⟩ ++ y.take m0, z < 256) := fun _ z hz => by
    rcases List.mem_append.1 hz with h | h
    · exact Rc.enc_lt _ _ _ _ a2.lt b2.lt z h
    · exact HY0.out.2.lt z h
  have HLEN : Hid ((Rc.enc v seq off ⟨kd, k.take m1, l.take m2, x⟩).length = 16 + m1 + m2) := HLN
  clear a1 a2 b1 b2 q1 q2 HLN HLL
  unfold EncR at HEN
  generalize k.take m1 = kk at *
  generalize l.take m2 = ll at *
  generalize y.take m0 = yy at *
  generalize Rc.enc v seq off ⟨kd, kk, ll, x⟩ = en at *
  generalize Rc.err v seq off ⟨kd, kk, ll, x⟩ = er at *
  go_enter Tryd.func5, Tryd.ntmps5
  go_upto_region 1 with fail
  have HS0 := Lib.hid (sd2_box0 w (.int .i64 v) (.int .i64 seq) (.int .i64 off) (.int .i64 kd) (.slice A1 n1 c1) (.slice A2 n2 c2) (.int .i64 x) 32 24)
  generalize ((w.alloc (.cells #[.int .i64 v, .int .i64 seq, .int .i64 off] 32)).alloc (.cells #[.int .i64 kd, .slice A1 n1 c1, .slice A2 n2 c2, .int .i64 x] 24)) = w0 at *
  go_cut [2] (fun s wx => s = .slice A0 m0 c0 ∧ Hid (Sd2 w (.cells #[.int .i64 v, .int .i64 seq, .int .i64 off] 32 (0, 0)) (.cells #[.int .i64 kd, .slice A1 m1 c1, .slice A2 m2 c2, .int .i64 x] 24 (0, 0)) wx))
  case first =>
    obtain ⟨y0, y1, y2, y3⟩ := four_cells HS0.out.2.1
    rcases hm0 with ⟨i0, rfl⟩ | ⟨i0, rfl⟩
    all_goals
      go_region_with (go_at_call 10; refine (HSH.out _).mono ?_; rintro e w1 ⟨rfl, hb1⟩; have HS1 := Lib.hid (HS0.out.next hb1 (by rfl) (by rfl) (by rfl) (by rfl)); obtain ⟨z0, z1, z2, z3⟩ := four_cells HS1.out.2.1; obtain ⟨g0, g1, g2, g3⟩ := four_frozen HS1.out.2.1; clear hb1)
    all_goals
      go_wp2_with fail
      go_meet
      exact ⟨rfl, sd2_stored HS1.out⟩
  case rest =>
    obtain ⟨rfl, HS2⟩ := hcut
    clear hm0 HS0 hy hk hv HSH
    obtain ⟨y0, y1, y2⟩ := three_cells HS2.out.1
    obtain ⟨z0, z1, z2, z3⟩ := four_cells HS2.out.2.1
    go_wp2_with fail
    refine (HEN.out _ HS2.out.2.2).mono ?_
    rintro e w3 ⟨A3, n3, c3, rfl, hs3, hy3, hx3, hb3⟩
    have HS3 := Lib.hid (HS2.out.next hb3 (by rfl) (by rfl) (by rfl) (by rfl)); clear hb3
    clear y0 y1 y2 z0 z1 z2 z3
    by_cases h0 : er = 0
    · obtain ⟨rfl, hbs3⟩ := hy3 h0
      have HD := Lib.hid (HDEC.out h0)
      have HL := Lib.hid (HLT.out h0)
      subst h0
      have HE3 : Hid (SlIs A3 en.length c3 ∧ Bs w3 w3.heap.size A3 en) := ⟨hs3, hbs3.bs⟩
      clear hs3 hbs3 hx3 hy3 HDEC HLT HEN
      rw [HLEN.out] at HE3
      rw [HLEN.out]
      have HL0 : Hid ((vals en).length = (16 + m1 + m2) * 1 ∧ (vals yy).length = m0 * 1) := ⟨by rw [vals_length, HLEN.out]; omega, by rw [vals_length, HY0.out.1]; omega⟩
      have HA3 : Hid (A3 = none → 16 + m1 + m2 = 0 ∧ c3 = 0) := fun e => ⟨(HE3.out.1.1 e).2, (HE3.out.1.1 e).1⟩
      have HA0 : Hid (A0 = none → m0 = 0 ∧ c0 = 0) := fun e => ⟨(HQ0.out.1 e).2, (HQ0.out.1 e).1⟩
      have HSZ : Hid (16 + m1 + m2 ≤ 500 ∧ m0 ≤ 40) := ⟨by have := HMM.out; omega, HMM.out.2.2⟩
      have HLC : Hid (∀ W, Calls Tryd.prog 14 #[.agg #[.int .i64 kd, .slice A1 m1 c1, .slice A2 m2 c2, .int .i64 x]] W fun e w' => e = .returned (.int .i64 ((16 + m1 + m2 : Nat) : Int)) ∧ Below W.heap.size W w') := fun W => length_any kd A1 m1 c1 A2 m2 c2 x W (by have := HMM.out; omega) (by have := HMM.out; omega)
      generalize 16 + m1 + m2 = L at *
      obtain ⟨i0, hi0, hz0, hz1, hz2⟩ := info_parts info_u8
      have I0 := Lib.hid (And.intro hi0 (And.intro hz0 (And.intro hz1 hz2))); clear hi0 hz0 hz1 hz2
      obtain ⟨y0, y1, y2⟩ := three_cells HS3.out.1
      have HC3 : Hid (∀ W ad, At w3 W → A3 = some ad → ∀ j u, (vals en)[j]? = some u → W.cell? (ad.add j) = some u) := fun W ad hW e => by
        have h := HE3.out.2.below hW.below (Nat.le_refl _)
        rw [e] at h
        exact h.cells
      have HC0 : Hid (∀ w9 W ad, Below w.heap.size w w9 → At w9 W → A0 = some ad → ∀ j u, (vals yy)[j]? = some u → W.cell? (ad.add j) = some u) := fun w9 W ad hb9 hW e => by
        have h := HY0.out.2.below (hb9.trans (hW.below.mono hb9.size)) (Nat.le_refl _)
        rw [e] at h
        exact h.cells
      have HG3 : Hid (w.heap.size + 2 ≤ w3.heap.size) := (Array.getElem?_eq_some_iff.1 HS3.out.2.1).1
      go_wp2_with fail
      go_region_held3 (fun W => W.cell? ⟨w.heap.size, 0, none⟩ = some (.int .i64 v) ∧ W.cell? ⟨w.heap.size, 1, none⟩ = some (.int .i64 seq) ∧ W.cell? ⟨w.heap.size, 2, none⟩ = some (.int .i64 off))
        (first
          | (have hh := HS11.out.1; with_reducible exact three_cells hh)
          | (have hh := HS11.out.1; with_reducible (refine three_cells (stored_far hh ?_)); have h1 := HG3.out; have h2 := HX9.out.size; have h3 := HX10.out.size; omega)
          | (have hh := HS11.out.1; with_reducible (refine three_cells ((heap_alloc_old _ _ ?_).trans hh)); exact (Array.getElem?_eq_some_iff.1 hh).1)
          | (have hh := HS10.out.1; with_reducible exact three_cells hh)
          | (have hh := HS9.out.1; with_reducible exact three_cells hh)
          | go_keep)
        (first
          | (refine step_append_far rfl (.const (.slice none 0 0)) (.tmp 45) 22 rfl _ 5 i0 (.int .u8 0) 1 1 Tryd.underlying22 I0.out.1 I0.out.2.1 I0.out.2.2.1 I0.out.2.2.2 rfl (by decide) _ 0 [] rfl (World.ownsRow_nil _ _ _ _) A3 L c3 (vals en) rfl HA3.out HL0.out.1 (fun ad e => HC3.out _ ad (by first | exact ⟨.inl rfl, rfl, rfl, rfl⟩ | exact ⟨.inr ⟨_, rfl⟩, rfl, rfl, rfl⟩) e) (vals_one _) (by have := HSZ.out; unfold maxLen; omega) (by have := HSZ.out; omega) (Nat.le_refl _) ?_; intro v9 w9 hown9 hb9 hf9; simp only [Nat.zero_add, List.nil_append] at hown9; (first | (have HT9 : Hid (w9.heap[w3.heap.size]? = some (.cells #[.int .i64 0, .slice none 0 0, .slice none 0 0, .int .i64 0] 24 (0, 0)) ∧ v9.ownBlock ≠ some w3.heap.size) := ⟨hf9 _ _ (heap_alloc_new w3 _) (fun e => by cases e), fun e => by have h := (hown9.lt _ e).1; simp at h; omega⟩) | skip); have HX9 : Hid (Below w3.heap.size w3 w9) := next_at (Below.refl _ _) (Nat.le_refl _) (hb9.mono (by first | exact Nat.le_refl _ | simp)) (by first | exact ⟨.inl rfl, rfl, rfl, rfl⟩ | exact ⟨.inr ⟨_, rfl⟩, rfl, rfl, rfl⟩); have HS9 := Lib.hid (HS3.out.next HX9.out (by rfl) (by rfl) (by rfl) (by rfl)); have HL9 := Lib.hid hown9.lt; have HO9 := Lib.hid (ownsRow_mono hown9 (show w3.heap.size ≤ _ from by first | exact Nat.le_refl _ | simp)); clear hown9 hb9 hf9)
          | (refine step_append_far rfl (.tmp 46) (.tmp 47) 22 rfl w3.heap.size 5 i0 (.int .u8 0) 1 1 Tryd.underlying22 I0.out.1 I0.out.2.1 I0.out.2.2.1 I0.out.2.2.2 rfl (by decide) _ L (vals en) rfl (At.row (by first | exact ⟨.inl rfl, rfl, rfl, rfl⟩ | exact ⟨.inr ⟨_, rfl⟩, rfl, rfl, rfl⟩) HO9.out) A0 m0 c0 (vals yy) rfl HA0.out HL0.out.2 (fun ad e => HC0.out w9 _ ad HS9.out.2.2 (by first | exact ⟨.inl rfl, rfl, rfl, rfl⟩ | exact ⟨.inr ⟨_, rfl⟩, rfl, rfl, rfl⟩) e) (vals_one _) (by have := HSZ.out; unfold maxLen; omega) (by have := HSZ.out; omega) (by have := HX9.out.size; first | exact this | exact Nat.le_trans this (by simp)) ?_; intro v10 w10 hown10 hb10 hf10; rw [← vals_append] at hown10; obtain ⟨A10, c10, rfl, hbs10, hl10, hn10, hm10, ho10⟩ := own_bytes hown10 HL.out; (first | (have HT10 : Hid (w10.heap[w3.heap.size]? = some (.cells #[.int .i64 0, .slice none 0 0, .slice none 0 0, .int .i64 0] 24 (0, 0))) := hf10 _ _ HT9.out.1 HT9.out.2) | (have HT10 : Hid (w10.heap[w9.heap.size]? = some (.cells #[.int .i64 0, .slice none 0 0, .slice none 0 0, .int .i64 0] 24 (0, 0))) := hf10 _ _ (heap_alloc_new w9 _) (fun e => absurd (HL9.out _ e).2 (Nat.lt_irrefl _))) | skip); have HX10 : Hid (Below w3.heap.size w3 w10) := next_at HX9.out (Nat.le_refl _) hb10 (by first | exact ⟨.inl rfl, rfl, rfl, rfl⟩ | exact ⟨.inr ⟨_, rfl⟩, rfl, rfl, rfl⟩); have HS10 := Lib.hid (HS3.out.next HX10.out (by rfl) (by rfl) (by rfl) (by rfl)); have HD10 := Lib.hid (fun (W : World) (hW : At w10 W) => HD.out W A10 c10 (L + m0) (HS10.out.2.2.trans (hW.below.mono HS10.out.2.2.size)) rfl (sl_own hn10 hm10 ho10) ((hbs10.below hW.below (Nat.le_refl _)).more hW.below.size)); clear hown10 hb10 hf10 hbs10 hl10 hn10 hm10 ho10)
          | (go_at_call 19; refine (HD10.out _ (by first | exact ⟨.inl rfl, rfl, rfl, rfl⟩ | exact ⟨.inr ⟨_, rfl⟩, rfl, rfl, rfl⟩)).mono ?_; rintro e w11 ⟨B1, e1, B2, e2, rfl, hB1, hB2, hb11⟩; (first | (have hlt := (Array.getElem?_eq_some_iff.1 HT10.out).1; have HT11 := Lib.hid (And.intro ((hb11.block _ hlt).trans HT10.out) hlt); obtain ⟨z0, z1, z2, z3⟩ := four_cells HT11.out.1; obtain ⟨g0, g1, g2, g3⟩ := four_frozen HT11.out.1; clear hlt) | (have hlt : w10.heap.size < (w10.alloc (.cells #[.int .i64 0, .slice none 0 0, .slice none 0 0, .int .i64 0] 24 (0, 0))).heap.size := (by simp); have HT11 := Lib.hid (And.intro ((hb11.block _ hlt).trans (heap_alloc_new w10 (.cells #[.int .i64 0, .slice none 0 0, .slice none 0 0, .int .i64 0] 24 (0, 0)))) hlt); obtain ⟨z0, z1, z2, z3⟩ := four_cells HT11.out.1; obtain ⟨g0, g1, g2, g3⟩ := four_frozen HT11.out.1; clear hlt) | skip); have HX11 : Hid (Below w3.heap.size w3 w11) := next_at HX10.out (Nat.le_refl _) (hb11.mono (by have := HX10.out.size; first | exact this | exact Nat.le_trans this (by simp))) (by first | exact ⟨.inl rfl, rfl, rfl, rfl⟩ | exact ⟨.inr ⟨_, rfl⟩, rfl, rfl, rfl⟩); have HS11 := Lib.hid (HS3.out.next HX11.out (by rfl) (by rfl) (by rfl) (by rfl)); have HBB := Lib.hid (And.intro hB1 hB2); clear hB1 hB2 hb11))
      all_goals
        first
          | (have HT := Lib.hid (done_stored (a' := .int .i64 kd) (b' := .slice B1 m1 e1) (c' := .slice B2 m2 e2) (d' := .int .i64 x) (by have h1 := HG3.out; have h2 := HX9.out.size; have h3 := HX10.out.size; omega) HT11.out.2 HS11.out HT11.out.1 HBB.out.1 HBB.out.2); clear z0 z1 z2 z3 g0 g1 g2 g3)
          | (have HT := Lib.hid (done_alloc (a := .int .i64 kd) (b := .slice B1 m1 e1) (c := .slice B2 m2 e2) (d := .int .i64 x) (t := 24) HS11.out HBB.out.1 HBB.out.2))
        clear HL9
        go_wp2_with fail
        refine (HAW.out _ HT.out.1.2.2).mono ?_
        rintro e w5 ⟨rfl, hb5⟩
        have HT5 := Lib.hid (HT.out.next hb5); clear hb5
        obtain ⟨p0, p1, p2, p3⟩ := four_cells HT5.out.2.1
        obtain ⟨q0, q1, q2, q3⟩ := four_cells HT5.out.1.2.1
        go_wp2_with fail
        refine (HLC.out _).mono ?_
        rintro e w6 ⟨rfl, hb6⟩
        have HT6 := Lib.hid (HT5.out.next hb6); clear hb6 p0 p1 p2 p3 q0 q1 q2 q3
        obtain ⟨p0, p1, p2, p3⟩ := four_cells HT6.out.2.1
        obtain ⟨q0, q1, q2, q3⟩ := four_cells HT6.out.1.2.1
        go_wp2_with fail
        refine (HEQ.out _ B1 e1 B2 e2 w6.heap.size (Nat.le_refl _) HT6.out.1.2.2 HT6.out.2.2.1 HT6.out.2.2.2).mono ?_
        rintro e w7 ⟨rfl, hb7⟩
        have HT7 := Lib.hid (HT6.out.next hb7); clear hb7
        go_wp2
        go_ret
        exact ⟨rfl, HT7.out.1.2.2⟩
    · have f1 : (er != 0) = true := by rw [bne_iff_ne]; exact h0
      have hn3 := hx3 h0
      clear h0 hs3 hy3 hx3 HDEC HLT
      subst hn3
      go_wp2_with (go_at_call 11; refine (HAW.out _ HS3.out.2.2).mono ?_; rintro e w4 ⟨rfl, hb4⟩; have HS4 := Lib.hid (HS3.out.next hb4 (by rfl) (by rfl) (by rfl) (by rfl)); clear hb4)
      go_ret
      exact ⟨rfl, HS4.out.2.2⟩
end Go.Proofs.YtgonpmfjfmmfoaaDoor
