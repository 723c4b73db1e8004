/-
  The walk of geometry.Free.
-/
import Derived.Test.YtmkilbogdenljaaGmTaken
import Derived.OwnWalk
set_option maxRecDepth 100000
namespace Go.Proofs.Ytmkilbogdenljaa
open Go.RowKit
def Gm.ints (l : List Nat) : List Int := l.map fun (k : Nat) => (k : Int)
theorem ints_append (a b : List Nat) : Gm.ints (a ++ b) = Gm.ints a ++ Gm.ints b := List.map_append ..
theorem ints_length (l : List Nat) : (Gm.ints l).length = l.length := List.length_map ..
/-- What Free returns: a row of its own. -/
def FreeIs (w : World) (l : List Nat) (r : Ending) (w' : World) : Prop := ∃ v, r = .returned v ∧ ARow intS 3 w' w.heap.size v l.length (Gm.ints l) ∧ Below w.heap.size w w'
theorem info_int : (Try.prog.info? 3).map (fun i => (i.zero, i.size, i.bytes)) = some (some (.int .i64 0), 1, 8) := by kernel_rfl
/-- 'append(s, k)' at whole numbers. -/
theorem wpList_append_int {w : World} {ops : Array Oper} {rest : List Oper} {o : Oper} {a : Act} {Q : Exit → Act → World → Prop} (hgd : o.guard = none) (s x : Operand)
    (ho : o.op = .call { callee := .builtin .append, args := #[s, x], argTypes := #[34, 34] })
    (base n g c : Nat) (v : Value) (l : List Int) (p : Int) (hs : a.eval s = v) (hown : ARow intS 3 w base v n l) (hx : a.eval x = .slice (some ⟨g, 0, none⟩) 1 c) (hg : w.heap[g]? = some (.cells #[.int .i64 p] 3 (0, 0))) (hn : n ≤ 1000000) (hbase : base ≤ w.heap.size)
    (h : ∀ v' w', ARow intS 3 w' base v' (n + 1) (l ++ [p]) → Below base w w' → wpList Try.prog ops Q rest (a.put o.dst v') w') : wpList Try.prog ops Q (o :: rest) a w :=
  wpList_append_arr (S := intS) 34 Try.underlying34 info_int rfl hgd s x ho g c p hs hown hx hg (by unfold maxLen; omega) (by omega) hbase fun v' w' h1 h2 _ => h v' w' h1 h2
theorem ARow.mono {α : Type} {S : Shape α} {t : TypeId} {w : World} {b b' n : Nat} {v : Value} {l : List α} (h : ARow S t w b v n l) (hb : b' ≤ b) : ARow S t w b' v n l := ownsRow_mono h hb
theorem free_none {t : Sb.L} (h : ¬ Sb.form t) (live : List Gm.R) : Gm.free t live = [] := if_neg h
set_option maxHeartbeats 2000000 in
theorem gmfree_any (a b c d : Int) (A : Option Addr) (lo B n cap : Nat) (live : List Gm.R) (w : World) (hB : B ≤ w.heap.size) (hn : Hid (live.length = n)) (hn2 : n ≤ 140737488355328) (hb : Hid (Arr regS w lo B A live)) :
    Calls Try.prog 30 #[.agg #[.int .i64 a, .int .i64 b, .int .i64 c, .int .i64 d], .slice A n cap] w (FreeIs w (Gm.free ⟨a, b, c, d⟩ live)) := by
  have CF := Lib.hid (fun W => sbform_any a b c d W)
  have CT : Hid (∀ (k : Int) W, Below w.heap.size w W → Calls Try.prog 45 #[.agg #[.int .i64 a, .int .i64 b, .int .i64 c, .int .i64 d], .int .i64 k, .slice A n cap] W fun r w' => r = .returned (.bool (Gm.taken ⟨a, b, c, d⟩ k live)) ∧ Below W.heap.size W w') := fun k W hW =>
    gmtaken_any a b c d k A lo B n cap live W (Nat.le_trans hB hW.size) hn hn2 (Lib.hid (hb.out.below hW hB))
  have HS0 := Lib.hid (sd_new w #[.int .i64 a, .int .i64 b, .int .i64 c, .int .i64 d] 23)
  clear hn hb
  unfold FreeIs
  by_cases hf : Sb.form ⟨a, b, c, d⟩
  · have h4 := Gm.form_nums hf
    simp only at h4
    obtain ⟨N, rfl⟩ := Int.eq_ofNat_of_zero_le (a := d) (by omega)
    have HE : Hid (Gm.freeTo ⟨a, b, c, (N : Int)⟩ live N = Gm.free ⟨a, b, c, (N : Int)⟩ live) := Gm.freeTo_free hf rfl
    rw [← HE.out]
    rw [decide_eq_true hf] at CF
    have hN : N ≤ 16 := by omega
    have HLE : Hid (∀ k, (Gm.freeTo ⟨a, b, c, (N : Int)⟩ live k).length ≤ k) := Gm.freeTo_length _ _
    have HZ : Hid (Gm.freeTo ⟨a, b, c, (N : Int)⟩ live 0 = []) := rfl
    have HX : Hid (∀ k : Nat, Gm.freeTo ⟨a, b, c, (N : Int)⟩ live (k + 1) = Gm.freeTo ⟨a, b, c, (N : Int)⟩ live k ++ (if Gm.taken ⟨a, b, c, (N : Int)⟩ (k : Int) live then [] else [k])) := Gm.freeTo_next _ _
    clear hf h4 HE
    generalize Gm.freeTo ⟨a, b, c, (N : Int)⟩ live = fr at *
    generalize (fun k : Int => Gm.taken ⟨a, b, c, (N : Int)⟩ k live) = tk at *
    go_enter Try.func30, Try.ntmps30
    go_upto_region 1 with fail
    generalize w.alloc (.cells #[.int .i64 a, .int .i64 b, .int .i64 c, .int .i64 (N : Int)] 23) = w0 at *
    obtain ⟨z0, z1, z2, z3⟩ := four_cells HS0.out.1
    go_wp2_with fail
    refine (CF.out _).mono ?_
    rintro r w1 ⟨rfl, hb1⟩
    have HS1 := Lib.hid (HS0.out.next hb1 (by rfl) (by rfl) (by rfl) (by rfl))
    clear hb1 z0 z1 z2 z3 HS0
    obtain ⟨z0, z1, z2, z3⟩ := four_cells HS1.out.1
    go_wp2_with fail
    go_loopw [5, 6, 12] (fun rv _ iv wr => ∃ k : Nat, k ≤ N ∧ iv = .int .i64 (k : Int) ∧ Hid (ARow intS 3 wr (w.heap.size + 1) rv (fr k).length (Gm.ints (fr k))) ∧ Hid (Sd w w.heap.size (.cells #[.int .i64 a, .int .i64 b, .int .i64 c, .int .i64 (N : Int)] 23 (0, 0)) wr)) (fun _ _ i _ => N - (Go.RowKit.intOf i).toNat)
    case atStart => exact ⟨0, Nat.zero_le _, rfl, by rw [HZ.out]; exact ARow.nil _ _, HS1.out⟩
    case round =>
      obtain ⟨k, hk, rfl, hrow, hsd⟩ := hrel
      by_cases hlt : k < N
      · have CK := Lib.hid (CT.out (k : Int) wr hsd.out.2)
        have HNK := Lib.hid (HX.out k)
        have HLK := Lib.hid (HLE.out k)
        generalize Gm.taken ⟨a, b, c, (N : Int)⟩ (k : Int) live = t at *
        obtain ⟨y0, y1, y2, y3⟩ := four_cells hsd.out.1
        cases t with
        | true =>
          go_wp2_with fail
          refine CK.out.mono ?_
          rintro r w2 ⟨rfl, hb2⟩
          have HS2 := Lib.hid (hsd.out.next hb2 (by rfl) (by rfl) (by rfl) (by rfl))
          have HR2 := Lib.hid (hrow.out.stays hb2)
          clear hb2
          go_wp2_with fail
          go_roundw
          case rel => exact ⟨k + 1, by omega, by go_num, by rw [HNK.out]; exact Lib.hid (by simpa using HR2.out), HS2.out⟩
          case measure => simp [Go.RowKit.intOf]; omega
        | false =>
          go_wp2_with fail
          refine CK.out.mono ?_
          rintro r w2 ⟨rfl, hb2⟩
          have HS2 := Lib.hid (hsd.out.next hb2 (by rfl) (by rfl) (by rfl) (by rfl))
          have HR2 := Lib.hid ((hrow.out.stays hb2).made (.cells #[.int .i64 (k : Int)] 3))
          have HB3 : Hid (Sd w w.heap.size _ (w2.alloc (.cells #[.int .i64 (k : Int)] 3))) := HS2.out.next ((Below.refl _ w2).alloc (Nat.le_refl _) _) rfl rfl rfl rfl
          have HG3 : Hid ((w2.alloc (.cells #[.int .i64 (k : Int)] 3)).heap[w2.heap.size]? = some (.cells #[.int .i64 (k : Int)] 3 (0, 0))) := heap_alloc_new _ _
          have hlk := HLK.out
          clear hb2
          go_wp2_with (at_builtin; refine wpList_append_int rfl (.tmp 20) (.tmp 22) rfl (w.heap.size + 1) _ w2.heap.size 1 _ _ (k : Int) rfl HR2.out rfl HG3.out (by omega) HB3.out.lt ?_; intro v4 w4 hr4 hb4)
          have HR4 := Lib.hid hr4
          have HS4 : Hid (Sd w w.heap.size _ w4) := ⟨block_next HB3.out.1 hb4 (Nat.lt_succ_self _), HB3.out.2.trans (hb4.mono (Nat.le_succ _))⟩
          clear hr4 hb4
          go_wp2_with fail
          go_roundw
          case rel => exact ⟨k + 1, by omega, by go_num, by rw [HNK.out]; exact Lib.hid (by simpa [Gm.ints] using HR4.out), HS4.out⟩
          case measure => simp [Go.RowKit.intOf]; omega
      · obtain rfl : k = N := by omega
        go_wp2_with fail
        go_ret
        exact ⟨_, rfl, hrow.out.mono (Nat.le_succ _), hsd.out.2⟩
  · rw [free_none hf, decide_eq_false hf] at *
    go_enter Try.func30, Try.ntmps30
    go_upto_region 1 with fail
    generalize w.alloc (.cells #[.int .i64 a, .int .i64 b, .int .i64 c, .int .i64 d] 23) = w0 at *
    obtain ⟨z0, z1, z2, z3⟩ := four_cells HS0.out.1
    go_wp2_with fail
    refine (CF.out _).mono ?_
    rintro r w1 ⟨rfl, hb1⟩
    have HS1 := Lib.hid (HS0.out.next hb1 (by rfl) (by rfl) (by rfl) (by rfl))
    go_wp2_with fail
    go_ret
    exact ⟨_, rfl, ARow.nil _ _, HS1.out.2⟩
end Go.Proofs.Ytmkilbogdenljaa
