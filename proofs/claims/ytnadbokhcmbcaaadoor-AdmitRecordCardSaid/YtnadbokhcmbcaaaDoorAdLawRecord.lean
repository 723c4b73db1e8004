/-
  The walk of the law AdmitRecord.
-/
import Derived.Test.YtnadbokhcmbcaaaDoorAdLaws
import Derived.Test.YtnadbokhcmbcaaaDoorPkPut
set_option maxRecDepth 100000
namespace Go.Proofs.YtnadbokhcmbcaaaDoor
open Go.RowKit
namespace Ad
open Sb
theorem sum_exp {now ttl : Int} (h : ttl ≤ 1099511627775) : sum now ttl = exp now ttl := by
  unfold sum exp
  split <;> omega
theorem put_err {l : L} (h : form l) {now ttl : Int} (h1 : 0 ≤ now) (h2 : now ≤ 549755813888) (h3 : 0 ≤ ttl) (h4 : ttl ≤ 1099511627775) (key val : List Nat) {n m : Nat} (hn : key.length = n) (hm : val.length = m) :
    Pk.err l [] ⟨1, key, val, exp now ttl⟩ = err l now ttl n m := by
  rw [err_chk h h1 h2 h3, sum_exp h4]
  unfold Pk.err Rc.check Rc.len
  have hc := (Pk.cap_eq h).1
  simp only [List.length_nil, hn, hm]
  rw [hc]
  have e : (Pk.cap l < 0 + (16 + n + m)) ↔ ((Pk.cap l : Int) < ((16 + n + m : Nat) : Int)) := by omega
  simp only [e]
theorem ok_first {l : L} (h : form l) : Pk.ok l 0 1 := ⟨⟨h, by omega, by have := (Gm.form_nums h).2.2; omega⟩, by omega, by omega⟩
end Ad
theorem ad_guard (f : Prop) [Decidable f] (now ttl : Int) : decide f = false ∨ (decide f = true ∧ decide (now < 0) = true) ∨ (decide f = true ∧ decide (now < 0) = false ∧ decide (549755813888 < now) = true) ∨ (decide f = true ∧ decide (now < 0) = false ∧ decide (549755813888 < now) = false ∧ decide (ttl < 0) = true) ∨ (decide f = true ∧ decide (now < 0) = false ∧ decide (549755813888 < now) = false ∧ decide (ttl < 0) = false ∧ decide (1099511627775 < ttl) = true) ∨ (decide f = true ∧ decide (now < 0) = false ∧ decide (549755813888 < now) = false ∧ decide (ttl < 0) = false ∧ decide (1099511627775 < ttl) = false) := by
  by_cases h : f
  · simp only [h, decide_true, decide_eq_true_eq, decide_eq_false_iff_not, true_and, Bool.true_eq_false, false_or]
    omega
  · exact .inl (decide_eq_false h)
theorem adput_any (kd x y : Int) (key val : List Nat) (A1 A2 : Option Addr) (B n1 c1 n2 c2 : Nat) {w : World} {S : Nat → Prop} {g : Nat} {a b c d slot seq : Int} {st : List Nat} {k : Nat} (hB : B ≤ w.heap.size) (hi : Hid (RecIn w B A1 A2 n1 c1 n2 c2 key val)) (hp : Hid (PkIs 48 w S g a b c d slot seq st k)) (hf : Pk.Fit ⟨a, b, c, d⟩ slot seq st k) (ht : Hid (TabW w)) (hz : 0 < w.heap.size) (hy : Pk.err ⟨a, b, c, d⟩ st ⟨kd, key, val, x⟩ = y) :
    Calls Tryd.prog 8 #[.pointer (some ⟨g, 0, none⟩), .agg #[.int .i64 kd, .slice A1 n1 c1, .slice A2 n2 c2, .int .i64 x]] w fun e w' => (∃ u v : Int, e = .returned (.tuple #[.int .i64 u, .int .i64 v, .int .i64 y])) ∧ Kept S w w' :=
  (pkput_any kd x key val A1 A2 B n1 c1 n2 c2 hB hi hp hf ht hz).mono fun e w' h => ⟨⟨_, _, by subst hy; exact h.1⟩, h.2.2⟩
set_option maxHeartbeats 4000000 in
theorem admitrecord_any (a b c d now ttl : Int) (A : Option Addr) (n p : Nat) (key0 : List Nat) (A' : Option Addr) (n' p' : Nat) (val0 : List Nat) (w : World) (hs : SlIs A n p) (hs' : SlIs A' n' p') (hk : Hid (key0.length = n ∧ Bs w w.heap.size A key0)) (hl : Hid (val0.length = n' ∧ Bs w w.heap.size A' val0)) (ht : Hid (TabW w)) (hz : 0 < w.heap.size) :
    Calls Tryd.prog 3 #[.agg #[.int .i64 a, .int .i64 b, .int .i64 c, .int .i64 d, .int .i64 now, .int .i64 ttl, .slice A n p, .slice A' n' p']] w fun e w' => e = .returned (.bool true) ∧ Below w.heap.size w w' := by
  obtain ⟨-, b1, b2⟩ := id hs
  obtain ⟨-, b3, b4⟩ := id hs'
  obtain ⟨m, h1⟩ := min_is n 260
  obtain ⟨m', h2⟩ := min_is n' 2000
  have hm : m ≤ 260 := by unfold MinIs at h1; omega
  have hm' : m' ≤ 2000 := by unfold MinIs at h2; omega
  have CF := Lib.hid (fun W => refsbform_any a b c d W)
  have CC := Lib.hid (fun W => adcheck_any a b c d now ttl A m p A' m' p' W (by omega) (by omega))
  have CA := Lib.hid (fun W => adawake_any W)
  have HS0 := Lib.hid (sd_new w #[.int .i64 a, .int .i64 b, .int .i64 c, .int .i64 d, .int .i64 now, .int .i64 ttl, .slice A m p, .slice A' m' p'] 26)
  obtain ⟨hk1, hk2⟩ := min_bs hk.out.1 hk.out.2 h1
  obtain ⟨hl1, hl2⟩ := min_bs hl.out.1 hl.out.2 h2
  have HRI : Hid (RecIn w w.heap.size A A' m p m' p' (key0.take m) (val0.take m')) := ⟨⟨min_sl hs h1, hk1, hk2⟩, ⟨min_sl hs' h2, hl1, hl2⟩⟩
  generalize key0.take m = key at *
  generalize val0.take m' = val at *
  have HL := Lib.hid (And.intro hk1 hl1)
  clear hk hl hk1 hk2 hl1 hl2 hs hs'
  have HM := Lib.hid (And.intro hm hm')
  clear hm hm'
  obtain ⟨x, hx⟩ : ∃ x, Ad.due ⟨a, b, c, d⟩ now ttl m m' = x := ⟨_, rfl⟩
  obtain ⟨y, hy⟩ : ∃ y, Ad.err ⟨a, b, c, d⟩ now ttl m m' = y := ⟨_, rfl⟩
  rw [hx, hy] at CC
  have HX := Lib.hid (And.intro hx hy)
  clear hx hy
  go_enter Tryd.func3, Tryd.ntmps3
  go_upto_region 1 with fail
  go_cut [2] (fun v wx => v = .bool false ∧ Hid (Sd w w.heap.size (.cells #[.int .i64 a, .int .i64 b, .int .i64 c, .int .i64 d, .int .i64 now, .int .i64 ttl, .slice A m p, .slice A' m' p'] 26 (0, 0)) wx))
  case first =>
    clear CF CC CA HRI HL HM HX
    rcases h1 with ⟨i1, rfl⟩ | ⟨i1, rfl⟩
    all_goals
      rcases h2 with ⟨i2, rfl⟩ | ⟨i2, rfl⟩
    all_goals
      go_region
      go_wp2
      go_meet
      exact ⟨rfl, Lib.hid (sd_drew HS0.out)⟩
  case rest =>
    obtain ⟨rfl, HS1⟩ := hcut
    clear HS0 h1 h2 b1 b2 b3 b4
    generalize wc = w1 at *
    rcases ad_guard (Sb.form ⟨a, b, c, d⟩) now ttl with g0 | ⟨g0, g1⟩ | ⟨g0, g1, g2⟩ | ⟨g0, g1, g2, g3⟩ | ⟨g0, g1, g2, g3, g4⟩ | ⟨g0, g1, g2, g3, g4⟩
    iterate 5
      · rw [g0] at CF
        clear g0 CC HX HRI HL HM
        obtain ⟨z0, z1, z2, z3, z4, z5, z6, z7⟩ := rq8 HS1.out
        go_wp2_with fail
        refine (CF.out _).mono ?_
        rintro e w2 ⟨rfl, hb2⟩
        have HS2 := Lib.hid (HS1.out.next hb2 (by rfl) (by rfl) (by rfl) (by rfl))
        clear hb2 z0 z1 z2 z3 z4 z5 z6 z7 HS1
        obtain ⟨z0, z1, z2, z3, z4, z5, z6, z7⟩ := rq8 HS2.out
        go_wp2_with fail
        refine (CA.out _).mono ?_
        rintro e w3 ⟨rfl, hb3⟩
        have HS3 := Lib.hid (HS2.out.next hb3 (by rfl) (by rfl) (by rfl) (by rfl))
        clear hb3 HS2
        go_wp2
        go_ret
        exact ⟨rfl, HS3.out.2⟩
    · have hf := of_decide_eq_true g0
      have hn1 : 0 ≤ now := by simp only [decide_eq_false_iff_not] at g1; omega
      have hn2 : now ≤ 549755813888 := by simp only [decide_eq_false_iff_not] at g2; omega
      have hn3 : 0 ≤ ttl := by simp only [decide_eq_false_iff_not] at g3; omega
      have hn4 : ttl ≤ 1099511627775 := by simp only [decide_eq_false_iff_not] at g4; omega
      have hE0 := (Ad.put_err hf hn1 hn2 hn3 hn4 key val HL.out.1 HL.out.2).trans HX.out.2
      have hx0 : x = if y = 0 then Ad.exp now ttl else 0 := by rw [← HX.out.1, ← HX.out.2]; rfl
      have hE2 : (decide (0 < ttl) = true ∧ wrap64 (now + ttl) = Ad.exp now ttl) ∨ (decide (0 < ttl) = false ∧ Ad.exp now ttl = 0) := by
        unfold Ad.exp
        by_cases h : ttl = 0
        · exact .inr ⟨by simp; omega, if_pos h⟩
        · exact .inl ⟨by simp; omega, by rw [if_neg h]; unfold wrap64; omega⟩
      have HFIT : Hid (Pk.Fit ⟨a, b, c, d⟩ 0 1 [] 0) := Pk.Fit.start (Ad.ok_first hf)
      have HOK := Lib.hid (Ad.ok_first hf)
      have CN := Lib.hid (fun W => pknew_any a b c d 0 1 W)
      unfold PkNew at CN
      rw [Pk.may_zero (Ad.ok_first hf)] at CN
      rw [g0] at CF
      generalize Ad.exp now ttl = E at *
      have hxy : (y = 0 ∧ x = E) ∨ ((y == 0) = false ∧ (y != 0) = true) := by
        by_cases h : y = 0
        · exact .inl ⟨h, by rw [hx0, if_pos h]⟩
        · exact .inr ⟨by simpa using h, by simpa using h⟩
      have HE := Lib.hid hE0
      clear g0 hf hn1 hn2 hn3 hn4 hE0 hx0 HX HL HM
      rcases hE2 with ⟨hT, hE2⟩ | ⟨hT, rfl⟩
      all_goals
        rcases hxy with ⟨rfl, rfl⟩ | ⟨hy1, hy2⟩
      all_goals
        obtain ⟨z0, z1, z2, z3, z4, z5, z6, z7⟩ := rq8 HS1.out
        go_wp2_with fail
        refine (CF.out _).mono ?_
        rintro e w2 ⟨rfl, hb2⟩
        have HS2 := Lib.hid (HS1.out.next hb2 (by rfl) (by rfl) (by rfl) (by rfl))
        clear hb2 z0 z1 z2 z3 z4 z5 z6 z7 HS1
        obtain ⟨z0, z1, z2, z3, z4, z5, z6, z7⟩ := rq8 HS2.out
        go_wp2_with fail
        refine (CC.out _).mono ?_
        rintro e w3 ⟨rfl, hb3⟩
        have HS3 := Lib.hid (HS2.out.next hb3 (by rfl) (by rfl) (by rfl) (by rfl))
        clear hb3 z0 z1 z2 z3 z4 z5 z6 z7 HS2
        obtain ⟨z0, z1, z2, z3, z4, z5, z6, z7⟩ := rq8 HS3.out
        go_wp2_with fail
        refine (CN.out _).mono ?_
        rintro e w4 ⟨pv, rfl, hb4, -, hok⟩
        obtain ⟨g, rfl, hg, hp4⟩ := hok HOK.out
        have HS4 := Lib.hid (HS3.out.next hb4 (by rfl) (by rfl) (by rfl) (by rfl))
        have HQ4 := Lib.hid (HS3.out.2.size)
        have CP := Lib.hid (adput_any 1 _ _ key val A A' w.heap.size _ p _ p' HS4.out.2.size (Lib.hid (HRI.out.below HS4.out.2 (Nat.le_refl _))) (Lib.hid hp4) HFIT.out (Lib.hid (ht.out.below HS4.out.2 hz)) (Nat.lt_of_lt_of_le hz HS4.out.2.size) HE.out)
        clear hb4 hok hp4 hg z0 z1 z2 z3 z4 z5 z6 z7 HS3
        obtain ⟨z0, z1, z2, z3, z4, z5, z6, z7⟩ := rq8 HS4.out
        go_wp2_with fail
        refine CP.out.mono ?_
        rintro e w5 ⟨⟨u, v, rfl⟩, hk5⟩
        have HB5 : Hid (Below w.heap.size w w5) := HS4.out.2.trans ((hk5.mono fun k _ h => Nat.le_trans HQ4.out h).below HS4.out.2.size fun _ h => h)
        clear hk5 CP HS4 z0 z1 z2 z3 z4 z5 z6 z7
        go_wp2_with fail
        refine (CA.out _).mono ?_
        rintro e w6 ⟨rfl, hb6⟩
        have HB6 : Hid (Below w.heap.size w w6) := HB5.out.trans (hb6.mono HB5.out.size)
        clear hb6 HB5
        go_wp2
        go_ret
        exact ⟨rfl, HB6.out⟩
end Go.Proofs.YtnadbokhcmbcaaaDoor
