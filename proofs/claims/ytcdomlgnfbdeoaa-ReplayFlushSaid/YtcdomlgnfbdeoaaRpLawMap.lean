/-
  The walk of the law ReplayMap.
-/
import Derived.Test.YtcdomlgnfbdeoaaRpMap
import Derived.Test.YtcdomlgnfbdeoaaRpAwake
import Derived.Test.YtcdomlgnfbdeoaaRpShortW
set_option maxRecDepth 100000
namespace Go.Proofs.Ytcdomlgnfbdeoaa
open Go.RowKit
/-- What the laws know of what Short gives: the first list, and the second one, read. -/
theorem ShSt.both {N : Nat} {w : World} {av bv : Value} {l : List Bt} (h : ShSt N w av bv l l l) (hN : N ≤ w.heap.size) :
    (∀ b ∈ l, b.fds.length ≤ 8) ∧ (∀ b ∈ l, ∀ f ∈ b.fds, f.rd.n1 ≤ 10) ∧ (∃ A c, av = .slice A l.length c ∧ SlIs A l.length c ∧ BtsAt w w.heap.size A l) ∧ ∃ A c, bv = .slice A l.length c ∧ SlIs A l.length c ∧ BtsAt w w.heap.size A l := by
  refine ⟨fun b hb => ?_, fun b hb f hf => ((h.inn b hb).2.2 f hf).2, h.readA hN, h.readB hN⟩
  have h1 := (h.inn b hb).2.1
  have h2 : b.fds.length = b.n := ARow.length (S := fdS) (h.inn b hb).1.1
  omega
/-- Two lists of pairs that are the same. -/
theorem prs_eq {W : World} {L : List Tb.Pr} {A A' : Option Addr} {c c' lo lo' B B' : Nat} (hL : L.length ≤ 1000) (s1 : SlIs A L.length c) (s2 : SlIs A' L.length c') (a1 : A = none ∨ ∃ g, A = some ⟨g, 0, none⟩) (a2 : A' = none ∨ ∃ g, A' = some ⟨g, 0, none⟩) (r1 : Arr prS W lo B A L) (r2 : Arr prS W lo' B' A' L) :
    Calls Try.prog 9 #[.slice A L.length c, .slice A' L.length c'] W fun e w' => e = .returned (.bool true) ∧ Below W.heap.size W w' :=
  refpairs_any A A' L.length c c' lo B lo' B' L W s1 s2 rfl a1 a2 (Lib.hid r1) (Lib.hid r2) hL
set_option maxHeartbeats 4000000 in
theorem replaymap_any (now : Int) (A : Option Addr) (n cap : Nat) (l : List Bt) (w : World) (hs : SlIs A n cap) (hn : Hid (l.length = n)) (hb : Hid (BtsAt w w.heap.size A l)) :
    Calls Try.prog 3 #[.slice A n cap, .int .i64 now] w fun e w' => e = .returned (.bool true) ∧ Below w.heap.size w w' := by
  have CS := Lib.hid (short22_any A n cap l w hs hn hb)
  have CA := Lib.hid (fun W => rpawake_any W)
  clear hn hb
  go_enter Try.func3, Try.ntmps3
  go_wp2_with fail
  refine CS.out.mono ?_
  rintro e w1 ⟨av, bv, l', rfl, hst, hl5, hb1⟩
  have HB1 := Lib.hid hb1
  obtain ⟨hf8, hk10, ⟨A1, c1, rfl, hs1, ha1⟩, ⟨A2, c2, rfl, hs2, ha2⟩⟩ := hst.both hb1.size
  have HF8 := Lib.hid hf8
  have HK10 := Lib.hid hk10
  have HA1 := Lib.hid ha1
  have HA2 := Lib.hid ha2
  have HSL := Lib.hid hs1
  obtain ⟨m, hm⟩ : ∃ m, l'.length = m := ⟨_, rfl⟩
  rw [hm] at hl5 HSL ⊢
  have HM := Lib.hid hm
  clear hb1 hst hf8 hk10 hs1 ha1 hs2 ha2 hm CS
  go_wp2_with fail
  refine (CA.out _).mono ?_
  rintro e w2 ⟨rfl, hb2⟩
  have HB2 := Lib.hid hb2
  clear hb2
  go_wp2_with fail
  refine (rpmap_any A1 w1.heap.size m c1 l' now w2 HSL.out HB2.out.size HM (by omega) HF8 HK10 (Lib.hid (HA1.out.below HB2.out (Nat.le_refl _)))).mono ?_
  rintro e w3 ⟨L, hI, hL, A3, c3, rfl, hs3, hn3, ha3, hb3⟩
  have HB3 : Hid (Below w1.heap.size w1 w3) := HB2.out.trans (hb3.mono HB2.out.size)
  have HI := Lib.hid hI
  have HA3 := Lib.hid ha3
  have HN3 := Lib.hid hn3
  have HS3 := Lib.hid hs3
  clear hI ha3 hn3 hs3 hb3
  go_wp2_with fail
  refine (refmap_any A2 w1.heap.size m c2 l' now w3 HB3.out.size HM (by omega) HF8 (Lib.hid (HA2.out.below HB3.out (Nat.le_refl _)))).mono ?_
  rintro e w4 ⟨L2, hI2, -, A4, c4, rfl, hs4, hn4, ha4, hb4⟩
  obtain rfl : L2 = L := hI2.one HI.out
  have HB4 : Hid (Below w1.heap.size w1 w4) := HB3.out.trans (hb4.mono HB3.out.size)
  have HE := Lib.hid (prs_eq hL HS3.out hs4 HN3.out hn4 (HA3.out.below hb4 (Nat.le_refl _)) ha4)
  clear hI2 hs4 hn4 ha4 hb4
  go_wp2_with fail
  refine HE.out.mono ?_
  rintro e w5 ⟨rfl, hb5⟩
  have HB5 : Hid (Below w1.heap.size w1 w5) := HB4.out.trans (hb5.mono HB4.out.size)
  go_wp2_with fail
  go_ret
  exact ⟨rfl, HB1.out.trans (HB5.out.mono HB1.out.size)⟩
end Go.Proofs.Ytcdomlgnfbdeoaa
