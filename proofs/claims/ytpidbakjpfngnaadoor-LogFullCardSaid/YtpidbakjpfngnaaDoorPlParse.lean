/-
  The walks of plan.parse and of its closure.
-/
import Derived.Test.YtpidbakjpfngnaaDoorPlValid
import Derived.StillTailTactics
import Derived.Deep.RegionHeld3
set_option maxRecDepth 100000
namespace Go.Proofs.YtpidbakjpfngnaaDoor
open Go.RowKit
theorem plnext_any (w0 : World) (lo g gi : Nat) (l l' : List Nat) (ki : Int) (k N : Nat) (hki : ki = (k : Int)) (h1 : 1 ≤ k) (h6 : k ≤ 6) (hk : k ≤ l.length) (hN : Wire.num (l.take k) = N) (hl' : l.drop k = l') (w : World) (h : Hid (Ps w0 lo g gi false l w)) :
    Calls Tryd.prog 81 #[.int .i64 ki, .pointer (some ⟨gi, 0, none⟩)] w fun r w' => r = .returned (.int .i64 (N : Int)) ∧ Ps w0 lo g gi false l' w' ∧ w.grownBy w' (some g) := by
  have hlt := num6 l k h6 h.out.1.bytes
  have HC := Lib.hid (num_ok lo g l ki k hki h1 (by omega) hk w h.out.1)
  unfold GotNum at HC
  rw [hN] at HC hlt
  rw [hl'] at HC
  have hc := h.out.cell
  clear hki h1 h6 hk hN hl'
  go_enter Tryd.func81, Tryd.ntmps81
  go_wp2_with fail
  refine HC.out.mono ?_
  rintro r w1 ⟨rfl, hr1, hg1⟩
  have H1 := Lib.hid (h.out.next hr1 hg1)
  have G1 : Hid (w.grownBy w1 (some g)) := hg1
  clear hr1 hg1
  go_wp2
  go_ret
  exact ⟨rfl, H1.out, G1.out⟩
/-- While a plan record is read, and a block of its own that holds cs. -/
def Pk (w : World) (lo g gi : Nat) (l : List Nat) (gs : Nat) (cs : Array Value) (W : World) : Prop := Ps w lo g gi false l W ∧ W.heap[gs]? = some (.cells cs 34 (0, 0)) ∧ gi < gs
section
variable {w W W' : World} {lo g gi gs : Nat} {l l' : List Nat} {cs : Array Value}
theorem Pk.next (h : Pk w lo g gi l gs cs W) (hp : Ps w lo g gi false l' W') (hg : W.grownBy W' (some g)) : Pk w lo g gi l' gs cs W' :=
  ⟨hp, (hg.block gs (Array.getElem?_eq_some_iff.1 h.2.1).1 (fun e => by injection e with e; have := h.2.2; have := h.1.2.2.2.2; omega)).trans h.2.1, h.2.2⟩
theorem Ps.drawn {bad : Bool} (h : Ps w lo g gi bad l W) : Ps w lo g gi bad l W.drew := ⟨h.1, h.2.1, h.2.2.1.drew, h.2.2.2⟩
theorem Pk.ps (h : Pk w lo g gi l gs cs W) : Ps w lo g gi false l W := h.1
theorem Pk.cell (h : Pk w lo g gi l gs cs W) : W.cell? ⟨gi, 0, none⟩ = some (.pointer (some ⟨g, 0, none⟩)) := h.1.cell
theorem Pk.row (h : Pk w lo g gi l gs cs W) : W.heap[gs]? = some (.cells cs 34 (0, 0)) := h.2.1
theorem Pk.drew (h : Pk w lo g gi l gs cs W) : Pk w lo g gi l gs cs W.drew := ⟨h.1.drawn, h.2.1, h.2.2⟩
theorem Ps.laid (h : Ps w lo g gi false l W) (cs : Array Value) : Pk w lo g gi l W.heap.size cs (W.alloc (.cells cs 34)) :=
  ⟨h.alloc _, heap_alloc_new _ _, (Array.getElem?_eq_some_iff.1 h.2.1).1⟩
theorem Pk.stored {a b c d e f h j a' b' c' d' e' f' h' j' : Value} (k : Pk w lo g gi l gs #[a, b, c, d, e, f, h, j] W) : Pk w lo g gi l gs #[a', b', c', d', e', f', h', j'] ((((((((W.setCell ⟨gs, 0, none⟩ a').setCell ⟨gs, 1, none⟩ b').setCell ⟨gs, 2, none⟩ c').setCell ⟨gs, 3, none⟩ d').setCell ⟨gs, 4, none⟩ e').setCell ⟨gs, 5, none⟩ f').setCell ⟨gs, 6, none⟩ h').setCell ⟨gs, 7, none⟩ j') :=
  ⟨k.1.far (stored8_grown _ _ _ _ _ _ _ _ _ _) k.2.2, stored8 k.2.1, k.2.2⟩
end
set_option maxHeartbeats 8000000 in
theorem plparse_any (A : Option Addr) (B c : Nat) (p : List Nat) (w : World) (hB : B ≤ w.heap.size) (hs : SlIs A 59 c) (hl : p.length = 59) (hb : Bs w B A p) :
    Calls Tryd.prog 68 #[.slice A 59 c] w fun r w' => r = .returned (.tuple #[.agg #[.int .i64 (Pl.rd Pl.rl p).kind, .int .i64 (Pl.rd Pl.rl p).mig, .int .i64 (Pl.rd Pl.rl p).idx, .int .i64 (Pl.rd Pl.rl p).tail, .int .i64 (Pl.rd Pl.rl p).t.id, .int .i64 (Pl.rd Pl.rl p).t.ver, .int .i64 (Pl.rd Pl.rl p).t.rs, .int .i64 (Pl.rd Pl.rl p).t.reg], .bool (Pl.rest0 p)]) ∧ Below w.heap.size w w' := by
  have HRD : Hid (Pl.rd Pl.rl p = ⟨(Wire.num (p.take 1) : Int), (Wire.num ((p.drop 1).take 4) : Int), (Wire.num ((p.drop 5).take 1) : Int), (Wire.num ((p.drop 6).take 6) : Int), ⟨(Wire.num ((p.drop 12).take 4) : Int), (Wire.num ((p.drop 16).take 1) : Int), Sb.P (Wire.num ((p.drop 17).take 1)), (Wire.num ((p.drop 18).take 1) : Int)⟩⟩) := by
    show _ = _
    unfold Pl.rd Pl.rl
    rw [List.drop_drop, List.drop_drop, List.drop_drop]
  rw [HRD.out]
  clear HRD
  have L1 : Hid ((p.drop 1).length = 58) := by show _ = _; rw [List.length_drop]; omega
  have L5 : Hid ((p.drop 5).length = 54) := by show _ = _; rw [List.length_drop]; omega
  have L6 : Hid ((p.drop 6).length = 53) := by show _ = _; rw [List.length_drop]; omega
  have L12 : Hid ((p.drop 12).length = 47) := by show _ = _; rw [List.length_drop]; omega
  have L16 : Hid ((p.drop 16).length = 43) := by show _ = _; rw [List.length_drop]; omega
  have L17 : Hid ((p.drop 17).length = 42) := by show _ = _; rw [List.length_drop]; omega
  have L18 : Hid ((p.drop 18).length = 41) := by show _ = _; rw [List.length_drop]; omega
  have D5 : Hid ((p.drop 1).drop 4 = p.drop 5) := List.drop_drop ..
  have D6 : Hid ((p.drop 5).drop 1 = p.drop 6) := List.drop_drop ..
  have D12 : Hid ((p.drop 6).drop 6 = p.drop 12) := List.drop_drop ..
  have D16 : Hid ((p.drop 12).drop 4 = p.drop 16) := List.drop_drop ..
  have D17 : Hid ((p.drop 16).drop 1 = p.drop 17) := List.drop_drop ..
  have D18 : Hid ((p.drop 17).drop 1 = p.drop 18) := List.drop_drop ..
  have D19 : Hid ((p.drop 18).drop 1 = p.drop 19) := List.drop_drop ..
  have D1 : Hid (p.drop 1 = p.drop 1) := rfl
  have HZ0 : Hid (Pl.rest0 p = (p.drop 19).all (· == 0)) := rfl
  have hby : ∀ x ∈ p, x < 256 := hb.lt
  have hk6 := num1 (p.drop 17) (fun x hx => hby x (List.mem_of_mem_drop hx))
  generalize hn0 : Wire.num (p.take 1) = n0 at *
  generalize hn1 : Wire.num ((p.drop 1).take 4) = n1 at *
  generalize hn2 : Wire.num ((p.drop 5).take 1) = n2 at *
  generalize hn3 : Wire.num ((p.drop 6).take 6) = n3 at *
  generalize hn4 : Wire.num ((p.drop 12).take 4) = n4 at *
  generalize hn5 : Wire.num ((p.drop 16).take 1) = n5 at *
  generalize hn6 : Wire.num ((p.drop 17).take 1) = n6 at *
  generalize hn7 : Wire.num ((p.drop 18).take 1) = n7 at *
  rw [show Sb.P n6 = IntKind.i64.wrap (2 ^ min n6 64) by rw [IntKind.wrap_i64]; rfl]
  generalize he6 : IntKind.i64.wrap (2 ^ min n6 64) = e6 at *
  generalize hp1 : p.drop 1 = p1 at *
  generalize hp5 : p.drop 5 = p5 at *
  generalize hp6 : p.drop 6 = p6 at *
  generalize hp12 : p.drop 12 = p12 at *
  generalize hp16 : p.drop 16 = p16 at *
  generalize hp17 : p.drop 17 = p17 at *
  generalize hp18 : p.drop 18 = p18 at *
  generalize hp19 : p.drop 19 = p19 at *
  have N0 : Hid (∀ (w0 : World) lo g gi W, Ps w0 lo g gi false p W → Calls Tryd.prog 81 #[.int .i64 1, .pointer (some ⟨gi, 0, none⟩)] W fun r w' => r = .returned (.int .i64 (n0 : Int)) ∧ Ps w0 lo g gi false p1 w' ∧ W.grownBy w' (some g)) := fun w0 lo g gi W h => plnext_any w0 lo g gi p p1 1 1 n0 rfl (by decide) (by decide) (by omega) hn0 hp1 W h
  have N1 : Hid (∀ (w0 : World) lo g gi W, Ps w0 lo g gi false p1 W → Calls Tryd.prog 81 #[.int .i64 4, .pointer (some ⟨gi, 0, none⟩)] W fun r w' => r = .returned (.int .i64 (n1 : Int)) ∧ Ps w0 lo g gi false p5 w' ∧ W.grownBy w' (some g)) := fun w0 lo g gi W h => plnext_any w0 lo g gi p1 p5 4 4 n1 rfl (by decide) (by decide) (by have := L1.out; omega) hn1 D5.out W h
  have N2 : Hid (∀ (w0 : World) lo g gi W, Ps w0 lo g gi false p5 W → Calls Tryd.prog 81 #[.int .i64 1, .pointer (some ⟨gi, 0, none⟩)] W fun r w' => r = .returned (.int .i64 (n2 : Int)) ∧ Ps w0 lo g gi false p6 w' ∧ W.grownBy w' (some g)) := fun w0 lo g gi W h => plnext_any w0 lo g gi p5 p6 1 1 n2 rfl (by decide) (by decide) (by have := L5.out; omega) hn2 D6.out W h
  have N3 : Hid (∀ (w0 : World) lo g gi W, Ps w0 lo g gi false p6 W → Calls Tryd.prog 81 #[.int .i64 6, .pointer (some ⟨gi, 0, none⟩)] W fun r w' => r = .returned (.int .i64 (n3 : Int)) ∧ Ps w0 lo g gi false p12 w' ∧ W.grownBy w' (some g)) := fun w0 lo g gi W h => plnext_any w0 lo g gi p6 p12 6 6 n3 rfl (by decide) (by decide) (by have := L6.out; omega) hn3 D12.out W h
  have N4 : Hid (∀ (w0 : World) lo g gi W, Ps w0 lo g gi false p12 W → Calls Tryd.prog 81 #[.int .i64 4, .pointer (some ⟨gi, 0, none⟩)] W fun r w' => r = .returned (.int .i64 (n4 : Int)) ∧ Ps w0 lo g gi false p16 w' ∧ W.grownBy w' (some g)) := fun w0 lo g gi W h => plnext_any w0 lo g gi p12 p16 4 4 n4 rfl (by decide) (by decide) (by have := L12.out; omega) hn4 D16.out W h
  have N5 : Hid (∀ (w0 : World) lo g gi W, Ps w0 lo g gi false p16 W → Calls Tryd.prog 81 #[.int .i64 1, .pointer (some ⟨gi, 0, none⟩)] W fun r w' => r = .returned (.int .i64 (n5 : Int)) ∧ Ps w0 lo g gi false p17 w' ∧ W.grownBy w' (some g)) := fun w0 lo g gi W h => plnext_any w0 lo g gi p16 p17 1 1 n5 rfl (by decide) (by decide) (by have := L16.out; omega) hn5 D17.out W h
  have N6 : Hid (∀ (w0 : World) lo g gi W, Ps w0 lo g gi false p17 W → Calls Tryd.prog 81 #[.int .i64 1, .pointer (some ⟨gi, 0, none⟩)] W fun r w' => r = .returned (.int .i64 (n6 : Int)) ∧ Ps w0 lo g gi false p18 w' ∧ W.grownBy w' (some g)) := fun w0 lo g gi W h => plnext_any w0 lo g gi p17 p18 1 1 n6 rfl (by decide) (by decide) (by have := L17.out; omega) hn6 D18.out W h
  have N7 : Hid (∀ (w0 : World) lo g gi W, Ps w0 lo g gi false p18 W → Calls Tryd.prog 81 #[.int .i64 1, .pointer (some ⟨gi, 0, none⟩)] W fun r w' => r = .returned (.int .i64 (n7 : Int)) ∧ Ps w0 lo g gi false p19 w' ∧ W.grownBy w' (some g)) := fun w0 lo g gi W h => plnext_any w0 lo g gi p18 p19 1 1 n7 rfl (by decide) (by decide) (by have := L18.out; omega) hn7 D19.out W h
  rw [HZ0.out]
  have CZ : Hid (∀ (lo g : Nat) (W : World), Rdr W lo g false p19 → Calls Tryd.prog 83 #[.pointer (some ⟨g, 0, none⟩), .int .i64 (p19.length : Int)] W fun r w' => r = .returned (.tuple #[]) ∧ ∃ l', Rdr w' lo g (!p19.all (· == 0)) l' ∧ W.grownBy w' (some g)) := fun lo g W h => by
    refine (zeros_ok lo g p19 _ p19.length rfl (Nat.le_refl _) W h).mono ?_
    rintro r w' ⟨rfl, h1, h2⟩
    rw [List.take_length] at h1
    exact ⟨rfl, _, h1, h2⟩
  generalize p19.all (· == 0) = z at *
  have HNR : Hid (∀ o : Obj, Calls Tryd.prog 80 #[.slice A 59 c] (w.alloc o) (NewRd (w.alloc o) p)) := fun o =>
    newreader_any A B 59 c p _ hs.1 hl (by decide) (hb.below ((Below.refl _ w).alloc (Nat.le_refl _) o) hB)
  have HE6 : Hid (IntKind.i64.wrap (2 ^ min n6 64) = e6) := he6
  clear hs hl hb hby HZ0 he6 D1 hn0 hn1 hn2 hn3 hn4 hn5 hn6 hn7 hp1 hp5 hp6 hp12 hp16 hp17 hp18 hp19 L1 L5 L6 L12 L16 L17 L18 D5 D6 D12 D16 D17 D18 D19
  have hmf : ∀ (fn : Fn) (first cap : Array Value) (w : World), (Instr.makeFunc fn first cap).run Tryd.prog w = .ok (.func fn first cap) w := fun _ _ _ _ => rfl
  have HS0 := Lib.hid (sd_new w #[.int .i64 0, .int .i64 0, .int .i64 0, .int .i64 0, .int .i64 0, .int .i64 0, .int .i64 0, .int .i64 0] 34)
  go_enter Tryd.func68, Tryd.ntmps68
  go_wp2_with fail
  refine (HNR.out _).mono ?_
  rintro r w1 ⟨g, rfl, hr1, hb1⟩
  generalize w.alloc (.cells _ 34) = w0 at *
  have H0 := Lib.hid (ps_first hr1 hb1).drawn
  have H0a := Lib.hid ((ps_first hr1 hb1).laid #[.int .i64 0, .int .i64 0, .int .i64 0, .int .i64 0, .int .i64 0, .int .i64 0, .int .i64 0, .int .i64 0]).drew
  clear hr1 hb1
  go_upto_region 3 with fail
  generalize w1.alloc (.cells #[.pointer (some ⟨g, 0, none⟩)] 102) = w2 at *
  go_cut [6] (fun s6 wx => ∃ gs, s6 = .pointer (some ⟨gs, 0, none⟩) ∧ Hid (Pk w0 w0.heap.size g w1.heap.size p19 gs #[.int .i64 (n0 : Int), .int .i64 (n1 : Int), .int .i64 (n2 : Int), .int .i64 (n3 : Int), .int .i64 (n4 : Int), .int .i64 (n5 : Int), .int .i64 e6, .int .i64 (n7 : Int)] wx))
  case first =>
    have hc0 := H0.out.cell
    have hsv := HE6.out
    have hsh : (0 : Int) ≤ (n6 : Int) := by omega
    go_region_held3 (fun W => W.cell? ⟨w1.heap.size, 0, none⟩ = some (.pointer (some ⟨g, 0, none⟩)))
      (first
        | (have hh := Z8.out; with_reducible exact Z8.out.stored.cell)
        | (have hh := Z8.out; with_reducible exact Z8.out.cell)
        | (have hh := H8.out; with_reducible exact (H8.out.laid _).cell)
        | (have hh := H8.out; with_reducible exact H8.out.cell)
        | (have hh := Z7.out; with_reducible exact Z7.out.cell)
        | (have hh := H7.out; with_reducible exact (H7.out.laid _).cell)
        | (have hh := H7.out; with_reducible exact H7.out.cell)
        | (have hh := Z6.out; with_reducible exact Z6.out.cell)
        | (have hh := H6.out; with_reducible exact (H6.out.laid _).cell)
        | (have hh := H6.out; with_reducible exact H6.out.cell)
        | (have hh := Z5.out; with_reducible exact Z5.out.cell)
        | (have hh := H5.out; with_reducible exact (H5.out.laid _).cell)
        | (have hh := H5.out; with_reducible exact H5.out.cell)
        | (have hh := Z4.out; with_reducible exact Z4.out.cell)
        | (have hh := H4.out; with_reducible exact (H4.out.laid _).cell)
        | (have hh := H4.out; with_reducible exact H4.out.cell)
        | (have hh := Z3.out; with_reducible exact Z3.out.cell)
        | (have hh := H3.out; with_reducible exact (H3.out.laid _).cell)
        | (have hh := H3.out; with_reducible exact H3.out.cell)
        | (have hh := Z2.out; with_reducible exact Z2.out.cell)
        | (have hh := H2.out; with_reducible exact (H2.out.laid _).cell)
        | (have hh := H2.out; with_reducible exact H2.out.cell)
        | (have hh := Z1.out; with_reducible exact Z1.out.cell)
        | (have hh := H1.out; with_reducible exact (H1.out.laid _).cell)
        | (have hh := H1.out; with_reducible exact H1.out.cell)
        | (have hh := H0a.out; with_reducible exact H0a.out.cell)
        | (have hh := H0.out; with_reducible exact H0.out.cell))
      (first
        | (go_at_call 81; first
            | (have hh := Z7.out; with_reducible refine (N7.out _ _ _ _ _ hh.ps).mono ?_; rintro r v ⟨rfl, hp, hg⟩; have Z8 := Lib.hid (hh.next hp hg); obtain ⟨x0, x1, x2, x3, x4, x5, x6, x7⟩ := eight_cells Z8.out.row; obtain ⟨fz0, fz1, fz2, fz3, fz4, fz5, fz6, fz7⟩ := eight_frozen Z8.out.row; clear hp hg hh)
            | (have hh := H7.out.laid #[.int .i64 0, .int .i64 0, .int .i64 0, .int .i64 0, .int .i64 0, .int .i64 0, .int .i64 0, .int .i64 0]; with_reducible refine (N7.out _ _ _ _ _ hh.ps).mono ?_; rintro r v ⟨rfl, hp, hg⟩; have Z8 := Lib.hid (hh.next hp hg); obtain ⟨x0, x1, x2, x3, x4, x5, x6, x7⟩ := eight_cells Z8.out.row; obtain ⟨fz0, fz1, fz2, fz3, fz4, fz5, fz6, fz7⟩ := eight_frozen Z8.out.row; clear hp hg hh)
            | (have hh := H7.out; with_reducible refine (N7.out _ _ _ _ _ hh).mono ?_; rintro r v ⟨rfl, hp, hg⟩; have H8 := Lib.hid hp; clear hp hg hh)
            | (have hh := Z6.out; with_reducible refine (N6.out _ _ _ _ _ hh.ps).mono ?_; rintro r v ⟨rfl, hp, hg⟩; have Z7 := Lib.hid (hh.next hp hg); clear hp hg hh)
            | (have hh := H6.out.laid #[.int .i64 0, .int .i64 0, .int .i64 0, .int .i64 0, .int .i64 0, .int .i64 0, .int .i64 0, .int .i64 0]; with_reducible refine (N6.out _ _ _ _ _ hh.ps).mono ?_; rintro r v ⟨rfl, hp, hg⟩; have Z7 := Lib.hid (hh.next hp hg); clear hp hg hh)
            | (have hh := H6.out; with_reducible refine (N6.out _ _ _ _ _ hh).mono ?_; rintro r v ⟨rfl, hp, hg⟩; have H7 := Lib.hid hp; clear hp hg hh)
            | (have hh := Z5.out; with_reducible refine (N5.out _ _ _ _ _ hh.ps).mono ?_; rintro r v ⟨rfl, hp, hg⟩; have Z6 := Lib.hid (hh.next hp hg); clear hp hg hh)
            | (have hh := H5.out.laid #[.int .i64 0, .int .i64 0, .int .i64 0, .int .i64 0, .int .i64 0, .int .i64 0, .int .i64 0, .int .i64 0]; with_reducible refine (N5.out _ _ _ _ _ hh.ps).mono ?_; rintro r v ⟨rfl, hp, hg⟩; have Z6 := Lib.hid (hh.next hp hg); clear hp hg hh)
            | (have hh := H5.out; with_reducible refine (N5.out _ _ _ _ _ hh).mono ?_; rintro r v ⟨rfl, hp, hg⟩; have H6 := Lib.hid hp; clear hp hg hh)
            | (have hh := Z4.out; with_reducible refine (N4.out _ _ _ _ _ hh.ps).mono ?_; rintro r v ⟨rfl, hp, hg⟩; have Z5 := Lib.hid (hh.next hp hg); clear hp hg hh)
            | (have hh := H4.out.laid #[.int .i64 0, .int .i64 0, .int .i64 0, .int .i64 0, .int .i64 0, .int .i64 0, .int .i64 0, .int .i64 0]; with_reducible refine (N4.out _ _ _ _ _ hh.ps).mono ?_; rintro r v ⟨rfl, hp, hg⟩; have Z5 := Lib.hid (hh.next hp hg); clear hp hg hh)
            | (have hh := H4.out; with_reducible refine (N4.out _ _ _ _ _ hh).mono ?_; rintro r v ⟨rfl, hp, hg⟩; have H5 := Lib.hid hp; clear hp hg hh)
            | (have hh := Z3.out; with_reducible refine (N3.out _ _ _ _ _ hh.ps).mono ?_; rintro r v ⟨rfl, hp, hg⟩; have Z4 := Lib.hid (hh.next hp hg); clear hp hg hh)
            | (have hh := H3.out.laid #[.int .i64 0, .int .i64 0, .int .i64 0, .int .i64 0, .int .i64 0, .int .i64 0, .int .i64 0, .int .i64 0]; with_reducible refine (N3.out _ _ _ _ _ hh.ps).mono ?_; rintro r v ⟨rfl, hp, hg⟩; have Z4 := Lib.hid (hh.next hp hg); clear hp hg hh)
            | (have hh := H3.out; with_reducible refine (N3.out _ _ _ _ _ hh).mono ?_; rintro r v ⟨rfl, hp, hg⟩; have H4 := Lib.hid hp; clear hp hg hh)
            | (have hh := Z2.out; with_reducible refine (N2.out _ _ _ _ _ hh.ps).mono ?_; rintro r v ⟨rfl, hp, hg⟩; have Z3 := Lib.hid (hh.next hp hg); clear hp hg hh)
            | (have hh := H2.out.laid #[.int .i64 0, .int .i64 0, .int .i64 0, .int .i64 0, .int .i64 0, .int .i64 0, .int .i64 0, .int .i64 0]; with_reducible refine (N2.out _ _ _ _ _ hh.ps).mono ?_; rintro r v ⟨rfl, hp, hg⟩; have Z3 := Lib.hid (hh.next hp hg); clear hp hg hh)
            | (have hh := H2.out; with_reducible refine (N2.out _ _ _ _ _ hh).mono ?_; rintro r v ⟨rfl, hp, hg⟩; have H3 := Lib.hid hp; clear hp hg hh)
            | (have hh := Z1.out; with_reducible refine (N1.out _ _ _ _ _ hh.ps).mono ?_; rintro r v ⟨rfl, hp, hg⟩; have Z2 := Lib.hid (hh.next hp hg); clear hp hg hh)
            | (have hh := H1.out.laid #[.int .i64 0, .int .i64 0, .int .i64 0, .int .i64 0, .int .i64 0, .int .i64 0, .int .i64 0, .int .i64 0]; with_reducible refine (N1.out _ _ _ _ _ hh.ps).mono ?_; rintro r v ⟨rfl, hp, hg⟩; have Z2 := Lib.hid (hh.next hp hg); clear hp hg hh)
            | (have hh := H1.out; with_reducible refine (N1.out _ _ _ _ _ hh).mono ?_; rintro r v ⟨rfl, hp, hg⟩; have H2 := Lib.hid hp; clear hp hg hh)
            | (have hh := H0a.out; with_reducible refine (N0.out _ _ _ _ _ hh.ps).mono ?_; rintro r v ⟨rfl, hp, hg⟩; have Z1 := Lib.hid (hh.next hp hg); clear hp hg hh)
            | (have hh := H0.out; with_reducible refine (N0.out _ _ _ _ _ hh).mono ?_; rintro r v ⟨rfl, hp, hg⟩; have H1 := Lib.hid hp; clear hp hg hh)))
    all_goals
      go_wp2_with fail
      (try rw [HE6.out])
      go_meet
      first
        | (revert Z8; intro Z8; with_reducible exact ⟨_, rfl, Z8.out.stored⟩)
        | (revert H8; intro H8; with_reducible exact ⟨_, rfl, Lib.hid (H8.out.laid _)⟩)
        | (revert Z8; intro Z8; exact ⟨_, rfl, Z8.out.stored⟩)
        | (revert H8; intro H8; exact ⟨_, rfl, H8.out.laid _⟩)
  case rest =>
    obtain ⟨gs, rfl, HV⟩ := hcut
    clear N0 N1 N2 N3 N4 N5 N6 N7 H0 H0a HNR HE6 hk6
    have HGS : Hid (gs < wc.heap.size) := (Array.getElem?_eq_some_iff.1 HV.out.row).1
    have HGG : Hid (g < w1.heap.size ∧ w1.heap.size < gs ∧ w0.heap.size ≤ g) := ⟨HV.out.1.2.2.2.2, HV.out.2.2, HV.out.1.2.2.2.1⟩
    generalize wc = w9 at *
    generalize w1.heap.size = gi at *
    have hc9 := HV.out.cell
    go_upto_region 4 with fail
    refine wp_region_still_tail 3 (by kernel_rfl) (by kernel_rfl) ?_
    simp only [List.take_succ_cons, List.take_zero, List.drop_succ_cons, List.drop_zero]
    iterate 2 still_step
    still_call ((rest_any w0.heap.size g false p19 w9.drew HV.out.1.1).mono fun _ _ h => ⟨h.1, h.2.symm⟩)
    refine wpStill_nil ?_
    change wpList _ _ _ _ _ w9.drew
    have HVd := Lib.hid HV.out.drew
    have HGSd : Hid (gs < w9.drew.heap.size) := HGS.out
    clear hc9 HV HGS
    generalize w9.drew = wd at *
    have hc9 := HVd.out.cell
    go_wp2_with fail
    refine (CZ.out w0.heap.size g _ HVd.out.1.1).mono ?_
    rintro r w10 ⟨rfl, l', hr10, hg10⟩
    have HG10 : Hid (wd.grownBy w10 (some g)) := ⟨hg10.os, hg10.tape, hg10.output, hg10.size, hg10.block⟩
    have H10 : Hid (Ps w0 w0.heap.size g gi (!z) l' w10) := Ps.next (W := wd) HVd.out.1 hr10 HG10.out
    clear hr10 hg10
    have HN10 : Hid (w10.heap[gs]? = some (.cells #[.int .i64 (n0 : Int), .int .i64 (n1 : Int), .int .i64 (n2 : Int), .int .i64 (n3 : Int), .int .i64 (n4 : Int), .int .i64 (n5 : Int), .int .i64 e6, .int .i64 (n7 : Int)] 34 (0, 0))) := (HG10.out.block _ HGSd.out (fun e => by injection e with e; have := HGG.out; omega)).trans HVd.out.row
    have HLW : Hid (w.heap.size < w0.heap.size) := HS0.out.lt
    have HR10 : Hid (w10.heap[w.heap.size]? = some (.cells #[.int .i64 0, .int .i64 0, .int .i64 0, .int .i64 0, .int .i64 0, .int .i64 0, .int .i64 0, .int .i64 0] 34 (0, 0))) := (H10.out.2.2.1.block _ HLW.out).trans HS0.out.1
    have HBW : Hid (Below w.heap.size w w10) := HS0.out.2.trans (H10.out.2.2.1.mono HS0.out.2.size)
    have HOK : Hid (∀ W, Rdr W w0.heap.size g (!z) l' → Calls Tryd.prog 85 #[.pointer (some ⟨g, 0, none⟩)] W fun r w' => r = .returned (.bool z) ∧ W = w') := fun W h => by
      have h2 := ok_any w0.heap.size g (!z) l' W h
      rwa [Bool.not_not] at h2
    have hc10 := H10.out.cell
    obtain ⟨y0, y1, y2, y3, y4, y5, y6, y7⟩ := eight_cells HN10.out
    go_wp2_with fail
    refine wp_region_still_tail 3 (by kernel_rfl) (by kernel_rfl) ?_
    simp only [List.take_succ_cons, List.take_zero, List.drop_succ_cons, List.drop_zero]
    iterate 2 still_step
    still_call ((HOK.out w10.drew H10.out.1).mono fun _ _ h => ⟨h.1, h.2.symm⟩)
    refine wpStill_nil ?_
    change wpList _ _ _ _ _ w10.drew
    have HRd : Hid (w10.drew.heap[w.heap.size]? = some (.cells #[.int .i64 0, .int .i64 0, .int .i64 0, .int .i64 0, .int .i64 0, .int .i64 0, .int .i64 0, .int .i64 0] 34 (0, 0))) := HR10.out
    have HBd : Hid (Below w.heap.size w w10.drew) := HBW.out.drew
    clear hc10 y0 y1 y2 y3 y4 y5 y6 y7 HR10 HBW HN10 H10 HOK
    generalize w10.drew = wz at *
    obtain ⟨f0, f1, f2, f3, f4, f5, f6, f7⟩ := eight_frozen HRd.out
    obtain ⟨y0, y1, y2, y3, y4, y5, y6, y7⟩ := eight_cells HRd.out
    go_wp2_with fail
    (try simp only [Exit.inBlock, Exit.then])
    refine bodyPost_ret (results_row2 rfl _ _ w.heap.size _ _ (0, 0) _ rfl (stored8 HRd.out) Tryd.underlying34 rfl (by kernel_rfl)) rfl ?_
    exact ⟨rfl, HBd.out.trans (below_of_grown (stored8_grown _ _ _ _ _ _ _ _ _ _) (Nat.le_refl _) HBd.out.size)⟩
end Go.Proofs.YtpidbakjpfngnaaDoor
