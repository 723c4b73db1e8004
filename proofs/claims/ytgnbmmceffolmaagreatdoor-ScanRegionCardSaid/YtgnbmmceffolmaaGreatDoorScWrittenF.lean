/-
  The function of the laws of layer 15 that writes a region by the reference.
-/
import Derived.Test.YtgnbmmceffolmaaGreatDoorFoldQ
import Derived.Test.YtgnbmmceffolmaaGreatDoorFoldN
import Derived.Test.YtgnbmmceffolmaaGreatDoorFoldI
import Derived.Laws.OwnMore
import Derived.Deep.DeepCutAuto
import Derived.Deep.CutBlock
set_option maxRecDepth 100000
namespace Go.Proofs.YtgnbmmceffolmaaGreatDoor
open Go.RowKit
theorem results_row121 {P : Program} {fn : Func} {p u v : Tmp} {ty : TypeId} (h : fn.results = #[.tmp u, .cell p ty, .tmp v]) (tmps : Array Value) (w : World) (g : Nat) (t : TypeId) (cs : Array Value) (fr : Nat × Nat) (d : TypeDesc)
    (hp : tmps.getD p undef = .pointer (some ⟨g, 0, none⟩)) (hg : w.heap[g]? = some (.cells cs t fr))
    (hu : P.underlying ty = some d) (hd : (match d with | .struct _ | .array _ _ => true | _ => false) = true) (hi : (P.info? ty).map (·.size) = some cs.size) :
    (results fn tmps).run P w = .ok (.tuple #[tmps.getD u undef, .agg cs, tmps.getD v undef]) w := by
  have hp' : tmps[p]?.getD undef = .pointer (some ⟨g, 0, none⟩) := by simpa using hp
  simp [results, h, hp', asAddr, run_loadVar_row w g t ty cs fr d hg hu hd hi, Result.andThen]
theorem row_cells {w : World} {g : Nat} {xs ys : List Value} {t : TypeId} (h : w.heap[g]? = some (.cells (xs ++ ys).toArray t (0, 0))) : ∀ j u, xs[j]? = some u → w.cell? ((⟨g, 0, none⟩ : Addr).add j) = some u := fun j u hu => by
  rw [arr_flat, Nat.zero_add, cell_of_row _ _ j _ _ _ h, List.getElem?_toArray, List.getElem?_append_left (List.getElem?_eq_some_iff.1 hu).1]; exact hu
/-- The reference's region that is being written, the boxes of the layout and of the result. -/
structure ScH (W wr : World) (c : Nat → Nat) (r gd od vd td n lo : Nat) (ver : Int) (rs gp ql qr : Nat) (f : Flash) (st : List Nat) (q : Nat) : Prop where
  g : StH W wr c r gd od vd td n lo f 3 ver (rs : Int) 4 ver 1 3 9 2 0 gp st (Pk.full st)
  h : Sc.Holds ⟨3, ver, (rs : Int), 4⟩ 1 9 (Hd.enc (Gm.spot ⟨3, ver, (rs : Int), 4⟩ 1) ⟨ver, 1, 3, 9, 2, 0⟩) st q n f
  w : f.wr = 1 + Pk.full st
  ok : FlashOk n f
  lay : Free c wr ql (.cells #[.int .i64 3, .int .i64 ver, .int .i64 (rs : Int), .int .i64 4] 29 (0, 0))
  res : Free c wr qr (.cells #[.int .i64 0, .int .i64 0, .int .i64 0, .int .i64 0] 29 (0, 0))
section
variable {W : World} {wr wr' : World} {c c' : Nat → Nat} {r gd od vd td n lo lo' : Nat} {ver : Int} {rs gp ql qr : Nat} {f f' : Flash} {st st' : List Nat} {q q' : Nat}
theorem ScH.fit (h : ScH W wr c r gd od vd td n lo ver rs gp ql qr f st q) : Pk.Fit ⟨3, ver, (rs : Int), 4⟩ 1 9 st (Pk.full st) := h.h.fit
theorem ScH.few (h : ScH W wr c r gd od vd td n lo ver rs gp ql qr f st q) : f.wr < 4000000000000000000 := by
  have h1 := h.w
  have h2 := Pk.full_le h.fit
  omega
theorem ScH.new (h : ScH W wr c r gd od vd td n lo ver rs gp ql qr f st q) (hb : Below wr.heap.size wr wr') : ScH W wr' c r gd od vd td n lo ver rs gp ql qr f st q :=
  { g := h.g.new hb, h := h.h, w := h.w, ok := h.ok, lay := h.lay.new hb, res := h.res.new hb }
theorem ScH.put (h : ScH W wr c r gd od vd td n lo ver rs gp ql qr f st q) (rc : Rc.Rec) (h1 : ∀ x ∈ rc.key, x < 256) (h2 : ∀ x ∈ rc.val, x < 256) (hk : Went c c' wr wr') (hg : StH W wr' c' r gd od vd td n lo' (Rg.after ⟨3, ver, (rs : Int), 4⟩ 1 9 f n st (Pk.put ⟨3, ver, (rs : Int), 4⟩ 9 st rc)).1 3 ver (rs : Int) 4 ver 1 3 9 2 0 gp (Pk.put ⟨3, ver, (rs : Int), 4⟩ 9 st rc) (Pk.full (Pk.put ⟨3, ver, (rs : Int), 4⟩ 9 st rc))) :
    ScH W wr' c' r gd od vd td n lo' ver rs gp ql qr (Rg.after ⟨3, ver, (rs : Int), 4⟩ 1 9 f n st (Pk.put ⟨3, ver, (rs : Int), 4⟩ 9 st rc)).1 (Pk.put ⟨3, ver, (rs : Int), 4⟩ 9 st rc) q := by
  have hf := (h.fit.put rc h1 h2).take (i := Pk.full (Pk.put ⟨3, ver, (rs : Int), 4⟩ 9 st rc)) (Nat.le_refl _)
  obtain ⟨e1, e2⟩ := h.h.after (Pk.put_more _ _ _ _) hf
  have hle := Rg.full_put ⟨3, ver, (rs : Int), 4⟩ 9 st rc
  have hp := Rg.after_plain (n := n) (fs := f) (st := st) h.h.plain hf h.h.room hle
  exact { g := hg, h := e2, w := by rw [hp.2.2, h.w]; omega, ok := h.ok.after hf, lay := h.lay.went hk, res := h.res.went hk }
theorem ScH.sync (h : ScH W wr c r gd od vd td n lo ver rs gp ql qr f st q) (hk : Went c c' wr wr') (hg : StH W wr' c' r gd od vd td n lo' (Rg.syncFs (Rg.after ⟨3, ver, (rs : Int), 4⟩ 1 9 f n st (Pk.pad st))) 3 ver (rs : Int) 4 ver 1 3 9 2 0 gp (Pk.pad st) (Pk.full (Pk.pad st))) :
    ScH W wr' c' r gd od vd td n lo' ver rs gp ql qr (Rg.syncFs (Rg.after ⟨3, ver, (rs : Int), 4⟩ 1 9 f n st (Pk.pad st))) (Pk.pad st) (Pk.full (Pk.pad st)) := by
  obtain ⟨e1, e2⟩ := h.h.syncd
  have hf := h.fit.pad.take (i := Pk.full (Pk.pad st)) (Nat.le_refl _)
  have hle := Rg.full_pad st
  have hp := Rg.after_plain (n := n) (fs := f) (st := st) h.h.plain hf h.h.room hle
  have hs := Rg.sync_plain hp.1 hp.2.1
  have ho : FlashOk n (Rg.syncFs (Rg.after ⟨3, ver, (rs : Int), 4⟩ 1 9 f n st (Pk.pad st))) := by
    unfold Rg.syncFs
    rw [if_pos hp.1]
    exact (h.ok.after hf).barrier
  exact { g := hg, h := e2, w := by rw [hs.2.2.1, hp.2.2, h.w]; omega, ok := ho, lay := h.lay.went hk, res := h.res.went hk }
end
/-- What Written returns. -/
def WrIs (w : World) (ver : Int) (rs : Nat) (P : Prop) (e : Ending) (w' : World) : Prop :=
  ∃ ga N cp img, e = .returned (.tuple #[.slice (some ⟨ga, 0, none⟩) N cp, .agg #[.int .i64 3, .int .i64 ver, .int .i64 (rs : Int), .int .i64 4], .int .i64 9]) ∧ N = (74 + 4 * rs) * 64 ∧ (N ≤ cp ∧ cp ≤ 9223372036854775807) ∧ img.length = N ∧ Bs w' w'.heap.size (some ⟨ga, 0, none⟩) img ∧ Below w.heap.size w w' ∧ (P → ∃ st q f, Sc.Holds ⟨3, ver, (rs : Int), 4⟩ 1 9 (Hd.enc (Gm.spot ⟨3, ver, (rs : Int), 4⟩ 1) ⟨ver, 1, 3, 9, 2, 0⟩) st q (74 + 4 * rs) f ∧ img = f.cur)
end Go.Proofs.YtgnbmmceffolmaaGreatDoor
