/-
  The walk of the statement on Encode.
-/
import Derived.Test.YtjmhnbohojdodaaDoorRecRefEncode2
namespace Go.Proofs.YtjmhnbohojdodaaDoor
open Go.RowKit
theorem refencode_any (v seq off kd x : Int) (key val : List Nat) (A : Option Addr) (B n c : Nat) (A' : Option Addr) (n' c' : Nat) (w : World) (h : Rc.check v ⟨kd, key, val, x⟩ = 0) (hp : Rc.place seq off) (hB : B ≤ w.heap.size) (hsq : seq ≤ 9223372036854775807)
    (hk : SlIs A n c ∧ key.length = n ∧ Bs w B A key) (hv : SlIs A' n' c' ∧ val.length = n' ∧ Bs w B A' val) :
    Calls Tryd.prog 33 #[.int .i64 v, .int .i64 seq, .int .i64 off, .agg #[.int .i64 kd, .slice A n c, .slice A' n' c', .int .i64 x]] w fun e w' => ∃ A3 c3, e = .returned (.slice A3 (Rc.enc v seq off ⟨kd, key, val, x⟩).length c3) ∧ SlIs A3 (Rc.enc v seq off ⟨kd, key, val, x⟩).length c3 ∧ Bs w' w'.heap.size A3 (Rc.enc v seq off ⟨kd, key, val, x⟩) ∧ Below w.heap.size w w' := by
  rcases (Rc.chk_ok h).1 with rfl | rfl
  · exact refencode1 seq off kd x key val A B n c A' n' c' w h hp hB hsq hk hv
  · exact refencode2 seq off kd x key val A B n c A' n' c' w h hp hB hsq hk hv
end Go.Proofs.YtjmhnbohojdodaaDoor
