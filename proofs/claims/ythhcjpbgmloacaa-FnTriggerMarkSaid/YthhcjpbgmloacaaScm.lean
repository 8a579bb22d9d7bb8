import Derived.Test.YthhcjpbgmloacaaBase
namespace Go.Proofs.Ythhcjpbgmloacaa
open Go.RowKit
def winV (s e : Int) : Prop := -999 ≤ s ∧ s ≤ 999 ∧ s < e ∧ e ≤ 1998
instance (s e : Int) : Decidable (winV s e) := by unfold winV; infer_instance
def hasF (s e t : Int) : Bool := decide (winV s e ∧ s ≤ t ∧ t < e)
def trgV (ev la : Int) : Prop := 0 ≤ ev ∧ ev ≤ 40 ∧ 0 ≤ la ∧ la ≤ 999
instance (s e : Int) : Decidable (trgV s e) := by unfold trgV; infer_instance
def cleanF (ev la s e : Int) : Int := if trgV ev la ∧ winV s e then e - 1 + la else -1
def evF (ev la s e many mark : Int) : Int :=
  if trgV ev la ∧ winV s e ∧ 1 ≤ many ∧ many ≤ 40 ∧ -1 ≤ mark ∧ mark ≤ 3000 then (if e - 1 + la ≤ mark then 2 else if e - 1 ≤ mark then 1 else if 0 < ev ∧ many % ev = 0 then 1 else 0) else 3
def mkOk (ev la s e old mark : Int) : Bool := decide (trgV ev la ∧ winV s e ∧ -1 ≤ old ∧ old ≤ 3000 ∧ -1 ≤ mark ∧ mark ≤ 3000 ∧ old ≤ mark)
def mkFire (ev la s e old mark : Int) : Bool := decide ((trgV ev la ∧ winV s e ∧ -1 ≤ old ∧ old ≤ 3000 ∧ -1 ≤ mark ∧ mark ≤ 3000 ∧ old ≤ mark) ∧ old < e - 1 ∧ e - 1 ≤ mark)
def mkClean (ev la s e old mark : Int) : Bool := decide ((trgV ev la ∧ winV s e ∧ -1 ≤ old ∧ old ≤ 3000 ∧ -1 ≤ mark ∧ mark ≤ 3000 ∧ old ≤ mark) ∧ old < e - 1 + la ∧ e - 1 + la ≤ mark)
def tumV (t z o : Int) : Prop := 0 ≤ t ∧ t ≤ 999 ∧ 1 ≤ z ∧ z ≤ 999 ∧ 0 ≤ o ∧ o ≤ z - 1
instance (t z o : Int) : Decidable (tumV t z o) := by unfold tumV; infer_instance
def tumS (t z o : Int) : Int := if tumV t z o then t - (t - o) % z else 0
def tumE (t z o : Int) : Int := if tumV t z o then t - (t - o) % z + z else 0
def tumK (t z o : Int) : Bool := decide (tumV t z o)
theorem ret_tup2 {a b a' b' : Value} (h : a = a') (h' : b = b') : Ending.returned (.tuple #[a, b]) = .returned (.tuple #[a', b']) := by rw [h, h']
theorem ret_tup3 {a b c a' b' c' : Value} (h : a = a') (h' : b = b') (h'' : c = c') : Ending.returned (.tuple #[a, b, c]) = .returned (.tuple #[a', b', c']) := by rw [h, h', h'']
theorem bool_eq {a b : Bool} (h : a = b) : Value.bool a = .bool b := by rw [h]
theorem int_eq {a b : Int} (h : a = b) : Value.int .i64 a = .int .i64 b := by rw [h]
theorem agg2_eq {a b a' b' : Int} (h : a = a') (h' : b = b') : Value.agg #[.int .i64 a, .int .i64 b] = .agg #[.int .i64 a', .int .i64 b'] := by rw [h, h']

theorem tmod_pos {a b : Int} (h : 0 ≤ a) : a.tmod b = a % b := Int.tmod_eq_emod_of_nonneg h
end Go.Proofs.Ythhcjpbgmloacaa
