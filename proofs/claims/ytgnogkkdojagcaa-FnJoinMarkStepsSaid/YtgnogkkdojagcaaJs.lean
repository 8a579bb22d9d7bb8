import Derived.Test.YtgnogkkdojagcaaTyEvent
import Derived.Test.YtgnogkkdojagcaaBoxB
import Derived.Test.YtgnogkkdojagcaaApp
import Derived.Test.YtgnogkkdojagcaaInR
namespace Go.Proofs.Ytgnogkkdojagcaa
open Go.RowKit
/-- A struct of two slices of the call's own, in blocks of their own, and a number. -/
def JsOwn (w : World) (l r : List EventR) (A : Option Addr) (c : Nat) (B : Option Addr) (d : Nat) (w' : World) : Prop :=
  Own EventR.enc 3 42 w' w.heap.size (.slice A l.length c) l ∧ Own EventR.enc 3 42 w' w.heap.size (.slice B r.length d) r ∧
    (∀ g g', Value.ownBlock (.slice A l.length c) = some g → Value.ownBlock (.slice B r.length d) = some g' → g ≠ g') ∧ Below w.heap.size w w'
def JsPost (w : World) (l r : List EventR) (m : Int) (e : Ending) (w' : World) : Prop :=
  ∃ A c B d, e = .returned (.agg #[.slice A l.length c, .slice B r.length d, .int .i64 m]) ∧ JsOwn w l r A c B d w'
def JsBPost (w : World) (l r : List EventR) (m : Int) (k : Bool) (e : Ending) (w' : World) : Prop :=
  ∃ A c B d, e = .returned (.tuple #[.agg #[.slice A l.length c, .slice B r.length d, .int .i64 m], .bool k]) ∧ JsOwn w l r A c B d w'
theorem reach_t (m : Int) (w : World) (h0 : -1 ≤ m) (h1 : m ≤ 3000) : Calls Try.prog 59 #[.int .i64 m] w fun e w' => e = .returned (.bool true) ∧ w = w' := by
  go_enter Try.func59, Try.ntmps59
  go_wp2_with (go_at_call 43; refine (inRI_t _ _ _ _ (by omega) (by omega)).mono ?_; rintro e w' ⟨rfl, rfl⟩)
  all_goals go_returns
  all_goals exact ⟨rfl, rfl⟩
theorem reach_f (m : Int) (w : World) (h : ¬ (-1 ≤ m ∧ m ≤ 3000)) : Calls Try.prog 59 #[.int .i64 m] w fun e w' => e = .returned (.bool false) ∧ w = w' := by
  have H := Lib.hid h
  clear h
  go_enter Try.func59, Try.ntmps59
  go_wp2_with (go_at_call 43; refine (inRI_f _ _ _ _ H.out).mono ?_; rintro e w' ⟨rfl, rfl⟩)
  all_goals go_returns
  all_goals exact ⟨rfl, rfl⟩
end Go.Proofs.Ytgnogkkdojagcaa
