import Derived.Test.YtgnogkkdojagcaaRows
import Derived.WalkKit
import Derived.ProofKit
import Derived.ChangeOld
namespace Go.Proofs.Ytgnogkkdojagcaa
/-- The closed facts on the whole program that cost most: proved once for the seat. -/
theorem mayE : Try.checked.prog.mayEnter = true := by kernel_rfl
theorem liftE : Try.checked.prog.liftsFinal = false := by kernel_rfl
theorem makeE : Try.checked.prog.make = some .cut := by kernel_rfl
end Go.Proofs.Ytgnogkkdojagcaa
