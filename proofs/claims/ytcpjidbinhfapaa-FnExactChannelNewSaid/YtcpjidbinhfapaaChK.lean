import Derived.Test.YtcpjidbinhfapaaChF
namespace Go.Proofs.Ytcpjidbinhfapaa
open Go.RowKit
theorem newS_L (L : List ItemR) (h : L = []) (n : Int) (w : World) : Calls Try.prog 31 #[.int .i64 n] w (ChPost w (cnF n) (cnF n) L) := by
  subst h
  exact newS_any n w
theorem newI_L (L : List ItemR) (h : L = []) (n : Int) (w : World) : Calls Try.prog 32 #[.int .i64 n] w (ChPost w (cnF n) (cnF n) L) := by
  subst h
  exact newI_any n w
end Go.Proofs.Ytcpjidbinhfapaa
