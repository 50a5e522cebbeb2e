/-
  The contracts of the sums' steps, and of sums of bytes.
-/
import Derived.Test.YtmgpghblnipbmaaOct2
import Derived.Test.YtmgpghblnipbmaaSumM
namespace Go.Proofs.Ytmgpghblnipbmaa.Sum
set_option maxRecDepth 100000
open Go.RowKit Go.Proofs.Ytmgpghblnipbmaa.Wd Go.Proofs.Ytmgpghblnipbmaa.Oct Go.Proofs.Ytmgpghblnipbmaa.Sm

theorem ones2 : ones 2 = 65535 := by decide
theorem ones4 : ones 4 = 4294967295 := by decide

end Go.Proofs.Ytmgpghblnipbmaa.Sum
