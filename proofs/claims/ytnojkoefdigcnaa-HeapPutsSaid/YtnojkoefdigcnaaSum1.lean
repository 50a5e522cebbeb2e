/-
  The contracts of the sums' steps, and of sums of bytes.
-/
import Derived.Test.YtnojkoefdigcnaaOct2
import Derived.Test.YtnojkoefdigcnaaSumM
namespace Go.Proofs.Ytnojkoefdigcnaa.Sum
set_option maxRecDepth 100000
open Go.RowKit Go.Proofs.Ytnojkoefdigcnaa.Wd Go.Proofs.Ytnojkoefdigcnaa.Oct Go.Proofs.Ytnojkoefdigcnaa.Sm

theorem ones2 : ones 2 = 65535 := by decide
theorem ones4 : ones 4 = 4294967295 := by decide

end Go.Proofs.Ytnojkoefdigcnaa.Sum
