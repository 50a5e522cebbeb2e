/-
  The contracts of the octet functions that only read bytes.
-/
import Derived.Test.YtnojkoefdigcnaaRows
import Derived.Test.YtnojkoefdigcnaaWords
import Derived.Deep.QuietTactic
import Derived.BigQuiet
namespace Go.Proofs.Ytnojkoefdigcnaa.Oct
set_option maxRecDepth 100000
open Go.RowKit Go.Proofs.Ytnojkoefdigcnaa.Wd

end Go.Proofs.Ytnojkoefdigcnaa.Oct
