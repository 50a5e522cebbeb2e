/-
  The contracts of the octet functions that only read bytes.
-/
import Derived.Test.YtmgpghblnipbmaaRows
import Derived.Test.YtmgpghblnipbmaaWords
import Derived.Deep.QuietTactic
import Derived.BigQuiet
namespace Go.Proofs.Ytmgpghblnipbmaa.Oct
set_option maxRecDepth 100000
open Go.RowKit Go.Proofs.Ytmgpghblnipbmaa.Wd

end Go.Proofs.Ytmgpghblnipbmaa.Oct
