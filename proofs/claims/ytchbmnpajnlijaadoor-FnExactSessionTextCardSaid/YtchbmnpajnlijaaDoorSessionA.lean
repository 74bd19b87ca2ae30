/- One Session more behind a row of the call's own. (made by tools/mkapp.py) -/
import Derived.Test.YtchbmnpajnlijaaDoorSessionS
import Derived.LaidEql
import Derived.Lib.LazyBuf
import Derived.Lib.AppendZeros
import Derived.OwnWalk
namespace Go.Proofs.YtchbmnpajnlijaaDoor
open Go.RowKit
end Go.Proofs.YtchbmnpajnlijaaDoor
