/- The model's step: what it answers for each word, for a valid instruction and a machine of words. The model's StepMachine: it answers as stepB, stAt, stRegs and stMem say. -/
import Derived.Test.YtbfgmmljegdbfaaDoorW70
import Derived.Test.YtbfgmmljegdbfaaDoorG73
namespace Go.Proofs.YtbfgmmljegdbfaaDoor
open Go.RowKit
set_option linter.unusedSimpArgs false


end Go.Proofs.YtbfgmmljegdbfaaDoor

namespace Go.Proofs.YtbfgmmljegdbfaaDoor
open Go.RowKit
set_option linter.unusedSimpArgs false
end Go.Proofs.YtbfgmmljegdbfaaDoor
