/-
  The contracts of the functions of stage 6.
-/
import Derived.Test.YteppmlepbfjnpaaPwT
import Derived.Test.YteppmlepbfjnpaaBdPaC
namespace Go.Proofs.Yteppmlepbfjnpaa

end Go.Proofs.Yteppmlepbfjnpaa

