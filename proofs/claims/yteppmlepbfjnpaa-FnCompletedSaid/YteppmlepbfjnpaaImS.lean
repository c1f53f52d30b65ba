/-
  The contracts of the program's side of stage 5, gathered.
-/
import Derived.Test.YteppmlepbfjnpaaBdSmL
import Derived.Test.YteppmlepbfjnpaaBdSmF
import Derived.Test.YteppmlepbfjnpaaBdSmG
import Derived.Test.YteppmlepbfjnpaaBdPaC
import Derived.Test.YteppmlepbfjnpaaNwT
import Derived.Test.YteppmlepbfjnpaaNwG
import Derived.Test.YteppmlepbfjnpaaBdLkM
namespace Go.Proofs.Yteppmlepbfjnpaa

end Go.Proofs.Yteppmlepbfjnpaa

