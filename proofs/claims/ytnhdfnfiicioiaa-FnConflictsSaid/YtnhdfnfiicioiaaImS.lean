/-
  The contracts of the program's side of stage 5, gathered.
-/
import Derived.Test.YtnhdfnfiicioiaaSmL
import Derived.Test.YtnhdfnfiicioiaaBdSmT
import Derived.Test.YtnhdfnfiicioiaaSmC
import Derived.Test.YtnhdfnfiicioiaaBdSmW
import Derived.Test.YtnhdfnfiicioiaaBdNwT
import Derived.Test.YtnhdfnfiicioiaaBdNwN
import Derived.Test.YtnhdfnfiicioiaaBdNwW
namespace Go.Proofs.Ytnhdfnfiicioiaa

end Go.Proofs.Ytnhdfnfiicioiaa

