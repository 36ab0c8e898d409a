/-
  The joined texts that are wanted here.
-/
import Derived.Test.YtdjhempfpgcigaaDoorEndO
import Derived.Test.YtdjhempfpgcigaaDoorRefSum
