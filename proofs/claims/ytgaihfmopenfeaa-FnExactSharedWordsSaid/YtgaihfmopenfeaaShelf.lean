/- The library contracts of the guide's shelf, laid at this translation. No condition beyond each theorem's own premises. -/
import Derived.Shelf.Lay
import Derived.Shelf.LaySoft

import Derived.Test.YtgaihfmopenfeaaProg
namespace Go.Proofs
open Go.Shelf
end Go.Proofs
