/- Only imports: what walks a region that draws its order beside calls that make memory. -/
import Derived.Test.YtgaankdmppoghaaRows
import Derived.Deep.RegionHeld3
import Derived.Deep.DeepCutAuto
