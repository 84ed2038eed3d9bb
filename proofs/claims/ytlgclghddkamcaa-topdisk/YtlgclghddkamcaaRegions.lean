/- Moves of a region that draws its order, for operations whose guard says no. -/
import Derived.Deep.RegionHeld3
namespace Go.Proofs.Ytlgclghddkamcaa
open Go

variable {P : Program} {ops : Array Oper} {Q : Exit → Act → World → Prop} {md : Region.Mode} {S : World → Prop}

end Go.Proofs.Ytlgclghddkamcaa
