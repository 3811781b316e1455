/- Proved: whatever two ints m and n are given, ResidueGauss returns true, and all that was in memory before the call is as it was. No conditions beyond the row's own (the table of math/bits as the program lays it, tied by the card). -/
import Derived.Test.YthfoakbpoggmbacDoorResidueGaussCard
import Derived.Test.YthfoakbpoggmbacDoorRsI
set_option maxRecDepth 100000
namespace Go.Proofs.YthfoakbpoggmbacDoor.residueGauss

/-- ████ THE STATEMENT ████ -/
theorem proved : Rows.ResidueGaussCardSaid := card_of res_begun jac_is
#print axioms proved
end Go.Proofs.YthfoakbpoggmbacDoor.residueGauss
