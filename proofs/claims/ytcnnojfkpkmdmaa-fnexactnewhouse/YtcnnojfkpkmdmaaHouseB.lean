
/- Bounds on marks of a house. No program here. -/
import Derived.Test.YtcnnojfkpkmdmaaGxKit
import Derived.Test.YtcnnojfkpkmdmaaHouseU
namespace Go.Proofs.Ytcnnojfkpkmdmaa
open Go.ChangeShapes Go.WideShapes Go.ChangeAt Go.RowKit
theorem bd_ent : Bd entM 8 := bd_prod bd_int (bd_prod bd_int (bd_prod bd_bool (bd_prod bd_int (bd_prod bd_int (bd_prod bd_int (bd_prod bd_int (bd_sl bd_int)))))))
theorem bv_house : Bv houseM 9 := bv_prod (bv_sl (bd_sl bd_int)) (bv_sl bd_ent)
end Go.Proofs.Ytcnnojfkpkmdmaa
