/- The tables that the rows list: no road of the laws reads them. No statement of the seat is proved here. -/
import Derived.Test.YtjecckmcjcikdaaDoorRows
import Derived.LaidMore
import Derived.Lay
namespace Go.Proofs.YtjecckmcjcikdaaDoor
def laid2 : List (String × DataW Unit) := [("unicode/utf8.acceptRanges", Rows.laid_unicode_utf8_acceptRanges), ("unicode/utf8.first", Rows.laid_unicode_utf8_first)]
theorem of_laid {W : World} (_ : laidMetH Tryd.prog laid2 W) : True := trivial
end Go.Proofs.YtjecckmcjcikdaaDoor
