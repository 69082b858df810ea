/- Put together out of several texts. -/
import Derived.Test.YthpdkancighknaaB5
import Derived.Test.YthpdkancighknaaB6
import Derived.Test.YthpdkancighknaaB2
namespace Go.Proofs.Ythpdkancighknaa
open Go.RowKit
set_option maxRecDepth 100000
set_option linter.unusedVariables false
section
variable {w0 w w':World} {g M:Nat} {l l':List Int} {r r' s s' o o' f f':Int}
end
end Go.Proofs.Ythpdkancighknaa
