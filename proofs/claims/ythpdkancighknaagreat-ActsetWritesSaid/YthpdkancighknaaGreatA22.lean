/- Put together out of several texts. -/
import Derived.Test.YthpdkancighknaaGreatA5
import Derived.Test.YthpdkancighknaaGreatA6
import Derived.Test.YthpdkancighknaaGreatA2
namespace Go.Proofs.YthpdkancighknaaGreat
open Go.RowKit
set_option maxRecDepth 100000
set_option linter.unusedVariables false
section
variable {w0 w w':World} {g M:Nat} {l l':List Int} {r r' s s' o o' f f':Int}
end
end Go.Proofs.YthpdkancighknaaGreat
