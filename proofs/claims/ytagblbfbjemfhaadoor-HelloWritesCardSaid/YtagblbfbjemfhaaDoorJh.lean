/-
  Steps of a region that draws: an empty row, bytes behind it, a new block.
-/
import Derived.Test.YtagblbfbjemfhaaDoorJg
namespace Go.Proofs.YtagblbfbjemfhaaDoor
open Go.RowKit
open HelloMath (Msg zeroM wholeM formM readBy saidM)

/-- a row that does not lie in that block -/
def Off (v : Value) (g : Nat) : Prop := ∀ A n c, v = .slice A n c → ownOf A ≠ some g
section
variable {o : Oper} {a : Act} {w : World} {K : Act → World → Prop} {Q : Exit → Act → World → Prop}
end
end Go.Proofs.YtagblbfbjemfhaaDoor
