/-
  The contract of package gcm's Product.
-/
import Derived.Test.YtefbjhdcmgonbaaGb
namespace Go.Proofs.Ytefbjhdcmgonbaa
open Go.RowKit

/-- What sixteen bytes are as an element. -/
def elE (b : List UInt8) : BitVec 128 := cat (wordTo b 0 8) (wordTo b 8 8)
def prodG (a b : List UInt8) : G6 := gN (wordTo a 0 8) (wordTo a 8 8) (wordTo b 0 8) (wordTo b 8 8) 128
def prodE (a b : List UInt8) : List UInt8 := bytesE (prodG a b).s0 (prodG a b).s1
theorem prodE_length (a b : List UInt8) : (prodE a b).length = 16 := bytesE_length _ _
theorem prodG_el (a b : List UInt8) : cat (prodG a b).s0 (prodG a b).s1 = gmul (elE a) (elE b) := gN_mul _ _ _ _
end Go.Proofs.Ytefbjhdcmgonbaa
