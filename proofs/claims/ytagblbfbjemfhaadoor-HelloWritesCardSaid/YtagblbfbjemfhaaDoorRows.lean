/-
  NARROWER THAN 'FOR EVERY INPUT', by the rows' own cells (each row's printed sentence says how): HelloWrites: laid · HelloReads: laid · HelloBack: laid · HelloRows: laid · HelloShort: laid · HelloSizes: laid.
  DERIVED. THE GIVEN ROWS OF THIS SEAT. 6 by the template 'for every input the law returns true; each argument reads behind the call as it read before'; 0 by the template 'total and deterministic' (their statements: YtagblbfbjemfhaaDoorTotals.lean).
  GIVEN WITH THE SEED: the statements are not yours to turn. If you find one false, say at which input.
  Laid BY PROGRAM, IN A SANDBOX (cutbox-rows.mjs): the forced cells as the released guide's own fill.sh prints them over the translation 7077d203865b79b9… (all of the seat's roots in one cut). By AI agents, Wed Nov 11 2026. No macro, syntax, notation, axiom, sorry.
-/
import Derived.Test.YtagblbfbjemfhaaDoorChecked
import GoSem.Claim
import GoSem.ClaimJoined
import GoSem.ClaimMapViews
import Derived.JoinedTies
import Derived.KernelRfl
namespace Go.Proofs.YtagblbfbjemfhaaDoor
/- THE CELL 'sum', in the pinned program and in every row, IS THE sha256 OF THE DUMP (.gsa) THAT YtagblbfbjemfhaaDoorProg.lean LOADS. Nothing in Lean hashes anything: it is a label: what it is worth is what the hold of that sum in a sandbox is worth. -/
noncomputable def Tryd.pinned : Pinned := { name := "ytagblbfbjemfhaadoor", sum := "7077d203865b79b9e9c941e71e09c51ec8da5207a3b574775a1c77476fa7cbf8", checked := Tryd.checked }
namespace Rows
def none {H : Type} : Left H := { results := [], args := [] }

/- WHAT THE LISTED PACKAGE-LEVEL VARIABLES READ AS WHEN THE CALL BEGINS. Each datum BY PROGRAM (the guide's laid-datum.mjs) off the statement by which the dump's own 'gosem.cut.vars' lays the variable. In a bare row this is a premise. The card (YtagblbfbjemfhaaDoorCards.lean) ties it to the program's text. -/
def laid_tollgate_hello_retried {H : Type} : DataW H := .agg [.lit (.int .u8 207), .lit (.int .u8 33), .lit (.int .u8 173), .lit (.int .u8 116), .lit (.int .u8 229), .lit (.int .u8 154), .lit (.int .u8 97), .lit (.int .u8 17), .lit (.int .u8 190), .lit (.int .u8 29), .lit (.int .u8 140), .lit (.int .u8 2), .lit (.int .u8 30), .lit (.int .u8 101), .lit (.int .u8 184), .lit (.int .u8 145), .lit (.int .u8 194), .lit (.int .u8 162), .lit (.int .u8 17), .lit (.int .u8 22), .lit (.int .u8 122), .lit (.int .u8 187), .lit (.int .u8 140), .lit (.int .u8 94), .lit (.int .u8 7), .lit (.int .u8 158), .lit (.int .u8 9), .lit (.int .u8 226), .lit (.int .u8 200), .lit (.int .u8 168), .lit (.int .u8 51), .lit (.int .u8 156)]

/-- 'tollgatelaw13.HelloWrites': WHATEVER THE INPUT: true; the input reads as it did. -/
def helloWritesSpec : ChangeSpec := { name := "helloWrites", fn := fun _ => fun
  | [d] => { results := [.lit (.bool true)], args := [d] }
  | _ => none }
def helloWritesRow : OpenClaim := { program := "ytagblbfbjemfhaadoor", sum := "7077d203865b79b9e9c941e71e09c51ec8da5207a3b574775a1c77476fa7cbf8", func := "tollgate/tollgatelaw13.HelloWrites", spec := "helloWrites", unfollowed := true, recurses := true, named := ["tollgate/hello.retried"], apart := false, laid := [("tollgate/hello.retried", laid_tollgate_hello_retried)] }
def HelloWritesSaid : Prop := helloWritesRow.holds Tryd.pinned (OpenSpec.ofChange helloWritesSpec)

/-- ITS FALSE NEIGHBOUR: 'it returns false'. Refute it at one input. -/
def helloWritesWrong : ChangeSpec := { name := "helloWrites", fn := fun _ => fun
  | [d] => { results := [.lit (.bool false)], args := [d] }
  | _ => none }
def HelloWritesWrongFalsely : Prop := helloWritesRow.holds Tryd.pinned (OpenSpec.ofChange helloWritesWrong)

/-- 'tollgatelaw13.HelloReads': WHATEVER THE INPUT: true; the input reads as it did. -/
def helloReadsSpec : ChangeSpec := { name := "helloReads", fn := fun _ => fun
  | [d] => { results := [.lit (.bool true)], args := [d] }
  | _ => none }
def helloReadsRow : OpenClaim := { program := "ytagblbfbjemfhaadoor", sum := "7077d203865b79b9e9c941e71e09c51ec8da5207a3b574775a1c77476fa7cbf8", func := "tollgate/tollgatelaw13.HelloReads", spec := "helloReads", unfollowed := true, recurses := true, named := ["tollgate/hello.retried"], apart := false, laid := [("tollgate/hello.retried", laid_tollgate_hello_retried)] }
def HelloReadsSaid : Prop := helloReadsRow.holds Tryd.pinned (OpenSpec.ofChange helloReadsSpec)

/-- ITS FALSE NEIGHBOUR: 'it returns false'. Refute it at one input. -/
def helloReadsWrong : ChangeSpec := { name := "helloReads", fn := fun _ => fun
  | [d] => { results := [.lit (.bool false)], args := [d] }
  | _ => none }
def HelloReadsWrongFalsely : Prop := helloReadsRow.holds Tryd.pinned (OpenSpec.ofChange helloReadsWrong)

/-- 'tollgatelaw13.HelloBack': WHATEVER THE INPUT: true; the input reads as it did. -/
def helloBackSpec : ChangeSpec := { name := "helloBack", fn := fun _ => fun
  | [d1, d2, d3] => { results := [.lit (.bool true)], args := [d1, d2, d3] }
  | _ => none }
def helloBackRow : OpenClaim := { program := "ytagblbfbjemfhaadoor", sum := "7077d203865b79b9e9c941e71e09c51ec8da5207a3b574775a1c77476fa7cbf8", func := "tollgate/tollgatelaw13.HelloBack", spec := "helloBack", unfollowed := true, recurses := true, named := ["tollgate/hello.retried"], apart := false, laid := [("tollgate/hello.retried", laid_tollgate_hello_retried)] }
def HelloBackSaid : Prop := helloBackRow.holds Tryd.pinned (OpenSpec.ofChange helloBackSpec)

/-- ITS FALSE NEIGHBOUR: 'it returns false'. Refute it at one input. -/
def helloBackWrong : ChangeSpec := { name := "helloBack", fn := fun _ => fun
  | [d1, d2, d3] => { results := [.lit (.bool false)], args := [d1, d2, d3] }
  | _ => none }
def HelloBackWrongFalsely : Prop := helloBackRow.holds Tryd.pinned (OpenSpec.ofChange helloBackWrong)

/-- 'tollgatelaw13.HelloRows': WHATEVER THE INPUT: true; the input reads as it did. -/
def helloRowsSpec : ChangeSpec := { name := "helloRows", fn := fun _ => fun
  | [d] => { results := [.lit (.bool true)], args := [d] }
  | _ => none }
def helloRowsRow : OpenClaim := { program := "ytagblbfbjemfhaadoor", sum := "7077d203865b79b9e9c941e71e09c51ec8da5207a3b574775a1c77476fa7cbf8", func := "tollgate/tollgatelaw13.HelloRows", spec := "helloRows", unfollowed := true, recurses := true, named := ["tollgate/hello.retried"], apart := false, laid := [("tollgate/hello.retried", laid_tollgate_hello_retried)] }
def HelloRowsSaid : Prop := helloRowsRow.holds Tryd.pinned (OpenSpec.ofChange helloRowsSpec)

/-- ITS FALSE NEIGHBOUR: 'it returns false'. Refute it at one input. -/
def helloRowsWrong : ChangeSpec := { name := "helloRows", fn := fun _ => fun
  | [d] => { results := [.lit (.bool false)], args := [d] }
  | _ => none }
def HelloRowsWrongFalsely : Prop := helloRowsRow.holds Tryd.pinned (OpenSpec.ofChange helloRowsWrong)

/-- 'tollgatelaw13.HelloShort': WHATEVER THE INPUT: true; the input reads as it did. -/
def helloShortSpec : ChangeSpec := { name := "helloShort", fn := fun _ => fun
  | [d1, d2] => { results := [.lit (.bool true)], args := [d1, d2] }
  | _ => none }
def helloShortRow : OpenClaim := { program := "ytagblbfbjemfhaadoor", sum := "7077d203865b79b9e9c941e71e09c51ec8da5207a3b574775a1c77476fa7cbf8", func := "tollgate/tollgatelaw13.HelloShort", spec := "helloShort", unfollowed := true, recurses := true, named := ["tollgate/hello.retried"], apart := false, laid := [("tollgate/hello.retried", laid_tollgate_hello_retried)] }
def HelloShortSaid : Prop := helloShortRow.holds Tryd.pinned (OpenSpec.ofChange helloShortSpec)

/-- ITS FALSE NEIGHBOUR: 'it returns false'. Refute it at one input. -/
def helloShortWrong : ChangeSpec := { name := "helloShort", fn := fun _ => fun
  | [d1, d2] => { results := [.lit (.bool false)], args := [d1, d2] }
  | _ => none }
def HelloShortWrongFalsely : Prop := helloShortRow.holds Tryd.pinned (OpenSpec.ofChange helloShortWrong)

/-- 'tollgatelaw13.HelloSizes': WHATEVER THE INPUT: true; the input reads as it did. -/
def helloSizesSpec : ChangeSpec := { name := "helloSizes", fn := fun _ => fun
  | [d1, d2] => { results := [.lit (.bool true)], args := [d1, d2] }
  | _ => none }
def helloSizesRow : OpenClaim := { program := "ytagblbfbjemfhaadoor", sum := "7077d203865b79b9e9c941e71e09c51ec8da5207a3b574775a1c77476fa7cbf8", func := "tollgate/tollgatelaw13.HelloSizes", spec := "helloSizes", unfollowed := true, recurses := true, named := ["tollgate/hello.retried"], apart := false, laid := [("tollgate/hello.retried", laid_tollgate_hello_retried)] }
def HelloSizesSaid : Prop := helloSizesRow.holds Tryd.pinned (OpenSpec.ofChange helloSizesSpec)

/-- ITS FALSE NEIGHBOUR: 'it returns false'. Refute it at one input. -/
def helloSizesWrong : ChangeSpec := { name := "helloSizes", fn := fun _ => fun
  | [d1, d2] => { results := [.lit (.bool false)], args := [d1, d2] }
  | _ => none }
def HelloSizesWrongFalsely : Prop := helloSizesRow.holds Tryd.pinned (OpenSpec.ofChange helloSizesWrong)

/- THE SECOND FORM. 'bulk': how many values and letters a reading holds, each counted each time it is reached (what is shared counts as often as it is met; a slice's spare places count too). A statement '..UptoSaid' is the law's where the arguments, and the package variables that the reading takes, are together of bulk at most 1048576: NARROWER than '..Said'. Prove '..Said' where nothing that the law and all that it calls make is longer than what came in: it says more and counts as full. Else prove '..UptoSaid'. A law counts once. -/
mutual
def uptoBulk {H : Type} : DataW H → Nat
  | .lit (.string bytes) => bytes.length + 1
  | .lit _ => 1
  | .nil => 1
  | .ptr d => uptoBulk d + 1
  | .slice elems spare => uptoBulkAll elems + uptoBulkAll spare + 1
  | .agg parts => uptoBulkAll parts + 1
  | .iface _ d => uptoBulk d + 1
  | .map entries => uptoBulkEntries entries + 1
  | .held _ => 1
def uptoBulkAll {H : Type} : List (DataW H) → Nat
  | [] => 0
  | d :: r => uptoBulk d + uptoBulkAll r
def uptoBulkEntries {H : Type} : List (Lit × DataW H) → Nat
  | [] => 0
  | x :: r => uptoBulkEntry x + uptoBulkEntries r
def uptoBulkEntry {H : Type} : Lit × DataW H → Nat
  | (.string bytes, d) => bytes.length + uptoBulk d + 1
  | (_, d) => uptoBulk d + 1
 end
def uptoSmall : (H : Type) → List (DataW H) → Bool := fun _ ds => decide (uptoBulkAll ds ≤ 1048576)
def OpenSpec.upto (s : _root_.Go.ChangeSpec) : _root_.Go.OpenSpec := { _root_.Go.OpenSpec.ofChange s with cond := some uptoSmall }

/-- 'tollgatelaw13.HelloWrites', WHERE WHAT IT READS IS OF BULK AT MOST 1048576: true; the input reads as it did. -/
def helloWritesUptoRow : OpenClaim := { program := "ytagblbfbjemfhaadoor", sum := "7077d203865b79b9e9c941e71e09c51ec8da5207a3b574775a1c77476fa7cbf8", func := "tollgate/tollgatelaw13.HelloWrites", spec := "helloWrites", unfollowed := true, recurses := true, named := ["tollgate/hello.retried"], apart := false, laid := [("tollgate/hello.retried", laid_tollgate_hello_retried)], narrowed := true }
def HelloWritesUptoSaid : Prop := helloWritesUptoRow.holds Tryd.pinned (OpenSpec.upto helloWritesSpec)

/-- 'tollgatelaw13.HelloReads', WHERE WHAT IT READS IS OF BULK AT MOST 1048576: true; the input reads as it did. -/
def helloReadsUptoRow : OpenClaim := { program := "ytagblbfbjemfhaadoor", sum := "7077d203865b79b9e9c941e71e09c51ec8da5207a3b574775a1c77476fa7cbf8", func := "tollgate/tollgatelaw13.HelloReads", spec := "helloReads", unfollowed := true, recurses := true, named := ["tollgate/hello.retried"], apart := false, laid := [("tollgate/hello.retried", laid_tollgate_hello_retried)], narrowed := true }
def HelloReadsUptoSaid : Prop := helloReadsUptoRow.holds Tryd.pinned (OpenSpec.upto helloReadsSpec)

/-- 'tollgatelaw13.HelloBack', WHERE WHAT IT READS IS OF BULK AT MOST 1048576: true; the input reads as it did. -/
def helloBackUptoRow : OpenClaim := { program := "ytagblbfbjemfhaadoor", sum := "7077d203865b79b9e9c941e71e09c51ec8da5207a3b574775a1c77476fa7cbf8", func := "tollgate/tollgatelaw13.HelloBack", spec := "helloBack", unfollowed := true, recurses := true, named := ["tollgate/hello.retried"], apart := false, laid := [("tollgate/hello.retried", laid_tollgate_hello_retried)], narrowed := true }
def HelloBackUptoSaid : Prop := helloBackUptoRow.holds Tryd.pinned (OpenSpec.upto helloBackSpec)

/-- 'tollgatelaw13.HelloRows', WHERE WHAT IT READS IS OF BULK AT MOST 1048576: true; the input reads as it did. -/
def helloRowsUptoRow : OpenClaim := { program := "ytagblbfbjemfhaadoor", sum := "7077d203865b79b9e9c941e71e09c51ec8da5207a3b574775a1c77476fa7cbf8", func := "tollgate/tollgatelaw13.HelloRows", spec := "helloRows", unfollowed := true, recurses := true, named := ["tollgate/hello.retried"], apart := false, laid := [("tollgate/hello.retried", laid_tollgate_hello_retried)], narrowed := true }
def HelloRowsUptoSaid : Prop := helloRowsUptoRow.holds Tryd.pinned (OpenSpec.upto helloRowsSpec)

/-- 'tollgatelaw13.HelloShort', WHERE WHAT IT READS IS OF BULK AT MOST 1048576: true; the input reads as it did. -/
def helloShortUptoRow : OpenClaim := { program := "ytagblbfbjemfhaadoor", sum := "7077d203865b79b9e9c941e71e09c51ec8da5207a3b574775a1c77476fa7cbf8", func := "tollgate/tollgatelaw13.HelloShort", spec := "helloShort", unfollowed := true, recurses := true, named := ["tollgate/hello.retried"], apart := false, laid := [("tollgate/hello.retried", laid_tollgate_hello_retried)], narrowed := true }
def HelloShortUptoSaid : Prop := helloShortUptoRow.holds Tryd.pinned (OpenSpec.upto helloShortSpec)

/-- 'tollgatelaw13.HelloSizes', WHERE WHAT IT READS IS OF BULK AT MOST 1048576: true; the input reads as it did. -/
def helloSizesUptoRow : OpenClaim := { program := "ytagblbfbjemfhaadoor", sum := "7077d203865b79b9e9c941e71e09c51ec8da5207a3b574775a1c77476fa7cbf8", func := "tollgate/tollgatelaw13.HelloSizes", spec := "helloSizes", unfollowed := true, recurses := true, named := ["tollgate/hello.retried"], apart := false, laid := [("tollgate/hello.retried", laid_tollgate_hello_retried)], narrowed := true }
def HelloSizesUptoSaid : Prop := helloSizesUptoRow.holds Tryd.pinned (OpenSpec.upto helloSizesSpec)

end Rows
end Go.Proofs.YtagblbfbjemfhaaDoor
