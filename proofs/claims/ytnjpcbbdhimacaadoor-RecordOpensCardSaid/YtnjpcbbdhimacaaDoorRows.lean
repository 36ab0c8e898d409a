/-
  NARROWER THAN 'FOR EVERY INPUT', by the rows' own cells (each row's printed sentence says how): RecordSeals: laid · RecordOpens: laid · RecordLong: laid · RecordPads: laid · TollgateBoxes: laid · TollgateLines: laid.
  DERIVED. THE GIVEN ROWS OF THIS SEAT. 6 by the template 'for every input the law returns true; each argument reads behind the call as it read before'; 0 by the template 'total and deterministic' (their statements: YtnjpcbbdhimacaaDoorTotals.lean).
  GIVEN WITH THE SEED: the statements are not yours to turn. If you find one false, say at which input.
  Laid BY PROGRAM, IN A SANDBOX (cutbox-rows.mjs): the forced cells as the released guide's own fill.sh prints them over the translation 6a2d2ce1fdd86049… (all of the seat's roots in one cut). By AI agents, Wed Nov 11 2026. No macro, syntax, notation, axiom, sorry.
-/
import Derived.Test.YtnjpcbbdhimacaaDoorChecked
import GoSem.Claim
import GoSem.ClaimJoined
import GoSem.ClaimMapViews
import Derived.JoinedTies
import Derived.KernelRfl
namespace Go.Proofs.YtnjpcbbdhimacaaDoor
/- THE CELL 'sum', in the pinned program and in every row, IS THE sha256 OF THE DUMP (.gsa) THAT YtnjpcbbdhimacaaDoorProg.lean LOADS. Nothing in Lean hashes anything: it is a label: what it is worth is what the hold of that sum in a sandbox is worth. -/
noncomputable def Tryd.pinned : Pinned := { name := "ytnjpcbbdhimacaadoor", sum := "6a2d2ce1fdd860494d68d36f9b7d37beac2f491d2a3d9db14e7267baff938431", checked := Tryd.checked }
namespace Rows
def none {H : Type} : Left H := { results := [], args := [] }

/- WHAT THE LISTED PACKAGE-LEVEL VARIABLES READ AS WHEN THE CALL BEGINS. Each datum BY PROGRAM (the guide's laid-datum.mjs) off the statement by which the dump's own 'gosem.cut.vars' lays the variable. In a bare row this is a premise. The card (YtnjpcbbdhimacaaDoorCards.lean) ties it to the program's text. -/
def laid_tollgate_hash_first {H : Type} : DataW H := .agg [.lit (.int .u32 1779033703), .lit (.int .u32 3144134277), .lit (.int .u32 1013904242), .lit (.int .u32 2773480762), .lit (.int .u32 1359893119), .lit (.int .u32 2600822924), .lit (.int .u32 528734635), .lit (.int .u32 1541459225)]
def laid_tollgate_hash_rounds {H : Type} : DataW H := .agg [.lit (.int .u32 1116352408), .lit (.int .u32 1899447441), .lit (.int .u32 3049323471), .lit (.int .u32 3921009573), .lit (.int .u32 961987163), .lit (.int .u32 1508970993), .lit (.int .u32 2453635748), .lit (.int .u32 2870763221), .lit (.int .u32 3624381080), .lit (.int .u32 310598401), .lit (.int .u32 607225278), .lit (.int .u32 1426881987), .lit (.int .u32 1925078388), .lit (.int .u32 2162078206), .lit (.int .u32 2614888103), .lit (.int .u32 3248222580), .lit (.int .u32 3835390401), .lit (.int .u32 4022224774), .lit (.int .u32 264347078), .lit (.int .u32 604807628), .lit (.int .u32 770255983), .lit (.int .u32 1249150122), .lit (.int .u32 1555081692), .lit (.int .u32 1996064986), .lit (.int .u32 2554220882), .lit (.int .u32 2821834349), .lit (.int .u32 2952996808), .lit (.int .u32 3210313671), .lit (.int .u32 3336571891), .lit (.int .u32 3584528711), .lit (.int .u32 113926993), .lit (.int .u32 338241895), .lit (.int .u32 666307205), .lit (.int .u32 773529912), .lit (.int .u32 1294757372), .lit (.int .u32 1396182291), .lit (.int .u32 1695183700), .lit (.int .u32 1986661051), .lit (.int .u32 2177026350), .lit (.int .u32 2456956037), .lit (.int .u32 2730485921), .lit (.int .u32 2820302411), .lit (.int .u32 3259730800), .lit (.int .u32 3345764771), .lit (.int .u32 3516065817), .lit (.int .u32 3600352804), .lit (.int .u32 4094571909), .lit (.int .u32 275423344), .lit (.int .u32 430227734), .lit (.int .u32 506948616), .lit (.int .u32 659060556), .lit (.int .u32 883997877), .lit (.int .u32 958139571), .lit (.int .u32 1322822218), .lit (.int .u32 1537002063), .lit (.int .u32 1747873779), .lit (.int .u32 1955562222), .lit (.int .u32 2024104815), .lit (.int .u32 2227730452), .lit (.int .u32 2361852424), .lit (.int .u32 2428436474), .lit (.int .u32 2756734187), .lit (.int .u32 3204031479), .lit (.int .u32 3329325298)]

/-- 'tollgatelaw12.RecordSeals': WHATEVER THE INPUT: true; the input reads as it did. -/
def recordSealsSpec : ChangeSpec := { name := "recordSeals", fn := fun _ => fun
  | [d1, d2] => { results := [.lit (.bool true)], args := [d1, d2] }
  | _ => none }
def recordSealsRow : OpenClaim := { program := "ytnjpcbbdhimacaadoor", sum := "6a2d2ce1fdd860494d68d36f9b7d37beac2f491d2a3d9db14e7267baff938431", func := "tollgate/tollgatelaw12.RecordSeals", spec := "recordSeals", unfollowed := true, recurses := true, named := ["tollgate/hash.first", "tollgate/hash.rounds"], apart := false, laid := [("tollgate/hash.first", laid_tollgate_hash_first), ("tollgate/hash.rounds", laid_tollgate_hash_rounds)] }
def RecordSealsSaid : Prop := recordSealsRow.holds Tryd.pinned (OpenSpec.ofChange recordSealsSpec)

/-- ITS FALSE NEIGHBOUR: 'it returns false'. Refute it at one input. -/
def recordSealsWrong : ChangeSpec := { name := "recordSeals", fn := fun _ => fun
  | [d1, d2] => { results := [.lit (.bool false)], args := [d1, d2] }
  | _ => none }
def RecordSealsWrongFalsely : Prop := recordSealsRow.holds Tryd.pinned (OpenSpec.ofChange recordSealsWrong)

/-- 'tollgatelaw12.RecordOpens': WHATEVER THE INPUT: true; the input reads as it did. -/
def recordOpensSpec : ChangeSpec := { name := "recordOpens", fn := fun _ => fun
  | [d1, d2, d3] => { results := [.lit (.bool true)], args := [d1, d2, d3] }
  | _ => none }
def recordOpensRow : OpenClaim := { program := "ytnjpcbbdhimacaadoor", sum := "6a2d2ce1fdd860494d68d36f9b7d37beac2f491d2a3d9db14e7267baff938431", func := "tollgate/tollgatelaw12.RecordOpens", spec := "recordOpens", unfollowed := true, recurses := true, named := ["tollgate/hash.first", "tollgate/hash.rounds"], apart := false, laid := [("tollgate/hash.first", laid_tollgate_hash_first), ("tollgate/hash.rounds", laid_tollgate_hash_rounds)] }
def RecordOpensSaid : Prop := recordOpensRow.holds Tryd.pinned (OpenSpec.ofChange recordOpensSpec)

/-- ITS FALSE NEIGHBOUR: 'it returns false'. Refute it at one input. -/
def recordOpensWrong : ChangeSpec := { name := "recordOpens", fn := fun _ => fun
  | [d1, d2, d3] => { results := [.lit (.bool false)], args := [d1, d2, d3] }
  | _ => none }
def RecordOpensWrongFalsely : Prop := recordOpensRow.holds Tryd.pinned (OpenSpec.ofChange recordOpensWrong)

/-- 'tollgatelaw12.RecordLong': WHATEVER THE INPUT: true; the input reads as it did. -/
def recordLongSpec : ChangeSpec := { name := "recordLong", fn := fun _ => fun
  | [d1, d2] => { results := [.lit (.bool true)], args := [d1, d2] }
  | _ => none }
def recordLongRow : OpenClaim := { program := "ytnjpcbbdhimacaadoor", sum := "6a2d2ce1fdd860494d68d36f9b7d37beac2f491d2a3d9db14e7267baff938431", func := "tollgate/tollgatelaw12.RecordLong", spec := "recordLong", unfollowed := true, recurses := true, named := ["tollgate/hash.first", "tollgate/hash.rounds"], apart := false, laid := [("tollgate/hash.first", laid_tollgate_hash_first), ("tollgate/hash.rounds", laid_tollgate_hash_rounds)] }
def RecordLongSaid : Prop := recordLongRow.holds Tryd.pinned (OpenSpec.ofChange recordLongSpec)

/-- ITS FALSE NEIGHBOUR: 'it returns false'. Refute it at one input. -/
def recordLongWrong : ChangeSpec := { name := "recordLong", fn := fun _ => fun
  | [d1, d2] => { results := [.lit (.bool false)], args := [d1, d2] }
  | _ => none }
def RecordLongWrongFalsely : Prop := recordLongRow.holds Tryd.pinned (OpenSpec.ofChange recordLongWrong)

/-- 'tollgatelaw12.RecordPads': WHATEVER THE INPUT: true; the input reads as it did. -/
def recordPadsSpec : ChangeSpec := { name := "recordPads", fn := fun _ => fun
  | [d1, d2, d3] => { results := [.lit (.bool true)], args := [d1, d2, d3] }
  | _ => none }
def recordPadsRow : OpenClaim := { program := "ytnjpcbbdhimacaadoor", sum := "6a2d2ce1fdd860494d68d36f9b7d37beac2f491d2a3d9db14e7267baff938431", func := "tollgate/tollgatelaw12.RecordPads", spec := "recordPads", unfollowed := true, recurses := true, named := ["tollgate/hash.first", "tollgate/hash.rounds"], apart := false, laid := [("tollgate/hash.first", laid_tollgate_hash_first), ("tollgate/hash.rounds", laid_tollgate_hash_rounds)] }
def RecordPadsSaid : Prop := recordPadsRow.holds Tryd.pinned (OpenSpec.ofChange recordPadsSpec)

/-- ITS FALSE NEIGHBOUR: 'it returns false'. Refute it at one input. -/
def recordPadsWrong : ChangeSpec := { name := "recordPads", fn := fun _ => fun
  | [d1, d2, d3] => { results := [.lit (.bool false)], args := [d1, d2, d3] }
  | _ => none }
def RecordPadsWrongFalsely : Prop := recordPadsRow.holds Tryd.pinned (OpenSpec.ofChange recordPadsWrong)

/-- 'tollgatetop.TollgateBoxes': WHATEVER THE INPUT: true; the input reads as it did. -/
def tollgateBoxesSpec : ChangeSpec := { name := "tollgateBoxes", fn := fun _ => fun
  | [d1, d2, d3] => { results := [.lit (.bool true)], args := [d1, d2, d3] }
  | _ => none }
def tollgateBoxesRow : OpenClaim := { program := "ytnjpcbbdhimacaadoor", sum := "6a2d2ce1fdd860494d68d36f9b7d37beac2f491d2a3d9db14e7267baff938431", func := "tollgate/tollgatetop.TollgateBoxes", spec := "tollgateBoxes", unfollowed := true, recurses := true, named := ["tollgate/hash.first", "tollgate/hash.rounds"], apart := false, laid := [("tollgate/hash.first", laid_tollgate_hash_first), ("tollgate/hash.rounds", laid_tollgate_hash_rounds)] }
def TollgateBoxesSaid : Prop := tollgateBoxesRow.holds Tryd.pinned (OpenSpec.ofChange tollgateBoxesSpec)

/-- ITS FALSE NEIGHBOUR: 'it returns false'. Refute it at one input. -/
def tollgateBoxesWrong : ChangeSpec := { name := "tollgateBoxes", fn := fun _ => fun
  | [d1, d2, d3] => { results := [.lit (.bool false)], args := [d1, d2, d3] }
  | _ => none }
def TollgateBoxesWrongFalsely : Prop := tollgateBoxesRow.holds Tryd.pinned (OpenSpec.ofChange tollgateBoxesWrong)

/-- 'tollgatetop.TollgateLines': WHATEVER THE INPUT: true; the input reads as it did. -/
def tollgateLinesSpec : ChangeSpec := { name := "tollgateLines", fn := fun _ => fun
  | [d1, d2] => { results := [.lit (.bool true)], args := [d1, d2] }
  | _ => none }
def tollgateLinesRow : OpenClaim := { program := "ytnjpcbbdhimacaadoor", sum := "6a2d2ce1fdd860494d68d36f9b7d37beac2f491d2a3d9db14e7267baff938431", func := "tollgate/tollgatetop.TollgateLines", spec := "tollgateLines", unfollowed := true, recurses := true, named := ["tollgate/hash.first", "tollgate/hash.rounds"], apart := false, laid := [("tollgate/hash.first", laid_tollgate_hash_first), ("tollgate/hash.rounds", laid_tollgate_hash_rounds)] }
def TollgateLinesSaid : Prop := tollgateLinesRow.holds Tryd.pinned (OpenSpec.ofChange tollgateLinesSpec)

/-- ITS FALSE NEIGHBOUR: 'it returns false'. Refute it at one input. -/
def tollgateLinesWrong : ChangeSpec := { name := "tollgateLines", fn := fun _ => fun
  | [d1, d2] => { results := [.lit (.bool false)], args := [d1, d2] }
  | _ => none }
def TollgateLinesWrongFalsely : Prop := tollgateLinesRow.holds Tryd.pinned (OpenSpec.ofChange tollgateLinesWrong)

/- THE SECOND FORM. 'bulk': how many values and letters a reading holds, each counted each time it is reached (what is shared counts as often as it is met; a slice's spare places count too). A statement '..UptoSaid' is the law's where the arguments, and the package variables that the reading takes, are together of bulk at most 1048576: NARROWER than '..Said'. Prove '..Said' where nothing that the law and all that it calls make is longer than what came in: it says more and counts as full. Else prove '..UptoSaid'. A law counts once. -/
mutual
def uptoBulk {H : Type} : DataW H → Nat
  | .lit (.string bytes) => bytes.length + 1
  | .lit _ => 1
  | .nil => 1
  | .ptr d => uptoBulk d + 1
  | .slice elems spare => uptoBulkAll elems + uptoBulkAll spare + 1
  | .agg parts => uptoBulkAll parts + 1
  | .iface _ d => uptoBulk d + 1
  | .map entries => uptoBulkEntries entries + 1
  | .held _ => 1
def uptoBulkAll {H : Type} : List (DataW H) → Nat
  | [] => 0
  | d :: r => uptoBulk d + uptoBulkAll r
def uptoBulkEntries {H : Type} : List (Lit × DataW H) → Nat
  | [] => 0
  | x :: r => uptoBulkEntry x + uptoBulkEntries r
def uptoBulkEntry {H : Type} : Lit × DataW H → Nat
  | (.string bytes, d) => bytes.length + uptoBulk d + 1
  | (_, d) => uptoBulk d + 1
 end
def uptoSmall : (H : Type) → List (DataW H) → Bool := fun _ ds => decide (uptoBulkAll ds ≤ 1048576)
def OpenSpec.upto (s : _root_.Go.ChangeSpec) : _root_.Go.OpenSpec := { _root_.Go.OpenSpec.ofChange s with cond := some uptoSmall }

/-- 'tollgatelaw12.RecordSeals', WHERE WHAT IT READS IS OF BULK AT MOST 1048576: true; the input reads as it did. -/
def recordSealsUptoRow : OpenClaim := { program := "ytnjpcbbdhimacaadoor", sum := "6a2d2ce1fdd860494d68d36f9b7d37beac2f491d2a3d9db14e7267baff938431", func := "tollgate/tollgatelaw12.RecordSeals", spec := "recordSeals", unfollowed := true, recurses := true, named := ["tollgate/hash.first", "tollgate/hash.rounds"], apart := false, laid := [("tollgate/hash.first", laid_tollgate_hash_first), ("tollgate/hash.rounds", laid_tollgate_hash_rounds)], narrowed := true }
def RecordSealsUptoSaid : Prop := recordSealsUptoRow.holds Tryd.pinned (OpenSpec.upto recordSealsSpec)

/-- 'tollgatelaw12.RecordOpens', WHERE WHAT IT READS IS OF BULK AT MOST 1048576: true; the input reads as it did. -/
def recordOpensUptoRow : OpenClaim := { program := "ytnjpcbbdhimacaadoor", sum := "6a2d2ce1fdd860494d68d36f9b7d37beac2f491d2a3d9db14e7267baff938431", func := "tollgate/tollgatelaw12.RecordOpens", spec := "recordOpens", unfollowed := true, recurses := true, named := ["tollgate/hash.first", "tollgate/hash.rounds"], apart := false, laid := [("tollgate/hash.first", laid_tollgate_hash_first), ("tollgate/hash.rounds", laid_tollgate_hash_rounds)], narrowed := true }
def RecordOpensUptoSaid : Prop := recordOpensUptoRow.holds Tryd.pinned (OpenSpec.upto recordOpensSpec)

/-- 'tollgatelaw12.RecordLong', WHERE WHAT IT READS IS OF BULK AT MOST 1048576: true; the input reads as it did. -/
def recordLongUptoRow : OpenClaim := { program := "ytnjpcbbdhimacaadoor", sum := "6a2d2ce1fdd860494d68d36f9b7d37beac2f491d2a3d9db14e7267baff938431", func := "tollgate/tollgatelaw12.RecordLong", spec := "recordLong", unfollowed := true, recurses := true, named := ["tollgate/hash.first", "tollgate/hash.rounds"], apart := false, laid := [("tollgate/hash.first", laid_tollgate_hash_first), ("tollgate/hash.rounds", laid_tollgate_hash_rounds)], narrowed := true }
def RecordLongUptoSaid : Prop := recordLongUptoRow.holds Tryd.pinned (OpenSpec.upto recordLongSpec)

/-- 'tollgatelaw12.RecordPads', WHERE WHAT IT READS IS OF BULK AT MOST 1048576: true; the input reads as it did. -/
def recordPadsUptoRow : OpenClaim := { program := "ytnjpcbbdhimacaadoor", sum := "6a2d2ce1fdd860494d68d36f9b7d37beac2f491d2a3d9db14e7267baff938431", func := "tollgate/tollgatelaw12.RecordPads", spec := "recordPads", unfollowed := true, recurses := true, named := ["tollgate/hash.first", "tollgate/hash.rounds"], apart := false, laid := [("tollgate/hash.first", laid_tollgate_hash_first), ("tollgate/hash.rounds", laid_tollgate_hash_rounds)], narrowed := true }
def RecordPadsUptoSaid : Prop := recordPadsUptoRow.holds Tryd.pinned (OpenSpec.upto recordPadsSpec)

/-- 'tollgatetop.TollgateBoxes', WHERE WHAT IT READS IS OF BULK AT MOST 1048576: true; the input reads as it did. -/
def tollgateBoxesUptoRow : OpenClaim := { program := "ytnjpcbbdhimacaadoor", sum := "6a2d2ce1fdd860494d68d36f9b7d37beac2f491d2a3d9db14e7267baff938431", func := "tollgate/tollgatetop.TollgateBoxes", spec := "tollgateBoxes", unfollowed := true, recurses := true, named := ["tollgate/hash.first", "tollgate/hash.rounds"], apart := false, laid := [("tollgate/hash.first", laid_tollgate_hash_first), ("tollgate/hash.rounds", laid_tollgate_hash_rounds)], narrowed := true }
def TollgateBoxesUptoSaid : Prop := tollgateBoxesUptoRow.holds Tryd.pinned (OpenSpec.upto tollgateBoxesSpec)

/-- 'tollgatetop.TollgateLines', WHERE WHAT IT READS IS OF BULK AT MOST 1048576: true; the input reads as it did. -/
def tollgateLinesUptoRow : OpenClaim := { program := "ytnjpcbbdhimacaadoor", sum := "6a2d2ce1fdd860494d68d36f9b7d37beac2f491d2a3d9db14e7267baff938431", func := "tollgate/tollgatetop.TollgateLines", spec := "tollgateLines", unfollowed := true, recurses := true, named := ["tollgate/hash.first", "tollgate/hash.rounds"], apart := false, laid := [("tollgate/hash.first", laid_tollgate_hash_first), ("tollgate/hash.rounds", laid_tollgate_hash_rounds)], narrowed := true }
def TollgateLinesUptoSaid : Prop := tollgateLinesUptoRow.holds Tryd.pinned (OpenSpec.upto tollgateLinesSpec)

end Rows
end Go.Proofs.YtnjpcbbdhimacaaDoor
