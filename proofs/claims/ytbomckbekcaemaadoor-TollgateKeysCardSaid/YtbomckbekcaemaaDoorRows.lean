/-
  NARROWER THAN 'FOR EVERY INPUT', by the rows' own cells (each row's printed sentence says how): RadiusWrites: laid · RadiusSeals: laid · RadiusOpens: laid · RadiusSplits: laid · RadiusRooms: laid · WrapWraps: laid · WrapUnwraps: laid · TollgateKeys: laid.
  DERIVED. THE GIVEN ROWS OF THIS SEAT. 8 by the template 'for every input the law returns true; each argument reads behind the call as it read before'; 0 by the template 'total and deterministic' (their statements: YtbomckbekcaemaaDoorTotals.lean).
  GIVEN WITH THE SEED: the statements are not yours to turn. If you find one false, say at which input.
  Laid BY PROGRAM, IN A SANDBOX (cutbox-rows.mjs): the forced cells as the released guide's own fill.sh prints them over the translation 475f5a85393eacc6… (all of the seat's roots in one cut). By AI agents, Wed Nov 11 2026. No macro, syntax, notation, axiom, sorry.
-/
import Derived.Test.YtbomckbekcaemaaDoorChecked
import GoSem.Claim
import GoSem.ClaimJoined
import GoSem.ClaimMapViews
import Derived.JoinedTies
import Derived.KernelRfl
namespace Go.Proofs.YtbomckbekcaemaaDoor
/- THE CELL 'sum', in the pinned program and in every row, IS THE sha256 OF THE DUMP (.gsa) THAT YtbomckbekcaemaaDoorProg.lean LOADS. Nothing in Lean hashes anything: it is a label: what it is worth is what the hold of that sum in a sandbox is worth. -/
noncomputable def Tryd.pinned : Pinned := { name := "ytbomckbekcaemaadoor", sum := "475f5a85393eacc6a7c815408af9891bd2425bf03847747dcbfacd3f1321157f", checked := Tryd.checked }
namespace Rows
def none {H : Type} : Left H := { results := [], args := [] }

/- WHAT THE LISTED PACKAGE-LEVEL VARIABLES READ AS WHEN THE CALL BEGINS. Each datum BY PROGRAM (the guide's laid-datum.mjs) off the statement by which the dump's own 'gosem.cut.vars' lays the variable. In a bare row this is a premise. The card (YtbomckbekcaemaaDoorCards.lean) ties it to the program's text. -/
def laid_tollgate_old_sines {H : Type} : DataW H := .agg [.lit (.int .u32 3614090360), .lit (.int .u32 3905402710), .lit (.int .u32 606105819), .lit (.int .u32 3250441966), .lit (.int .u32 4118548399), .lit (.int .u32 1200080426), .lit (.int .u32 2821735955), .lit (.int .u32 4249261313), .lit (.int .u32 1770035416), .lit (.int .u32 2336552879), .lit (.int .u32 4294925233), .lit (.int .u32 2304563134), .lit (.int .u32 1804603682), .lit (.int .u32 4254626195), .lit (.int .u32 2792965006), .lit (.int .u32 1236535329), .lit (.int .u32 4129170786), .lit (.int .u32 3225465664), .lit (.int .u32 643717713), .lit (.int .u32 3921069994), .lit (.int .u32 3593408605), .lit (.int .u32 38016083), .lit (.int .u32 3634488961), .lit (.int .u32 3889429448), .lit (.int .u32 568446438), .lit (.int .u32 3275163606), .lit (.int .u32 4107603335), .lit (.int .u32 1163531501), .lit (.int .u32 2850285829), .lit (.int .u32 4243563512), .lit (.int .u32 1735328473), .lit (.int .u32 2368359562), .lit (.int .u32 4294588738), .lit (.int .u32 2272392833), .lit (.int .u32 1839030562), .lit (.int .u32 4259657740), .lit (.int .u32 2763975236), .lit (.int .u32 1272893353), .lit (.int .u32 4139469664), .lit (.int .u32 3200236656), .lit (.int .u32 681279174), .lit (.int .u32 3936430074), .lit (.int .u32 3572445317), .lit (.int .u32 76029189), .lit (.int .u32 3654602809), .lit (.int .u32 3873151461), .lit (.int .u32 530742520), .lit (.int .u32 3299628645), .lit (.int .u32 4096336452), .lit (.int .u32 1126891415), .lit (.int .u32 2878612391), .lit (.int .u32 4237533241), .lit (.int .u32 1700485571), .lit (.int .u32 2399980690), .lit (.int .u32 4293915773), .lit (.int .u32 2240044497), .lit (.int .u32 1873313359), .lit (.int .u32 4264355552), .lit (.int .u32 2734768916), .lit (.int .u32 1309151649), .lit (.int .u32 4149444226), .lit (.int .u32 3174756917), .lit (.int .u32 718787259), .lit (.int .u32 3951481745)]
def laid_tollgate_old_shifts {H : Type} : DataW H := .agg [.lit (.int .i64 7), .lit (.int .i64 12), .lit (.int .i64 17), .lit (.int .i64 22), .lit (.int .i64 5), .lit (.int .i64 9), .lit (.int .i64 14), .lit (.int .i64 20), .lit (.int .i64 4), .lit (.int .i64 11), .lit (.int .i64 16), .lit (.int .i64 23), .lit (.int .i64 6), .lit (.int .i64 10), .lit (.int .i64 15), .lit (.int .i64 21)]
def laid_tollgate_hash_first {H : Type} : DataW H := .agg [.lit (.int .u32 1779033703), .lit (.int .u32 3144134277), .lit (.int .u32 1013904242), .lit (.int .u32 2773480762), .lit (.int .u32 1359893119), .lit (.int .u32 2600822924), .lit (.int .u32 528734635), .lit (.int .u32 1541459225)]
def laid_tollgate_hash_rounds {H : Type} : DataW H := .agg [.lit (.int .u32 1116352408), .lit (.int .u32 1899447441), .lit (.int .u32 3049323471), .lit (.int .u32 3921009573), .lit (.int .u32 961987163), .lit (.int .u32 1508970993), .lit (.int .u32 2453635748), .lit (.int .u32 2870763221), .lit (.int .u32 3624381080), .lit (.int .u32 310598401), .lit (.int .u32 607225278), .lit (.int .u32 1426881987), .lit (.int .u32 1925078388), .lit (.int .u32 2162078206), .lit (.int .u32 2614888103), .lit (.int .u32 3248222580), .lit (.int .u32 3835390401), .lit (.int .u32 4022224774), .lit (.int .u32 264347078), .lit (.int .u32 604807628), .lit (.int .u32 770255983), .lit (.int .u32 1249150122), .lit (.int .u32 1555081692), .lit (.int .u32 1996064986), .lit (.int .u32 2554220882), .lit (.int .u32 2821834349), .lit (.int .u32 2952996808), .lit (.int .u32 3210313671), .lit (.int .u32 3336571891), .lit (.int .u32 3584528711), .lit (.int .u32 113926993), .lit (.int .u32 338241895), .lit (.int .u32 666307205), .lit (.int .u32 773529912), .lit (.int .u32 1294757372), .lit (.int .u32 1396182291), .lit (.int .u32 1695183700), .lit (.int .u32 1986661051), .lit (.int .u32 2177026350), .lit (.int .u32 2456956037), .lit (.int .u32 2730485921), .lit (.int .u32 2820302411), .lit (.int .u32 3259730800), .lit (.int .u32 3345764771), .lit (.int .u32 3516065817), .lit (.int .u32 3600352804), .lit (.int .u32 4094571909), .lit (.int .u32 275423344), .lit (.int .u32 430227734), .lit (.int .u32 506948616), .lit (.int .u32 659060556), .lit (.int .u32 883997877), .lit (.int .u32 958139571), .lit (.int .u32 1322822218), .lit (.int .u32 1537002063), .lit (.int .u32 1747873779), .lit (.int .u32 1955562222), .lit (.int .u32 2024104815), .lit (.int .u32 2227730452), .lit (.int .u32 2361852424), .lit (.int .u32 2428436474), .lit (.int .u32 2756734187), .lit (.int .u32 3204031479), .lit (.int .u32 3329325298)]

/-- 'tollgatelaw19.RadiusWrites': WHATEVER THE INPUT: true; the input reads as it did. -/
def radiusWritesSpec : ChangeSpec := { name := "radiusWrites", fn := fun _ => fun
  | [d1, d2] => { results := [.lit (.bool true)], args := [d1, d2] }
  | _ => none }
def radiusWritesRow : OpenClaim := { program := "ytbomckbekcaemaadoor", sum := "475f5a85393eacc6a7c815408af9891bd2425bf03847747dcbfacd3f1321157f", func := "tollgate/tollgatelaw19.RadiusWrites", spec := "radiusWrites", unfollowed := true, recurses := true, named := ["tollgate/old.sines", "tollgate/old.shifts"], apart := false, laid := [("tollgate/old.sines", laid_tollgate_old_sines), ("tollgate/old.shifts", laid_tollgate_old_shifts)] }
def RadiusWritesSaid : Prop := radiusWritesRow.holds Tryd.pinned (OpenSpec.ofChange radiusWritesSpec)

/-- ITS FALSE NEIGHBOUR: 'it returns false'. Refute it at one input. -/
def radiusWritesWrong : ChangeSpec := { name := "radiusWrites", fn := fun _ => fun
  | [d1, d2] => { results := [.lit (.bool false)], args := [d1, d2] }
  | _ => none }
def RadiusWritesWrongFalsely : Prop := radiusWritesRow.holds Tryd.pinned (OpenSpec.ofChange radiusWritesWrong)

/-- 'tollgatelaw19.RadiusSeals': WHATEVER THE INPUT: true; the input reads as it did. -/
def radiusSealsSpec : ChangeSpec := { name := "radiusSeals", fn := fun _ => fun
  | [d1, d2, d3] => { results := [.lit (.bool true)], args := [d1, d2, d3] }
  | _ => none }
def radiusSealsRow : OpenClaim := { program := "ytbomckbekcaemaadoor", sum := "475f5a85393eacc6a7c815408af9891bd2425bf03847747dcbfacd3f1321157f", func := "tollgate/tollgatelaw19.RadiusSeals", spec := "radiusSeals", unfollowed := true, recurses := true, named := ["tollgate/old.sines", "tollgate/old.shifts"], apart := false, laid := [("tollgate/old.sines", laid_tollgate_old_sines), ("tollgate/old.shifts", laid_tollgate_old_shifts)] }
def RadiusSealsSaid : Prop := radiusSealsRow.holds Tryd.pinned (OpenSpec.ofChange radiusSealsSpec)

/-- ITS FALSE NEIGHBOUR: 'it returns false'. Refute it at one input. -/
def radiusSealsWrong : ChangeSpec := { name := "radiusSeals", fn := fun _ => fun
  | [d1, d2, d3] => { results := [.lit (.bool false)], args := [d1, d2, d3] }
  | _ => none }
def RadiusSealsWrongFalsely : Prop := radiusSealsRow.holds Tryd.pinned (OpenSpec.ofChange radiusSealsWrong)

/-- 'tollgatelaw19.RadiusOpens': WHATEVER THE INPUT: true; the input reads as it did. -/
def radiusOpensSpec : ChangeSpec := { name := "radiusOpens", fn := fun _ => fun
  | [d1, d2, d3] => { results := [.lit (.bool true)], args := [d1, d2, d3] }
  | _ => none }
def radiusOpensRow : OpenClaim := { program := "ytbomckbekcaemaadoor", sum := "475f5a85393eacc6a7c815408af9891bd2425bf03847747dcbfacd3f1321157f", func := "tollgate/tollgatelaw19.RadiusOpens", spec := "radiusOpens", unfollowed := true, recurses := true, named := ["tollgate/old.sines", "tollgate/old.shifts"], apart := false, laid := [("tollgate/old.sines", laid_tollgate_old_sines), ("tollgate/old.shifts", laid_tollgate_old_shifts)] }
def RadiusOpensSaid : Prop := radiusOpensRow.holds Tryd.pinned (OpenSpec.ofChange radiusOpensSpec)

/-- ITS FALSE NEIGHBOUR: 'it returns false'. Refute it at one input. -/
def radiusOpensWrong : ChangeSpec := { name := "radiusOpens", fn := fun _ => fun
  | [d1, d2, d3] => { results := [.lit (.bool false)], args := [d1, d2, d3] }
  | _ => none }
def RadiusOpensWrongFalsely : Prop := radiusOpensRow.holds Tryd.pinned (OpenSpec.ofChange radiusOpensWrong)

/-- 'tollgatelaw19.RadiusSplits': WHATEVER THE INPUT: true; the input reads as it did. -/
def radiusSplitsSpec : ChangeSpec := { name := "radiusSplits", fn := fun _ => fun
  | [d1, d2, d3] => { results := [.lit (.bool true)], args := [d1, d2, d3] }
  | _ => none }
def radiusSplitsRow : OpenClaim := { program := "ytbomckbekcaemaadoor", sum := "475f5a85393eacc6a7c815408af9891bd2425bf03847747dcbfacd3f1321157f", func := "tollgate/tollgatelaw19.RadiusSplits", spec := "radiusSplits", unfollowed := true, recurses := true, named := ["tollgate/old.sines", "tollgate/old.shifts"], apart := false, laid := [("tollgate/old.sines", laid_tollgate_old_sines), ("tollgate/old.shifts", laid_tollgate_old_shifts)] }
def RadiusSplitsSaid : Prop := radiusSplitsRow.holds Tryd.pinned (OpenSpec.ofChange radiusSplitsSpec)

/-- ITS FALSE NEIGHBOUR: 'it returns false'. Refute it at one input. -/
def radiusSplitsWrong : ChangeSpec := { name := "radiusSplits", fn := fun _ => fun
  | [d1, d2, d3] => { results := [.lit (.bool false)], args := [d1, d2, d3] }
  | _ => none }
def RadiusSplitsWrongFalsely : Prop := radiusSplitsRow.holds Tryd.pinned (OpenSpec.ofChange radiusSplitsWrong)

/-- 'tollgatelaw19.RadiusRooms': WHATEVER THE INPUT: true; the input reads as it did. -/
def radiusRoomsSpec : ChangeSpec := { name := "radiusRooms", fn := fun _ => fun
  | [d] => { results := [.lit (.bool true)], args := [d] }
  | _ => none }
def radiusRoomsRow : OpenClaim := { program := "ytbomckbekcaemaadoor", sum := "475f5a85393eacc6a7c815408af9891bd2425bf03847747dcbfacd3f1321157f", func := "tollgate/tollgatelaw19.RadiusRooms", spec := "radiusRooms", unfollowed := true, recurses := true, named := ["tollgate/old.sines", "tollgate/old.shifts"], apart := false, laid := [("tollgate/old.sines", laid_tollgate_old_sines), ("tollgate/old.shifts", laid_tollgate_old_shifts)] }
def RadiusRoomsSaid : Prop := radiusRoomsRow.holds Tryd.pinned (OpenSpec.ofChange radiusRoomsSpec)

/-- ITS FALSE NEIGHBOUR: 'it returns false'. Refute it at one input. -/
def radiusRoomsWrong : ChangeSpec := { name := "radiusRooms", fn := fun _ => fun
  | [d] => { results := [.lit (.bool false)], args := [d] }
  | _ => none }
def RadiusRoomsWrongFalsely : Prop := radiusRoomsRow.holds Tryd.pinned (OpenSpec.ofChange radiusRoomsWrong)

/-- 'tollgatelaw20.WrapWraps': WHATEVER THE INPUT: true; the input reads as it did. -/
def wrapWrapsSpec : ChangeSpec := { name := "wrapWraps", fn := fun _ => fun
  | [d] => { results := [.lit (.bool true)], args := [d] }
  | _ => none }
def wrapWrapsRow : OpenClaim := { program := "ytbomckbekcaemaadoor", sum := "475f5a85393eacc6a7c815408af9891bd2425bf03847747dcbfacd3f1321157f", func := "tollgate/tollgatelaw20.WrapWraps", spec := "wrapWraps", named := ["tollgate/old.sines", "tollgate/old.shifts"], apart := false, laid := [("tollgate/old.sines", laid_tollgate_old_sines), ("tollgate/old.shifts", laid_tollgate_old_shifts)] }
def WrapWrapsSaid : Prop := wrapWrapsRow.holds Tryd.pinned (OpenSpec.ofChange wrapWrapsSpec)

/-- ITS FALSE NEIGHBOUR: 'it returns false'. Refute it at one input. -/
def wrapWrapsWrong : ChangeSpec := { name := "wrapWraps", fn := fun _ => fun
  | [d] => { results := [.lit (.bool false)], args := [d] }
  | _ => none }
def WrapWrapsWrongFalsely : Prop := wrapWrapsRow.holds Tryd.pinned (OpenSpec.ofChange wrapWrapsWrong)

/-- 'tollgatelaw20.WrapUnwraps': WHATEVER THE INPUT: true; the input reads as it did. -/
def wrapUnwrapsSpec : ChangeSpec := { name := "wrapUnwraps", fn := fun _ => fun
  | [d1, d2, d3] => { results := [.lit (.bool true)], args := [d1, d2, d3] }
  | _ => none }
def wrapUnwrapsRow : OpenClaim := { program := "ytbomckbekcaemaadoor", sum := "475f5a85393eacc6a7c815408af9891bd2425bf03847747dcbfacd3f1321157f", func := "tollgate/tollgatelaw20.WrapUnwraps", spec := "wrapUnwraps", named := ["tollgate/old.sines", "tollgate/old.shifts"], apart := false, laid := [("tollgate/old.sines", laid_tollgate_old_sines), ("tollgate/old.shifts", laid_tollgate_old_shifts)] }
def WrapUnwrapsSaid : Prop := wrapUnwrapsRow.holds Tryd.pinned (OpenSpec.ofChange wrapUnwrapsSpec)

/-- ITS FALSE NEIGHBOUR: 'it returns false'. Refute it at one input. -/
def wrapUnwrapsWrong : ChangeSpec := { name := "wrapUnwraps", fn := fun _ => fun
  | [d1, d2, d3] => { results := [.lit (.bool false)], args := [d1, d2, d3] }
  | _ => none }
def WrapUnwrapsWrongFalsely : Prop := wrapUnwrapsRow.holds Tryd.pinned (OpenSpec.ofChange wrapUnwrapsWrong)

/-- 'tollgatetop.TollgateKeys': WHATEVER THE INPUT: true; the input reads as it did. -/
def tollgateKeysSpec : ChangeSpec := { name := "tollgateKeys", fn := fun _ => fun
  | [d1, d2, d3] => { results := [.lit (.bool true)], args := [d1, d2, d3] }
  | _ => none }
def tollgateKeysRow : OpenClaim := { program := "ytbomckbekcaemaadoor", sum := "475f5a85393eacc6a7c815408af9891bd2425bf03847747dcbfacd3f1321157f", func := "tollgate/tollgatetop.TollgateKeys", spec := "tollgateKeys", unfollowed := true, recurses := true, named := ["tollgate/old.sines", "tollgate/old.shifts", "tollgate/hash.first", "tollgate/hash.rounds"], apart := false, laid := [("tollgate/hash.first", laid_tollgate_hash_first), ("tollgate/hash.rounds", laid_tollgate_hash_rounds), ("tollgate/old.sines", laid_tollgate_old_sines), ("tollgate/old.shifts", laid_tollgate_old_shifts)] }
def TollgateKeysSaid : Prop := tollgateKeysRow.holds Tryd.pinned (OpenSpec.ofChange tollgateKeysSpec)

/-- ITS FALSE NEIGHBOUR: 'it returns false'. Refute it at one input. -/
def tollgateKeysWrong : ChangeSpec := { name := "tollgateKeys", fn := fun _ => fun
  | [d1, d2, d3] => { results := [.lit (.bool false)], args := [d1, d2, d3] }
  | _ => none }
def TollgateKeysWrongFalsely : Prop := tollgateKeysRow.holds Tryd.pinned (OpenSpec.ofChange tollgateKeysWrong)

/- THE SECOND FORM. 'bulk': how many values and letters a reading holds, each counted each time it is reached (what is shared counts as often as it is met; a slice's spare places count too). A statement '..UptoSaid' is the law's where the arguments, and the package variables that the reading takes, are together of bulk at most 1048576: NARROWER than '..Said'. Prove '..Said' where nothing that the law and all that it calls make is longer than what came in: it says more and counts as full. Else prove '..UptoSaid'. A law counts once. -/
mutual
def uptoBulk {H : Type} : DataW H → Nat
  | .lit (.string bytes) => bytes.length + 1
  | .lit _ => 1
  | .nil => 1
  | .ptr d => uptoBulk d + 1
  | .slice elems spare => uptoBulkAll elems + uptoBulkAll spare + 1
  | .agg parts => uptoBulkAll parts + 1
  | .iface _ d => uptoBulk d + 1
  | .map entries => uptoBulkEntries entries + 1
  | .held _ => 1
def uptoBulkAll {H : Type} : List (DataW H) → Nat
  | [] => 0
  | d :: r => uptoBulk d + uptoBulkAll r
def uptoBulkEntries {H : Type} : List (Lit × DataW H) → Nat
  | [] => 0
  | x :: r => uptoBulkEntry x + uptoBulkEntries r
def uptoBulkEntry {H : Type} : Lit × DataW H → Nat
  | (.string bytes, d) => bytes.length + uptoBulk d + 1
  | (_, d) => uptoBulk d + 1
 end
def uptoSmall : (H : Type) → List (DataW H) → Bool := fun _ ds => decide (uptoBulkAll ds ≤ 1048576)
def OpenSpec.upto (s : _root_.Go.ChangeSpec) : _root_.Go.OpenSpec := { _root_.Go.OpenSpec.ofChange s with cond := some uptoSmall }

/-- 'tollgatelaw19.RadiusWrites', WHERE WHAT IT READS IS OF BULK AT MOST 1048576: true; the input reads as it did. -/
def radiusWritesUptoRow : OpenClaim := { program := "ytbomckbekcaemaadoor", sum := "475f5a85393eacc6a7c815408af9891bd2425bf03847747dcbfacd3f1321157f", func := "tollgate/tollgatelaw19.RadiusWrites", spec := "radiusWrites", unfollowed := true, recurses := true, named := ["tollgate/old.sines", "tollgate/old.shifts"], apart := false, laid := [("tollgate/old.sines", laid_tollgate_old_sines), ("tollgate/old.shifts", laid_tollgate_old_shifts)], narrowed := true }
def RadiusWritesUptoSaid : Prop := radiusWritesUptoRow.holds Tryd.pinned (OpenSpec.upto radiusWritesSpec)

/-- 'tollgatelaw19.RadiusSeals', WHERE WHAT IT READS IS OF BULK AT MOST 1048576: true; the input reads as it did. -/
def radiusSealsUptoRow : OpenClaim := { program := "ytbomckbekcaemaadoor", sum := "475f5a85393eacc6a7c815408af9891bd2425bf03847747dcbfacd3f1321157f", func := "tollgate/tollgatelaw19.RadiusSeals", spec := "radiusSeals", unfollowed := true, recurses := true, named := ["tollgate/old.sines", "tollgate/old.shifts"], apart := false, laid := [("tollgate/old.sines", laid_tollgate_old_sines), ("tollgate/old.shifts", laid_tollgate_old_shifts)], narrowed := true }
def RadiusSealsUptoSaid : Prop := radiusSealsUptoRow.holds Tryd.pinned (OpenSpec.upto radiusSealsSpec)

/-- 'tollgatelaw19.RadiusOpens', WHERE WHAT IT READS IS OF BULK AT MOST 1048576: true; the input reads as it did. -/
def radiusOpensUptoRow : OpenClaim := { program := "ytbomckbekcaemaadoor", sum := "475f5a85393eacc6a7c815408af9891bd2425bf03847747dcbfacd3f1321157f", func := "tollgate/tollgatelaw19.RadiusOpens", spec := "radiusOpens", unfollowed := true, recurses := true, named := ["tollgate/old.sines", "tollgate/old.shifts"], apart := false, laid := [("tollgate/old.sines", laid_tollgate_old_sines), ("tollgate/old.shifts", laid_tollgate_old_shifts)], narrowed := true }
def RadiusOpensUptoSaid : Prop := radiusOpensUptoRow.holds Tryd.pinned (OpenSpec.upto radiusOpensSpec)

/-- 'tollgatelaw19.RadiusSplits', WHERE WHAT IT READS IS OF BULK AT MOST 1048576: true; the input reads as it did. -/
def radiusSplitsUptoRow : OpenClaim := { program := "ytbomckbekcaemaadoor", sum := "475f5a85393eacc6a7c815408af9891bd2425bf03847747dcbfacd3f1321157f", func := "tollgate/tollgatelaw19.RadiusSplits", spec := "radiusSplits", unfollowed := true, recurses := true, named := ["tollgate/old.sines", "tollgate/old.shifts"], apart := false, laid := [("tollgate/old.sines", laid_tollgate_old_sines), ("tollgate/old.shifts", laid_tollgate_old_shifts)], narrowed := true }
def RadiusSplitsUptoSaid : Prop := radiusSplitsUptoRow.holds Tryd.pinned (OpenSpec.upto radiusSplitsSpec)

/-- 'tollgatelaw19.RadiusRooms', WHERE WHAT IT READS IS OF BULK AT MOST 1048576: true; the input reads as it did. -/
def radiusRoomsUptoRow : OpenClaim := { program := "ytbomckbekcaemaadoor", sum := "475f5a85393eacc6a7c815408af9891bd2425bf03847747dcbfacd3f1321157f", func := "tollgate/tollgatelaw19.RadiusRooms", spec := "radiusRooms", unfollowed := true, recurses := true, named := ["tollgate/old.sines", "tollgate/old.shifts"], apart := false, laid := [("tollgate/old.sines", laid_tollgate_old_sines), ("tollgate/old.shifts", laid_tollgate_old_shifts)], narrowed := true }
def RadiusRoomsUptoSaid : Prop := radiusRoomsUptoRow.holds Tryd.pinned (OpenSpec.upto radiusRoomsSpec)

/-- 'tollgatelaw20.WrapWraps', WHERE WHAT IT READS IS OF BULK AT MOST 1048576: true; the input reads as it did. -/
def wrapWrapsUptoRow : OpenClaim := { program := "ytbomckbekcaemaadoor", sum := "475f5a85393eacc6a7c815408af9891bd2425bf03847747dcbfacd3f1321157f", func := "tollgate/tollgatelaw20.WrapWraps", spec := "wrapWraps", named := ["tollgate/old.sines", "tollgate/old.shifts"], apart := false, laid := [("tollgate/old.sines", laid_tollgate_old_sines), ("tollgate/old.shifts", laid_tollgate_old_shifts)], narrowed := true }
def WrapWrapsUptoSaid : Prop := wrapWrapsUptoRow.holds Tryd.pinned (OpenSpec.upto wrapWrapsSpec)

/-- 'tollgatelaw20.WrapUnwraps', WHERE WHAT IT READS IS OF BULK AT MOST 1048576: true; the input reads as it did. -/
def wrapUnwrapsUptoRow : OpenClaim := { program := "ytbomckbekcaemaadoor", sum := "475f5a85393eacc6a7c815408af9891bd2425bf03847747dcbfacd3f1321157f", func := "tollgate/tollgatelaw20.WrapUnwraps", spec := "wrapUnwraps", named := ["tollgate/old.sines", "tollgate/old.shifts"], apart := false, laid := [("tollgate/old.sines", laid_tollgate_old_sines), ("tollgate/old.shifts", laid_tollgate_old_shifts)], narrowed := true }
def WrapUnwrapsUptoSaid : Prop := wrapUnwrapsUptoRow.holds Tryd.pinned (OpenSpec.upto wrapUnwrapsSpec)

/-- 'tollgatetop.TollgateKeys', WHERE WHAT IT READS IS OF BULK AT MOST 1048576: true; the input reads as it did. -/
def tollgateKeysUptoRow : OpenClaim := { program := "ytbomckbekcaemaadoor", sum := "475f5a85393eacc6a7c815408af9891bd2425bf03847747dcbfacd3f1321157f", func := "tollgate/tollgatetop.TollgateKeys", spec := "tollgateKeys", unfollowed := true, recurses := true, named := ["tollgate/old.sines", "tollgate/old.shifts", "tollgate/hash.first", "tollgate/hash.rounds"], apart := false, laid := [("tollgate/hash.first", laid_tollgate_hash_first), ("tollgate/hash.rounds", laid_tollgate_hash_rounds), ("tollgate/old.sines", laid_tollgate_old_sines), ("tollgate/old.shifts", laid_tollgate_old_shifts)], narrowed := true }
def TollgateKeysUptoSaid : Prop := tollgateKeysUptoRow.holds Tryd.pinned (OpenSpec.upto tollgateKeysSpec)

end Rows
end Go.Proofs.YtbomckbekcaemaaDoor
