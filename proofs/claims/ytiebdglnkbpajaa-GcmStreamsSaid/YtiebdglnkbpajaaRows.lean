/-
  No cell of these rows narrows 'for every input' (looked for: loops, veiled, ifaces, maps, wideKeys, modest, calm, conditions, laid).
  DERIVED. THE GIVEN ROWS OF THIS SEAT. 5 by the template 'for every input the law returns true; each argument reads behind the call as it read before'; 0 by the template 'total and deterministic' (their statements: YtiebdglnkbpajaaTotals.lean).
  GIVEN WITH THE SEED: the statements are not yours to turn. If you find one false, say at which input.
  Laid BY PROGRAM, IN A SANDBOX (cutbox-rows.mjs): the forced cells as the released guide's own fill.sh prints them over the translation 723be9f5a9372745… (all of the seat's roots in one cut). By AI agents, Wed Nov 11 2026. No macro, syntax, notation, axiom, sorry.
-/
import Derived.Test.YtiebdglnkbpajaaChecked
import GoSem.Claim
import GoSem.ClaimJoined
import GoSem.ClaimMapViews
import Derived.JoinedTies
import Derived.KernelRfl
namespace Go.Proofs.Ytiebdglnkbpajaa
/- THE CELL 'sum', in the pinned program and in every row, IS THE sha256 OF THE DUMP (.gsa) THAT YtiebdglnkbpajaaProg.lean LOADS. Nothing in Lean hashes anything: it is a label: what it is worth is what the hold of that sum in a sandbox is worth. -/
noncomputable def Try.pinned : Pinned := { name := "ytiebdglnkbpajaa", sum := "723be9f5a9372745321aeb49fd41b995bff7d10b2bd92229d344afb1b6fac210", checked := Try.checked }
namespace Rows
def none {H : Type} : Left H := { results := [], args := [] }

/-- 'tollgatelaw05.GcmProducts': WHATEVER THE INPUT: true; the input reads as it did. -/
def gcmProductsSpec : ChangeSpec := { name := "gcmProducts", fn := fun _ => fun
  | [d1, d2, d3] => { results := [.lit (.bool true)], args := [d1, d2, d3] }
  | _ => none }
def gcmProductsRow : OpenClaim := { program := "ytiebdglnkbpajaa", sum := "723be9f5a9372745321aeb49fd41b995bff7d10b2bd92229d344afb1b6fac210", func := "tollgate/tollgatelaw05.GcmProducts", spec := "gcmProducts", unfollowed := true, recurses := true, apart := false }
def GcmProductsSaid : Prop := gcmProductsRow.holds Try.pinned (OpenSpec.ofChange gcmProductsSpec)

/-- ITS FALSE NEIGHBOUR: 'it returns false'. Refute it at one input. -/
def gcmProductsWrong : ChangeSpec := { name := "gcmProducts", fn := fun _ => fun
  | [d1, d2, d3] => { results := [.lit (.bool false)], args := [d1, d2, d3] }
  | _ => none }
def GcmProductsWrongFalsely : Prop := gcmProductsRow.holds Try.pinned (OpenSpec.ofChange gcmProductsWrong)

/-- 'tollgatelaw05.GcmFolds': WHATEVER THE INPUT: true; the input reads as it did. -/
def gcmFoldsSpec : ChangeSpec := { name := "gcmFolds", fn := fun _ => fun
  | [d1, d2] => { results := [.lit (.bool true)], args := [d1, d2] }
  | _ => none }
def gcmFoldsRow : OpenClaim := { program := "ytiebdglnkbpajaa", sum := "723be9f5a9372745321aeb49fd41b995bff7d10b2bd92229d344afb1b6fac210", func := "tollgate/tollgatelaw05.GcmFolds", spec := "gcmFolds", unfollowed := true, recurses := true, apart := false }
def GcmFoldsSaid : Prop := gcmFoldsRow.holds Try.pinned (OpenSpec.ofChange gcmFoldsSpec)

/-- ITS FALSE NEIGHBOUR: 'it returns false'. Refute it at one input. -/
def gcmFoldsWrong : ChangeSpec := { name := "gcmFolds", fn := fun _ => fun
  | [d1, d2] => { results := [.lit (.bool false)], args := [d1, d2] }
  | _ => none }
def GcmFoldsWrongFalsely : Prop := gcmFoldsRow.holds Try.pinned (OpenSpec.ofChange gcmFoldsWrong)

/-- 'tollgatelaw05.GcmSizes': WHATEVER THE INPUT: true; the input reads as it did. -/
def gcmSizesSpec : ChangeSpec := { name := "gcmSizes", fn := fun _ => fun
  | [d] => { results := [.lit (.bool true)], args := [d] }
  | _ => none }
def gcmSizesRow : OpenClaim := { program := "ytiebdglnkbpajaa", sum := "723be9f5a9372745321aeb49fd41b995bff7d10b2bd92229d344afb1b6fac210", func := "tollgate/tollgatelaw05.GcmSizes", spec := "gcmSizes", unfollowed := true, recurses := true, apart := false }
def GcmSizesSaid : Prop := gcmSizesRow.holds Try.pinned (OpenSpec.ofChange gcmSizesSpec)

/-- ITS FALSE NEIGHBOUR: 'it returns false'. Refute it at one input. -/
def gcmSizesWrong : ChangeSpec := { name := "gcmSizes", fn := fun _ => fun
  | [d] => { results := [.lit (.bool false)], args := [d] }
  | _ => none }
def GcmSizesWrongFalsely : Prop := gcmSizesRow.holds Try.pinned (OpenSpec.ofChange gcmSizesWrong)

/-- 'tollgatelaw05.GcmStreams': WHATEVER THE INPUT: true; the input reads as it did. -/
def gcmStreamsSpec : ChangeSpec := { name := "gcmStreams", fn := fun _ => fun
  | [d1, d2] => { results := [.lit (.bool true)], args := [d1, d2] }
  | _ => none }
def gcmStreamsRow : OpenClaim := { program := "ytiebdglnkbpajaa", sum := "723be9f5a9372745321aeb49fd41b995bff7d10b2bd92229d344afb1b6fac210", func := "tollgate/tollgatelaw05.GcmStreams", spec := "gcmStreams", unfollowed := true, recurses := true, apart := false }
def GcmStreamsSaid : Prop := gcmStreamsRow.holds Try.pinned (OpenSpec.ofChange gcmStreamsSpec)

/-- ITS FALSE NEIGHBOUR: 'it returns false'. Refute it at one input. -/
def gcmStreamsWrong : ChangeSpec := { name := "gcmStreams", fn := fun _ => fun
  | [d1, d2] => { results := [.lit (.bool false)], args := [d1, d2] }
  | _ => none }
def GcmStreamsWrongFalsely : Prop := gcmStreamsRow.holds Try.pinned (OpenSpec.ofChange gcmStreamsWrong)

/-- 'tollgatelaw04.BlockSeals': WHATEVER THE INPUT: true; the input reads as it did. -/
def blockSealsSpec : ChangeSpec := { name := "blockSeals", fn := fun _ => fun
  | [d1, d2, d3] => { results := [.lit (.bool true)], args := [d1, d2, d3] }
  | _ => none }
def blockSealsRow : OpenClaim := { program := "ytiebdglnkbpajaa", sum := "723be9f5a9372745321aeb49fd41b995bff7d10b2bd92229d344afb1b6fac210", func := "tollgate/tollgatelaw04.BlockSeals", spec := "blockSeals", unfollowed := true, recurses := true, apart := false }
def BlockSealsSaid : Prop := blockSealsRow.holds Try.pinned (OpenSpec.ofChange blockSealsSpec)

/-- ITS FALSE NEIGHBOUR: 'it returns false'. Refute it at one input. -/
def blockSealsWrong : ChangeSpec := { name := "blockSeals", fn := fun _ => fun
  | [d1, d2, d3] => { results := [.lit (.bool false)], args := [d1, d2, d3] }
  | _ => none }
def BlockSealsWrongFalsely : Prop := blockSealsRow.holds Try.pinned (OpenSpec.ofChange blockSealsWrong)

/- THE SECOND FORM. 'bulk': how many values and letters a reading holds, each counted each time it is reached (what is shared counts as often as it is met; a slice's spare places count too). A statement '..UptoSaid' is the law's where the arguments, and the package variables that the reading takes, are together of bulk at most 1048576: NARROWER than '..Said'. Prove '..Said' where nothing that the law and all that it calls make is longer than what came in: it says more and counts as full. Else prove '..UptoSaid'. A law counts once. -/
mutual
def uptoBulk {H : Type} : DataW H → Nat
  | .lit (.string bytes) => bytes.length + 1
  | .lit _ => 1
  | .nil => 1
  | .ptr d => uptoBulk d + 1
  | .slice elems spare => uptoBulkAll elems + uptoBulkAll spare + 1
  | .agg parts => uptoBulkAll parts + 1
  | .iface _ d => uptoBulk d + 1
  | .map entries => uptoBulkEntries entries + 1
  | .held _ => 1
def uptoBulkAll {H : Type} : List (DataW H) → Nat
  | [] => 0
  | d :: r => uptoBulk d + uptoBulkAll r
def uptoBulkEntries {H : Type} : List (Lit × DataW H) → Nat
  | [] => 0
  | x :: r => uptoBulkEntry x + uptoBulkEntries r
def uptoBulkEntry {H : Type} : Lit × DataW H → Nat
  | (.string bytes, d) => bytes.length + uptoBulk d + 1
  | (_, d) => uptoBulk d + 1
 end
def uptoSmall : (H : Type) → List (DataW H) → Bool := fun _ ds => decide (uptoBulkAll ds ≤ 1048576)
def OpenSpec.upto (s : _root_.Go.ChangeSpec) : _root_.Go.OpenSpec := { _root_.Go.OpenSpec.ofChange s with cond := some uptoSmall }

/-- 'tollgatelaw05.GcmProducts', WHERE WHAT IT READS IS OF BULK AT MOST 1048576: true; the input reads as it did. -/
def gcmProductsUptoRow : OpenClaim := { program := "ytiebdglnkbpajaa", sum := "723be9f5a9372745321aeb49fd41b995bff7d10b2bd92229d344afb1b6fac210", func := "tollgate/tollgatelaw05.GcmProducts", spec := "gcmProducts", unfollowed := true, recurses := true, apart := false, narrowed := true }
def GcmProductsUptoSaid : Prop := gcmProductsUptoRow.holds Try.pinned (OpenSpec.upto gcmProductsSpec)

/-- 'tollgatelaw05.GcmFolds', WHERE WHAT IT READS IS OF BULK AT MOST 1048576: true; the input reads as it did. -/
def gcmFoldsUptoRow : OpenClaim := { program := "ytiebdglnkbpajaa", sum := "723be9f5a9372745321aeb49fd41b995bff7d10b2bd92229d344afb1b6fac210", func := "tollgate/tollgatelaw05.GcmFolds", spec := "gcmFolds", unfollowed := true, recurses := true, apart := false, narrowed := true }
def GcmFoldsUptoSaid : Prop := gcmFoldsUptoRow.holds Try.pinned (OpenSpec.upto gcmFoldsSpec)

/-- 'tollgatelaw05.GcmSizes', WHERE WHAT IT READS IS OF BULK AT MOST 1048576: true; the input reads as it did. -/
def gcmSizesUptoRow : OpenClaim := { program := "ytiebdglnkbpajaa", sum := "723be9f5a9372745321aeb49fd41b995bff7d10b2bd92229d344afb1b6fac210", func := "tollgate/tollgatelaw05.GcmSizes", spec := "gcmSizes", unfollowed := true, recurses := true, apart := false, narrowed := true }
def GcmSizesUptoSaid : Prop := gcmSizesUptoRow.holds Try.pinned (OpenSpec.upto gcmSizesSpec)

/-- 'tollgatelaw05.GcmStreams', WHERE WHAT IT READS IS OF BULK AT MOST 1048576: true; the input reads as it did. -/
def gcmStreamsUptoRow : OpenClaim := { program := "ytiebdglnkbpajaa", sum := "723be9f5a9372745321aeb49fd41b995bff7d10b2bd92229d344afb1b6fac210", func := "tollgate/tollgatelaw05.GcmStreams", spec := "gcmStreams", unfollowed := true, recurses := true, apart := false, narrowed := true }
def GcmStreamsUptoSaid : Prop := gcmStreamsUptoRow.holds Try.pinned (OpenSpec.upto gcmStreamsSpec)

/-- 'tollgatelaw04.BlockSeals', WHERE WHAT IT READS IS OF BULK AT MOST 1048576: true; the input reads as it did. -/
def blockSealsUptoRow : OpenClaim := { program := "ytiebdglnkbpajaa", sum := "723be9f5a9372745321aeb49fd41b995bff7d10b2bd92229d344afb1b6fac210", func := "tollgate/tollgatelaw04.BlockSeals", spec := "blockSeals", unfollowed := true, recurses := true, apart := false, narrowed := true }
def BlockSealsUptoSaid : Prop := blockSealsUptoRow.holds Try.pinned (OpenSpec.upto blockSealsSpec)

end Rows
end Go.Proofs.Ytiebdglnkbpajaa
