/-
  The contracts of the two turnings of a 32-bit word (math/bits.RotateLeft32 as the code calls it, and the document's own turn), for every word and every count in range.
-/
import Derived.Test.YtdjhempfpgcigaaDoorProg
import Derived.Test.YtdjhempfpgcigaaDoorSha
import Derived.Deep.QuietTactic
import Derived.BigQuiet
namespace Go.Proofs.YtdjhempfpgcigaaDoor
open Go.RowKit

theorem ret_val {a b : Value} (h : a = b) : Ending.returned a = Ending.returned b := by rw [h]

set_option maxHeartbeats 400000 in
theorem rotl_any (x : UInt32) (k : Int) (n : Nat) (w : World) (hn0 : 0 < n) (hn : n < 32) (hk : bits .and .u64 (IntKind.u64.wrap k) 31 = (n : Int)) :
    Calls Tryd.prog 64 #[.int .u32 x.toNat, .int .i64 k] w fun e w' => e = .returned (.int .u32 (rotl n x).toNat) ∧ w = w' := by
  have H1 := Lib.hid (w_shl x n hn)
  have H2 := Lib.hid (w_shr x (32 - n) (by omega))
  have hs : ((32 : Int) - n) = ((32 - n : Nat) : Int) := by omega
  have h0 : ¬ ((32 : Int) - n < 0) := by omega
  have e1 : min n 32 = n := by omega
  have e2 : min (32 - n) 32 = 32 - n := by omega
  go_enter Tryd.func64, Tryd.ntmps64
  go_wp2
  go_ret
  exact ⟨by rw [H1.out, H2.out, w_or]; rfl, rfl⟩

set_option maxHeartbeats 400000 in
theorem turn_any (x : UInt32) (n : Nat) (w : World) (hn0 : 0 < n) (hn : n < 32) :
    Calls Tryd.prog 44 #[.int .u32 x.toNat, .int .i64 n] w fun e w' => e = .returned (.int .u32 (rotr n x).toNat) ∧ ∃ k, w' = w.drewN k := by
  have H1 := Lib.hid (w_shl x (32 - n) (by omega))
  have H2 := Lib.hid (w_shr x n hn)
  have hs : ((32 : Int) - n) = ((32 - n : Nat) : Int) := by omega
  have h0 : ¬ ((32 : Int) - n < 0) := by omega
  have h1 : 0 ≤ (n : Int) := by omega
  have e1 : min n 32 = n := by omega
  have e2 : min (32 - n) 32 = 32 - n := by omega
  go_enter Tryd.func44, Tryd.ntmps44
  go_wp2
  go_quiet (fail)
  go_wp2
  go_ret
  refine ⟨?_, _, rfl⟩
  rw [H1.out, H2.out, w_or, rotr_flip]
  rfl

theorem neg_count : ∀ n : Fin 31, bits .and .u64 (IntKind.u64.wrap (-((n.val : Int) + 1))) 31 = ((31 - n.val : Nat) : Int) := by decide +kernel

/-- As the code calls it to turn to the right: by a count below nought. -/
theorem rot_any (x : UInt32) (k : Int) (w : World) (h0 : -31 ≤ k) (h1 : k ≤ -1) :
    Calls Tryd.prog 64 #[.int .u32 x.toNat, .int .i64 k] w fun e w' => e = .returned (.int .u32 (rotr (-k).toNat x).toNat) ∧ w = w' := by
  obtain ⟨n, hn⟩ : ∃ n : Nat, k = -((n : Int) + 1) := ⟨(-k - 1).toNat, by omega⟩
  subst hn
  have h := neg_count ⟨n, by omega⟩
  refine (rotl_any x _ (31 - n) w (by omega) (by omega) h).mono fun e w' ⟨he, hw⟩ => ⟨?_, hw⟩
  rw [he, show (-(-((n : Int) + 1))).toNat = n + 1 by omega, ← rotl_rotr (n + 1) (by omega), show 32 - (n + 1) = 31 - n by omega]
end Go.Proofs.YtdjhempfpgcigaaDoor
