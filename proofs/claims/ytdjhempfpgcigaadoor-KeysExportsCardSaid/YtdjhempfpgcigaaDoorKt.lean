/-
  The library's strings.Repeat, of sixty-four spaces.
-/
import Derived.Test.YtdjhempfpgcigaaDoorKl
namespace Go.Proofs.YtdjhempfpgcigaaDoor
open Go.RowKit

set_option maxRecDepth 100000 in
set_option maxHeartbeats 1000000 in
theorem mul_64 (w : World) : Calls Tryd.prog 45 #[.int .u64 1, .int .u64 64] w fun e w' => e = .returned (.tuple #[.int .u64 0, .int .u64 64]) ∧ w' = w := by
  go_enter Tryd.func45, Tryd.ntmps45
  go_wp2
  all_goals go_ret2
  all_goals exact ⟨by kernel_rfl, rfl⟩
set_option maxRecDepth 100000 in
set_option maxHeartbeats 1000000 in
theorem hasPre (s p : ByteArray) (w : World) (hn : p.size ≤ s.size) (hb2 : ((s.extract 0 p.size).toList == p.toList) = true) : Calls Tryd.prog 46 #[.string s, .string p] w fun e w' => e = .returned (.bool true) ∧ w' = w := by
  have hx : (p.size : Int) ≤ (s.size : Int) := by omega
  have h1 : decide ((p.size : Int) ≤ (s.size : Int)) = true := by simp; omega
  have hl : decide ((s.size : Int) < (p.size : Int)) = false := by simp; omega
  go_enter Tryd.func46, Tryd.ntmps46
  go_wp2
  go_ret
  exact ⟨rfl, rfl⟩
set_option maxRecDepth 100000 in
set_option maxHeartbeats 1000000 in
theorem repeat_any (w : World) : Calls Tryd.prog 36 #[.string ⟨#[32]⟩, .int .i64 64] w fun e w' => e = .returned (.string ⟨(List.replicate 64 (32 : UInt8)).toArray⟩) ∧ w' = w := by
  go_enter Tryd.func36, Tryd.ntmps36
  go_wp2_with (first
    | (go_at_call 45; refine (mul_64 _).mono ?_; rintro e w' ⟨rfl, rfl⟩)
    | (go_at_call 46; refine (hasPre _ _ _ (by decide +kernel) (by decide +kernel)).mono ?_; rintro e w' ⟨rfl, rfl⟩))
  go_ret
  exact ⟨by kernel_rfl, rfl⟩
end Go.Proofs.YtdjhempfpgcigaaDoor
