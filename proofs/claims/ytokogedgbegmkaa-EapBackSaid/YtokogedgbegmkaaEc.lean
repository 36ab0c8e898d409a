/-
  The statements' own look at package eap, and EapEnds and EapLong.
-/
import Derived.Test.YtokogedgbegmkaaEb
import Derived.Lib.SlBytesConst
namespace Go.Proofs.Ytokogedgbegmkaa
open Go.RowKit

theorem buf_bob (W : World) : Buf (W.alloc (.cells #[.int .u8 98, .int .u8 111, .int .u8 98] 5 (3, 4))) W.heap.size (some ⟨W.heap.size, 0, none⟩) 3 3 [98, 111, 98] :=
  Buf.made _ _ 3 4 (Nat.le_refl _) rfl (Nat.le_refl _) (by unfold maxLen; omega) rfl (.inl (Nat.le_refl _)) (fun j hj => by
    obtain rfl | rfl | rfl : j = 0 ∨ j = 1 ∨ j = 2 := by omega
    · rfl
    · rfl
    · rfl)
set_option maxRecDepth 100000 in
set_option maxHeartbeats 1000000 in
theorem eaps_e (w : World) : Calls Try.prog 10 #[] w fun e w' => e = .returned (.bool true) ∧ Below w.heap.size w w' := by
  have hE : writeE 2 7 1 [98, 111, 98] = ([2, 7, 0, 8, 1, 98, 111, 98], 0) := by decide +kernel
  have hbw : Below w.heap.size w (w.alloc (.cells #[.int .u8 98, .int .u8 111, .int .u8 98] 5 (3, 4))) := (Below.refl _ _).alloc (Nat.le_refl _) _
  have hw := write_e 2 7 1 (some ⟨w.heap.size, 0, none⟩) 3 3 [98, 111, 98] _ rfl ((buf_bob w).toIn (Nat.le_refl _)) (by omega)
  rw [hE] at hw
  have HW := Lib.hid hw
  have HBW := Lib.hid hbw
  clear hE hbw hw
  go_enter Try.func10, Try.ntmps10
  have kc := fun (w : World) (C : Array Value) (n c : Nat) => Lib.run_convert_bytes_const (P := Try.prog) w 24 5 C n c Try.underlying24 Try.underlying5
  go_upto_region 2 with (go_at_call 8; refine HW.out.mono ?_; rintro e w2 ⟨A2, n2, c2, rfl, hB2, hb2⟩)
  have hcx : (convert 24 9 (.slice A2 n2 c2)).run Try.prog w2 = .ok (.string ⟨#[2, 7, 0, 8, 1, 98, 111, 98]⟩) w2 := conv_in hB2.1 (hB2.toIn (Nat.le_refl _))
  clear kc
  go_wp2
  go_ret
  exact ⟨rfl, HBW.out.trans (hb2.mono HBW.out.size)⟩
end Go.Proofs.Ytokogedgbegmkaa
