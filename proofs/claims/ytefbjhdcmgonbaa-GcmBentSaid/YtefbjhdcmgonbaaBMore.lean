/-
  A block turned often, and turned back as often; blocks that differ.
-/
import Derived.Test.YtefbjhdcmgonbaaBNil
namespace Go.Proofs.Ytefbjhdcmgonbaa
open Go.RowKit

def sealN (L : List UInt32) (R : Nat) (b : List UInt8) : Nat → List UInt8
  | 0 => b
  | i + 1 => sealS L R (sealN L R b i)
theorem sealN_length {L : List UInt32} {R : Nat} {b : List UInt8} (hb : b.length = 16) (i : Nat) : (sealN L R b i).length = 16 := by
  cases i with
  | zero => exact hb
  | succ i => exact sealS_length _ _ _
/-- One turn back of a block that was turned i + 1 times. -/
theorem open_sealN {L : List UInt32} {R : Nat} {b : List UInt8} (hF : Four L R) (hR : 2 ≤ R) (hb : b.length = 16) (i : Nat) : openS L R (sealN L R b (i + 1)) = sealN L R b i :=
  open_seal L R hF hR _ (sealN_length hb i)
theorem sealS_inj {L : List UInt32} {R : Nat} {a b : List UInt8} (hF : Four L R) (hR : 2 ≤ R) (ha : a.length = 16) (hb : b.length = 16) : sealS L R a = sealS L R b ↔ a = b :=
  ⟨fun h => by rw [← open_seal L R hF hR a ha, h, open_seal L R hF hR b hb], fun h => by rw [h]⟩
theorem openS_inj {L : List UInt32} {R : Nat} {a b : List UInt8} (hF : Four L R) (hR : 2 ≤ R) (ha : a.length = 16) (hb : b.length = 16) : openS L R a = openS L R b ↔ a = b :=
  ⟨fun h => by rw [← seal_open L R hF hR a ha, h, seal_open L R hF hR b hb], fun h => by rw [h]⟩
theorem keyL_four (n : Nat) (key : List UInt8) : Four (keyL n key) (n + 7) := by unfold Four; rw [keyL_length]; exact Nat.le_refl _
theorem known_get : (sealS (keyL 4 key16) 11 blk16).getD 0 0 = 0x69 ∧ (sealS (keyL 4 key16) 11 blk16).getD 15 0 = 0x5a := by rw [known]; decide
end Go.Proofs.Ytefbjhdcmgonbaa
