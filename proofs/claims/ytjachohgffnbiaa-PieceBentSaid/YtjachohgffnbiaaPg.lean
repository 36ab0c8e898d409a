/-
  The statements' own bytes of a seed: so many.
-/
import Derived.Test.YtjachohgffnbiaaPf
namespace Go.Proofs.Ytjachohgffnbiaa
open Go.RowKit

set_option maxRecDepth 100000 in
set_option maxHeartbeats 1000000 in
theorem long_e (s : UInt8) (n : Nat) (w : World) (hm : n < 1000000) : Calls Try.prog 9 #[.int .u8 (s.toNat : Int), .int .i64 (n : Int)] w fun e w' => ∃ A c L, e = .returned (.slice A n c) ∧ Buf w' w.heap.size A n c L ∧ Below w.heap.size w w' := by
  have hmk := fun (W : World) => run_make_bytes .i64 .i64 n n (Nat.le_refl _) (by omega) W
  have hbz := buf_zeros w n (by omega)
  have hbw : Below w.heap.size w (w.alloc (.cells ((List.replicate n (0 : UInt8)).map B8).toArray 5)) := (Below.refl _ _).alloc (Nat.le_refl _) _
  generalize List.replicate n (0 : UInt8) = Z at *
  have HBZ := Lib.hid hbz
  have HBW := Lib.hid hbw
  clear hbz hbw
  go_enter Try.func9, Try.ntmps9
  go_wp2
  generalize w.alloc (.cells (Z.map B8).toArray 5) = w1 at *
  go_loopw [6] (fun i wr => ∃ (k : Nat) (L : List UInt8), k ≤ n ∧ i = .int .i64 (k : Int) ∧ Buf wr w.heap.size (some ⟨w.heap.size, 0, none⟩) n n L ∧ Below w.heap.size w wr) (fun i _ => n - (intOf i).toNat)
  case atStart => exact ⟨0, Z, Nat.zero_le _, rfl, HBZ.out, HBW.out⟩
  case round =>
    obtain ⟨k, L, hk, rfl, hL, hbw⟩ := hrel
    by_cases hlt : k < n
    · have hd : decide (k < n) = true := by simpa using hlt
      have hfr := hL.notFrozen (j := k) (by omega)
      obtain ⟨y, hy⟩ : ∃ y, y = L.getD k 0 := ⟨_, rfl⟩
      have hcc : wr.cell? ⟨w.heap.size, k, none⟩ = some (.int .u8 (y.toNat : Int)) := by
        rcases hL.2 with ⟨h, _⟩ | ⟨g, h, _, _, _, _, hby, _⟩
        · cases h
        · cases h
          have := hby k (by rw [hL.1]; exact hlt)
          rw [Nat.zero_add, ← hy] at this; exact this
      have hk0 : (0 : Int) ≤ (k : Int) := by omega
      have hk1 : (k : Int) < (n : Int) := by omega
      obtain ⟨z, hz⟩ : ∃ z : UInt8, ((s.toNat : Int) + (k : Int) * 7) % 256 = (z.toNat : Int) := ⟨ub ((s.toNat : Int) + (k : Int) * 7), by rw [← ub_wrap, IntKind.wrap_u8]⟩
      clear hy
      go_wp2
      go_roundw
      case rel => exact ⟨k + 1, L.set k z, by omega, by go_num, hL.set hlt z, hbw.setCell (Nat.le_refl _) _⟩
      case measure => simp [intOf]; omega
    · have hd : decide (k < n) = false := by simpa using hlt
      go_wp2
      go_ret
      exact ⟨_, _, L, rfl, hL, hbw⟩
end Go.Proofs.Ytjachohgffnbiaa
