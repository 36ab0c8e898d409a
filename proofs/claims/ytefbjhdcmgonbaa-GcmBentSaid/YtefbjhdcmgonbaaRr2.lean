/-
  The reference of the blocks: what takes a byte's place, and the table of all, walked.
-/
import Derived.Test.YtefbjhdcmgonbaaRr
namespace Go.Proofs.Ytefbjhdcmgonbaa
open Go.RowKit

set_option maxRecDepth 100000 in
set_option maxHeartbeats 2000000 in
theorem boxR_any (x : UInt8) (w : World) : Calls Try.prog 51 #[.int .u8 (x.toNat : Int)] w fun e w' => e = .returned (.int .u8 ((boxR x).toNat : Int)) ∧ ∃ k, w' = w.drewN k := by
  go_enter Try.func51, Try.ntmps51
  go_wp2
  go_loopw [3, 4] (fun v i wr => ∃ k : Nat, k ≤ 7 ∧ i = .int .i64 (k : Int) ∧ v = .int .u8 ((invTo x k).toNat : Int) ∧ wr = w) (fun _ i _ => 7 - (intOf i).toNat)
  case atStart => exact ⟨0, by omega, rfl, rfl, rfl⟩
  case round =>
    obtain ⟨k, hk, rfl, rfl, rfl⟩ := hrel
    by_cases hlt : k < 7
    · have hd : decide ((k : Int) < 7) = true := by simp; omega
      have e1 : invTo x (k + 1) = mulR (mulR (invTo x k) (invTo x k)) x := rfl
      generalize invTo x k = v at *
      have h1 := mulR_any v v
      generalize mulR v v = v1 at *
      have h2 := mulR_any v1 x
      generalize mulR v1 x = v2 at *
      have E1 := Lib.hid e1
      clear e1
      go_wp2_with (first | (with_reducible refine (h1 _).mono ?_; rintro e wy ⟨rfl, hwy⟩; subst hwy) | (with_reducible refine (h2 _).mono ?_; rintro e wy ⟨rfl, hwy⟩; subst hwy))
      go_roundw
      case rel => exact ⟨k + 1, by omega, by go_num, by rw [E1.out], trivial⟩
      case measure => simp [intOf]; omega
    · have hd : decide ((k : Int) < 7) = false := by simp; omega
      obtain rfl : k = 7 := by omega
      have e1 : invR x = mulR (invTo x 7) (invTo x 7) := rfl
      generalize invTo x 7 = v at *
      have h1 := mulR_any v v
      obtain ⟨v1, hv1⟩ : ∃ v1, v1 = mulR v v := ⟨_, rfl⟩
      rw [← hv1] at h1 e1
      have E1 := Lib.hid e1
      have HB := Lib.hid (show boxR x = boxTo (invR x) 4 ^^^ 0x63 from rfl)
      clear e1 hv1
      go_wp2_with (with_reducible refine (h1 _).mono ?_; rintro e wy ⟨rfl, hwy⟩; subst hwy)
      clear h1 hk hlt
      go_loopw [5, 6] (fun y i wr => ∃ k : Nat, k ≤ 4 ∧ i = .int .i64 ((k + 1 : Nat) : Int) ∧ y = .int .u8 ((boxTo v1 k).toNat : Int) ∧ ∃ n, wr = wy.drewN n) (fun _ i _ => 5 - (intOf i).toNat)
      case atStart => exact ⟨0, by omega, rfl, rfl, 0, rfl⟩
      case round =>
        obtain ⟨k, hk, rfl, rfl, n, rfl⟩ := hrel
        by_cases hlt : k < 4
        · obtain ⟨s, hs⟩ : ∃ s, s = spin v1 (k + 1) := ⟨_, rfl⟩
          have e1 : boxTo v1 (k + 1) = boxTo v1 k ^^^ s := by rw [hs]; rfl
          generalize boxTo v1 k = y at *
          obtain ⟨y2, hy2⟩ : ∃ y2, y2 = y ^^^ s := ⟨_, rfl⟩
          have hx : bits .xor .u8 (y.toNat : Int) (s.toNat : Int) = (y2.toNat : Int) := by rw [hy2, r_xor]
          rw [← hy2] at e1
          have E1 := Lib.hid e1
          clear e1 hy2
          obtain rfl | rfl | rfl | rfl : k = 0 ∨ k = 1 ∨ k = 2 ∨ k = 3 := by omega
          · have hd : decide (((0 + 1 : Nat) : Int) < 5) = true := by decide
            have hsp := spin_1 v1
            rw [← hs] at hsp
            clear hs
            go_wp2
            go_quiet (fail)
            go_wp2
            go_roundw
            case rel => exact ⟨0 + 1, by omega, by rfl, by rw [E1.out, ← hx, ← hsp]; rfl, _, rfl⟩
            case measure => simp [intOf]
          · have hd : decide (((1 + 1 : Nat) : Int) < 5) = true := by decide
            have hsp := spin_2 v1
            rw [← hs] at hsp
            clear hs
            go_wp2
            go_quiet (fail)
            go_wp2
            go_roundw
            case rel => exact ⟨1 + 1, by omega, by rfl, by rw [E1.out, ← hx, ← hsp]; rfl, _, rfl⟩
            case measure => simp [intOf]
          · have hd : decide (((2 + 1 : Nat) : Int) < 5) = true := by decide
            have hsp := spin_3 v1
            rw [← hs] at hsp
            clear hs
            go_wp2
            go_quiet (fail)
            go_wp2
            go_roundw
            case rel => exact ⟨2 + 1, by omega, by rfl, by rw [E1.out, ← hx, ← hsp]; rfl, _, rfl⟩
            case measure => simp [intOf]
          · have hd : decide (((3 + 1 : Nat) : Int) < 5) = true := by decide
            have hsp := spin_4 v1
            rw [← hs] at hsp
            clear hs
            go_wp2
            go_quiet (fail)
            go_wp2
            go_roundw
            case rel => exact ⟨3 + 1, by omega, by rfl, by rw [E1.out, ← hx, ← hsp]; rfl, _, rfl⟩
            case measure => simp [intOf]
        · obtain rfl : k = 4 := by omega
          have hd : decide (((4 + 1 : Nat) : Int) < 5) = false := by decide
          rw [E1.out] at HB
          generalize boxTo v1 4 = y at *
          have hx := r_xor99 y
          obtain ⟨z, hz⟩ : ∃ z, z = y ^^^ 0x63 := ⟨_, rfl⟩
          rw [← hz] at hx HB
          clear hz
          go_wp2
          go_ret
          exact ⟨by rw [HB.out, ← hx]; rfl, _, rfl⟩
/-- The table of all bytes. -/
def tabR : List UInt8 := (List.range 256).map fun i => boxR (UInt8.ofNat i)
theorem tabR_length : tabR.length = 256 := by simp [tabR]
theorem tabR_get (i : Nat) (h : i < 256) : tabR.getD i 0 = boxR (UInt8.ofNat i) := by
  simp [tabR, List.getD_eq_getElem?_getD, h]
def zero256 : List UInt8 := List.replicate 256 0
theorem zero256_length : zero256.length = 256 := List.length_replicate
theorem info256 : (Try.prog.info? 59).map (·.size) = some 256 := by kernel_rfl
theorem zero256_run (w : World) : (zeroValue 59).run Try.prog w = .ok (.agg (zero256.map B8).toArray) w := by kernel_rfl
theorem byte_of {i : Nat} (h : i < 256) : (i : Int) = ((UInt8.ofNat i).toNat : Int) := by
  rw [UInt8.toNat_ofNat']; omega
set_option maxRecDepth 100000 in
set_option maxHeartbeats 2000000 in
theorem tableR_any (w : World) : Calls Try.prog 30 #[] w fun e w' => e = .returned (BV tabR) ∧ Below w.heap.size w w' := by
  obtain ⟨Z, hZ⟩ : ∃ Z, Z = zero256 := ⟨_, rfl⟩
  obtain ⟨X, hX⟩ : ∃ X, X = tabR := ⟨_, rfl⟩
  have hz : ∀ W : World, (zeroValue 59).run Try.prog W = .ok (.agg (Z.map B8).toArray) W := fun W => by rw [hZ]; exact zero256_run W
  have HZL := Lib.hid (show Z.length = 256 by rw [hZ]; exact zero256_length)
  have HXL := Lib.hid (show X.length = 256 by rw [hX]; exact tabR_length)
  have HXG := Lib.hid (show ∀ i, i < 256 → X.getD i 0 = boxR (UInt8.ofNat i) by rw [hX]; exact tabR_get)
  rw [← hX]
  clear hX hZ
  go_enter Try.func30, Try.ntmps30
  go_wp2
  go_loopw [2] (fun i wr => ∃ k : Nat, k ≤ 256 ∧ i = .int .i64 (k : Int) ∧ Blk wr (w.heap.size + 1) 59 ((X.take k ++ Z.drop k).map B8) ∧ Blk wr w.heap.size 59 (Z.map B8) ∧ Below w.heap.size w wr) (fun i _ => 256 - (intOf i).toNat)
  case atStart => exact ⟨0, by omega, rfl, Blk.new2_of w _ _ _ _ rfl, (Blk.new_of w 59 _ (Z.map B8) rfl).alloc _, ((Below.refl _ _).alloc (Nat.le_refl _) _).alloc (by simp) _⟩
  case round =>
    obtain ⟨k, hk, rfl, hB, hA, hbl⟩ := hrel
    by_cases hlt : k < 256
    · have hd : decide ((k : Int) < 256) = true := by simp; omega
      have hlen := len_to X Z k (by rw [HXL.out]; omega) (by rw [HXL.out, HZL.out])
      have hf := hB.frozen k
      have hc0 := hB.at8 k (by rw [hlen, HZL.out]; exact hlt)
      have hX := HXG.out k hlt
      have hst := set_to X Z k 0 (by rw [HXL.out]; omega) (by rw [HZL.out]; omega)
      have HST := Lib.hid hst
      have hlW := hB.lt
      have HXX := Lib.hid hX
      have hbx := boxR_any (UInt8.ofNat k)
      have hby : IntKind.u8.wrap (k : Int) = ((UInt8.ofNat k).toNat : Int) := by rw [IntKind.wrap_u8, ← byte_of hlt]; omega
      clear hst hlen hX
      generalize (X.take k ++ Z.drop k).getD k 0 = x4 at *
      generalize boxR (UInt8.ofNat k) = bx at *
      generalize UInt8.ofNat k = kb at *
      generalize X.getD k 0 = x3 at *
      generalize X.take k ++ Z.drop k = L at *
      have hk0 : (0 : Int) ≤ (k : Int) := by omega
      have hk1 : (k : Int) < 256 := by omega
      go_wp2_with (with_reducible refine (hbx _).mono ?_; rintro e wy ⟨rfl, n, rfl⟩)
      go_roundw
      case rel =>
        refine ⟨k + 1, by omega, by go_num, ?_, (hA.drewN n).far (show w.heap.size ≠ w.heap.size + 1 by omega) _, (below_drewN hbl n).setCell (show w.heap.size ≤ w.heap.size + 1 by omega) _⟩
        rw [← HST.out, ← map_set8, HXX.out]
        exact (hB.drewN n).set_ k _
      case measure => simp [intOf]; omega
    · have hd : decide ((k : Int) < 256) = false := by simp; omega
      obtain rfl : k = 256 := by omega
      rw [List.take_of_length_le (by rw [HXL.out]; omega), List.drop_eq_nil_of_le (by rw [HZL.out]; omega), List.append_nil] at hB
      go_wp2_with (first
        | (refine wpList_load_blk rfl 59 (.tmp 1) rfl (w.heap.size + 1) rfl 59 _ _ hB Try.underlying59 rfl (info256.trans (by rw [List.length_map, HXL.out])) ?_)
        | (refine wpList_store_blk rfl 59 (.tmp 0) (.tmp 12) rfl rfl w.heap.size _ rfl rfl 59 _ hA (info256.trans (by rw [List.length_map, HXL.out])) (by rw [List.length_map, List.length_map, HXL.out, HZL.out]) (one8 _) ?_; intro w2 hA2 hg2))
      refine bodyPost_ret (v := .agg _) (results_cell_row rfl _ _ w.heap.size 59 _ (0, 0) _ rfl hA2.raw Try.underlying59 rfl (info256.trans (by rw [List.size_toArray, List.length_map, HXL.out]))) rfl ⟨rfl, below_new hbl hg2 (by omega) hbl.size⟩
end Go.Proofs.Ytefbjhdcmgonbaa
