/-
  The contracts of package block's states: shifted, mixed, all bytes turned; and back.
-/
import Derived.Test.YtefbjhdcmgonbaaBs2
import Derived.Test.YtefbjhdcmgonbaaFree
import Derived.Test.YtefbjhdcmgonbaaTailMove
namespace Go.Proofs.Ytefbjhdcmgonbaa
open Go.RowKit

set_option maxRecDepth 100000 in
set_option maxHeartbeats 1000000 in
theorem rotl_any (x : UInt32) (k : Int) (n : Nat) (w : World) (hn0 : 0 < n) (hn : n < 32) (hk : bits .and .u64 (IntKind.u64.wrap k) 31 = (n : Int)) :
    Calls Try.prog 53 #[.int .u32 x.toNat, .int .i64 k] w fun e w' => e = .returned (.int .u32 (rotl n x).toNat) ∧ w = w' := by
  have H1 := Lib.hid (w_shl x n hn)
  have H2 := Lib.hid (w_shr x (32 - n) (by omega))
  have hs : ((32 : Int) - n) = ((32 - n : Nat) : Int) := by omega
  have h0 : ¬ ((32 : Int) - n < 0) := by omega
  have e1 : min n 32 = n := by omega
  have e2 : min (32 - n) 32 = 32 - n := by omega
  go_enter Try.func53, Try.ntmps53
  go_wp2
  go_ret
  exact ⟨by rw [H1.out, H2.out, w_or]; rfl, rfl⟩
theorem rotl_zero (x : UInt32) : rotl 0 x = x := by
  unfold rotl
  have h : UInt32.ofNat (32 - 0) = 32 := rfl
  rw [h]
  apply UInt32.toNat_inj.1
  simp
set_option maxRecDepth 100000 in
set_option maxHeartbeats 1000000 in
theorem rot_none (x : UInt32) (w : World) :
    Calls Try.prog 53 #[.int .u32 x.toNat, .int .i64 0] w fun e w' => e = .returned (.int .u32 (rotl (8 * 0) x).toNat) ∧ Below w.heap.size w w' := by
  rw [show 8 * 0 = 0 from rfl, rotl_zero]
  have h0 : bits .and .u64 0 31 = 0 := by decide +kernel
  go_enter Try.func53, Try.ntmps53
  go_wp2
  go_ret
  refine ⟨?_, Below.refl _ _⟩
  have h1 : bits .or .u32 (x.toNat : Int) 0 = ((x ||| 0).toNat : Int) := w_or x 0
  rw [UInt32.or_zero] at h1
  have e1 : (x.toNat : Int) % 4294967296 = (x.toNat : Int) := by have := u32_lt x; omega
  have e2 : (x.toNat : Int) / 4294967296 = 0 := by have := u32_lt x; omega
  rw [e1, e2, h1]
  rfl
theorem rot_1 (x : UInt32) (w : World) :
    Calls Try.prog 53 #[.int .u32 x.toNat, .int .i64 8] w fun e w' => e = .returned (.int .u32 (rotl (8 * 1) x).toNat) ∧ Below w.heap.size w w' :=
  (rotl_any x 8 (8 * 1) w (by decide) (by decide) (by decide +kernel)).mono fun e w' ⟨h, hw⟩ => ⟨h, by subst hw; exact Below.refl _ _⟩
theorem rot_2 (x : UInt32) (w : World) :
    Calls Try.prog 53 #[.int .u32 x.toNat, .int .i64 16] w fun e w' => e = .returned (.int .u32 (rotl (8 * 2) x).toNat) ∧ Below w.heap.size w w' :=
  (rotl_any x 16 (8 * 2) w (by decide) (by decide) (by decide +kernel)).mono fun e w' ⟨h, hw⟩ => ⟨h, by subst hw; exact Below.refl _ _⟩
theorem rot_3 (x : UInt32) (w : World) :
    Calls Try.prog 53 #[.int .u32 x.toNat, .int .i64 24] w fun e w' => e = .returned (.int .u32 (rotl (8 * 3) x).toNat) ∧ Below w.heap.size w w' :=
  (rotl_any x 24 (8 * 3) w (by decide) (by decide) (by decide +kernel)).mono fun e w' ⟨h, hw⟩ => ⟨h, by subst hw; exact Below.refl _ _⟩
/-- Rows shifted. -/
def shiftS (s : List UInt32) : List UInt32 := (List.range 4).map fun i => rotl (8 * i) (s.getD i 0)
theorem shiftS_length (s : List UInt32) : (shiftS s).length = 4 := by simp [shiftS]
theorem shiftS_get (s : List UInt32) (k : Nat) (hk : k < 4) : (shiftS s).getD k 0 = rotl (8 * k) (s.getD k 0) := by
  simp [shiftS, List.getD_eq_getElem?_getD, hk]
set_option maxRecDepth 100000 in
set_option maxHeartbeats 1000000 in
theorem shifted_any (s : List UInt32) (hs : s.length = 4) (w : World) :
    Calls Try.prog 41 #[SV s] w fun e w' => e = .returned (SV (shiftS s)) ∧ Below w.heap.size w w' := by
  have HS := Lib.hid hs
  have hXl := shiftS_length s
  have hXg := shiftS_get s
  obtain ⟨X, hX⟩ : ∃ X, X = shiftS s := ⟨_, rfl⟩
  rw [← hX] at hXl hXg ⊢
  have HXL := Lib.hid hXl
  have HXG := Lib.hid hXg
  clear hs hXl hXg hX
  have hz : ∀ W : World, (zeroValue 73).run Try.prog W = .ok (SV zero4) W := fun W => by kernel_rfl
  go_enter Try.func41, Try.ntmps41
  go_wp2_with (refine wpList_load_blk rfl 73 (.tmp 1) rfl w.heap.size rfl 73 _ _ ((Blk.new_of w 73 _ (s.map U32) (by rfl)).alloc _) Try.underlying73 rfl (infoSt.trans (by rw [List.length_map, HS.out])) ?_)
  go_loopw [6] (fun i wr => ∃ k : Nat, k ≤ 4 ∧ i = .int .i64 (k : Int) ∧ Blk wr w.heap.size 73 ((X.take k ++ s.drop k).map U32) ∧ Blk wr (w.heap.size + 1) 73 (zero4.map U32) ∧ Below w.heap.size w wr) (fun i _ => 4 - (intOf i).toNat)
  case atStart => exact ⟨0, by omega, rfl, (Blk.new_of w 73 _ (s.map U32) (by rfl)).alloc _, Blk.new2_of w _ _ _ _ (by rfl), ((Below.refl _ _).alloc (Nat.le_refl _) _).alloc (by simp) _⟩
  case round =>
    obtain ⟨k, hk, rfl, hB, hZ, hbl⟩ := hrel
    by_cases hlt : k < 4
    · have hd : decide ((k : Int) < 4) = true := by simp; omega
      have hix := index_words 4 73 s HS.out Try.underlying73 k hlt
      have hlen := len_to X s k (by rw [HXL.out]; omega) (by rw [HXL.out, HS.out])
      have hc := hB.at32 k (by rw [hlen, HS.out]; omega)
      have hf := hB.frozen k
      have hX := HXG.out k hlt
      have hst := set_to X s k 0 (by rw [HXL.out]; omega) (by rw [HS.out]; omega)
      generalize (X.take k ++ s.drop k).getD k 0 = x0 at *
      generalize s.getD k 0 = x1 at *
      generalize X.getD k 0 = x3 at *
      have HST := Lib.hid hst
      have HX := Lib.hid hX
      clear hst hlen hX
      generalize X.take k ++ s.drop k = L at *
      have hlB := hB.lt
      have hlZ := hZ.lt
      obtain rfl | rfl | rfl | rfl : k = 0 ∨ k = 1 ∨ k = 2 ∨ k = 3 := by omega
      · have hix1 := fun W => (show (Instr.index 73 (.agg (s.map U32).toArray) (.int .i64 0)).run Try.prog W = .ok (.int .u32 x1.toNat) W from hix W)
        clear hix
        go_wp2_with (go_at_call 53; with_reducible refine (rot_none _ _).mono ?_; rintro e w1 ⟨rfl, hb1⟩; replace hf := (hb1.frozen (p := ⟨w.heap.size, 0, none⟩) hlB).trans hf; replace hc := (hb1.cell (p := ⟨w.heap.size, 0, none⟩) hlB).trans hc; replace hB := hB.below hb1 hlB; replace hZ := hZ.below hb1 hlZ; replace hbl := hbl.trans (hb1.mono hbl.size))
        go_roundw
        case rel =>
          refine ⟨1, by omega, by rfl, ?_, hZ.far (show w.heap.size + 1 ≠ w.heap.size by omega) _, hbl.setCell (show w.heap.size ≤ w.heap.size from Nat.le_refl _) _⟩
          rw [show 1 = 0 + 1 from rfl, ← HST.out, ← map_set32, HX.out]
          exact hB.set_ 0 _
        case measure => simp [intOf]
      · have hix1 := fun W => (show (Instr.index 73 (.agg (s.map U32).toArray) (.int .i64 1)).run Try.prog W = .ok (.int .u32 x1.toNat) W from hix W)
        clear hix
        go_wp2_with (go_at_call 53; with_reducible refine (rot_1 _ _).mono ?_; rintro e w1 ⟨rfl, hb1⟩; replace hf := (hb1.frozen (p := ⟨w.heap.size, 1, none⟩) hlB).trans hf; replace hc := (hb1.cell (p := ⟨w.heap.size, 1, none⟩) hlB).trans hc; replace hB := hB.below hb1 hlB; replace hZ := hZ.below hb1 hlZ; replace hbl := hbl.trans (hb1.mono hbl.size))
        go_roundw
        case rel =>
          refine ⟨2, by omega, by rfl, ?_, hZ.far (show w.heap.size + 1 ≠ w.heap.size by omega) _, hbl.setCell (show w.heap.size ≤ w.heap.size from Nat.le_refl _) _⟩
          rw [show 2 = 1 + 1 from rfl, ← HST.out, ← map_set32, HX.out]
          exact hB.set_ 1 _
        case measure => simp [intOf]
      · have hix1 := fun W => (show (Instr.index 73 (.agg (s.map U32).toArray) (.int .i64 2)).run Try.prog W = .ok (.int .u32 x1.toNat) W from hix W)
        clear hix
        go_wp2_with (go_at_call 53; with_reducible refine (rot_2 _ _).mono ?_; rintro e w1 ⟨rfl, hb1⟩; replace hf := (hb1.frozen (p := ⟨w.heap.size, 2, none⟩) hlB).trans hf; replace hc := (hb1.cell (p := ⟨w.heap.size, 2, none⟩) hlB).trans hc; replace hB := hB.below hb1 hlB; replace hZ := hZ.below hb1 hlZ; replace hbl := hbl.trans (hb1.mono hbl.size))
        go_roundw
        case rel =>
          refine ⟨3, by omega, by rfl, ?_, hZ.far (show w.heap.size + 1 ≠ w.heap.size by omega) _, hbl.setCell (show w.heap.size ≤ w.heap.size from Nat.le_refl _) _⟩
          rw [show 3 = 2 + 1 from rfl, ← HST.out, ← map_set32, HX.out]
          exact hB.set_ 2 _
        case measure => simp [intOf]
      · have hix1 := fun W => (show (Instr.index 73 (.agg (s.map U32).toArray) (.int .i64 3)).run Try.prog W = .ok (.int .u32 x1.toNat) W from hix W)
        clear hix
        go_wp2_with (go_at_call 53; with_reducible refine (rot_3 _ _).mono ?_; rintro e w1 ⟨rfl, hb1⟩; replace hf := (hb1.frozen (p := ⟨w.heap.size, 3, none⟩) hlB).trans hf; replace hc := (hb1.cell (p := ⟨w.heap.size, 3, none⟩) hlB).trans hc; replace hB := hB.below hb1 hlB; replace hZ := hZ.below hb1 hlZ; replace hbl := hbl.trans (hb1.mono hbl.size))
        go_roundw
        case rel =>
          refine ⟨4, by omega, by rfl, ?_, hZ.far (show w.heap.size + 1 ≠ w.heap.size by omega) _, hbl.setCell (show w.heap.size ≤ w.heap.size from Nat.le_refl _) _⟩
          rw [show 4 = 3 + 1 from rfl, ← HST.out, ← map_set32, HX.out]
          exact hB.set_ 3 _
        case measure => simp [intOf]
    · have hd : decide ((k : Int) < 4) = false := by simp; omega
      obtain rfl : k = 4 := by omega
      rw [List.take_of_length_le (by rw [HXL.out]; omega), List.drop_eq_nil_of_le (by rw [HS.out]; omega), List.append_nil] at hB
      go_wp2_with (first
        | (refine wpList_load_blk rfl 73 (.tmp 1) rfl w.heap.size rfl 73 _ _ hB Try.underlying73 rfl (infoSt.trans (by rw [List.length_map, HXL.out])) ?_)
        | (refine wpList_store_blk rfl 73 (.tmp 2) (.tmp 17) rfl rfl (w.heap.size + 1) _ rfl rfl 73 _ hZ (infoSt.trans (by rw [List.length_map, HXL.out])) (by rw [List.length_map, List.length_map, HXL.out]; rfl) (one32 _) ?_; intro w2 hA2 hg2))
      refine bodyPost_ret (v := .agg _) (results_cell_row rfl _ _ (w.heap.size + 1) 73 _ (0, 0) _ rfl hA2.raw Try.underlying73 rfl (infoSt.trans (by rw [List.size_toArray, List.length_map, HXL.out]))) rfl ⟨rfl, below_new hbl hg2 (by omega) hbl.size⟩
set_option maxRecDepth 100000 in
set_option maxHeartbeats 1000000 in
theorem unshifted_any (s : List UInt32) (hs : s.length = 4) (w : World) :
    Calls Try.prog 44 #[SV s] w fun e w' => e = .returned (SV (shiftS (shiftS (shiftS s)))) ∧ Below w.heap.size w w' := by
  have l1 : (shiftS s).length = 4 := shiftS_length s
  have l2 : (shiftS (shiftS s)).length = 4 := shiftS_length _
  have l3 : (shiftS (shiftS (shiftS s))).length = 4 := shiftS_length _
  have hz : ∀ W : World, (zeroValue 73).run Try.prog W = .ok (SV zero4) W := fun W => by kernel_rfl
  have c1 := fun W => shifted_any s hs W
  have c2 := fun W => shifted_any (shiftS s) l1 W
  have c3 := fun W => shifted_any (shiftS (shiftS s)) l2 W
  generalize shiftS (shiftS (shiftS s)) = s3 at *
  generalize shiftS (shiftS s) = s2 at *
  generalize shiftS s = s1 at *
  have HS := Lib.hid hs
  have HL3 := Lib.hid l3
  have C1 := Lib.hid c1
  have C2 := Lib.hid c2
  have C3 := Lib.hid c3
  clear hs l1 l2 l3 c1 c2 c3
  go_enter Try.func44, Try.ntmps44
  have hZ0 := Blk.new2_of w (.cells (s.map U32).toArray 73) 73 (zero4.map U32).toArray (zero4.map U32) rfl
  have hb0 := ((Below.refl w.heap.size w).alloc (Nat.le_refl _) (.cells (s.map U32).toArray 73)).alloc (by simp) (.cells (zero4.map U32).toArray 73)
  go_wp2_with (first
    | (refine wpList_load_blk rfl 73 (.tmp 1) rfl w.heap.size rfl 73 _ _ ((Blk.new_of w 73 _ (s.map U32) (by rfl)).alloc _) Try.underlying73 rfl (infoSt.trans (by rw [List.length_map, HS.out])) ?_)
    | (go_at_call 41; with_reducible refine (C1.out _).mono ?_; rintro e w1 ⟨rfl, hb1⟩; have hZ1 := hZ0.below hb1 hZ0.lt; replace hb1 := hb0.trans (hb1.mono (by simp; omega)))
    | (go_at_call 41; with_reducible refine (C2.out _).mono ?_; rintro e w2 ⟨rfl, hb2⟩; have hZ2 := hZ1.below hb2 hZ1.lt; replace hb2 := hb1.trans (hb2.mono hb1.size))
    | (go_at_call 41; with_reducible refine (C3.out _).mono ?_; rintro e w3 ⟨rfl, hb3⟩; have hZ3 := hZ2.below hb3 hZ2.lt; replace hb3 := hb2.trans (hb3.mono hb2.size))
    | (refine wpList_store_blk rfl 73 (.tmp 2) (.tmp 6) rfl rfl (w.heap.size + 1) _ rfl rfl 73 _ hZ3 (infoSt.trans (by rw [List.length_map, HL3.out])) (by rw [List.length_map, List.length_map, HL3.out]; rfl) (one32 _) ?_; intro w4 hA4 hg4))
  refine bodyPost_ret (v := .agg _) (results_cell_row rfl _ _ (w.heap.size + 1) 73 _ (0, 0) _ rfl hA4.raw Try.underlying73 rfl (infoSt.trans (by rw [List.size_toArray, List.length_map, HL3.out]))) rfl ⟨rfl, below_new hb3 hg4 (by omega) hb3.size⟩
end Go.Proofs.Ytefbjhdcmgonbaa
