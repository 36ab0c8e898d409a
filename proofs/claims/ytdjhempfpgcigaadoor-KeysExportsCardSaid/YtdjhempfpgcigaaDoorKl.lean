/-
  The contract of the statements' own look at Early.
-/
import Derived.Test.YtdjhempfpgcigaaDoorKr
namespace Go.Proofs.YtdjhempfpgcigaaDoor
open Go.RowKit

theorem early_known : ((earlyS zero32).getD 0 0, (earlyS zero32).getD 1 0, (earlyS zero32).getD 31 0) = (0x33, 0xAD, 0x2A) := by decide +kernel

set_option maxRecDepth 100000 in
set_option maxHeartbeats 1000000 in
theorem lawEarly_any (w : World) (ht : Tabs w) :
    Calls Tryd.prog 12 #[] w fun e w' => e = .returned (.bool true) ∧ Below w.heap.size w w' := by
  have hk := early_known
  have hea := fun (W : World) (h : Tabs W) => early_any zero32 W zero32_length h
  have hxl := earlyS_length zero32
  obtain ⟨X, hX⟩ : ∃ X, X = earlyS zero32 := ⟨_, rfl⟩
  rw [← hX] at hk hxl
  rw [← hX] at hea
  simp only [Prod.mk.injEq] at hk
  obtain ⟨k0, k1, k31⟩ := hk
  have hz : ∀ W : World, (zeroValue 22).run Tryd.prog W = .ok (.agg (zero32.map B8).toArray) W := fun W => by kernel_rfl
  obtain ⟨Z, hZ⟩ : ∃ Z, Z = zero32 := ⟨_, rfl⟩
  have HZL := Lib.hid (show Z.length = 32 by rw [hZ]; rfl)
  rw [← hZ] at hz
  rw [← hZ] at hea
  have HN := Lib.hid hea
  have HXL := Lib.hid hxl
  have X0 := Lib.hid k0
  have X1 := Lib.hid k1
  have X31 := Lib.hid k31
  clear hX hxl hZ hea k0 k1 k31
  go_enter Tryd.func12, Tryd.ntmps12
  go_wp2_with (first
    | (go_at_call 7; refine (HN.out _ ht).mono ?_; rintro e w2 ⟨rfl, hb2⟩)
    | (refine wpList_store_blk rfl 22 (.tmp 1) (.tmp 3) rfl rfl (w2.heap.size) _ rfl rfl 22 _ (Blk.new_of w2 22 _ _ rfl) (info32.trans (by rw [List.length_map, HXL.out])) (by rw [List.length_map, List.length_map, HXL.out, HZL.out]) (one8 _) ?_; intro w7 hR7 hg7; have c0 := hR7.at8 0 (by rw [HXL.out]; decide); rw [X0.out] at c0; have c1 := hR7.at8 1 (by rw [HXL.out]; decide); rw [X1.out] at c1; have c31 := hR7.at8 31 (by rw [HXL.out]; decide); rw [X31.out] at c31))
  go_ret
  exact ⟨rfl, hb2.trans ((below_new ((Below.refl _ _).alloc (Nat.le_refl _) _) hg7 (Nat.le_refl _) (by simp)).mono hb2.size)⟩
end Go.Proofs.YtdjhempfpgcigaaDoor
