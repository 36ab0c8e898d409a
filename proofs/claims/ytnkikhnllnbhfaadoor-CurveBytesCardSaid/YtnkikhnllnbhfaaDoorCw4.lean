/-
  The field's inverse by package mont; the group that begins a reckoning.
-/
import Derived.Test.YtnkikhnllnbhfaaDoorCw2
namespace Go.Proofs.YtnkikhnllnbhfaaDoor
open Go.RowKit
open CurveMath

theorem oneV : (1 : K).val = 1 := by kernel_rfl
theorem zeroV : (0 : K).val = 0 := by kernel_rfl
theorem gcdK {a : K} (h : a ≠ 0) : Nat.gcd a.val pN = 1 := by
  have h1 := inv_mulK h
  have h2 : a.val * (invK a).val % pN = 1 := by rw [← Fin.val_mul, h1, oneV]
  have hd : Nat.gcd a.val pN ∣ a.val * (invK a).val % pN := (Nat.dvd_mod_iff (Nat.gcd_dvd_right _ _)).2 (Nat.dvd_trans (Nat.gcd_dvd_left _ _) (Nat.dvd_mul_right _ _))
  rw [h2] at hd
  exact Nat.dvd_one.1 hd
theorem InvK_ok (g : Nat) (a : K) (w : World) (h : GrpAt w g) (ha : a ≠ 0) : Calls Tryd.prog 55 #[.pointer (some ⟨g, 0, none⟩), .agg (kC a).toArray] w fun e w' => e = .returned (.tuple #[.agg (kC (invK a)).toArray, .int .i64 0]) ∧ Below w.heap.size w w' := by
  obtain ⟨sq, f, h, hm⟩ := h
  obtain ⟨z, hz⟩ : ∃ z, Hid (z = isTo primeP (pK a) 512) := ⟨_, Lib.hid rfl⟩
  obtain ⟨iok, ilt, ho, hi⟩ := inv_val hm (pK_ok a) hz
  rw [pK_val, primeP_val] at ho hi
  rw [primeP_val] at ilt
  have hone := ho.2 (gcdK ha)
  have h2 := inv_unique (a := a) (i := ⟨z.i.val, ilt⟩) (Fin.ext (by rw [Fin.val_mul, oneV]; exact hi hone))
  have h3 : z.i = pK (invK a) := P4.ext_val iok (pK_ok _) (by rw [pK_val, ← h2])
  have := Inv_ok g primeP sq (pK a) f z w h hm (pK_ok a) hz hone
  rw [h3] at this
  exact this
theorem InvK_bad (g : Nat) (w : World) (h : GrpAt w g) : Calls Tryd.prog 55 #[.pointer (some ⟨g, 0, none⟩), .agg (kC 0).toArray] w fun e w' => e = .returned (.tuple #[.agg (nC zeroP).toArray, .int .i64 1]) ∧ Below w.heap.size w w' := by
  obtain ⟨sq, f, h, hm⟩ := h
  obtain ⟨z, hz⟩ : ∃ z, Hid (z = isTo primeP (pK 0) 512) := ⟨_, Lib.hid rfl⟩
  obtain ⟨iok, ilt, ho, hi⟩ := inv_val hm (pK_ok 0) hz
  rw [pK_val, primeP_val] at ho
  have hone : z.o ≠ oneP := fun e => by
    have := ho.1 e
    rw [zeroV, Nat.gcd_zero_left] at this
    exact absurd this (by decide)
  exact Inv_bad g primeP sq (pK 0) f z w h hm (pK_ok 0) hz hone
theorem infoG1 : (Tryd.prog.info? 62).map (·.size) = some [Value.pointer none].length := infoG
set_option maxRecDepth 100000 in
set_option maxHeartbeats 1000000 in
theorem newGroup_k (w : World) (hT : TabsC w) : Calls Tryd.prog 35 #[] w fun e w' => ∃ g, e = .returned (.agg #[.pointer (some ⟨g, 0, none⟩)]) ∧ w.heap.size ≤ g ∧ GrpAt w' g ∧ Below w.heap.size w w' := by
  go_enter Tryd.func35, Tryd.ntmps35
  go_upto_region 1 with (fail)
  have bg0 : Blk (w.alloc (.cells #[.pointer none] 62)) w.heap.size 62 [.pointer none] := Blk.new_of w _ _ _ rfl
  have hb0 : Below w.heap.size w (w.alloc (.cells #[.pointer none] 62)) := (Below.refl _ _).alloc (Nat.le_refl _) _
  obtain ⟨g0, hg0⟩ : ∃ g0, g0 = w.heap.size := ⟨_, rfl⟩
  have HG := Lib.hid (show w.heap.size ≤ g0 by omega)
  rw [← hg0] at bg0
  simp only [← hg0]
  clear hg0
  generalize w.alloc (.cells #[.pointer none] 62) = w1 at *
  have hT1 := hT.below hb0
  have lg0 := bg0.lt
  go_upto_region 2 with (first
    | ((with_reducible refine (?_ : wpList _ _ _ (Oper.mk (some 4) _ _ _ _ _ :: _) _ _)); go_loud (refine wpList_load_mid rfl 59 (.global 3) rfl 3 0 rfl (nC primeP) _ hT1.prime Tryd.underlying59 rfl (infoN.trans (by rw [nC_length])) ?_))
    | (go_at_call 50; refine (New_any primeP w1 primeP_ok (by decide) (by decide) (by decide)).mono ?_; rintro e w2 ⟨g, sq, f, rfl, hg, hM, hm, hbx⟩))
  have hM2 : GrpAt w2 g := ⟨sq, f, hM, hm⟩
  clear hM hm
  have hsz := hb0.size
  have hGo := HG.out
  have bg1 := bg0.below hbx lg0
  have lM := hM2.lt
  have hb1 := hb0.trans (hbx.mono hb0.size)
  have hsz1 := hbx.size
  clear hbx
  go_wp2_with (first
    | ((with_reducible refine (?_ : wpList _ _ _ (Oper.mk none _ _ _ _ _ :: _) _ _)); go_loud (refine wpList_store_blk rfl 62 (.tmp 0) (.tmp 9) rfl rfl g0 [.pointer (some ⟨g, 0, none⟩)] rfl rfl _ _ bg1 infoG rfl (by simp [Value.oneCell']) ?_); intro wz bn hgs))
  refine bodyPost_ret (v := .agg _) (results_cell_row rfl _ _ g0 62 _ (0, 0) _ rfl bn.raw Tryd.underlying62 rfl (infoG.trans (by rw [List.size_toArray]; rfl))) rfl ?_
  exact ⟨g, rfl, by omega, hM2.grown hgs (fun e => by omega), below_new hb1 hgs (by omega) hb1.size⟩
end Go.Proofs.YtnkikhnllnbhfaaDoor
