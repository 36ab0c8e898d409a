/-
  The walk of the statement HashOf.
-/
import Derived.Test.YthjigodpenbpiaaDoorFew
import Derived.Test.YthjigodpenbpiaaDoorEnds
namespace Go.Proofs.YthjigodpenbpiaaDoor
open Go.RowKit

set_option maxRecDepth 100000 in
set_option maxHeartbeats 2000000 in
theorem hashOf_walk (A : Option Addr) (c : Nat) (ps : List (List UInt8)) (w : World) (hA : PIn w w.heap.size A c ps) (ht : Tabs w) :
    Calls Tryd.prog 3 #[.slice A ps.length c] w fun e w' => e = .returned (.bool true) ∧ Below w.heap.size w w' := by
  have hq1 := few_length 10 300 ps
  have hq2 := few_flatten_le 10 300 ps
  obtain ⟨qs, hq⟩ : ∃ qs, few 10 300 ps = qs := ⟨_, rfl⟩
  rw [hq] at hq1 hq2
  have HQ := Lib.hid hq
  clear hq
  go_enter Tryd.func3, Tryd.ntmps3
  go_wp2_with fail
  refine (few_here (m := 10) (e := 300) hA (by decide) (by decide) HQ.out).mono ?_
  rintro r w1 ⟨A1, c1, rfl, hr1, hp1, hb1⟩
  clear hr1
  go_wp2_with fail
  refine (Of_any c1 A1 qs _ (by omega) hp1.1 hp1.2.1 (fun g hg => hp1.parts hg) (ht.below hb1)).mono ?_
  rintro e w4 ⟨rfl, hb4⟩
  replace hp1 := hp1.up hb4
  have hb5 := hb1.trans (hb4.mono hb1.size)
  clear hb1 hb4
  obtain ⟨y, hy⟩ : ∃ y, y = sha qs.flatten := ⟨_, rfl⟩
  have hyl : y.length = 32 := by rw [hy]; exact sha_length _
  rw [← hy]
  have HY := Lib.hid hy
  have HYL := Lib.hid hyl
  clear hy hyl
  go_wp2_with (refine wpList_store_blk rfl 24 (.tmp 4) (.tmp 8) rfl rfl w4.heap.size _ rfl rfl 24 _ (Blk.new_of w4 24 _ ((List.replicate 32 (0 : UInt8)).map B8) (by rfl)) (info32.trans (by rw [List.length_map, HYL.out])) (by rw [List.length_map, List.length_map, HYL.out]; rfl) (one8 _) ?_; intro w6 hS6 hg6)
  have hb46 : Below w4.heap.size w4 w6 := below_new ((Below.refl _ _).alloc (Nat.le_refl _) _) hg6 (Nat.le_refl _) (by simp)
  have hp6 := hp1.up hb46
  have hb6 := hb5.trans (hb46.mono hb5.size)
  clear hg6 hb5 hb46 hp1
  have hlt6 : w4.heap.size < w6.heap.size := hS6.lt
  have HS0 := Lib.hid (show w6.drew.rangeAt w4.heap.size 0 (y.map B8) ∧ Below w6.heap.size w6 w6.drew from ⟨rangeAt_of_blk hS6.drew, below_drewN (Below.refl _ _) 1⟩)
  have HT := Lib.hid (fun (W : World) (h : W.rangeAt w4.heap.size 0 (y.map B8) ∧ Below w6.heap.size w6 W) => (ht.below hb6).below h.2)
  have HA := Lib.hid (fun (W : World) (h : W.rangeAt w4.heap.size 0 (y.map B8) ∧ Below w6.heap.size w6 W) => (hA.up hb6).up h.2)
  have HP := Lib.hid (fun (W : World) (h : W.rangeAt w4.heap.size 0 (y.map B8) ∧ Below w6.heap.size w6 W) => hp6.up h.2)
  have HRef := Lib.hid (fun (W : World) => by
    have := refSum_any qs.flatten W (by omega)
    rw [← HY.out] at this
    exact this)
  have hcv1 := fun (W : World) (h : W.rangeAt w4.heap.size 0 (y.map B8)) => conv_row HYL.out h 32
  have hu := Tryd.underlying24
  have hi32 : (Tryd.prog.info? 24).map (·.size) = some (y.map B8).length := info32.trans (by rw [List.length_map, HYL.out])
  have HB6 := Lib.hid hb6
  have hfl : qs.flatten.length < 549755813888 := by omega
  clear hS6 hb6 ht hA hp6 hq2 hq1
  go_region_held3 (fun w' => w'.rangeAt w4.heap.size 0 (y.map B8) ∧ Below w6.heap.size w6 w') (first | exact HS0.out | exact held_step hlt6 (by assumption) (by assumption)) (first
    | (go_at_call 18; refine (sums_any _ (HT.out _ (by assumption))).mono ?_; rintro e w7 ⟨rfl, hb7⟩)
    | (go_at_call 16; refine (few_here (m := 10) (e := 300) (HA.out _ (by assumption)) (by decide) (by decide) HQ.out).mono ?_; rintro r w7 ⟨A7, c7, rfl, hr7, hp7, hb7⟩)
    | (go_at_call 20; refine (all_here (by first | assumption | exact HP.out _ (by assumption) | exact PIn.up (by assumption) (by assumption)) hfl).mono ?_; rintro r w7 ⟨rfl, hb7⟩)
    | (go_at_call 19; refine (HRef.out _).mono ?_; rintro e w7 ⟨rfl, hb7⟩))
  all_goals
    have hfin := HB6.out.trans ((by assumption : World.rangeAt _ w4.heap.size 0 (y.map B8) ∧ Below w6.heap.size w6 _).2.mono HB6.out.size)
    go_wp2
    go_ret
    exact ⟨rfl, hfin⟩
end Go.Proofs.YthjigodpenbpiaaDoor
