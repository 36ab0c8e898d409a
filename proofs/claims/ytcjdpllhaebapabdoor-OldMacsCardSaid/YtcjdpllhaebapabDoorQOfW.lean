/-
  The walk of the statement OldOf.
-/
import Derived.Test.YtcjdpllhaebapabDoorQRefSum
import Derived.Test.YtcjdpllhaebapabDoorQOf
import Derived.Test.YtcjdpllhaebapabDoorFew
import Derived.Deep.RegionHeld3
namespace Go.Proofs.YtcjdpllhaebapabDoor
open Go.RowKit

section
variable {w0 W W' : World} {g : Nat} {cs : List Value}
theorem held_step (hg : g < w0.heap.size) (h : W.rangeAt g 0 cs ∧ Below w0.heap.size w0 W) (hb : Below W.heap.size W W') : W'.rangeAt g 0 cs ∧ Below w0.heap.size w0 W' :=
  ⟨fun j v hv => (hb.cell (p := ⟨g, 0 + j, none⟩) (Nat.lt_of_lt_of_le hg h.2.size)).trans (h.1 j v hv), h.2.trans (hb.mono h.2.size)⟩
theorem held_alloc (hg : g < w0.heap.size) (h : W.rangeAt g 0 cs ∧ Below w0.heap.size w0 W) (o : Obj) : (W.alloc o).rangeAt g 0 cs ∧ Below w0.heap.size w0 (W.alloc o) :=
  held_step hg h ((Below.refl _ _).alloc (Nat.le_refl _) o)
theorem held_drew (h : W.rangeAt g 0 cs ∧ Below w0.heap.size w0 W) : W.drew.rangeAt g 0 cs ∧ Below w0.heap.size w0 W.drew := ⟨fun j v hv => h.1 j v hv, below_drewN h.2 1⟩
end
theorem conv_row {W : World} {g : Nat} {y : List UInt8} {n : Nat} (hn : y.length = n) (h : W.rangeAt g 0 (y.map B8)) (c : Nat) : (convert 27 9 (.slice (some ⟨g, 0, none⟩) n c)).run Tryd.prog W = .ok (.string ⟨y.toArray⟩) W := by
  subst hn
  refine run_convert_bytes_back W 27 9 5 ⟨g, 0, none⟩ c y Tryd.underlying27 Tryd.underlying5 Tryd.underlying9 (fun j hj => ?_)
  rw [add_row, h j (B8 y[j]) (by simp [hj])]
set_option maxRecDepth 100000 in
set_option maxHeartbeats 2000000 in
theorem oldOf_walk (A : Option Addr) (c : Nat) (ps : List (List UInt8)) (w : World) (hA : PIn w w.heap.size A c ps) (ht : TabsQ w) :
    Calls Tryd.prog 4 #[.slice A ps.length c] w fun e w' => e = .returned (.bool true) ∧ Below w.heap.size w w' := by
  have hq1 := few_length 10 300 ps
  have hq2 := few_flatten_le 10 300 ps
  obtain ⟨qs, hq⟩ : ∃ qs, few 10 300 ps = qs := ⟨_, rfl⟩
  rw [hq] at hq1 hq2
  have HQ := Lib.hid hq
  clear hq
  go_enter Tryd.func4, Tryd.ntmps4
  go_wp2_with fail
  refine (few_here (m := 10) (e := 300) hA (by decide) (by decide) HQ.out).mono ?_
  rintro r w1 ⟨A1, c1, rfl, hr1, hp1, hb1⟩
  clear hr1
  go_wp2_with fail
  refine (qOf_any c1 A1 qs _ (by omega) hp1.1 hp1.2.1 (fun g hg => hp1.parts hg) (ht.below hb1)).mono ?_
  rintro e w4 ⟨rfl, hb4⟩
  replace hp1 := hp1.up hb4
  have hb5 := hb1.trans (hb4.mono hb1.size)
  clear hb1 hb4
  obtain ⟨y, hy⟩ : ∃ y, y = md5 qs.flatten := ⟨_, rfl⟩
  have hyl : y.length = 16 := by rw [hy]; exact md5_length _
  rw [← hy]
  have HY := Lib.hid hy
  have HYL := Lib.hid hyl
  clear hy hyl
  go_wp2_with (refine wpList_store_blk rfl 35 (.tmp 4) (.tmp 8) rfl rfl w4.heap.size _ rfl rfl 35 _ (Blk.new_of w4 35 _ ((List.replicate 16 (0 : UInt8)).map B8) (by rfl)) (infoH.trans (by rw [List.length_map, HYL.out])) (by rw [List.length_map, List.length_map, HYL.out]; rfl) (one8 _) ?_; intro w6 hS6 hg6)
  have hb46 : Below w4.heap.size w4 w6 := below_new ((Below.refl _ _).alloc (Nat.le_refl _) _) hg6 (Nat.le_refl _) (by simp)
  have hp6 := hp1.up hb46
  have hb6 := hb5.trans (hb46.mono hb5.size)
  clear hg6 hb5 hb46 hp1
  have hlt6 : w4.heap.size < w6.heap.size := hS6.lt
  have HS0 := Lib.hid (show w6.drew.rangeAt w4.heap.size 0 (y.map B8) ∧ Below w6.heap.size w6 w6.drew from ⟨rangeAt_of_blk hS6.drew, below_drewN (Below.refl _ _) 1⟩)
  have HT := Lib.hid (fun (W : World) (h : W.rangeAt w4.heap.size 0 (y.map B8) ∧ Below w6.heap.size w6 W) => (ht.below hb6).below h.2)
  have HA := Lib.hid (fun (W : World) (h : W.rangeAt w4.heap.size 0 (y.map B8) ∧ Below w6.heap.size w6 W) => (hA.up hb6).up h.2)
  have HP := Lib.hid (fun (W : World) (h : W.rangeAt w4.heap.size 0 (y.map B8) ∧ Below w6.heap.size w6 W) => hp6.up h.2)
  have HRef := Lib.hid (fun (W : World) => by
    have := refSumQ_any qs.flatten W (by omega)
    rw [← HY.out] at this
    exact this)
  have hcv1 := fun (W : World) (h : W.rangeAt w4.heap.size 0 (y.map B8)) => conv_row HYL.out h 16
  have hu := Tryd.underlying35
  have hi16 : (Tryd.prog.info? 35).map (·.size) = some (y.map B8).length := infoH.trans (by rw [List.length_map, HYL.out])
  have HB6 := Lib.hid hb6
  have hfl : qs.flatten.length < 549755813888 := by omega
  clear hS6 hb6 ht hA hp6 hq2 hq1
  go_region_held3 (fun w' => w'.rangeAt w4.heap.size 0 (y.map B8) ∧ Below w6.heap.size w6 w') (first | exact HS0.out | exact held_step hlt6 (by assumption) (by assumption)) (first
    | (go_at_call 19; refine (olds_any _ (HT.out _ (by assumption))).mono ?_; rintro e w7 ⟨rfl, hb7⟩)
    | (go_at_call 15; refine (few_here (m := 10) (e := 300) (HA.out _ (by assumption)) (by decide) (by decide) HQ.out).mono ?_; rintro r w7 ⟨A7, c7, rfl, hr7, hp7, hb7⟩)
    | (go_at_call 21; refine (all_here (by first | assumption | exact HP.out _ (by assumption) | exact PIn.up (by assumption) (by assumption)) hfl).mono ?_; rintro r w7 ⟨rfl, hb7⟩)
    | (go_at_call 20; refine (HRef.out _).mono ?_; rintro e w7 ⟨rfl, hb7⟩))
  all_goals
    have hfin := HB6.out.trans ((by assumption : World.rangeAt _ w4.heap.size 0 (y.map B8) ∧ Below w6.heap.size w6 _).2.mono HB6.out.size)
    go_wp2
    go_ret
    exact ⟨rfl, hfin⟩
end Go.Proofs.YtcjdpllhaebapabDoor
