/-
  The walk of the statement OldMacs.
-/
import Derived.Test.YtcjdpllhaebapabDoorQRefMac
namespace Go.Proofs.YtcjdpllhaebapabDoor
open Go.RowKit

set_option maxRecDepth 100000 in
set_option maxHeartbeats 4000000 in
theorem oldMacs_walk (K A : Option Addr) (ck c : Nat) (xk : List UInt8) (ps : List (List UInt8)) (w : World) (iK : In w w.heap.size K ck xk) (hA : PIn w w.heap.size A c ps) (ht : TabsQ w) :
    Calls Tryd.prog 5 #[.slice K xk.length ck, .slice A ps.length c] w fun e w' => e = .returned (.bool true) ∧ Below w.heap.size w w' := by
  have ma : min (xk.length : Int) 200 = ((xk.take 200).length : Int) := by rw [List.length_take]; omega
  have jk := iK.take 200
  have la2 : (xk.take 200).length ≤ 200 := by rw [List.length_take]; omega
  have la3 : (xk.take 200).length ≤ xk.length := by rw [List.length_take]; omega
  obtain ⟨hk1, hk2, _⟩ := iK
  have kk := jk.1
  generalize xk.take 200 = key at *
  have hq1 := few_length 8 200 ps
  have hq2 := few_flatten_le 8 200 ps
  obtain ⟨qs, hq⟩ : ∃ qs, few 8 200 ps = qs := ⟨_, rfl⟩
  rw [hq] at hq1 hq2
  have HQ := Lib.hid hq
  clear hq
  have hbuf := buf_empty w
  have hbl0 : Below w.heap.size w (w.alloc (.cells #[] 5)) := (Below.refl _ _).alloc (Nat.le_refl _) _
  have hsrc : _root_.Go.Src Tryd.prog 1 27 (.slice K key.length ck) key.length (key.map B8) (w.alloc (.cells #[] 5)) := src_in' ((jk.below hbl0).src (g := w.heap.size) (Nat.le_refl _))
  go_enter Tryd.func5, Tryd.ntmps5
  go_wp2_with (first
    | ((with_reducible refine (?_ : wpList _ _ _ (Oper.mk (some 14) _ _ _ _ _ :: _) _ _)); go_loud (refine wpList_append_keep rfl (.tmp 8) (.tmp 13) 27 rfl w.heap.size _ 0 0 [] key _ rfl hbuf rfl hsrc (by omega) (by simp) key.length (by omega) ?_); intro A3 c3 w3 hB3 hg3 _;
       have hb3 := below_own hbl0 hbuf hg3 (Nat.le_refl _) (by simp); rw [List.nil_append] at hB3; have hI3 := hB3.toIn (Nat.le_refl _); clear hg3)
    | ((with_reducible refine (?_ : wpList _ _ _ (Oper.mk (some 16) _ _ _ _ _ :: _) _ _)); go_loud (refine wpList_string_of rfl (.tmp 15) rfl key A3 c3 w3.heap.size rfl (hI3.src (Nat.le_refl _)) ?_)))
  clear hsrc hbuf hbl0 ma
  have hA3 := hA.up hb3
  refine (few_here (m := 8) (e := 200) hA3 (by decide) (by decide) HQ.out).mono ?_
  rintro r w4 ⟨A4, c4, rfl, hr4, hp4, hb4⟩
  clear hr4
  have hI4 := hI3.up hb4
  have hb4' := hb3.trans (hb4.mono hb3.size)
  have hm4 := qMac_any A3 A4 c3 c4 w4.heap.size key qs w4 (Nat.le_refl _) hI4 (by omega) (ht.below hb4') (by omega) hp4.1 hp4.2.1 (fun g hg => hp4.parts hg)
  go_wp2_with fail
  refine hm4.mono ?_
  rintro r w5 ⟨rfl, hb5⟩
  clear hm4
  have hp5 := hp4.up hb5
  have hI5 := hI4.up hb5
  have hb5' := hb4'.trans (hb5.mono hb4'.size)
  clear hb5 hb4 hb3 hb4' hp4 hI4 hI3 hA3 hB3
  obtain ⟨y, hy⟩ : ∃ y, y = hmacQ key qs.flatten := ⟨_, rfl⟩
  have hyl : y.length = 16 := by rw [hy]; exact hmacQ_length _ _
  rw [← hy]
  have HY := Lib.hid hy
  have HYL := Lib.hid hyl
  clear hy hyl
  go_wp2_with (refine wpList_store_blk rfl 35 (.tmp 7) (.tmp 21) rfl rfl w5.heap.size _ rfl rfl 35 _ (Blk.new_of w5 35 _ ((List.replicate 16 (0 : UInt8)).map B8) (by rfl)) (infoH.trans (by rw [List.length_map, HYL.out])) (by rw [List.length_map, List.length_map, HYL.out]; rfl) (one8 _) ?_; intro w6 hS6 hg6)
  have hb56 : Below w5.heap.size w5 w6 := below_new ((Below.refl _ _).alloc (Nat.le_refl _) _) hg6 (Nat.le_refl _) (by simp)
  have hp6 := hp5.up hb56
  have hI6 := hI5.up hb56
  have hb6 := hb5'.trans (hb56.mono hb5'.size)
  clear hg6 hb5' hb56 hp5 hI5
  have hlt6 : w5.heap.size < w6.heap.size := hS6.lt
  have HS0 := Lib.hid (show w6.drew.rangeAt w5.heap.size 0 (y.map B8) ∧ Below w6.heap.size w6 w6.drew from ⟨rangeAt_of_blk hS6.drew, below_drewN (Below.refl _ _) 1⟩)
  have HT := Lib.hid (fun (W : World) (h : W.rangeAt w5.heap.size 0 (y.map B8) ∧ Below w6.heap.size w6 W) => (ht.below hb6).below h.2)
  have HP := Lib.hid (fun (W : World) (h : W.rangeAt w5.heap.size 0 (y.map B8) ∧ Below w6.heap.size w6 W) => hp6.up h.2)
  have HRef := Lib.hid (fun (W : World) => by
    have := refMacQ_any key qs.flatten W (by omega) (by omega)
    rw [← HY.out] at this
    exact this)
  have hcv1 := fun (W : World) (h : W.rangeAt w5.heap.size 0 (y.map B8)) => conv_row HYL.out h 16
  have hcv2 := fun (W : World) (h : Below w6.heap.size w6 W) => conv_in (rfl : key.length = key.length) (hI6.up h)
  have hu := Tryd.underlying35
  have hi16 : (Tryd.prog.info? 35).map (·.size) = some (y.map B8).length := infoH.trans (by rw [List.length_map, HYL.out])
  have HB6 := Lib.hid hb6
  have hfl : qs.flatten.length < 549755813888 := by omega
  clear hS6 hb6 ht hA hp6 hq2 hq1
  go_region_held3 (fun w' => w'.rangeAt w5.heap.size 0 (y.map B8) ∧ Below w6.heap.size w6 w') (first | exact HS0.out | exact held_step hlt6 (by assumption) (by assumption)) (first
    | (go_at_call 19; refine (olds_any _ (HT.out _ (by assumption))).mono ?_; rintro e w7 ⟨rfl, hb7⟩)
    | (go_at_call 21; refine (all_here (by first | assumption | exact HP.out _ (by assumption)) hfl).mono ?_; rintro r w7 ⟨rfl, hb7⟩)
    | (go_at_call 23; ((with_reducible refine (HRef.out _).mono ?_); rintro e w7 ⟨rfl, hb7⟩)))
  all_goals
    have hfin := HB6.out.trans ((by assumption : World.rangeAt _ w5.heap.size 0 (y.map B8) ∧ Below w6.heap.size w6 _).2.mono HB6.out.size)
    go_wp2
    go_ret
    exact ⟨rfl, hfin⟩
end Go.Proofs.YtcjdpllhaebapabDoor
