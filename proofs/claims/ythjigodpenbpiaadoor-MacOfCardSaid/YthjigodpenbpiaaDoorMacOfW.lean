/-
  The walk of the statement MacOf.
-/
import Derived.Test.YthjigodpenbpiaaDoorFew
import Derived.Test.YthjigodpenbpiaaDoorRefMac
import Derived.Test.YthjigodpenbpiaaDoorMacs
namespace Go.Proofs.YthjigodpenbpiaaDoor
open Go.RowKit

/-- What holds through a great condition: two rows of 32 bytes, and all that was there. -/
abbrev TwoS (w6 : World) (g g' : Nat) (y : List UInt8) (W : World) : Prop := (W.rangeAt g 0 (y.map B8) ∧ W.rangeAt g' 0 (y.map B8)) ∧ Below w6.heap.size w6 W
section
variable {w6 W W' : World} {g g' : Nat} {y : List UInt8}
theorem range_below {g o : Nat} {cs : List Value} (h : W.rangeAt g o cs) (hb : Below W.heap.size W W') (hg : g < W.heap.size) : W'.rangeAt g o cs := fun j v hv => (hb.cell (p := ⟨g, o + j, none⟩) hg).trans (h j v hv)
theorem TwoS.step (h : TwoS w6 g g' y W) (hg : g < w6.heap.size) (hg' : g' < w6.heap.size) (hb : Below W.heap.size W W') : TwoS w6 g g' y W' :=
  ⟨⟨range_below h.1.1 hb (Nat.lt_of_lt_of_le hg h.2.size), range_below h.1.2 hb (Nat.lt_of_lt_of_le hg' h.2.size)⟩, h.2.trans (hb.mono h.2.size)⟩
end

set_option maxRecDepth 100000 in
set_option maxHeartbeats 4000000 in
theorem macOf_walk (K A : Option Addr) (ck c : Nat) (xk : List UInt8) (ps : List (List UInt8)) (w : World) (iK : In w w.heap.size K ck xk) (hA : PIn w w.heap.size A c ps) (ht : Tabs w) :
    Calls Tryd.prog 9 #[.slice K xk.length ck, .slice A ps.length c] w fun e w' => e = .returned (.bool true) ∧ Below w.heap.size w w' := by
  have ma : min (xk.length : Int) 200 = ((xk.take 200).length : Int) := by rw [List.length_take]; omega
  have jk := iK.take 200
  have la2 : (xk.take 200).length ≤ 200 := by rw [List.length_take]; omega
  have la3 : (xk.take 200).length ≤ xk.length := by rw [List.length_take]; omega
  obtain ⟨hk1, hk2, _⟩ := iK
  have kk := jk.1
  generalize xk.take 200 = key at *
  have hq1 := few_length 8 200 ps
  have hq2 := few_flatten_le 8 200 ps
  obtain ⟨qs, hq⟩ : ∃ qs, few 8 200 ps = qs := ⟨_, rfl⟩
  rw [hq] at hq1 hq2
  have HQ := Lib.hid hq
  clear hq
  have hbuf := buf_empty w
  have hbl0 : Below w.heap.size w (w.alloc (.cells #[] 5)) := (Below.refl _ _).alloc (Nat.le_refl _) _
  have hsrc : _root_.Go.Src Tryd.prog 1 27 (.slice K key.length ck) key.length (key.map B8) (w.alloc (.cells #[] 5)) := src_in' ((jk.below hbl0).src (g := w.heap.size) (Nat.le_refl _))
  go_enter Tryd.func9, Tryd.ntmps9
  go_wp2_with (first
    | ((with_reducible refine (?_ : wpList _ _ _ (Oper.mk (some 16) _ _ _ _ _ :: _) _ _)); go_loud (refine wpList_append_keep rfl (.tmp 10) (.tmp 15) 27 rfl w.heap.size _ 0 0 [] key _ rfl hbuf rfl hsrc (by omega) (by simp) key.length (by omega) ?_); intro A3 c3 w3 hB3 hg3 _;
       have hb3 := below_own hbl0 hbuf hg3 (Nat.le_refl _) (by simp); rw [List.nil_append] at hB3; have hI3 := hB3.toIn (Nat.le_refl _); clear hg3)
    | ((with_reducible refine (?_ : wpList _ _ _ (Oper.mk (some 18) _ _ _ _ _ :: _) _ _)); go_loud (refine wpList_string_of rfl (.tmp 17) rfl key A3 c3 w3.heap.size rfl (hI3.src (Nat.le_refl _)) ?_)))
  clear hsrc hbuf hbl0 ma
  have hA3 := hA.up hb3
  refine (few_here (m := 8) (e := 200) hA3 (by decide) (by decide) HQ.out).mono ?_
  rintro r w4 ⟨A4, c4, rfl, hr4, hp4, hb4⟩
  clear hr4
  go_wp2_with fail
  refine (all_here hp4 (by omega)).mono ?_
  rintro r w5 ⟨rfl, hb5⟩
  obtain ⟨m, hm⟩ : ∃ m, qs.flatten = m := ⟨_, rfl⟩
  rw [hm] at hq2 ⊢
  have HM := Lib.hid hm
  clear hm
  have hp5 := hp4.up hb5
  have hI5 := (hI3.up hb4).up hb5
  have hb5' := (hb3.trans (hb4.mono hb3.size)).trans (hb5.mono (Nat.le_trans hb3.size hb4.size))
  have hm5 := macOf_any A3 A4 c3 c4 w5.heap.size key qs w5 (Nat.le_refl _) hI5 (by omega) (ht.below hb5') (by rw [HM.out]; omega) hp5.1 hp5.2.1 (fun g hg => hp5.parts hg)
  rw [HM.out] at hm5
  go_wp2_with fail
  refine hm5.mono ?_
  rintro r w6 ⟨rfl, hb6⟩
  clear hm5
  have hp6 := hp5.up hb6
  have hI6 := hI5.up hb6
  have hb6' := hb5'.trans (hb6.mono hb5'.size)
  clear hb5 hb6 hb4 hb3 hp4 hp5 hI5 hI3 hA3 hB3
  obtain ⟨y, hy⟩ : ∃ y, y = hmac key m := ⟨_, rfl⟩
  have hyl : y.length = 32 := by rw [hy]; exact hmac_length _ _
  rw [← hy]
  have HY := Lib.hid hy
  have HYL := Lib.hid hyl
  clear hy hyl
  go_wp2_with (first
    | ((with_reducible refine (?_ : wpList _ _ _ (Oper.mk none (.store 24 (.tmp 8) _) _ _ _ _ :: _) _ _)); go_loud (refine wpList_store_blk rfl 24 (.tmp 8) (.tmp 25) rfl rfl w6.heap.size _ rfl rfl 24 _ (Blk.new_of w6 24 _ ((List.replicate 32 (0 : UInt8)).map B8) (by rfl)) (info32.trans (by rw [List.length_map, HYL.out])) (by rw [List.length_map, List.length_map, HYL.out]; rfl) (one8 _) ?_); intro w7 hS7 hg7;
       have hb67 : Below w6.heap.size w6 w7 := below_new ((Below.refl _ _).alloc (Nat.le_refl _) _) hg7 (Nat.le_refl _) (by simp); have hp7 := hp6.up hb67; have hI7 := hI6.up hb67; have hb7 := hb6'.trans (hb67.mono hb6'.size); clear hg7 hb67 hp6 hI6)
    | ((with_reducible refine (?_ : wpList _ _ _ (Oper.mk (some 28) _ _ _ _ _ :: _) _ _)); go_loud (refine wpList_bytes_of rfl (.tmp 27) rfl m rfl (by omega) ?_); intro c8 w8 hB8 hb78;
       have hS8 := hS7.below hb78 hS7.lt; have hp8 := hp7.up hb78; have hI8 := hI7.up hb78; have hb8 := hb7.trans (hb78.mono hb7.size); have hI8' := hB8.toIn (Nat.le_refl _); clear hb78 hS7 hp7 hI7))
  have hm8 := extract_any A3 _ c3 c8 w8.heap.size key m w8 (Nat.le_refl _) hI8 hI8' (by omega) (by omega) (ht.below hb8)
  refine hm8.mono ?_
  rintro r w9 ⟨rfl, hb89⟩
  rw [← HY.out]
  have hS9 := hS8.below hb89 hS8.lt
  have hp9 := hp8.up hb89
  have hI9 := hI8.up hb89
  have hb9 := hb8.trans (hb89.mono hb8.size)
  have hlt9 := hS9.lt
  clear hm8 hb89 hS8 hp8 hI8 hI8' hB8 hb8 hb7
  go_wp2_with (refine wpList_store_blk rfl 24 (.tmp 9) (.tmp 29) rfl rfl w9.heap.size _ rfl rfl 24 _ (Blk.new_of w9 24 _ ((List.replicate 32 (0 : UInt8)).map B8) (by rfl)) (info32.trans (by rw [List.length_map, HYL.out])) (by rw [List.length_map, List.length_map, HYL.out]; rfl) (one8 _) ?_; intro wx hSx hgx)
  have hb9x : Below w9.heap.size w9 wx := below_new ((Below.refl _ _).alloc (Nat.le_refl _) _) hgx (Nat.le_refl _) (by simp)
  have hS6 := hS9.below hb9x hS9.lt
  have hpx := hp9.up hb9x
  have hIx := hI9.up hb9x
  have hbx := hb9.trans (hb9x.mono hb9.size)
  have hltx := hSx.lt
  have hlt6 := hS6.lt
  clear hgx hb9x hS9 hp9 hI9 hb9
  have HS0 := Lib.hid (show TwoS wx w6.heap.size w9.heap.size y wx.drew from ⟨⟨rangeAt_of_blk hS6.drew, rangeAt_of_blk hSx.drew⟩, below_drewN (Below.refl _ _) 1⟩)
  have HT := Lib.hid (fun (W : World) (h : TwoS wx w6.heap.size w9.heap.size y W) => (ht.below hbx).below h.2)
  have HP := Lib.hid (fun (W : World) (h : TwoS wx w6.heap.size w9.heap.size y W) => by
    have := all_here (hpx.up h.2) (by rw [HM.out]; omega)
    rw [HM.out] at this
    exact this)
  have hfl : m.length < 549755813888 := by omega
  have HRef := Lib.hid (fun (W : World) => by
    have := refMac_any key m W (by omega) (by omega)
    rw [← HY.out] at this
    exact this)
  have hq1' := eq32 y HYL.out
  have hcv1 := fun (W : World) (h : W.rangeAt w6.heap.size 0 (y.map B8)) => conv_row HYL.out h 32
  have hcv2 := fun (W : World) (h : Below wx.heap.size wx W) => conv_in rfl (hIx.up h)
  have hu := Tryd.underlying24
  have hi32 : (Tryd.prog.info? 24).map (·.size) = some (y.map B8).length := info32.trans (by rw [List.length_map, HYL.out])
  have HB := Lib.hid hbx
  clear hS6 hSx hbx ht hA hpx hIx hq2 hq1 la2 la3 hk1 hk2 kk jk hb5' hb6'
  refine wp_region_noPanic ?_
  refine wp_region_held_drew (S := TwoS wx w6.heap.size w9.heap.size y) (by kernel_rfl) (HS0.out) (fun hHeld => ?_)
  refine wpAnyH_ready (rs := [0]) (by kernel_rfl) (by simp) ?_
  refine AllReadyH.cons (o := ⟨_, _, _, _, _, _⟩) rfl (fun K hK => ?_) AllReadyH.nil
  go_simp
  (first
    | (go_at_call 37; ((with_reducible refine (macs_any _ (HT.out _ (by assumption))).mono ?_); rintro e wy ⟨rfl, hby⟩))
    | (go_at_call 38; ((with_reducible refine (HRef.out _).mono ?_); rintro e wy ⟨rfl, hby⟩))
    | (go_at_call 20; ((with_reducible refine (HP.out _ (by assumption)).mono ?_); rintro r wy ⟨rfl, hby⟩)))
  try go_wp2_with fail
  refine hK.out _ _ (TwoS.step (by assumption) hlt6 hltx (by assumption)) (fun hHeld => ?_)
  clear hK K
  try simp only [Act.put, List.setIfInBounds_toArray, List.set_cons_zero, List.set_cons_succ]
  refine wpAnyH_take (i := 1) (oi := ⟨_, _, _, _, _, _⟩) (v := ?_) rfl (by kernel_rfl) (by kernel_rfl) (by kernel_rfl) (fun _ _ _ h => h) (Or.inl ⟨by rfl, ?_⟩) hHeld ?_
  rotate_left 1
  · (intro w hSw; (try dsimp only at hSw); go_simp; try with_reducible rfl)
  try simp only [Act.put, List.setIfInBounds_toArray, List.set_cons_zero, List.set_cons_succ]
  refine wpAnyH_take (i := 2) (oi := ⟨_, _, _, _, _, _⟩) (v := ?_) rfl (by kernel_rfl) (by kernel_rfl) (by kernel_rfl) (fun _ _ _ h => h) (Or.inl ⟨by rfl, ?_⟩) hHeld ?_
  rotate_left 1
  · (intro w hSw; (try dsimp only at hSw); go_simp; try with_reducible rfl)
  try simp only [Act.put, List.setIfInBounds_toArray, List.set_cons_zero, List.set_cons_succ]
  refine wpAnyH_take (i := 3) (oi := ⟨_, _, _, _, _, _⟩) (v := ?_) rfl (by kernel_rfl) (by kernel_rfl) (by kernel_rfl) (fun _ _ _ h => h) (Or.inl ⟨by rfl, ?_⟩) hHeld ?_
  rotate_left 1
  · (intro w hSw; (try dsimp only at hSw); go_simp; try with_reducible rfl)
  try simp only [Act.put, List.setIfInBounds_toArray, List.set_cons_zero, List.set_cons_succ]
  refine wpAnyH_take (i := 4) (oi := ⟨_, _, _, _, _, _⟩) (v := ?_) rfl (by kernel_rfl) (by kernel_rfl) (by kernel_rfl) (fun _ _ _ h => h) (Or.inl ⟨by rfl, ?_⟩) hHeld ?_
  rotate_left 1
  · (intro w hSw; (try dsimp only at hSw); go_simp; try with_reducible rfl)
  try simp only [Act.put, List.setIfInBounds_toArray, List.set_cons_zero, List.set_cons_succ]
  refine wpAnyH_take (i := 5) (oi := ⟨_, _, _, _, _, _⟩) (v := ?_) rfl (by kernel_rfl) (by kernel_rfl) (by kernel_rfl) (fun _ _ _ h => h) (Or.inl ⟨by rfl, ?_⟩) hHeld ?_
  rotate_left 1
  · (intro w hSw; (try dsimp only at hSw); go_simp; try with_reducible rfl)
  try simp only [Act.put, List.setIfInBounds_toArray, List.set_cons_zero, List.set_cons_succ]
  refine wpAnyH_ready (rs := [6]) (by kernel_rfl) (by simp) ?_
  refine AllReadyH.cons (o := ⟨_, _, _, _, _, _⟩) rfl (fun K hK => ?_) AllReadyH.nil
  go_simp
  (first
    | (go_at_call 37; ((with_reducible refine (macs_any _ (HT.out _ (by assumption))).mono ?_); rintro e wy ⟨rfl, hby⟩))
    | (go_at_call 38; ((with_reducible refine (HRef.out _).mono ?_); rintro e wy ⟨rfl, hby⟩))
    | (go_at_call 20; ((with_reducible refine (HP.out _ (by assumption)).mono ?_); rintro r wy ⟨rfl, hby⟩)))
  try go_wp2_with fail
  refine hK.out _ _ (TwoS.step (by assumption) hlt6 hltx (by assumption)) (fun hHeld => ?_)
  clear hK K
  try simp only [Act.put, List.setIfInBounds_toArray, List.set_cons_zero, List.set_cons_succ]
  refine wpAnyH_take (i := 7) (oi := ⟨_, _, _, _, _, _⟩) (v := ?_) rfl (by kernel_rfl) (by kernel_rfl) (by kernel_rfl) (fun _ _ _ h => h) (Or.inl ⟨by rfl, ?_⟩) hHeld ?_
  rotate_left 1
  · (intro w hSw; (try dsimp only at hSw); go_simp; try with_reducible rfl)
  try simp only [Act.put, List.setIfInBounds_toArray, List.set_cons_zero, List.set_cons_succ]
  refine wpAnyH_take (i := 8) (oi := ⟨_, _, _, _, _, _⟩) (v := ?_) rfl (by kernel_rfl) (by kernel_rfl) (by kernel_rfl) (fun _ _ _ h => h) (Or.inl ⟨by rfl, ?_⟩) hHeld ?_
  rotate_left 1
  · (intro w hSw; (try dsimp only at hSw); go_simp; try with_reducible rfl)
  try simp only [Act.put, List.setIfInBounds_toArray, List.set_cons_zero, List.set_cons_succ]
  refine wpAnyH_take (i := 9) (oi := ⟨_, _, _, _, _, _⟩) (v := ?_) rfl (by kernel_rfl) (by kernel_rfl) (by kernel_rfl) (fun _ _ _ h => h) (Or.inl ⟨by rfl, ?_⟩) hHeld ?_
  rotate_left 1
  · (intro w hSw; (try dsimp only at hSw); go_simp; try with_reducible rfl)
  try simp only [Act.put, List.setIfInBounds_toArray, List.set_cons_zero, List.set_cons_succ]
  refine' wpAnyH_take (i := 10) (oi := ⟨_, _, _, _, _, _⟩) rfl (by kernel_rfl) (by kernel_rfl) (by kernel_rfl) (fun _ _ _ h => h) (yieldsIf_load_mid (by rfl) _ _ rfl (w6.heap.size) 0 rfl (y.map B8) _ (fun w h => h.1.1) hu rfl hi32) hHeld ?_
  try simp only [Act.put, List.setIfInBounds_toArray, List.set_cons_zero, List.set_cons_succ]
  refine' wpAnyH_take (i := 11) (oi := ⟨_, _, _, _, _, _⟩) rfl (by kernel_rfl) (by kernel_rfl) (by kernel_rfl) (fun _ _ _ h => h) (yieldsIf_load_mid (by rfl) _ _ rfl (w9.heap.size) 0 rfl (y.map B8) _ (fun w h => h.1.2) hu rfl hi32) hHeld ?_
  try simp only [Act.put, List.setIfInBounds_toArray, List.set_cons_zero, List.set_cons_succ]
  refine wpAnyH_take (i := 12) (oi := ⟨_, _, _, _, _, _⟩) (v := ?_) rfl (by kernel_rfl) (by kernel_rfl) (by kernel_rfl) (fun _ _ _ h => h) (Or.inl ⟨by rfl, ?_⟩) hHeld ?_
  rotate_left 1
  · (intro w hSw; (try dsimp only at hSw); go_simp; try with_reducible rfl)
  try simp only [Act.put, List.setIfInBounds_toArray, List.set_cons_zero, List.set_cons_succ]
  refine wpAnyH_take (i := 13) (oi := ⟨_, _, _, _, _, _⟩) (v := ?_) rfl (by kernel_rfl) (by kernel_rfl) (by kernel_rfl) (fun _ _ _ h => h) (Or.inl ⟨by rfl, ?_⟩) hHeld ?_
  rotate_left 1
  · (intro w hSw; (try dsimp only at hSw); go_simp; try with_reducible rfl)
  try simp only [Act.put, List.setIfInBounds_toArray, List.set_cons_zero, List.set_cons_succ]
  refine wpAnyH_take (i := 14) (oi := ⟨_, _, _, _, _, _⟩) (v := ?_) rfl (by kernel_rfl) (by kernel_rfl) (by kernel_rfl) (fun _ _ _ h => h) (Or.inl ⟨by rfl, ?_⟩) hHeld ?_
  rotate_left 1
  · (intro w hSw; (try dsimp only at hSw); go_simp; try with_reducible rfl)
  try simp only [Act.put, List.setIfInBounds_toArray, List.set_cons_zero, List.set_cons_succ]
  refine wpAnyH_take (i := 15) (oi := ⟨_, _, _, _, _, _⟩) (v := ?_) rfl (by kernel_rfl) (by kernel_rfl) (by kernel_rfl) (fun _ _ _ h => h) (Or.inl ⟨by rfl, ?_⟩) hHeld ?_
  rotate_left 1
  · (intro w hSw; (try dsimp only at hSw); go_simp; try with_reducible rfl)
  try simp only [Act.put, List.setIfInBounds_toArray, List.set_cons_zero, List.set_cons_succ]
  refine wpAnyH_take (i := 16) (oi := ⟨_, _, _, _, _, _⟩) (v := ?_) rfl (by kernel_rfl) (by kernel_rfl) (by kernel_rfl) (fun _ _ _ h => h) (Or.inl ⟨by rfl, ?_⟩) hHeld ?_
  rotate_left 1
  · (intro w hSw; (try dsimp only at hSw); go_simp; try with_reducible rfl)
  try simp only [Act.put, List.setIfInBounds_toArray, List.set_cons_zero, List.set_cons_succ]
  refine wpAnyH_take (i := 17) (oi := ⟨_, _, _, _, _, _⟩) (v := ?_) rfl (by kernel_rfl) (by kernel_rfl) (by kernel_rfl) (fun _ _ _ h => h) (Or.inl ⟨by rfl, ?_⟩) hHeld ?_
  rotate_left 1
  · (intro w hSw; (try dsimp only at hSw); go_simp; try with_reducible rfl)
  try simp only [Act.put, List.setIfInBounds_toArray, List.set_cons_zero, List.set_cons_succ]
  refine wpAnyH_take (i := 18) (oi := ⟨_, _, _, _, _, _⟩) (v := ?_) rfl (by kernel_rfl) (by kernel_rfl) (by kernel_rfl) (fun _ _ _ h => h) (Or.inl ⟨by rfl, ?_⟩) hHeld ?_
  rotate_left 1
  · (intro w hSw; (try dsimp only at hSw); go_simp; try with_reducible rfl)
  try simp only [Act.put, List.setIfInBounds_toArray, List.set_cons_zero, List.set_cons_succ]
  refine wpAnyH_take (i := 19) (oi := ⟨_, _, _, _, _, _⟩) (v := ?_) rfl (by kernel_rfl) (by kernel_rfl) (by kernel_rfl) (fun _ _ _ h => h) (Or.inl ⟨by rfl, ?_⟩) hHeld ?_
  rotate_left 1
  · (intro w hSw; (try dsimp only at hSw); go_simp; try with_reducible rfl)
  try simp only [Act.put, List.setIfInBounds_toArray, List.set_cons_zero, List.set_cons_succ]
  refine wpAnyH_take (i := 20) (oi := ⟨_, _, _, _, _, _⟩) (v := ?_) rfl (by kernel_rfl) (by kernel_rfl) (by kernel_rfl) (fun _ _ _ h => h) (Or.inl ⟨by rfl, ?_⟩) hHeld ?_
  rotate_left 1
  · (intro w hSw; (try dsimp only at hSw); go_simp; try with_reducible rfl)
  try simp only [Act.put, List.setIfInBounds_toArray, List.set_cons_zero, List.set_cons_succ]
  refine wpAnyH_take (i := 21) (oi := ⟨_, _, _, _, _, _⟩) (v := ?_) rfl (by kernel_rfl) (by kernel_rfl) (by kernel_rfl) (fun _ _ _ h => h) (Or.inl ⟨by rfl, ?_⟩) hHeld ?_
  rotate_left 1
  · (intro w hSw; (try dsimp only at hSw); go_simp; try with_reducible rfl)
  try simp only [Act.put, List.setIfInBounds_toArray, List.set_cons_zero, List.set_cons_succ]
  refine wpAnyH_take (i := 23) (oi := ⟨_, _, _, _, _, _⟩) (v := ?_) rfl (by kernel_rfl) (by kernel_rfl) (by kernel_rfl) (fun _ _ _ h => h) (Or.inl ⟨by rfl, ?_⟩) hHeld ?_
  rotate_left 1
  · (intro w hSw; (try dsimp only at hSw); go_simp; try with_reducible rfl)
  try simp only [Act.put, List.setIfInBounds_toArray, List.set_cons_zero, List.set_cons_succ]
  refine wpAnyH_ready (rs := [22]) (by kernel_rfl) (by simp) ?_
  refine AllReadyH.cons (o := ⟨_, _, _, _, _, _⟩) rfl (fun K hK => ?_) AllReadyH.nil
  go_simp
  (first
    | (go_at_call 37; ((with_reducible refine (macs_any _ (HT.out _ (by assumption))).mono ?_); rintro e wy ⟨rfl, hby⟩))
    | (go_at_call 38; ((with_reducible refine (HRef.out _).mono ?_); rintro e wy ⟨rfl, hby⟩))
    | (go_at_call 20; ((with_reducible refine (HP.out _ (by assumption)).mono ?_); rintro r wy ⟨rfl, hby⟩)))
  try go_wp2_with fail
  refine hK.out _ _ (TwoS.step (by assumption) hlt6 hltx (by assumption)) (fun hHeld => ?_)
  clear hK K
  try simp only [Act.put, List.setIfInBounds_toArray, List.set_cons_zero, List.set_cons_succ]
  refine wpAnyH_take (i := 24) (oi := ⟨_, _, _, _, _, _⟩) (v := ?_) rfl (by kernel_rfl) (by kernel_rfl) (by kernel_rfl) (fun _ _ _ h => h) (Or.inl ⟨by rfl, ?_⟩) hHeld ?_
  rotate_left 1
  · (intro w hSw; (try dsimp only at hSw); go_simp; try with_reducible rfl)
  try simp only [Act.put, List.setIfInBounds_toArray, List.set_cons_zero, List.set_cons_succ]
  refine wpAnyH_take (i := 25) (oi := ⟨_, _, _, _, _, _⟩) (v := ?_) rfl (by kernel_rfl) (by kernel_rfl) (by kernel_rfl) (fun _ _ _ h => h) (Or.inl ⟨by rfl, ?_⟩) hHeld ?_
  rotate_left 1
  · (intro w hSw; (try dsimp only at hSw); go_simp; try with_reducible rfl)
  try simp only [Act.put, List.setIfInBounds_toArray, List.set_cons_zero, List.set_cons_succ]
  refine wpAnyH_take (i := 26) (oi := ⟨_, _, _, _, _, _⟩) (v := ?_) rfl (by kernel_rfl) (by kernel_rfl) (by kernel_rfl) (fun _ _ _ h => h) (Or.inl ⟨by rfl, ?_⟩) hHeld ?_
  rotate_left 1
  · (intro w hSw; (try dsimp only at hSw); go_simp; try with_reducible rfl)
  try simp only [Act.put, List.setIfInBounds_toArray, List.set_cons_zero, List.set_cons_succ]
  refine wpAnyH_done (by kernel_rfl) ?_ _
  refine NoPanic.normal ?_
  have hfin := HB.out.trans (hHeld.2.mono HB.out.size)
  go_wp2
  go_ret
  exact ⟨rfl, hfin⟩
end Go.Proofs.YthjigodpenbpiaaDoor
