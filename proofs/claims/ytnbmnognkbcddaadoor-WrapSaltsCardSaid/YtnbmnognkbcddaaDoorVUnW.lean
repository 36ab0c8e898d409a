/-
  The walk of the statement WrapUnwraps.
-/
import Derived.Test.YtnbmnognkbcddaaDoorVi
import Derived.Test.YtnbmnognkbcddaaDoorVg
namespace Go.Proofs.YtnbmnognkbcddaaDoor
open Go.RowKit

theorem ix_le6 {n : Nat} (h : n ≤ 300) : 0 + n ≤ 1099511627776 := by omega
theorem ix_min (n k : Nat) (xs : List UInt8) (h : (xs.take k).length = n) : min (xs.length : Int) (k : Int) = (n : Int) ∧ n ≤ k ∧ n ≤ xs.length := by
  rw [List.length_take] at h; omega
set_option maxRecDepth 100000 in
set_option maxHeartbeats 1000000 in
theorem wrapUnwraps_walk (A As : Option Addr) (c cs : Nat) (xv xs Q : List UInt8) (w : World) (iA : In w w.heap.size A c xv) (iS : In w w.heap.size As cs xs) (hQ : Q.length = 16) (ht : TabsQ w) :
    Calls Tryd.prog 9 #[.slice A xv.length c, .agg (Q.map B8).toArray, .slice As xs.length cs] w fun e w' => e = .returned (.bool true) ∧ Below w.heap.size w w' := by
  obtain ⟨n, hn⟩ : ∃ n, (xv.take 300).length = n := ⟨_, rfl⟩
  obtain ⟨ls, hls⟩ : ∃ ls, (xs.take 60).length = ls := ⟨_, rfl⟩
  obtain ⟨hm1, hm2, hm3⟩ := ix_min n 300 xv hn
  obtain ⟨hk1, hk2, hk3⟩ := ix_min ls 60 xs hls
  replace hm1 : min (xv.length : Int) 300 = (n : Int) := hm1
  replace hk1 : min (xs.length : Int) 60 = (ls : Int) := hk1
  have jA := iA.take 300
  have jS := iS.take 60
  obtain ⟨_, hc1, _⟩ := iA
  obtain ⟨_, hc2, _⟩ := iS
  have hmc : n ≤ c := by rw [← hn]; exact jA.1
  have hkc : ls ≤ cs := by rw [← hls]; exact jS.1
  generalize xv.take 300 = v at *
  generalize xs.take 60 = sec at *
  have HSV := Lib.hid (fun (W : World) (h : Below w.heap.size w W) => (show _root_.Go.Src Tryd.prog 1 26 (.slice A n c) v.length (v.map B8) W from src_at ((jA.up h).src (Nat.le_refl _)) hn))
  have HUW := Lib.hid (fun (W : World) (A3 : Option Addr) (c3 : Nat) (h : Below w.heap.size w W) (i0 : In W W.heap.size A3 c3 v) => unwrap_e Q v sec A3 As c3 cs n ls W hQ hn hls i0 (jS.up h) (ht.below h) (by omega) (by omega))
  have HRU := Lib.hid (fun (W : World) => runwrap_e Q v sec W hQ (by rw [hn]; omega) (by rw [hls]; omega))
  have HCS := Lib.hid (fun (W : World) (h : Below w.heap.size w W) => conv_in hls (jS.up h))
  have HWS := Lib.hid (fun (W : World) (h : Below w.heap.size w W) => wraps_e W (ht.below h))
  obtain ⟨E1, E2, E3, hE⟩ : ∃ E1 E2 E3, unwrapE v Q sec = (E1, E2, E3) := ⟨_, _, _, rfl⟩
  rw [hE] at HUW HRU
  have HN := Lib.hid hn
  have HM := Lib.hid (And.intro hm2 hk2)
  have HQ := Lib.hid hQ
  clear hE hn hls hQ jA jS ht hm2 hk2
  go_enter Tryd.func9, Tryd.ntmps9
  go_upto_region 1 with (fail)
  have hQb := Blk.new_of w 22 _ (Q.map B8) rfl
  have hb0 : Below w.heap.size w (w.alloc (.cells (Q.map B8).toArray 22)) := (Below.refl _ _).alloc (Nat.le_refl _) _
  have hgq := hQb.lt
  obtain ⟨gq, hgq'⟩ : ∃ gq, gq = w.heap.size := ⟨_, rfl⟩
  rw [← hgq'] at hQb hgq
  simp only [← hgq']
  have HGQ := Lib.hid hgq
  have HQB := Lib.hid hQb
  have HBW := Lib.hid hb0
  clear hgq' hb0 hgq hQb
  generalize (w.alloc (.cells (Q.map B8).toArray 22)) = w1 at *
  replace HSV := Lib.hid (fun (W : World) (h : Below w1.heap.size w1 W) => HSV.out W (HBW.out.trans (h.mono HBW.out.size)))
  refine wp_region_noPanic ?_
  refine wp_region_held_drew (S := fun W => Below w1.heap.size w1 W) (by kernel_rfl) (by exact below_drewN (Below.refl _ _) 1) (fun hHeld => ?_)
  refine wpAnyH_take (i := 1) (oi := ⟨_, _, _, _, _, _⟩) (v := ?_) rfl (by kernel_rfl) (by kernel_rfl) (by kernel_rfl) (fun _ _ _ h => h) (Or.inl ⟨by rfl, ?_⟩) hHeld ?_
  rotate_left 1
  · (intro W hSw; (try dsimp only at hSw); go_simp; try with_reducible rfl)
  try simp only [Act.put, List.setIfInBounds_toArray, List.set_cons_zero, List.set_cons_succ]
  refine wpAnyH_take (i := 2) (oi := ⟨_, _, _, _, _, _⟩) (v := ?_) rfl (by kernel_rfl) (by kernel_rfl) (by kernel_rfl) (fun _ _ _ h => h) (Or.inl ⟨by rfl, ?_⟩) hHeld ?_
  rotate_left 1
  · (intro W hSw; (try dsimp only at hSw); go_simp; try with_reducible rfl)
  try simp only [Act.put, List.setIfInBounds_toArray, List.set_cons_zero, List.set_cons_succ]
  refine wpAnyH_take (i := 3) (oi := ⟨_, _, _, _, _, _⟩) (v := ?_) rfl (by kernel_rfl) (by kernel_rfl) (by kernel_rfl) (fun _ _ _ h => h) (Or.inl ⟨by rfl, ?_⟩) hHeld ?_
  rotate_left 1
  · (intro W hSw; (try dsimp only at hSw); go_simp; try with_reducible rfl)
  try simp only [Act.put, List.setIfInBounds_toArray, List.set_cons_zero, List.set_cons_succ]
  refine wpAnyH_take (i := 4) (oi := ⟨_, _, _, _, _, _⟩) (v := ?_) rfl (by kernel_rfl) (by kernel_rfl) (by kernel_rfl) (fun _ _ _ h => h) (Or.inl ⟨by rfl, ?_⟩) hHeld ?_
  rotate_left 1
  · (intro W hSw; (try dsimp only at hSw); go_simp; try with_reducible rfl)
  try simp only [Act.put, List.setIfInBounds_toArray, List.set_cons_zero, List.set_cons_succ]
  refine wpAnyH_take (i := 5) (oi := ⟨_, _, _, _, _, _⟩) (v := ?_) rfl (by kernel_rfl) (by kernel_rfl) (by kernel_rfl) (fun _ _ _ h => h) (Or.inl ⟨by rfl, ?_⟩) hHeld ?_
  rotate_left 1
  · (intro W hSw; (try dsimp only at hSw); go_simp; try with_reducible rfl)
  try simp only [Act.put, List.setIfInBounds_toArray, List.set_cons_zero, List.set_cons_succ]
  refine wpAnyH_take (i := 7) (oi := ⟨_, _, _, _, _, _⟩) (v := ?_) rfl (by kernel_rfl) (by kernel_rfl) (by kernel_rfl) (fun _ _ _ h => h) (Or.inl ⟨by rfl, ?_⟩) hHeld ?_
  rotate_left 1
  · (intro W hSw; (try dsimp only at hSw); go_simp; try with_reducible rfl)
  try simp only [Act.put, List.setIfInBounds_toArray, List.set_cons_zero, List.set_cons_succ]
  refine wpAnyH_take (i := 8) (oi := ⟨_, _, _, _, _, _⟩) (v := ?_) rfl (by kernel_rfl) (by kernel_rfl) (by kernel_rfl) (fun _ _ _ h => h) (Or.inl ⟨by rfl, ?_⟩) hHeld ?_
  rotate_left 1
  · (intro W hSw; (try dsimp only at hSw); go_simp; try with_reducible rfl)
  try simp only [Act.put, List.setIfInBounds_toArray, List.set_cons_zero, List.set_cons_succ]
  refine wpAnyH_take (i := 9) (oi := ⟨_, _, _, _, _, _⟩) (v := ?_) rfl (by kernel_rfl) (by kernel_rfl) (by kernel_rfl) (fun _ _ _ h => h) (Or.inl ⟨by rfl, ?_⟩) hHeld ?_
  rotate_left 1
  · (intro W hSw; (try dsimp only at hSw); go_simp; try with_reducible rfl)
  try simp only [Act.put, List.setIfInBounds_toArray, List.set_cons_zero, List.set_cons_succ]
  refine wpAnyH_take (i := 10) (oi := ⟨_, _, _, _, _, _⟩) (v := ?_) rfl (by kernel_rfl) (by kernel_rfl) (by kernel_rfl) (fun _ _ _ h => h) (Or.inl ⟨by rfl, ?_⟩) hHeld ?_
  rotate_left 1
  · (intro W hSw; (try dsimp only at hSw); go_simp; try with_reducible rfl)
  try simp only [Act.put, List.setIfInBounds_toArray, List.set_cons_zero, List.set_cons_succ]
  refine wpAnyH_take (i := 11) (oi := ⟨_, _, _, _, _, _⟩) (v := ?_) rfl (by kernel_rfl) (by kernel_rfl) (by kernel_rfl) (fun _ _ _ h => h) (Or.inl ⟨by rfl, ?_⟩) hHeld ?_
  rotate_left 1
  · (intro W hSw; (try dsimp only at hSw); go_simp; try with_reducible rfl)
  try simp only [Act.put, List.setIfInBounds_toArray, List.set_cons_zero, List.set_cons_succ]
  replace hHeld : Below w1.heap.size w1 w1.drew := hHeld
  generalize w1.drew = wd at *
  have hz := hHeld.size
  refine wpAnyH_ready (rs := [0]) (by kernel_rfl) (by simp) ?_
  refine AllReadyH.cons (o := ⟨_, _, _, _, _, _⟩) rfl (fun K hK => ?_) AllReadyH.nil
  go_simp
  have hbuf := buf_empty wd
  refine hK.out _ _ (hHeld.alloc hz _) (fun hHeld => ?_)
  clear hK K
  try simp only [Act.put, List.setIfInBounds_toArray, List.set_cons_zero, List.set_cons_succ]
  refine wpAnyH_ready (rs := [6]) (by kernel_rfl) (by simp) ?_
  refine AllReadyH.cons (o := ⟨_, _, _, _, _, _⟩) rfl (fun K hK => ?_) AllReadyH.nil
  refine step_append_far (by rfl) (.tmp 13) (.tmp 18) 26 rfl wd.heap.size _ 0 0 [] v _ rfl hbuf rfl (HSV.out _ hHeld) (by rw [HN.out]; exact ix_le6 HM.out.1) (by simp) n (by rw [HN.out]; simp) ?_
  intro A3 c3 w3 hB3 hg3 _
  rw [List.nil_append] at hB3
  refine hK.out _ _ (below_own hHeld hbuf hg3 hz (Nat.le_trans hz (by simp))) (fun hHeld => ?_)
  clear hK K hbuf hg3
  replace hHeld : Below w1.heap.size w1 w3 := hHeld
  try simp only [Act.put, List.setIfInBounds_toArray, List.set_cons_zero, List.set_cons_succ]
  refine wpAnyH_take (i := 12) (oi := ⟨_, _, _, _, _, _⟩) (v := ?_) rfl (by kernel_rfl) (by kernel_rfl) (by kernel_rfl) (fun _ _ _ h => h) (Or.inl ⟨by rfl, ?_⟩) hHeld ?_
  rotate_left 1
  · (intro W hSw; (try dsimp only at hSw); go_simp; try with_reducible rfl)
  try simp only [Act.put, List.setIfInBounds_toArray, List.set_cons_zero]
  refine wpAnyH_take (i := 13) (oi := ⟨_, _, _, _, _, _⟩) (v := ?_) rfl (by kernel_rfl) (by kernel_rfl) (by kernel_rfl) (fun _ _ _ h => h) (Or.inl ⟨by rfl, ?_⟩) hHeld ?_
  rotate_left 1
  · (intro W hSw; (try dsimp only at hSw); go_simp; try with_reducible rfl)
  try simp only [Act.put, List.setIfInBounds_toArray, List.set_cons_zero, List.set_cons_succ]
  refine wpAnyH_done (by kernel_rfl) ?_ _
  refine NoPanic.normal ?_
  have HB3 := Lib.hid (HBW.out.trans (hHeld.mono HBW.out.size))
  have hQ3 := HQB.out.below hHeld HGQ.out
  have HI3 := Lib.hid (hB3.toIn (Nat.le_refl _))
  clear hHeld hB3 HSV hm1 hk1 hm3 hk3 hc1 hc2 hmc hkc
  go_upto_region 3 with (first
    | ((with_reducible refine (?_ : wpList _ _ _ (Oper.mk (some 27) _ _ _ _ _ :: _) _ _)); go_loud (refine wpList_load_blk rfl 22 (.tmp 4) rfl gq rfl 22 _ _ hQ3 Tryd.underlying22 rfl (inf16.trans (by rw [List.length_map, HQ.out])) ?_))
    | (go_at_call 43; refine (HUW.out _ _ _ HB3.out HI3.out).mono ?_; rintro e w4 ⟨A4, n4, c4, rfl, hl4, hI4, hb4⟩))
  have HB4 := Lib.hid (HB3.out.trans (hb4.mono HB3.out.size))
  have hQ4 := hQ3.below hb4 hQ3.lt
  have hcv := conv_in HN.out (HI3.out.up hb4)
  have hcs := HCS.out w4 HB4.out
  have HL4 := Lib.hid hl4
  have HI4 := Lib.hid hI4
  clear hb4 hQ3 hl4 hI4
  go_upto_region 4 with (first
    | ((with_reducible refine (?_ : wpList _ _ _ (Oper.mk (some 36) _ _ _ _ _ :: _) _ _)); go_loud (refine wpList_load_blk rfl 22 (.tmp 4) rfl gq rfl 22 _ _ hQ4 Tryd.underlying22 rfl (inf16.trans (by rw [List.length_map, HQ.out])) ?_))
    | (go_at_call 44; refine (HRU.out _).mono ?_; rintro e w5 ⟨rfl, hb5⟩))
  have HB5 := Lib.hid (HB4.out.trans (hb5.mono HB4.out.size))
  have HI5 := Lib.hid (HI4.out.up hb5)
  clear hb5 hcv hcs hQ4
  go_wp2_with (go_at_call 42; refine (HWS.out _ HB5.out).mono ?_; rintro e w6 ⟨rfl, hb6⟩; have hc6 := conv_in HL4.out (HI5.out.up hb6))
  go_ret
  exact ⟨rfl, HB5.out.trans (hb6.mono HB5.out.size)⟩
end Go.Proofs.YtnbmnognkbcddaaDoor
