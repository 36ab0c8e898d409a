/-
  The walk of the statement EapWrites.
-/
import Derived.Test.YtokogedgbegmkaaEf
import Derived.Test.YtokogedgbegmkaaEc
namespace Go.Proofs.Ytokogedgbegmkaa
open Go.RowKit

theorem extract_to (b : List UInt8) (m : Nat) : (⟨b.toArray⟩ : ByteArray).extract 0 m = ⟨(b.take m).toArray⟩ := by
  apply ByteArray.ext
  rw [ByteArray.data_extract]
  simp
set_option maxRecDepth 100000 in
set_option maxHeartbeats 1000000 in
theorem eapWrites_walk (c i t : Int) (s : List UInt8) (w : World) :
    Calls Try.prog 7 #[.agg #[.int .i64 c, .int .i64 i, .int .i64 t, .string ⟨s.toArray⟩]] w fun e w' => e = .returned (.bool true) ∧ Below w.heap.size w w' := by
  have ms : min (s.length : Int) 5000 = ((s.take 5000).length : Int) := by rw [List.length_take]; omega
  have hb3 : (s.take 5000).length ≤ 5000 := by rw [List.length_take]; omega
  have hbl : (s.take 5000).length ≤ s.length := by rw [List.length_take]; omega
  have hex := extract_to s (s.take 5000).length
  rw [List.take_eq_take_iff.2 (show min (s.take 5000).length s.length = min 5000 s.length by rw [List.length_take]; omega)] at hex
  generalize s.take 5000 = S at *
  obtain ⟨n, hn⟩ : ∃ n, n = S.length := ⟨_, rfl⟩
  rw [← hn] at ms hb3 hbl hex
  have hc0 : (0 : Int) ≤ (n : Int) := by omega
  have HN := Lib.hid hn.symm
  have HM := Lib.hid (show n < 900000 by omega)
  have HM2 := Lib.hid (show n < 1000000 by omega)
  clear hn hb3
  go_enter Try.func7, Try.ntmps7
  go_upto_region 1 with (fail)
  have hC := Blk.new_of w 23 #[.int .i64 c, .int .i64 i, .int .i64 t, .string ⟨s.toArray⟩] _ rfl
  have hbw : Below w.heap.size w (w.alloc (.cells #[.int .i64 c, .int .i64 i, .int .i64 t, .string ⟨s.toArray⟩] 23)) := (Below.refl _ _).alloc (Nat.le_refl _) _
  generalize (w.alloc (.cells #[.int .i64 c, .int .i64 i, .int .i64 t, .string ⟨s.toArray⟩] 23)) = w1 at *
  have c3 : w1.cell? ⟨w.heap.size, 3, none⟩ = some (.string ⟨s.toArray⟩) := hC.cell 3
  have cf : w1.frozen? ⟨w.heap.size, 3, none⟩ = false := hC.frozen 3
  go_upto_region 2 with (fail)
  have hC1 := hC.set_ 3 (.string ⟨S.toArray⟩)
  have hb1 : Below w.heap.size w (w1.setCell ⟨w.heap.size, 3, none⟩ (.string ⟨S.toArray⟩)) := hbw.setCell (Nat.le_refl _) _
  clear c3 cf hC hbw hex ms hc0 hbl
  generalize w1.setCell ⟨w.heap.size, 3, none⟩ (.string ⟨S.toArray⟩) = w2 at *
  have c0 : w2.cell? ⟨w.heap.size, 0, none⟩ = some (.int .i64 c) := hC1.cell 0
  have c1 : w2.cell? ⟨w.heap.size, 1, none⟩ = some (.int .i64 i) := hC1.cell 1
  have c2 : w2.cell? ⟨w.heap.size, 2, none⟩ = some (.int .i64 t) := hC1.cell 2
  have c3 : w2.cell? ⟨w.heap.size, 3, none⟩ = some (.string ⟨S.toArray⟩) := hC1.cell 3
  replace hC1 : Blk w2 w.heap.size 23 [.int .i64 c, .int .i64 i, .int .i64 t, .string ⟨S.toArray⟩] := hC1
  go_upto_region 3 with (first
    | (go_at_call 9; refine (to_e c i t S n _ HN.out HM2.out).mono ?_; rintro e w3 ⟨A3, cp3, rfl, hB3, hb3⟩)
    | ((with_reducible refine (?_ : wpList _ _ _ (Oper.mk none _ _ _ _ _ :: _) _ _)); go_loud (refine wpList_store_blk rfl 29 (.tmp 3) (.tmp 17) rfl rfl w3.heap.size [.int .i64 c, .int .i64 i, .int .i64 t, .slice A3 n cp3] rfl rfl _ _ (Blk.new_of w3 _ _ _ rfl) (by kernel_rfl) rfl (by simp [Value.oneCell']) ?_); intro w4 hD4 hg4))
  have hlt := hC1.lt
  have hbq : Below w3.heap.size w3 w4 := below_new ((Below.refl _ _).alloc (Nat.le_refl _) _) hg4 (Nat.le_refl _) (by simp)
  have hC4 := (hC1.below hb3 hlt).below hbq (Nat.lt_of_lt_of_le hlt hb3.size)
  have hb4 : Below w.heap.size w w4 := (hb1.trans (hb3.mono hb1.size)).trans (hbq.mono (Nat.le_trans hb1.size hb3.size))
  replace hB3 := hB3.below hbq
  have hD4l := hD4.lt
  generalize w3.heap.size = g3 at *
  clear c0 c1 c2 c3 hC1 hb1 hb3 hbq hg4 hlt
  replace hD4 : Blk w4 g3 29 [.int .i64 c, .int .i64 i, .int .i64 t, .slice A3 n cp3] := hD4
  have d0 : w4.cell? ⟨g3, 0, none⟩ = some (.int .i64 c) := hD4.cell 0
  have d1 : w4.cell? ⟨g3, 1, none⟩ = some (.int .i64 i) := hD4.cell 1
  have d2 : w4.cell? ⟨g3, 2, none⟩ = some (.int .i64 t) := hD4.cell 2
  have d3 : w4.cell? ⟨g3, 3, none⟩ = some (.slice A3 n cp3) := hD4.cell 3
  go_upto_region 4 with (go_at_call 8; refine (write_e c i t A3 n cp3 S _ HN.out (hB3.toIn (Nat.le_refl _)) HM.out).mono ?_; rintro e w5 ⟨A5, n5, c5, rfl, hX, hb5⟩)
  have hC5 := hC4.below hb5 hC4.lt
  have hD5 := hD4.below hb5 hD4.lt
  replace hB3 := hB3.below hb5
  replace hb4 := hb4.trans (hb5.mono hb4.size)
  clear d0 d1 d2 d3 hC4 hD4 hD4l hb5
  have c0 : w5.cell? ⟨w.heap.size, 0, none⟩ = some (.int .i64 c) := hC5.cell 0
  have c1 : w5.cell? ⟨w.heap.size, 1, none⟩ = some (.int .i64 i) := hC5.cell 1
  have c2 : w5.cell? ⟨w.heap.size, 2, none⟩ = some (.int .i64 t) := hC5.cell 2
  have c3 : w5.cell? ⟨w.heap.size, 3, none⟩ = some (.string ⟨S.toArray⟩) := hC5.cell 3
  go_upto_region 5 with (go_at_call 14; refine (rwrite_e c i t S n _ HN.out HM2.out).mono ?_; rintro e w6 ⟨rfl, hb6⟩)
  have hC6 := hC5.below hb6 hC5.lt
  have hD6 := hD5.below hb6 hD5.lt
  replace hB3 := hB3.below hb6
  replace hX := hX.below hb6
  replace hb4 := hb4.trans (hb6.mono hb4.size)
  clear c0 c1 c2 c3 hC5 hD5 hb6
  have hiB := hB3.toIn (Nat.le_refl _)
  have hiX := hX.toIn (Nat.le_refl _)
  have HCC0 := Lib.hid (fun (W : World) (h : Below w6.heap.size w6 W) => (show W.cell? ⟨w.heap.size, 0, none⟩ = some (.int .i64 c) from (hC6.below h hC6.lt).cell 0))
  have HCC1 := Lib.hid (fun (W : World) (h : Below w6.heap.size w6 W) => (show W.cell? ⟨w.heap.size, 1, none⟩ = some (.int .i64 i) from (hC6.below h hC6.lt).cell 1))
  have HCC2 := Lib.hid (fun (W : World) (h : Below w6.heap.size w6 W) => (show W.cell? ⟨w.heap.size, 2, none⟩ = some (.int .i64 t) from (hC6.below h hC6.lt).cell 2))
  have HCC3 := Lib.hid (fun (W : World) (h : Below w6.heap.size w6 W) => (show W.cell? ⟨w.heap.size, 3, none⟩ = some (.string ⟨S.toArray⟩) from (hC6.below h hC6.lt).cell 3))
  have HDD0 := Lib.hid (fun (W : World) (h : Below w6.heap.size w6 W) => (show W.cell? ⟨g3, 0, none⟩ = some (.int .i64 c) from (hD6.below h hD6.lt).cell 0))
  have HDD1 := Lib.hid (fun (W : World) (h : Below w6.heap.size w6 W) => (show W.cell? ⟨g3, 1, none⟩ = some (.int .i64 i) from (hD6.below h hD6.lt).cell 1))
  have HDD2 := Lib.hid (fun (W : World) (h : Below w6.heap.size w6 W) => (show W.cell? ⟨g3, 2, none⟩ = some (.int .i64 t) from (hD6.below h hD6.lt).cell 2))
  have HDD3 := Lib.hid (fun (W : World) (h : Below w6.heap.size w6 W) => (show W.cell? ⟨g3, 3, none⟩ = some (.slice A3 n cp3) from (hD6.below h hD6.lt).cell 3))
  have HCX := Lib.hid (fun (W : World) (h : Below w6.heap.size w6 W) => conv_in hX.1 (in_up hiX h))
  have HIB := Lib.hid (fun (W : World) (h : Below w6.heap.size w6 W) => in_up hiB h)
  have HB4 := Lib.hid hb4
  clear hC6 hD6 hB3 hX hiB hiX hb4
  generalize (writeE c i t S).1 = WB at *
  generalize (writeE c i t S).2 = WE at *
  go_wp2
  refine wp_region_noPanic ?_
  refine wp_region_held_drew (S := fun W => Below w6.heap.size w6 W) (by kernel_rfl) (by exact below_drewN (Below.refl _ _) 1) (fun hHeld => ?_)
  refine wpAnyH_ready (rs := [0]) (by kernel_rfl) (by simp) ?_
  refine AllReadyH.cons (o := ⟨_, _, _, _, _, _⟩) rfl (fun K hK => ?_) AllReadyH.nil
  go_simp
  go_at_call 10
  refine (eaps_e _).mono ?_
  rintro e w7 ⟨rfl, hb7⟩
  try go_wp2_with fail
  replace hHeld : Below w6.heap.size w6 w6.drew := hHeld
  refine hK.out _ _ (hHeld.trans (hb7.mono hHeld.size)) (fun hHeld => ?_)
  clear hK K hb7
  try simp only [Act.put, List.setIfInBounds_toArray, List.set_cons_zero, List.set_cons_succ]
  refine wpAnyH_take (i := 1) (oi := ⟨_, _, _, _, _, _⟩) (v := ?_) rfl (by kernel_rfl) (by kernel_rfl) (by kernel_rfl) (fun _ _ _ h => h) (Or.inl ⟨by rfl, ?_⟩) hHeld ?_
  rotate_left 1
  · (intro W hSw; (try dsimp only at hSw); go_simp; try with_reducible rfl)
  try simp only [Act.put, List.setIfInBounds_toArray, List.set_cons_zero, List.set_cons_succ]
  refine wpAnyH_take (i := 2) (oi := ⟨_, _, _, _, _, _⟩) (v := ?_) rfl (by kernel_rfl) (by kernel_rfl) (by kernel_rfl) (fun _ _ _ h => h) (Or.inl ⟨by rfl, ?_⟩) hHeld ?_
  rotate_left 1
  · (intro W hSw; (try dsimp only at hSw); go_simp; try with_reducible rfl)
  try simp only [Act.put, List.setIfInBounds_toArray, List.set_cons_zero, List.set_cons_succ]
  refine wpAnyH_take (i := 3) (oi := ⟨_, _, _, _, _, _⟩) (v := ?_) rfl (by kernel_rfl) (by kernel_rfl) (by kernel_rfl) (fun _ _ _ h => h) (Or.inl ⟨by rfl, ?_⟩) hHeld ?_
  rotate_left 1
  · (intro W hSw; (try dsimp only at hSw); have hcx := HCX.out W hSw; go_simp; try with_reducible rfl)
  try simp only [Act.put, List.setIfInBounds_toArray, List.set_cons_zero, List.set_cons_succ]
  refine wpAnyH_take (i := 4) (oi := ⟨_, _, _, _, _, _⟩) (v := ?_) rfl (by kernel_rfl) (by kernel_rfl) (by kernel_rfl) (fun _ _ _ h => h) (Or.inl ⟨by rfl, ?_⟩) hHeld ?_
  rotate_left 1
  · (intro W hSw; (try dsimp only at hSw); go_simp; try with_reducible rfl)
  try simp only [Act.put, List.setIfInBounds_toArray, List.set_cons_zero, List.set_cons_succ]
  refine wpAnyH_take (i := 5) (oi := ⟨_, _, _, _, _, _⟩) (v := ?_) rfl (by kernel_rfl) (by kernel_rfl) (by kernel_rfl) (fun _ _ _ h => h) (Or.inl ⟨by rfl, ?_⟩) hHeld ?_
  rotate_left 1
  · (intro W hSw; (try dsimp only at hSw); go_simp; try with_reducible rfl)
  try simp only [Act.put, List.setIfInBounds_toArray, List.set_cons_zero, List.set_cons_succ]
  refine wpAnyH_take (i := 6) (oi := ⟨_, _, _, _, _, _⟩) (v := ?_) rfl (by kernel_rfl) (by kernel_rfl) (by kernel_rfl) (fun _ _ _ h => h) (Or.inl ⟨by rfl, ?_⟩) hHeld ?_
  rotate_left 1
  · (intro W hSw; (try dsimp only at hSw); go_simp; try with_reducible rfl)
  try simp only [Act.put, List.setIfInBounds_toArray, List.set_cons_zero, List.set_cons_succ]
  refine wpAnyH_take (i := 7) (oi := ⟨_, _, _, _, _, _⟩) (v := ?_) rfl (by kernel_rfl) (by kernel_rfl) (by kernel_rfl) (fun _ _ _ h => h) (Or.inl ⟨by rfl, ?_⟩) hHeld ?_
  rotate_left 1
  · (intro W hSw; (try dsimp only at hSw); go_simp; try with_reducible rfl)
  try simp only [Act.put, List.setIfInBounds_toArray, List.set_cons_zero, List.set_cons_succ]
  refine wpAnyH_take (i := 8) (oi := ⟨_, _, _, _, _, _⟩) (v := ?_) rfl (by kernel_rfl) (by kernel_rfl) (by kernel_rfl) (fun _ _ _ h => h) (Or.inl ⟨by rfl, ?_⟩) hHeld ?_
  rotate_left 1
  · (intro W hSw; (try dsimp only at hSw); go_simp; try with_reducible rfl)
  try simp only [Act.put, List.setIfInBounds_toArray, List.set_cons_zero, List.set_cons_succ]
  refine wpAnyH_take (i := 9) (oi := ⟨_, _, _, _, _, _⟩) (v := ?_) rfl (by kernel_rfl) (by kernel_rfl) (by kernel_rfl) (fun _ _ _ h => h) (Or.inl ⟨by rfl, ?_⟩) hHeld ?_
  rotate_left 1
  · (intro W hSw; (try dsimp only at hSw); go_simp; try with_reducible rfl)
  try simp only [Act.put, List.setIfInBounds_toArray, List.set_cons_zero, List.set_cons_succ]
  refine wpAnyH_take (i := 10) (oi := ⟨_, _, _, _, _, _⟩) (v := ?_) rfl (by kernel_rfl) (by kernel_rfl) (by kernel_rfl) (fun _ _ _ h => h) (Or.inl ⟨by rfl, ?_⟩) hHeld ?_
  rotate_left 1
  · (intro W hSw; (try dsimp only at hSw); go_simp; try with_reducible rfl)
  try simp only [Act.put, List.setIfInBounds_toArray, List.set_cons_zero, List.set_cons_succ]
  refine wpAnyH_take (i := 11) (oi := ⟨_, _, _, _, _, _⟩) (v := ?_) rfl (by kernel_rfl) (by kernel_rfl) (by kernel_rfl) (fun _ _ _ h => h) (Or.inl ⟨by rfl, ?_⟩) hHeld ?_
  rotate_left 1
  · (intro W hSw; (try dsimp only at hSw); go_simp; try with_reducible rfl)
  try simp only [Act.put, List.setIfInBounds_toArray, List.set_cons_zero, List.set_cons_succ]
  refine wpAnyH_take (i := 12) (oi := ⟨_, _, _, _, _, _⟩) (v := ?_) rfl (by kernel_rfl) (by kernel_rfl) (by kernel_rfl) (fun _ _ _ h => h) (Or.inl ⟨by rfl, ?_⟩) hHeld ?_
  rotate_left 1
  · (intro W hSw; (try dsimp only at hSw); go_simp; try with_reducible rfl)
  try simp only [Act.put, List.setIfInBounds_toArray, List.set_cons_zero, List.set_cons_succ]
  refine wpAnyH_take (i := 13) (oi := ⟨_, _, _, _, _, _⟩) (v := ?_) rfl (by kernel_rfl) (by kernel_rfl) (by kernel_rfl) (fun _ _ _ h => h) (Or.inl ⟨by rfl, ?_⟩) hHeld ?_
  rotate_left 1
  · (intro W hSw; (try dsimp only at hSw); have d0 := HDD0.out W hSw; have d1 := HDD1.out W hSw; have d2 := HDD2.out W hSw; have d3 := HDD3.out W hSw; go_simp; try with_reducible rfl)
  try simp only [Act.put, List.setIfInBounds_toArray, List.set_cons_zero, List.set_cons_succ]
  refine wpAnyH_take (i := 15) (oi := ⟨_, _, _, _, _, _⟩) (v := ?_) rfl (by kernel_rfl) (by kernel_rfl) (by kernel_rfl) (fun _ _ _ h => h) (Or.inl ⟨by rfl, ?_⟩) hHeld ?_
  rotate_left 1
  · (intro W hSw; (try dsimp only at hSw); have c0 := HCC0.out W hSw; have c1 := HCC1.out W hSw; have c2 := HCC2.out W hSw; have c3 := HCC3.out W hSw; go_simp; try with_reducible rfl)
  try simp only [Act.put, List.setIfInBounds_toArray, List.set_cons_zero, List.set_cons_succ]
  refine wpAnyH_ready (rs := [14]) (by kernel_rfl) (by simp) ?_
  refine AllReadyH.cons (o := ⟨_, _, _, _, _, _⟩) rfl (fun K hK => ?_) AllReadyH.nil
  go_simp
  go_at_call 12
  refine (from_e c i t A3 n cp3 S _ HN.out (HIB.out _ hHeld)).mono ?_
  rintro e w8 ⟨rfl, hb8⟩
  try go_wp2_with fail
  refine hK.out _ _ (hHeld.trans (hb8.mono hHeld.size)) (fun hHeld => ?_)
  clear hK K hb8
  try simp only [Act.put, List.setIfInBounds_toArray, List.set_cons_zero, List.set_cons_succ]
  refine wpAnyH_take (i := 16) (oi := ⟨_, _, _, _, _, _⟩) (v := ?_) rfl (by kernel_rfl) (by kernel_rfl) (by kernel_rfl) (fun _ _ _ h => h) (Or.inl ⟨by rfl, ?_⟩) hHeld ?_
  rotate_left 1
  · (intro W hSw; (try dsimp only at hSw); go_simp; try with_reducible rfl)
  try simp only [Act.put, List.setIfInBounds_toArray, List.set_cons_zero, List.set_cons_succ]
  refine wpAnyH_take (i := 17) (oi := ⟨_, _, _, _, _, _⟩) (v := ?_) rfl (by kernel_rfl) (by kernel_rfl) (by kernel_rfl) (fun _ _ _ h => h) (Or.inl ⟨by rfl, ?_⟩) hHeld ?_
  rotate_left 1
  · (intro W hSw; (try dsimp only at hSw); go_simp; try with_reducible rfl)
  try simp only [Act.put, List.setIfInBounds_toArray, List.set_cons_zero, List.set_cons_succ]
  refine wpAnyH_take (i := 18) (oi := ⟨_, _, _, _, _, _⟩) (v := ?_) rfl (by kernel_rfl) (by kernel_rfl) (by kernel_rfl) (fun _ _ _ h => h) (Or.inl ⟨by rfl, ?_⟩) hHeld ?_
  rotate_left 1
  · (intro W hSw; (try dsimp only at hSw); go_simp; try with_reducible rfl)
  try simp only [Act.put, List.setIfInBounds_toArray, List.set_cons_zero, List.set_cons_succ]
  refine wpAnyH_done (by kernel_rfl) ?_ _
  refine NoPanic.normal ?_
  go_wp2
  go_ret
  exact ⟨rfl, HB4.out.trans (hHeld.mono HB4.out.size)⟩
end Go.Proofs.Ytokogedgbegmkaa
