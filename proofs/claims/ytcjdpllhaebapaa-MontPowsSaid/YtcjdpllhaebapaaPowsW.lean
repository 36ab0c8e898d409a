/-
  The contracts of package mont's inner calls by a modulus: the walk of MontPows.
-/
import Derived.Test.YtcjdpllhaebapaaMk
import Derived.Test.YtcjdpllhaebapaaFresh
import Derived.Test.YtcjdpllhaebapaaMp
namespace Go.Proofs.Ytcjdpllhaebapaa
open Go.RowKit

def numP (v : Nat) : P4 := ⟨v, 0, 0, 0⟩
theorem numP_ok {v : Nat} (h : v < 18446744073709551616) : (numP v).ok := ⟨h, (by decide : (0 : Nat) < 18446744073709551616), (by decide : (0 : Nat) < 18446744073709551616), (by decide : (0 : Nat) < 18446744073709551616)⟩
theorem numP_val (v : Nat) : (numP v).val = v := by unfold numP P4.val; simp
theorem Pow_n (g : Nat) (m sq a : P4) (v : Nat) (f : Nat) (w : World) (hM : Blk w g 54 (modCells m sq f)) (md : Md m sq f) (ha : a.ok) (hv : v < 18446744073709551616) :
    Calls Try.prog 21 #[.pointer (some ⟨g, 0, none⟩), .agg #[.int .u64 (a.a : Int), .int .u64 (a.b : Int), .int .u64 (a.c : Int), .int .u64 (a.d : Int)], .agg #[.int .u64 (v : Int), .int .u64 0, .int .u64 0, .int .u64 0]] w fun e w' => e = .returned (.agg #[.int .u64 ((redP m (a.val ^ v)).a : Int), .int .u64 ((redP m (a.val ^ v)).b : Int), .int .u64 ((redP m (a.val ^ v)).c : Int), .int .u64 ((redP m (a.val ^ v)).d : Int)]) ∧ Below w.heap.size w w' := by
  have h := Pow_v g m sq a (numP v) f w hM md ha (numP_ok hv)
  rw [numP_val] at h
  exact h
theorem Pow_0 (g : Nat) (m sq a : P4) (f : Nat) (w : World) (hM : Blk w g 54 (modCells m sq f)) (md : Md m sq f) (ha : a.ok) :
    Calls Try.prog 21 #[.pointer (some ⟨g, 0, none⟩), .agg #[.int .u64 (a.a : Int), .int .u64 (a.b : Int), .int .u64 (a.c : Int), .int .u64 (a.d : Int)], .agg #[.int .u64 0, .int .u64 0, .int .u64 0, .int .u64 0]] w fun e w' => e = .returned (.agg #[.int .u64 1, .int .u64 0, .int .u64 0, .int .u64 0]) ∧ Below w.heap.size w w' := by
  have h := Pow_v g m sq a zeroP f w hM md ha zeroP_ok
  rw [zeroP_val, Nat.pow_zero, redP_one (by have := md.big; omega)] at h
  exact h
theorem rPow_n (m a : P4) (v : Nat) (w : World) (hm : m.ok) (h1 : 1 < m.val) (ha : a.ok) (hv : v < 18446744073709551616) :
    Calls Try.prog 22 #[.agg #[.int .u64 (a.a : Int), .int .u64 (a.b : Int), .int .u64 (a.c : Int), .int .u64 (a.d : Int)], .agg #[.int .u64 (v : Int), .int .u64 0, .int .u64 0, .int .u64 0], .agg #[.int .u64 (m.a : Int), .int .u64 (m.b : Int), .int .u64 (m.c : Int), .int .u64 (m.d : Int)]] w fun e w' => e = .returned (.agg #[.int .u64 ((redP m (a.val ^ v)).a : Int), .int .u64 ((redP m (a.val ^ v)).b : Int), .int .u64 ((redP m (a.val ^ v)).c : Int), .int .u64 ((redP m (a.val ^ v)).d : Int)]) ∧ Below w.heap.size w w' := by
  have h := rPow_any a (numP v) m w ha (numP_ok hv) hm h1
  rw [numP_val] at h
  exact h
theorem eq24_lit (w : World) : (Op.equalIn 10000 24 (.agg #[.int .u64 1, .int .u64 0, .int .u64 0, .int .u64 0]) (.agg #[.int .u64 1, .int .u64 0, .int .u64 0, .int .u64 0])).run Try.prog w = .ok true w := eqS24 oneP w
set_option maxRecDepth 100000 in
set_option maxHeartbeats 400000 in
theorem pows_wrong (m a : P4) (e : Nat × Nat) (w : World) (hm : m.ok) (ha : a.ok) (he : e.1 < 4294967296 ∧ e.2 < 4294967296) (hr : rightP m = false) : Calls Try.prog 5 #[.agg #[.int .u64 (m.a : Int), .int .u64 (m.b : Int), .int .u64 (m.c : Int), .int .u64 (m.d : Int)], .agg #[.int .u64 (a.a : Int), .int .u64 (a.b : Int), .int .u64 (a.c : Int), .int .u64 (a.d : Int)], .agg #[.int .u32 (e.1 : Int), .int .u32 (e.2 : Int)]] w fun e w' => e = .returned (.bool true) ∧ Below w.heap.size w w' := by
  have HR := Lib.hid hr
  clear hr
  go_enter Try.func5, Try.ntmps5
  go_wp2_with fail
  have hP := Par.start w m a 38 #[.int .u32 (e.1 : Int), .int .u32 (e.2 : Int)] [.int .u32 (e.1 : Int), .int .u32 (e.2 : Int)] rfl
  generalize ((w.alloc (.cells #[.int .u64 (m.a : Int), .int .u64 (m.b : Int), .int .u64 (m.c : Int), .int .u64 (m.d : Int)] 24)).alloc (.cells #[.int .u64 (a.a : Int), .int .u64 (a.b : Int), .int .u64 (a.c : Int), .int .u64 (a.d : Int)] 24)).alloc (.cells #[.int .u32 (e.1 : Int), .int .u32 (e.2 : Int)] 38) = w1 at *
  refine (New_n m _ hm HR.out).mono ?_
  rintro e w2 ⟨rfl, hbx⟩
  replace hP := hP.below hbx
  clear hbx
  obtain ⟨m0, m1, m2, m3, a0, a1, a2, a3⟩ := hP.c
  go_wp2_with fail
  clear m0 m1 m2 m3 a0 a1 a2 a3
  refine (seven_any _).mono ?_
  rintro e w3 ⟨rfl, hbx⟩
  replace hP := hP.below hbx
  clear hbx
  obtain ⟨m0, m1, m2, m3, a0, a1, a2, a3⟩ := hP.c
  go_wp2_with fail
  clear m0 m1 m2 m3 a0 a1 a2 a3
  refine (right_t m false _ HR.out).mono ?_
  rintro e w4 ⟨rfl, hbx⟩
  replace hP := hP.below hbx
  clear hbx
  obtain ⟨m0, m1, m2, m3, a0, a1, a2, a3⟩ := hP.c
  go_wp2_with fail
  clear m0 m1 m2 m3 a0 a1 a2 a3
  refine (seven_any _).mono ?_
  rintro e w5 ⟨rfl, hbx⟩
  replace hP := hP.below hbx
  clear hbx
  go_wp2
  go_ret
  exact ⟨rfl, hP.bw⟩
set_option maxRecDepth 100000 in
set_option maxHeartbeats 400000 in
theorem pows_right (m a : P4) (e : Nat × Nat) (w : World) (hm : m.ok) (ha : a.ok) (he : e.1 < 4294967296 ∧ e.2 < 4294967296) (hr : rightP m = true) : Calls Try.prog 5 #[.agg #[.int .u64 (m.a : Int), .int .u64 (m.b : Int), .int .u64 (m.c : Int), .int .u64 (m.d : Int)], .agg #[.int .u64 (a.a : Int), .int .u64 (a.b : Int), .int .u64 (a.c : Int), .int .u64 (a.d : Int)], .agg #[.int .u32 (e.1 : Int), .int .u32 (e.2 : Int)]] w fun e w' => e = .returned (.bool true) ∧ Below w.heap.size w w' := by
  have HR := Lib.hid hr
  clear hr
  go_enter Try.func5, Try.ntmps5
  go_wp2_with fail
  have hP := Par.start w m a 38 #[.int .u32 (e.1 : Int), .int .u32 (e.2 : Int)] [.int .u32 (e.1 : Int), .int .u32 (e.2 : Int)] rfl
  generalize ((w.alloc (.cells #[.int .u64 (m.a : Int), .int .u64 (m.b : Int), .int .u64 (m.c : Int), .int .u64 (m.d : Int)] 24)).alloc (.cells #[.int .u64 (a.a : Int), .int .u64 (a.b : Int), .int .u64 (a.c : Int), .int .u64 (a.d : Int)] 24)).alloc (.cells #[.int .u32 (e.1 : Int), .int .u32 (e.2 : Int)] 38) = w1 at *
  refine (New_r m _ hm HR.out).mono ?_
  rintro e w2 ⟨g, sq, f, rfl, hg, hM, md, hbx⟩
  have lg : w.heap.size + 1 + 1 < g := Nat.lt_of_lt_of_le hP.bb.lt hg
  clear hg
  replace hP := hP.below hbx
  clear hbx
  obtain ⟨m0, m1, m2, m3, a0, a1, a2, a3⟩ := hP.c
  go_wp2_with fail
  clear m0 m1 m2 m3 a0 a1 a2 a3
  refine (seven_any _).mono ?_
  rintro e w3 ⟨rfl, hbx⟩
  replace hP := hP.below hbx
  replace hM := hM.below hbx hM.lt
  clear hbx
  obtain ⟨m0, m1, m2, m3, a0, a1, a2, a3⟩ := hP.c
  go_wp2_with fail
  clear m0 m1 m2 m3 a0 a1 a2 a3
  refine (right_t m true _ HR.out).mono ?_
  rintro e w4 ⟨rfl, hbx⟩
  replace hP := hP.below hbx
  replace hM := hM.below hbx hM.lt
  clear hbx
  obtain ⟨m0, m1, m2, m3, a0, a1, a2, a3⟩ := hP.c
  go_wp2_with fail
  have lM := hM.lt
  have hE2 := fun (V : World) (h : Below w4.heap.size w4 V) => (show V.cell? ⟨w.heap.size + 1 + 1, 0, none⟩ = some (.int .u32 (e.1 : Int)) ∧ V.cell? ⟨w.heap.size + 1 + 1, 1, none⟩ = some (.int .u32 (e.2 : Int)) from ⟨(hP.below h).bb.cell 0, (hP.below h).bb.cell 1⟩)
  have hcv1 : IntKind.u64.wrap (e.1 : Int) = (e.1 : Int) := by rw [IntKind.wrap_u64]; omega
  have hcv2 : IntKind.u64.wrap (e.2 : Int) = (e.2 : Int) := by rw [IntKind.wrap_u64]; omega
  have HE := Lib.hid he
  clear he
  clear m0 m1 m2 m3 a0 a1 a2 a3
  go_cut [9, 10] (fun v9 v10 wx => ∃ g9 g10, v9 = .pointer (some ⟨g9, 0, none⟩) ∧ v10 = .pointer (some ⟨g10, 0, none⟩) ∧ Par w wx m a 38 [.int .u32 (e.1 : Int), .int .u32 (e.2 : Int)] ∧ Blk wx g 54 (modCells m sq f) ∧ Blk wx g9 24 [.int .u64 (e.1 : Int), .int .u64 0, .int .u64 0, .int .u64 0] ∧ Blk wx g10 24 [.int .u64 (e.2 : Int), .int .u64 0, .int .u64 0, .int .u64 0])
  case first =>
    refine wp_region_held_drew (S := fun W => Below w4.heap.size w4 W) (by kernel_rfl) (by exact below_drewN (Below.refl _ _) 1) (fun hHeld => ?_)
    refine wpAnyH_take (i := 0) (oi := ⟨_, _, _, _, _, _⟩) (v := ?_) rfl (by kernel_rfl) (by kernel_rfl) (by kernel_rfl) (fun _ _ _ h => h) (Or.inl ⟨by rfl, ?_⟩) hHeld ?_
    rotate_left 1
    · (intro w hSw; have q1 := hE2 w hSw; go_simp; try with_reducible rfl)
    try simp only [Act.put, List.setIfInBounds_toArray, List.set_cons_zero, List.set_cons_succ]
    refine wpAnyH_take (i := 1) (oi := ⟨_, _, _, _, _, _⟩) (v := ?_) rfl (by kernel_rfl) (by kernel_rfl) (by kernel_rfl) (fun _ _ _ h => h) (Or.inl ⟨by rfl, ?_⟩) hHeld ?_
    rotate_left 1
    · (intro w hSw; have q1 := hE2 w hSw; go_simp; try with_reducible rfl)
    try simp only [Act.put, List.setIfInBounds_toArray, List.set_cons_zero, List.set_cons_succ]
    refine wpAnyH_take (i := 2) (oi := ⟨_, _, _, _, _, _⟩) (v := ?_) rfl (by kernel_rfl) (by kernel_rfl) (by kernel_rfl) (fun _ _ _ h => h) (Or.inl ⟨by rfl, ?_⟩) hHeld ?_
    rotate_left 1
    · (intro w hSw; have q1 := hE2 w hSw; go_simp; try with_reducible rfl)
    try simp only [Act.put, List.setIfInBounds_toArray, List.set_cons_zero, List.set_cons_succ]
    refine wpAnyH_take (i := 3) (oi := ⟨_, _, _, _, _, _⟩) (v := ?_) rfl (by kernel_rfl) (by kernel_rfl) (by kernel_rfl) (fun _ _ _ h => h) (Or.inl ⟨by rfl, ?_⟩) hHeld ?_
    rotate_left 1
    · (intro w hSw; have q1 := hE2 w hSw; go_simp; try with_reducible rfl)
    try simp only [Act.put, List.setIfInBounds_toArray, List.set_cons_zero, List.set_cons_succ]
    refine wpAnyH_take (i := 4) (oi := ⟨_, _, _, _, _, _⟩) (v := ?_) rfl (by kernel_rfl) (by kernel_rfl) (by kernel_rfl) (fun _ _ _ h => h) (Or.inl ⟨by rfl, ?_⟩) hHeld ?_
    rotate_left 1
    · (intro w hSw; have q1 := hE2 w hSw; go_simp; try with_reducible rfl)
    try simp only [Act.put, List.setIfInBounds_toArray, List.set_cons_zero, List.set_cons_succ]
    refine wpAnyH_take (i := 5) (oi := ⟨_, _, _, _, _, _⟩) (v := ?_) rfl (by kernel_rfl) (by kernel_rfl) (by kernel_rfl) (fun _ _ _ h => h) (Or.inl ⟨by rfl, ?_⟩) hHeld ?_
    rotate_left 1
    · (intro w hSw; have q1 := hE2 w hSw; go_simp; try with_reducible rfl)
    try simp only [Act.put, List.setIfInBounds_toArray, List.set_cons_zero, List.set_cons_succ]
    refine wpAnyH_take (i := 6) (oi := ⟨_, _, _, _, _, _⟩) (v := ?_) rfl (by kernel_rfl) (by kernel_rfl) (by kernel_rfl) (fun _ _ _ h => h) (Or.inl ⟨by rfl, ?_⟩) hHeld ?_
    rotate_left 1
    · (intro w hSw; have q1 := hE2 w hSw; go_simp; try with_reducible rfl)
    try simp only [Act.put, List.setIfInBounds_toArray, List.set_cons_zero, List.set_cons_succ]
    refine wpAnyH_take (i := 7) (oi := ⟨_, _, _, _, _, _⟩) (v := ?_) rfl (by kernel_rfl) (by kernel_rfl) (by kernel_rfl) (fun _ _ _ h => h) (Or.inl ⟨by rfl, ?_⟩) hHeld ?_
    rotate_left 1
    · (intro w hSw; have q1 := hE2 w hSw; go_simp; try with_reducible rfl)
    try simp only [Act.put, List.setIfInBounds_toArray, List.set_cons_zero, List.set_cons_succ]
    replace hHeld : Below w4.heap.size w4 w4.drew := hHeld
    generalize w4.drew = wd at *
    have hz0 := hHeld.size
    refine wpAnyH_ready (rs := [8, 9]) (by kernel_rfl) (by simp) ?_
    refine AllReadyH.cons (o := ⟨_, _, _, _, _, _⟩) rfl (fun K hK => ?_) (AllReadyH.cons (o := ⟨_, _, _, _, _, _⟩) rfl (fun K hK => ?_) (AllReadyH.nil))
    · skip
      go_simp
      refine hK.out _ _ (hHeld.alloc hHeld.size (.cells #[.int .u64 0, .int .u64 0, .int .u64 0, .int .u64 0] 24)) (fun hHeld => ?_)
      clear hK K
      try simp only [Act.put, List.setIfInBounds_toArray, List.set_cons_zero, List.set_cons_succ]
      have hG8 := Blk.new_of wd 24 #[.int .u64 0, .int .u64 0, .int .u64 0, .int .u64 0] [.int .u64 0, .int .u64 0, .int .u64 0, .int .u64 0] rfl
      have hz1 : wd.heap.size < (wd.alloc (.cells #[.int .u64 0, .int .u64 0, .int .u64 0, .int .u64 0] 24)).heap.size := hG8.lt
      generalize wd.alloc (.cells #[.int .u64 0, .int .u64 0, .int .u64 0, .int .u64 0] 24) = wn1 at *
      generalize wd.heap.size = g8 at *
      refine wpAnyH_ready (rs := [9]) (by kernel_rfl) (by simp) ?_
      refine AllReadyH.cons (o := ⟨_, _, _, _, _, _⟩) rfl (fun K hK => ?_) (AllReadyH.nil)
      go_simp
      refine hK.out _ _ (hHeld.alloc hHeld.size (.cells #[.int .u64 0, .int .u64 0, .int .u64 0, .int .u64 0] 24)) (fun hHeld => ?_)
      clear hK K
      try simp only [Act.put, List.setIfInBounds_toArray, List.set_cons_zero, List.set_cons_succ]
      have hG9 := Blk.new_of wn1 24 #[.int .u64 0, .int .u64 0, .int .u64 0, .int .u64 0] [.int .u64 0, .int .u64 0, .int .u64 0, .int .u64 0] rfl
      replace hG8 := hG8.alloc (.cells #[.int .u64 0, .int .u64 0, .int .u64 0, .int .u64 0] 24)
      have hz2 : wn1.heap.size < (wn1.alloc (.cells #[.int .u64 0, .int .u64 0, .int .u64 0, .int .u64 0] 24)).heap.size := hG9.lt
      generalize wn1.alloc (.cells #[.int .u64 0, .int .u64 0, .int .u64 0, .int .u64 0] 24) = wn2 at *
      generalize wn1.heap.size = g9 at *
      refine wpAnyH_ready (rs := [10]) (by kernel_rfl) (by simp) ?_
      refine AllReadyH.cons (o := ⟨_, _, _, _, _, _⟩) rfl (fun K hK => ?_) AllReadyH.nil
      rw [if_pos (by rfl)]
      refine wp_store_blk 24 (.tmp 9) (.tmp 28) rfl g8 [.int .u64 (e.1 : Int), .int .u64 0, .int .u64 0, .int .u64 0] rfl rfl 24 _ hG8 info24 (Eq.trans (b := 4) rfl rfl) (by simp [Value.oneCell']) ?_
      intro ws1 hNG8 hgs
      replace hG9 := hG9.grown hgs (fun h => by have := Option.some.inj h; omega)
      refine hK.out _ _ (below_new hHeld hgs (by omega) hHeld.size) (fun hHeld => ?_)
      clear hK K hG8 hgs
      have hG8 := hNG8
      clear hNG8
      simp only [Act.put]
      refine wpAnyH_ready (rs := [11]) (by kernel_rfl) (by simp) ?_
      refine AllReadyH.cons (o := ⟨_, _, _, _, _, _⟩) rfl (fun K hK => ?_) AllReadyH.nil
      rw [if_pos (by rfl)]
      refine wp_store_blk 24 (.tmp 10) (.tmp 32) rfl g9 [.int .u64 (e.2 : Int), .int .u64 0, .int .u64 0, .int .u64 0] rfl rfl 24 _ hG9 info24 (Eq.trans (b := 4) rfl rfl) (by simp [Value.oneCell']) ?_
      intro ws2 hNG9 hgs
      replace hG8 := hG8.grown hgs (fun h => by have := Option.some.inj h; omega)
      refine hK.out _ _ (below_new hHeld hgs (by omega) hHeld.size) (fun hHeld => ?_)
      clear hK K hG9 hgs
      have hG9 := hNG9
      clear hNG9
      simp only [Act.put]
      refine wpAnyH_done (by kernel_rfl) ?_ _
      go_wp2_with fail
      go_meet
      exact ⟨_, _, rfl, rfl, hP.below hHeld, hM.below hHeld lM, hG8, hG9⟩
    · skip
      go_simp
      refine hK.out _ _ (hHeld.alloc hHeld.size (.cells #[.int .u64 0, .int .u64 0, .int .u64 0, .int .u64 0] 24)) (fun hHeld => ?_)
      clear hK K
      try simp only [Act.put, List.setIfInBounds_toArray, List.set_cons_zero, List.set_cons_succ]
      have hG9 := Blk.new_of wd 24 #[.int .u64 0, .int .u64 0, .int .u64 0, .int .u64 0] [.int .u64 0, .int .u64 0, .int .u64 0, .int .u64 0] rfl
      have hz1 : wd.heap.size < (wd.alloc (.cells #[.int .u64 0, .int .u64 0, .int .u64 0, .int .u64 0] 24)).heap.size := hG9.lt
      generalize wd.alloc (.cells #[.int .u64 0, .int .u64 0, .int .u64 0, .int .u64 0] 24) = wn1 at *
      generalize wd.heap.size = g9 at *
      refine wpAnyH_ready (rs := [8]) (by kernel_rfl) (by simp) ?_
      refine AllReadyH.cons (o := ⟨_, _, _, _, _, _⟩) rfl (fun K hK => ?_) (AllReadyH.nil)
      go_simp
      refine hK.out _ _ (hHeld.alloc hHeld.size (.cells #[.int .u64 0, .int .u64 0, .int .u64 0, .int .u64 0] 24)) (fun hHeld => ?_)
      clear hK K
      try simp only [Act.put, List.setIfInBounds_toArray, List.set_cons_zero, List.set_cons_succ]
      have hG8 := Blk.new_of wn1 24 #[.int .u64 0, .int .u64 0, .int .u64 0, .int .u64 0] [.int .u64 0, .int .u64 0, .int .u64 0, .int .u64 0] rfl
      replace hG9 := hG9.alloc (.cells #[.int .u64 0, .int .u64 0, .int .u64 0, .int .u64 0] 24)
      have hz2 : wn1.heap.size < (wn1.alloc (.cells #[.int .u64 0, .int .u64 0, .int .u64 0, .int .u64 0] 24)).heap.size := hG8.lt
      generalize wn1.alloc (.cells #[.int .u64 0, .int .u64 0, .int .u64 0, .int .u64 0] 24) = wn2 at *
      generalize wn1.heap.size = g8 at *
      refine wpAnyH_ready (rs := [10]) (by kernel_rfl) (by simp) ?_
      refine AllReadyH.cons (o := ⟨_, _, _, _, _, _⟩) rfl (fun K hK => ?_) AllReadyH.nil
      rw [if_pos (by rfl)]
      refine wp_store_blk 24 (.tmp 9) (.tmp 28) rfl g8 [.int .u64 (e.1 : Int), .int .u64 0, .int .u64 0, .int .u64 0] rfl rfl 24 _ hG8 info24 (Eq.trans (b := 4) rfl rfl) (by simp [Value.oneCell']) ?_
      intro ws1 hNG8 hgs
      replace hG9 := hG9.grown hgs (fun h => by have := Option.some.inj h; omega)
      refine hK.out _ _ (below_new hHeld hgs (by omega) hHeld.size) (fun hHeld => ?_)
      clear hK K hG8 hgs
      have hG8 := hNG8
      clear hNG8
      simp only [Act.put]
      refine wpAnyH_ready (rs := [11]) (by kernel_rfl) (by simp) ?_
      refine AllReadyH.cons (o := ⟨_, _, _, _, _, _⟩) rfl (fun K hK => ?_) AllReadyH.nil
      rw [if_pos (by rfl)]
      refine wp_store_blk 24 (.tmp 10) (.tmp 32) rfl g9 [.int .u64 (e.2 : Int), .int .u64 0, .int .u64 0, .int .u64 0] rfl rfl 24 _ hG9 info24 (Eq.trans (b := 4) rfl rfl) (by simp [Value.oneCell']) ?_
      intro ws2 hNG9 hgs
      replace hG8 := hG8.grown hgs (fun h => by have := Option.some.inj h; omega)
      refine hK.out _ _ (below_new hHeld hgs (by omega) hHeld.size) (fun hHeld => ?_)
      clear hK K hG9 hgs
      have hG9 := hNG9
      clear hNG9
      simp only [Act.put]
      refine wpAnyH_done (by kernel_rfl) ?_ _
      go_wp2_with fail
      go_meet
      exact ⟨_, _, rfl, rfl, hP.below hHeld, hM.below hHeld lM, hG8, hG9⟩
  case rest =>
    obtain ⟨g9, g10, rfl, rfl, hP, hM, hG9, hG10⟩ := hcut
    obtain ⟨s, hs⟩ : ∃ s, s = e.1 + e.2 := ⟨_, rfl⟩
    have hws : IntKind.u64.wrap ((e.1 : Int) + (e.2 : Int)) = (s : Int) := by have := HE.out; rw [IntKind.wrap_u64]; omega
    have HS := Lib.hid hs
    clear hs hE2 lM
    have e0 : wc.cell? ⟨w.heap.size + 1 + 1, 0, none⟩ = some (.int .u32 (e.1 : Int)) := hP.bb.cell 0
    have e1 : wc.cell? ⟨w.heap.size + 1 + 1, 1, none⟩ = some (.int .u32 (e.2 : Int)) := hP.bb.cell 1
    go_wp2
    have hS := Blk.new_of wc 24 #[.int .u64 (s : Int), .int .u64 0, .int .u64 0, .int .u64 0] [.int .u64 (s : Int), .int .u64 0, .int .u64 0, .int .u64 0] rfl
    replace hP := hP.alloc (.cells #[.int .u64 (s : Int), .int .u64 0, .int .u64 0, .int .u64 0] 24)
    replace hM := hM.alloc (.cells #[.int .u64 (s : Int), .int .u64 0, .int .u64 0, .int .u64 0] 24)
    replace hG9 := hG9.alloc (.cells #[.int .u64 (s : Int), .int .u64 0, .int .u64 0, .int .u64 0] 24)
    replace hG10 := hG10.alloc (.cells #[.int .u64 (s : Int), .int .u64 0, .int .u64 0, .int .u64 0] 24)
    clear e0 e1
    generalize wc.alloc (.cells #[.int .u64 (s : Int), .int .u64 0, .int .u64 0, .int .u64 0] 24) = w6 at *
    have lM := hM.lt
    have l9 := hG9.lt
    have l10 := hG10.lt
    have lS := hS.lt
    have hP8 := fun (V : World) (h : Below w6.heap.size w6 V) => (hP.below h).c
    have h94 := fun (V : World) (h : Below w6.heap.size w6 V) => (show V.cell? ⟨g9, 0, none⟩ = some (.int .u64 (e.1 : Int)) ∧ V.cell? ⟨g9, 1, none⟩ = some (.int .u64 0) ∧ V.cell? ⟨g9, 2, none⟩ = some (.int .u64 0) ∧ V.cell? ⟨g9, 3, none⟩ = some (.int .u64 0) from (hG9.below h l9).four)
    have h104 := fun (V : World) (h : Below w6.heap.size w6 V) => (hG10.below h l10).four
    have hS4 := fun (V : World) (h : Below w6.heap.size w6 V) => (hS.below h lS).four
    have hE23 := eqS23
    have hE24 := eqS24
    have hE1 := eq24_lit
    have h0 : 0 < m.val := by have := md.big; omega
    have K0 := fun (W : World) (h : Blk W g 54 (modCells m sq f)) => Pow_n g m sq a e.1 f W h md ha (by have := HE.out; omega)
    have K1 := fun (W : World) => rPow_n m a e.1 W hm (by have := md.big; omega) ha (by have := HE.out; omega)
    have K2 := fun (W : World) (h : Blk W g 54 (modCells m sq f)) => Pow_n g m sq a s f W h md ha (by have := HE.out; have := HS.out; omega)
    have K3 := fun (W : World) (h : Blk W g 54 (modCells m sq f)) => Pow_n g m sq a e.2 f W h md ha (by have := HE.out; omega)
    have K4 := fun (W : World) (h : Blk W g 54 (modCells m sq f)) => Mul_v g m sq (redP m (a.val ^ e.1)) (redP m (a.val ^ e.2)) f W h md (redP_ok _ _) (redP_ok _ _)
    rw [show redP m ((redP m (a.val ^ e.1)).val * (redP m (a.val ^ e.2)).val) = redP m (a.val ^ s) from redP_congr (by rw [redP_val hm h0, redP_val hm h0, HS.out]; exact (law_pow _ _ _ _).symm)] at K4
    have K5 := fun (W : World) (h : Blk W g 54 (modCells m sq f)) => Pow_0 g m sq a f W h md ha
    generalize redP m (a.val ^ e.1) = p1 at *
    generalize redP m (a.val ^ e.2) = p2 at *
    generalize redP m (a.val ^ s) = p3 at *
    apply wp_region_once (D := [[], [0], [0, 1], [0, 1, 2], [0, 1, 2], [0, 1, 2], [0, 1, 2, 3, 4, 5], [0, 1, 2], [0, 1, 2], [0, 1, 2], [0, 1, 2, 3, 4, 5, 6, 7, 8, 9], [0, 1, 2, 3, 4, 5, 6, 7, 8, 9, 10], [0, 1, 2, 3, 4, 5, 6, 7, 8, 9, 10, 11], [0, 1, 2, 3, 4, 5, 6, 7, 8, 9, 10, 11, 12], [0, 1, 2, 3, 4, 5, 6, 7, 8, 9, 10, 11, 12, 13], [0, 1, 2, 3, 4, 5, 6, 7, 8, 9, 10, 11, 12, 13], [0, 1, 2, 3, 4, 5, 6, 7, 8, 9, 10, 11, 12, 13], [0, 1, 2, 3, 4, 5, 6, 7, 8, 9, 10, 11, 12, 13, 14, 15, 16], [0, 1, 2, 3, 4, 5, 6, 7, 8, 9, 10, 11, 12, 13], [0, 1, 2, 3, 4, 5, 6, 7, 8, 9, 10, 11, 12, 13], [0, 1, 2, 3, 4, 5, 6, 7, 8, 9, 10, 11, 12, 13], [0, 1, 2, 3, 4, 5, 6, 7, 8, 9, 10, 11, 12, 13], [0, 1, 2, 3, 4, 5, 6, 7, 8, 9, 10, 11, 12, 13, 14, 15, 16, 17, 19, 20, 21], [0, 1, 2, 3, 4, 5, 6, 7, 8, 9, 10, 11, 12, 13], [0, 1, 2, 3, 4, 5, 6, 7, 8, 9, 10, 11, 12, 13], [0, 1, 2, 3, 4, 5, 6, 7, 8, 9, 10, 11, 12, 13], [0, 1, 2, 3, 4, 5, 6, 7, 8, 9, 10, 11, 12, 13, 14, 15, 16, 17, 19, 20, 21, 22, 23, 24, 25], [0, 1, 2, 3, 4, 5, 6, 7, 8, 9, 10, 11, 12, 13, 14, 15, 16, 17, 18, 19, 20, 21, 22, 23, 24, 25, 26], [0, 1, 2, 3, 4, 5, 6, 7, 8, 9, 10, 11, 12, 13, 14, 15, 16, 17, 18, 19, 20, 21, 22, 23, 24, 25, 26, 27], [0, 1, 2, 3, 4, 5, 6, 7, 8, 9, 10, 11, 12, 13, 14, 15, 16, 17, 18, 19, 20, 21, 22, 23, 24, 25, 26, 27, 28], [0, 1, 2, 3, 4, 5, 6, 7, 8, 9, 10, 11, 12, 13, 14, 15, 16, 17, 18, 19, 20, 21, 22, 23, 24, 25, 26, 27, 28, 29], [0, 1, 2, 3, 4, 5, 6, 7, 8, 9, 10, 11, 12, 13, 14, 15, 16, 17, 18, 19, 20, 21, 22, 23, 24, 25, 26, 27, 28, 29, 30], [0, 1, 2, 3, 4, 5, 6, 7, 8, 9, 10, 11, 12, 13, 14, 15, 16, 17, 18, 19, 20, 21, 22, 23, 24, 25, 26, 27, 28, 29, 30], [0, 1, 2, 3, 4, 5, 6, 7, 8, 9, 10, 11, 12, 13, 14, 15, 16, 17, 18, 19, 20, 21, 22, 23, 24, 25, 26, 27, 28, 29, 30], [0, 1, 2, 3, 4, 5, 6, 7, 8, 9, 10, 11, 12, 13, 14, 15, 16, 17, 18, 19, 20, 21, 22, 23, 24, 25, 26, 27, 28, 29, 30, 31, 32, 33], [0, 1, 2, 3, 4, 5, 6, 7, 8, 9, 10, 11, 12, 13, 14, 15, 16, 17, 18, 19, 20, 21, 22, 23, 24, 25, 26, 27, 28, 29, 30], [0, 1, 2, 3, 4, 5, 6, 7, 8, 9, 10, 11, 12, 13, 14, 15, 16, 17, 18, 19, 20, 21, 22, 23, 24, 25, 26, 27, 28, 29, 30, 31, 32, 33, 34, 35], [0, 1, 2, 3, 4, 5, 6, 7, 8, 9, 10, 11, 12, 13, 14, 15, 16, 17, 18, 19, 20, 21, 22, 23, 24, 25, 26, 27, 28, 29, 30, 31, 32, 33, 34, 35, 36], [0, 1, 2, 3, 4, 5, 6, 7, 8, 9, 10, 11, 12, 13, 14, 15, 16, 17, 18, 19, 20, 21, 22, 23, 24, 25, 26, 27, 28, 29, 30, 31, 32, 33, 34, 35, 36, 37]]) (J := [[], [0], [1], [2], [2], [2], [2, 3, 4, 5], [2], [2], [2], [2, 7, 8, 9], [2, 6, 10], [2, 11], [12], [13], [13], [13], [13, 14, 15, 16], [13], [13], [13], [13], [13, 19, 20, 21], [13], [13], [13], [13, 23, 24, 25], [13, 18, 22, 26], [13, 17, 27], [13, 28], [29], [30], [30], [30], [30, 31, 32, 33], [30], [30, 34, 35], [30, 36], [37]]) (Je := [38]) (Rs := [Is _, Is _, Is _, Is _, Is _, Is _, Is _, Is _, Is _, Is _, Is _, Is _, Is _, Is _, Is _, Is _, Is _, Is _, Is _, Is _, Is _, Is _, Is _, Is _, Is _, Is _, Is _, Is _, Is _, Is _, Is _, Is _, Is _, Is _, Is _, Is _, Is _, Is _, Is _])
    · kernel_rfl
    · kernel_rfl
    · kernel_rfl
    · kernel_rfl
    · kernel_rfl
    · kernel_rfl
    · intro u
      simp only [List.map_cons, List.map_nil, fillU, List.setIfInBounds_toArray, List.set_cons_zero, List.set_cons_succ, Nat.zero_add, Nat.reduceAdd]
      exact rfl
    · skip
      refine ⟨fun u W hb hd K hK => ?_, ?_⟩
      · clear hd
        go_simp
        apply hK
        · simp only [Act.put, List.setIfInBounds_toArray, List.set_cons_zero, List.set_cons_succ]
          exact rfl
        · exact Below.refl _ _
        · exact IsOut
      refine ⟨fun u W hb hd K hK => ?_, ?_⟩
      · simp only [Facts, nthR, Is, and_true] at hd
        simp only [hd] at hK ⊢
        clear hd
        go_simp
        apply hK
        · simp only [Act.put, List.setIfInBounds_toArray, List.set_cons_zero, List.set_cons_succ]
          exact rfl
        · exact Below.refl _ _
        · exact IsOut
      refine ⟨fun u W hb hd K hK => ?_, ?_⟩
      · simp only [Facts, nthR, Is, and_true] at hd
        simp only [hd] at hK ⊢
        clear hd
        go_simp
        apply hK
        · simp only [Act.put, List.setIfInBounds_toArray, List.set_cons_zero, List.set_cons_succ]
          exact rfl
        · exact Below.refl _ _
        · exact IsOut
      refine ⟨fun u W hb hd K hK => ?_, ?_⟩
      · simp only [Facts, nthR, Is, and_true] at hd
        simp only [hd] at hK ⊢
        clear hd
        go_simp
        apply hK
        · simp only [Act.put, List.setIfInBounds_toArray, List.set_cons_zero, List.set_cons_succ]
          exact rfl
        · exact Below.refl _ _
        · exact IsOut
      refine ⟨fun u W hb hd K hK => ?_, ?_⟩
      · simp only [Facts, nthR, Is, and_true] at hd
        simp only [hd] at hK ⊢
        clear hd
        go_simp
        apply hK
        · simp only [Act.put, List.setIfInBounds_toArray, List.set_cons_zero, List.set_cons_succ]
          exact rfl
        · exact Below.refl _ _
        · exact IsOut
      refine ⟨fun u W hb hd K hK => ?_, ?_⟩
      · simp only [Facts, nthR, Is, and_true] at hd
        simp only [hd] at hK ⊢
        clear hd
        go_simp
        apply hK
        · simp only [Act.put, List.setIfInBounds_toArray, List.set_cons_zero, List.set_cons_succ]
          exact rfl
        · exact Below.refl _ _
        · exact IsOut
      refine ⟨fun u W hb hd K hK => ?_, ?_⟩
      · simp only [Facts, nthR, Is, and_true] at hd
        simp only [hd] at hK ⊢
        clear hd
        go_simp
        refine (K0 W (hM.below hb lM)).mono ?_
        rintro e wy ⟨rfl, hby⟩
        exact hK _ _ _ rfl hby IsOut
      refine ⟨fun u W hb hd K hK => ?_, ?_⟩
      · simp only [Facts, nthR, Is, and_true] at hd
        simp only [hd] at hK ⊢
        clear hd
        go_simp
        apply hK
        · simp only [Act.put, List.setIfInBounds_toArray, List.set_cons_zero, List.set_cons_succ]
          exact rfl
        · exact Below.refl _ _
        · exact IsOut
      refine ⟨fun u W hb hd K hK => ?_, ?_⟩
      · simp only [Facts, nthR, Is, and_true] at hd
        simp only [hd] at hK ⊢
        clear hd
        go_simp
        apply hK
        · simp only [Act.put, List.setIfInBounds_toArray, List.set_cons_zero, List.set_cons_succ]
          exact rfl
        · exact Below.refl _ _
        · exact IsOut
      refine ⟨fun u W hb hd K hK => ?_, ?_⟩
      · simp only [Facts, nthR, Is, and_true] at hd
        simp only [hd] at hK ⊢
        clear hd
        go_simp
        apply hK
        · simp only [Act.put, List.setIfInBounds_toArray, List.set_cons_zero, List.set_cons_succ]
          exact rfl
        · exact Below.refl _ _
        · exact IsOut
      refine ⟨fun u W hb hd K hK => ?_, ?_⟩
      · simp only [Facts, nthR, Is, and_true] at hd
        simp only [hd] at hK ⊢
        clear hd
        go_simp
        refine (K1 W).mono ?_
        rintro e wy ⟨rfl, hby⟩
        exact hK _ _ _ rfl hby IsOut
      refine ⟨fun u W hb hd K hK => ?_, ?_⟩
      · simp only [Facts, nthR, Is, and_true] at hd
        simp only [hd] at hK ⊢
        clear hd
        go_simp
        apply hK
        · simp only [Act.put, List.setIfInBounds_toArray, List.set_cons_zero, List.set_cons_succ]
          exact rfl
        · exact Below.refl _ _
        · exact IsOut
      refine ⟨fun u W hb hd K hK => ?_, ?_⟩
      · simp only [Facts, nthR, Is, and_true] at hd
        simp only [hd] at hK ⊢
        clear hd
        go_simp
        apply hK
        · simp only [Act.put, List.setIfInBounds_toArray, List.set_cons_zero, List.set_cons_succ]
          exact rfl
        · exact Below.refl _ _
        · exact IsOut
      refine ⟨fun u W hb hd K hK => ?_, ?_⟩
      · simp only [Facts, nthR, Is, and_true] at hd
        simp only [hd] at hK ⊢
        clear hd
        go_simp
        apply hK
        · simp only [Act.put, List.setIfInBounds_toArray, List.set_cons_zero, List.set_cons_succ]
          exact rfl
        · exact Below.refl _ _
        · exact IsOut
      refine ⟨fun u W hb hd K hK => ?_, ?_⟩
      · simp only [Facts, nthR, Is, and_true] at hd
        simp only [hd] at hK ⊢
        clear hd
        go_simp
        apply hK
        · simp only [Act.put, List.setIfInBounds_toArray, List.set_cons_zero, List.set_cons_succ]
          exact rfl
        · exact Below.refl _ _
        · exact IsOut
      refine ⟨fun u W hb hd K hK => ?_, ?_⟩
      · simp only [Facts, nthR, Is, and_true] at hd
        simp only [hd] at hK ⊢
        clear hd
        go_simp
        apply hK
        · simp only [Act.put, List.setIfInBounds_toArray, List.set_cons_zero, List.set_cons_succ]
          exact rfl
        · exact Below.refl _ _
        · exact IsOut
      refine ⟨fun u W hb hd K hK => ?_, ?_⟩
      · simp only [Facts, nthR, Is, and_true] at hd
        simp only [hd] at hK ⊢
        clear hd
        go_simp
        apply hK
        · simp only [Act.put, List.setIfInBounds_toArray, List.set_cons_zero, List.set_cons_succ]
          exact rfl
        · exact Below.refl _ _
        · exact IsOut
      refine ⟨fun u W hb hd K hK => ?_, ?_⟩
      · simp only [Facts, nthR, Is, and_true] at hd
        simp only [hd] at hK ⊢
        clear hd
        go_simp
        refine (K2 W (hM.below hb lM)).mono ?_
        rintro e wy ⟨rfl, hby⟩
        exact hK _ _ _ rfl hby IsOut
      refine ⟨fun u W hb hd K hK => ?_, ?_⟩
      · simp only [Facts, nthR, Is, and_true] at hd
        simp only [hd] at hK ⊢
        clear hd
        go_simp
        apply hK
        · simp only [Act.put, List.setIfInBounds_toArray, List.set_cons_zero, List.set_cons_succ]
          exact rfl
        · exact Below.refl _ _
        · exact IsOut
      refine ⟨fun u W hb hd K hK => ?_, ?_⟩
      · simp only [Facts, nthR, Is, and_true] at hd
        simp only [hd] at hK ⊢
        clear hd
        go_simp
        apply hK
        · simp only [Act.put, List.setIfInBounds_toArray, List.set_cons_zero, List.set_cons_succ]
          exact rfl
        · exact Below.refl _ _
        · exact IsOut
      refine ⟨fun u W hb hd K hK => ?_, ?_⟩
      · simp only [Facts, nthR, Is, and_true] at hd
        simp only [hd] at hK ⊢
        clear hd
        go_simp
        apply hK
        · simp only [Act.put, List.setIfInBounds_toArray, List.set_cons_zero, List.set_cons_succ]
          exact rfl
        · exact Below.refl _ _
        · exact IsOut
      refine ⟨fun u W hb hd K hK => ?_, ?_⟩
      · simp only [Facts, nthR, Is, and_true] at hd
        simp only [hd] at hK ⊢
        clear hd
        go_simp
        apply hK
        · simp only [Act.put, List.setIfInBounds_toArray, List.set_cons_zero, List.set_cons_succ]
          exact rfl
        · exact Below.refl _ _
        · exact IsOut
      refine ⟨fun u W hb hd K hK => ?_, ?_⟩
      · simp only [Facts, nthR, Is, and_true] at hd
        simp only [hd] at hK ⊢
        clear hd
        go_simp
        refine (K0 W (hM.below hb lM)).mono ?_
        rintro e wy ⟨rfl, hby⟩
        exact hK _ _ _ rfl hby IsOut
      refine ⟨fun u W hb hd K hK => ?_, ?_⟩
      · simp only [Facts, nthR, Is, and_true] at hd
        simp only [hd] at hK ⊢
        clear hd
        go_simp
        apply hK
        · simp only [Act.put, List.setIfInBounds_toArray, List.set_cons_zero, List.set_cons_succ]
          exact rfl
        · exact Below.refl _ _
        · exact IsOut
      refine ⟨fun u W hb hd K hK => ?_, ?_⟩
      · simp only [Facts, nthR, Is, and_true] at hd
        simp only [hd] at hK ⊢
        clear hd
        go_simp
        apply hK
        · simp only [Act.put, List.setIfInBounds_toArray, List.set_cons_zero, List.set_cons_succ]
          exact rfl
        · exact Below.refl _ _
        · exact IsOut
      refine ⟨fun u W hb hd K hK => ?_, ?_⟩
      · simp only [Facts, nthR, Is, and_true] at hd
        simp only [hd] at hK ⊢
        clear hd
        go_simp
        apply hK
        · simp only [Act.put, List.setIfInBounds_toArray, List.set_cons_zero, List.set_cons_succ]
          exact rfl
        · exact Below.refl _ _
        · exact IsOut
      refine ⟨fun u W hb hd K hK => ?_, ?_⟩
      · simp only [Facts, nthR, Is, and_true] at hd
        simp only [hd] at hK ⊢
        clear hd
        go_simp
        refine (K3 W (hM.below hb lM)).mono ?_
        rintro e wy ⟨rfl, hby⟩
        exact hK _ _ _ rfl hby IsOut
      refine ⟨fun u W hb hd K hK => ?_, ?_⟩
      · simp only [Facts, nthR, Is, and_true] at hd
        simp only [hd] at hK ⊢
        clear hd
        go_simp
        refine (K4 W (hM.below hb lM)).mono ?_
        rintro e wy ⟨rfl, hby⟩
        exact hK _ _ _ rfl hby IsOut
      refine ⟨fun u W hb hd K hK => ?_, ?_⟩
      · simp only [Facts, nthR, Is, and_true] at hd
        simp only [hd] at hK ⊢
        clear hd
        go_simp
        apply hK
        · simp only [Act.put, List.setIfInBounds_toArray, List.set_cons_zero, List.set_cons_succ]
          exact rfl
        · exact Below.refl _ _
        · exact IsOut
      refine ⟨fun u W hb hd K hK => ?_, ?_⟩
      · simp only [Facts, nthR, Is, and_true] at hd
        simp only [hd] at hK ⊢
        clear hd
        go_simp
        apply hK
        · simp only [Act.put, List.setIfInBounds_toArray, List.set_cons_zero, List.set_cons_succ]
          exact rfl
        · exact Below.refl _ _
        · exact IsOut
      refine ⟨fun u W hb hd K hK => ?_, ?_⟩
      · simp only [Facts, nthR, Is, and_true] at hd
        simp only [hd] at hK ⊢
        clear hd
        go_simp
        apply hK
        · simp only [Act.put, List.setIfInBounds_toArray, List.set_cons_zero, List.set_cons_succ]
          exact rfl
        · exact Below.refl _ _
        · exact IsOut
      refine ⟨fun u W hb hd K hK => ?_, ?_⟩
      · simp only [Facts, nthR, Is, and_true] at hd
        simp only [hd] at hK ⊢
        clear hd
        go_simp
        apply hK
        · simp only [Act.put, List.setIfInBounds_toArray, List.set_cons_zero, List.set_cons_succ]
          exact rfl
        · exact Below.refl _ _
        · exact IsOut
      refine ⟨fun u W hb hd K hK => ?_, ?_⟩
      · simp only [Facts, nthR, Is, and_true] at hd
        simp only [hd] at hK ⊢
        clear hd
        go_simp
        apply hK
        · simp only [Act.put, List.setIfInBounds_toArray, List.set_cons_zero, List.set_cons_succ]
          exact rfl
        · exact Below.refl _ _
        · exact IsOut
      refine ⟨fun u W hb hd K hK => ?_, ?_⟩
      · simp only [Facts, nthR, Is, and_true] at hd
        simp only [hd] at hK ⊢
        clear hd
        go_simp
        apply hK
        · simp only [Act.put, List.setIfInBounds_toArray, List.set_cons_zero, List.set_cons_succ]
          exact rfl
        · exact Below.refl _ _
        · exact IsOut
      refine ⟨fun u W hb hd K hK => ?_, ?_⟩
      · simp only [Facts, nthR, Is, and_true] at hd
        simp only [hd] at hK ⊢
        clear hd
        go_simp
        refine (K5 W (hM.below hb lM)).mono ?_
        rintro e wy ⟨rfl, hby⟩
        exact hK _ _ _ rfl hby IsOut
      refine ⟨fun u W hb hd K hK => ?_, ?_⟩
      · simp only [Facts, nthR, Is, and_true] at hd
        simp only [hd] at hK ⊢
        clear hd
        go_simp
        apply hK
        · simp only [Act.put, List.setIfInBounds_toArray, List.set_cons_zero, List.set_cons_succ]
          exact rfl
        · exact Below.refl _ _
        · exact IsOut
      refine ⟨fun u W hb hd K hK => ?_, ?_⟩
      · simp only [Facts, nthR, Is, and_true] at hd
        simp only [hd] at hK ⊢
        clear hd
        go_simp
        apply hK
        · simp only [Act.put, List.setIfInBounds_toArray, List.set_cons_zero, List.set_cons_succ]
          exact rfl
        · exact Below.refl _ _
        · exact IsOut
      refine ⟨fun u W hb hd K hK => ?_, ?_⟩
      · simp only [Facts, nthR, Is, and_true] at hd
        simp only [hd] at hK ⊢
        clear hd
        go_simp
        apply hK
        · simp only [Act.put, List.setIfInBounds_toArray, List.set_cons_zero, List.set_cons_succ]
          exact rfl
        · exact Below.refl _ _
        · exact IsOut
      refine ⟨fun u W hb hd K hK => ?_, ?_⟩
      · simp only [Facts, nthR, Is, and_true] at hd
        simp only [hd] at hK ⊢
        clear hd
        go_simp
        apply hK
        · simp only [Act.put, List.setIfInBounds_toArray, List.set_cons_zero, List.set_cons_succ]
          exact rfl
        · exact Below.refl _ _
        · exact IsOut
      exact trivial
    · exact (.is (.is (.is (.is (.is (.is (.is (.is (.is (.is (.is (.is (.is (.is (.is (.is (.is (.is (.is (.is (.is (.is (.is (.is (.is (.is (.is (.is (.is (.is (.is (.is (.is (.is (.is (.is (.is (.is (.is .nil)))))))))))))))))))))))))))))))))))))))
    · intro u W hb hd
      simp only [Facts, nthR, Is, and_true] at hd
      simp only [hd]
      go_wp2
      go_ret
      exact ⟨rfl, hP.bw.trans (hb.mono hP.bw.size)⟩
theorem pows_any (m a : P4) (e : Nat × Nat) (w : World) (hm : m.ok) (ha : a.ok) (he : e.1 < 4294967296 ∧ e.2 < 4294967296) : Calls Try.prog 5 #[.agg #[.int .u64 (m.a : Int), .int .u64 (m.b : Int), .int .u64 (m.c : Int), .int .u64 (m.d : Int)], .agg #[.int .u64 (a.a : Int), .int .u64 (a.b : Int), .int .u64 (a.c : Int), .int .u64 (a.d : Int)], .agg #[.int .u32 (e.1 : Int), .int .u32 (e.2 : Int)]] w fun e w' => e = .returned (.bool true) ∧ Below w.heap.size w w' := by
  cases hr : rightP m with
  | true => exact pows_right m a e w hm ha he hr
  | false => exact pows_wrong m a e w hm ha he hr
end Go.Proofs.Ytcjdpllhaebapaa
