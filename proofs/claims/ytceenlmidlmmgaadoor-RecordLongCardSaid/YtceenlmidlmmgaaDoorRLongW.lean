/-
  The walk of the statement RecordLong.
-/
import Derived.Test.YtceenlmidlmmgaaDoorRk2
import Derived.Test.YtceenlmidlmmgaaDoorRh6
namespace Go.Proofs.YtceenlmidlmmgaaDoor
open Go.RowKit

theorem buf_zerosL (w : World) (n : Nat) (hm : n ≤ 1000000) : Buf (w.alloc (.cells ((List.replicate n (0 : UInt8)).map B8).toArray 5)) w.heap.size (some ⟨w.heap.size, 0, none⟩) n n (List.replicate n 0) :=
  Buf.made _ _ _ _ (Nat.le_refl _) List.length_replicate (Nat.le_refl _) (by unfold maxLen; omega) (by simp) (.inr rfl) (fun j hj => by
    rw [List.getElem?_toArray]
    exact getD_map8 _ j (by rw [List.length_replicate]; exact hj))
def secret7 : List UInt8 := 7 :: List.replicate 31 0
theorem ix_eight (a : Int) : ∃ q : Nat, (IntKind.u64.wrap a).tmod 8 = (q : Int) ∧ wrap64 (q : Int) = (q : Int) ∧ q < 8 := by
  have hu0 : (0 : Int) ≤ IntKind.u64.wrap a := by rw [IntKind.wrap_u64]; omega
  refine ⟨(IntKind.u64.wrap a % 8).toNat, ?_, ?_, ?_⟩
  · rw [Int.tmod_eq_emod_of_nonneg hu0, Int.toNat_of_nonneg (Int.emod_nonneg _ (by decide))]
  · unfold wrap64; omega
  · omega
theorem ix_size (q : Nat) (h : q < 8) : ∃ n : Nat, n = 16380 + q ∧ (16380 : Int) + (q : Int) = (n : Int) ∧ wrap64 (n : Int) = (n : Int) := ⟨_, rfl, by omega, by unfold wrap64; omega⟩
theorem ix_sum (n p : Nat) (h : n < 100000) (hp : p < 100000) : ∃ t : Nat, t = n + p ∧ (n : Int) + (p : Int) = (t : Int) ∧ wrap64 (t : Int) = (t : Int) := ⟨_, rfl, by omega, by unfold wrap64; omega⟩
set_option maxRecDepth 100000 in
set_option maxHeartbeats 1000000 in
theorem recordLong_walk (a0 a1 : Int) (w : World) (ht : Tabs w) :
    Calls Tryd.prog 5 #[.int .i64 a0, .int .i64 a1] w fun e w' => e = .returned (.bool true) ∧ Below w.heap.size w w' := by
  obtain ⟨s8, hs1, hs2, hs3⟩ := ix_eight a0
  obtain ⟨p8, hp1, hp2, hp3⟩ := ix_eight a1
  obtain ⟨n, hn, hn1, hn2⟩ := ix_size s8 hs3
  obtain ⟨t, ht0, ht1, ht2⟩ := ix_sum n p8 (by omega) (by omega)
  have HMK := Lib.hid (fun (W : World) => run_make_bytes .i64 .i64 n n (Nat.le_refl _) (by omega) W)
  have HBZ := Lib.hid (fun (W : World) => buf_zerosL W n (by omega))
  have hzl : (List.replicate n (0 : UInt8)).length = n := List.length_replicate
  have HKN := Lib.hid (show ∀ W : World, Tabs W → Calls Tryd.prog 14 #[.agg #[.int .u8 7, .int .u8 0, .int .u8 0, .int .u8 0, .int .u8 0, .int .u8 0, .int .u8 0, .int .u8 0, .int .u8 0, .int .u8 0, .int .u8 0, .int .u8 0, .int .u8 0, .int .u8 0, .int .u8 0, .int .u8 0, .int .u8 0, .int .u8 0, .int .u8 0, .int .u8 0, .int .u8 0, .int .u8 0, .int .u8 0, .int .u8 0, .int .u8 0, .int .u8 0, .int .u8 0, .int .u8 0, .int .u8 0, .int .u8 0, .int .u8 0, .int .u8 0]] W fun e w' => ∃ gh gx gk gr, e = .returned (.pointer (some ⟨gh, 0, none⟩)) ∧ W.heap.size ≤ gh ∧ W.heap.size ≤ gx ∧ HalfAt w' gh gx gk gr 11 (keyL 4 (keyH secret7)) (ivH secret7) 0 ∧ Below W.heap.size W w' from fun W t => hnew_e secret7 W rfl t)
  generalize keyL 4 (keyH secret7) = L at *
  generalize ivH secret7 = V at *
  generalize List.replicate n (0 : UInt8) = Z at *
  have HT := Lib.hid ht
  have HZL := Lib.hid hzl
  clear ht hzl
  by_cases hbig : 16384 < t
  · have HBIG := Lib.hid (show 16384 < n ∨ 16384 - (n : Int) < (p8 : Int) by omega)
    have hd : ¬ (t : Int) ≤ 16384 := by omega
    clear hbig hn ht0
    go_enter Tryd.func5, Tryd.ntmps5
    go_upto_region 2 with (fail)
    refine wp_region_noPanic ?_
    refine wp_region_held_drew (S := fun W => Below w.heap.size w W) (by kernel_rfl) (by exact below_drewN (Below.refl _ _) 1) (fun hHeld => ?_)
    refine wpAnyH_take (i := 0) (oi := ⟨_, _, _, _, _, _⟩) (v := ?_) rfl (by kernel_rfl) (by kernel_rfl) (by kernel_rfl) (fun _ _ _ h => h) (Or.inl ⟨by rfl, ?_⟩) hHeld ?_
    rotate_left 1
    · (intro W hSw; (try dsimp only at hSw); go_simp; try with_reducible rfl)
    try simp only [Act.put, List.setIfInBounds_toArray, List.set_cons_zero, List.set_cons_succ]
    refine wpAnyH_take (i := 2) (oi := ⟨_, _, _, _, _, _⟩) (v := ?_) rfl (by kernel_rfl) (by kernel_rfl) (by kernel_rfl) (fun _ _ _ h => h) (Or.inl ⟨by rfl, ?_⟩) hHeld ?_
    rotate_left 1
    · (intro W hSw; (try dsimp only at hSw); go_simp; try with_reducible rfl)
    try simp only [Act.put, List.setIfInBounds_toArray, List.set_cons_zero, List.set_cons_succ]
    refine wpAnyH_take (i := 4) (oi := ⟨_, _, _, _, _, _⟩) (v := ?_) rfl (by kernel_rfl) (by kernel_rfl) (by kernel_rfl) (fun _ _ _ h => h) (Or.inl ⟨by rfl, ?_⟩) hHeld ?_
    rotate_left 1
    · (intro W hSw; (try dsimp only at hSw); go_simp; try with_reducible rfl)
    try simp only [Act.put, List.setIfInBounds_toArray, List.set_cons_zero, List.set_cons_succ]
    replace hHeld : Below w.heap.size w w.drew := hHeld
    have hwd : w.heap.size ≤ w.drew.heap.size := hHeld.size
    generalize w.drew = wd at *
    refine wpAnyH_ready (rs := [1, 3]) (by kernel_rfl) (by simp) ?_
    refine AllReadyH.cons (o := ⟨_, _, _, _, _, _⟩) rfl (fun K hK => ?_) (AllReadyH.cons (o := ⟨_, _, _, _, _, _⟩) rfl (fun K hK => ?_) AllReadyH.nil)
    case' refine_1 =>
      go_simp
      go_at_call 14
      refine (HKN.out _ (HT.out.below hHeld)).mono ?_
      rintro e wa ⟨gh, gx, gk, gr, rfl, hgh, hgx, hH, hb1⟩
      try go_wp2_with fail
      have hszx := hHeld.size
      refine hK.out _ _ (hHeld.trans (hb1.mono hszx)) (fun hHeld => ?_)
      clear hK K hszx
      try simp only [Act.put, List.setIfInBounds_toArray, List.set_cons_zero, List.set_cons_succ]
      refine wpAnyH_ready (rs := [3]) (by kernel_rfl) (by simp) ?_
      refine AllReadyH.cons (o := ⟨_, _, _, _, _, _⟩) rfl (fun K hK => ?_) AllReadyH.nil
      have hmk := HMK.out wa
      go_simp
      have hZ0 := HBZ.out wa
      have hba : Below wa.heap.size wa (wa.alloc (.cells (Z.map B8).toArray 5)) := (Below.refl _ _).alloc (Nat.le_refl _) _
      have hszx := hHeld.size
      refine hK.out _ _ (hHeld.trans (hba.mono hszx)) (fun hHeld => ?_)
      clear hK K hszx hmk
      try simp only [Act.put, List.setIfInBounds_toArray, List.set_cons_zero, List.set_cons_succ]
      replace hH := hH.below hba
      obtain ⟨AZ, hAZ⟩ : ∃ AZ : Option Addr, AZ = some ⟨wa.heap.size, 0, none⟩ := ⟨_, rfl⟩
      rw [← hAZ] at hZ0
      simp only [← hAZ]
      clear hAZ hba hb1
      generalize wa.alloc (.cells (Z.map B8).toArray 5) = wb at *
      replace hZ0 := hZ0.toIn (Nat.le_refl _)
      clear hgx
      refine wpAnyH_ready (rs := [5]) (by kernel_rfl) (by simp) ?_
      refine AllReadyH.cons (o := ⟨_, _, _, _, _, _⟩) rfl (fun K hK => ?_) AllReadyH.nil
      go_simp
      go_at_call 10
      refine (hseal_big hH 23 (p8 : Int) n _ AZ rfl (Int.not_lt.2 (Int.natCast_nonneg _)) HBIG.out).mono ?_
      rintro e w3 ⟨rfl, hww⟩
      have hw3 := hww.symm
      subst hw3
      try go_wp2_with fail
      refine hK.out _ _ hHeld (fun hHeld => ?_)
      clear hK K
      refine wpAnyH_take (i := 6) (oi := ⟨_, _, _, _, _, _⟩) (v := ?_) rfl (by kernel_rfl) (by kernel_rfl) (by kernel_rfl) (fun _ _ _ h => h) (Or.inl ⟨by rfl, ?_⟩) hHeld ?_
      rotate_left 1
      · (intro W hSw; (try dsimp only at hSw); go_simp; try with_reducible rfl)
      try simp only [Act.put, List.setIfInBounds_toArray, List.set_cons_zero, List.set_cons_succ]
      refine wpAnyH_take (i := 7) (oi := ⟨_, _, _, _, _, _⟩) (v := ?_) rfl (by kernel_rfl) (by kernel_rfl) (by kernel_rfl) (fun _ _ _ h => h) (Or.inl ⟨by rfl, ?_⟩) hHeld ?_
      rotate_left 1
      · (intro W hSw; (try dsimp only at hSw); go_simp; try with_reducible rfl)
      try simp only [Act.put, List.setIfInBounds_toArray, List.set_cons_zero, List.set_cons_succ]
      refine wpAnyH_take (i := 8) (oi := ⟨_, _, _, _, _, _⟩) (v := ?_) rfl (by kernel_rfl) (by kernel_rfl) (by kernel_rfl) (fun _ _ _ h => h) (Or.inl ⟨by rfl, ?_⟩) hHeld ?_
      rotate_left 1
      · (intro W hSw; (try dsimp only at hSw); go_simp; try with_reducible rfl)
      try simp only [Act.put, List.setIfInBounds_toArray, List.set_cons_zero, List.set_cons_succ]
      refine wpAnyH_take (i := 9) (oi := ⟨_, _, _, _, _, _⟩) (v := ?_) rfl (by kernel_rfl) (by kernel_rfl) (by kernel_rfl) (fun _ _ _ h => h) (Or.inl ⟨by rfl, ?_⟩) hHeld ?_
      rotate_left 1
      · (intro W hSw; (try dsimp only at hSw); go_simp; try with_reducible rfl)
      try simp only [Act.put, List.setIfInBounds_toArray, List.set_cons_zero, List.set_cons_succ]
      refine wpAnyH_take (i := 10) (oi := ⟨_, _, _, _, _, _⟩) (v := ?_) rfl (by kernel_rfl) (by kernel_rfl) (by kernel_rfl) (fun _ _ _ h => h) (Or.inl ⟨by rfl, ?_⟩) hHeld ?_
      rotate_left 1
      · (intro W hSw; (try dsimp only at hSw); go_simp; try with_reducible rfl)
      try simp only [Act.put, List.setIfInBounds_toArray, List.set_cons_zero, List.set_cons_succ]
      refine wpAnyH_done (by kernel_rfl) ?_ _
      refine NoPanic.normal ?_
    case' refine_2 =>
      have hmk := HMK.out wd
      go_simp
      have hZ0 := HBZ.out wd
      have hba : Below wd.heap.size wd (wd.alloc (.cells (Z.map B8).toArray 5)) := (Below.refl _ _).alloc (Nat.le_refl _) _
      have hszx := hHeld.size
      refine hK.out _ _ (hHeld.trans (hba.mono hszx)) (fun hHeld => ?_)
      clear hK K hszx hmk
      try simp only [Act.put, List.setIfInBounds_toArray, List.set_cons_zero, List.set_cons_succ]
      obtain ⟨AZ, hAZ⟩ : ∃ AZ : Option Addr, AZ = some ⟨wd.heap.size, 0, none⟩ := ⟨_, rfl⟩
      rw [← hAZ] at hZ0
      simp only [← hAZ]
      clear hAZ
      have hsz0 := hba.size
      clear hba
      generalize wd.alloc (.cells (Z.map B8).toArray 5) = wc at *
      replace hZ0 := hZ0.toIn (Nat.le_refl _)
      refine wpAnyH_ready (rs := [1]) (by kernel_rfl) (by simp) ?_
      refine AllReadyH.cons (o := ⟨_, _, _, _, _, _⟩) rfl (fun K hK => ?_) AllReadyH.nil
      go_simp
      go_at_call 14
      refine (HKN.out _ (HT.out.below hHeld)).mono ?_
      rintro e wb ⟨gh, gx, gk, gr, rfl, hgh, hgx, hH, hb1⟩
      try go_wp2_with fail
      have hszx := hHeld.size
      refine hK.out _ _ (hHeld.trans (hb1.mono hszx)) (fun hHeld => ?_)
      clear hK K hszx
      try simp only [Act.put, List.setIfInBounds_toArray, List.set_cons_zero, List.set_cons_succ]
      replace hZ0 := in_up hZ0 hb1
      replace hgh := Nat.le_trans hsz0 hgh
      clear hsz0 hb1 hgx
      refine wpAnyH_ready (rs := [5]) (by kernel_rfl) (by simp) ?_
      refine AllReadyH.cons (o := ⟨_, _, _, _, _, _⟩) rfl (fun K hK => ?_) AllReadyH.nil
      go_simp
      go_at_call 10
      refine (hseal_big hH 23 (p8 : Int) n _ AZ rfl (Int.not_lt.2 (Int.natCast_nonneg _)) HBIG.out).mono ?_
      rintro e w3 ⟨rfl, hww⟩
      have hw3 := hww.symm
      subst hw3
      try go_wp2_with fail
      refine hK.out _ _ hHeld (fun hHeld => ?_)
      clear hK K
      refine wpAnyH_take (i := 6) (oi := ⟨_, _, _, _, _, _⟩) (v := ?_) rfl (by kernel_rfl) (by kernel_rfl) (by kernel_rfl) (fun _ _ _ h => h) (Or.inl ⟨by rfl, ?_⟩) hHeld ?_
      rotate_left 1
      · (intro W hSw; (try dsimp only at hSw); go_simp; try with_reducible rfl)
      try simp only [Act.put, List.setIfInBounds_toArray, List.set_cons_zero, List.set_cons_succ]
      refine wpAnyH_take (i := 7) (oi := ⟨_, _, _, _, _, _⟩) (v := ?_) rfl (by kernel_rfl) (by kernel_rfl) (by kernel_rfl) (fun _ _ _ h => h) (Or.inl ⟨by rfl, ?_⟩) hHeld ?_
      rotate_left 1
      · (intro W hSw; (try dsimp only at hSw); go_simp; try with_reducible rfl)
      try simp only [Act.put, List.setIfInBounds_toArray, List.set_cons_zero, List.set_cons_succ]
      refine wpAnyH_take (i := 8) (oi := ⟨_, _, _, _, _, _⟩) (v := ?_) rfl (by kernel_rfl) (by kernel_rfl) (by kernel_rfl) (fun _ _ _ h => h) (Or.inl ⟨by rfl, ?_⟩) hHeld ?_
      rotate_left 1
      · (intro W hSw; (try dsimp only at hSw); go_simp; try with_reducible rfl)
      try simp only [Act.put, List.setIfInBounds_toArray, List.set_cons_zero, List.set_cons_succ]
      refine wpAnyH_take (i := 9) (oi := ⟨_, _, _, _, _, _⟩) (v := ?_) rfl (by kernel_rfl) (by kernel_rfl) (by kernel_rfl) (fun _ _ _ h => h) (Or.inl ⟨by rfl, ?_⟩) hHeld ?_
      rotate_left 1
      · (intro W hSw; (try dsimp only at hSw); go_simp; try with_reducible rfl)
      try simp only [Act.put, List.setIfInBounds_toArray, List.set_cons_zero, List.set_cons_succ]
      refine wpAnyH_take (i := 10) (oi := ⟨_, _, _, _, _, _⟩) (v := ?_) rfl (by kernel_rfl) (by kernel_rfl) (by kernel_rfl) (fun _ _ _ h => h) (Or.inl ⟨by rfl, ?_⟩) hHeld ?_
      rotate_left 1
      · (intro W hSw; (try dsimp only at hSw); go_simp; try with_reducible rfl)
      try simp only [Act.put, List.setIfInBounds_toArray, List.set_cons_zero, List.set_cons_succ]
      refine wpAnyH_done (by kernel_rfl) ?_ _
      refine NoPanic.normal ?_
    all_goals
      replace hHeld : Below w.heap.size w wb := hHeld
      clear hH hZ0 hgh hwd
      go_wp2_with (go_at_call 12; refine (records_e _ (HT.out.below hHeld)).mono ?_; rintro e w4 ⟨rfl, hb4⟩)
      go_ret
      exact ⟨rfl, hHeld.trans (hb4.mono hHeld.size)⟩
  · have hd : (t : Int) ≤ 16384 := by omega
    have HSE := Lib.hid (fun (W : World) (gh gx gk gr : Nat) (A : Option Addr) (c : Nat) (h : HalfAt W gh gx gk gr 11 L V 0) (i : In W W.heap.size A c Z) => (hseal_ok h 23 n p8 c A Z rfl HZL.out i (by omega) (by decide)).mono (fun (e : Ending) (w' : World) ⟨A', c', h1, h2, _, h4⟩ => (⟨A', c', h1, h2, h4⟩ : ∃ A' c', e = Ending.returned (.tuple #[.slice A' (5 + (n + 1 + p8 + 16)) c', .int .i64 0]) ∧ Buf w' W.heap.size A' (5 + (n + 1 + p8 + 16)) c' (recE L 11 V 0 23 Z p8) ∧ W.grownBy w' (some gh))))
    have HOP := Lib.hid (fun (W : World) (gh gx gk gr : Nat) (A : Option Addr) (c : Nat) (h : HalfAt W gh gx gk gr 11 L V 0) (i : In W W.heap.size A c (recE L 11 V 0 23 Z p8)) => (opened_e h 23 n p8 c A Z rfl HZL.out (by omega) (by decide) i).mono (fun (e : Ending) (w' : World) ⟨A', c', h1, h2, _, h4⟩ => (⟨A', c', h1, h2, h4⟩ : ∃ A' c', e = Ending.returned (.tuple #[.int .i64 23, .slice A' n c', .int .i64 0]) ∧ In w' w'.heap.size A' c' Z ∧ W.grownBy w' (some gh))))
    clear hbig hn ht0
    go_enter Tryd.func5, Tryd.ntmps5
    go_upto_region 2 with (fail)
    refine wp_region_noPanic ?_
    refine wp_region_held_drew (S := fun W => Below w.heap.size w W) (by kernel_rfl) (by exact below_drewN (Below.refl _ _) 1) (fun hHeld => ?_)
    refine wpAnyH_take (i := 0) (oi := ⟨_, _, _, _, _, _⟩) (v := ?_) rfl (by kernel_rfl) (by kernel_rfl) (by kernel_rfl) (fun _ _ _ h => h) (Or.inl ⟨by rfl, ?_⟩) hHeld ?_
    rotate_left 1
    · (intro W hSw; (try dsimp only at hSw); go_simp; try with_reducible rfl)
    try simp only [Act.put, List.setIfInBounds_toArray, List.set_cons_zero, List.set_cons_succ]
    refine wpAnyH_take (i := 2) (oi := ⟨_, _, _, _, _, _⟩) (v := ?_) rfl (by kernel_rfl) (by kernel_rfl) (by kernel_rfl) (fun _ _ _ h => h) (Or.inl ⟨by rfl, ?_⟩) hHeld ?_
    rotate_left 1
    · (intro W hSw; (try dsimp only at hSw); go_simp; try with_reducible rfl)
    try simp only [Act.put, List.setIfInBounds_toArray, List.set_cons_zero, List.set_cons_succ]
    refine wpAnyH_take (i := 4) (oi := ⟨_, _, _, _, _, _⟩) (v := ?_) rfl (by kernel_rfl) (by kernel_rfl) (by kernel_rfl) (fun _ _ _ h => h) (Or.inl ⟨by rfl, ?_⟩) hHeld ?_
    rotate_left 1
    · (intro W hSw; (try dsimp only at hSw); go_simp; try with_reducible rfl)
    try simp only [Act.put, List.setIfInBounds_toArray, List.set_cons_zero, List.set_cons_succ]
    replace hHeld : Below w.heap.size w w.drew := hHeld
    have hwd : w.heap.size ≤ w.drew.heap.size := hHeld.size
    generalize w.drew = wd at *
    refine wpAnyH_ready (rs := [1, 3]) (by kernel_rfl) (by simp) ?_
    refine AllReadyH.cons (o := ⟨_, _, _, _, _, _⟩) rfl (fun K hK => ?_) (AllReadyH.cons (o := ⟨_, _, _, _, _, _⟩) rfl (fun K hK => ?_) AllReadyH.nil)
    case' refine_1 =>
      go_simp
      go_at_call 14
      refine (HKN.out _ (HT.out.below hHeld)).mono ?_
      rintro e wa ⟨gh, gx, gk, gr, rfl, hgh, hgx, hH, hb1⟩
      try go_wp2_with fail
      have hszx := hHeld.size
      refine hK.out _ _ (hHeld.trans (hb1.mono hszx)) (fun hHeld => ?_)
      clear hK K hszx
      try simp only [Act.put, List.setIfInBounds_toArray, List.set_cons_zero, List.set_cons_succ]
      refine wpAnyH_ready (rs := [3]) (by kernel_rfl) (by simp) ?_
      refine AllReadyH.cons (o := ⟨_, _, _, _, _, _⟩) rfl (fun K hK => ?_) AllReadyH.nil
      have hmk := HMK.out wa
      go_simp
      have hZ0 := HBZ.out wa
      have hba : Below wa.heap.size wa (wa.alloc (.cells (Z.map B8).toArray 5)) := (Below.refl _ _).alloc (Nat.le_refl _) _
      have hszx := hHeld.size
      refine hK.out _ _ (hHeld.trans (hba.mono hszx)) (fun hHeld => ?_)
      clear hK K hszx hmk
      try simp only [Act.put, List.setIfInBounds_toArray, List.set_cons_zero, List.set_cons_succ]
      replace hH := hH.below hba
      obtain ⟨AZ, hAZ⟩ : ∃ AZ : Option Addr, AZ = some ⟨wa.heap.size, 0, none⟩ := ⟨_, rfl⟩
      rw [← hAZ] at hZ0
      simp only [← hAZ]
      clear hAZ hba hb1
      generalize wa.alloc (.cells (Z.map B8).toArray 5) = wb at *
      replace hZ0 := hZ0.toIn (Nat.le_refl _)
      clear hgx
      refine wpAnyH_ready (rs := [5]) (by kernel_rfl) (by simp) ?_
      refine AllReadyH.cons (o := ⟨_, _, _, _, _, _⟩) rfl (fun K hK => ?_) AllReadyH.nil
      go_simp
      go_at_call 10
      refine (HSE.out _ gh gx gk gr AZ _ hH hZ0).mono ?_
      rintro e w3 ⟨A3, c3, rfl, hB3, hg3⟩
      try go_wp2_with fail
      have hb3 := below_new hHeld hg3 (Nat.le_trans hwd hgh) hHeld.size
      refine hK.out _ _ hb3 (fun hHeld => ?_)
      clear hK K
      replace hB3 := hB3.base (Nat.zero_le _)
      clear hb3
      refine wpAnyH_take (i := 6) (oi := ⟨_, _, _, _, _, _⟩) (v := ?_) rfl (by kernel_rfl) (by kernel_rfl) (by kernel_rfl) (fun _ _ _ h => h) (Or.inl ⟨by rfl, ?_⟩) hHeld ?_
      rotate_left 1
      · (intro W hSw; (try dsimp only at hSw); go_simp; try with_reducible rfl)
      try simp only [Act.put, List.setIfInBounds_toArray, List.set_cons_zero, List.set_cons_succ]
      refine wpAnyH_take (i := 7) (oi := ⟨_, _, _, _, _, _⟩) (v := ?_) rfl (by kernel_rfl) (by kernel_rfl) (by kernel_rfl) (fun _ _ _ h => h) (Or.inl ⟨by rfl, ?_⟩) hHeld ?_
      rotate_left 1
      · (intro W hSw; (try dsimp only at hSw); go_simp; try with_reducible rfl)
      try simp only [Act.put, List.setIfInBounds_toArray, List.set_cons_zero, List.set_cons_succ]
      refine wpAnyH_take (i := 8) (oi := ⟨_, _, _, _, _, _⟩) (v := ?_) rfl (by kernel_rfl) (by kernel_rfl) (by kernel_rfl) (fun _ _ _ h => h) (Or.inl ⟨by rfl, ?_⟩) hHeld ?_
      rotate_left 1
      · (intro W hSw; (try dsimp only at hSw); go_simp; try with_reducible rfl)
      try simp only [Act.put, List.setIfInBounds_toArray, List.set_cons_zero, List.set_cons_succ]
      refine wpAnyH_take (i := 9) (oi := ⟨_, _, _, _, _, _⟩) (v := ?_) rfl (by kernel_rfl) (by kernel_rfl) (by kernel_rfl) (fun _ _ _ h => h) (Or.inl ⟨by rfl, ?_⟩) hHeld ?_
      rotate_left 1
      · (intro W hSw; (try dsimp only at hSw); go_simp; try with_reducible rfl)
      try simp only [Act.put, List.setIfInBounds_toArray, List.set_cons_zero, List.set_cons_succ]
      refine wpAnyH_take (i := 10) (oi := ⟨_, _, _, _, _, _⟩) (v := ?_) rfl (by kernel_rfl) (by kernel_rfl) (by kernel_rfl) (fun _ _ _ h => h) (Or.inl ⟨by rfl, ?_⟩) hHeld ?_
      rotate_left 1
      · (intro W hSw; (try dsimp only at hSw); go_simp; try with_reducible rfl)
      try simp only [Act.put, List.setIfInBounds_toArray, List.set_cons_zero, List.set_cons_succ]
      refine wpAnyH_done (by kernel_rfl) ?_ _
      refine NoPanic.normal ?_
    case' refine_2 =>
      have hmk := HMK.out wd
      go_simp
      have hZ0 := HBZ.out wd
      have hba : Below wd.heap.size wd (wd.alloc (.cells (Z.map B8).toArray 5)) := (Below.refl _ _).alloc (Nat.le_refl _) _
      have hszx := hHeld.size
      refine hK.out _ _ (hHeld.trans (hba.mono hszx)) (fun hHeld => ?_)
      clear hK K hszx hmk
      try simp only [Act.put, List.setIfInBounds_toArray, List.set_cons_zero, List.set_cons_succ]
      obtain ⟨AZ, hAZ⟩ : ∃ AZ : Option Addr, AZ = some ⟨wd.heap.size, 0, none⟩ := ⟨_, rfl⟩
      rw [← hAZ] at hZ0
      simp only [← hAZ]
      clear hAZ
      have hsz0 := hba.size
      clear hba
      generalize wd.alloc (.cells (Z.map B8).toArray 5) = wc at *
      replace hZ0 := hZ0.toIn (Nat.le_refl _)
      refine wpAnyH_ready (rs := [1]) (by kernel_rfl) (by simp) ?_
      refine AllReadyH.cons (o := ⟨_, _, _, _, _, _⟩) rfl (fun K hK => ?_) AllReadyH.nil
      go_simp
      go_at_call 14
      refine (HKN.out _ (HT.out.below hHeld)).mono ?_
      rintro e wb ⟨gh, gx, gk, gr, rfl, hgh, hgx, hH, hb1⟩
      try go_wp2_with fail
      have hszx := hHeld.size
      refine hK.out _ _ (hHeld.trans (hb1.mono hszx)) (fun hHeld => ?_)
      clear hK K hszx
      try simp only [Act.put, List.setIfInBounds_toArray, List.set_cons_zero, List.set_cons_succ]
      replace hZ0 := in_up hZ0 hb1
      replace hgh := Nat.le_trans hsz0 hgh
      clear hsz0 hb1 hgx
      refine wpAnyH_ready (rs := [5]) (by kernel_rfl) (by simp) ?_
      refine AllReadyH.cons (o := ⟨_, _, _, _, _, _⟩) rfl (fun K hK => ?_) AllReadyH.nil
      go_simp
      go_at_call 10
      refine (HSE.out _ gh gx gk gr AZ _ hH hZ0).mono ?_
      rintro e w3 ⟨A3, c3, rfl, hB3, hg3⟩
      try go_wp2_with fail
      have hb3 := below_new hHeld hg3 (Nat.le_trans hwd hgh) hHeld.size
      refine hK.out _ _ hb3 (fun hHeld => ?_)
      clear hK K
      replace hB3 := hB3.base (Nat.zero_le _)
      clear hb3
      refine wpAnyH_take (i := 6) (oi := ⟨_, _, _, _, _, _⟩) (v := ?_) rfl (by kernel_rfl) (by kernel_rfl) (by kernel_rfl) (fun _ _ _ h => h) (Or.inl ⟨by rfl, ?_⟩) hHeld ?_
      rotate_left 1
      · (intro W hSw; (try dsimp only at hSw); go_simp; try with_reducible rfl)
      try simp only [Act.put, List.setIfInBounds_toArray, List.set_cons_zero, List.set_cons_succ]
      refine wpAnyH_take (i := 7) (oi := ⟨_, _, _, _, _, _⟩) (v := ?_) rfl (by kernel_rfl) (by kernel_rfl) (by kernel_rfl) (fun _ _ _ h => h) (Or.inl ⟨by rfl, ?_⟩) hHeld ?_
      rotate_left 1
      · (intro W hSw; (try dsimp only at hSw); go_simp; try with_reducible rfl)
      try simp only [Act.put, List.setIfInBounds_toArray, List.set_cons_zero, List.set_cons_succ]
      refine wpAnyH_take (i := 8) (oi := ⟨_, _, _, _, _, _⟩) (v := ?_) rfl (by kernel_rfl) (by kernel_rfl) (by kernel_rfl) (fun _ _ _ h => h) (Or.inl ⟨by rfl, ?_⟩) hHeld ?_
      rotate_left 1
      · (intro W hSw; (try dsimp only at hSw); go_simp; try with_reducible rfl)
      try simp only [Act.put, List.setIfInBounds_toArray, List.set_cons_zero, List.set_cons_succ]
      refine wpAnyH_take (i := 9) (oi := ⟨_, _, _, _, _, _⟩) (v := ?_) rfl (by kernel_rfl) (by kernel_rfl) (by kernel_rfl) (fun _ _ _ h => h) (Or.inl ⟨by rfl, ?_⟩) hHeld ?_
      rotate_left 1
      · (intro W hSw; (try dsimp only at hSw); go_simp; try with_reducible rfl)
      try simp only [Act.put, List.setIfInBounds_toArray, List.set_cons_zero, List.set_cons_succ]
      refine wpAnyH_take (i := 10) (oi := ⟨_, _, _, _, _, _⟩) (v := ?_) rfl (by kernel_rfl) (by kernel_rfl) (by kernel_rfl) (fun _ _ _ h => h) (Or.inl ⟨by rfl, ?_⟩) hHeld ?_
      rotate_left 1
      · (intro W hSw; (try dsimp only at hSw); go_simp; try with_reducible rfl)
      try simp only [Act.put, List.setIfInBounds_toArray, List.set_cons_zero, List.set_cons_succ]
      refine wpAnyH_done (by kernel_rfl) ?_ _
      refine NoPanic.normal ?_
    all_goals
      replace hHeld : Below w.heap.size w w3 := hHeld
      clear hH hZ0 hgh hwd hg3
      go_upto_region 7 with (go_at_call 12; refine (records_e _ (HT.out.below hHeld)).mono ?_; rintro e w4 ⟨rfl, hb4⟩)
      replace hB3 := hB3.below hb4
      replace hHeld := hHeld.trans (hb4.mono hHeld.size)
      clear hb4 ht1 ht2 hd
      go_upto_region 8 with (first
        | (go_at_call 14; refine (HKN.out _ (HT.out.below hHeld)).mono ?_; rintro e w5 ⟨gj, gy, gl, gq, rfl, hgj, hgy, hJ, hb5⟩; replace hB3 := hB3.below hb5)
        | (go_at_call 11; refine (HOP.out w5 gj gy gl gq A3 c3 hJ (hB3.toIn (Nat.le_refl _))).mono ?_; rintro e w6 ⟨A6, c6, rfl, hi6, hg6⟩))
      have hb6 := below_new (hHeld.trans (hb5.mono hHeld.size)) hg6 (Nat.le_trans hHeld.size hgj) (Nat.le_trans hHeld.size hb5.size)
      clear hb5 hg6 hgj hgy hJ hB3 hi6 hHeld
      go_wp2
      go_ret
      exact ⟨rfl, hb6⟩
end Go.Proofs.YtceenlmidlmmgaaDoor
