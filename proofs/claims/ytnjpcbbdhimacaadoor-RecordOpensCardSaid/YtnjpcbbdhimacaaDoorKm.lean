/-
 Joined: Gtn, Gtg.
-/
import Derived.Test.YtnjpcbbdhimacaaDoorKl
import Derived.Test.YtnjpcbbdhimacaaDoorKi
namespace Go.Proofs.YtnjpcbbdhimacaaDoor
section
open Go.RowKit
theorem refSeal_at (n : Nat) (hn : n = 4 ∨ n = 8) (key b : List UInt8) (hl : key.length = 4 * n) (hb : b.length = 16) (w : World) :
  Calls Tryd.prog 69 #[.string ⟨key.toArray⟩, BV b] w fun e w' => e = .returned (BV (sealS (keyL n key) (n + 7) b)) ∧ Below w.heap.size w w' := by
 rw [← seal_out n key b hb]
 exact refSeal_out n hn key b hl hb w
theorem take_next (X : List UInt8) (k : Nat) (hk : k < X.length) : X.take (k + 1) = X.take k ++ [X.getD k 0] := by
 rw [List.take_succ_eq_append_getElem hk, List.getD_eq_getElem?_getD, List.getElem?_eq_getElem hk]; rfl
theorem ix_t (k j : Nat) (hj : j = k % 16) (hk : k < 1000000) : (k : Int).tmod 16 = (j : Int) ∧ (k : Int) % 16 = (j : Int) ∧ IntKind.i64.wrap (j : Int) = (j : Int) ∧ (0 : Int) ≤ (j : Int) ∧ (j : Int) < 16 ∧ (0 : Int) ≤ (k : Int) ∧ j < 16 := by
 subst hj
 refine ⟨?_, ?_, ?_, ?_, ?_, ?_, ?_⟩ <;> first | (rw [IntKind.wrap_i64]; omega) | (rw [Int.tmod_eq_emod_of_nonneg (by omega)]; omega) | omega

set_option maxRecDepth 100000 in
set_option maxHeartbeats 1000000 in
theorem turn_e (n m : Nat) (hn : n = 4 ∨ n = 8) (key N S : List UInt8) (w : World) (hl : key.length = 4 * n) (hN : N.length = 12) (hS : S.length = m) (hm : m < 1000000) :
  Calls Tryd.prog 42 #[.string ⟨key.toArray⟩, BV N, .string ⟨S.toArray⟩] w fun e w' => e = .returned (.string ⟨(maskE (keyL n key) (n + 7) N S).toArray⟩) ∧ Below w.heap.size w w' := by
 have kse := fun (W : World) (b : List UInt8) (hb : b.length = 16) => refSeal_at n hn key b hl hb W
 have ksl := fun (b : List UInt8) => sealS_length (keyL n key) (n + 7) b
 have kco := fun (W : World) (q : Nat) (hq : q < 4294967296) => counter_e q N W hN hq
 have xl := maskE_length (keyL n key) (n + 7) N S
 have xg : ∀ k, k < m → (maskE (keyL n key) (n + 7) N S).getD k 0 = S.getD k 0 ^^^ (sealS (keyL n key) (n + 7) (ctrE N (2 + k / 16))).getD (k % 16) 0 := fun k hk => by rw [maskE_get _ _ _ _ k (by omega)]; rfl
 rw [hS] at xl
 generalize maskE (keyL n key) (n + 7) N S = X at *
 generalize keyL n key = L at *
 generalize n + 7 = R at *
 have hz : ∀ W : World, (zeroValue 56).run Tryd.prog W = .ok (BV zero16) W := fun W => by kernel_rfl
 obtain ⟨Z, hZ⟩ : ∃ Z, Z = zero16 := ⟨_, rfl⟩
 have HZL := Lib.hid (show Z.length = 16 by rw [hZ]; rfl)
 rw [← hZ] at hz
 have HSE := Lib.hid kse
 have HCO := Lib.hid kco
 have HSL4 := Lib.hid ksl
 have HXL := Lib.hid xl
 have HXA := Lib.hid xg
 have HSL := Lib.hid hS
 have HN := Lib.hid hN
 have HM := Lib.hid hm
 have hlen : (S.length : Int) = (m : Int) := by omega
 clear kse kco ksl xl xg hS hN hm hl hZ hn
 go_enter Tryd.func42, Tryd.ntmps42
 go_wp2
 clear hz
 have hNb : Blk ((w.alloc (.cells (N.map B8).toArray 48)).alloc (.cells (Z.map B8).toArray 56)) w.heap.size 48 (N.map B8) := (Blk.new_of w 48 _ (N.map B8) rfl).alloc _
 have hP := Blk.new2_of w (.cells (N.map B8).toArray 48) 56 (Z.map B8).toArray (Z.map B8) rfl
 have hbw := ((Below.refl w.heap.size w).alloc (Nat.le_refl _) (.cells (N.map B8).toArray 48)).alloc (by simp) (.cells (Z.map B8).toArray 56)
 have hz1 : ((w.alloc (.cells (N.map B8).toArray 48)).alloc (.cells (Z.map B8).toArray 56)).heap.size = w.heap.size + 1 + 1 := by simp
 have hgp : w.heap.size + 1 < w.heap.size + 1 + 1 := by omega
 have hgn : w.heap.size < w.heap.size + 1 + 1 := by omega
 have hgq : w.heap.size ≤ w.heap.size + 1 := by omega
 have hgw : w.heap.size ≠ w.heap.size + 1 := by omega
 rw [← hz1] at hgp hgn
 generalize w.heap.size + 1 = gp at *
 generalize (w.alloc (.cells (N.map B8).toArray 48)).alloc (.cells (Z.map B8).toArray 56) = w1 at *
 clear hz1
 go_loopw [7, 9] (fun v i wr => ∃ (k c : Nat) (A : Option Addr) (P : List UInt8), k ≤ m ∧ i = .int .i64 (k : Int) ∧ v = .slice A k c ∧ Buf wr w1.heap.size A k c (X.take k) ∧ Blk wr gp 56 (P.map B8) ∧ Blk wr w.heap.size 48 (N.map B8) ∧ Below w.heap.size w wr ∧ w1.heap.size ≤ wr.heap.size ∧ Hid (P.length = 16 ∧ (k % 16 ≠ 0 → P = sealS L R (ctrE N (2 + k / 16))))) (fun _ i _ => m - (intOf i).toNat)
 case atStart => exact ⟨0, 0, none, Z, by omega, rfl, rfl, by simpa using Buf.nil w1 w1.heap.size, hP, hNb, hbw, Nat.le_refl _, ⟨HZL.out, fun h => absurd rfl h⟩⟩
 case round =>
  clear hP hNb hbw
  obtain ⟨k, c, A, P, hk, rfl, rfl, hB, hP, hNb, hbw, hz2, HPP⟩ := hrel
  by_cases hlt : k < m
  ·
   have hd : decide ((k : Int) < (m : Int)) = true := by simp; omega
   obtain ⟨j, hj⟩ : ∃ j, j = k % 16 := ⟨_, rfl⟩
   obtain ⟨q, hq⟩ : ∃ q, q = k / 16 := ⟨_, rfl⟩
   have HJX := Lib.hid (ix_t k j hj (by have := HM.out; omega))
   have hj16 : j < 16 := by omega
   have HXG := Lib.hid (HXA.out k hlt)
   rw [← hj, ← hq] at HXG
   have hkm : (k : Int) < (m : Int) := by omega
   by_cases h0 : k % 16 = 0
   ·
    have HP16 := Lib.hid (HSL4.out (ctrE N (2 + q)))
    obtain ⟨r, hr⟩ : ∃ r, r = 2 + q := ⟨_, rfl⟩
    have HR := Lib.hid hr
    have hr2 : (2 : Int) + (q : Int) = (r : Int) := by omega
    have hr3 : r < 2000000 := by have := HM.out; omega
    have hr4 : (k : Int).tdiv 16 = (q : Int) := by rw [Int.tdiv_eq_ediv_of_nonneg (by omega)]; omega
    have hr5 : (k : Int) / 16 = (q : Int) := by omega
    have hr6 : (k : Int).tmod 16 = 0 := by rw [Int.tmod_eq_emod_of_nonneg (by omega)]; omega
    have hr7 : (k : Int) % 16 = 0 := by omega
    have HRB := Lib.hid (show r < 4294967296 by have := HM.out; omega)
    have HPL := Lib.hid HPP.out.1
    have HJ := Lib.hid (And.intro hj hq)
    have HH0 := Lib.hid h0
    rw [← hr] at HXG HP16
    clear hj hq h0 hr HPP
    go_upto_region 8 with (first
     | ((with_reducible refine (?_ : wpList _ _ _ (Oper.mk (some 20) _ _ _ _ _ :: _) _ _)); go_loud (refine wpList_load_blk rfl 48 (.tmp 4) rfl (w.heap.size) rfl 48 _ _ hNb Tryd.underlying48 rfl (info12.trans (by rw [List.length_map, HN.out])) ?_))
     | (go_at_call 70; go_loud (refine (HCO.out _ _ HRB.out).mono ?_); rintro e w2 ⟨rfl, hb2⟩; replace hB := hB.below hb2; replace hP := hP.below hb2 hP.lt; replace hNb := hNb.below hb2 hNb.lt; replace hbw := hbw.trans (hb2.mono hbw.size); replace hz2 := Nat.le_trans hz2 hb2.size; clear hb2)
     | (go_at_call 69; go_loud (refine (HSE.out _ (ctrE N r) (ctrTo_length _ _ _)).mono ?_); rintro e w3 ⟨rfl, hb3⟩; replace hB := hB.below hb3; replace hP := hP.below hb3 hP.lt; replace hNb := hNb.below hb3 hNb.lt; replace hbw := hbw.trans (hb3.mono hbw.size); replace hz2 := Nat.le_trans hz2 hb3.size; clear hb3)
     | ((with_reducible refine (?_ : wpList _ _ _ (Oper.mk none (.store 56 (.tmp 8) _) _ _ _ _ :: _) _ _)); go_loud (refine wpList_store_blk rfl 56 (.tmp 8) (.tmp 25) rfl rfl (gp) _ rfl rfl 56 _ hP (infoBk.trans (by rw [List.length_map, HP16.out])) (by rw [List.length_map, List.length_map, HP16.out, HPL.out]) (one8 _) ?_); intro w7 hR7 hg7))
    replace hB := hB.kept hg7 (fun g e => by have := (hB.lt e).1; simp; omega)
    replace hNb := hNb.grown hg7 (by simpa using hgw)
    replace hbw := below_new hbw hg7 hgq hbw.size
    replace hz2 := Nat.le_trans hz2 hg7.size
    clear hP hr2 hr3 hr4 hr5 hr6 hr7 hg7
    obtain ⟨P, hP2⟩ : ∃ P, P = sealS L R (ctrE N r) := ⟨_, rfl⟩
    rw [← hP2] at hR7 HXG HP16
    have hP := hR7
    rw [HR.out] at hP2
    have HP2 := Lib.hid hP2
    clear hR7 hP2
    obtain ⟨f1, f2, f3, f4, f5, f6, f7⟩ := HJX.out
    have HTK := Lib.hid (take_next X k (by rw [HXL.out]; omega))
    have hcell : ∀ W, Below w1.heap.size w7 W → W.cell? ⟨gp, j, none⟩ = some (.int .u8 ((P.getD j 0).toNat : Int)) := (fun W hb => (hP.below hb hgp).at8 j (by rw [HP16.out]; exact hj16))
    have hxx := b_xor (S.getD k 0) (P.getD j 0)
    rw [← HXG.out] at hxx
    have hks : k < S.length := by rw [HSL.out]; exact hlt
    have hkx : (⟨S.toArray⟩ : ByteArray)[k]'(show k < S.length from hks) = S.getD k 0 := by
     show S.toArray[k] = _
     simp [List.getD_eq_getElem?_getD, List.getElem?_eq_getElem hks]
    have hB0 := hB.drew
    have HPH := Lib.hid (And.intro hP hNb)
    have hzb := hbw.size
    clear hB HXG hP hNb
    generalize X.getD k 0 = x at *
    generalize P.getD j 0 = y at *
    generalize S.getD k 0 = s at *
    go_wp2
    refine wp_region_noPanic ?_
    refine wp_region_held_drew (S := fun W => W.cell? ⟨gp, j, none⟩ = some (.int .u8 (y.toNat : Int)) ∧ Below w1.heap.size w7 W) (by kernel_rfl) ⟨hcell _ (below_drewN (Below.refl _ _) 1), below_drewN (Below.refl _ _) 1⟩ (fun hHeld => ?_)
    try simp only [Act.put, List.setIfInBounds_toArray, List.set_cons_zero, List.set_cons_succ]
    refine wpAnyH_take (i := 0) (oi := ⟨_, _, _, _, _, _⟩) (v := ?_) rfl (by kernel_rfl) (by kernel_rfl) (by kernel_rfl) (fun _ _ _ h => h) (Or.inl ⟨by rfl, ?_⟩) hHeld ?_
    rotate_left 1
    ·
     (intro W hSw; (try dsimp only at hSw); obtain ⟨s1, s2⟩ := hSw; go_simp; try with_reducible rfl)
    try simp only [Act.put, List.setIfInBounds_toArray, List.set_cons_zero, List.set_cons_succ]
    refine wpAnyH_take (i := 1) (oi := ⟨_, _, _, _, _, _⟩) (v := ?_) rfl (by kernel_rfl) (by kernel_rfl) (by kernel_rfl) (fun _ _ _ h => h) (Or.inl ⟨by rfl, ?_⟩) hHeld ?_
    rotate_left 1
    ·
     (intro W hSw; (try dsimp only at hSw); obtain ⟨s1, s2⟩ := hSw; go_simp; try with_reducible rfl)
    try simp only [Act.put, List.setIfInBounds_toArray, List.set_cons_zero, List.set_cons_succ]
    refine wpAnyH_take (i := 2) (oi := ⟨_, _, _, _, _, _⟩) (v := ?_) rfl (by kernel_rfl) (by kernel_rfl) (by kernel_rfl) (fun _ _ _ h => h) (Or.inl ⟨by rfl, ?_⟩) hHeld ?_
    rotate_left 1
    ·
     (intro W hSw; (try dsimp only at hSw); obtain ⟨s1, s2⟩ := hSw; go_simp; try with_reducible rfl)
    try simp only [Act.put, List.setIfInBounds_toArray, List.set_cons_zero, List.set_cons_succ]
    refine wpAnyH_take (i := 3) (oi := ⟨_, _, _, _, _, _⟩) (v := ?_) rfl (by kernel_rfl) (by kernel_rfl) (by kernel_rfl) (fun _ _ _ h => h) (Or.inl ⟨by rfl, ?_⟩) hHeld ?_
    rotate_left 1
    ·
     (intro W hSw; (try dsimp only at hSw); obtain ⟨s1, s2⟩ := hSw; go_simp; try with_reducible rfl)
    try simp only [Act.put, List.setIfInBounds_toArray, List.set_cons_zero, List.set_cons_succ]
    refine wpAnyH_take (i := 4) (oi := ⟨_, _, _, _, _, _⟩) (v := ?_) rfl (by kernel_rfl) (by kernel_rfl) (by kernel_rfl) (fun _ _ _ h => h) (Or.inl ⟨by rfl, ?_⟩) hHeld ?_
    rotate_left 1
    ·
     (intro W hSw; (try dsimp only at hSw); obtain ⟨s1, s2⟩ := hSw; go_simp; try with_reducible rfl)
    try simp only [Act.put, List.setIfInBounds_toArray, List.set_cons_zero, List.set_cons_succ]
    refine wpAnyH_take (i := 5) (oi := ⟨_, _, _, _, _, _⟩) (v := ?_) rfl (by kernel_rfl) (by kernel_rfl) (by kernel_rfl) (fun _ _ _ h => h) (Or.inl ⟨by rfl, ?_⟩) hHeld ?_
    rotate_left 1
    ·
     (intro W hSw; (try dsimp only at hSw); obtain ⟨s1, s2⟩ := hSw; go_simp; try with_reducible rfl)
    try simp only [Act.put, List.setIfInBounds_toArray, List.set_cons_zero, List.set_cons_succ]
    refine wpAnyH_take (i := 6) (oi := ⟨_, _, _, _, _, _⟩) (v := ?_) rfl (by kernel_rfl) (by kernel_rfl) (by kernel_rfl) (fun _ _ _ h => h) (Or.inl ⟨by rfl, ?_⟩) hHeld ?_
    rotate_left 1
    ·
     (intro W hSw; (try dsimp only at hSw); obtain ⟨s1, s2⟩ := hSw; go_simp; try with_reducible rfl)
    try simp only [Act.put, List.setIfInBounds_toArray, List.set_cons_zero, List.set_cons_succ]
    refine wpAnyH_take (i := 7) (oi := ⟨_, _, _, _, _, _⟩) (v := ?_) rfl (by kernel_rfl) (by kernel_rfl) (by kernel_rfl) (fun _ _ _ h => h) (Or.inl ⟨by rfl, ?_⟩) hHeld ?_
    rotate_left 1
    ·
     (intro W hSw; (try dsimp only at hSw); obtain ⟨s1, s2⟩ := hSw; go_simp; try with_reducible rfl)
    try simp only [Act.put, List.setIfInBounds_toArray, List.set_cons_zero, List.set_cons_succ]
    refine wpAnyH_take (i := 8) (oi := ⟨_, _, _, _, _, _⟩) (v := ?_) rfl (by kernel_rfl) (by kernel_rfl) (by kernel_rfl) (fun _ _ _ h => h) (Or.inl ⟨by rfl, ?_⟩) hHeld ?_
    rotate_left 1
    ·
     (intro W hSw; (try dsimp only at hSw); obtain ⟨s1, s2⟩ := hSw; go_simp; try with_reducible rfl)
    try simp only [Act.put, List.setIfInBounds_toArray, List.set_cons_zero, List.set_cons_succ]
    refine wpAnyH_ready (rs := [9]) (by kernel_rfl) (by simp) ?_
    refine AllReadyH.cons (o := ⟨_, _, _, _, _, _⟩) rfl (fun K hK => ?_) AllReadyH.nil
    go_simp
    refine hK.out _ _ ⟨hcell _ (hHeld.2.alloc hz2 _), hHeld.2.alloc hz2 _⟩ (fun hHeld => ?_)
    clear hK K
    try simp only [Act.put, List.setIfInBounds_toArray, List.set_cons_zero, List.set_cons_succ]
    refine wpAnyH_ready (rs := [10]) (by kernel_rfl) (by simp) ?_
    refine AllReadyH.cons (o := ⟨_, _, _, _, _, _⟩) rfl (fun K hK => ?_) AllReadyH.nil
    refine step_append_keep (by rfl) (.tmp 26) (.tmp 35) 24 rfl w1.heap.size A k c (X.take k) [x] _ rfl (hB0.alloc _) rfl (src_byte (new_cell _ _ _)) (by have := HM.out; simp; omega) (by simp; omega) (k + 1) (by simp) ?_
    intro A3 c3 w3 hB3 hg3 _
    have hbz := below_own hHeld.2 (hB0.alloc _) hg3 (Nat.le_refl _) (by simp; omega)
    refine hK.out _ _ ⟨hcell _ hbz, hbz⟩ (fun hHeld => ?_)
    clear hK K hbz hg3
    try simp only [Act.put, List.setIfInBounds_toArray, List.set_cons_zero, List.set_cons_succ]
    refine wpAnyH_take (i := 11) (oi := ⟨_, _, _, _, _, _⟩) (v := ?_) rfl (by kernel_rfl) (by kernel_rfl) (by kernel_rfl) (fun _ _ _ h => h) (Or.inl ⟨by rfl, ?_⟩) hHeld ?_
    rotate_left 1
    ·
     (intro W hSw; (try dsimp only at hSw); obtain ⟨s1, s2⟩ := hSw; go_simp; try with_reducible rfl)
    try simp only [Act.put, List.setIfInBounds_toArray, List.set_cons_zero, List.set_cons_succ]
    refine wpAnyH_done (by kernel_rfl) ?_ _
    refine NoPanic.normal ?_
    have hfin := hHeld.2
    clear hHeld hcell hB0 hxx hkx f1 f2 f3 f4 f5 f7
    have hmm := HM.out
    go_wp2
    go_roundw
    case rel =>
     refine ⟨k + 1, c3, A3, P, by omega, by go_num, rfl, by rw [HTK.out]; exact hB3, HPH.out.1.below hfin hgp, HPH.out.2.below hfin hgn, hbw.trans (hfin.mono (by omega)), Nat.le_trans hz2 hfin.size, ⟨HP16.out, fun h => ?_⟩⟩
     rw [show (k + 1) / 16 = q by have := HJ.out; omega]
     exact HP2.out
    case measure => simp [intOf]; omega
   ·
    have hP2 := HPP.out.2 h0
    have HP16 := Lib.hid HPP.out.1
    rw [← hq] at hP2
    rw [← hP2] at HXG
    have hj0 : ¬ (j : Int) = 0 := by omega
    have HP2 := Lib.hid hP2
    have HJ := Lib.hid (And.intro hj hq)
    have HH0 := Lib.hid h0
    clear hP2 HPP hj hq h0
    obtain ⟨f1, f2, f3, f4, f5, f6, f7⟩ := HJX.out
    have HTK := Lib.hid (take_next X k (by rw [HXL.out]; omega))
    have hcell : ∀ W, Below w1.heap.size wr W → W.cell? ⟨gp, j, none⟩ = some (.int .u8 ((P.getD j 0).toNat : Int)) := (fun W hb => (hP.below hb hgp).at8 j (by rw [HP16.out]; exact hj16))
    have hxx := b_xor (S.getD k 0) (P.getD j 0)
    rw [← HXG.out] at hxx
    have hks : k < S.length := by rw [HSL.out]; exact hlt
    have hkx : (⟨S.toArray⟩ : ByteArray)[k]'(show k < S.length from hks) = S.getD k 0 := by
     show S.toArray[k] = _
     simp [List.getD_eq_getElem?_getD, List.getElem?_eq_getElem hks]
    have hB0 := hB.drew
    have HPH := Lib.hid (And.intro hP hNb)
    have hzb := hbw.size
    clear hB HXG hP hNb
    generalize X.getD k 0 = x at *
    generalize P.getD j 0 = y at *
    generalize S.getD k 0 = s at *
    go_wp2
    refine wp_region_noPanic ?_
    refine wp_region_held_drew (S := fun W => W.cell? ⟨gp, j, none⟩ = some (.int .u8 (y.toNat : Int)) ∧ Below w1.heap.size wr W) (by kernel_rfl) ⟨hcell _ (below_drewN (Below.refl _ _) 1), below_drewN (Below.refl _ _) 1⟩ (fun hHeld => ?_)
    try simp only [Act.put, List.setIfInBounds_toArray, List.set_cons_zero, List.set_cons_succ]
    refine wpAnyH_take (i := 0) (oi := ⟨_, _, _, _, _, _⟩) (v := ?_) rfl (by kernel_rfl) (by kernel_rfl) (by kernel_rfl) (fun _ _ _ h => h) (Or.inl ⟨by rfl, ?_⟩) hHeld ?_
    rotate_left 1
    ·
     (intro W hSw; (try dsimp only at hSw); obtain ⟨s1, s2⟩ := hSw; go_simp; try with_reducible rfl)
    try simp only [Act.put, List.setIfInBounds_toArray, List.set_cons_zero, List.set_cons_succ]
    refine wpAnyH_take (i := 1) (oi := ⟨_, _, _, _, _, _⟩) (v := ?_) rfl (by kernel_rfl) (by kernel_rfl) (by kernel_rfl) (fun _ _ _ h => h) (Or.inl ⟨by rfl, ?_⟩) hHeld ?_
    rotate_left 1
    ·
     (intro W hSw; (try dsimp only at hSw); obtain ⟨s1, s2⟩ := hSw; go_simp; try with_reducible rfl)
    try simp only [Act.put, List.setIfInBounds_toArray, List.set_cons_zero, List.set_cons_succ]
    refine wpAnyH_take (i := 2) (oi := ⟨_, _, _, _, _, _⟩) (v := ?_) rfl (by kernel_rfl) (by kernel_rfl) (by kernel_rfl) (fun _ _ _ h => h) (Or.inl ⟨by rfl, ?_⟩) hHeld ?_
    rotate_left 1
    ·
     (intro W hSw; (try dsimp only at hSw); obtain ⟨s1, s2⟩ := hSw; go_simp; try with_reducible rfl)
    try simp only [Act.put, List.setIfInBounds_toArray, List.set_cons_zero, List.set_cons_succ]
    refine wpAnyH_take (i := 3) (oi := ⟨_, _, _, _, _, _⟩) (v := ?_) rfl (by kernel_rfl) (by kernel_rfl) (by kernel_rfl) (fun _ _ _ h => h) (Or.inl ⟨by rfl, ?_⟩) hHeld ?_
    rotate_left 1
    ·
     (intro W hSw; (try dsimp only at hSw); obtain ⟨s1, s2⟩ := hSw; go_simp; try with_reducible rfl)
    try simp only [Act.put, List.setIfInBounds_toArray, List.set_cons_zero, List.set_cons_succ]
    refine wpAnyH_take (i := 4) (oi := ⟨_, _, _, _, _, _⟩) (v := ?_) rfl (by kernel_rfl) (by kernel_rfl) (by kernel_rfl) (fun _ _ _ h => h) (Or.inl ⟨by rfl, ?_⟩) hHeld ?_
    rotate_left 1
    ·
     (intro W hSw; (try dsimp only at hSw); obtain ⟨s1, s2⟩ := hSw; go_simp; try with_reducible rfl)
    try simp only [Act.put, List.setIfInBounds_toArray, List.set_cons_zero, List.set_cons_succ]
    refine wpAnyH_take (i := 5) (oi := ⟨_, _, _, _, _, _⟩) (v := ?_) rfl (by kernel_rfl) (by kernel_rfl) (by kernel_rfl) (fun _ _ _ h => h) (Or.inl ⟨by rfl, ?_⟩) hHeld ?_
    rotate_left 1
    ·
     (intro W hSw; (try dsimp only at hSw); obtain ⟨s1, s2⟩ := hSw; go_simp; try with_reducible rfl)
    try simp only [Act.put, List.setIfInBounds_toArray, List.set_cons_zero, List.set_cons_succ]
    refine wpAnyH_take (i := 6) (oi := ⟨_, _, _, _, _, _⟩) (v := ?_) rfl (by kernel_rfl) (by kernel_rfl) (by kernel_rfl) (fun _ _ _ h => h) (Or.inl ⟨by rfl, ?_⟩) hHeld ?_
    rotate_left 1
    ·
     (intro W hSw; (try dsimp only at hSw); obtain ⟨s1, s2⟩ := hSw; go_simp; try with_reducible rfl)
    try simp only [Act.put, List.setIfInBounds_toArray, List.set_cons_zero, List.set_cons_succ]
    refine wpAnyH_take (i := 7) (oi := ⟨_, _, _, _, _, _⟩) (v := ?_) rfl (by kernel_rfl) (by kernel_rfl) (by kernel_rfl) (fun _ _ _ h => h) (Or.inl ⟨by rfl, ?_⟩) hHeld ?_
    rotate_left 1
    ·
     (intro W hSw; (try dsimp only at hSw); obtain ⟨s1, s2⟩ := hSw; go_simp; try with_reducible rfl)
    try simp only [Act.put, List.setIfInBounds_toArray, List.set_cons_zero, List.set_cons_succ]
    refine wpAnyH_take (i := 8) (oi := ⟨_, _, _, _, _, _⟩) (v := ?_) rfl (by kernel_rfl) (by kernel_rfl) (by kernel_rfl) (fun _ _ _ h => h) (Or.inl ⟨by rfl, ?_⟩) hHeld ?_
    rotate_left 1
    ·
     (intro W hSw; (try dsimp only at hSw); obtain ⟨s1, s2⟩ := hSw; go_simp; try with_reducible rfl)
    try simp only [Act.put, List.setIfInBounds_toArray, List.set_cons_zero, List.set_cons_succ]
    refine wpAnyH_ready (rs := [9]) (by kernel_rfl) (by simp) ?_
    refine AllReadyH.cons (o := ⟨_, _, _, _, _, _⟩) rfl (fun K hK => ?_) AllReadyH.nil
    go_simp
    refine hK.out _ _ ⟨hcell _ (hHeld.2.alloc hz2 _), hHeld.2.alloc hz2 _⟩ (fun hHeld => ?_)
    clear hK K
    try simp only [Act.put, List.setIfInBounds_toArray, List.set_cons_zero, List.set_cons_succ]
    refine wpAnyH_ready (rs := [10]) (by kernel_rfl) (by simp) ?_
    refine AllReadyH.cons (o := ⟨_, _, _, _, _, _⟩) rfl (fun K hK => ?_) AllReadyH.nil
    refine step_append_keep (by rfl) (.tmp 26) (.tmp 35) 24 rfl w1.heap.size A k c (X.take k) [x] _ rfl (hB0.alloc _) rfl (src_byte (new_cell _ _ _)) (by have := HM.out; simp; omega) (by simp; omega) (k + 1) (by simp) ?_
    intro A3 c3 w3 hB3 hg3 _
    have hbz := below_own hHeld.2 (hB0.alloc _) hg3 (Nat.le_refl _) (by simp; omega)
    refine hK.out _ _ ⟨hcell _ hbz, hbz⟩ (fun hHeld => ?_)
    clear hK K hbz hg3
    try simp only [Act.put, List.setIfInBounds_toArray, List.set_cons_zero, List.set_cons_succ]
    refine wpAnyH_take (i := 11) (oi := ⟨_, _, _, _, _, _⟩) (v := ?_) rfl (by kernel_rfl) (by kernel_rfl) (by kernel_rfl) (fun _ _ _ h => h) (Or.inl ⟨by rfl, ?_⟩) hHeld ?_
    rotate_left 1
    ·
     (intro W hSw; (try dsimp only at hSw); obtain ⟨s1, s2⟩ := hSw; go_simp; try with_reducible rfl)
    try simp only [Act.put, List.setIfInBounds_toArray, List.set_cons_zero, List.set_cons_succ]
    refine wpAnyH_done (by kernel_rfl) ?_ _
    refine NoPanic.normal ?_
    have hfin := hHeld.2
    clear hHeld hcell hB0 hxx hkx f1 f2 f3 f4 f5 f7
    have hmm := HM.out
    go_wp2
    go_roundw
    case rel =>
     refine ⟨k + 1, c3, A3, P, by omega, by go_num, rfl, by rw [HTK.out]; exact hB3, HPH.out.1.below hfin hgp, HPH.out.2.below hfin hgn, hbw.trans (hfin.mono (by omega)), Nat.le_trans hz2 hfin.size, ⟨HP16.out, fun h => ?_⟩⟩
     rw [show (k + 1) / 16 = q by have := HJ.out; omega]
     exact HP2.out
    case measure => simp [intOf]; omega
  ·
   have hd : decide ((k : Int) < (m : Int)) = false := by simp; omega
   obtain rfl : k = m := by omega
   rw [List.take_of_length_le (by rw [HXL.out]; exact Nat.le_refl _)] at hB
   have hcv := conv_in HXL.out (hB.toIn (Nat.le_refl _))
   clear hP hNb hB HPP
   go_wp2
   go_ret
   exact ⟨rfl, hbw⟩

end
section
open Go.RowKit
theorem sin3 {w : World} (t : TypeId) (a b c : List UInt8) :
  SIn (w.alloc (.cells #[.string ⟨a.toArray⟩, .string ⟨b.toArray⟩, .string ⟨c.toArray⟩] t)) (w.alloc (.cells #[.string ⟨a.toArray⟩, .string ⟨b.toArray⟩, .string ⟨c.toArray⟩] t)).heap.size (some ⟨w.heap.size, 0, none⟩) 3 [a, b, c] := by
 have hC := Blk.new_of w t #[.string ⟨a.toArray⟩, .string ⟨b.toArray⟩, .string ⟨c.toArray⟩] _ rfl
 refine ⟨by simp, by omega, fun _ => ⟨w.heap.size, 0, rfl, by simp, fun j hj => ?_⟩⟩
 obtain rfl | rfl | rfl : j = 0 ∨ j = 1 ∨ j = 2 := by have : j < 3 := hj; omega
 ·
  exact hC.cell 0
 ·
  exact hC.cell 1
 ·
  exact hC.cell 2
theorem cnt_two (a b : List UInt8) : cntE [a, b] = be8 (a.length * 8) ++ be8 (b.length * 8) := by simp [cntE]

set_option maxRecDepth 100000 in
set_option maxHeartbeats 1000000 in
theorem rtag_e (n nh nb : Nat) (hn : n = 4 ∨ n = 8) (key N hid bes : List UInt8) (w : World) (hl : key.length = 4 * n) (hN : N.length = 12) (lh : hid.length = nh) (lb : bes.length = nb) (hh : nh < 1000000) (hb : nb < 1000000) :
  Calls Tryd.prog 43 #[.string ⟨key.toArray⟩, BV N, .string ⟨hid.toArray⟩, .string ⟨bes.toArray⟩] w fun e w' => e = .returned (.string ⟨(tagE (keyL n key) (n + 7) N hid bes).toArray⟩) ∧ Below w.heap.size w w' := by
 have kse := fun (W : World) (b : List UInt8) (hb : b.length = 16) => refSeal_at n hn key b hl hb W
 have kco : ∀ W : World, Calls Tryd.prog 70 #[BV N, .int .i64 1] W fun e w' => e = .returned (BV (ctrE N 1)) ∧ Below W.heap.size W w' := fun (W : World) => counter_e 1 N W hN (by decide)
 have k8h := fun (W : World) => eight_e nh W hh
 have k8b := fun (W : World) => eight_e nb W hb
 generalize keyL n key = L at *
 generalize n + 7 = R at *
 have hcl := sealS_length L R (ctrE N 1)
 have hkl := sealS_length L R zero16
 have hxg := fun i (hi : i < 16) => putE_get (sumE_length L R hid bes) hcl i hi
 have hxl := tagE_length L R N hid bes
 have hsl := sumE_length L R hid bes
 obtain ⟨X, hX⟩ : ∃ X, X = tagE L R N hid bes := ⟨_, rfl⟩
 rw [← hX] at hxl ⊢
 rw [show putE (sumE L R hid bes) (sealS L R (ctrE N 1)) = X from hX.symm] at hxg
 have hfo := fun (W : World) (A : Option Addr) (c : Nat) (h : SIn W W.heap.size A c [bes, hid, cntE [bes, hid]]) => refFold_e (sealS L R zero16) A c [bes, hid, cntE [bes, hid]] W hkl h (fun k hk => by
  obtain rfl | rfl | rfl : k = 0 ∨ k = 1 ∨ k = 2 := by have : k < 3 := hk; omega
  ·
   show bes.length < _; omega
  ·
   show hid.length < _; omega
  ·
   show (cntE [bes, hid]).length < _; rw [cntE_length]; show 8 * 2 < _; omega)
 rw [show gFold (sealS L R zero16) [bes, hid, cntE [bes, hid]] = sumE L R hid bes from rfl] at hfo
 have hct := cnt_two bes hid
 rw [lb, lh] at hct
 have hap : (⟨(be8 (nb * 8)).toArray⟩ ++ ⟨(be8 (nh * 8)).toArray⟩ : ByteArray) = ⟨(cntE [bes, hid]).toArray⟩ := by rw [bytes_append, hct]
 have kcz := ctrTo_length N 1 4
 have he8 := be8_length (nb * 8)
 have hf8 := be8_length (nh * 8)
 have ksz := kse w zero16 rfl
 have kse0 := fun (W : World) => kse W zero16 rfl
 have kse1 := fun (W : World) => kse W (ctrE N 1) kcz
 generalize sealS L R (ctrE N 1) = C at *
 generalize sealS L R zero16 = K at *
 generalize sumE L R hid bes = S at *
 generalize cntE [bes, hid] = T at *
 generalize ctrE N 1 = D at *
 generalize be8 (nb * 8) = E8 at *
 generalize be8 (nh * 8) = F8 at *
 have hlb : (bes.length : Int) = (nb : Int) := by omega
 have hlh : (hid.length : Int) = (nh : Int) := by omega
 have hz : ∀ W : World, (zeroValue 56).run Tryd.prog W = .ok (BV zero16) W := fun W => by kernel_rfl
 obtain ⟨Z, hZ⟩ : ∃ Z, Z = zero16 := ⟨_, rfl⟩
 have HZL := Lib.hid (show Z.length = 16 by rw [hZ]; rfl)
 rw [← hZ] at hz
 rw [← hZ] at kse0
 have HS0 := Lib.hid kse0
 have HS1 := Lib.hid kse1
 have HCO := Lib.hid kco
 have H8H := Lib.hid k8h
 have H8B := Lib.hid k8b
 have HFO := Lib.hid hfo
 have HCL := Lib.hid hcl
 have HXL := Lib.hid hxl
 have HXG := Lib.hid hxg
 have HSL := Lib.hid hsl
 have HN := Lib.hid hN
 clear kse kco k8h k8b hcl hkl hxg hxl hsl hX hfo hct kcz ksz kse0 kse1 hN hl hn hh hb lh lb hZ
 have hzz := HZL.out
 go_enter Tryd.func43, Tryd.ntmps43
 have hA := Blk.new_of w 48 _ (N.map B8) rfl
 have hbw : Below w.heap.size w (w.alloc (.cells (N.map B8).toArray 48)) := (Below.refl _ _).alloc (Nat.le_refl _) _
 go_upto_region 3 with (first
  | (go_at_call 69; with_reducible refine (HS0.out _).mono ?_; rintro e w2 ⟨rfl, hb2⟩; replace hA := hA.below hb2 hA.lt; replace hbw := hbw.trans (hb2.mono hbw.size); clear hb2)
  | (go_at_call 69; with_reducible refine (HS1.out _).mono ?_; rintro e w7 ⟨rfl, hb7⟩; replace hY := hY.below hb7 hY.lt; have hgy7 := hY.lt; replace hA := hA.below hb7 hA.lt; replace hbw := hbw.trans (hb7.mono hbw.size); clear hb7)
  | (go_at_call 72; with_reducible refine (H8B.out _).mono ?_; rintro e w3 ⟨rfl, hb3⟩; replace hA := hA.below hb3 hA.lt; replace hbw := hbw.trans (hb3.mono hbw.size); clear hb3)
  | (go_at_call 72; with_reducible refine (H8H.out _).mono ?_; rintro e w4 ⟨rfl, hb4⟩; replace hA := hA.below hb4 hA.lt; replace hbw := hbw.trans (hb4.mono hbw.size); clear hb4)
  | (go_at_call 71; go_loud (refine (HFO.out _ _ _ (sin3 9 bes hid T)).mono ?_); rintro e w5 ⟨rfl, hb5⟩; replace hA := hA.alloc (.cells #[.string ⟨bes.toArray⟩, .string ⟨hid.toArray⟩, .string ⟨T.toArray⟩] 9); replace hbw := hbw.alloc hbw.size (.cells #[.string ⟨bes.toArray⟩, .string ⟨hid.toArray⟩, .string ⟨T.toArray⟩] 9); replace hA := hA.below hb5 hA.lt; replace hbw := hbw.trans (hb5.mono hbw.size); clear hb5; have hbz5 := hbw.size)
  | ((with_reducible refine (?_ : wpList _ _ _ (Oper.mk none (.store 56 (.tmp 9) _) _ _ _ _ :: _) _ _)); go_loud (refine wpList_store_blk rfl 56 (.tmp 9) (.tmp 25) rfl rfl (w5.heap.size) _ rfl rfl 56 _ (Blk.new_of w5 56 _ _ rfl) (infoBk.trans (by rw [List.length_map, HSL.out])) (by rw [List.length_map, List.length_map, HSL.out, HZL.out]) (one8 _) ?_); intro w6 hY hg6; have hb6 := below_new ((Below.refl w5.heap.size w5).alloc (Nat.le_refl _) _) hg6 (Nat.le_refl _) (by simp); replace hA := hA.below hb6 hA.lt; replace hbw := hbw.trans (hb6.mono hbw.size); clear hb6; clear hg6)
  | ((with_reducible refine (?_ : wpList _ _ _ (Oper.mk (some 27) _ _ _ _ _ :: _) _ _)); go_loud (refine wpList_load_blk rfl 48 (.tmp 5) rfl (w.heap.size) rfl 48 _ _ hA Tryd.underlying48 rfl (info12.trans (by rw [List.length_map, HN.out])) ?_))
  | (go_at_call 70; go_loud (refine (HCO.out _).mono ?_); rintro e w8 ⟨rfl, hb8⟩; replace hY := hY.below hb8 hY.lt; replace hA := hA.below hb8 hA.lt; replace hbw := hbw.trans (hb8.mono hbw.size); clear hb8)
  | ((with_reducible refine (?_ : wpList _ _ _ (Oper.mk none (.store 56 (.tmp 10) _) _ _ _ _ :: _) _ _)); go_loud (refine wpList_store_blk rfl 56 (.tmp 10) (.tmp 29) rfl rfl (w7.heap.size) _ rfl rfl 56 _ (Blk.new_of w7 56 _ _ rfl) (infoBk.trans (by rw [List.length_map, HCL.out])) (by rw [List.length_map, List.length_map, HCL.out, HZL.out]) (one8 _) ?_); intro w9 hP hg9))
 have hb9 := below_new ((Below.refl w7.heap.size w7).alloc (Nat.le_refl _) _) hg9 (Nat.le_refl _) (by simp)
 replace hY := hY.below hb9 hY.lt
 replace hbw := hbw.trans (hb9.mono hbw.size)
 have hgy := hY.lt
 have hne : w7.heap.size ≠ w5.heap.size ∧ w.heap.size ≤ w5.heap.size := by omega
 clear hA hb9 hg9 hzz hap he8 hf8 hlb hlh hgy hgy7 hbz5
 generalize w5.heap.size = gs at *
 generalize w7.heap.size = gp at *
 have hT0 : Blk w9 gs 56 ((X.take 0 ++ S.drop 0).map B8) := hY
 clear hY
 go_wp2
 go_loopw [11] (fun i wr => ∃ k : Nat, k ≤ 16 ∧ i = .int .i64 (k : Int) ∧ Blk wr gs 56 ((X.take k ++ S.drop k).map B8) ∧ Blk wr gp 56 (C.map B8) ∧ Below w.heap.size w wr) (fun i _ => 16 - (intOf i).toNat)
 case atStart => exact ⟨0, by omega, rfl, hT0, hP, hbw⟩
 case round =>
  clear hT0 hP hbw
  obtain ⟨k, hk, rfl, hY, hP, hbw⟩ := hrel
  by_cases hlt : k < 16
  ·
   have hd1 : decide ((k : Int) < 16) = true := by simp; omega
   have hlen := mid_len X S k (by rw [HXL.out]; omega) (by rw [HSL.out]; omega)
   have HGG := Lib.hid (set_up X S k (by rw [HXL.out]; omega) (by rw [HSL.out]; omega))
   have hgt := mid_get X S k (by rw [HXL.out]; omega)
   have HCY : Hid (∀ W, Below wr.heap.size wr W → W.cell? ⟨gs, k, none⟩ = some (.int .u8 ((S.getD k 0).toNat : Int))) := (fun W hb => by
    have := (hY.below hb hY.lt).at8 k (by rw [hlen, HSL.out]; omega)
    rw [hgt] at this
    exact this)
   have HCP : Hid (∀ W, Below wr.heap.size wr W → W.cell? ⟨gp, k, none⟩ = some (.int .u8 ((C.getD k 0).toNat : Int))) := (fun W hb => (hP.below hb hP.lt).at8 k (by rw [HCL.out]; omega))
   have hxx := b_xor (S.getD k 0) (C.getD k 0)
   rw [← HXG.out k hlt] at hxx
   have hk0 : (0 : Int) ≤ (k : Int) := by omega
   have hk1 : (k : Int) < 16 := by omega
   generalize S.getD k 0 = y1 at *
   generalize C.getD k 0 = y2 at *
   generalize X.getD k 0 = x1 at *
   clear hlen hgt
   go_wp2
   apply wp_region_once_tail (m := 9) (Z := []) (D := [[], [], [1], [1, 2], [], [4], [4, 5], [1, 2, 3, 4, 5, 6], [0, 1, 2, 3, 4, 5, 6, 7], [0, 1, 2, 3, 4, 5, 6, 7, 8]]) (J := [[], [], [1], [2], [], [4], [5], [3, 6], [0]]) (Je := [7, 8]) (Rs := [Is _, Is _, Is _, Is _, Is _, Is _, Is _, Is _, Is _])
   ·
    kernel_rfl
   ·
    kernel_rfl
   ·
    kernel_rfl
   ·
    kernel_rfl
   ·
    kernel_rfl
   ·
    kernel_rfl
   ·
    kernel_rfl
   ·
    exact fun h => absurd rfl h
   ·
    intro u
    simp only [List.take_succ_cons, List.take_zero, List.map_cons, List.map_nil, fillU, List.setIfInBounds_toArray, List.set_cons_zero, List.set_cons_succ, Nat.zero_add, Nat.reduceAdd]
    exact rfl
   ·
    simp only [List.take_succ_cons, List.take_zero]
    refine ⟨fun u W hb hd K hK => ?_, ?_⟩
    ·
     clear hd
     go_simp
     apply hK
     ·
      simp only [Act.put, List.setIfInBounds_toArray, List.set_cons_zero, List.set_cons_succ]
      exact rfl
     ·
      exact Below.refl _ _
     ·
      exact IsOut
    refine ⟨fun u W hb hd K hK => ?_, ?_⟩
    ·
     clear hd
     go_simp
     apply hK
     ·
      simp only [Act.put, List.setIfInBounds_toArray, List.set_cons_zero, List.set_cons_succ]
      exact rfl
     ·
      exact Below.refl _ _
     ·
      exact IsOut
    refine ⟨fun u W hb hd K hK => ?_, ?_⟩
    ·
     simp only [Facts, nthR, Is, and_true] at hd
     simp only [hd] at hK ⊢
     clear hd
     go_simp
     apply hK
     ·
      simp only [Act.put, List.setIfInBounds_toArray, List.set_cons_zero, List.set_cons_succ]
      exact rfl
     ·
      exact Below.refl _ _
     ·
      exact IsOut
    refine ⟨fun u W hb hd K hK => ?_, ?_⟩
    ·
     simp only [Facts, nthR, Is, and_true] at hd
     simp only [hd] at hK ⊢
     clear hd
     have hcc := HCY.out W hb
     go_simp
     apply hK
     ·
      simp only [Act.put, List.setIfInBounds_toArray, List.set_cons_zero, List.set_cons_succ]
      exact rfl
     ·
      exact Below.refl _ _
     ·
      exact IsOut
    refine ⟨fun u W hb hd K hK => ?_, ?_⟩
    ·
     clear hd
     go_simp
     apply hK
     ·
      simp only [Act.put, List.setIfInBounds_toArray, List.set_cons_zero, List.set_cons_succ]
      exact rfl
     ·
      exact Below.refl _ _
     ·
      exact IsOut
    refine ⟨fun u W hb hd K hK => ?_, ?_⟩
    ·
     simp only [Facts, nthR, Is, and_true] at hd
     simp only [hd] at hK ⊢
     clear hd
     go_simp
     apply hK
     ·
      simp only [Act.put, List.setIfInBounds_toArray, List.set_cons_zero, List.set_cons_succ]
      exact rfl
     ·
      exact Below.refl _ _
     ·
      exact IsOut
    refine ⟨fun u W hb hd K hK => ?_, ?_⟩
    ·
     simp only [Facts, nthR, Is, and_true] at hd
     simp only [hd] at hK ⊢
     clear hd
     have hcc := HCP.out W hb
     go_simp
     apply hK
     ·
      simp only [Act.put, List.setIfInBounds_toArray, List.set_cons_zero, List.set_cons_succ]
      exact rfl
     ·
      exact Below.refl _ _
     ·
      exact IsOut
    refine ⟨fun u W hb hd K hK => ?_, ?_⟩
    ·
     simp only [Facts, nthR, Is, and_true] at hd
     simp only [hd] at hK ⊢
     clear hd
     go_simp
     apply hK
     ·
      simp only [Act.put, List.setIfInBounds_toArray, List.set_cons_zero, List.set_cons_succ]
      exact rfl
     ·
      exact Below.refl _ _
     ·
      exact IsOut
    refine ⟨fun u W hb hd K hK => ?_, ?_⟩
    ·
     simp only [Facts, nthR, Is, and_true] at hd
     simp only [hd] at hK ⊢
     clear hd
     go_simp
     apply hK
     ·
      simp only [Act.put, List.setIfInBounds_toArray, List.set_cons_zero, List.set_cons_succ]
      exact rfl
     ·
      exact Below.refl _ _
     ·
      exact IsOut
    exact trivial
   ·
    skip
    exact trivial
   ·
    exact (.is (.is (.is (.is (.is (.is (.is (.is (.is .nil)))))))))
   ·
    intro u W hb hd
    simp only [List.drop_succ_cons, List.drop_zero]
    simp only [Facts, nthR, Is, and_true] at hd
    simp only [hd]
    clear hd
    replace hY := hY.below hb hY.lt
    replace hP := hP.below hb hP.lt
    replace hbw := hbw.trans (hb.mono hbw.size)
    have hcc := HCY.out W hb
    have hf := hY.frozen k
    have hY2 := hY.set_ k (B8 x1)
    rw [map_set8, HGG.out] at hY2
    have hP2 := hP.far (p := ⟨gs, k, none⟩) hne.1 (B8 x1)
    have hb2 := hbw.setCell (p := ⟨gs, k, none⟩) (by simp; exact hne.2) (B8 x1)
    have HY2 := Lib.hid hY2
    have HP2 := Lib.hid hP2
    have HB2 := Lib.hid hb2
    clear hb hY2 hP2 hb2 hY hP hbw
    go_wp2
    go_roundw
    case rel => exact ⟨k + 1, by omega, by go_num, HY2.out, HP2.out, HB2.out⟩
    case measure => simp [intOf]; omega
  ·
   have hd1 : decide ((k : Int) < 16) = false := by simp; omega
   rw [show k = 16 by omega, List.take_of_length_le (by rw [HXL.out]; omega), List.drop_eq_nil_of_le (by rw [HSL.out]; omega), List.append_nil] at hY
   have hcv := conv_in HXL.out (in_of_blk hY HXL.out (by decide) (Below.refl _ _))
   clear hP
   go_wp2
   go_ret
   exact ⟨rfl, hbw⟩

end
end Go.Proofs.YtnjpcbbdhimacaaDoor
