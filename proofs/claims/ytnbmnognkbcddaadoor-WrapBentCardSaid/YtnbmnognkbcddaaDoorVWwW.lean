/-
  The walk of the statement WrapWraps.
-/
import Derived.Test.YtnbmnognkbcddaaDoorVi
import Derived.Test.YtnbmnognkbcddaaDoorVg
namespace Go.Proofs.YtnbmnognkbcddaaDoor
open Go.RowKit

theorem keyC_salt (kind : Int) (A As : Option Addr) (n c ns cs : Nat) (s0 s1 : UInt8) (Q : List UInt8) : ((keyC kind A n c s0 s1 Q As ns cs).drop 2).take 2 = [.int .u8 (s0.toNat : Int), .int .u8 (s1.toNat : Int)] := rfl
theorem keyC_ask (kind : Int) (A As : Option Addr) (n c ns cs : Nat) (s0 s1 : UInt8) (Q : List UInt8) (hQ : Q.length = 16) : ((keyC kind A n c s0 s1 Q As ns cs).drop 4).take 16 = Q.map B8 := by
  unfold keyC
  show (Q.map B8 ++ [Value.slice As ns cs]).take 16 = _
  rw [List.take_append_of_le_length (by simp [hQ]), List.take_of_length_le (by simp [hQ])]
theorem range_mid {w : World} {g : Nat} {t : TypeId} {cs : List Value} (h : Blk w g t cs) (o n : Nat) : w.rangeAt g o ((cs.drop o).take n) := fun j v hv => by
  have h1 : cs[o + j]? = some v := by
    rw [List.getElem?_take] at hv
    split at hv
    · rwa [List.getElem?_drop] at hv
    · simp at hv
  rw [h.cell, h1]
set_option maxRecDepth 100000 in
set_option maxHeartbeats 1000000 in
theorem wrapWraps_walk (kind : Int) (A As : Option Addr) (n c ns cs : Nat) (s0 s1 : UInt8) (Q xk xs : List UInt8) (w : World) (hQ : Q.length = 16) (hk : xk.length = n) (hs : xs.length = ns) (i0 : In w w.heap.size A c xk) (is : In w w.heap.size As cs xs) (ht : TabsQ w) :
    Calls Tryd.prog 8 #[.agg (keyC kind A n c s0 s1 Q As ns cs).toArray] w fun e w' => e = .returned (.bool true) ∧ Below w.heap.size w w' := by
  obtain ⟨m, hm⟩ : ∃ m, (xk.take 250).length = m := ⟨_, rfl⟩
  obtain ⟨ms, hms⟩ : ∃ ms, (xs.take 60).length = ms := ⟨_, rfl⟩
  have hm2 : m ≤ 250 := by rw [← hm, List.length_take]; omega
  have hms2 : ms ≤ 60 := by rw [← hms, List.length_take]; omega
  have HKY := Lib.hid (fun (W : World) (h : Below w.heap.size w W) => lkey_e kind A As n c ns cs s0 s1 Q xk xs W hQ hk hs (i0.up h) (is.up h) m hm)
  have HSC := Lib.hid (fun (W : World) (h : Below w.heap.size w W) => lsec_e kind A As n c ns cs s0 s1 Q xk xs W hQ hk hs (i0.up h) (is.up h) ms hms)
  have HWS := Lib.hid (fun (W : World) (h : Below w.heap.size w W) => wraps_e W (ht.below h))
  have HTQ := Lib.hid ht
  generalize xk.take 250 = key at *
  generalize xs.take 60 = sec at *
  obtain ⟨V, er, hW⟩ : ∃ V er, wrapE kind s0 s1 key Q sec = (V, er) := ⟨_, _, rfl⟩
  have her := wrap_err kind s0 s1 key Q sec
  rw [hW] at her
  obtain ⟨ei, hei⟩ : ∃ ei : Int, ei = (er : Int) := ⟨_, rfl⟩
  have HWR := Lib.hid (fun (W : World) (A1 A2 : Option Addr) (c1 c2 : Nat) (h : Below w.heap.size w W) (i1 : In W W.heap.size A1 c1 key) (i2 : In W W.heap.size A2 c2 sec) =>
    (show Calls Tryd.prog 40 #[.int .i64 kind, .slice A1 m c1, .agg #[.int .u8 (s0.toNat : Int), .int .u8 (s1.toNat : Int)], .agg (Q.map B8).toArray, .slice A2 ms c2] W (fun e w' => ∃ A' M c', e = .returned (.tuple #[.slice A' M c', .int .i64 ei]) ∧ Buf w' W.heap.size A' M c' V ∧ Below W.heap.size W w') by
      have hh := wrap_e kind s0 s1 Q key sec A1 A2 c1 c2 m ms W hQ hm hms i1 i2 (ht.below h) (by omega) (by omega)
      rw [hW] at hh
      rw [hei]
      exact hh))
  have HRW := Lib.hid (fun (W : World) => (show Calls Tryd.prog 41 #[.int .i64 kind, .string ⟨key.toArray⟩, .agg #[.int .u8 (s0.toNat : Int), .int .u8 (s1.toNat : Int)], .agg (Q.map B8).toArray, .string ⟨sec.toArray⟩] W (fun e w' => e = .returned (.tuple #[.string ⟨V.toArray⟩, .int .i64 ei]) ∧ Below W.heap.size W w') by
      have hh := rwrap_e kind s0 s1 Q key sec m W hQ hm (by omega) (by omega)
      rw [hW] at hh
      rw [hei]
      exact hh))
  have HUN := Lib.hid (fun (h0 : er = 0) (W : World) (A3 A2 : Option Addr) (c3 c2 M : Nat) (h : Below w.heap.size w W) (iv : In W W.heap.size A3 c3 V) (hM : V.length = M) (i2 : In W W.heap.size A2 c2 sec) =>
    (show Calls Tryd.prog 43 #[.slice A3 M c3, .agg (Q.map B8).toArray, .slice A2 ms c2] W (fun e w' => ∃ A' c', e = .returned (.tuple #[.int .i64 kind, .slice A' m c', .int .i64 0]) ∧ In w' w'.heap.size A' c' key ∧ Below W.heap.size W w') by
      subst h0
      have hl := (wrap_len hW).2.1
      have hh := unwrap_e Q V sec A3 A2 c3 c2 M ms W hQ hM hms iv i2 (ht.below h) (by omega) (by omega)
      rw [unwrap_wrap hW] at hh
      refine hh.mono ?_
      rintro e w' ⟨A', m', c', rfl, hm', hI, hb⟩
      have hmm : m = m' := hm.symm.trans hm'
      subst hmm
      exact ⟨A', c', rfl, hI, hb⟩))
  have HE := Lib.hid hei
  have HER := Lib.hid her
  have HKLL := Lib.hid (keyC_length kind A As n c ns cs s0 s1 Q hQ)
  have hsalt := keyC_salt kind A As n c ns cs s0 s1 Q
  have hask := keyC_ask kind A As n c ns cs s0 s1 Q hQ
  have hk0 : (keyC kind A n c s0 s1 Q As ns cs)[0]? = some (.int .i64 kind) := rfl
  generalize keyC kind A n c s0 s1 Q As ns cs = KL at *
  have HSA := Lib.hid hsalt
  have HAS := Lib.hid hask
  have HK0 := Lib.hid hk0
  have HQ := Lib.hid hQ
  have HM := Lib.hid (And.intro hm (And.intro hms (And.intro hm2 hms2)))
  have HW := Lib.hid hW
  clear hsalt hask hk0 hQ hk hs i0 is ht hm hms hm2 hms2 hW hei her
  go_enter Tryd.func8, Tryd.ntmps8
  go_upto_region 1 with (fail)
  have hKb := Blk.new_of w 73 KL.toArray KL rfl
  have hb0 : Below w.heap.size w (w.alloc (.cells KL.toArray 73)) := (Below.refl _ _).alloc (Nat.le_refl _) _
  obtain ⟨gk, hgk'⟩ : ∃ gk, gk = w.heap.size := ⟨_, rfl⟩
  rw [← hgk'] at hKb
  simp only [← hgk']
  have HBK := Lib.hid hKb
  have HBW := Lib.hid hb0
  clear hgk' hb0 hKb
  generalize (w.alloc (.cells KL.toArray 73)) = w1 at *
  have HCW := Lib.hid (fun (W : World) (h : Below w1.heap.size w1 W) => (show W.rangeAt gk 0 KL from rangeAt_of_blk (HBK.out.below h HBK.out.lt)))
  have HCS := Lib.hid (fun (W : World) (h : Below w1.heap.size w1 W) => (show W.rangeAt gk 2 [.int .u8 (s0.toNat : Int), .int .u8 (s1.toNat : Int)] by rw [← HSA.out]; exact range_mid (HBK.out.below h HBK.out.lt) 2 2))
  have HCA := Lib.hid (fun (W : World) (h : Below w1.heap.size w1 W) => (show W.rangeAt gk 4 (Q.map B8) by rw [← HAS.out]; exact range_mid (HBK.out.below h HBK.out.lt) 4 16))
  have HC0 := Lib.hid (fun (W : World) (h : Below w1.heap.size w1 W) => (show W.cell? ⟨gk, 0, none⟩ = some (.int .i64 kind) from ((HBK.out.below h HBK.out.lt).cell 0).trans HK0.out))
  have HW1 := Lib.hid (Below.refl w1.heap.size w1)
  refine wp_region_noPanic ?_
  refine wp_region_held_drew (S := fun W => Below w1.heap.size w1 W) (by kernel_rfl) (by exact below_drewN (Below.refl _ _) 1) (fun hHeld => ?_)
  refine' wpAnyH_take (i := 0) (oi := ⟨_, _, _, _, _, _⟩) rfl (by kernel_rfl) (by kernel_rfl) (by kernel_rfl) (fun _ _ _ h => h) (yieldsIf_load_mid (by rfl) 73 _ rfl gk 0 rfl (KL) _ (fun W h => HCW.out W (HW1.out.trans (h.mono HW1.out.size))) Tryd.underlying73 rfl (inf21.trans (by rw [HKLL.out]))) hHeld ?_
  try simp only [Act.put, List.setIfInBounds_toArray, List.set_cons_zero, List.set_cons_succ]
  refine' wpAnyH_take (i := 2) (oi := ⟨_, _, _, _, _, _⟩) rfl (by kernel_rfl) (by kernel_rfl) (by kernel_rfl) (fun _ _ _ h => h) (yieldsIf_load_mid (by rfl) 73 _ rfl gk 0 rfl (KL) _ (fun W h => HCW.out W (HW1.out.trans (h.mono HW1.out.size))) Tryd.underlying73 rfl (inf21.trans (by rw [HKLL.out]))) hHeld ?_
  try simp only [Act.put, List.setIfInBounds_toArray, List.set_cons_zero, List.set_cons_succ]
  replace hHeld : Below w1.heap.size w1 w1.drew := hHeld
  generalize w1.drew = wd at *
  refine wpAnyH_ready (rs := [1]) (by kernel_rfl) (by simp) ?_
  refine AllReadyH.cons (o := ⟨_, _, _, _, _, _⟩) rfl (fun K hK => ?_) AllReadyH.nil
  go_simp
  go_at_call 38
  refine (HKY.out _ (HBW.out.trans (hHeld.mono HBW.out.size))).mono ?_
  rintro e wa ⟨A1, c1, rfl, hB1, hb1⟩
  try go_wp2_with fail
  have hszx := hHeld.size
  refine hK.out _ _ (hHeld.trans (hb1.mono hszx)) (fun hHeld => ?_)
  clear hK K hszx
  try simp only [Act.put, List.setIfInBounds_toArray, List.set_cons_zero, List.set_cons_succ]
  refine wpAnyH_ready (rs := [3]) (by kernel_rfl) (by simp) ?_
  refine AllReadyH.cons (o := ⟨_, _, _, _, _, _⟩) rfl (fun K hK => ?_) AllReadyH.nil
  go_simp
  go_at_call 39
  refine (HSC.out _ (HBW.out.trans (hHeld.mono HBW.out.size))).mono ?_
  rintro e w2 ⟨A2, c2, rfl, hB2, hb2⟩
  try go_wp2_with fail
  have hszx := hHeld.size
  refine hK.out _ _ (hHeld.trans (hb2.mono hszx)) (fun hHeld => ?_)
  clear hK K hszx
  try simp only [Act.put, List.setIfInBounds_toArray, List.set_cons_zero, List.set_cons_succ]
  have hI1 := (hB1.toIn (Nat.le_refl _)).up hb2
  have hI2 := hB2.toIn (Nat.le_refl _)
  refine wpAnyH_take (i := 4) (oi := ⟨_, _, _, _, _, _⟩) (v := ?_) rfl (by kernel_rfl) (by kernel_rfl) (by kernel_rfl) (fun _ _ _ h => h) (Or.inl ⟨by rfl, ?_⟩) hHeld ?_
  rotate_left 1
  · (intro W hSw; (try dsimp only at hSw); go_simp; try with_reducible rfl)
  try simp only [Act.put, List.setIfInBounds_toArray, List.set_cons_zero, List.set_cons_succ]
  refine wpAnyH_take (i := 5) (oi := ⟨_, _, _, _, _, _⟩) (v := ?_) rfl (by kernel_rfl) (by kernel_rfl) (by kernel_rfl) (fun _ _ _ h => h) (Or.inl ⟨by rfl, ?_⟩) hHeld ?_
  rotate_left 1
  · (intro W hSw; (try dsimp only at hSw); go_simp; try with_reducible rfl)
  try simp only [Act.put, List.setIfInBounds_toArray, List.set_cons_zero, List.set_cons_succ]
  refine wpAnyH_done (by kernel_rfl) ?_ _
  refine NoPanic.normal ?_
  replace hHeld : Below w1.heap.size w1 w2 := hHeld
  have HI1 := Lib.hid (show In w2 w2.heap.size A1 c1 key from hI1)
  have HI2 := Lib.hid (show In w2 w2.heap.size A2 c2 sec from hI2)
  replace HW1 := Lib.hid hHeld
  clear hHeld hI1 hI2 hB1 hB2 hb1 hb2
  have hc0 := HC0.out w2 HW1.out
  go_upto_region 3 with (first
    | ((with_reducible refine (?_ : wpList _ _ _ (Oper.mk (some 21) _ _ _ _ _ :: _) _ _)); go_loud (refine wpList_load_mid rfl 71 (.tmp 20) rfl gk 2 rfl ([.int .u8 (s0.toNat : Int), .int .u8 (s1.toNat : Int)]) _ (HCS.out w2 HW1.out) Tryd.underlying71 rfl (inf2) ?_))
    | ((with_reducible refine (?_ : wpList _ _ _ (Oper.mk (some 23) _ _ _ _ _ :: _) _ _)); go_loud (refine wpList_load_mid rfl 22 (.tmp 22) rfl gk 4 rfl (Q.map B8) _ (HCA.out w2 HW1.out) Tryd.underlying22 rfl (inf16.trans (by rw [List.length_map, HQ.out])) ?_))
    | (go_at_call 40; refine (HWR.out _ _ _ _ _ (HBW.out.trans (HW1.out.mono HBW.out.size)) HI1.out HI2.out).mono ?_; rintro e w3 ⟨A3, M, c3, rfl, hB3, hb3⟩))
  have HI1W := Lib.hid (HI1.out.up hb3)
  have HI2W := Lib.hid (HI2.out.up hb3)
  replace HW1 := Lib.hid (HW1.out.trans (hb3.mono HW1.out.size))
  clear HI1 HI2
  have HI1 := HI1W
  have HI2 := HI2W
  clear HI1W HI2W
  have HV := Lib.hid hB3
  clear hc0 hb3 hB3
  refine wp_region_noPanic ?_
  refine wp_region_held_drew (S := fun W => Below w3.heap.size w3 W) (by kernel_rfl) (by exact below_drewN (Below.refl _ _) 1) (fun hHeld => ?_)
  refine wpAnyH_take (i := 0) (oi := ⟨_, _, _, _, _, _⟩) (v := ?_) rfl (by kernel_rfl) (by kernel_rfl) (by kernel_rfl) (fun _ _ _ h => h) (Or.inl ⟨by rfl, ?_⟩) hHeld ?_
  rotate_left 1
  · (intro W hSw; (try dsimp only at hSw); go_simp; try with_reducible rfl)
  try simp only [Act.put, List.setIfInBounds_toArray, List.set_cons_zero, List.set_cons_succ]
  refine wpAnyH_take (i := 1) (oi := ⟨_, _, _, _, _, _⟩) (v := ?_) rfl (by kernel_rfl) (by kernel_rfl) (by kernel_rfl) (fun _ _ _ h => h) (Or.inl ⟨by rfl, ?_⟩) hHeld ?_
  rotate_left 1
  · (intro W hSw; (try dsimp only at hSw); have hc0 := HC0.out W (HW1.out.trans (hSw.mono HW1.out.size)); go_simp; try with_reducible rfl)
  try simp only [Act.put, List.setIfInBounds_toArray, List.set_cons_zero, List.set_cons_succ]
  refine' wpAnyH_take (i := 2) (oi := ⟨_, _, _, _, _, _⟩) rfl (by kernel_rfl) (by kernel_rfl) (by kernel_rfl) (fun _ _ _ h => h) (yieldsIf_load_mid (by rfl) 73 _ rfl gk 0 rfl (KL) _ (fun W h => HCW.out W (HW1.out.trans (h.mono HW1.out.size))) Tryd.underlying73 rfl (inf21.trans (by rw [HKLL.out]))) hHeld ?_
  try simp only [Act.put, List.setIfInBounds_toArray, List.set_cons_zero, List.set_cons_succ]
  refine wpAnyH_take (i := 5) (oi := ⟨_, _, _, _, _, _⟩) (v := ?_) rfl (by kernel_rfl) (by kernel_rfl) (by kernel_rfl) (fun _ _ _ h => h) (Or.inl ⟨by rfl, ?_⟩) hHeld ?_
  rotate_left 1
  · (intro W hSw; (try dsimp only at hSw); go_simp; try with_reducible rfl)
  try simp only [Act.put, List.setIfInBounds_toArray, List.set_cons_zero, List.set_cons_succ]
  refine' wpAnyH_take (i := 6) (oi := ⟨_, _, _, _, _, _⟩) rfl (by kernel_rfl) (by kernel_rfl) (by kernel_rfl) (fun _ _ _ h => h) (yieldsIf_load_mid (by rfl) 71 _ rfl gk 2 rfl ([.int .u8 (s0.toNat : Int), .int .u8 (s1.toNat : Int)]) _ (fun W h => HCS.out W (HW1.out.trans (h.mono HW1.out.size))) Tryd.underlying71 rfl (inf2)) hHeld ?_
  try simp only [Act.put, List.setIfInBounds_toArray, List.set_cons_zero, List.set_cons_succ]
  refine wpAnyH_take (i := 7) (oi := ⟨_, _, _, _, _, _⟩) (v := ?_) rfl (by kernel_rfl) (by kernel_rfl) (by kernel_rfl) (fun _ _ _ h => h) (Or.inl ⟨by rfl, ?_⟩) hHeld ?_
  rotate_left 1
  · (intro W hSw; (try dsimp only at hSw); go_simp; try with_reducible rfl)
  try simp only [Act.put, List.setIfInBounds_toArray, List.set_cons_zero, List.set_cons_succ]
  refine' wpAnyH_take (i := 8) (oi := ⟨_, _, _, _, _, _⟩) rfl (by kernel_rfl) (by kernel_rfl) (by kernel_rfl) (fun _ _ _ h => h) (yieldsIf_load_mid (by rfl) 22 _ rfl gk 4 rfl (Q.map B8) _ (fun W h => HCA.out W (HW1.out.trans (h.mono HW1.out.size))) Tryd.underlying22 rfl (inf16.trans (by rw [List.length_map, HQ.out]))) hHeld ?_
  try simp only [Act.put, List.setIfInBounds_toArray, List.set_cons_zero, List.set_cons_succ]
  refine wpAnyH_take (i := 9) (oi := ⟨_, _, _, _, _, _⟩) (v := ?_) rfl (by kernel_rfl) (by kernel_rfl) (by kernel_rfl) (fun _ _ _ h => h) (Or.inl ⟨by rfl, ?_⟩) hHeld ?_
  rotate_left 1
  · (intro W hSw; (try dsimp only at hSw); go_simp; try with_reducible rfl)
  try simp only [Act.put, List.setIfInBounds_toArray, List.set_cons_zero, List.set_cons_succ]
  refine wpAnyH_take (i := 10) (oi := ⟨_, _, _, _, _, _⟩) (v := ?_) rfl (by kernel_rfl) (by kernel_rfl) (by kernel_rfl) (fun _ _ _ h => h) (Or.inl ⟨by rfl, ?_⟩) hHeld ?_
  rotate_left 1
  · (intro W hSw; (try dsimp only at hSw); have hcs := conv_in HM.out.2.1 (HI2.out.up hSw); go_simp; try with_reducible rfl)
  try simp only [Act.put, List.setIfInBounds_toArray, List.set_cons_zero, List.set_cons_succ]
  replace hHeld : Below w3.heap.size w3 w3.drew := hHeld
  generalize w3.drew = wd2 at *
  refine wpAnyH_ready (rs := [3]) (by kernel_rfl) (by simp) ?_
  refine AllReadyH.cons (o := ⟨_, _, _, _, _, _⟩) rfl (fun K hK => ?_) AllReadyH.nil
  go_simp
  go_at_call 38
  refine (HKY.out _ (HBW.out.trans ((HW1.out.trans (hHeld.mono HW1.out.size)).mono HBW.out.size))).mono ?_
  rintro e w4 ⟨A4, c4, rfl, hB4, hb4⟩
  try go_wp2_with fail
  have hszx := hHeld.size
  refine hK.out _ _ (hHeld.trans (hb4.mono hszx)) (fun hHeld => ?_)
  clear hK K hszx
  try simp only [Act.put, List.setIfInBounds_toArray, List.set_cons_zero, List.set_cons_succ]
  refine wpAnyH_ready (rs := [4]) (by kernel_rfl) (by simp) ?_
  refine AllReadyH.cons (o := ⟨_, _, _, _, _, _⟩) rfl (fun K hK => ?_) AllReadyH.nil
  have hcv := conv_in HM.out.1 (hB4.toIn (Nat.le_refl _))
  go_simp
  refine hK.out _ _ hHeld (fun hHeld => ?_)
  clear hK K hcv
  try simp only [Act.put, List.setIfInBounds_toArray, List.set_cons_zero, List.set_cons_succ]
  refine wpAnyH_ready (rs := [11]) (by kernel_rfl) (by simp) ?_
  refine AllReadyH.cons (o := ⟨_, _, _, _, _, _⟩) rfl (fun K hK => ?_) AllReadyH.nil
  go_simp
  go_at_call 41
  refine (HRW.out _).mono ?_
  rintro e w5 ⟨rfl, hb5⟩
  try go_wp2_with fail
  have hszx := hHeld.size
  refine hK.out _ _ (hHeld.trans (hb5.mono hszx)) (fun hHeld => ?_)
  clear hK K hszx
  try simp only [Act.put, List.setIfInBounds_toArray, List.set_cons_zero, List.set_cons_succ]
  refine wpAnyH_take (i := 12) (oi := ⟨_, _, _, _, _, _⟩) (v := ?_) rfl (by kernel_rfl) (by kernel_rfl) (by kernel_rfl) (fun _ _ _ h => h) (Or.inl ⟨by rfl, ?_⟩) hHeld ?_
  rotate_left 1
  · (intro W hSw; (try dsimp only at hSw); go_simp; try with_reducible rfl)
  try simp only [Act.put, List.setIfInBounds_toArray, List.set_cons_zero, List.set_cons_succ]
  refine wpAnyH_take (i := 13) (oi := ⟨_, _, _, _, _, _⟩) (v := ?_) rfl (by kernel_rfl) (by kernel_rfl) (by kernel_rfl) (fun _ _ _ h => h) (Or.inl ⟨by rfl, ?_⟩) hHeld ?_
  rotate_left 1
  · (intro W hSw; (try dsimp only at hSw); go_simp; try with_reducible rfl)
  try simp only [Act.put, List.setIfInBounds_toArray, List.set_cons_zero, List.set_cons_succ]
  refine wpAnyH_take (i := 14) (oi := ⟨_, _, _, _, _, _⟩) (v := ?_) rfl (by kernel_rfl) (by kernel_rfl) (by kernel_rfl) (fun _ _ _ h => h) (Or.inl ⟨by rfl, ?_⟩) hHeld ?_
  rotate_left 1
  · (intro W hSw; (try dsimp only at hSw); go_simp; try with_reducible rfl)
  try simp only [Act.put, List.setIfInBounds_toArray, List.set_cons_zero, List.set_cons_succ]
  refine wpAnyH_take (i := 15) (oi := ⟨_, _, _, _, _, _⟩) (v := ?_) rfl (by kernel_rfl) (by kernel_rfl) (by kernel_rfl) (fun _ _ _ h => h) (Or.inl ⟨by rfl, ?_⟩) hHeld ?_
  rotate_left 1
  · (intro W hSw; (try dsimp only at hSw); go_simp; try with_reducible rfl)
  try simp only [Act.put, List.setIfInBounds_toArray, List.set_cons_zero, List.set_cons_succ]
  refine wpAnyH_take (i := 16) (oi := ⟨_, _, _, _, _, _⟩) (v := ?_) rfl (by kernel_rfl) (by kernel_rfl) (by kernel_rfl) (fun _ _ _ h => h) (Or.inl ⟨by rfl, ?_⟩) hHeld ?_
  rotate_left 1
  · (intro W hSw; (try dsimp only at hSw); go_simp; try with_reducible rfl)
  try simp only [Act.put, List.setIfInBounds_toArray, List.set_cons_zero, List.set_cons_succ]
  refine wpAnyH_done (by kernel_rfl) ?_ _
  refine NoPanic.normal ?_
  replace hHeld : Below w3.heap.size w3 w5 := hHeld
  have HI1W := Lib.hid (HI1.out.up hHeld)
  have HI2W := Lib.hid (HI2.out.up hHeld)
  replace HW1 := Lib.hid (HW1.out.trans (hHeld.mono HW1.out.size))
  clear HI1 HI2
  have HI1 := HI1W
  have HI2 := HI2W
  clear HI1W HI2W
  have HV5 := Lib.hid (HV.out.below hHeld)
  clear hHeld hB4 hb4 hb5 HV
  go_upto_region 4 with (fail)
  refine wp_region_noPanic ?_
  refine wp_region_held_drew (S := fun W => Below w5.heap.size w5 W) (by kernel_rfl) (by exact below_drewN (Below.refl _ _) 1) (fun hHeld => ?_)
  replace hHeld : Below w5.heap.size w5 w5.drew := hHeld
  generalize w5.drew = wd3 at *
  refine wpAnyH_ready (rs := [0]) (by kernel_rfl) (by simp) ?_
  refine AllReadyH.cons (o := ⟨_, _, _, _, _, _⟩) rfl (fun K hK => ?_) AllReadyH.nil
  go_simp
  go_at_call 42
  refine (HWS.out _ (HBW.out.trans ((HW1.out.trans (hHeld.mono HW1.out.size)).mono HBW.out.size))).mono ?_
  rintro e w6 ⟨rfl, hb6⟩
  try go_wp2_with fail
  have hszx := hHeld.size
  refine hK.out _ _ (hHeld.trans (hb6.mono hszx)) (fun hHeld => ?_)
  clear hK K hszx
  try simp only [Act.put, List.setIfInBounds_toArray, List.set_cons_zero, List.set_cons_succ]
  refine wpAnyH_take (i := 1) (oi := ⟨_, _, _, _, _, _⟩) (v := ?_) rfl (by kernel_rfl) (by kernel_rfl) (by kernel_rfl) (fun _ _ _ h => h) (Or.inl ⟨by rfl, ?_⟩) hHeld ?_
  rotate_left 1
  · (intro W hSw; (try dsimp only at hSw); go_simp; try with_reducible rfl)
  try simp only [Act.put, List.setIfInBounds_toArray, List.set_cons_zero, List.set_cons_succ]
  refine wpAnyH_take (i := 2) (oi := ⟨_, _, _, _, _, _⟩) (v := ?_) rfl (by kernel_rfl) (by kernel_rfl) (by kernel_rfl) (fun _ _ _ h => h) (Or.inl ⟨by rfl, ?_⟩) hHeld ?_
  rotate_left 1
  · (intro W hSw; (try dsimp only at hSw); go_simp; try with_reducible rfl)
  try simp only [Act.put, List.setIfInBounds_toArray, List.set_cons_zero, List.set_cons_succ]
  refine wpAnyH_take (i := 3) (oi := ⟨_, _, _, _, _, _⟩) (v := ?_) rfl (by kernel_rfl) (by kernel_rfl) (by kernel_rfl) (fun _ _ _ h => h) (Or.inl ⟨by rfl, ?_⟩) hHeld ?_
  rotate_left 1
  · (intro W hSw; (try dsimp only at hSw); go_simp; try with_reducible rfl)
  try simp only [Act.put, List.setIfInBounds_toArray, List.set_cons_zero, List.set_cons_succ]
  refine wpAnyH_take (i := 4) (oi := ⟨_, _, _, _, _, _⟩) (v := ?_) rfl (by kernel_rfl) (by kernel_rfl) (by kernel_rfl) (fun _ _ _ h => h) (Or.inl ⟨by rfl, ?_⟩) hHeld ?_
  rotate_left 1
  · (intro W hSw; (try dsimp only at hSw); have hcv := conv_in HV5.out.1 ((HV5.out.toIn (Nat.le_refl _)).up hSw); go_simp; try with_reducible rfl)
  try simp only [Act.put, List.setIfInBounds_toArray, List.set_cons_zero, List.set_cons_succ]
  refine wpAnyH_take (i := 5) (oi := ⟨_, _, _, _, _, _⟩) (v := ?_) rfl (by kernel_rfl) (by kernel_rfl) (by kernel_rfl) (fun _ _ _ h => h) (Or.inl ⟨by rfl, ?_⟩) hHeld ?_
  rotate_left 1
  · (intro W hSw; (try dsimp only at hSw); go_simp; try with_reducible rfl)
  try simp only [Act.put, List.setIfInBounds_toArray, List.set_cons_zero, List.set_cons_succ]
  refine wpAnyH_take (i := 6) (oi := ⟨_, _, _, _, _, _⟩) (v := ?_) rfl (by kernel_rfl) (by kernel_rfl) (by kernel_rfl) (fun _ _ _ h => h) (Or.inl ⟨by rfl, ?_⟩) hHeld ?_
  rotate_left 1
  · (intro W hSw; (try dsimp only at hSw); go_simp; try with_reducible rfl)
  try simp only [Act.put, List.setIfInBounds_toArray, List.set_cons_zero, List.set_cons_succ]
  refine wpAnyH_take (i := 7) (oi := ⟨_, _, _, _, _, _⟩) (v := ?_) rfl (by kernel_rfl) (by kernel_rfl) (by kernel_rfl) (fun _ _ _ h => h) (Or.inl ⟨by rfl, ?_⟩) hHeld ?_
  rotate_left 1
  · (intro W hSw; (try dsimp only at hSw); go_simp; try with_reducible rfl)
  try simp only [Act.put, List.setIfInBounds_toArray, List.set_cons_zero, List.set_cons_succ]
  refine wpAnyH_take (i := 8) (oi := ⟨_, _, _, _, _, _⟩) (v := ?_) rfl (by kernel_rfl) (by kernel_rfl) (by kernel_rfl) (fun _ _ _ h => h) (Or.inl ⟨by rfl, ?_⟩) hHeld ?_
  rotate_left 1
  · (intro W hSw; (try dsimp only at hSw); go_simp; try with_reducible rfl)
  try simp only [Act.put, List.setIfInBounds_toArray, List.set_cons_zero, List.set_cons_succ]
  refine wpAnyH_take (i := 9) (oi := ⟨_, _, _, _, _, _⟩) (v := ?_) rfl (by kernel_rfl) (by kernel_rfl) (by kernel_rfl) (fun _ _ _ h => h) (Or.inl ⟨by rfl, ?_⟩) hHeld ?_
  rotate_left 1
  · (intro W hSw; (try dsimp only at hSw); go_simp; try with_reducible rfl)
  try simp only [Act.put, List.setIfInBounds_toArray, List.set_cons_zero, List.set_cons_succ]
  refine wpAnyH_take (i := 10) (oi := ⟨_, _, _, _, _, _⟩) (v := ?_) rfl (by kernel_rfl) (by kernel_rfl) (by kernel_rfl) (fun _ _ _ h => h) (Or.inl ⟨by rfl, ?_⟩) hHeld ?_
  rotate_left 1
  · (intro W hSw; (try dsimp only at hSw); go_simp; try with_reducible rfl)
  try simp only [Act.put, List.setIfInBounds_toArray, List.set_cons_zero, List.set_cons_succ]
  refine wpAnyH_take (i := 11) (oi := ⟨_, _, _, _, _, _⟩) (v := ?_) rfl (by kernel_rfl) (by kernel_rfl) (by kernel_rfl) (fun _ _ _ h => h) (Or.inl ⟨by rfl, ?_⟩) hHeld ?_
  rotate_left 1
  · (intro W hSw; (try dsimp only at hSw); go_simp; try with_reducible rfl)
  try simp only [Act.put, List.setIfInBounds_toArray, List.set_cons_zero, List.set_cons_succ]
  refine wpAnyH_take (i := 12) (oi := ⟨_, _, _, _, _, _⟩) (v := ?_) rfl (by kernel_rfl) (by kernel_rfl) (by kernel_rfl) (fun _ _ _ h => h) (Or.inl ⟨by rfl, ?_⟩) hHeld ?_
  rotate_left 1
  · (intro W hSw; (try dsimp only at hSw); go_simp; try with_reducible rfl)
  try simp only [Act.put, List.setIfInBounds_toArray, List.set_cons_zero, List.set_cons_succ]
  refine wpAnyH_take (i := 13) (oi := ⟨_, _, _, _, _, _⟩) (v := ?_) rfl (by kernel_rfl) (by kernel_rfl) (by kernel_rfl) (fun _ _ _ h => h) (Or.inl ⟨by rfl, ?_⟩) hHeld ?_
  rotate_left 1
  · (intro W hSw; (try dsimp only at hSw); go_simp; try with_reducible rfl)
  try simp only [Act.put, List.setIfInBounds_toArray, List.set_cons_zero, List.set_cons_succ]
  refine wpAnyH_take (i := 14) (oi := ⟨_, _, _, _, _, _⟩) (v := ?_) rfl (by kernel_rfl) (by kernel_rfl) (by kernel_rfl) (fun _ _ _ h => h) (Or.inl ⟨by rfl, ?_⟩) hHeld ?_
  rotate_left 1
  · (intro W hSw; (try dsimp only at hSw); go_simp; try with_reducible rfl)
  try simp only [Act.put, List.setIfInBounds_toArray, List.set_cons_zero, List.set_cons_succ]
  refine wpAnyH_take (i := 15) (oi := ⟨_, _, _, _, _, _⟩) (v := ?_) rfl (by kernel_rfl) (by kernel_rfl) (by kernel_rfl) (fun _ _ _ h => h) (Or.inl ⟨by rfl, ?_⟩) hHeld ?_
  rotate_left 1
  · (intro W hSw; (try dsimp only at hSw); have hck := conv_in HM.out.1 (HI1.out.up hSw); go_simp; try with_reducible rfl)
  try simp only [Act.put, List.setIfInBounds_toArray, List.set_cons_zero, List.set_cons_succ]
  refine' wpAnyH_take (i := 16) (oi := ⟨_, _, _, _, _, _⟩) rfl (by kernel_rfl) (by kernel_rfl) (by kernel_rfl) (fun _ _ _ h => h) (yieldsIf_load_mid (by rfl) 73 _ rfl gk 0 rfl (KL) _ (fun W h => HCW.out W (HW1.out.trans (h.mono HW1.out.size))) Tryd.underlying73 rfl (inf21.trans (by rw [HKLL.out]))) hHeld ?_
  try simp only [Act.put, List.setIfInBounds_toArray, List.set_cons_zero, List.set_cons_succ]
  refine wpAnyH_ready (rs := [17]) (by kernel_rfl) (by simp) ?_
  refine AllReadyH.cons (o := ⟨_, _, _, _, _, _⟩) rfl (fun K hK => ?_) AllReadyH.nil
  go_simp
  go_at_call 38
  refine (HKY.out _ (HBW.out.trans ((HW1.out.trans (hHeld.mono HW1.out.size)).mono HBW.out.size))).mono ?_
  rintro e w7 ⟨A7, c7, rfl, hB7, hb7⟩
  try go_wp2_with fail
  have hszx := hHeld.size
  refine hK.out _ _ (hHeld.trans (hb7.mono hszx)) (fun hHeld => ?_)
  clear hK K hszx
  try simp only [Act.put, List.setIfInBounds_toArray, List.set_cons_zero, List.set_cons_succ]
  refine wpAnyH_ready (rs := [18]) (by kernel_rfl) (by simp) ?_
  refine AllReadyH.cons (o := ⟨_, _, _, _, _, _⟩) rfl (fun K hK => ?_) AllReadyH.nil
  have hcv := conv_in HM.out.1 (hB7.toIn (Nat.le_refl _))
  go_simp
  refine hK.out _ _ hHeld (fun hHeld => ?_)
  clear hK K hcv
  try simp only [Act.put, List.setIfInBounds_toArray, List.set_cons_zero, List.set_cons_succ]
  refine wpAnyH_take (i := 19) (oi := ⟨_, _, _, _, _, _⟩) (v := ?_) rfl (by kernel_rfl) (by kernel_rfl) (by kernel_rfl) (fun _ _ _ h => h) (Or.inl ⟨by rfl, ?_⟩) hHeld ?_
  rotate_left 1
  · (intro W hSw; (try dsimp only at hSw); go_simp; try with_reducible rfl)
  try simp only [Act.put, List.setIfInBounds_toArray, List.set_cons_zero, List.set_cons_succ]
  refine wpAnyH_take (i := 20) (oi := ⟨_, _, _, _, _, _⟩) (v := ?_) rfl (by kernel_rfl) (by kernel_rfl) (by kernel_rfl) (fun _ _ _ h => h) (Or.inl ⟨by rfl, ?_⟩) hHeld ?_
  rotate_left 1
  · (intro W hSw; (try dsimp only at hSw); go_simp; try with_reducible rfl)
  try simp only [Act.put, List.setIfInBounds_toArray, List.set_cons_zero, List.set_cons_succ]
  refine wpAnyH_take (i := 21) (oi := ⟨_, _, _, _, _, _⟩) (v := ?_) rfl (by kernel_rfl) (by kernel_rfl) (by kernel_rfl) (fun _ _ _ h => h) (Or.inl ⟨by rfl, ?_⟩) hHeld ?_
  rotate_left 1
  · (intro W hSw; (try dsimp only at hSw); go_simp; try with_reducible rfl)
  try simp only [Act.put, List.setIfInBounds_toArray, List.set_cons_zero, List.set_cons_succ]
  refine wpAnyH_take (i := 22) (oi := ⟨_, _, _, _, _, _⟩) (v := ?_) rfl (by kernel_rfl) (by kernel_rfl) (by kernel_rfl) (fun _ _ _ h => h) (Or.inl ⟨by rfl, ?_⟩) hHeld ?_
  rotate_left 1
  · (intro W hSw; (try dsimp only at hSw); go_simp; try with_reducible rfl)
  try simp only [Act.put, List.setIfInBounds_toArray, List.set_cons_zero, List.set_cons_succ]
  refine wpAnyH_take (i := 23) (oi := ⟨_, _, _, _, _, _⟩) (v := ?_) rfl (by kernel_rfl) (by kernel_rfl) (by kernel_rfl) (fun _ _ _ h => h) (Or.inl ⟨by rfl, ?_⟩) hHeld ?_
  rotate_left 1
  · (intro W hSw; (try dsimp only at hSw); have hcs := conv_in HM.out.2.1 (HI2.out.up hSw); go_simp; try with_reducible rfl)
  try simp only [Act.put, List.setIfInBounds_toArray, List.set_cons_zero, List.set_cons_succ]
  refine' wpAnyH_take (i := 24) (oi := ⟨_, _, _, _, _, _⟩) rfl (by kernel_rfl) (by kernel_rfl) (by kernel_rfl) (fun _ _ _ h => h) (yieldsIf_load_mid (by rfl) 73 _ rfl gk 0 rfl (KL) _ (fun W h => HCW.out W (HW1.out.trans (h.mono HW1.out.size))) Tryd.underlying73 rfl (inf21.trans (by rw [HKLL.out]))) hHeld ?_
  try simp only [Act.put, List.setIfInBounds_toArray, List.set_cons_zero, List.set_cons_succ]
  refine wpAnyH_ready (rs := [25]) (by kernel_rfl) (by simp) ?_
  refine AllReadyH.cons (o := ⟨_, _, _, _, _, _⟩) rfl (fun K hK => ?_) AllReadyH.nil
  go_simp
  go_at_call 39
  refine (HSC.out _ (HBW.out.trans ((HW1.out.trans (hHeld.mono HW1.out.size)).mono HBW.out.size))).mono ?_
  rintro e w8 ⟨A8, c8, rfl, hB8, hb8⟩
  try go_wp2_with fail
  have hszx := hHeld.size
  refine hK.out _ _ (hHeld.trans (hb8.mono hszx)) (fun hHeld => ?_)
  clear hK K hszx
  try simp only [Act.put, List.setIfInBounds_toArray, List.set_cons_zero, List.set_cons_succ]
  refine wpAnyH_ready (rs := [26]) (by kernel_rfl) (by simp) ?_
  refine AllReadyH.cons (o := ⟨_, _, _, _, _, _⟩) rfl (fun K hK => ?_) AllReadyH.nil
  have hcv := conv_in HM.out.2.1 (hB8.toIn (Nat.le_refl _))
  go_simp
  refine hK.out _ _ hHeld (fun hHeld => ?_)
  clear hK K hcv
  try simp only [Act.put, List.setIfInBounds_toArray, List.set_cons_zero, List.set_cons_succ]
  refine wpAnyH_take (i := 27) (oi := ⟨_, _, _, _, _, _⟩) (v := ?_) rfl (by kernel_rfl) (by kernel_rfl) (by kernel_rfl) (fun _ _ _ h => h) (Or.inl ⟨by rfl, ?_⟩) hHeld ?_
  rotate_left 1
  · (intro W hSw; (try dsimp only at hSw); go_simp; try with_reducible rfl)
  try simp only [Act.put, List.setIfInBounds_toArray, List.set_cons_zero, List.set_cons_succ]
  refine wpAnyH_take (i := 28) (oi := ⟨_, _, _, _, _, _⟩) (v := ?_) rfl (by kernel_rfl) (by kernel_rfl) (by kernel_rfl) (fun _ _ _ h => h) (Or.inl ⟨by rfl, ?_⟩) hHeld ?_
  rotate_left 1
  · (intro W hSw; (try dsimp only at hSw); go_simp; try with_reducible rfl)
  try simp only [Act.put, List.setIfInBounds_toArray, List.set_cons_zero, List.set_cons_succ]
  refine wpAnyH_done (by kernel_rfl) ?_ _
  refine NoPanic.normal ?_
  replace hHeld : Below w5.heap.size w5 w8 := hHeld
  have HI1W := Lib.hid (HI1.out.up hHeld)
  have HI2W := Lib.hid (HI2.out.up hHeld)
  replace HW1 := Lib.hid (HW1.out.trans (hHeld.mono HW1.out.size))
  clear HI1 HI2
  have HI1 := HI1W
  have HI2 := HI2W
  clear HI1W HI2W
  have HV8 := Lib.hid (HV5.out.below hHeld)
  clear hHeld hB7 hB8 hb6 hb7 hb8 HV5
  rcases HER.out with h0 | h0
  · have hE0 : ei = 0 := by rw [HE.out, h0]; rfl
    subst hE0
    have hc0 := HC0.out w8 HW1.out
    have hM : V.length = M := HV8.out.1
    go_upto_region 9 with (first
      | ((with_reducible refine (?_ : wpList _ _ _ (Oper.mk (some 77) _ _ _ _ _ :: _) _ _)); go_loud (refine wpList_load_mid rfl 22 (.tmp 76) rfl gk 4 rfl (Q.map B8) _ (HCA.out w8 HW1.out) Tryd.underlying22 rfl (inf16.trans (by rw [List.length_map, HQ.out])) ?_))
      | (go_at_call 43; refine (HUN.out h0 _ _ _ _ _ _ (HBW.out.trans (HW1.out.mono HBW.out.size)) (HV8.out.toIn (Nat.le_refl _)) hM HI2.out).mono ?_; rintro e w9 ⟨A9, c9, rfl, hI9, hb9⟩))
    have hck := conv_in HM.out.1 hI9
    have hck2 := conv_in HM.out.1 (HI1.out.up hb9)
    have hc09 := HC0.out w9 (HW1.out.trans (hb9.mono HW1.out.size))
    have hbe := (HBW.out.trans ((HW1.out.trans (hb9.mono HW1.out.size)).mono HBW.out.size))
    clear hc0 hM hI9 hb9 h0
    go_wp2
    go_ret
    exact ⟨rfl, hbe⟩
  · have hE0 : ei = 1 := by rw [HE.out, h0]; rfl
    subst hE0
    have hbe := (HBW.out.trans (HW1.out.mono HBW.out.size))
    clear h0
    go_wp2
    go_ret
    exact ⟨rfl, hbe⟩
end Go.Proofs.YtnbmnognkbcddaaDoor
