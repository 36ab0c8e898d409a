/-
  The walk of the statement WrapBent.
-/
import Derived.Test.YtnbmnognkbcddaaDoorVWwW
import Derived.Test.YtnbmnognkbcddaaDoorVSzW
namespace Go.Proofs.YtnbmnognkbcddaaDoor
open Go.RowKit

theorem in_setCell {w : World} {B c g i : Nat} {A : Option Addr} {xs : List UInt8} (h : In w B A c xs) (hf : ∀ x, A = some x → x.block ≠ g) (v : Value) : In (w.setCell ⟨g, i, none⟩ v) B A c xs :=
  ⟨h.1, h.2.1, fun h0 => by
    obtain ⟨gb, ob, e, hl, hby⟩ := h.2.2 h0
    refine ⟨gb, ob, e, hl, fun j hj => ?_⟩
    rw [World.cell?_setCell_other _ _ _ _ (fun e2 => hf _ e (by injection e2 with e3 _ _; exact e3.symm))]
    exact hby j hj⟩
theorem buf_cell {w : World} {base g n c j : Nat} {bs : List UInt8} (h : Buf w base (some ⟨g, 0, none⟩) n c bs) (hj : j < n) : w.cell? ⟨g, j, none⟩ = some (B8 (bs.getD j 0)) ∧ w.frozen? ⟨g, j, none⟩ = false := by
  rcases h.2 with ⟨_, hn, _⟩ | ⟨k, e, _, _, hnc, _, hby, hfr⟩
  · omega
  · cases e
    refine ⟨?_, (hfr j (by omega)).2⟩
    have := hby j (by rw [h.1]; exact hj)
    rwa [Nat.zero_add] at this
theorem set_map8 (Q : List UInt8) (i : Nat) (z : UInt8) : (Q.map B8).set i (.int .u8 (z.toNat : Int)) = (Q.set i z).map B8 := by
  rw [List.map_set]
theorem ix_mod2 (a : Int) (m : Nat) (h0 : 0 < m) (hm : m < 1000000) : ∃ q : Nat, wrap64 ((IntKind.u64.wrap a).tmod (m : Int)) = (q : Int) ∧ q < m ∧ (q : Int) < (m : Int) ∧ (0 : Int) ≤ (q : Int) ∧ IntKind.u64.wrap (m : Int) = (m : Int) ∧ ¬ (m : Int) = 0 ∧ ((m : Int) == 0) = false := by
  obtain ⟨q, h1, h2⟩ := ix_mod a m h0 hm
  exact ⟨q, h1, h2, by omega, by omega, by rw [IntKind.wrap_u64]; omega, by omega, by simp; omega⟩
set_option maxRecDepth 100000 in
set_option maxHeartbeats 1000000 in
theorem wrapBent_none (kind a : Int) (A As : Option Addr) (n c ns cs : Nat) (s0 s1 bx : UInt8) (Q xk xs : List UInt8) (w : World) (hQ : Q.length = 16) (hk : xk.length = n) (hs : xs.length = ns) (i0 : In w w.heap.size A c xk) (is : In w w.heap.size As cs xs) (ht : TabsQ w) (V : List UInt8) (hW : wrapE kind s0 s1 (xk.take 250) Q (xs.take 60) = (V, 1)) :
    Calls Tryd.prog 10 #[.agg (keyC kind A n c s0 s1 Q As ns cs).toArray, .int .i64 a, .int .u8 (bx.toNat : Int)] w fun e w' => e = .returned (.bool true) ∧ Below w.heap.size w w' := by
  obtain ⟨m, hm⟩ : ∃ m, (xk.take 250).length = m := ⟨_, rfl⟩
  obtain ⟨ms, hms⟩ : ∃ ms, (xs.take 60).length = ms := ⟨_, rfl⟩
  have hm2 : m ≤ 250 := by rw [← hm, List.length_take]; omega
  have hms2 : ms ≤ 60 := by rw [← hms, List.length_take]; omega
  have HKY := Lib.hid (fun (W : World) (h : Below w.heap.size w W) => lkey_e kind A As n c ns cs s0 s1 Q xk xs W hQ hk hs (i0.up h) (is.up h) m hm)
  have HSC := Lib.hid (fun (W : World) (h : Below w.heap.size w W) => lsec_e kind A As n c ns cs s0 s1 Q xk xs W hQ hk hs (i0.up h) (is.up h) ms hms)
  have HWS := Lib.hid (fun (W : World) (h : Below w.heap.size w W) => wraps_e W (ht.below h))
  have HTQ := Lib.hid ht
  generalize xk.take 250 = key at *
  generalize xs.take 60 = sec at *
  have HWR := Lib.hid (fun (W : World) (A1 A2 : Option Addr) (c1 c2 : Nat) (h : Below w.heap.size w W) (i1 : In W W.heap.size A1 c1 key) (i2 : In W W.heap.size A2 c2 sec) =>
    (show Calls Tryd.prog 40 #[.int .i64 kind, .slice A1 m c1, .agg #[.int .u8 (s0.toNat : Int), .int .u8 (s1.toNat : Int)], .agg (Q.map B8).toArray, .slice A2 ms c2] W (fun e w' => ∃ A' M c', e = .returned (.tuple #[.slice A' M c', .int .i64 1]) ∧ Buf w' W.heap.size A' M c' V ∧ Below W.heap.size W w') by
      have hh := wrap_e kind s0 s1 Q key sec A1 A2 c1 c2 m ms W hQ hm hms i1 i2 (ht.below h) (by omega) (by omega)
      rw [hW] at hh
      exact hh))
  have HUN := Lib.hid (fun (W : World) (Q2 V2 : List UInt8) (A3 A2 : Option Addr) (c3 c2 M : Nat) (hQ2 : Q2.length = 16) (h : Below w.heap.size w W) (iv : In W W.heap.size A3 c3 V2) (hM : V2.length = M) (hM2 : M ≤ 216) (i2 : In W W.heap.size A2 c2 sec) =>
    (unwrap_f Q2 V2 sec A3 A2 c3 c2 M ms W hQ2 hM hms iv i2 (ht.below h) (by omega) (by omega)))
  have HRU := Lib.hid (fun (W : World) (Q2 V2 : List UInt8) (hQ2 : Q2.length = 16) (M : Nat) (hM : V2.length = M) (hM2 : M ≤ 216) => runwrap_e Q2 V2 sec W hQ2 (by omega) (by omega))
  have HKLL := Lib.hid (keyC_length kind A As n c ns cs s0 s1 Q hQ)
  have hsalt := keyC_salt kind A As n c ns cs s0 s1 Q
  have hask := keyC_ask kind A As n c ns cs s0 s1 Q hQ
  have hk0 : (keyC kind A n c s0 s1 Q As ns cs)[0]? = some (.int .i64 kind) := rfl
  generalize keyC kind A n c s0 s1 Q As ns cs = KL at *
  have HSA := Lib.hid hsalt
  have HAS := Lib.hid hask
  have HK0 := Lib.hid hk0
  have HQ := Lib.hid hQ
  have HM := Lib.hid (And.intro hm (And.intro hms (And.intro hm2 hms2)))
  clear hsalt hask hk0 hQ hk hs i0 is ht hm hms hm2 hms2 hW
  go_enter Tryd.func10, Tryd.ntmps10
  go_upto_region 1 with (fail)
  have hKb := Blk.new_of w 73 KL.toArray KL rfl
  have hb0 : Below w.heap.size w (w.alloc (.cells KL.toArray 73)) := (Below.refl _ _).alloc (Nat.le_refl _) _
  obtain ⟨gk, hgk'⟩ : ∃ gk, gk = w.heap.size := ⟨_, rfl⟩
  rw [← hgk'] at hKb
  simp only [← hgk']
  have HBK := Lib.hid hKb
  have HBW := Lib.hid hb0
  clear hgk' hb0 hKb
  generalize (w.alloc (.cells KL.toArray 73)) = w1 at *
  have HCW := Lib.hid (fun (W : World) (h : Below w1.heap.size w1 W) => (show W.rangeAt gk 0 KL from rangeAt_of_blk (HBK.out.below h HBK.out.lt)))
  have HCS := Lib.hid (fun (W : World) (h : Below w1.heap.size w1 W) => (show W.rangeAt gk 2 [.int .u8 (s0.toNat : Int), .int .u8 (s1.toNat : Int)] by rw [← HSA.out]; exact range_mid (HBK.out.below h HBK.out.lt) 2 2))
  have HCA := Lib.hid (fun (W : World) (h : Below w1.heap.size w1 W) => (show W.rangeAt gk 4 (Q.map B8) by rw [← HAS.out]; exact range_mid (HBK.out.below h HBK.out.lt) 4 16))
  have HC0 := Lib.hid (fun (W : World) (h : Below w1.heap.size w1 W) => (show W.cell? ⟨gk, 0, none⟩ = some (.int .i64 kind) from ((HBK.out.below h HBK.out.lt).cell 0).trans HK0.out))
  have HW1 := Lib.hid (Below.refl w1.heap.size w1)
  refine wp_region_noPanic ?_
  refine wp_region_held_drew (S := fun W => Below w1.heap.size w1 W) (by kernel_rfl) (by exact below_drewN (Below.refl _ _) 1) (fun hHeld => ?_)
  refine wpAnyH_take (i := 0) (oi := ⟨_, _, _, _, _, _⟩) (v := ?_) rfl (by kernel_rfl) (by kernel_rfl) (by kernel_rfl) (fun _ _ _ h => h) (Or.inl ⟨by rfl, ?_⟩) hHeld ?_
  rotate_left 1
  · (intro W hSw; (try dsimp only at hSw); go_simp; try with_reducible rfl)
  try simp only [Act.put, List.setIfInBounds_toArray, List.set_cons_zero, List.set_cons_succ]
  refine wpAnyH_take (i := 1) (oi := ⟨_, _, _, _, _, _⟩) (v := ?_) rfl (by kernel_rfl) (by kernel_rfl) (by kernel_rfl) (fun _ _ _ h => h) (Or.inl ⟨by rfl, ?_⟩) hHeld ?_
  rotate_left 1
  · (intro W hSw; (try dsimp only at hSw); have hc0 := HC0.out W (HW1.out.trans (hSw.mono HW1.out.size)); go_simp; try with_reducible rfl)
  try simp only [Act.put, List.setIfInBounds_toArray, List.set_cons_zero, List.set_cons_succ]
  refine' wpAnyH_take (i := 2) (oi := ⟨_, _, _, _, _, _⟩) rfl (by kernel_rfl) (by kernel_rfl) (by kernel_rfl) (fun _ _ _ h => h) (yieldsIf_load_mid (by rfl) 73 _ rfl gk 0 rfl (KL) _ (fun W h => HCW.out W (HW1.out.trans (h.mono HW1.out.size))) Tryd.underlying73 rfl (inf21.trans (by rw [HKLL.out]))) hHeld ?_
  try simp only [Act.put, List.setIfInBounds_toArray, List.set_cons_zero, List.set_cons_succ]
  refine wpAnyH_take (i := 4) (oi := ⟨_, _, _, _, _, _⟩) (v := ?_) rfl (by kernel_rfl) (by kernel_rfl) (by kernel_rfl) (fun _ _ _ h => h) (Or.inl ⟨by rfl, ?_⟩) hHeld ?_
  rotate_left 1
  · (intro W hSw; (try dsimp only at hSw); go_simp; try with_reducible rfl)
  try simp only [Act.put, List.setIfInBounds_toArray, List.set_cons_zero, List.set_cons_succ]
  refine' wpAnyH_take (i := 5) (oi := ⟨_, _, _, _, _, _⟩) rfl (by kernel_rfl) (by kernel_rfl) (by kernel_rfl) (fun _ _ _ h => h) (yieldsIf_load_mid (by rfl) 71 _ rfl gk 2 rfl ([.int .u8 (s0.toNat : Int), .int .u8 (s1.toNat : Int)]) _ (fun W h => HCS.out W (HW1.out.trans (h.mono HW1.out.size))) Tryd.underlying71 rfl (inf2)) hHeld ?_
  try simp only [Act.put, List.setIfInBounds_toArray, List.set_cons_zero, List.set_cons_succ]
  refine wpAnyH_take (i := 6) (oi := ⟨_, _, _, _, _, _⟩) (v := ?_) rfl (by kernel_rfl) (by kernel_rfl) (by kernel_rfl) (fun _ _ _ h => h) (Or.inl ⟨by rfl, ?_⟩) hHeld ?_
  rotate_left 1
  · (intro W hSw; (try dsimp only at hSw); go_simp; try with_reducible rfl)
  try simp only [Act.put, List.setIfInBounds_toArray, List.set_cons_zero, List.set_cons_succ]
  refine' wpAnyH_take (i := 7) (oi := ⟨_, _, _, _, _, _⟩) rfl (by kernel_rfl) (by kernel_rfl) (by kernel_rfl) (fun _ _ _ h => h) (yieldsIf_load_mid (by rfl) 22 _ rfl gk 4 rfl (Q.map B8) _ (fun W h => HCA.out W (HW1.out.trans (h.mono HW1.out.size))) Tryd.underlying22 rfl (inf16.trans (by rw [List.length_map, HQ.out]))) hHeld ?_
  try simp only [Act.put, List.setIfInBounds_toArray, List.set_cons_zero, List.set_cons_succ]
  refine' wpAnyH_take (i := 8) (oi := ⟨_, _, _, _, _, _⟩) rfl (by kernel_rfl) (by kernel_rfl) (by kernel_rfl) (fun _ _ _ h => h) (yieldsIf_load_mid (by rfl) 73 _ rfl gk 0 rfl (KL) _ (fun W h => HCW.out W (HW1.out.trans (h.mono HW1.out.size))) Tryd.underlying73 rfl (inf21.trans (by rw [HKLL.out]))) hHeld ?_
  try simp only [Act.put, List.setIfInBounds_toArray, List.set_cons_zero, List.set_cons_succ]
  replace hHeld : Below w1.heap.size w1 w1.drew := hHeld
  generalize w1.drew = wd at *
  refine wpAnyH_ready (rs := [3]) (by kernel_rfl) (by simp) ?_
  refine AllReadyH.cons (o := ⟨_, _, _, _, _, _⟩) rfl (fun K hK => ?_) AllReadyH.nil
  go_simp
  go_at_call 38
  refine (HKY.out _ (HBW.out.trans ((HW1.out.trans (hHeld.mono HW1.out.size)).mono HBW.out.size))).mono ?_
  rintro e wa ⟨A1, c1, rfl, hB1, hb1⟩
  try go_wp2_with fail
  have hszx := hHeld.size
  refine hK.out _ _ (hHeld.trans (hb1.mono hszx)) (fun hHeld => ?_)
  clear hK K hszx
  try simp only [Act.put, List.setIfInBounds_toArray, List.set_cons_zero, List.set_cons_succ]
  refine wpAnyH_ready (rs := [9]) (by kernel_rfl) (by simp) ?_
  refine AllReadyH.cons (o := ⟨_, _, _, _, _, _⟩) rfl (fun K hK => ?_) AllReadyH.nil
  go_simp
  go_at_call 39
  refine (HSC.out _ (HBW.out.trans ((HW1.out.trans (hHeld.mono HW1.out.size)).mono HBW.out.size))).mono ?_
  rintro e wb ⟨A2, c2, rfl, hB2, hb2⟩
  try go_wp2_with fail
  have hszx := hHeld.size
  refine hK.out _ _ (hHeld.trans (hb2.mono hszx)) (fun hHeld => ?_)
  clear hK K hszx
  try simp only [Act.put, List.setIfInBounds_toArray, List.set_cons_zero, List.set_cons_succ]
  refine wpAnyH_ready (rs := [10]) (by kernel_rfl) (by simp) ?_
  refine AllReadyH.cons (o := ⟨_, _, _, _, _, _⟩) rfl (fun K hK => ?_) AllReadyH.nil
  go_simp
  go_at_call 40
  refine (HWR.out _ _ _ _ _ (HBW.out.trans ((HW1.out.trans (hHeld.mono HW1.out.size)).mono HBW.out.size)) ((hB1.toIn (Nat.le_refl _)).up hb2) (hB2.toIn (Nat.le_refl _))).mono ?_
  rintro e w3 ⟨A3, M, c3, rfl, hB3, hb3⟩
  try go_wp2_with fail
  have hszx := hHeld.size
  have HGB := Lib.hid hszx
  refine hK.out _ _ (hHeld.trans (hb3.mono hszx)) (fun hHeld => ?_)
  clear hK K hszx
  try simp only [Act.put, List.setIfInBounds_toArray, List.set_cons_zero, List.set_cons_succ]
  refine wpAnyH_take (i := 11) (oi := ⟨_, _, _, _, _, _⟩) (v := ?_) rfl (by kernel_rfl) (by kernel_rfl) (by kernel_rfl) (fun _ _ _ h => h) (Or.inl ⟨by rfl, ?_⟩) hHeld ?_
  rotate_left 1
  · (intro W hSw; (try dsimp only at hSw); go_simp; try with_reducible rfl)
  try simp only [Act.put, List.setIfInBounds_toArray, List.set_cons_zero, List.set_cons_succ]
  refine wpAnyH_take (i := 12) (oi := ⟨_, _, _, _, _, _⟩) (v := ?_) rfl (by kernel_rfl) (by kernel_rfl) (by kernel_rfl) (fun _ _ _ h => h) (Or.inl ⟨by rfl, ?_⟩) hHeld ?_
  rotate_left 1
  · (intro W hSw; (try dsimp only at hSw); go_simp; try with_reducible rfl)
  try simp only [Act.put, List.setIfInBounds_toArray, List.set_cons_zero, List.set_cons_succ]
  refine wpAnyH_take (i := 13) (oi := ⟨_, _, _, _, _, _⟩) (v := ?_) rfl (by kernel_rfl) (by kernel_rfl) (by kernel_rfl) (fun _ _ _ h => h) (Or.inl ⟨by rfl, ?_⟩) hHeld ?_
  rotate_left 1
  · (intro W hSw; (try dsimp only at hSw); go_simp; try with_reducible rfl)
  try simp only [Act.put, List.setIfInBounds_toArray, List.set_cons_zero, List.set_cons_succ]
  refine wpAnyH_take (i := 14) (oi := ⟨_, _, _, _, _, _⟩) (v := ?_) rfl (by kernel_rfl) (by kernel_rfl) (by kernel_rfl) (fun _ _ _ h => h) (Or.inl ⟨by rfl, ?_⟩) hHeld ?_
  rotate_left 1
  · (intro W hSw; (try dsimp only at hSw); go_simp; try with_reducible rfl)
  try simp only [Act.put, List.setIfInBounds_toArray, List.set_cons_zero, List.set_cons_succ]
  refine wpAnyH_take (i := 15) (oi := ⟨_, _, _, _, _, _⟩) (v := ?_) rfl (by kernel_rfl) (by kernel_rfl) (by kernel_rfl) (fun _ _ _ h => h) (Or.inl ⟨by rfl, ?_⟩) hHeld ?_
  rotate_left 1
  · (intro W hSw; (try dsimp only at hSw); go_simp; try with_reducible rfl)
  try simp only [Act.put, List.setIfInBounds_toArray, List.set_cons_zero, List.set_cons_succ]
  refine wpAnyH_done (by kernel_rfl) ?_ _
  refine NoPanic.normal ?_
  replace hHeld : Below w1.heap.size w1 w3 := hHeld
  replace HW1 := Lib.hid hHeld
  have hM : V.length = M := hB3.1
  have HV := Lib.hid (hB3.base HGB.out)
  clear hHeld hB1 hB2 hb1 hb2 hb3 hB3 HGB
  clear HV hM
  go_upto_region 3 with (go_at_call 42; refine (HWS.out _ (HBW.out.trans (HW1.out.mono HBW.out.size))).mono ?_; rintro e w4 ⟨rfl, hb4⟩)
  replace HW1 := Lib.hid (HW1.out.trans (hb4.mono HW1.out.size))
  clear hb4
  go_wp2_with (go_at_call 42; refine (HWS.out _ (HBW.out.trans (HW1.out.mono HBW.out.size))).mono ?_; rintro e w5 ⟨rfl, hb5⟩)
  go_ret
  exact ⟨rfl, (HBW.out.trans ((HW1.out.trans (hb5.mono HW1.out.size)).mono HBW.out.size))⟩
set_option maxRecDepth 100000 in
set_option maxHeartbeats 1000000 in
theorem wrapBent_some (kind a : Int) (A As : Option Addr) (n c ns cs : Nat) (s0 s1 bx : UInt8) (Q xk xs : List UInt8) (w : World) (hQ : Q.length = 16) (hk : xk.length = n) (hs : xs.length = ns) (i0 : In w w.heap.size A c xk) (is : In w w.heap.size As cs xs) (ht : TabsQ w) (V : List UInt8) (hW : wrapE kind s0 s1 (xk.take 250) Q (xs.take 60) = (V, 0)) (hVL : 24 ≤ V.length ∧ V.length ≤ 216) :
    Calls Tryd.prog 10 #[.agg (keyC kind A n c s0 s1 Q As ns cs).toArray, .int .i64 a, .int .u8 (bx.toNat : Int)] w fun e w' => e = .returned (.bool true) ∧ Below w.heap.size w w' := by
  obtain ⟨m, hm⟩ : ∃ m, (xk.take 250).length = m := ⟨_, rfl⟩
  obtain ⟨ms, hms⟩ : ∃ ms, (xs.take 60).length = ms := ⟨_, rfl⟩
  have hm2 : m ≤ 250 := by rw [← hm, List.length_take]; omega
  have hms2 : ms ≤ 60 := by rw [← hms, List.length_take]; omega
  have HKY := Lib.hid (fun (W : World) (h : Below w.heap.size w W) => lkey_e kind A As n c ns cs s0 s1 Q xk xs W hQ hk hs (i0.up h) (is.up h) m hm)
  have HSC := Lib.hid (fun (W : World) (h : Below w.heap.size w W) => lsec_e kind A As n c ns cs s0 s1 Q xk xs W hQ hk hs (i0.up h) (is.up h) ms hms)
  have HWS := Lib.hid (fun (W : World) (h : Below w.heap.size w W) => wraps_e W (ht.below h))
  have HTQ := Lib.hid ht
  generalize xk.take 250 = key at *
  generalize xs.take 60 = sec at *
  have HWR := Lib.hid (fun (W : World) (A1 A2 : Option Addr) (c1 c2 : Nat) (h : Below w.heap.size w W) (i1 : In W W.heap.size A1 c1 key) (i2 : In W W.heap.size A2 c2 sec) =>
    (show Calls Tryd.prog 40 #[.int .i64 kind, .slice A1 m c1, .agg #[.int .u8 (s0.toNat : Int), .int .u8 (s1.toNat : Int)], .agg (Q.map B8).toArray, .slice A2 ms c2] W (fun e w' => ∃ A' M c', e = .returned (.tuple #[.slice A' M c', .int .i64 0]) ∧ Buf w' W.heap.size A' M c' V ∧ Below W.heap.size W w') by
      have hh := wrap_e kind s0 s1 Q key sec A1 A2 c1 c2 m ms W hQ hm hms i1 i2 (ht.below h) (by omega) (by omega)
      rw [hW] at hh
      exact hh))
  have HUN := Lib.hid (fun (W : World) (Q2 V2 : List UInt8) (A3 A2 : Option Addr) (c3 c2 M : Nat) (hQ2 : Q2.length = 16) (h : Below w.heap.size w W) (iv : In W W.heap.size A3 c3 V2) (hM : V2.length = M) (hM2 : M ≤ 216) (i2 : In W W.heap.size A2 c2 sec) =>
    (unwrap_f Q2 V2 sec A3 A2 c3 c2 M ms W hQ2 hM hms iv i2 (ht.below h) (by omega) (by omega)))
  have HRU := Lib.hid (fun (W : World) (Q2 V2 : List UInt8) (hQ2 : Q2.length = 16) (M : Nat) (hM : V2.length = M) (hM2 : M ≤ 216) => runwrap_e Q2 V2 sec W hQ2 (by omega) (by omega))
  have HKLL := Lib.hid (keyC_length kind A As n c ns cs s0 s1 Q hQ)
  have hsalt := keyC_salt kind A As n c ns cs s0 s1 Q
  have hask := keyC_ask kind A As n c ns cs s0 s1 Q hQ
  have hk0 : (keyC kind A n c s0 s1 Q As ns cs)[0]? = some (.int .i64 kind) := rfl
  generalize keyC kind A n c s0 s1 Q As ns cs = KL at *
  have HSA := Lib.hid hsalt
  have HAS := Lib.hid hask
  have HK0 := Lib.hid hk0
  have HQ := Lib.hid hQ
  have HM := Lib.hid (And.intro hm (And.intro hms (And.intro hm2 hms2)))
  have HVL := Lib.hid hVL
  clear hsalt hask hk0 hQ hk hs i0 is ht hm hms hm2 hms2 hW hVL
  go_enter Tryd.func10, Tryd.ntmps10
  go_upto_region 1 with (fail)
  have hKb := Blk.new_of w 73 KL.toArray KL rfl
  have hb0 : Below w.heap.size w (w.alloc (.cells KL.toArray 73)) := (Below.refl _ _).alloc (Nat.le_refl _) _
  obtain ⟨gk, hgk'⟩ : ∃ gk, gk = w.heap.size := ⟨_, rfl⟩
  rw [← hgk'] at hKb
  simp only [← hgk']
  have HBK := Lib.hid hKb
  have HBW := Lib.hid hb0
  clear hgk' hb0 hKb
  generalize (w.alloc (.cells KL.toArray 73)) = w1 at *
  have HCW := Lib.hid (fun (W : World) (h : Below w1.heap.size w1 W) => (show W.rangeAt gk 0 KL from rangeAt_of_blk (HBK.out.below h HBK.out.lt)))
  have HCS := Lib.hid (fun (W : World) (h : Below w1.heap.size w1 W) => (show W.rangeAt gk 2 [.int .u8 (s0.toNat : Int), .int .u8 (s1.toNat : Int)] by rw [← HSA.out]; exact range_mid (HBK.out.below h HBK.out.lt) 2 2))
  have HCA := Lib.hid (fun (W : World) (h : Below w1.heap.size w1 W) => (show W.rangeAt gk 4 (Q.map B8) by rw [← HAS.out]; exact range_mid (HBK.out.below h HBK.out.lt) 4 16))
  have HC0 := Lib.hid (fun (W : World) (h : Below w1.heap.size w1 W) => (show W.cell? ⟨gk, 0, none⟩ = some (.int .i64 kind) from ((HBK.out.below h HBK.out.lt).cell 0).trans HK0.out))
  have HW1 := Lib.hid (Below.refl w1.heap.size w1)
  refine wp_region_noPanic ?_
  refine wp_region_held_drew (S := fun W => Below w1.heap.size w1 W) (by kernel_rfl) (by exact below_drewN (Below.refl _ _) 1) (fun hHeld => ?_)
  refine wpAnyH_take (i := 0) (oi := ⟨_, _, _, _, _, _⟩) (v := ?_) rfl (by kernel_rfl) (by kernel_rfl) (by kernel_rfl) (fun _ _ _ h => h) (Or.inl ⟨by rfl, ?_⟩) hHeld ?_
  rotate_left 1
  · (intro W hSw; (try dsimp only at hSw); go_simp; try with_reducible rfl)
  try simp only [Act.put, List.setIfInBounds_toArray, List.set_cons_zero, List.set_cons_succ]
  refine wpAnyH_take (i := 1) (oi := ⟨_, _, _, _, _, _⟩) (v := ?_) rfl (by kernel_rfl) (by kernel_rfl) (by kernel_rfl) (fun _ _ _ h => h) (Or.inl ⟨by rfl, ?_⟩) hHeld ?_
  rotate_left 1
  · (intro W hSw; (try dsimp only at hSw); have hc0 := HC0.out W (HW1.out.trans (hSw.mono HW1.out.size)); go_simp; try with_reducible rfl)
  try simp only [Act.put, List.setIfInBounds_toArray, List.set_cons_zero, List.set_cons_succ]
  refine' wpAnyH_take (i := 2) (oi := ⟨_, _, _, _, _, _⟩) rfl (by kernel_rfl) (by kernel_rfl) (by kernel_rfl) (fun _ _ _ h => h) (yieldsIf_load_mid (by rfl) 73 _ rfl gk 0 rfl (KL) _ (fun W h => HCW.out W (HW1.out.trans (h.mono HW1.out.size))) Tryd.underlying73 rfl (inf21.trans (by rw [HKLL.out]))) hHeld ?_
  try simp only [Act.put, List.setIfInBounds_toArray, List.set_cons_zero, List.set_cons_succ]
  refine wpAnyH_take (i := 4) (oi := ⟨_, _, _, _, _, _⟩) (v := ?_) rfl (by kernel_rfl) (by kernel_rfl) (by kernel_rfl) (fun _ _ _ h => h) (Or.inl ⟨by rfl, ?_⟩) hHeld ?_
  rotate_left 1
  · (intro W hSw; (try dsimp only at hSw); go_simp; try with_reducible rfl)
  try simp only [Act.put, List.setIfInBounds_toArray, List.set_cons_zero, List.set_cons_succ]
  refine' wpAnyH_take (i := 5) (oi := ⟨_, _, _, _, _, _⟩) rfl (by kernel_rfl) (by kernel_rfl) (by kernel_rfl) (fun _ _ _ h => h) (yieldsIf_load_mid (by rfl) 71 _ rfl gk 2 rfl ([.int .u8 (s0.toNat : Int), .int .u8 (s1.toNat : Int)]) _ (fun W h => HCS.out W (HW1.out.trans (h.mono HW1.out.size))) Tryd.underlying71 rfl (inf2)) hHeld ?_
  try simp only [Act.put, List.setIfInBounds_toArray, List.set_cons_zero, List.set_cons_succ]
  refine wpAnyH_take (i := 6) (oi := ⟨_, _, _, _, _, _⟩) (v := ?_) rfl (by kernel_rfl) (by kernel_rfl) (by kernel_rfl) (fun _ _ _ h => h) (Or.inl ⟨by rfl, ?_⟩) hHeld ?_
  rotate_left 1
  · (intro W hSw; (try dsimp only at hSw); go_simp; try with_reducible rfl)
  try simp only [Act.put, List.setIfInBounds_toArray, List.set_cons_zero, List.set_cons_succ]
  refine' wpAnyH_take (i := 7) (oi := ⟨_, _, _, _, _, _⟩) rfl (by kernel_rfl) (by kernel_rfl) (by kernel_rfl) (fun _ _ _ h => h) (yieldsIf_load_mid (by rfl) 22 _ rfl gk 4 rfl (Q.map B8) _ (fun W h => HCA.out W (HW1.out.trans (h.mono HW1.out.size))) Tryd.underlying22 rfl (inf16.trans (by rw [List.length_map, HQ.out]))) hHeld ?_
  try simp only [Act.put, List.setIfInBounds_toArray, List.set_cons_zero, List.set_cons_succ]
  refine' wpAnyH_take (i := 8) (oi := ⟨_, _, _, _, _, _⟩) rfl (by kernel_rfl) (by kernel_rfl) (by kernel_rfl) (fun _ _ _ h => h) (yieldsIf_load_mid (by rfl) 73 _ rfl gk 0 rfl (KL) _ (fun W h => HCW.out W (HW1.out.trans (h.mono HW1.out.size))) Tryd.underlying73 rfl (inf21.trans (by rw [HKLL.out]))) hHeld ?_
  try simp only [Act.put, List.setIfInBounds_toArray, List.set_cons_zero, List.set_cons_succ]
  replace hHeld : Below w1.heap.size w1 w1.drew := hHeld
  generalize w1.drew = wd at *
  refine wpAnyH_ready (rs := [3]) (by kernel_rfl) (by simp) ?_
  refine AllReadyH.cons (o := ⟨_, _, _, _, _, _⟩) rfl (fun K hK => ?_) AllReadyH.nil
  go_simp
  go_at_call 38
  refine (HKY.out _ (HBW.out.trans ((HW1.out.trans (hHeld.mono HW1.out.size)).mono HBW.out.size))).mono ?_
  rintro e wa ⟨A1, c1, rfl, hB1, hb1⟩
  try go_wp2_with fail
  have hszx := hHeld.size
  refine hK.out _ _ (hHeld.trans (hb1.mono hszx)) (fun hHeld => ?_)
  clear hK K hszx
  try simp only [Act.put, List.setIfInBounds_toArray, List.set_cons_zero, List.set_cons_succ]
  refine wpAnyH_ready (rs := [9]) (by kernel_rfl) (by simp) ?_
  refine AllReadyH.cons (o := ⟨_, _, _, _, _, _⟩) rfl (fun K hK => ?_) AllReadyH.nil
  go_simp
  go_at_call 39
  refine (HSC.out _ (HBW.out.trans ((HW1.out.trans (hHeld.mono HW1.out.size)).mono HBW.out.size))).mono ?_
  rintro e wb ⟨A2, c2, rfl, hB2, hb2⟩
  try go_wp2_with fail
  have hszx := hHeld.size
  refine hK.out _ _ (hHeld.trans (hb2.mono hszx)) (fun hHeld => ?_)
  clear hK K hszx
  try simp only [Act.put, List.setIfInBounds_toArray, List.set_cons_zero, List.set_cons_succ]
  refine wpAnyH_ready (rs := [10]) (by kernel_rfl) (by simp) ?_
  refine AllReadyH.cons (o := ⟨_, _, _, _, _, _⟩) rfl (fun K hK => ?_) AllReadyH.nil
  go_simp
  go_at_call 40
  refine (HWR.out _ _ _ _ _ (HBW.out.trans ((HW1.out.trans (hHeld.mono HW1.out.size)).mono HBW.out.size)) ((hB1.toIn (Nat.le_refl _)).up hb2) (hB2.toIn (Nat.le_refl _))).mono ?_
  rintro e w3 ⟨A3, M, c3, rfl, hB3, hb3⟩
  try go_wp2_with fail
  have hszx := hHeld.size
  have HGB := Lib.hid hszx
  refine hK.out _ _ (hHeld.trans (hb3.mono hszx)) (fun hHeld => ?_)
  clear hK K hszx
  try simp only [Act.put, List.setIfInBounds_toArray, List.set_cons_zero, List.set_cons_succ]
  refine wpAnyH_take (i := 11) (oi := ⟨_, _, _, _, _, _⟩) (v := ?_) rfl (by kernel_rfl) (by kernel_rfl) (by kernel_rfl) (fun _ _ _ h => h) (Or.inl ⟨by rfl, ?_⟩) hHeld ?_
  rotate_left 1
  · (intro W hSw; (try dsimp only at hSw); go_simp; try with_reducible rfl)
  try simp only [Act.put, List.setIfInBounds_toArray, List.set_cons_zero, List.set_cons_succ]
  refine wpAnyH_take (i := 12) (oi := ⟨_, _, _, _, _, _⟩) (v := ?_) rfl (by kernel_rfl) (by kernel_rfl) (by kernel_rfl) (fun _ _ _ h => h) (Or.inl ⟨by rfl, ?_⟩) hHeld ?_
  rotate_left 1
  · (intro W hSw; (try dsimp only at hSw); go_simp; try with_reducible rfl)
  try simp only [Act.put, List.setIfInBounds_toArray, List.set_cons_zero, List.set_cons_succ]
  refine wpAnyH_take (i := 13) (oi := ⟨_, _, _, _, _, _⟩) (v := ?_) rfl (by kernel_rfl) (by kernel_rfl) (by kernel_rfl) (fun _ _ _ h => h) (Or.inl ⟨by rfl, ?_⟩) hHeld ?_
  rotate_left 1
  · (intro W hSw; (try dsimp only at hSw); go_simp; try with_reducible rfl)
  try simp only [Act.put, List.setIfInBounds_toArray, List.set_cons_zero, List.set_cons_succ]
  refine wpAnyH_take (i := 14) (oi := ⟨_, _, _, _, _, _⟩) (v := ?_) rfl (by kernel_rfl) (by kernel_rfl) (by kernel_rfl) (fun _ _ _ h => h) (Or.inl ⟨by rfl, ?_⟩) hHeld ?_
  rotate_left 1
  · (intro W hSw; (try dsimp only at hSw); go_simp; try with_reducible rfl)
  try simp only [Act.put, List.setIfInBounds_toArray, List.set_cons_zero, List.set_cons_succ]
  refine wpAnyH_take (i := 15) (oi := ⟨_, _, _, _, _, _⟩) (v := ?_) rfl (by kernel_rfl) (by kernel_rfl) (by kernel_rfl) (fun _ _ _ h => h) (Or.inl ⟨by rfl, ?_⟩) hHeld ?_
  rotate_left 1
  · (intro W hSw; (try dsimp only at hSw); go_simp; try with_reducible rfl)
  try simp only [Act.put, List.setIfInBounds_toArray, List.set_cons_zero, List.set_cons_succ]
  refine wpAnyH_done (by kernel_rfl) ?_ _
  refine NoPanic.normal ?_
  replace hHeld : Below w1.heap.size w1 w3 := hHeld
  replace HW1 := Lib.hid hHeld
  have hM : V.length = M := hB3.1
  have HV := Lib.hid (hB3.base HGB.out)
  clear hHeld hB1 hB2 hb1 hb2 hb3 hB3 HGB
  go_upto_region 4 with (go_at_call 42; refine (HWS.out _ (HBW.out.trans (HW1.out.mono HBW.out.size))).mono ?_; rintro e w4 ⟨rfl, hb4⟩)
  replace HW1 := Lib.hid (HW1.out.trans (hb4.mono HW1.out.size))
  replace HV := Lib.hid (HV.out.below hb4)
  have HML := Lib.hid (show 24 ≤ M ∧ M ≤ 216 by rw [← hM]; exact HVL.out)
  obtain ⟨gv, hA3, hgv1, hgv2, hby⟩ := HV.out.at (Nat.lt_of_lt_of_le (by decide) HML.out.1)
  subst hA3
  have HGV := Lib.hid (And.intro hgv1 hgv2)
  have HMV := Lib.hid hM
  clear hb4 hM hgv1 hgv2 hby
  obtain ⟨q1, hq1, hq1n, hq1i, hq10, _, _, _⟩ := ix_mod2 a 16 (by decide) (by decide)
  replace hq1 : wrap64 ((IntKind.u64.wrap a).tmod 16) = (q1 : Int) := hq1
  replace hq1i : (q1 : Int) < 16 := hq1i
  obtain ⟨x1, hx1⟩ : ∃ x1, x1 = Q.getD q1 0 := ⟨_, rfl⟩
  obtain ⟨z1, hz1⟩ : ∃ z1, z1 = x1 ^^^ bx := ⟨_, rfl⟩
  have hxo : bits .xor .u8 (x1.toNat : Int) (bx.toNat : Int) = (z1.toNat : Int) := by rw [hz1]; exact b_xor x1 bx
  obtain ⟨Q2, hQ2⟩ : ∃ Q2, Q2 = Q.set q1 z1 := ⟨_, rfl⟩
  have HQ2 := Lib.hid (show Q2.length = 16 by rw [hQ2, List.length_set]; exact HQ.out)
  go_upto_region 5 with (first
    | ((with_reducible refine (?_ : wpList _ _ _ (Oper.mk (some 43) _ _ _ _ _ :: _) _ _)); go_loud (refine wpList_load_mid rfl 22 (.tmp 42) rfl gk 4 rfl (Q.map B8) _ (HCA.out w4 HW1.out) Tryd.underlying22 rfl (inf16.trans (by rw [List.length_map, HQ.out])) ?_))
    | ((with_reducible refine (?_ : wpList _ _ _ (Oper.mk none _ _ _ _ _ :: _) _ _)); go_loud (refine wpList_store_blk rfl 22 (.tmp 9) (.tmp 43) rfl rfl w4.heap.size (Q.map B8) rfl rfl _ _ (Blk.new_of w4 22 #[.int .u8 0, .int .u8 0, .int .u8 0, .int .u8 0, .int .u8 0, .int .u8 0, .int .u8 0, .int .u8 0, .int .u8 0, .int .u8 0, .int .u8 0, .int .u8 0, .int .u8 0, .int .u8 0, .int .u8 0, .int .u8 0] _ rfl) (inf16.trans (by rw [List.length_map, HQ.out])) (by simp [HQ.out]) (by simp [Value.oneCell', HQ.out]) ?_); intro w5 hS5 hg5))
  have h5a : Below w4.heap.size w4 (w4.alloc (.cells #[.int .u8 0, .int .u8 0, .int .u8 0, .int .u8 0, .int .u8 0, .int .u8 0, .int .u8 0, .int .u8 0, .int .u8 0, .int .u8 0, .int .u8 0, .int .u8 0, .int .u8 0, .int .u8 0, .int .u8 0, .int .u8 0] 22)) := (Below.refl _ _).alloc (Nat.le_refl _) _
  have hb5 : Below w4.heap.size w4 w5 := below_new h5a hg5 (Nat.le_refl _) h5a.size
  have hzw := HW1.out.size
  obtain ⟨g9, hg9⟩ : ∃ g9, g9 = w4.heap.size := ⟨_, rfl⟩
  have HG9 := Lib.hid (show w4.heap.size ≤ g9 by omega)
  rw [← hg9] at hS5 ⊢
  have hcx : w5.cell? ⟨g9, q1, none⟩ = some (.int .u8 (x1.toNat : Int)) := by rw [hx1]; exact hS5.at8 q1 (by rw [HQ.out]; exact hq1n)
  have hcf : w5.frozen? ⟨g9, q1, none⟩ = false := hS5.frozen q1
  have HS5 := Lib.hid hS5
  have HB5 := Lib.hid hb5
  have HQE := Lib.hid hQ2
  clear h5a hg9 hg5 hS5 hb5 hzw hx1 hz1 hQ2
  go_upto_region 6 with (fail)
  obtain ⟨w7, hw7⟩ : ∃ w7, w7 = w5.setCell ⟨g9, q1, none⟩ (.int .u8 (z1.toNat : Int)) := ⟨_, rfl⟩
  have HB9 := Lib.hid (show Blk w7 g9 22 (Q2.map B8) by rw [hw7, HQE.out, ← set_map8]; exact HS5.out.set_ q1 _)
  have hb7 : Below w4.heap.size w4 w7 := by rw [hw7]; exact HB5.out.setCell HG9.out _
  rw [← hw7]
  replace HV := Lib.hid (HV.out.below hb7)
  replace HW1 := Lib.hid (HW1.out.trans (hb7.mono HW1.out.size))
  have HGV7 := Lib.hid (show w1.heap.size ≤ gv ∧ gv < w7.heap.size from ⟨HGV.out.1, Nat.lt_of_lt_of_le HGV.out.2 hb7.size⟩)
  clear hw7 hb7 HGV HB5 HS5 HG9 hcx hcf hxo hq1 hq1i hq10 hq1n HQE
  obtain ⟨E1, E2, E3, hE⟩ : ∃ E1 E2 E3, unwrapE V Q2 sec = (E1, E2, E3) := ⟨_, _, _, rfl⟩
  have HU1 := Lib.hid (fun (W : World) (A3 A2 : Option Addr) (c3 c2 : Nat) (h : Below w.heap.size w W) (iv : In W W.heap.size A3 c3 V) (i2 : In W W.heap.size A2 c2 sec) =>
    (show Calls Tryd.prog 43 #[.slice A3 M c3, .agg (Q2.map B8).toArray, .slice A2 ms c2] W (UnwrapPostF (E1, E2, E3) W) by rw [← hE]; exact HUN.out W Q2 V A3 A2 c3 c2 M HQ2.out h iv HMV.out HML.out.2 i2))
  have HR1 := Lib.hid (fun (W : World) => (show Calls Tryd.prog 44 #[.string ⟨V.toArray⟩, .agg (Q2.map B8).toArray, .string ⟨sec.toArray⟩] W (RUnwrapPost (E1, E2, E3) W) by rw [← hE]; exact HRU.out W Q2 V HQ2.out M HMV.out HML.out.2))
  clear hE
  refine wp_region_noPanic ?_
  refine wp_region_held_drew (S := fun W => Below w7.heap.size w7 W) (by kernel_rfl) (by exact below_drewN (Below.refl _ _) 1) (fun hHeld => ?_)
  refine wpAnyH_take (i := 0) (oi := ⟨_, _, _, _, _, _⟩) (v := ?_) rfl (by kernel_rfl) (by kernel_rfl) (by kernel_rfl) (fun _ _ _ h => h) (Or.inl ⟨by rfl, ?_⟩) hHeld ?_
  rotate_left 1
  · (intro W hSw; (try dsimp only at hSw); go_simp; try with_reducible rfl)
  try simp only [Act.put, List.setIfInBounds_toArray, List.set_cons_zero, List.set_cons_succ]
  refine' wpAnyH_take (i := 1) (oi := ⟨_, _, _, _, _, _⟩) rfl (by kernel_rfl) (by kernel_rfl) (by kernel_rfl) (fun _ _ _ h => h) (yieldsIf_load_mid (by rfl) 22 _ rfl g9 0 rfl (Q2.map B8) _ (fun W h => rangeAt_of_blk (HB9.out.below h HB9.out.lt)) Tryd.underlying22 rfl (inf16.trans (by rw [List.length_map, HQ2.out]))) hHeld ?_
  try simp only [Act.put, List.setIfInBounds_toArray, List.set_cons_zero, List.set_cons_succ]
  refine' wpAnyH_take (i := 2) (oi := ⟨_, _, _, _, _, _⟩) rfl (by kernel_rfl) (by kernel_rfl) (by kernel_rfl) (fun _ _ _ h => h) (yieldsIf_load_mid (by rfl) 73 _ rfl gk 0 rfl (KL) _ (fun W h => HCW.out W (HW1.out.trans (h.mono HW1.out.size))) Tryd.underlying73 rfl (inf21.trans (by rw [HKLL.out]))) hHeld ?_
  try simp only [Act.put, List.setIfInBounds_toArray, List.set_cons_zero, List.set_cons_succ]
  replace hHeld : Below w7.heap.size w7 w7.drew := hHeld
  generalize w7.drew = wd4 at *
  refine wpAnyH_ready (rs := [3]) (by kernel_rfl) (by simp) ?_
  refine AllReadyH.cons (o := ⟨_, _, _, _, _, _⟩) rfl (fun K hK => ?_) AllReadyH.nil
  go_simp
  go_at_call 39
  refine (HSC.out _ (HBW.out.trans ((HW1.out.trans (hHeld.mono HW1.out.size)).mono HBW.out.size))).mono ?_
  rintro e wc ⟨A4, c4, rfl, hB4, hb4⟩
  try go_wp2_with fail
  have hszx := hHeld.size
  refine hK.out _ _ (hHeld.trans (hb4.mono hszx)) (fun hHeld => ?_)
  clear hK K hszx
  try simp only [Act.put, List.setIfInBounds_toArray, List.set_cons_zero, List.set_cons_succ]
  refine wpAnyH_ready (rs := [4]) (by kernel_rfl) (by simp) ?_
  refine AllReadyH.cons (o := ⟨_, _, _, _, _, _⟩) rfl (fun K hK => ?_) AllReadyH.nil
  go_simp
  go_at_call 43
  refine (HU1.out _ _ _ _ _ (HBW.out.trans ((HW1.out.trans (hHeld.mono HW1.out.size)).mono HBW.out.size)) ((HV.out.toIn (Nat.le_refl _)).up hHeld) (hB4.toIn (Nat.le_refl _))).mono ?_
  rintro e w9 ⟨A6, n6, c6, rfl, hl6, hI6, hb6, hf6⟩
  try go_wp2_with fail
  have hszx := hHeld.size
  have HF6 := Lib.hid (fun x (h : A6 = some x) => (Nat.ne_of_gt (Nat.lt_of_lt_of_le (Nat.lt_of_lt_of_le HGV7.out.2 hszx) (hf6 x h)) : x.block ≠ gv))
  refine hK.out _ _ (hHeld.trans (hb6.mono hszx)) (fun hHeld => ?_)
  clear hK K hszx
  try simp only [Act.put, List.setIfInBounds_toArray, List.set_cons_zero, List.set_cons_succ]
  refine wpAnyH_take (i := 5) (oi := ⟨_, _, _, _, _, _⟩) (v := ?_) rfl (by kernel_rfl) (by kernel_rfl) (by kernel_rfl) (fun _ _ _ h => h) (Or.inl ⟨by rfl, ?_⟩) hHeld ?_
  rotate_left 1
  · (intro W hSw; (try dsimp only at hSw); go_simp; try with_reducible rfl)
  try simp only [Act.put, List.setIfInBounds_toArray, List.set_cons_zero, List.set_cons_succ]
  refine wpAnyH_take (i := 6) (oi := ⟨_, _, _, _, _, _⟩) (v := ?_) rfl (by kernel_rfl) (by kernel_rfl) (by kernel_rfl) (fun _ _ _ h => h) (Or.inl ⟨by rfl, ?_⟩) hHeld ?_
  rotate_left 1
  · (intro W hSw; (try dsimp only at hSw); go_simp; try with_reducible rfl)
  try simp only [Act.put, List.setIfInBounds_toArray, List.set_cons_zero, List.set_cons_succ]
  refine wpAnyH_take (i := 7) (oi := ⟨_, _, _, _, _, _⟩) (v := ?_) rfl (by kernel_rfl) (by kernel_rfl) (by kernel_rfl) (fun _ _ _ h => h) (Or.inl ⟨by rfl, ?_⟩) hHeld ?_
  rotate_left 1
  · (intro W hSw; (try dsimp only at hSw); go_simp; try with_reducible rfl)
  try simp only [Act.put, List.setIfInBounds_toArray, List.set_cons_zero, List.set_cons_succ]
  refine wpAnyH_take (i := 8) (oi := ⟨_, _, _, _, _, _⟩) (v := ?_) rfl (by kernel_rfl) (by kernel_rfl) (by kernel_rfl) (fun _ _ _ h => h) (Or.inl ⟨by rfl, ?_⟩) hHeld ?_
  rotate_left 1
  · (intro W hSw; (try dsimp only at hSw); go_simp; try with_reducible rfl)
  try simp only [Act.put, List.setIfInBounds_toArray, List.set_cons_zero, List.set_cons_succ]
  refine wpAnyH_take (i := 9) (oi := ⟨_, _, _, _, _, _⟩) (v := ?_) rfl (by kernel_rfl) (by kernel_rfl) (by kernel_rfl) (fun _ _ _ h => h) (Or.inl ⟨by rfl, ?_⟩) hHeld ?_
  rotate_left 1
  · (intro W hSw; (try dsimp only at hSw); go_simp; try with_reducible rfl)
  try simp only [Act.put, List.setIfInBounds_toArray, List.set_cons_zero, List.set_cons_succ]
  refine wpAnyH_take (i := 10) (oi := ⟨_, _, _, _, _, _⟩) (v := ?_) rfl (by kernel_rfl) (by kernel_rfl) (by kernel_rfl) (fun _ _ _ h => h) (Or.inl ⟨by rfl, ?_⟩) hHeld ?_
  rotate_left 1
  · (intro W hSw; (try dsimp only at hSw); go_simp; try with_reducible rfl)
  try simp only [Act.put, List.setIfInBounds_toArray, List.set_cons_zero, List.set_cons_succ]
  refine wpAnyH_take (i := 11) (oi := ⟨_, _, _, _, _, _⟩) (v := ?_) rfl (by kernel_rfl) (by kernel_rfl) (by kernel_rfl) (fun _ _ _ h => h) (Or.inl ⟨by rfl, ?_⟩) hHeld ?_
  rotate_left 1
  · (intro W hSw; (try dsimp only at hSw); go_simp; try with_reducible rfl)
  try simp only [Act.put, List.setIfInBounds_toArray, List.set_cons_zero, List.set_cons_succ]
  refine wpAnyH_done (by kernel_rfl) ?_ _
  refine NoPanic.normal ?_
  replace hHeld : Below w7.heap.size w7 w9 := hHeld
  replace HW1 := Lib.hid (HW1.out.trans (hHeld.mono HW1.out.size))
  replace HV := Lib.hid (HV.out.below hHeld)
  replace HB9 := Lib.hid (HB9.out.below hHeld HB9.out.lt)
  have HI6 := Lib.hid hI6
  have HL6 := Lib.hid hl6
  have HGV9 := Lib.hid HGV7.out.1
  clear hHeld hB4 hb4 hb6 hI6 hl6 hf6 HGV7
  go_upto_region 7 with (fail)
  refine wp_region_noPanic ?_
  refine wp_region_held_drew (S := fun W => Below w9.heap.size w9 W) (by kernel_rfl) (by exact below_drewN (Below.refl _ _) 1) (fun hHeld => ?_)
  refine wpAnyH_take (i := 0) (oi := ⟨_, _, _, _, _, _⟩) (v := ?_) rfl (by kernel_rfl) (by kernel_rfl) (by kernel_rfl) (fun _ _ _ h => h) (Or.inl ⟨by rfl, ?_⟩) hHeld ?_
  rotate_left 1
  · (intro W hSw; (try dsimp only at hSw); go_simp; try with_reducible rfl)
  try simp only [Act.put, List.setIfInBounds_toArray, List.set_cons_zero, List.set_cons_succ]
  refine wpAnyH_take (i := 1) (oi := ⟨_, _, _, _, _, _⟩) (v := ?_) rfl (by kernel_rfl) (by kernel_rfl) (by kernel_rfl) (fun _ _ _ h => h) (Or.inl ⟨by rfl, ?_⟩) hHeld ?_
  rotate_left 1
  · (intro W hSw; (try dsimp only at hSw); have hcv := conv_in HMV.out ((HV.out.toIn (Nat.le_refl _)).up hSw); go_simp; try with_reducible rfl)
  try simp only [Act.put, List.setIfInBounds_toArray, List.set_cons_zero, List.set_cons_succ]
  refine' wpAnyH_take (i := 2) (oi := ⟨_, _, _, _, _, _⟩) rfl (by kernel_rfl) (by kernel_rfl) (by kernel_rfl) (fun _ _ _ h => h) (yieldsIf_load_mid (by rfl) 22 _ rfl g9 0 rfl (Q2.map B8) _ (fun W h => rangeAt_of_blk (HB9.out.below h HB9.out.lt)) Tryd.underlying22 rfl (inf16.trans (by rw [List.length_map, HQ2.out]))) hHeld ?_
  try simp only [Act.put, List.setIfInBounds_toArray, List.set_cons_zero, List.set_cons_succ]
  refine' wpAnyH_take (i := 3) (oi := ⟨_, _, _, _, _, _⟩) rfl (by kernel_rfl) (by kernel_rfl) (by kernel_rfl) (fun _ _ _ h => h) (yieldsIf_load_mid (by rfl) 73 _ rfl gk 0 rfl (KL) _ (fun W h => HCW.out W (HW1.out.trans (h.mono HW1.out.size))) Tryd.underlying73 rfl (inf21.trans (by rw [HKLL.out]))) hHeld ?_
  try simp only [Act.put, List.setIfInBounds_toArray, List.set_cons_zero, List.set_cons_succ]
  replace hHeld : Below w9.heap.size w9 w9.drew := hHeld
  generalize w9.drew = wd5 at *
  refine wpAnyH_ready (rs := [4]) (by kernel_rfl) (by simp) ?_
  refine AllReadyH.cons (o := ⟨_, _, _, _, _, _⟩) rfl (fun K hK => ?_) AllReadyH.nil
  go_simp
  go_at_call 39
  refine (HSC.out _ (HBW.out.trans ((HW1.out.trans (hHeld.mono HW1.out.size)).mono HBW.out.size))).mono ?_
  rintro e we ⟨A5, c5, rfl, hB5, hb5⟩
  try go_wp2_with fail
  have hszx := hHeld.size
  refine hK.out _ _ (hHeld.trans (hb5.mono hszx)) (fun hHeld => ?_)
  clear hK K hszx
  try simp only [Act.put, List.setIfInBounds_toArray, List.set_cons_zero, List.set_cons_succ]
  refine wpAnyH_ready (rs := [5]) (by kernel_rfl) (by simp) ?_
  refine AllReadyH.cons (o := ⟨_, _, _, _, _, _⟩) rfl (fun K hK => ?_) AllReadyH.nil
  have hcv := conv_in HM.out.2.1 (hB5.toIn (Nat.le_refl _))
  go_simp
  refine hK.out _ _ hHeld (fun hHeld => ?_)
  clear hK K hcv
  try simp only [Act.put, List.setIfInBounds_toArray, List.set_cons_zero, List.set_cons_succ]
  refine wpAnyH_ready (rs := [6]) (by kernel_rfl) (by simp) ?_
  refine AllReadyH.cons (o := ⟨_, _, _, _, _, _⟩) rfl (fun K hK => ?_) AllReadyH.nil
  go_simp
  go_at_call 44
  refine (HR1.out _).mono ?_
  rintro e w11 ⟨rfl, hb7⟩
  try go_wp2_with fail
  have hszx := hHeld.size
  refine hK.out _ _ (hHeld.trans (hb7.mono hszx)) (fun hHeld => ?_)
  clear hK K hszx
  try simp only [Act.put, List.setIfInBounds_toArray, List.set_cons_zero, List.set_cons_succ]
  refine wpAnyH_take (i := 7) (oi := ⟨_, _, _, _, _, _⟩) (v := ?_) rfl (by kernel_rfl) (by kernel_rfl) (by kernel_rfl) (fun _ _ _ h => h) (Or.inl ⟨by rfl, ?_⟩) hHeld ?_
  rotate_left 1
  · (intro W hSw; (try dsimp only at hSw); go_simp; try with_reducible rfl)
  try simp only [Act.put, List.setIfInBounds_toArray, List.set_cons_zero, List.set_cons_succ]
  refine wpAnyH_take (i := 8) (oi := ⟨_, _, _, _, _, _⟩) (v := ?_) rfl (by kernel_rfl) (by kernel_rfl) (by kernel_rfl) (fun _ _ _ h => h) (Or.inl ⟨by rfl, ?_⟩) hHeld ?_
  rotate_left 1
  · (intro W hSw; (try dsimp only at hSw); go_simp; try with_reducible rfl)
  try simp only [Act.put, List.setIfInBounds_toArray, List.set_cons_zero, List.set_cons_succ]
  refine wpAnyH_take (i := 9) (oi := ⟨_, _, _, _, _, _⟩) (v := ?_) rfl (by kernel_rfl) (by kernel_rfl) (by kernel_rfl) (fun _ _ _ h => h) (Or.inl ⟨by rfl, ?_⟩) hHeld ?_
  rotate_left 1
  · (intro W hSw; (try dsimp only at hSw); go_simp; try with_reducible rfl)
  try simp only [Act.put, List.setIfInBounds_toArray, List.set_cons_zero, List.set_cons_succ]
  refine wpAnyH_take (i := 10) (oi := ⟨_, _, _, _, _, _⟩) (v := ?_) rfl (by kernel_rfl) (by kernel_rfl) (by kernel_rfl) (fun _ _ _ h => h) (Or.inl ⟨by rfl, ?_⟩) hHeld ?_
  rotate_left 1
  · (intro W hSw; (try dsimp only at hSw); go_simp; try with_reducible rfl)
  try simp only [Act.put, List.setIfInBounds_toArray, List.set_cons_zero, List.set_cons_succ]
  refine wpAnyH_take (i := 11) (oi := ⟨_, _, _, _, _, _⟩) (v := ?_) rfl (by kernel_rfl) (by kernel_rfl) (by kernel_rfl) (fun _ _ _ h => h) (Or.inl ⟨by rfl, ?_⟩) hHeld ?_
  rotate_left 1
  · (intro W hSw; (try dsimp only at hSw); go_simp; try with_reducible rfl)
  try simp only [Act.put, List.setIfInBounds_toArray, List.set_cons_zero, List.set_cons_succ]
  refine wpAnyH_take (i := 12) (oi := ⟨_, _, _, _, _, _⟩) (v := ?_) rfl (by kernel_rfl) (by kernel_rfl) (by kernel_rfl) (fun _ _ _ h => h) (Or.inl ⟨by rfl, ?_⟩) hHeld ?_
  rotate_left 1
  · (intro W hSw; (try dsimp only at hSw); go_simp; try with_reducible rfl)
  try simp only [Act.put, List.setIfInBounds_toArray, List.set_cons_zero, List.set_cons_succ]
  refine wpAnyH_take (i := 13) (oi := ⟨_, _, _, _, _, _⟩) (v := ?_) rfl (by kernel_rfl) (by kernel_rfl) (by kernel_rfl) (fun _ _ _ h => h) (Or.inl ⟨by rfl, ?_⟩) hHeld ?_
  rotate_left 1
  · (intro W hSw; (try dsimp only at hSw); go_simp; try with_reducible rfl)
  try simp only [Act.put, List.setIfInBounds_toArray, List.set_cons_zero, List.set_cons_succ]
  refine wpAnyH_done (by kernel_rfl) ?_ _
  refine NoPanic.normal ?_
  replace hHeld : Below w9.heap.size w9 w11 := hHeld
  replace HW1 := Lib.hid (HW1.out.trans (hHeld.mono HW1.out.size))
  replace HV := Lib.hid (HV.out.below hHeld)
  replace HI6 := Lib.hid (HI6.out.up hHeld)
  clear hHeld hB5 hb5 hb7 HB9
  obtain ⟨q2, hq2, hq2n, hq2i, hq20, hMu, hM0, hM0b⟩ := ix_mod2 a M (Nat.lt_of_lt_of_le (by decide) HML.out.1) (Nat.lt_of_le_of_lt HML.out.2 (by decide))
  obtain ⟨x2, hx2⟩ : ∃ x2, x2 = V.getD q2 0 := ⟨_, rfl⟩
  obtain ⟨z2, hz2⟩ : ∃ z2, z2 = x2 ^^^ bx := ⟨_, rfl⟩
  have hxo : bits .xor .u8 (x2.toNat : Int) (bx.toNat : Int) = (z2.toNat : Int) := by rw [hz2]; exact b_xor x2 bx
  obtain ⟨hcx, hcf⟩ := buf_cell HV.out hq2n
  rw [← hx2] at hcx
  replace hcx : w11.cell? ⟨gv, q2, none⟩ = some (.int .u8 (x2.toNat : Int)) := hcx
  have HQN := Lib.hid hq2n
  clear hx2 hz2 hq2n
  go_upto_region 9 with (fail)
  obtain ⟨V2, hV2⟩ : ∃ V2, V2 = V.set q2 z2 := ⟨_, rfl⟩
  obtain ⟨w12, hw12⟩ : ∃ w12, w12 = w11.setCell ⟨gv, q2, none⟩ (.int .u8 (z2.toNat : Int)) := ⟨_, rfl⟩
  have HMV2 := Lib.hid (show V2.length = M by rw [hV2, List.length_set]; exact HMV.out)
  replace HV := Lib.hid (HV.out.set HQN.out z2)
  rw [← hV2] at HV
  replace HV := Lib.hid (show Buf w12 w1.heap.size (some ⟨gv, 0, none⟩) M c3 V2 by rw [hw12]; exact HV.out)
  replace HW1 := Lib.hid (show Below w1.heap.size w1 w12 by rw [hw12]; exact HW1.out.setCell HGV9.out _)
  replace HI6 := Lib.hid (show In w12 w12.heap.size A6 c6 E2 by rw [hw12]; exact in_weak (in_setCell HI6.out HF6.out _) (by simp))
  rw [← hw12]
  clear hw12 hV2 hcx hcf hxo hq2 hq2i hq20 hMu hM0 hM0b HQN HF6
  obtain ⟨F1, F2, F3, hE⟩ : ∃ F1 F2 F3, unwrapE V2 Q sec = (F1, F2, F3) := ⟨_, _, _, rfl⟩
  have HU2 := Lib.hid (fun (W : World) (A3 A2 : Option Addr) (c3 c2 : Nat) (h : Below w.heap.size w W) (iv : In W W.heap.size A3 c3 V2) (i2 : In W W.heap.size A2 c2 sec) =>
    (show Calls Tryd.prog 43 #[.slice A3 M c3, .agg (Q.map B8).toArray, .slice A2 ms c2] W (UnwrapPostF (F1, F2, F3) W) by rw [← hE]; exact HUN.out W Q V2 A3 A2 c3 c2 M HQ.out h iv HMV2.out HML.out.2 i2))
  have HR2 := Lib.hid (fun (W : World) => (show Calls Tryd.prog 44 #[.string ⟨V2.toArray⟩, .agg (Q.map B8).toArray, .string ⟨sec.toArray⟩] W (RUnwrapPost (F1, F2, F3) W) by rw [← hE]; exact HRU.out W Q V2 HQ.out M HMV2.out HML.out.2))
  clear hE
  refine wp_region_noPanic ?_
  refine wp_region_held_drew (S := fun W => Below w12.heap.size w12 W) (by kernel_rfl) (by exact below_drewN (Below.refl _ _) 1) (fun hHeld => ?_)
  refine wpAnyH_take (i := 0) (oi := ⟨_, _, _, _, _, _⟩) (v := ?_) rfl (by kernel_rfl) (by kernel_rfl) (by kernel_rfl) (fun _ _ _ h => h) (Or.inl ⟨by rfl, ?_⟩) hHeld ?_
  rotate_left 1
  · (intro W hSw; (try dsimp only at hSw); go_simp; try with_reducible rfl)
  try simp only [Act.put, List.setIfInBounds_toArray, List.set_cons_zero, List.set_cons_succ]
  refine wpAnyH_take (i := 1) (oi := ⟨_, _, _, _, _, _⟩) (v := ?_) rfl (by kernel_rfl) (by kernel_rfl) (by kernel_rfl) (fun _ _ _ h => h) (Or.inl ⟨by rfl, ?_⟩) hHeld ?_
  rotate_left 1
  · (intro W hSw; (try dsimp only at hSw); go_simp; try with_reducible rfl)
  try simp only [Act.put, List.setIfInBounds_toArray, List.set_cons_zero, List.set_cons_succ]
  refine' wpAnyH_take (i := 2) (oi := ⟨_, _, _, _, _, _⟩) rfl (by kernel_rfl) (by kernel_rfl) (by kernel_rfl) (fun _ _ _ h => h) (yieldsIf_load_mid (by rfl) 22 _ rfl gk 4 rfl (Q.map B8) _ (fun W h => HCA.out W (HW1.out.trans (h.mono HW1.out.size))) Tryd.underlying22 rfl (inf16.trans (by rw [List.length_map, HQ.out]))) hHeld ?_
  try simp only [Act.put, List.setIfInBounds_toArray, List.set_cons_zero, List.set_cons_succ]
  refine' wpAnyH_take (i := 3) (oi := ⟨_, _, _, _, _, _⟩) rfl (by kernel_rfl) (by kernel_rfl) (by kernel_rfl) (fun _ _ _ h => h) (yieldsIf_load_mid (by rfl) 73 _ rfl gk 0 rfl (KL) _ (fun W h => HCW.out W (HW1.out.trans (h.mono HW1.out.size))) Tryd.underlying73 rfl (inf21.trans (by rw [HKLL.out]))) hHeld ?_
  try simp only [Act.put, List.setIfInBounds_toArray, List.set_cons_zero, List.set_cons_succ]
  replace hHeld : Below w12.heap.size w12 w12.drew := hHeld
  generalize w12.drew = wd6 at *
  refine wpAnyH_ready (rs := [4]) (by kernel_rfl) (by simp) ?_
  refine AllReadyH.cons (o := ⟨_, _, _, _, _, _⟩) rfl (fun K hK => ?_) AllReadyH.nil
  go_simp
  go_at_call 39
  refine (HSC.out _ (HBW.out.trans ((HW1.out.trans (hHeld.mono HW1.out.size)).mono HBW.out.size))).mono ?_
  rintro e wf ⟨A7, c7, rfl, hB7, hb7⟩
  try go_wp2_with fail
  have hszx := hHeld.size
  refine hK.out _ _ (hHeld.trans (hb7.mono hszx)) (fun hHeld => ?_)
  clear hK K hszx
  try simp only [Act.put, List.setIfInBounds_toArray, List.set_cons_zero, List.set_cons_succ]
  refine wpAnyH_ready (rs := [5]) (by kernel_rfl) (by simp) ?_
  refine AllReadyH.cons (o := ⟨_, _, _, _, _, _⟩) rfl (fun K hK => ?_) AllReadyH.nil
  go_simp
  go_at_call 43
  refine (HU2.out _ _ _ _ _ (HBW.out.trans ((HW1.out.trans (hHeld.mono HW1.out.size)).mono HBW.out.size)) ((HV.out.toIn (Nat.le_refl _)).up hHeld) (hB7.toIn (Nat.le_refl _))).mono ?_
  rintro e w14 ⟨A8, n8, c8, rfl, hl8, hI8, hb8, _⟩
  try go_wp2_with fail
  have hszx := hHeld.size
  refine hK.out _ _ (hHeld.trans (hb8.mono hszx)) (fun hHeld => ?_)
  clear hK K hszx
  try simp only [Act.put, List.setIfInBounds_toArray, List.set_cons_zero, List.set_cons_succ]
  refine wpAnyH_take (i := 6) (oi := ⟨_, _, _, _, _, _⟩) (v := ?_) rfl (by kernel_rfl) (by kernel_rfl) (by kernel_rfl) (fun _ _ _ h => h) (Or.inl ⟨by rfl, ?_⟩) hHeld ?_
  rotate_left 1
  · (intro W hSw; (try dsimp only at hSw); go_simp; try with_reducible rfl)
  try simp only [Act.put, List.setIfInBounds_toArray, List.set_cons_zero, List.set_cons_succ]
  refine wpAnyH_take (i := 7) (oi := ⟨_, _, _, _, _, _⟩) (v := ?_) rfl (by kernel_rfl) (by kernel_rfl) (by kernel_rfl) (fun _ _ _ h => h) (Or.inl ⟨by rfl, ?_⟩) hHeld ?_
  rotate_left 1
  · (intro W hSw; (try dsimp only at hSw); go_simp; try with_reducible rfl)
  try simp only [Act.put, List.setIfInBounds_toArray, List.set_cons_zero, List.set_cons_succ]
  refine wpAnyH_take (i := 8) (oi := ⟨_, _, _, _, _, _⟩) (v := ?_) rfl (by kernel_rfl) (by kernel_rfl) (by kernel_rfl) (fun _ _ _ h => h) (Or.inl ⟨by rfl, ?_⟩) hHeld ?_
  rotate_left 1
  · (intro W hSw; (try dsimp only at hSw); go_simp; try with_reducible rfl)
  try simp only [Act.put, List.setIfInBounds_toArray, List.set_cons_zero, List.set_cons_succ]
  refine wpAnyH_take (i := 9) (oi := ⟨_, _, _, _, _, _⟩) (v := ?_) rfl (by kernel_rfl) (by kernel_rfl) (by kernel_rfl) (fun _ _ _ h => h) (Or.inl ⟨by rfl, ?_⟩) hHeld ?_
  rotate_left 1
  · (intro W hSw; (try dsimp only at hSw); go_simp; try with_reducible rfl)
  try simp only [Act.put, List.setIfInBounds_toArray, List.set_cons_zero, List.set_cons_succ]
  refine wpAnyH_take (i := 10) (oi := ⟨_, _, _, _, _, _⟩) (v := ?_) rfl (by kernel_rfl) (by kernel_rfl) (by kernel_rfl) (fun _ _ _ h => h) (Or.inl ⟨by rfl, ?_⟩) hHeld ?_
  rotate_left 1
  · (intro W hSw; (try dsimp only at hSw); go_simp; try with_reducible rfl)
  try simp only [Act.put, List.setIfInBounds_toArray, List.set_cons_zero, List.set_cons_succ]
  refine wpAnyH_take (i := 11) (oi := ⟨_, _, _, _, _, _⟩) (v := ?_) rfl (by kernel_rfl) (by kernel_rfl) (by kernel_rfl) (fun _ _ _ h => h) (Or.inl ⟨by rfl, ?_⟩) hHeld ?_
  rotate_left 1
  · (intro W hSw; (try dsimp only at hSw); go_simp; try with_reducible rfl)
  try simp only [Act.put, List.setIfInBounds_toArray, List.set_cons_zero, List.set_cons_succ]
  refine wpAnyH_take (i := 12) (oi := ⟨_, _, _, _, _, _⟩) (v := ?_) rfl (by kernel_rfl) (by kernel_rfl) (by kernel_rfl) (fun _ _ _ h => h) (Or.inl ⟨by rfl, ?_⟩) hHeld ?_
  rotate_left 1
  · (intro W hSw; (try dsimp only at hSw); go_simp; try with_reducible rfl)
  try simp only [Act.put, List.setIfInBounds_toArray, List.set_cons_zero, List.set_cons_succ]
  refine wpAnyH_done (by kernel_rfl) ?_ _
  refine NoPanic.normal ?_
  replace hHeld : Below w12.heap.size w12 w14 := hHeld
  replace HW1 := Lib.hid (HW1.out.trans (hHeld.mono HW1.out.size))
  replace HV := Lib.hid (HV.out.below hHeld)
  replace HI6 := Lib.hid (HI6.out.up hHeld)
  have HI8 := Lib.hid hI8
  have HL8 := Lib.hid hl8
  clear hHeld hB7 hb7 hb8 hI8 hl8
  go_upto_region 10 with (fail)
  refine wp_region_noPanic ?_
  refine wp_region_held_drew (S := fun W => Below w14.heap.size w14 W) (by kernel_rfl) (by exact below_drewN (Below.refl _ _) 1) (fun hHeld => ?_)
  refine wpAnyH_take (i := 0) (oi := ⟨_, _, _, _, _, _⟩) (v := ?_) rfl (by kernel_rfl) (by kernel_rfl) (by kernel_rfl) (fun _ _ _ h => h) (Or.inl ⟨by rfl, ?_⟩) hHeld ?_
  rotate_left 1
  · (intro W hSw; (try dsimp only at hSw); go_simp; try with_reducible rfl)
  try simp only [Act.put, List.setIfInBounds_toArray, List.set_cons_zero, List.set_cons_succ]
  refine wpAnyH_take (i := 1) (oi := ⟨_, _, _, _, _, _⟩) (v := ?_) rfl (by kernel_rfl) (by kernel_rfl) (by kernel_rfl) (fun _ _ _ h => h) (Or.inl ⟨by rfl, ?_⟩) hHeld ?_
  rotate_left 1
  · (intro W hSw; (try dsimp only at hSw); have hcv := conv_in HMV2.out ((HV.out.toIn (Nat.le_refl _)).up hSw); go_simp; try with_reducible rfl)
  try simp only [Act.put, List.setIfInBounds_toArray, List.set_cons_zero, List.set_cons_succ]
  refine wpAnyH_take (i := 2) (oi := ⟨_, _, _, _, _, _⟩) (v := ?_) rfl (by kernel_rfl) (by kernel_rfl) (by kernel_rfl) (fun _ _ _ h => h) (Or.inl ⟨by rfl, ?_⟩) hHeld ?_
  rotate_left 1
  · (intro W hSw; (try dsimp only at hSw); go_simp; try with_reducible rfl)
  try simp only [Act.put, List.setIfInBounds_toArray, List.set_cons_zero, List.set_cons_succ]
  refine' wpAnyH_take (i := 3) (oi := ⟨_, _, _, _, _, _⟩) rfl (by kernel_rfl) (by kernel_rfl) (by kernel_rfl) (fun _ _ _ h => h) (yieldsIf_load_mid (by rfl) 22 _ rfl gk 4 rfl (Q.map B8) _ (fun W h => HCA.out W (HW1.out.trans (h.mono HW1.out.size))) Tryd.underlying22 rfl (inf16.trans (by rw [List.length_map, HQ.out]))) hHeld ?_
  try simp only [Act.put, List.setIfInBounds_toArray, List.set_cons_zero, List.set_cons_succ]
  refine' wpAnyH_take (i := 4) (oi := ⟨_, _, _, _, _, _⟩) rfl (by kernel_rfl) (by kernel_rfl) (by kernel_rfl) (fun _ _ _ h => h) (yieldsIf_load_mid (by rfl) 73 _ rfl gk 0 rfl (KL) _ (fun W h => HCW.out W (HW1.out.trans (h.mono HW1.out.size))) Tryd.underlying73 rfl (inf21.trans (by rw [HKLL.out]))) hHeld ?_
  try simp only [Act.put, List.setIfInBounds_toArray, List.set_cons_zero, List.set_cons_succ]
  replace hHeld : Below w14.heap.size w14 w14.drew := hHeld
  generalize w14.drew = wd7 at *
  refine wpAnyH_ready (rs := [5]) (by kernel_rfl) (by simp) ?_
  refine AllReadyH.cons (o := ⟨_, _, _, _, _, _⟩) rfl (fun K hK => ?_) AllReadyH.nil
  go_simp
  go_at_call 39
  refine (HSC.out _ (HBW.out.trans ((HW1.out.trans (hHeld.mono HW1.out.size)).mono HBW.out.size))).mono ?_
  rintro e wg ⟨A9, c9, rfl, hB9, hb9⟩
  try go_wp2_with fail
  have hszx := hHeld.size
  refine hK.out _ _ (hHeld.trans (hb9.mono hszx)) (fun hHeld => ?_)
  clear hK K hszx
  try simp only [Act.put, List.setIfInBounds_toArray, List.set_cons_zero, List.set_cons_succ]
  refine wpAnyH_ready (rs := [6]) (by kernel_rfl) (by simp) ?_
  refine AllReadyH.cons (o := ⟨_, _, _, _, _, _⟩) rfl (fun K hK => ?_) AllReadyH.nil
  have hcv := conv_in HM.out.2.1 (hB9.toIn (Nat.le_refl _))
  go_simp
  refine hK.out _ _ hHeld (fun hHeld => ?_)
  clear hK K hcv
  try simp only [Act.put, List.setIfInBounds_toArray, List.set_cons_zero, List.set_cons_succ]
  refine wpAnyH_ready (rs := [7]) (by kernel_rfl) (by simp) ?_
  refine AllReadyH.cons (o := ⟨_, _, _, _, _, _⟩) rfl (fun K hK => ?_) AllReadyH.nil
  go_simp
  go_at_call 44
  refine (HR2.out _).mono ?_
  rintro e w16 ⟨rfl, hb16⟩
  try go_wp2_with fail
  have hszx := hHeld.size
  refine hK.out _ _ (hHeld.trans (hb16.mono hszx)) (fun hHeld => ?_)
  clear hK K hszx
  try simp only [Act.put, List.setIfInBounds_toArray, List.set_cons_zero, List.set_cons_succ]
  refine wpAnyH_take (i := 8) (oi := ⟨_, _, _, _, _, _⟩) (v := ?_) rfl (by kernel_rfl) (by kernel_rfl) (by kernel_rfl) (fun _ _ _ h => h) (Or.inl ⟨by rfl, ?_⟩) hHeld ?_
  rotate_left 1
  · (intro W hSw; (try dsimp only at hSw); go_simp; try with_reducible rfl)
  try simp only [Act.put, List.setIfInBounds_toArray, List.set_cons_zero, List.set_cons_succ]
  refine wpAnyH_take (i := 9) (oi := ⟨_, _, _, _, _, _⟩) (v := ?_) rfl (by kernel_rfl) (by kernel_rfl) (by kernel_rfl) (fun _ _ _ h => h) (Or.inl ⟨by rfl, ?_⟩) hHeld ?_
  rotate_left 1
  · (intro W hSw; (try dsimp only at hSw); go_simp; try with_reducible rfl)
  try simp only [Act.put, List.setIfInBounds_toArray, List.set_cons_zero, List.set_cons_succ]
  refine wpAnyH_take (i := 10) (oi := ⟨_, _, _, _, _, _⟩) (v := ?_) rfl (by kernel_rfl) (by kernel_rfl) (by kernel_rfl) (fun _ _ _ h => h) (Or.inl ⟨by rfl, ?_⟩) hHeld ?_
  rotate_left 1
  · (intro W hSw; (try dsimp only at hSw); go_simp; try with_reducible rfl)
  try simp only [Act.put, List.setIfInBounds_toArray, List.set_cons_zero, List.set_cons_succ]
  refine wpAnyH_take (i := 11) (oi := ⟨_, _, _, _, _, _⟩) (v := ?_) rfl (by kernel_rfl) (by kernel_rfl) (by kernel_rfl) (fun _ _ _ h => h) (Or.inl ⟨by rfl, ?_⟩) hHeld ?_
  rotate_left 1
  · (intro W hSw; (try dsimp only at hSw); go_simp; try with_reducible rfl)
  try simp only [Act.put, List.setIfInBounds_toArray, List.set_cons_zero, List.set_cons_succ]
  refine wpAnyH_take (i := 12) (oi := ⟨_, _, _, _, _, _⟩) (v := ?_) rfl (by kernel_rfl) (by kernel_rfl) (by kernel_rfl) (fun _ _ _ h => h) (Or.inl ⟨by rfl, ?_⟩) hHeld ?_
  rotate_left 1
  · (intro W hSw; (try dsimp only at hSw); go_simp; try with_reducible rfl)
  try simp only [Act.put, List.setIfInBounds_toArray, List.set_cons_zero, List.set_cons_succ]
  refine wpAnyH_take (i := 13) (oi := ⟨_, _, _, _, _, _⟩) (v := ?_) rfl (by kernel_rfl) (by kernel_rfl) (by kernel_rfl) (fun _ _ _ h => h) (Or.inl ⟨by rfl, ?_⟩) hHeld ?_
  rotate_left 1
  · (intro W hSw; (try dsimp only at hSw); go_simp; try with_reducible rfl)
  try simp only [Act.put, List.setIfInBounds_toArray, List.set_cons_zero, List.set_cons_succ]
  refine wpAnyH_take (i := 14) (oi := ⟨_, _, _, _, _, _⟩) (v := ?_) rfl (by kernel_rfl) (by kernel_rfl) (by kernel_rfl) (fun _ _ _ h => h) (Or.inl ⟨by rfl, ?_⟩) hHeld ?_
  rotate_left 1
  · (intro W hSw; (try dsimp only at hSw); go_simp; try with_reducible rfl)
  try simp only [Act.put, List.setIfInBounds_toArray, List.set_cons_zero, List.set_cons_succ]
  refine wpAnyH_done (by kernel_rfl) ?_ _
  refine NoPanic.normal ?_
  replace hHeld : Below w14.heap.size w14 w16 := hHeld
  have hc6 := conv_in HL6.out (HI6.out.up hHeld)
  have hc8 := conv_in HL8.out (HI8.out.up hHeld)
  have hbe := (HBW.out.trans ((HW1.out.trans (hHeld.mono HW1.out.size)).mono HBW.out.size))
  clear hHeld hB9 hb9 hb16
  go_wp2
  go_ret
  exact ⟨rfl, hbe⟩
set_option maxRecDepth 100000 in
set_option maxHeartbeats 1000000 in
theorem wrapBent_walk (kind a : Int) (A As : Option Addr) (n c ns cs : Nat) (s0 s1 bx : UInt8) (Q xk xs : List UInt8) (w : World) (hQ : Q.length = 16) (hk : xk.length = n) (hs : xs.length = ns) (i0 : In w w.heap.size A c xk) (is : In w w.heap.size As cs xs) (ht : TabsQ w) :
    Calls Tryd.prog 10 #[.agg (keyC kind A n c s0 s1 Q As ns cs).toArray, .int .i64 a, .int .u8 (bx.toNat : Int)] w fun e w' => e = .returned (.bool true) ∧ Below w.heap.size w w' := by
  obtain ⟨V, er, hW⟩ : ∃ V er, wrapE kind s0 s1 (xk.take 250) Q (xs.take 60) = (V, er) := ⟨_, _, rfl⟩
  have her := wrap_err kind s0 s1 (xk.take 250) Q (xs.take 60)
  rw [hW] at her
  rcases her with rfl | rfl
  · exact wrapBent_some kind a A As n c ns cs s0 s1 bx Q xk xs w hQ hk hs i0 is ht V hW ⟨(wrap_len hW).1, (wrap_len hW).2.1⟩
  · exact wrapBent_none kind a A As n c ns cs s0 s1 bx Q xk xs w hQ hk hs i0 is ht V hW
end Go.Proofs.YtnbmnognkbcddaaDoor
