/-
  The walk of the statement WrapSalts.
-/
import Derived.Test.YtnbmnognkbcddaaDoorVSzW
import Derived.Test.YtnbmnognkbcddaaDoorVUnW
namespace Go.Proofs.YtnbmnognkbcddaaDoor
open Go.RowKit

def secretL : List UInt8 := [115, 101, 99, 114, 101, 116]
theorem or_bits2 (b : UInt8) : bits .or .u8 128 (b.toNat : Int) = (((128 ||| b : UInt8).toNat : Nat) : Int) := by
  rw [UInt8.toNat_or]
  have h : ∀ n : Fin 256, bits .or .u8 128 ((n.val : Nat) : Int) = ((128 ||| n.val : Nat) : Int) := by decide +kernel
  exact h ⟨b.toNat, b.toNat_lt⟩
theorem or_high2 (b : UInt8) : 128 ≤ (128 ||| b).toNat := by
  rw [UInt8.toNat_or]
  exact Nat.left_le_or
theorem ix_s1 {key : List UInt8} {n n1 : Nat} (h : key.length = n1) (h1 : n1 = 1 + n) : 0 < key.length := by omega
theorem ix_s2 {key : List UInt8} {n n1 : Nat} (h : key.length = n1) (h1 : n1 = 1 + n ∧ n ≤ 100) : key.length ≤ 101 := by omega
theorem ix_s3 {n n1 : Nat} (h1 : n1 = 1 + n ∧ n ≤ 100) : n1 ≤ 1000000 := by omega
theorem ix_le7 {n : Nat} (h : n ≤ 100) : 1 + n ≤ 1099511627776 := by omega
theorem salts_v (x y : UInt8) (key : List UInt8) (Q : List UInt8) (h0 : 0 < key.length) (h1 : key.length ≤ 101) (hx : 128 ≤ x.toNat) :
    ∃ V : List UInt8, wrapE 16 x y key Q secretL = (V, 0) ∧ 24 ≤ V.length ∧ V.length ≤ 216 ∧ V.getD 6 0 = x ∧ V.getD 7 0 = y ∧ unwrapE V Q secretL = (16, key, 0) := by
  have hW : wrapE 16 x y key Q secretL = (wrapB 16 x y key Q secretL, 0) := by
    unfold wrapE; rw [if_pos]; · rfl
    unfold mayW; simp; omega
  obtain ⟨hl, hl2, _⟩ := wrap_len hW
  exact ⟨_, hW, hl, hl2, rfl, rfl, unwrap_wrap hW⟩
set_option maxRecDepth 100000 in
set_option maxHeartbeats 1000000 in
theorem wrapSalts_walk (A : Option Addr) (c : Nat) (xk : List UInt8) (s0 s1 k0 k1 : UInt8) (w : World) (i0 : In w w.heap.size A c xk) (ht : TabsQ w) :
    Calls Tryd.prog 12 #[.slice A xk.length c, .agg #[.int .u8 (s0.toNat : Int), .int .u8 (s1.toNat : Int)], .agg #[.int .u8 (k0.toNat : Int), .int .u8 (k1.toNat : Int)]] w fun e w' => e = .returned (.bool true) ∧ Below w.heap.size w w' := by
  obtain ⟨n, hn⟩ : ∃ n, (xk.take 100).length = n := ⟨_, rfl⟩
  obtain ⟨hm1, hm2, hm3⟩ := ix_min n 100 xk hn
  replace hm1 : min (xk.length : Int) 100 = (n : Int) := hm1
  have jA := i0.take 100
  obtain ⟨_, hc1, _⟩ := i0
  have hmc : n ≤ c := by rw [← hn]; exact jA.1
  obtain ⟨n1, hn1⟩ : ∃ n1, n1 = 1 + n := ⟨_, rfl⟩
  obtain ⟨key, hkey⟩ : ∃ key, key = 1 :: xk.take 100 := ⟨_, rfl⟩
  have hkl : key.length = n1 := by rw [hkey, List.length_cons, hn, hn1]; omega
  generalize xk.take 100 = v at *
  have HSV := Lib.hid (fun (W : World) (h : Below w.heap.size w W) => (show _root_.Go.Src Tryd.prog 1 26 (.slice A n c) v.length (v.map B8) W from src_at ((jA.up h).src (Nat.le_refl _)) hn))
  have HWS := Lib.hid (fun (W : World) (h : Below w.heap.size w W) => wraps_e W (ht.below h))
  have HN := Lib.hid hn
  have HN1 := Lib.hid (And.intro hn1 hm2)
  have HK := Lib.hid hkey
  have HKL := Lib.hid hkl
  have HTQ := Lib.hid ht
  clear hn jA ht hm2 hn1 hkey hkl
  go_enter Tryd.func12, Tryd.ntmps12
  go_upto_region 1 with (fail)
  have hS := (Blk.new_of w 71 #[.int .u8 (s0.toNat : Int), .int .u8 (s1.toNat : Int)] ([s0, s1].map B8) rfl).alloc (.cells #[.int .u8 (k0.toNat : Int), .int .u8 (k1.toNat : Int)] 71)
  have hA := Blk.new2_of w (.cells #[.int .u8 (s0.toNat : Int), .int .u8 (s1.toNat : Int)] 71) 71 #[.int .u8 (k0.toNat : Int), .int .u8 (k1.toNat : Int)] ([k0, k1].map B8) rfl
  have hb0 : Below w.heap.size w (w.alloc (.cells #[.int .u8 (s0.toNat : Int), .int .u8 (s1.toNat : Int)] 71)) := (Below.refl _ _).alloc (Nat.le_refl _) _
  have hbw := hb0.alloc hb0.size (.cells #[.int .u8 (k0.toNat : Int), .int .u8 (k1.toNat : Int)] 71)
  obtain ⟨gs, hgs'⟩ : ∃ gs, gs = w.heap.size := ⟨_, rfl⟩
  obtain ⟨ga, hga'⟩ : ∃ ga, ga = w.heap.size + 1 := ⟨_, rfl⟩
  rw [← hga'] at hA ⊢
  rw [← hgs'] at hS
  simp only [← hgs']
  have HBW := Lib.hid hbw
  have HS := Lib.hid (show Blk ((w.alloc (.cells #[.int .u8 (s0.toNat : Int), .int .u8 (s1.toNat : Int)] 71)).alloc (.cells #[.int .u8 (k0.toNat : Int), .int .u8 (k1.toNat : Int)] 71)) gs 71 ([s0, s1].map B8) from hS)
  have HA := Lib.hid hA
  clear hb0 hbw hgs' hga' hS hA
  generalize (w.alloc (.cells #[.int .u8 (s0.toNat : Int), .int .u8 (s1.toNat : Int)] 71)).alloc (.cells #[.int .u8 (k0.toNat : Int), .int .u8 (k1.toNat : Int)] 71) = w1 at *
  go_upto_region 2 with ((with_reducible refine (?_ : wpList _ _ _ (Oper.mk (some 20) _ _ _ _ _ :: _) _ _)); go_loud (refine wpList_append_far rfl (.tmp 14) (.tmp 19) 26 rfl w1.heap.size _ 1 1 [1] v _ rfl (buf_lit w1 [1] 1 5 rfl (by decide)) rfl (HSV.out _ (HBW.out.alloc HBW.out.size _)) (by rw [HN.out]; exact ix_le7 HN1.out.2) (by simp) n1 (by rw [HN.out]; exact HN1.out.1) ?_); intro A2 c2 w2 hB2 hg2 _)
  have hb2 : Below w1.heap.size w1 w2 := below_own ((Below.refl _ _).alloc (Nat.le_refl _) _) (buf_lit w1 [1] 1 5 rfl (by decide)) hg2 (Nat.le_refl _) (by simp)
  have HI2 := Lib.hid (show In w2 w2.heap.size A2 c2 key by rw [HK.out]; exact hB2.toIn (Nat.le_refl _))
  have HS2 := Lib.hid (HS.out.below hb2 HS.out.lt)
  have HA2 := Lib.hid (HA.out.below hb2 HA.out.lt)
  have HB2 := Lib.hid (HBW.out.trans (hb2.mono HBW.out.size))
  clear hB2 hg2 hb2 HSV hm1 hm3 hc1 hmc HS HA HBW
  go_wp2
  go_loopw [7] (fun i wr => ∃ k : Nat, k ≤ 2 ∧ i = .int .i64 (k : Int) ∧ Below w2.heap.size w2 wr) (fun i _ => 2 - (intOf i).toNat)
  case atStart => exact ⟨0, by decide, rfl, Below.refl _ _⟩
  case round =>
    obtain ⟨k, hk2, rfl, hbr⟩ := hrel
    by_cases hlt : k < 2
    · have hd : decide ((k : Int) < 2) = true := by simpa using Int.ofNat_lt.2 hlt
      have hki : (k : Int) < 2 := Int.ofNat_lt.2 hlt
      have hk0 : (0 : Int) ≤ (k : Int) := Int.natCast_nonneg k
      obtain ⟨x, hx⟩ : ∃ x, x = [s0, s1].getD k 0 := ⟨_, rfl⟩
      obtain ⟨z, hz⟩ : ∃ z, z = [k0, k1].getD k 0 := ⟨_, rfl⟩
      have hza : wr.cell? ⟨ga, k, none⟩ = some (.int .u8 (z.toNat : Int)) := by rw [hz]; exact (HA2.out.below hbr HA2.out.lt).at8 k hlt
      have hxs : wr.cell? ⟨gs, k, none⟩ = some (.int .u8 (x.toNat : Int)) := by rw [hx]; exact (HS2.out.below hbr HS2.out.lt).at8 k hlt
      have HXS := Lib.hid hxs
      have HGS := Lib.hid (Nat.lt_of_lt_of_le HS2.out.lt hbr.size)
      have HBR0 := Lib.hid hbr
      clear hx hz hxs hbr
      go_upto_region 6 with ((with_reducible refine (?_ : wpList _ _ _ (Oper.mk none _ _ _ _ _ :: _) _ _)); go_loud (refine wpList_store_blk rfl 22 (.tmp 8) (.tmp 28) rfl rfl wr.heap.size [.int .u8 (z.toNat : Int), .int .u8 0, .int .u8 0, .int .u8 0, .int .u8 0, .int .u8 0, .int .u8 0, .int .u8 0, .int .u8 0, .int .u8 0, .int .u8 0, .int .u8 0, .int .u8 0, .int .u8 0, .int .u8 0, .int .u8 0] rfl rfl _ _ (Blk.new_of wr 22 #[.int .u8 0, .int .u8 0, .int .u8 0, .int .u8 0, .int .u8 0, .int .u8 0, .int .u8 0, .int .u8 0, .int .u8 0, .int .u8 0, .int .u8 0, .int .u8 0, .int .u8 0, .int .u8 0, .int .u8 0, .int .u8 0] _ rfl) (inf16.trans rfl) rfl (by simp [Value.oneCell']) ?_); intro w3 hS3 hg3)
      have h2a : Below wr.heap.size wr (wr.alloc (.cells #[.int .u8 0, .int .u8 0, .int .u8 0, .int .u8 0, .int .u8 0, .int .u8 0, .int .u8 0, .int .u8 0, .int .u8 0, .int .u8 0, .int .u8 0, .int .u8 0, .int .u8 0, .int .u8 0, .int .u8 0, .int .u8 0] 22)) := (Below.refl _ _).alloc (Nat.le_refl _) _
      have hb3 : Below wr.heap.size wr w3 := below_new h2a hg3 (Nat.le_refl _) h2a.size
      have HBR := Lib.hid (HBR0.out.trans (hb3.mono HBR0.out.size))
      have HCS := Lib.hid (fun (W : World) (h : Below w3.heap.size w3 W) => (show W.cell? ⟨gs, k, none⟩ = some (.int .u8 (x.toNat : Int)) from ((hb3.trans (h.mono hb3.size)).cell (p := ⟨gs, k, none⟩) HGS.out).trans HXS.out))
      generalize wr.heap.size = g8 at *
      have HB8 := Lib.hid hS3
      clear h2a hb3 hg3 hS3 hza
      obtain ⟨sx, hsx⟩ : ∃ sx, sx = 128 ||| x := ⟨_, rfl⟩
      have hor : bits .or .u8 128 (x.toNat : Int) = (sx.toNat : Int) := by rw [hsx]; exact or_bits2 x
      obtain ⟨V, hW, hl24, hl216, hv6, hv7, hU⟩ := salts_v sx x key (z :: List.replicate 15 0) (ix_s1 HKL.out HN1.out.1) (ix_s2 HKL.out HN1.out) (by rw [hsx]; exact or_high2 x)
      have HWR := Lib.hid (fun (W : World) (As : Option Addr) (cs : Nat) (h : Below w2.heap.size w2 W) (is : In W W.heap.size As cs secretL) =>
        (show Calls Tryd.prog 40 #[.int .i64 16, .slice A2 n1 c2, .agg #[.int .u8 (sx.toNat : Int), .int .u8 (x.toNat : Int)], .agg #[.int .u8 (z.toNat : Int), .int .u8 0, .int .u8 0, .int .u8 0, .int .u8 0, .int .u8 0, .int .u8 0, .int .u8 0, .int .u8 0, .int .u8 0, .int .u8 0, .int .u8 0, .int .u8 0, .int .u8 0, .int .u8 0, .int .u8 0], .slice As 6 cs] W (fun e w' => ∃ A' M c', e = .returned (.tuple #[.slice A' M c', .int .i64 0]) ∧ Buf w' W.heap.size A' M c' V ∧ Below W.heap.size W w') by
          have hh := wrap_e 16 sx x (z :: List.replicate 15 0) key secretL A2 As c2 cs n1 6 W rfl HKL.out rfl (HI2.out.up h) is (HTQ.out.below (HB2.out.trans (h.mono HB2.out.size))) (ix_s3 HN1.out) (by decide)
          rw [hW] at hh
          exact hh))
      have HUW := Lib.hid (fun (W : World) (A3 As : Option Addr) (c3 cs M : Nat) (h : Below w2.heap.size w2 W) (iv : In W W.heap.size A3 c3 V) (hM : V.length = M) (is : In W W.heap.size As cs secretL) =>
        (show Calls Tryd.prog 43 #[.slice A3 M c3, .agg #[.int .u8 (z.toNat : Int), .int .u8 0, .int .u8 0, .int .u8 0, .int .u8 0, .int .u8 0, .int .u8 0, .int .u8 0, .int .u8 0, .int .u8 0, .int .u8 0, .int .u8 0, .int .u8 0, .int .u8 0, .int .u8 0, .int .u8 0], .slice As 6 cs] W (fun e w' => ∃ A' c', e = .returned (.tuple #[.int .i64 16, .slice A' n1 c', .int .i64 0]) ∧ In w' w'.heap.size A' c' key ∧ Below W.heap.size W w') by
          have hh := unwrap_e (z :: List.replicate 15 0) V secretL A3 As c3 cs M 6 W rfl hM rfl iv is (HTQ.out.below (HB2.out.trans (h.mono HB2.out.size))) (by rw [← hM]; exact Nat.le_trans hl216 (by decide)) (by decide)
          rw [hU] at hh
          refine hh.mono ?_
          rintro e w' ⟨A', m', c', rfl, hm', hI, hb⟩
          have hm2 : n1 = m' := HKL.out.symm.trans hm'
          subst hm2
          exact ⟨A', c', rfl, hI, hb⟩))
      have HV := Lib.hid (And.intro hl24 (And.intro hv6 hv7))
      clear hW hU hl24 hl216 hv6 hv7 hsx
      refine wp_region_noPanic ?_
      refine wp_region_held_drew (S := fun W => Below w3.heap.size w3 W) (by kernel_rfl) (by exact below_drewN (Below.refl _ _) 1) (fun hHeld => ?_)
      refine wpAnyH_take (i := 0) (oi := ⟨_, _, _, _, _, _⟩) (v := ?_) rfl (by kernel_rfl) (by kernel_rfl) (by kernel_rfl) (fun _ _ _ h => h) (Or.inl ⟨by rfl, ?_⟩) hHeld ?_
      rotate_left 1
      · (intro W hSw; (try dsimp only at hSw); go_simp; try with_reducible rfl)
      try simp only [Act.put, List.setIfInBounds_toArray, List.set_cons_zero, List.set_cons_succ]
      refine wpAnyH_take (i := 1) (oi := ⟨_, _, _, _, _, _⟩) (v := ?_) rfl (by kernel_rfl) (by kernel_rfl) (by kernel_rfl) (fun _ _ _ h => h) (Or.inl ⟨by rfl, ?_⟩) hHeld ?_
      rotate_left 1
      · (intro W hSw; (try dsimp only at hSw); go_simp; try with_reducible rfl)
      try simp only [Act.put, List.setIfInBounds_toArray, List.set_cons_zero, List.set_cons_succ]
      refine wpAnyH_take (i := 2) (oi := ⟨_, _, _, _, _, _⟩) (v := ?_) rfl (by kernel_rfl) (by kernel_rfl) (by kernel_rfl) (fun _ _ _ h => h) (Or.inl ⟨by rfl, ?_⟩) hHeld ?_
      rotate_left 1
      · (intro W hSw; (try dsimp only at hSw); go_simp; try with_reducible rfl)
      try simp only [Act.put, List.setIfInBounds_toArray, List.set_cons_zero, List.set_cons_succ]
      refine wpAnyH_take (i := 3) (oi := ⟨_, _, _, _, _, _⟩) (v := ?_) rfl (by kernel_rfl) (by kernel_rfl) (by kernel_rfl) (fun _ _ _ h => h) (Or.inl ⟨by rfl, ?_⟩) hHeld ?_
      rotate_left 1
      · (intro W hSw; (try dsimp only at hSw); have hcc := HCS.out W hSw; go_simp; try with_reducible rfl)
      try simp only [Act.put, List.setIfInBounds_toArray, List.set_cons_zero, List.set_cons_succ]
      refine wpAnyH_take (i := 4) (oi := ⟨_, _, _, _, _, _⟩) (v := ?_) rfl (by kernel_rfl) (by kernel_rfl) (by kernel_rfl) (fun _ _ _ h => h) (Or.inl ⟨by rfl, ?_⟩) hHeld ?_
      rotate_left 1
      · (intro W hSw; (try dsimp only at hSw); go_simp; try with_reducible rfl)
      try simp only [Act.put, List.setIfInBounds_toArray, List.set_cons_zero, List.set_cons_succ]
      refine wpAnyH_take (i := 5) (oi := ⟨_, _, _, _, _, _⟩) (v := ?_) rfl (by kernel_rfl) (by kernel_rfl) (by kernel_rfl) (fun _ _ _ h => h) (Or.inl ⟨by rfl, ?_⟩) hHeld ?_
      rotate_left 1
      · (intro W hSw; (try dsimp only at hSw); go_simp; try with_reducible rfl)
      try simp only [Act.put, List.setIfInBounds_toArray, List.set_cons_zero, List.set_cons_succ]
      refine wpAnyH_take (i := 6) (oi := ⟨_, _, _, _, _, _⟩) (v := ?_) rfl (by kernel_rfl) (by kernel_rfl) (by kernel_rfl) (fun _ _ _ h => h) (Or.inl ⟨by rfl, ?_⟩) hHeld ?_
      rotate_left 1
      · (intro W hSw; (try dsimp only at hSw); go_simp; try with_reducible rfl)
      try simp only [Act.put, List.setIfInBounds_toArray, List.set_cons_zero, List.set_cons_succ]
      refine wpAnyH_take (i := 7) (oi := ⟨_, _, _, _, _, _⟩) (v := ?_) rfl (by kernel_rfl) (by kernel_rfl) (by kernel_rfl) (fun _ _ _ h => h) (Or.inl ⟨by rfl, ?_⟩) hHeld ?_
      rotate_left 1
      · (intro W hSw; (try dsimp only at hSw); have hcc := HCS.out W hSw; go_simp; try with_reducible rfl)
      try simp only [Act.put, List.setIfInBounds_toArray, List.set_cons_zero, List.set_cons_succ]
      refine wpAnyH_take (i := 8) (oi := ⟨_, _, _, _, _, _⟩) (v := ?_) rfl (by kernel_rfl) (by kernel_rfl) (by kernel_rfl) (fun _ _ _ h => h) (Or.inl ⟨by rfl, ?_⟩) hHeld ?_
      rotate_left 1
      · (intro W hSw; (try dsimp only at hSw); go_simp; try with_reducible rfl)
      try simp only [Act.put, List.setIfInBounds_toArray, List.set_cons_zero, List.set_cons_succ]
      refine' wpAnyH_take (i := 9) (oi := ⟨_, _, _, _, _, _⟩) rfl (by kernel_rfl) (by kernel_rfl) (by kernel_rfl) (fun _ _ _ h => h) (yieldsIf_load_mid (by rfl) 22 _ rfl g8 0 rfl ([.int .u8 (z.toNat : Int), .int .u8 0, .int .u8 0, .int .u8 0, .int .u8 0, .int .u8 0, .int .u8 0, .int .u8 0, .int .u8 0, .int .u8 0, .int .u8 0, .int .u8 0, .int .u8 0, .int .u8 0, .int .u8 0, .int .u8 0]) _ (fun W h => rangeAt_of_blk (HB8.out.below h HB8.out.lt)) Tryd.underlying22 rfl (inf16.trans rfl)) hHeld ?_
      try simp only [Act.put, List.setIfInBounds_toArray, List.set_cons_zero, List.set_cons_succ]
      replace hHeld : Below w3.heap.size w3 w3.drew := hHeld
      generalize w3.drew = wd at *
      refine wpAnyH_ready (rs := [10]) (by kernel_rfl) (by simp) ?_
      refine AllReadyH.cons (o := ⟨_, _, _, _, _, _⟩) rfl (fun K hK => ?_) AllReadyH.nil
      go_simp
      have hz := hHeld.size
      refine hK.out _ _ (hHeld.alloc hz _) (fun hHeld2 => ?_)
      clear hK K
      try simp only [Act.put, List.setIfInBounds_toArray, List.set_cons_zero, List.set_cons_succ]
      refine wpAnyH_ready (rs := [11]) (by kernel_rfl) (by simp) ?_
      refine AllReadyH.cons (o := ⟨_, _, _, _, _, _⟩) rfl (fun K hK => ?_) AllReadyH.nil
      obtain ⟨kc, hS0⟩ := const_first wd secretL 6 rfl (by decide)
      replace kc : (convert 26 26 (.slice (some ⟨wd.heap.size, 0, none⟩) 6 6)).run Tryd.prog (wd.alloc (.cells #[.int .u8 115, .int .u8 101, .int .u8 99, .int .u8 114, .int .u8 101, .int .u8 116] 5)) = .ok (.slice (some ⟨wd.heap.size, 0, none⟩) 6 6) (wd.alloc (.cells #[.int .u8 115, .int .u8 101, .int .u8 99, .int .u8 114, .int .u8 101, .int .u8 116] 5 (6, 7))) := kc
      go_simp
      have hh3 := hHeld.alloc hz (.cells #[.int .u8 115, .int .u8 101, .int .u8 99, .int .u8 114, .int .u8 101, .int .u8 116] 5 (6, 7))
      refine hK.out _ _ hh3 (fun hHeld3 => ?_)
      clear hK K kc hHeld2
      try simp only [Act.put, List.setIfInBounds_toArray, List.set_cons_zero, List.set_cons_succ]
      refine wpAnyH_ready (rs := [12]) (by kernel_rfl) (by simp) ?_
      refine AllReadyH.cons (o := ⟨_, _, _, _, _, _⟩) rfl (fun K hK => ?_) AllReadyH.nil
      go_simp
      go_at_call 40
      refine (HWR.out _ _ _ (HBR.out.trans (hh3.mono HBR.out.size)) hS0).mono ?_
      rintro e w4 ⟨A4, M, c4, rfl, hB4, hb4⟩
      try go_wp2_with fail
      refine hK.out _ _ (hh3.trans (hb4.mono hh3.size)) (fun hHeld => ?_)
      clear hK K
      try simp only [Act.put, List.setIfInBounds_toArray, List.set_cons_zero, List.set_cons_succ]
      refine wpAnyH_take (i := 13) (oi := ⟨_, _, _, _, _, _⟩) (v := ?_) rfl (by kernel_rfl) (by kernel_rfl) (by kernel_rfl) (fun _ _ _ h => h) (Or.inl ⟨by rfl, ?_⟩) hHeld ?_
      rotate_left 1
      · (intro W hSw; (try dsimp only at hSw); go_simp; try with_reducible rfl)
      try simp only [Act.put, List.setIfInBounds_toArray, List.set_cons_zero, List.set_cons_succ]
      refine wpAnyH_take (i := 14) (oi := ⟨_, _, _, _, _, _⟩) (v := ?_) rfl (by kernel_rfl) (by kernel_rfl) (by kernel_rfl) (fun _ _ _ h => h) (Or.inl ⟨by rfl, ?_⟩) hHeld ?_
      rotate_left 1
      · (intro W hSw; (try dsimp only at hSw); go_simp; try with_reducible rfl)
      try simp only [Act.put, List.setIfInBounds_toArray, List.set_cons_zero, List.set_cons_succ]
      refine wpAnyH_take (i := 15) (oi := ⟨_, _, _, _, _, _⟩) (v := ?_) rfl (by kernel_rfl) (by kernel_rfl) (by kernel_rfl) (fun _ _ _ h => h) (Or.inl ⟨by rfl, ?_⟩) hHeld ?_
      rotate_left 1
      · (intro W hSw; (try dsimp only at hSw); go_simp; try with_reducible rfl)
      try simp only [Act.put, List.setIfInBounds_toArray, List.set_cons_zero, List.set_cons_succ]
      refine wpAnyH_take (i := 16) (oi := ⟨_, _, _, _, _, _⟩) (v := ?_) rfl (by kernel_rfl) (by kernel_rfl) (by kernel_rfl) (fun _ _ _ h => h) (Or.inl ⟨by rfl, ?_⟩) hHeld ?_
      rotate_left 1
      · (intro W hSw; (try dsimp only at hSw); go_simp; try with_reducible rfl)
      try simp only [Act.put, List.setIfInBounds_toArray, List.set_cons_zero, List.set_cons_succ]
      refine wpAnyH_take (i := 17) (oi := ⟨_, _, _, _, _, _⟩) (v := ?_) rfl (by kernel_rfl) (by kernel_rfl) (by kernel_rfl) (fun _ _ _ h => h) (Or.inl ⟨by rfl, ?_⟩) hHeld ?_
      rotate_left 1
      · (intro W hSw; (try dsimp only at hSw); go_simp; try with_reducible rfl)
      try simp only [Act.put, List.setIfInBounds_toArray, List.set_cons_zero, List.set_cons_succ]
      refine wpAnyH_done (by kernel_rfl) ?_ _
      refine NoPanic.normal ?_
      replace hHeld : Below w3.heap.size w3 w4 := hHeld
      have HB4 := Lib.hid (HBR.out.trans (hHeld.mono HBR.out.size))
      have hM : V.length = M := hB4.1
      have HML := Lib.hid (show 24 ≤ M by rw [← hM]; exact HV.out.1)
      obtain ⟨gv, hA4, _, hgv, hby⟩ := hB4.at (Nat.lt_of_lt_of_le (by decide) HML.out)
      subst hA4
      have HC6 := Lib.hid (show w4.cell? ⟨gv, 6, none⟩ = some (.int .u8 (sx.toNat : Int)) by have := hby 6 (by rw [hM]; exact Nat.lt_of_lt_of_le (by decide) HML.out); rw [HV.out.2.1] at this; simpa using this)
      have HC7 := Lib.hid (show w4.cell? ⟨gv, 7, none⟩ = some (.int .u8 (x.toNat : Int)) by have := hby 7 (by rw [hM]; exact Nat.lt_of_lt_of_le (by decide) HML.out); rw [HV.out.2.2] at this; simpa using this)
      have hQ4 := HB8.out.below hHeld HB8.out.lt
      have HCS4 := Lib.hid (HCS.out w4 hHeld)
      have HGS4 := Lib.hid (show gs < w4.heap.size from Nat.lt_of_lt_of_le (Nat.lt_of_lt_of_le HS2.out.lt HBR.out.size) hHeld.size)
      have HGV := Lib.hid hgv
      obtain ⟨kc, hS1⟩ := const_first w4 secretL 6 rfl (by decide)
      replace kc : (convert 26 26 (.slice (some ⟨w4.heap.size, 0, none⟩) 6 6)).run Tryd.prog (w4.alloc (.cells #[.int .u8 115, .int .u8 101, .int .u8 99, .int .u8 114, .int .u8 101, .int .u8 116] 5)) = .ok (.slice (some ⟨w4.heap.size, 0, none⟩) 6 6) (w4.alloc (.cells #[.int .u8 115, .int .u8 101, .int .u8 99, .int .u8 114, .int .u8 101, .int .u8 116] 5 (6, 7))) := kc
      have HS1 := Lib.hid hS1
      have hz1 : Below w4.heap.size w4 (w4.alloc (.cells #[.int .u8 115, .int .u8 101, .int .u8 99, .int .u8 114, .int .u8 101, .int .u8 116] 5 (6, 7))) := (Below.refl _ _).alloc (Nat.le_refl _) _
      have HZ4 := Lib.hid hz1
      have HV4 := Lib.hid hB4
      have HM := Lib.hid hM
      clear hS0 hh3 hb4 hB4 hHeld hby hgv hS1 hz1 hM HWR HCS HB8
      go_upto_region 8 with (first
        | ((with_reducible refine (?_ : wpList _ _ _ (Oper.mk (some 47) _ _ _ _ _ :: _) _ _)); go_loud (refine wpList_load_blk rfl 22 (.tmp 8) rfl g8 rfl 22 _ _ hQ4 Tryd.underlying22 rfl (inf16.trans rfl) ?_))
        | (go_at_call 43; refine (HUW.out _ _ _ _ _ _ (HB4.out.trans (HZ4.out.mono HB4.out.size)) ((HV4.out.toIn (Nat.le_refl _)).up HZ4.out) HM.out HS1.out).mono ?_; rintro e w5 ⟨A5, c5, rfl, hI5, hb5⟩))
      have hb45 := HZ4.out.trans (hb5.mono HZ4.out.size)
      have HB5 := Lib.hid (HB4.out.trans (hb45.mono HB4.out.size))
      have HC1 := Lib.hid (fun (W : World) (h : Below w5.heap.size w5 W) => conv_in HKL.out (hI5.up h))
      have HC2 := Lib.hid (fun (W : World) (h : Below w5.heap.size w5 W) => conv_in HKL.out (HI2.out.up (HB5.out.trans (h.mono HB5.out.size))))
      replace HC6 := Lib.hid (fun (W : World) (h : Below w5.heap.size w5 W) => (show W.cell? ⟨gv, 6, none⟩ = some (.int .u8 (sx.toNat : Int)) from ((hb45.trans (h.mono hb45.size)).cell (p := ⟨gv, 6, none⟩) HGV.out).trans HC6.out))
      replace HC7 := Lib.hid (fun (W : World) (h : Below w5.heap.size w5 W) => (show W.cell? ⟨gv, 7, none⟩ = some (.int .u8 (x.toNat : Int)) from ((hb45.trans (h.mono hb45.size)).cell (p := ⟨gv, 7, none⟩) HGV.out).trans HC7.out))
      have HCS5 := Lib.hid (fun (W : World) (h : Below w5.heap.size w5 W) => (show W.cell? ⟨gs, k, none⟩ = some (.int .u8 (x.toNat : Int)) from ((hb45.trans (h.mono hb45.size)).cell (p := ⟨gs, k, none⟩) HGS4.out).trans HCS4.out))
      have hm6 : (6 : Int) < (M : Int) := Int.ofNat_lt.2 (Nat.lt_of_lt_of_le (by decide) HML.out)
      have hm7 : (7 : Int) < (M : Int) := Int.ofNat_lt.2 (Nat.lt_of_lt_of_le (by decide) HML.out)
      clear hb5 hb45 kc hQ4 hI5
      refine wp_region_noPanic ?_
      refine wp_region_held_drew (S := fun W => Below w5.heap.size w5 W) (by kernel_rfl) (by exact below_drewN (Below.refl _ _) 1) (fun hHeld => ?_)
      refine wpAnyH_take (i := 0) (oi := ⟨_, _, _, _, _, _⟩) (v := ?_) rfl (by kernel_rfl) (by kernel_rfl) (by kernel_rfl) (fun _ _ _ h => h) (Or.inl ⟨by rfl, ?_⟩) hHeld ?_
      rotate_left 1
      · (intro W hSw; (try dsimp only at hSw); go_simp; try with_reducible rfl)
      try simp only [Act.put, List.setIfInBounds_toArray, List.set_cons_zero, List.set_cons_succ]
      refine wpAnyH_take (i := 1) (oi := ⟨_, _, _, _, _, _⟩) (v := ?_) rfl (by kernel_rfl) (by kernel_rfl) (by kernel_rfl) (fun _ _ _ h => h) (Or.inl ⟨by rfl, ?_⟩) hHeld ?_
      rotate_left 1
      · (intro W hSw; (try dsimp only at hSw); go_simp; try with_reducible rfl)
      try simp only [Act.put, List.setIfInBounds_toArray, List.set_cons_zero, List.set_cons_succ]
      refine wpAnyH_take (i := 2) (oi := ⟨_, _, _, _, _, _⟩) (v := ?_) rfl (by kernel_rfl) (by kernel_rfl) (by kernel_rfl) (fun _ _ _ h => h) (Or.inl ⟨by rfl, ?_⟩) hHeld ?_
      rotate_left 1
      · (intro W hSw; (try dsimp only at hSw); go_simp; try with_reducible rfl)
      try simp only [Act.put, List.setIfInBounds_toArray, List.set_cons_zero, List.set_cons_succ]
      refine wpAnyH_take (i := 3) (oi := ⟨_, _, _, _, _, _⟩) (v := ?_) rfl (by kernel_rfl) (by kernel_rfl) (by kernel_rfl) (fun _ _ _ h => h) (Or.inl ⟨by rfl, ?_⟩) hHeld ?_
      rotate_left 1
      · (intro W hSw; (try dsimp only at hSw); go_simp; try with_reducible rfl)
      try simp only [Act.put, List.setIfInBounds_toArray, List.set_cons_zero, List.set_cons_succ]
      refine wpAnyH_take (i := 4) (oi := ⟨_, _, _, _, _, _⟩) (v := ?_) rfl (by kernel_rfl) (by kernel_rfl) (by kernel_rfl) (fun _ _ _ h => h) (Or.inl ⟨by rfl, ?_⟩) hHeld ?_
      rotate_left 1
      · (intro W hSw; (try dsimp only at hSw); go_simp; try with_reducible rfl)
      try simp only [Act.put, List.setIfInBounds_toArray, List.set_cons_zero, List.set_cons_succ]
      refine wpAnyH_take (i := 5) (oi := ⟨_, _, _, _, _, _⟩) (v := ?_) rfl (by kernel_rfl) (by kernel_rfl) (by kernel_rfl) (fun _ _ _ h => h) (Or.inl ⟨by rfl, ?_⟩) hHeld ?_
      rotate_left 1
      · (intro W hSw; (try dsimp only at hSw); go_simp; try with_reducible rfl)
      try simp only [Act.put, List.setIfInBounds_toArray, List.set_cons_zero, List.set_cons_succ]
      refine wpAnyH_take (i := 6) (oi := ⟨_, _, _, _, _, _⟩) (v := ?_) rfl (by kernel_rfl) (by kernel_rfl) (by kernel_rfl) (fun _ _ _ h => h) (Or.inl ⟨by rfl, ?_⟩) hHeld ?_
      rotate_left 1
      · (intro W hSw; (try dsimp only at hSw); go_simp; try with_reducible rfl)
      try simp only [Act.put, List.setIfInBounds_toArray, List.set_cons_zero, List.set_cons_succ]
      refine wpAnyH_take (i := 7) (oi := ⟨_, _, _, _, _, _⟩) (v := ?_) rfl (by kernel_rfl) (by kernel_rfl) (by kernel_rfl) (fun _ _ _ h => h) (Or.inl ⟨by rfl, ?_⟩) hHeld ?_
      rotate_left 1
      · (intro W hSw; (try dsimp only at hSw); go_simp; try with_reducible rfl)
      try simp only [Act.put, List.setIfInBounds_toArray, List.set_cons_zero, List.set_cons_succ]
      refine wpAnyH_take (i := 8) (oi := ⟨_, _, _, _, _, _⟩) (v := ?_) rfl (by kernel_rfl) (by kernel_rfl) (by kernel_rfl) (fun _ _ _ h => h) (Or.inl ⟨by rfl, ?_⟩) hHeld ?_
      rotate_left 1
      · (intro W hSw; (try dsimp only at hSw); go_simp; try with_reducible rfl)
      try simp only [Act.put, List.setIfInBounds_toArray, List.set_cons_zero, List.set_cons_succ]
      refine wpAnyH_take (i := 9) (oi := ⟨_, _, _, _, _, _⟩) (v := ?_) rfl (by kernel_rfl) (by kernel_rfl) (by kernel_rfl) (fun _ _ _ h => h) (Or.inl ⟨by rfl, ?_⟩) hHeld ?_
      rotate_left 1
      · (intro W hSw; (try dsimp only at hSw); go_simp; try with_reducible rfl)
      try simp only [Act.put, List.setIfInBounds_toArray, List.set_cons_zero, List.set_cons_succ]
      refine wpAnyH_take (i := 10) (oi := ⟨_, _, _, _, _, _⟩) (v := ?_) rfl (by kernel_rfl) (by kernel_rfl) (by kernel_rfl) (fun _ _ _ h => h) (Or.inl ⟨by rfl, ?_⟩) hHeld ?_
      rotate_left 1
      · (intro W hSw; (try dsimp only at hSw); go_simp; try with_reducible rfl)
      try simp only [Act.put, List.setIfInBounds_toArray, List.set_cons_zero, List.set_cons_succ]
      refine wpAnyH_take (i := 11) (oi := ⟨_, _, _, _, _, _⟩) (v := ?_) rfl (by kernel_rfl) (by kernel_rfl) (by kernel_rfl) (fun _ _ _ h => h) (Or.inl ⟨by rfl, ?_⟩) hHeld ?_
      rotate_left 1
      · (intro W hSw; (try dsimp only at hSw); go_simp; try with_reducible rfl)
      try simp only [Act.put, List.setIfInBounds_toArray, List.set_cons_zero, List.set_cons_succ]
      refine wpAnyH_take (i := 12) (oi := ⟨_, _, _, _, _, _⟩) (v := ?_) rfl (by kernel_rfl) (by kernel_rfl) (by kernel_rfl) (fun _ _ _ h => h) (Or.inl ⟨by rfl, ?_⟩) hHeld ?_
      rotate_left 1
      · (intro W hSw; (try dsimp only at hSw); have hc1 := HC1.out W hSw; go_simp; try with_reducible rfl)
      try simp only [Act.put, List.setIfInBounds_toArray, List.set_cons_zero, List.set_cons_succ]
      refine wpAnyH_take (i := 13) (oi := ⟨_, _, _, _, _, _⟩) (v := ?_) rfl (by kernel_rfl) (by kernel_rfl) (by kernel_rfl) (fun _ _ _ h => h) (Or.inl ⟨by rfl, ?_⟩) hHeld ?_
      rotate_left 1
      · (intro W hSw; (try dsimp only at hSw); go_simp; try with_reducible rfl)
      try simp only [Act.put, List.setIfInBounds_toArray, List.set_cons_zero, List.set_cons_succ]
      refine wpAnyH_take (i := 14) (oi := ⟨_, _, _, _, _, _⟩) (v := ?_) rfl (by kernel_rfl) (by kernel_rfl) (by kernel_rfl) (fun _ _ _ h => h) (Or.inl ⟨by rfl, ?_⟩) hHeld ?_
      rotate_left 1
      · (intro W hSw; (try dsimp only at hSw); have hc2 := HC2.out W hSw; go_simp; try with_reducible rfl)
      try simp only [Act.put, List.setIfInBounds_toArray, List.set_cons_zero, List.set_cons_succ]
      refine wpAnyH_take (i := 15) (oi := ⟨_, _, _, _, _, _⟩) (v := ?_) rfl (by kernel_rfl) (by kernel_rfl) (by kernel_rfl) (fun _ _ _ h => h) (Or.inl ⟨by rfl, ?_⟩) hHeld ?_
      rotate_left 1
      · (intro W hSw; (try dsimp only at hSw); go_simp; try with_reducible rfl)
      try simp only [Act.put, List.setIfInBounds_toArray, List.set_cons_zero, List.set_cons_succ]
      refine wpAnyH_take (i := 16) (oi := ⟨_, _, _, _, _, _⟩) (v := ?_) rfl (by kernel_rfl) (by kernel_rfl) (by kernel_rfl) (fun _ _ _ h => h) (Or.inl ⟨by rfl, ?_⟩) hHeld ?_
      rotate_left 1
      · (intro W hSw; (try dsimp only at hSw); go_simp; try with_reducible rfl)
      try simp only [Act.put, List.setIfInBounds_toArray, List.set_cons_zero, List.set_cons_succ]
      refine wpAnyH_take (i := 17) (oi := ⟨_, _, _, _, _, _⟩) (v := ?_) rfl (by kernel_rfl) (by kernel_rfl) (by kernel_rfl) (fun _ _ _ h => h) (Or.inl ⟨by rfl, ?_⟩) hHeld ?_
      rotate_left 1
      · (intro W hSw; (try dsimp only at hSw); go_simp; try with_reducible rfl)
      try simp only [Act.put, List.setIfInBounds_toArray, List.set_cons_zero, List.set_cons_succ]
      refine wpAnyH_take (i := 18) (oi := ⟨_, _, _, _, _, _⟩) (v := ?_) rfl (by kernel_rfl) (by kernel_rfl) (by kernel_rfl) (fun _ _ _ h => h) (Or.inl ⟨by rfl, ?_⟩) hHeld ?_
      rotate_left 1
      · (intro W hSw; (try dsimp only at hSw); go_simp; try with_reducible rfl)
      try simp only [Act.put, List.setIfInBounds_toArray, List.set_cons_zero, List.set_cons_succ]
      refine wpAnyH_take (i := 19) (oi := ⟨_, _, _, _, _, _⟩) (v := ?_) rfl (by kernel_rfl) (by kernel_rfl) (by kernel_rfl) (fun _ _ _ h => h) (Or.inl ⟨by rfl, ?_⟩) hHeld ?_
      rotate_left 1
      · (intro W hSw; (try dsimp only at hSw); go_simp; try with_reducible rfl)
      try simp only [Act.put, List.setIfInBounds_toArray, List.set_cons_zero, List.set_cons_succ]
      refine wpAnyH_take (i := 20) (oi := ⟨_, _, _, _, _, _⟩) (v := ?_) rfl (by kernel_rfl) (by kernel_rfl) (by kernel_rfl) (fun _ _ _ h => h) (Or.inl ⟨by rfl, ?_⟩) hHeld ?_
      rotate_left 1
      · (intro W hSw; (try dsimp only at hSw); have hc6 := HC6.out W hSw; go_simp; try with_reducible rfl)
      try simp only [Act.put, List.setIfInBounds_toArray, List.set_cons_zero, List.set_cons_succ]
      refine wpAnyH_take (i := 21) (oi := ⟨_, _, _, _, _, _⟩) (v := ?_) rfl (by kernel_rfl) (by kernel_rfl) (by kernel_rfl) (fun _ _ _ h => h) (Or.inl ⟨by rfl, ?_⟩) hHeld ?_
      rotate_left 1
      · (intro W hSw; (try dsimp only at hSw); go_simp; try with_reducible rfl)
      try simp only [Act.put, List.setIfInBounds_toArray, List.set_cons_zero, List.set_cons_succ]
      refine wpAnyH_take (i := 22) (oi := ⟨_, _, _, _, _, _⟩) (v := ?_) rfl (by kernel_rfl) (by kernel_rfl) (by kernel_rfl) (fun _ _ _ h => h) (Or.inl ⟨by rfl, ?_⟩) hHeld ?_
      rotate_left 1
      · (intro W hSw; (try dsimp only at hSw); go_simp; try with_reducible rfl)
      try simp only [Act.put, List.setIfInBounds_toArray, List.set_cons_zero, List.set_cons_succ]
      refine wpAnyH_take (i := 23) (oi := ⟨_, _, _, _, _, _⟩) (v := ?_) rfl (by kernel_rfl) (by kernel_rfl) (by kernel_rfl) (fun _ _ _ h => h) (Or.inl ⟨by rfl, ?_⟩) hHeld ?_
      rotate_left 1
      · (intro W hSw; (try dsimp only at hSw); have hcc := HCS5.out W hSw; go_simp; try with_reducible rfl)
      try simp only [Act.put, List.setIfInBounds_toArray, List.set_cons_zero, List.set_cons_succ]
      refine wpAnyH_take (i := 24) (oi := ⟨_, _, _, _, _, _⟩) (v := ?_) rfl (by kernel_rfl) (by kernel_rfl) (by kernel_rfl) (fun _ _ _ h => h) (Or.inl ⟨by rfl, ?_⟩) hHeld ?_
      rotate_left 1
      · (intro W hSw; (try dsimp only at hSw); go_simp; try with_reducible rfl)
      try simp only [Act.put, List.setIfInBounds_toArray, List.set_cons_zero, List.set_cons_succ]
      refine wpAnyH_take (i := 25) (oi := ⟨_, _, _, _, _, _⟩) (v := ?_) rfl (by kernel_rfl) (by kernel_rfl) (by kernel_rfl) (fun _ _ _ h => h) (Or.inl ⟨by rfl, ?_⟩) hHeld ?_
      rotate_left 1
      · (intro W hSw; (try dsimp only at hSw); go_simp; try with_reducible rfl)
      try simp only [Act.put, List.setIfInBounds_toArray, List.set_cons_zero, List.set_cons_succ]
      refine wpAnyH_take (i := 26) (oi := ⟨_, _, _, _, _, _⟩) (v := ?_) rfl (by kernel_rfl) (by kernel_rfl) (by kernel_rfl) (fun _ _ _ h => h) (Or.inl ⟨by rfl, ?_⟩) hHeld ?_
      rotate_left 1
      · (intro W hSw; (try dsimp only at hSw); go_simp; try with_reducible rfl)
      try simp only [Act.put, List.setIfInBounds_toArray, List.set_cons_zero, List.set_cons_succ]
      refine wpAnyH_take (i := 27) (oi := ⟨_, _, _, _, _, _⟩) (v := ?_) rfl (by kernel_rfl) (by kernel_rfl) (by kernel_rfl) (fun _ _ _ h => h) (Or.inl ⟨by rfl, ?_⟩) hHeld ?_
      rotate_left 1
      · (intro W hSw; (try dsimp only at hSw); go_simp; try with_reducible rfl)
      try simp only [Act.put, List.setIfInBounds_toArray, List.set_cons_zero, List.set_cons_succ]
      refine wpAnyH_take (i := 28) (oi := ⟨_, _, _, _, _, _⟩) (v := ?_) rfl (by kernel_rfl) (by kernel_rfl) (by kernel_rfl) (fun _ _ _ h => h) (Or.inl ⟨by rfl, ?_⟩) hHeld ?_
      rotate_left 1
      · (intro W hSw; (try dsimp only at hSw); go_simp; try with_reducible rfl)
      try simp only [Act.put, List.setIfInBounds_toArray, List.set_cons_zero, List.set_cons_succ]
      refine wpAnyH_take (i := 29) (oi := ⟨_, _, _, _, _, _⟩) (v := ?_) rfl (by kernel_rfl) (by kernel_rfl) (by kernel_rfl) (fun _ _ _ h => h) (Or.inl ⟨by rfl, ?_⟩) hHeld ?_
      rotate_left 1
      · (intro W hSw; (try dsimp only at hSw); go_simp; try with_reducible rfl)
      try simp only [Act.put, List.setIfInBounds_toArray, List.set_cons_zero, List.set_cons_succ]
      refine wpAnyH_take (i := 30) (oi := ⟨_, _, _, _, _, _⟩) (v := ?_) rfl (by kernel_rfl) (by kernel_rfl) (by kernel_rfl) (fun _ _ _ h => h) (Or.inl ⟨by rfl, ?_⟩) hHeld ?_
      rotate_left 1
      · (intro W hSw; (try dsimp only at hSw); have hc7 := HC7.out W hSw; go_simp; try with_reducible rfl)
      try simp only [Act.put, List.setIfInBounds_toArray, List.set_cons_zero, List.set_cons_succ]
      refine wpAnyH_take (i := 31) (oi := ⟨_, _, _, _, _, _⟩) (v := ?_) rfl (by kernel_rfl) (by kernel_rfl) (by kernel_rfl) (fun _ _ _ h => h) (Or.inl ⟨by rfl, ?_⟩) hHeld ?_
      rotate_left 1
      · (intro W hSw; (try dsimp only at hSw); go_simp; try with_reducible rfl)
      try simp only [Act.put, List.setIfInBounds_toArray, List.set_cons_zero, List.set_cons_succ]
      refine wpAnyH_take (i := 32) (oi := ⟨_, _, _, _, _, _⟩) (v := ?_) rfl (by kernel_rfl) (by kernel_rfl) (by kernel_rfl) (fun _ _ _ h => h) (Or.inl ⟨by rfl, ?_⟩) hHeld ?_
      rotate_left 1
      · (intro W hSw; (try dsimp only at hSw); go_simp; try with_reducible rfl)
      try simp only [Act.put, List.setIfInBounds_toArray, List.set_cons_zero, List.set_cons_succ]
      refine wpAnyH_take (i := 33) (oi := ⟨_, _, _, _, _, _⟩) (v := ?_) rfl (by kernel_rfl) (by kernel_rfl) (by kernel_rfl) (fun _ _ _ h => h) (Or.inl ⟨by rfl, ?_⟩) hHeld ?_
      rotate_left 1
      · (intro W hSw; (try dsimp only at hSw); have hcc := HCS5.out W hSw; go_simp; try with_reducible rfl)
      try simp only [Act.put, List.setIfInBounds_toArray, List.set_cons_zero, List.set_cons_succ]
      refine wpAnyH_take (i := 34) (oi := ⟨_, _, _, _, _, _⟩) (v := ?_) rfl (by kernel_rfl) (by kernel_rfl) (by kernel_rfl) (fun _ _ _ h => h) (Or.inl ⟨by rfl, ?_⟩) hHeld ?_
      rotate_left 1
      · (intro W hSw; (try dsimp only at hSw); go_simp; try with_reducible rfl)
      try simp only [Act.put, List.setIfInBounds_toArray, List.set_cons_zero, List.set_cons_succ]
      refine wpAnyH_take (i := 35) (oi := ⟨_, _, _, _, _, _⟩) (v := ?_) rfl (by kernel_rfl) (by kernel_rfl) (by kernel_rfl) (fun _ _ _ h => h) (Or.inl ⟨by rfl, ?_⟩) hHeld ?_
      rotate_left 1
      · (intro W hSw; (try dsimp only at hSw); go_simp; try with_reducible rfl)
      try simp only [Act.put, List.setIfInBounds_toArray, List.set_cons_zero, List.set_cons_succ]
      refine wpAnyH_done (by kernel_rfl) ?_ _
      refine NoPanic.normal ?_
      replace hHeld : Below w5.heap.size w5 w5.drew := hHeld
      have HB6 := Lib.hid (HB5.out.trans (hHeld.mono HB5.out.size))
      clear hHeld hor hm6 hm7
      go_wp2
      go_roundw
      case rel => exact ⟨k + 1, by omega, by go_num, HB6.out⟩
      case measure => simp [intOf]; omega
    · have hd : decide ((k : Int) < 2) = false := by simp; omega
      have hBE := HB2.out.trans (hbr.mono HB2.out.size)
      go_wp2_with (go_at_call 42; refine (HWS.out _ hBE).mono ?_; rintro e w6 ⟨rfl, hb6⟩)
      go_ret
      exact ⟨rfl, hBE.trans (hb6.mono hBE.size)⟩
end Go.Proofs.YtnbmnognkbcddaaDoor
