/-
 The reference's Seal of a half.
-/
import Derived.Test.YtnjpcbbdhimacaaDoorRd4
import Derived.Test.YtnjpcbbdhimacaaDoorRd5
import Derived.Test.YtnjpcbbdhimacaaDoorRx2
namespace Go.Proofs.YtnjpcbbdhimacaaDoor
open Go.RowKit

theorem in_new1 (W : World) (y : UInt8) : In (W.alloc (.cells #[.int .u8 (y.toNat : Int)] 5)) (W.alloc (.cells #[.int .u8 (y.toNat : Int)] 5)).heap.size (some ⟨W.heap.size, 0, none⟩) 1 [y] :=
 (Buf.made _ _ _ _ (Nat.le_refl _) rfl (Nat.le_refl _) (by unfold maxLen; omega) rfl (.inr rfl) (fun j hj => by
  obtain rfl : j = 0 := by omega
  rfl) : Buf (W.alloc (.cells #[.int .u8 (y.toNat : Int)] 5)) W.heap.size (some ⟨W.heap.size, 0, none⟩) 1 1 [y]).toIn (Nat.le_refl _)
theorem buf_zerosR (w : World) (n : Nat) (hm : n ≤ 1000000) : Buf (w.alloc (.cells ((List.replicate n (0 : UInt8)).map B8).toArray 5)) w.heap.size (some ⟨w.heap.size, 0, none⟩) n n (List.replicate n 0) :=
 Buf.made _ _ _ _ (Nat.le_refl _) List.length_replicate (Nat.le_refl _) (by unfold maxLen; omega) (by simp) (.inr rfl) (fun j hj => by
  rw [List.getElem?_toArray]
  exact getD_map8 _ j (by rw [List.length_replicate]; exact hj))
set_option maxRecDepth 100000 in
set_option maxHeartbeats 1000000 in
theorem rhseal_arg (gm : Nat) (b : List UInt8) (k pad : Int) (w : World) (hk : kindB k = false ∨ pad < 0) :
  Calls Tryd.prog 16 #[.pointer (some ⟨gm, 0, none⟩), .int .i64 k, .string ⟨b.toArray⟩, .int .i64 pad] w fun e w' => e = .returned (.tuple #[.string ⟨#[]⟩, .int .i64 1]) ∧ w' = w := by
 by_cases hkb : kindB k = true
 ·
  have hp : pad < 0 := by
   rcases hk with h | h
   ·
    rw [hkb] at h; cases h
   ·
    exact h
  clear hk
  go_enter Tryd.func16, Tryd.ntmps16
  go_wp2_with (go_at_call 39; refine (rkind_e _ _).mono ?_; rintro e w' ⟨rfl, hww⟩; have hw2 := hww.symm; subst hw2)
  go_ret2
  exact ⟨rfl, rfl⟩
 ·
  have hkf : kindB k = false := by simpa using hkb
  clear hk hkb
  go_enter Tryd.func16, Tryd.ntmps16
  go_wp2_with (go_at_call 39; refine (rkind_e _ _).mono ?_; rintro e w' ⟨rfl, hww⟩; have hw2 := hww.symm; subst hw2)
  go_ret2
  exact ⟨rfl, rfl⟩
set_option maxRecDepth 100000 in
set_option maxHeartbeats 1000000 in
theorem rhseal_big (gm n : Nat) (b : List UInt8) (k pad : Int) (w : World) (hk : kindB k = true) (hp : ¬ pad < 0) (hn : b.length = n) (hm : n < 1000000) (hb : 16384 < n ∨ 16384 - (n : Int) < pad) :
  Calls Tryd.prog 16 #[.pointer (some ⟨gm, 0, none⟩), .int .i64 k, .string ⟨b.toArray⟩, .int .i64 pad] w fun e w' => e = .returned (.tuple #[.string ⟨#[]⟩, .int .i64 4]) ∧ w' = w := by
 have hlen : (b.length : Int) = (n : Int) := by omega
 by_cases hbp : 16384 < pad
 ·
  clear hb hn hlen hm
  go_enter Tryd.func16, Tryd.ntmps16
  go_wp2_with (go_at_call 39; refine (rkind_e _ _).mono ?_; rintro e w' ⟨rfl, hww⟩; have hw2 := hww.symm; subst hw2)
  go_ret2
  exact ⟨rfl, rfl⟩
 ·
  obtain ⟨t, ht1, ht2, ht3⟩ : ∃ t : Nat, (n : Int) + pad = (t : Int) ∧ wrap64 (t : Int) = (t : Int) ∧ (16384 : Int) < (t : Int) := ⟨((n : Int) + pad).toNat, by omega, by unfold wrap64; omega, by omega⟩
  clear hb hn hm
  go_enter Tryd.func16, Tryd.ntmps16
  go_wp2_with (go_at_call 39; refine (rkind_e _ _).mono ?_; rintro e w' ⟨rfl, hww⟩; have hw2 := hww.symm; subst hw2)
  go_ret2
  exact ⟨rfl, rfl⟩
theorem RHalf.c0 {w : World} {gm u : Nat} {S : List UInt8} (h : RHalf w gm u S) : w.cell? ⟨gm, 0, none⟩ = some (.string ⟨S.toArray⟩) := h.half.cell 0
theorem RHalf.c1 {w : World} {gm u : Nat} {S : List UInt8} (h : RHalf w gm u S) : w.cell? ⟨gm, 1, none⟩ = some (.int .i64 (u : Int)) := h.half.cell 1
theorem RHalf.next {w : World} {gm u : Nat} {S : List UInt8} (h : RHalf w gm u S) : RHalf (w.setCell ⟨gm, 1, none⟩ (.int .i64 ((u + 1 : Nat) : Int))) gm (u + 1) S := ⟨by
 have := h.half.set_ 1 (.int .i64 ((u + 1 : Nat) : Int))
 exact this⟩
theorem ix_rs (n pad u : Nat) (h : n + pad ≤ 16384) (hu : u < 1000) : (¬ (pad : Int) < 0 ∧ ¬ (16384 : Int) < (pad : Int) ∧ ¬ (1000 : Int) ≤ (u : Int)) ∧ (∃ t : Nat, (n : Int) + (pad : Int) = (t : Int) ∧ wrap64 (t : Int) = (t : Int) ∧ ¬ (16384 : Int) < (t : Int)) ∧
  (∃ j m : Nat, j = n + 1 + pad ∧ m = j + 16 ∧ (j : Int) + 16 = (m : Int) ∧ wrap64 (m : Int) = (m : Int)) ∧ (∃ u1 : Nat, u1 = u + 1 ∧ (u : Int) + 1 = (u1 : Int) ∧ wrap64 (u1 : Int) = (u1 : Int)) :=
 ⟨⟨by omega, by omega, by omega⟩, ⟨n + pad, by omega, by unfold wrap64; omega, by omega⟩, ⟨_, _, rfl, rfl, by omega, by unfold wrap64; omega⟩, ⟨_, rfl, by omega, by unfold wrap64; omega⟩⟩
set_option maxRecDepth 100000 in
set_option maxHeartbeats 1000000 in
theorem rhseal_ok {w : World} {gm u0 : Nat} {S : List UInt8} (h : RHalf w gm u0 S) (hS : S.length = 32) (k n pad : Nat) (b : List UInt8) (hk : kindB (k : Int) = true) (hn : b.length = n) (hp : n + pad ≤ 16384) (hu : u0 < 1000) :
  Calls Tryd.prog 16 #[.pointer (some ⟨gm, 0, none⟩), .int .i64 (k : Int), .string ⟨b.toArray⟩, .int .i64 (pad : Int)] w fun e w' => e = .returned (.tuple #[.string ⟨(recE (keyL 4 (keyH S)) 11 (ivH S) u0 k b pad).toArray⟩, .int .i64 0]) ∧ RHalf w' gm (u0 + 1) S ∧ w.grownBy w' (some gm) := by
 obtain ⟨⟨q1, q2, q3⟩, ⟨t, t1, t2, t3⟩, ⟨j, m, hj, hm0, hm1, hm2⟩, ⟨u1, hu1, hu2, hu3⟩⟩ := ix_rs n pad u0 hp hu
 have hlen : (b.length : Int) = (n : Int) := by omega
 have hki := fun W => rkind_e (k : Int) W
 rw [hk] at hki
 have hyk : IntKind.u8.wrap (k : Int) = ((UInt8.ofNat k).toNat : Int) := wrap_ofNat k
 have hmk := fun (W : World) => run_make_bytes .i64 .i64 pad pad (Nat.le_refl _) (by omega) W
 have hbz := fun (W : World) => buf_zerosR W pad (by omega)
 have hzl : (List.replicate pad (0 : UInt8)).length = pad := List.length_replicate
 have hla := fun (W : World) => refLabel_any 16 S keyN [] W (by omega) (by decide) (by decide) (by decide)
 have hkl := expand_length S (labelInfo keyN [] 16) 16
 have hno := fun (W : World) (hb : Below w.heap.size w W) => rnonce_e (h.below hb) hS (Nat.lt_trans hu (by decide))
 have hnl : (nonceH (ivH S) u0).length = 12 := nonceH_length _ _ (expand_length _ _ _)
 have hhd := fun (W : World) => rhead_e 23 m (by decide) (by omega) W
 have hil : (innerE k b pad).length = j := by rw [innerE_length, hn, hj]
 have hre : recE (keyL 4 (keyH S)) 11 (ivH S) u0 k b pad = headE 23 m ++ boxE (keyL 4 (keyH S)) 11 (nonceH (ivH S) u0) (innerE k b pad) (headE 23 m) := by unfold recE; rw [hil, hm0]
 have hr5 := fun (W : World) => rseal_e 4 j 5 (.inl rfl) (keyH S) (nonceH (ivH S) u0) (innerE k b pad) (headE 23 m) W hkl hnl hil rfl (by omega) (by decide)
 have hbl : (boxE (keyL 4 (keyH S)) 11 (nonceH (ivH S) u0) (innerE k b pad) (headE 23 m)).length = j + 16 := by rw [boxE_length, hil]
 rw [hre, ← hu1]
 rw [show expand S (labelInfo keyN [] 16) 16 = keyH S from rfl] at hkl
 simp only [show expand S (labelInfo keyN [] 16) 16 = keyH S from rfl] at hla
 have ha1 : (⟨b.toArray⟩ ++ ⟨#[UInt8.ofNat k]⟩ : ByteArray) = ⟨(b ++ [UInt8.ofNat k]).toArray⟩ := bytes_append b [UInt8.ofNat k]
 have ha2 : (⟨(b ++ [UInt8.ofNat k]).toArray⟩ ++ ⟨(List.replicate pad (0 : UInt8)).toArray⟩ : ByteArray) = ⟨(innerE k b pad).toArray⟩ := by rw [bytes_append, List.append_assoc]; rfl
 have hx1l : (b ++ [UInt8.ofNat k]).length = n + 1 := by rw [List.length_append, hn]; rfl
 have ha3 := bytes_append (headE 23 m) (boxE (keyL 4 (keyH S)) 11 (nonceH (ivH S) u0) (innerE k b pad) (headE 23 m))
 clear hre
 change ∀ W, Calls _ _ _ W fun e w' => e = .returned (.string ⟨(boxE (keyL 4 (keyH S)) 11 (nonceH (ivH S) u0) (innerE k b pad) (headE 23 m)).toArray⟩) ∧ _ at hr5
 generalize boxE (keyL 4 (keyH S)) 11 (nonceH (ivH S) u0) (innerE k b pad) (headE 23 m) = BX at *
 have HDL := Lib.hid (show (headE 23 m).length = 5 from rfl)
 generalize headE 23 m = HD at *
 generalize nonceH (ivH S) u0 = NO at *
 generalize innerE k b pad = IN at *
 generalize b ++ [UInt8.ofNat k] = X1 at *
 generalize keyH S = KY at *
 generalize UInt8.ofNat k = yk at *
 generalize List.replicate pad (0 : UInt8) = Z at *
 have c0 := h.c0
 have hc1 := h.c1
 have HC0 := Lib.hid (fun (W : World) (hb : Below w.heap.size w W) => (h.below hb).c0)
 have HC1 := Lib.hid (fun (W : World) (hb : Below w.heap.size w W) => (h.below hb).c1)
 have HFR := Lib.hid (fun (W : World) (hb : Below w.heap.size w W) => (h.below hb).half.frozen 1)
 have HNX := Lib.hid (fun (W : World) (hb : Below w.heap.size w W) => (show RHalf (W.setCell ⟨gm, 1, none⟩ (.int .i64 (u1 : Int))) gm u1 S by rw [hu1]; exact (h.below hb).next))
 have HKI := Lib.hid hki
 have HYK := Lib.hid hyk
 have HMK := Lib.hid hmk
 have HBZ := Lib.hid hbz
 have HZL := Lib.hid hzl
 have HLA := Lib.hid hla
 have HNO := Lib.hid hno
 have HHD := Lib.hid hhd
 have HR5 := Lib.hid hr5
 have HIL := Lib.hid (show (IN.length : Int) = (j : Int) by rw [hil])
 have HM := Lib.hid (And.intro hm1 hm2)
 have HU := Lib.hid (And.intro hu2 hu3)
 have HA1 := Lib.hid ha1
 have HA2 := Lib.hid ha2
 have HA3 := Lib.hid ha3
 have hcl1 : ¬ 9223372036854775807 < b.length + 1 := by omega
 have hcl2 : ¬ 9223372036854775807 < X1.length + Z.length := by omega
 have hcl3 : ¬ 9223372036854775807 < HD.length + BX.length := by rw [hbl, HDL.out]; omega
 clear hki hyk hmk hbz hzl hla hno hhd hr5 hil hm1 hm2 hu2 hu3 ha1 ha2 ha3 hu1 hkl hnl hbl hn hp hu hk hm0 h hx1l c0 hj
 go_enter Tryd.func16, Tryd.ntmps16
 go_upto_region 7 with (go_at_call 39; refine (HKI.out _).mono ?_; rintro e w' ⟨rfl, hww⟩; have hw2 := hww.symm; subst hw2)
 clear hc1 q1 q2 q3 t1 t2 t3 hlen
 apply wp_region_once (D := [[], [], [1], [1, 2], [1, 2, 3], [0, 1, 2, 3, 4], [], [6], [6, 7], [0, 1, 2, 3, 4, 5, 6, 7, 8], [0, 1, 2, 3, 4, 5, 6, 7, 8, 9]]) (J := [[], [], [1], [2], [3], [0, 4], [], [6], [7], [5, 8], [9]]) (Je := [10]) (Rs := [Is _, Is _, Is _, fun v V => ∃ (A : Option Addr) (c : Nat), v = .slice A 1 c ∧ In V V.heap.size A c [yk], Is _, Is _, Is _, fun v V => ∃ (A : Option Addr) (c : Nat), v = .slice A pad c ∧ In V V.heap.size A c Z, Is _, Is _, Is _])
 ·
  kernel_rfl
 ·
  kernel_rfl
 ·
  kernel_rfl
 ·
  kernel_rfl
 ·
  kernel_rfl
 ·
  kernel_rfl
 ·
  intro u
  simp only [List.map_cons, List.map_nil, fillU, List.setIfInBounds_toArray, List.set_cons_zero, List.set_cons_succ, Nat.zero_add, Nat.reduceAdd]
  exact rfl
 ·
  skip
  refine ⟨fun u V hb hd K hK => ?_, ?_⟩
  ·
   clear hd
   go_simp
   apply hK
   ·
    simp only [Act.put, List.setIfInBounds_toArray, List.set_cons_zero, List.set_cons_succ]
    exact rfl
   ·
    exact Below.refl _ _
   ·
    exact IsOut
  refine ⟨fun u V hb hd K hK => ?_, ?_⟩
  ·
   clear hd
   go_simp
   apply hK
   ·
    simp only [Act.put, List.setIfInBounds_toArray, List.set_cons_zero, List.set_cons_succ]
    exact rfl
   ·
    exact Below.refl _ _
   ·
    exact IsOut
  refine ⟨fun u V hb hd K hK => ?_, ?_⟩
  ·
   simp only [Facts, nthR, Is, and_true] at hd
   simp only [hd] at hK ⊢
   clear hd
   have c1 := HYK.out
   go_simp
   apply hK
   ·
    simp only [Act.put, List.setIfInBounds_toArray, List.set_cons_zero, List.set_cons_succ]
    exact rfl
   ·
    exact Below.refl _ _
   ·
    exact IsOut
  refine ⟨fun u V hb hd K hK => ?_, ?_⟩
  ·
   simp only [Facts, nthR, Is, and_true] at hd
   simp only [hd] at hK ⊢
   clear hd
   go_simp
   apply hK
   ·
    simp only [Act.put, List.setIfInBounds_toArray, List.set_cons_zero, List.set_cons_succ]
    exact rfl
   ·
    exact (Below.refl _ _).alloc (Nat.le_refl _) _
   ·
    exact ⟨_, _, rfl, in_new1 _ yk⟩
  refine ⟨fun u V hb hd K hK => ?_, ?_⟩
  ·
   simp only [Facts, nthR, and_true] at hd
   obtain ⟨A, c, h39, hi⟩ := hd
   simp only [h39] at hK ⊢
   clear h39
   have hcv := conv_in (n := 1) rfl hi
   go_simp
   apply hK
   ·
    simp only [Act.put, List.setIfInBounds_toArray, List.set_cons_zero, List.set_cons_succ]
    exact rfl
   ·
    exact Below.refl _ _
   ·
    exact IsOut
  refine ⟨fun u V hb hd K hK => ?_, ?_⟩
  ·
   simp only [Facts, nthR, Is, and_true] at hd
   simp only [hd] at hK ⊢
   clear hd
   go_simp
   rw [HA1.out]
   apply hK
   ·
    simp only [Act.put, List.setIfInBounds_toArray, List.set_cons_zero, List.set_cons_succ]
    exact rfl
   ·
    exact Below.refl _ _
   ·
    exact IsOut
  refine ⟨fun u V hb hd K hK => ?_, ?_⟩
  ·
   clear hd
   go_simp
   apply hK
   ·
    simp only [Act.put, List.setIfInBounds_toArray, List.set_cons_zero, List.set_cons_succ]
    exact rfl
   ·
    exact Below.refl _ _
   ·
    exact IsOut
  refine ⟨fun u V hb hd K hK => ?_, ?_⟩
  ·
   simp only [Facts, nthR, Is, and_true] at hd
   simp only [hd] at hK ⊢
   clear hd
   have hmk := HMK.out V
   go_simp
   apply hK
   ·
    simp only [Act.put, List.setIfInBounds_toArray, List.set_cons_zero, List.set_cons_succ]
    exact rfl
   ·
    exact (Below.refl _ _).alloc (Nat.le_refl _) _
   ·
    exact ⟨_, _, rfl, (HBZ.out V).toIn (Nat.le_refl _)⟩
  refine ⟨fun u V hb hd K hK => ?_, ?_⟩
  ·
   simp only [Facts, nthR, and_true] at hd
   obtain ⟨A, c, h43, hi⟩ := hd
   simp only [h43] at hK ⊢
   clear h43
   have hcv := conv_in HZL.out hi
   go_simp
   apply hK
   ·
    simp only [Act.put, List.setIfInBounds_toArray, List.set_cons_zero, List.set_cons_succ]
    exact rfl
   ·
    exact Below.refl _ _
   ·
    exact IsOut
  refine ⟨fun u V hb hd K hK => ?_, ?_⟩
  ·
   simp only [Facts, nthR, Is, and_true] at hd
   simp only [hd] at hK ⊢
   clear hd
   go_simp
   rw [HA2.out]
   apply hK
   ·
    simp only [Act.put, List.setIfInBounds_toArray, List.set_cons_zero, List.set_cons_succ]
    exact rfl
   ·
    exact Below.refl _ _
   ·
    exact IsOut
  refine ⟨fun u V hb hd K hK => ?_, ?_⟩
  ·
   simp only [Facts, nthR, Is, and_true] at hd
   simp only [hd] at hK ⊢
   clear hd
   go_simp
   apply hK
   ·
    simp only [Act.put, List.setIfInBounds_toArray, List.set_cons_zero, List.set_cons_succ]
    exact rfl
   ·
    exact Below.refl _ _
   ·
    exact IsOut
  exact trivial
 ·
  exact (.is (.is (.is (.cons (fun v V V' ⟨A, c, h1, h2⟩ hb => ⟨A, c, h1, in_up h2 hb⟩) (.is (.is (.is (.cons (fun v V V' ⟨A, c, h1, h2⟩ hb => ⟨A, c, h1, in_up h2 hb⟩) (.is (.is (.is .nil)))))))))))
 ·
  intro u V hb hd
  simp only [Facts, nthR, Is, and_true] at hd
  simp only [hd]
  clear hd
  have hc0 := HC0.out V hb
  go_upto_region 9 with (go_at_call 17; refine (HLA.out _).mono ?_; rintro e w2 ⟨rfl, hb2⟩)
  replace hb := hb.trans (hb2.mono hb.size)
  clear hb2 hc0
  have hil := HIL.out
  obtain ⟨hm1, hm2⟩ := HM.out
  go_upto_region 10 with (go_at_call 18; refine (HHD.out _).mono ?_; rintro e w3 ⟨rfl, hb3⟩)
  replace hb := hb.trans (hb3.mono hb.size)
  clear hb3 hil hm1 hm2
  go_upto_region 11 with (first
   | (go_at_call 40; refine (HNO.out _ hb).mono ?_; rintro e w4 ⟨rfl, hb4⟩)
   | (go_at_call 19; refine (HR5.out _).mono ?_; rintro e w5 ⟨rfl, hb5⟩))
  replace hb := hb.trans ((hb4.trans (hb5.mono hb4.size)).mono hb.size)
  clear hb4 hb5
  have hcc := HC1.out w5 hb
  have hff := HFR.out w5 hb
  obtain ⟨hu2, hu3⟩ := HU.out
  go_upto_region 12 with (fail)
  have HX := Lib.hid (And.intro (HNX.out w5 hb) (grown_setCell (grown_of_below hb (some gm)) (p := ⟨gm, 1, none⟩) (.inl rfl) (.int .i64 (u1 : Int))))
  clear hcc hff hu2 hu3 hb
  generalize w5.setCell ⟨gm, 1, none⟩ (.int .i64 (u1 : Int)) = w6 at *
  have ha3 := HA3.out
  go_wp2
  go_ret2
  exact ⟨rfl, HX.out.1, HX.out.2⟩
end Go.Proofs.YtnjpcbbdhimacaaDoor
