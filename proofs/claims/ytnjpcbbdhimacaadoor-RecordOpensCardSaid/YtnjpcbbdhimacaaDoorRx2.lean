/-
 Rx2.
-/
import Derived.Test.YtnjpcbbdhimacaaDoorRx1
namespace Go.Proofs.YtnjpcbbdhimacaaDoor
open Go.RowKit
def secret1 : List UInt8 := 1 :: List.replicate 31 0
def abL : List UInt8 := [97, 98]
theorem buf_ab (W : World) : Buf (W.alloc (.cells #[.int .u8 97, .int .u8 98] 5 (2, 3))) W.heap.size (some ⟨W.heap.size, 0, none⟩) 2 2 abL :=
 Buf.made _ _ 2 3 (Nat.le_refl _) rfl (Nat.le_refl _) (by unfold maxLen; omega) rfl (.inl (Nat.le_refl _)) (fun j hj => by
  obtain rfl | rfl : j = 0 ∨ j = 1 := by omega
  ·
   rfl
  ·
   rfl)
theorem bare_known : bareE 22 abL = ([22, 3, 3, 0, 2, 97, 98], 0) := by decide +kernel
set_option maxRecDepth 100000 in
set_option maxHeartbeats 1000000 in
theorem records_e (w : World) (ht : Tabs w) : Calls Tryd.prog 12 #[] w fun e w' => e = .returned (.bool true) ∧ Below w.heap.size w w' := by
 have kba := fun (W : World) (A : Option Addr) (i : In W W.heap.size A 2 abL) => bare_e 22 A 2 2 abL W rfl i (by decide)
 rw [bare_known] at kba
 have kn : ∀ W : World, Tabs W → Calls Tryd.prog 14 #[.agg #[.int .u8 1, .int .u8 0, .int .u8 0, .int .u8 0, .int .u8 0, .int .u8 0, .int .u8 0, .int .u8 0, .int .u8 0, .int .u8 0, .int .u8 0, .int .u8 0, .int .u8 0, .int .u8 0, .int .u8 0, .int .u8 0, .int .u8 0, .int .u8 0, .int .u8 0, .int .u8 0, .int .u8 0, .int .u8 0, .int .u8 0, .int .u8 0, .int .u8 0, .int .u8 0, .int .u8 0, .int .u8 0, .int .u8 0, .int .u8 0, .int .u8 0, .int .u8 0]] W fun e w' => ∃ gh gx gk gr, e = .returned (.pointer (some ⟨gh, 0, none⟩)) ∧ W.heap.size ≤ gh ∧ W.heap.size ≤ gx ∧ HalfAt w' gh gx gk gr 11 (keyL 4 (keyH secret1)) (ivH secret1) 0 ∧ Below W.heap.size W w' := fun W t => hnew_e secret1 W rfl t
 have kse : ∀ (W : World) (gh gx gk gr : Nat) (A : Option Addr), HalfAt W gh gx gk gr 11 (keyL 4 (keyH secret1)) (ivH secret1) 0 → In W W.heap.size A 2 abL → Calls Tryd.prog 10 #[.pointer (some ⟨gh, 0, none⟩), .int .i64 22, .slice A 2 2, .int .i64 3] W fun e w' => ∃ A' c', e = .returned (.tuple #[.slice A' 27 c', .int .i64 0]) ∧ Buf w' W.heap.size A' 27 c' (recE (keyL 4 (keyH secret1)) 11 (ivH secret1) 0 22 abL 3) ∧ W.grownBy w' (some gh) :=
  fun W gh gx gk gr A h i => (hseal_ok h 22 2 3 2 A abL rfl rfl i (by decide) (by decide)).mono (fun e w' ⟨A', c', h1, h2, _, h4⟩ => ⟨A', c', h1, h2, h4⟩)
 have kop : ∀ (W : World) (gh gx gk gr : Nat) (A : Option Addr) (c : Nat), HalfAt W gh gx gk gr 11 (keyL 4 (keyH secret1)) (ivH secret1) 0 → In W W.heap.size A c (recE (keyL 4 (keyH secret1)) 11 (ivH secret1) 0 22 abL 3) → Calls Tryd.prog 11 #[.pointer (some ⟨gh, 0, none⟩), .slice A 27 c] W fun e w' => ∃ A' c', e = .returned (.tuple #[.int .i64 22, .slice A' 2 c', .int .i64 0]) ∧ In w' w'.heap.size A' c' abL ∧ W.grownBy w' (some gh) :=
  fun W gh gx gk gr A c h i => (opened_e h 22 2 3 c A abL rfl rfl (by decide) (by decide) i).mono (fun e w' ⟨A', c', h1, h2, _, h4⟩ => ⟨A', c', h1, h2, h4⟩)
 generalize keyL 4 (keyH secret1) = L at *
 generalize ivH secret1 = V at *
 obtain ⟨RR, hRR⟩ : ∃ RR, RR = recE L 11 V 0 22 abL 3 := ⟨_, rfl⟩
 simp only [← hRR] at kse kop
 clear hRR
 have KBA := Lib.hid kba
 have KN := Lib.hid kn
 have KSE := Lib.hid kse
 have KOP := Lib.hid kop
 have HT := Lib.hid ht
 clear kba kn kse kop ht
 go_enter Tryd.func12, Tryd.ntmps12
 have hal : ∀ W : World, Below W.heap.size W (W.alloc (.cells #[.int .u8 97, .int .u8 98] 5 (2, 3))) := fun W => (Below.refl _ _).alloc (Nat.le_refl _) _
 have hin : ∀ W : World, In (W.alloc (.cells #[.int .u8 97, .int .u8 98] 5 (2, 3))) (W.alloc (.cells #[.int .u8 97, .int .u8 98] 5 (2, 3))).heap.size (some ⟨W.heap.size, 0, none⟩) 2 abL := fun W => (buf_ab W).toIn (Nat.le_refl _)
 have HAL := Lib.hid hal
 have HIN := Lib.hid hin
 clear hal hin
 have kc := fun (w : World) (C : Array Value) (n c : Nat) => Lib.run_convert_bytes_const (P := Tryd.prog) w 24 5 C n c Tryd.underlying24 Tryd.underlying5
 go_upto_region 2 with (go_at_call 37; refine (KBA.out _ _ (HIN.out _)).mono ?_; rintro e w1 ⟨A1, n1, c1, rfl, hB1, hb1⟩; have hn1 : 7 = n1 := hB1.1; subst hn1; have hbw := (HAL.out w).trans (hb1.mono (HAL.out w).size); clear hb1)
 go_upto_region 3 with (first
  | (go_at_call 14; refine (KN.out _ (HT.out.below hbw)).mono ?_; rintro e w2 ⟨gh, gx, gk, gr, rfl, hgh, hgx, hH, hb2⟩; have hB1z := hB1; have hbw1 := hbw; have hs12 := Nat.le_trans hb2.size (HAL.out w2).size; replace hB1 := (hB1.below hb2).below (HAL.out w2); replace hbw := (hbw.trans (hb2.mono hbw.size)); replace hbw := hbw.trans ((HAL.out w2).mono hbw.size); clear hb2)
  | (go_at_call 10; refine (KSE.out _ gh gx gk gr _ (hH.below (HAL.out _)) (HIN.out _)).mono ?_; rintro e w3 ⟨A3, c3, rfl, hB3, hg3⟩))
 have hz2 : w.heap.size ≤ (w2.alloc (.cells #[.int .u8 97, .int .u8 98] 5 (2, 3))).heap.size := hbw.size
 have hge : w.heap.size ≤ gh := Nat.le_trans hbw1.size hgh
 replace hbw := below_new hbw hg3 hge hz2
 replace hB1 := hB1.kept hg3 (fun g e h => by have h1 := (hB1z.lt e).2; injection h with h; omega)
 replace hB3 := hB3.base hz2
 have hs3 := Nat.le_trans hs12 hg3.size
 clear hg3 hz2 hge hH
 go_upto_region 4 with (first
  | (go_at_call 14; refine (KN.out _ (HT.out.below hbw)).mono ?_; rintro e w4 ⟨gh2, gx2, gk2, gr2, rfl, hgh2, _, hH2, hb4⟩; replace hB1 := hB1.below hb4; have hB3z := hB3; replace hB3 := hB3.below hb4; have hbw3 := hbw; replace hbw := hbw.trans (hb4.mono hbw.size); clear hb4)
  | (go_at_call 11; refine (KOP.out _ gh2 gx2 gk2 gr2 _ _ hH2 (hB3.toIn (Nat.le_refl _))).mono ?_; rintro e w5 ⟨A5, c5, rfl, hi5, hg5⟩))
 have hge2 : w.heap.size ≤ gh2 := Nat.le_trans hbw3.size hgh2
 have hz1 : w1.heap.size ≤ gh2 := Nat.le_trans hs3 hgh2
 replace hB1 := hB1.kept hg5 (fun g e h => by have h1 := (hB1z.lt e).2; injection h with h; omega)
 replace hbw := below_new hbw hg5 hge2 hbw.size
 have hcv1 := conv_in hB1.1 (hB1.toIn (Nat.le_refl _))
 have hcv2 := conv_in (y := abL) (n := 2) rfl hi5
 go_wp2
 go_ret
 exact ⟨rfl, hbw⟩

end Go.Proofs.YtnjpcbbdhimacaaDoor
