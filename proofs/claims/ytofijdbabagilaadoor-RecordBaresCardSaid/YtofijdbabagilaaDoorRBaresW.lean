/-
  The walk of the statement RecordBares.
-/
import Derived.Test.YtofijdbabagilaaDoorRx2
import Derived.Test.YtofijdbabagilaaDoorRd3
namespace Go.Proofs.YtofijdbabagilaaDoor
open Go.RowKit

theorem buf_zeros (w : World) (n : Nat) (hm : n ≤ 1000000) : Buf (w.alloc (.cells ((List.replicate n (0 : UInt8)).map B8).toArray 5)) w.heap.size (some ⟨w.heap.size, 0, none⟩) n n (List.replicate n 0) :=
  Buf.made _ _ _ _ (Nat.le_refl _) List.length_replicate (Nat.le_refl _) (by unfold maxLen; omega) (by simp) (.inr rfl) (fun j hj => by
    rw [List.getElem?_toArray]
    exact getD_map8 _ j (by rw [List.length_replicate]; exact hj))
theorem bare_fine {k : Int} {b : List UInt8} (h : (bareE k b).2 = 0) : ∃ q : Nat, k = (q : Int) ∧ kindB (q : Int) = true ∧ b.length ≤ 16384 ∧ bareE k b = (headE q b.length ++ b, 0) := by
  unfold bareE at *
  split at h
  · simp at h
  · split at h
    · simp at h
    · rename_i h1 h2
      have hk : kindB k = true := by simpa using h1
      obtain ⟨q, rfl⟩ : ∃ q : Nat, k = (q : Int) := ⟨k.toNat, by rcases kindB_three hk with h | h | h <;> omega⟩
      exact ⟨q, rfl, hk, by omega, by rw [if_neg h1, if_neg h2, Int.toNat_natCast]⟩
theorem body_rec (k n : Nat) (X : List UInt8) (hk : kindB (k : Int) = true) (hn : X.length = n) (hm : n ≤ 16384) : bodyE (headE k n ++ X) = (k, X, 0) := by
  unfold bodyE
  rw [parts_rec k n X hk hn (by omega), if_neg (by simp), if_neg (by rw [hn]; omega)]
theorem cut_short (k n : Nat) (X : List UInt8) (hk : kindB (k : Int) = true) (hn : X.length = n) (hm : n ≤ 16384) : cutE ((headE k n ++ X).take (4 + n)) = ([], [], 3) := by
  have hl : ((headE k n ++ X).take (4 + n)).length = 4 + n := by rw [List.length_take, List.length_append, hn]; show min (4 + n) (5 + n) = _; omega
  have hb : beginsE ((headE k n ++ X).take (4 + n)) = true := by
    unfold beginsE
    rw [hl, show min (4 + n) 3 = 3 by omega]
    have e : ∀ i, i < 4 → ((headE k n ++ X).take (4 + n)).getD i 0 = (headE k n).getD i 0 := fun i hi => by
      rw [List.getD_eq_getElem?_getD, List.getElem?_take, if_pos (by omega), List.getElem?_append_left (by show i < 5; omega), ← List.getD_eq_getElem?_getD]
    simp only [begTo, e 0 (by omega), e 1 (by omega), e 2 (by omega)]
    simp [headE, kind_byte k hk, hk]
  have hs : sizeE ((headE k n ++ X).take (4 + n)) = (0, 3) := by
    unfold sizeE
    rw [hb, hl, if_neg (by decide)]
    by_cases h5 : 4 + n < 5
    · rw [if_pos h5]
    · have hc : cntB ((headE k n ++ X).take (4 + n)) = n := by
        have e : ∀ i, i < 5 → ((headE k n ++ X).take (4 + n)).getD i 0 = (headE k n ++ X).getD i 0 := fun i hi => by
          rw [List.getD_eq_getElem?_getD, List.getElem?_take, if_pos (by omega), ← List.getD_eq_getElem?_getD]
        unfold cntB
        rw [e 3 (by omega), e 4 (by omega)]
        exact head_count k n X (by omega)
      rw [if_neg h5, hc, if_neg (by omega), if_pos (by omega)]
  unfold cutE
  rw [hs]
  rfl
theorem ix_pp (p : Nat) (h : p < 1000000) : wrap64 (p : Int) = (p : Int) := by unfold wrap64; omega
theorem ix_bares (a : Int) (q : Nat) (hq : (q : Int) = IntKind.u64.wrap a % 17000) : wrap64 ((IntKind.u64.wrap a).tmod 17000) = (q : Int) ∧ q < 17000 := by
  have hu0 : (0 : Int) ≤ IntKind.u64.wrap a := by rw [IntKind.wrap_u64]; omega
  rw [Int.tmod_eq_emod_of_nonneg hu0, ← hq]
  unfold wrap64
  omega

set_option maxRecDepth 100000 in
set_option maxHeartbeats 1000000 in
theorem recordBares_walk (k0 a : Int) (A : Option Addr) (c : Nat) (b : List UInt8) (w : World) (iB : In w w.heap.size A c b) (ht : Tabs w) :
    Calls Tryd.prog 3 #[.int .i64 k0, .int .i64 a, .slice A b.length c] w fun e w' => e = .returned (.bool true) ∧ Below w.heap.size w w' := by
  have ms : min (b.length : Int) 300 = ((b.take 300).length : Int) := by rw [List.length_take]; omega
  have hb3 : (b.take 300).length ≤ 300 := by rw [List.length_take]; omega
  have hbl : (b.take 300).length ≤ b.length := by rw [List.length_take]; omega
  have hbc := iB.1
  replace iB := iB.take 300
  generalize b.take 300 = B at *
  obtain ⟨nb, hnb⟩ : ∃ nb, nb = B.length := ⟨_, rfl⟩
  obtain ⟨lb, hlb⟩ : ∃ lb, lb = b.length := ⟨_, rfl⟩
  rw [← hnb] at ms hb3 hbl
  rw [← hlb] at ms hbl hbc ⊢
  have hc0 : (0 : Int) ≤ (nb : Int) := by omega
  have hc1 : (nb : Int) ≤ (c : Int) := by omega
  obtain ⟨q, hq⟩ : ∃ q : Nat, (q : Int) = IntKind.u64.wrap a % 17000 := ⟨(IntKind.u64.wrap a % 17000).toNat, Int.toNat_of_nonneg (Int.emod_nonneg _ (by decide))⟩
  obtain ⟨hq1, hq2⟩ := ix_bares a q hq
  have hmk := fun (W : World) => run_make_bytes .i64 .i64 q q (Nat.le_refl _) (by omega) W
  have hbz := fun (W : World) => buf_zeros W q (by omega)
  have hzl : (List.replicate q (0 : UInt8)).length = q := List.length_replicate
  generalize List.replicate q (0 : UInt8) = Z at *
  have HNB := Lib.hid hnb.symm
  have HZL := Lib.hid hzl
  have HB3 := Lib.hid (show nb < 1000000 by omega)
  have HQ := Lib.hid (show q < 1000000 by omega)
  have HT := Lib.hid ht
  have HBZ := Lib.hid hbz
  clear hb3 hbl hbc hq hq2 hbz hzl hnb hlb ht
  go_enter Tryd.func3, Tryd.ntmps3
  go_upto_region 3 with (fail)
  have hZ := HBZ.out w
  have hbw : Below w.heap.size w (w.alloc (.cells (Z.map B8).toArray 5)) := (Below.refl _ _).alloc (Nat.le_refl _) _
  replace iB := in_up iB hbw
  generalize w.alloc (.cells (Z.map B8).toArray 5) = w1 at *
  generalize (some ⟨w.heap.size, 0, none⟩ : Option Addr) = AZ at *
  clear hmk ms hc0 hc1
  have hcz := conv_in HZL.out (hZ.toIn (Nat.le_refl _))
  go_upto_region 4 with (go_at_call 7; refine (bare_e k0 _ _ q Z _ HZL.out (hZ.toIn (Nat.le_refl _)) HQ.out).mono ?_; rintro e w2 ⟨A8, n8, c8, rfl, hX, hb2⟩; replace hX := hX.base hbw.size; replace iB := in_up iB hb2; replace hZ := hZ.below hb2; replace hbw := hbw.trans (hb2.mono hbw.size); clear hb2)
  clear hcz
  have hcz := conv_in HZL.out (hZ.toIn (Nat.le_refl _))
  go_upto_region 5 with (go_at_call 8; refine (rbare_e k0 q Z _ HZL.out HQ.out).mono ?_; rintro e w3 ⟨rfl, hb3⟩; replace iB := in_up iB hb3; replace hZ := hZ.below hb3; replace hX := hX.below hb3; replace hbw := hbw.trans (hb3.mono hbw.size); clear hb3)
  clear hcz
  go_upto_region 6 with (go_at_call 9; refine (cut_e A c nb B _ HNB.out iB HB3.out).mono ?_; rintro e w4 ⟨A12, n12, c12, A13, n13, c13, rfl, hR, hS, hb4⟩; replace hR := hR.base hbw.size; replace hS := hS.base hbw.size; replace iB := in_up iB hb4; replace hZ := hZ.below hb4; replace hX := hX.below hb4; replace hbw := hbw.trans (hb4.mono hbw.size); clear hb4)
  have hcb := conv_in HNB.out iB
  go_upto_region 7 with (go_at_call 10; refine (rcut_e nb B _ HNB.out HB3.out).mono ?_; rintro e w5 ⟨rfl, hb5⟩; replace iB := in_up iB hb5; replace hZ := hZ.below hb5; replace hX := hX.below hb5; replace hR := hR.below hb5; replace hS := hS.below hb5; replace hbw := hbw.trans (hb5.mono hbw.size); clear hb5)
  clear hcb
  go_upto_region 8 with (go_at_call 11; refine (body_e A c nb B _ HNB.out iB HB3.out).mono ?_; rintro e w6 ⟨A19, n19, c19, rfl, hO, hb6⟩; replace hO := hO.base hbw.size; replace iB := in_up iB hb6; replace hZ := hZ.below hb6; replace hX := hX.below hb6; replace hR := hR.below hb6; replace hS := hS.below hb6; replace hbw := hbw.trans (hb6.mono hbw.size); clear hb6)
  have hcb := conv_in HNB.out iB
  go_upto_region 9 with (go_at_call 12; refine (rbody_e nb B _ HNB.out HB3.out).mono ?_; rintro e w7 ⟨rfl, hb7⟩; replace hZ := hZ.below hb7; replace hX := hX.below hb7; replace hR := hR.below hb7; replace hS := hS.below hb7; replace hO := hO.below hb7; replace hbw := hbw.trans (hb7.mono hbw.size); clear hb7)
  clear hcb iB
  have HBF := Lib.hid (fun (h : (bareE k0 Z).2 = 0) => bare_fine h)
  generalize cutE B = cu at *
  generalize bodyE B = bo at *
  generalize hbe : bareE k0 Z = ba at *
  obtain ⟨cu1, cu2, cu3⟩ := cu
  obtain ⟨bo1, bo2, bo3⟩ := bo
  obtain ⟨ba1, ba2⟩ := ba
  have HBE := Lib.hid hbe
  clear hbe
  have HTT := Lib.hid (HT.out.below hbw)
  go_upto_region 11 with (go_at_call 13; refine (records_e _ HTT.out).mono ?_; rintro e w8 ⟨rfl, hb8⟩; replace hZ := hZ.below hb8; replace hX := hX.below hb8; replace hR := hR.below hb8; replace hS := hS.below hb8; replace hO := hO.below hb8; replace hbw := hbw.trans (hb8.mono hbw.size); clear hb8; have hcx := conv_in hX.1 (hX.toIn (Nat.le_refl _)); have hcr := conv_in hR.1 (hR.toIn (Nat.le_refl _)); have hcs := conv_in hS.1 (hS.toIn (Nat.le_refl _)); have hco := conv_in hO.1 (hO.toIn (Nat.le_refl _)))
  clear hcx hcr hcs hco hR hS hO
  by_cases he : ba2 = 0
  · obtain ⟨qk, hk0, hkb, hz16, hba⟩ := HBF.out he
    subst hk0
    have hb1 : ba1 = headE qk Z.length ++ Z := congrArg Prod.fst hba
    rw [HZL.out] at hb1 hz16
    have hn8 : n8 = 5 + q := by rw [← hX.1, hb1, List.length_append, HZL.out]; rfl
    have hbo : Calls Tryd.prog 11 #[.slice A8 n8 c8] w8 fun e w' => ∃ A' n' c', e = .returned (.tuple #[.int .i64 (qk : Int), .slice A' n' c', .int .i64 0]) ∧ Buf w' w8.heap.size A' n' c' Z ∧ Below w8.heap.size w8 w' := by
      have := body_e A8 c8 n8 ba1 w8 hX.1 (hX.toIn (Nat.le_refl _)) (by omega)
      rw [hb1, body_rec qk q Z hkb HZL.out hz16] at this
      exact this
    obtain ⟨p, hp⟩ : ∃ p, p = 4 + q := ⟨_, rfl⟩
    have hcu : ∀ W : World, In W W.heap.size A8 c8 ba1 → Calls Tryd.prog 9 #[.slice A8 p c8] W fun e w' => ∃ A1 n1 c1 A2 n2 c2, e = .returned (.tuple #[.slice A1 n1 c1, .slice A2 n2 c2, .int .i64 3]) ∧ Below W.heap.size W w' := fun W i => by
      have := cut_e A8 c8 p (ba1.take p) W (by rw [List.length_take, hX.1]; omega) (i.take p) (by omega)
      rw [hb1, hp, cut_short qk q Z hkb HZL.out hz16] at this
      rw [hp]
      exact this.mono (fun e w' ⟨A1, n1, c1, A2, n2, c2, h1, _, _, h4⟩ => ⟨A1, n1, c1, A2, n2, c2, h1, h4⟩)
    have hd : (ba2 : Int) = 0 := by omega
    have hp1 : (n8 : Int) - 1 = (p : Int) := by omega
    have hp2 : wrap64 (p : Int) = (p : Int) := ix_pp p (by omega)
    have hp0 : (0 : Int) ≤ (p : Int) := by omega
    have hpc : (p : Int) ≤ (c8 : Int) := by have := hX.le.1; omega
    have HBO := Lib.hid hbo
    have HCU := Lib.hid hcu
    clear hbo hcu hp hn8 hb1 hba hz16 he
    go_upto_region 14 with (go_at_call 11; refine HBO.out.mono ?_; rintro e w9 ⟨A9, n9, c9, rfl, hY, hb9⟩; replace hZ := hZ.below hb9; replace hX := hX.below hb9; replace hbw := hbw.trans (hb9.mono hbw.size); clear hb9)
    go_upto_region 15 with (go_at_call 9; refine (HCU.out _ (hX.toIn (Nat.le_refl _))).mono ?_; rintro e w10 ⟨A1, n1, c1, A2, n2, c2, rfl, hb10⟩; replace hZ := hZ.below hb10; replace hY := hY.below hb10; replace hbw := hbw.trans (hb10.mono hbw.size); clear hb10)
    have hcz := conv_in HZL.out (hZ.toIn (Nat.le_refl _))
    have hcy := conv_in hY.1 (hY.toIn (Nat.le_refl _))
    go_wp2
    go_ret
    exact ⟨rfl, hbw⟩
  · have hd : ¬ (ba2 : Int) = 0 := by omega
    go_wp2
    go_ret
    exact ⟨rfl, hbw⟩
end Go.Proofs.YtofijdbabagilaaDoor
