/-
  The walk of the statement RecordPads.
-/
import Derived.Test.YtceenlmidlmmgaaDoorRk2
namespace Go.Proofs.YtceenlmidlmmgaaDoor
open Go.RowKit

theorem ix_pads (a : Int) (q : Nat) (hq : (q : Int) = IntKind.u64.wrap a % 300) : wrap64 ((IntKind.u64.wrap a).tmod 300) = (q : Int) ∧ q < 300 := by
  have hu0 : (0 : Int) ≤ IntKind.u64.wrap a := by rw [IntKind.wrap_u64]; omega
  rw [Int.tmod_eq_emod_of_nonneg hu0, ← hq]
  unfold wrap64
  omega
theorem ix_kd (k : Nat) (h : k < 8) : ∃ q kd : Nat, (k : Int).tmod 3 = (q : Int) ∧ wrap64 (q : Int) = (q : Int) ∧ (21 : Int) + (q : Int) = (kd : Int) ∧ wrap64 (kd : Int) = (kd : Int) ∧ kindB (kd : Int) = true := by
  refine ⟨k % 3, 21 + k % 3, ?_, by unfold wrap64; omega, by omega, by unfold wrap64; omega, ?_⟩
  · rw [Int.tmod_eq_emod_of_nonneg (by omega)]; omega
  · obtain h | h | h : k % 3 = 0 ∨ k % 3 = 1 ∨ k % 3 = 2 := by omega
    · rw [h]; rfl
    · rw [h]; rfl
    · rw [h]; rfl
theorem ix_up (k np : Nat) (h : k < 8) (hn : k < np) : ∃ k1 : Nat, k1 = k + 1 ∧ (k : Int) + 1 = (k1 : Int) ∧ wrap64 (k1 : Int) = (k1 : Int) ∧ (k1 ≤ np ∧ np - k1 < np - k) ∧ (0 : Int) ≤ (k : Int) ∧ (k : Int) < (np : Int) ∧ (k : Int) < 8 := ⟨_, rfl, by omega, by unfold wrap64; omega, by omega, by omega, by omega, by omega⟩
theorem ix_rec (nb q : Nat) (h : nb ≤ 200) (hq : q < 300) : ∃ x1 x2 x3 t : Nat, t = 5 + (nb + 1 + q + 16) ∧ (5 : Int) + (nb : Int) = (x1 : Int) ∧ (x1 : Int) + 1 = (x2 : Int) ∧ (x2 : Int) + (q : Int) = (x3 : Int) ∧ (x3 : Int) + 16 = (t : Int) ∧ wrap64 (x1 : Int) = (x1 : Int) ∧ wrap64 (x2 : Int) = (x2 : Int) ∧ wrap64 (x3 : Int) = (x3 : Int) ∧ wrap64 (t : Int) = (t : Int) :=
  ⟨5 + nb, 5 + nb + 1, 5 + nb + 1 + q, _, rfl, by omega, by omega, by omega, by omega, by unfold wrap64; omega, by unfold wrap64; omega, by unfold wrap64; omega, by unfold wrap64; omega⟩
def PadsAt (w wr : World) (gh gx gk gr gj gy gl gq : Nat) (L : List UInt32) (V : List UInt8) (k : Nat) : Prop :=
  HalfAt wr gh gx gk gr 11 L V k ∧ HalfAt wr gj gy gl gq 11 L V k ∧ w.heap.size ≤ gh ∧ w.heap.size ≤ gj ∧ gh ≠ gj ∧ Below w.heap.size w wr
theorem pads_seal (gh gx gk gr : Nat) (L : List UInt32) (V : List UInt8) (W : World) (A : Option Addr) (c k kd q nb : Nat) (B : List UInt8) (hnb : B.length = nb) (hb3 : nb ≤ 200) (iB : In W W.heap.size A c B) (hk : kindB (kd : Int) = true) (hq : q < 300) (hk8 : k < 8) (h : HalfAt W gh gx gk gr 11 L V k) :
    Calls Tryd.prog 10 #[.pointer (some ⟨gh, 0, none⟩), .int .i64 (kd : Int), .slice A nb c, .int .i64 (q : Int)] W fun e w' => ∃ A' c', e = .returned (.tuple #[.slice A' (5 + (nb + 1 + q + 16)) c', .int .i64 0]) ∧ Buf w' W.heap.size A' (5 + (nb + 1 + q + 16)) c' (recE L 11 V k kd B q) ∧ HalfAt w' gh gx gk gr 11 L V (k + 1) ∧ W.grownBy w' (some gh) :=
  hseal_ok h kd nb q c A B hk hnb iB (by omega) (by omega)
theorem pads_open (gh gx gk gr : Nat) (L : List UInt32) (V : List UInt8) (W : World) (A : Option Addr) (c k kd q nb : Nat) (B : List UInt8) (hnb : B.length = nb) (hb3 : nb ≤ 200) (hk : kindB (kd : Int) = true) (hq : q < 300) (hk8 : k < 8) (h : HalfAt W gh gx gk gr 11 L V k) (iB : In W W.heap.size A c (recE L 11 V k kd B q)) :
    Calls Tryd.prog 11 #[.pointer (some ⟨gh, 0, none⟩), .slice A (5 + (nb + 1 + q + 16)) c] W fun e w' => ∃ A' c', e = .returned (.tuple #[.int .i64 (kd : Int), .slice A' nb c', .int .i64 0]) ∧ In w' w'.heap.size A' c' B ∧ HalfAt w' gh gx gk gr 11 L V (k + 1) ∧ W.grownBy w' (some gh) :=
  opened_e h kd nb q c A B hk hnb (by omega) (by omega) iB
set_option maxRecDepth 100000 in
set_option maxHeartbeats 1000000 in
theorem recordPads_walk (S b : List UInt8) (A AP : Option Addr) (c cp np : Nat) (zs : List Int) (w : World) (hS : S.length = 32) (iB : In w w.heap.size A c b) (iP : IIn w w.heap.size AP cp np zs) (ht : Tabs w) :
    Calls Tryd.prog 6 #[BV S, .slice A b.length c, .slice AP np cp] w fun e w' => e = .returned (.bool true) ∧ Below w.heap.size w w' := by
  have ms : min (b.length : Int) 200 = ((b.take 200).length : Int) := by rw [List.length_take]; omega
  have hb3 : (b.take 200).length ≤ 200 := by rw [List.length_take]; omega
  have hbl : (b.take 200).length ≤ b.length := by rw [List.length_take]; omega
  have hbc := iB.1
  replace iB := iB.take 200
  generalize b.take 200 = B at *
  obtain ⟨nb, hnb⟩ : ∃ nb, nb = B.length := ⟨_, rfl⟩
  obtain ⟨lb, hlb⟩ : ∃ lb, lb = b.length := ⟨_, rfl⟩
  rw [← hnb] at ms hb3 hbl
  rw [← hlb] at ms hbl hbc ⊢
  have hc0 : (0 : Int) ≤ (nb : Int) := by omega
  have hc1 : (nb : Int) ≤ (c : Int) := by omega
  have HNB := Lib.hid hnb.symm
  have HB3 := Lib.hid hb3
  have HT := Lib.hid ht
  have HSL := Lib.hid hS
  have HIB := Lib.hid iB
  have HIP := Lib.hid iP
  clear hb3 hbl hbc hnb hlb ht hS iB iP
  go_enter Tryd.func6, Tryd.ntmps6
  go_upto_region 2 with (fail)
  have hA := Blk.new_of w 22 (S.map B8).toArray (S.map B8) rfl
  have hb0 : Below w.heap.size w (w.alloc (.cells (S.map B8).toArray 22)) := (Below.refl _ _).alloc (Nat.le_refl _) _
  obtain ⟨gS, hg⟩ : ∃ g, g = w.heap.size := ⟨_, rfl⟩
  rw [← hg] at hA
  simp only [← hg]
  have HBW := Lib.hid (show Below w.heap.size w (w.alloc (.cells (S.map B8).toArray 22)) from hb0)
  generalize w.alloc (.cells (S.map B8).toArray 22) = w1 at *
  have HCA := Lib.hid (fun (W : World) (h : Below w1.heap.size w1 W) => rangeAt_of_blk (hA.below h hA.lt))
  clear hA hg hb0 ms hc0 hc1
  refine wp_region_noPanic ?_
  refine wp_region_held_drew (S := fun W => Below w1.heap.size w1 W) (by kernel_rfl) (by exact below_drewN (Below.refl _ _) 1) (fun hHeld => ?_)
  refine' wpAnyH_take (i := 0) (oi := ⟨_, _, _, _, _, _⟩) rfl (by kernel_rfl) (by kernel_rfl) (by kernel_rfl) (fun _ _ _ h => h) (yieldsIf_load_mid (by rfl) 22 _ rfl gS 0 rfl (S.map B8) _ (fun W h => HCA.out W h) Tryd.underlying22 rfl (info32.trans (by rw [List.length_map, HSL.out]))) hHeld ?_
  try simp only [Act.put, List.setIfInBounds_toArray, List.set_cons_zero, List.set_cons_succ]
  refine' wpAnyH_take (i := 2) (oi := ⟨_, _, _, _, _, _⟩) rfl (by kernel_rfl) (by kernel_rfl) (by kernel_rfl) (fun _ _ _ h => h) (yieldsIf_load_mid (by rfl) 22 _ rfl gS 0 rfl (S.map B8) _ (fun W h => HCA.out W h) Tryd.underlying22 rfl (info32.trans (by rw [List.length_map, HSL.out]))) hHeld ?_
  try simp only [Act.put, List.setIfInBounds_toArray, List.set_cons_zero, List.set_cons_succ]
  replace hHeld : Below w1.heap.size w1 w1.drew := hHeld
  generalize w1.drew = wd at *
  have HWD := Lib.hid (show w1.heap.size ≤ wd.heap.size from hHeld.size)
  refine wpAnyH_ready (rs := [1]) (by kernel_rfl) (by simp) ?_
  refine AllReadyH.cons (o := ⟨_, _, _, _, _, _⟩) rfl (fun K hK => ?_) AllReadyH.nil
  go_simp
  go_at_call 14
  refine (hnew_e S _ HSL.out (HT.out.below (HBW.out.trans (hHeld.mono HBW.out.size)))).mono ?_
  rintro e wa ⟨gh, gx, gk, gr, rfl, hgh, hgx, hH, hb1⟩
  try go_wp2_with fail
  have hszx := hHeld.size
  refine hK.out _ _ (hHeld.trans (hb1.mono hszx)) (fun hHeld => ?_)
  clear hK K hszx
  try simp only [Act.put, List.setIfInBounds_toArray, List.set_cons_zero, List.set_cons_succ]
  refine wpAnyH_ready (rs := [3]) (by kernel_rfl) (by simp) ?_
  refine AllReadyH.cons (o := ⟨_, _, _, _, _, _⟩) rfl (fun K hK => ?_) AllReadyH.nil
  go_simp
  go_at_call 14
  refine (hnew_e S _ HSL.out (HT.out.below (HBW.out.trans (hHeld.mono HBW.out.size)))).mono ?_
  rintro e wb ⟨gj, gy, gl, gq, rfl, hgj, hgy, hJ, hb2⟩
  try go_wp2_with fail
  have hszx := hHeld.size
  refine hK.out _ _ (hHeld.trans (hb2.mono hszx)) (fun hHeld => ?_)
  clear hK K hszx
  try simp only [Act.put, List.setIfInBounds_toArray, List.set_cons_zero, List.set_cons_succ]
  refine wpAnyH_take (i := 4) (oi := ⟨_, _, _, _, _, _⟩) (v := ?_) rfl (by kernel_rfl) (by kernel_rfl) (by kernel_rfl) (fun _ _ _ h => h) (Or.inl ⟨by rfl, ?_⟩) hHeld ?_
  rotate_left 1
  · (intro W hSw; (try dsimp only at hSw); go_simp; try with_reducible rfl)
  try simp only [Act.put, List.setIfInBounds_toArray, List.set_cons_zero, List.set_cons_succ]
  refine wpAnyH_take (i := 5) (oi := ⟨_, _, _, _, _, _⟩) (v := ?_) rfl (by kernel_rfl) (by kernel_rfl) (by kernel_rfl) (fun _ _ _ h => h) (Or.inl ⟨by rfl, ?_⟩) hHeld ?_
  rotate_left 1
  · (intro W hSw; (try dsimp only at hSw); go_simp; try with_reducible rfl)
  try simp only [Act.put, List.setIfInBounds_toArray, List.set_cons_zero, List.set_cons_succ]
  refine wpAnyH_done (by kernel_rfl) ?_ _
  refine NoPanic.normal ?_
  replace hHeld : Below w1.heap.size w1 wb := hHeld
  have HP0 := Lib.hid (show PadsAt w wb gh gx gk gr gj gy gl gq (keyL 4 (keyH S)) (ivH S) 0 from ⟨hH.below hb2, hJ, Nat.le_trans HBW.out.size (Nat.le_trans HWD.out hgh), Nat.le_trans HBW.out.size (Nat.le_trans HWD.out (Nat.le_trans hb1.size hgj)), fun e => absurd hH.below_size.1 (by rw [e]; exact Nat.not_lt_of_le hgj), HBW.out.trans (hHeld.mono HBW.out.size)⟩)
  clear hH hJ hb1 hb2 hgh hgj hgx hgy hHeld HCA HWD HBW
  have HKW := Lib.hid (fun (W : World) (A' : Option Addr) (c' k kd q : Nat) (hB : In W W.heap.size A' c' B) (hk : kindB (kd : Int) = true) (hq : q < 300) (hk8 : k < 8) => pads_seal gh gx gk gr (keyL 4 (keyH S)) (ivH S) W A' c' k kd q nb B HNB.out HB3.out hB hk hq hk8)
  have HOW := Lib.hid (fun (W : World) (A' : Option Addr) (c' k kd q : Nat) (hk : kindB (kd : Int) = true) (hq : q < 300) (hk8 : k < 8) => pads_open gj gy gl gq (keyL 4 (keyH S)) (ivH S) W A' c' k kd q nb B HNB.out HB3.out hk hq hk8)
  generalize keyL 4 (keyH S) = L at *
  generalize ivH S = V at *
  generalize hRR : (fun k kd q : Nat => recE L 11 V k kd B q) = RR at *
  go_wp2
  go_loopw [9] (fun i wr => ∃ k : Nat, k ≤ np ∧ i = .int .i64 (k : Int) ∧ PadsAt w wr gh gx gk gr gj gy gl gq L V k) (fun i _ => np - (intOf i).toNat)
  case atStart => exact ⟨0, Nat.zero_le _, rfl, HP0.out⟩
  case round =>
    obtain ⟨k, hkn, rfl, hp⟩ := hrel
    have HP := Lib.hid hp
    clear hp
    by_cases hlt : k < np
    · have hd : decide (k < np) = true := by simpa using hlt
      by_cases h8 : k < 8
      · obtain ⟨gb, ob, hAe, hgb, hrow⟩ := HIP.out.2.2 (by omega)
        obtain ⟨a, ha⟩ : ∃ a, a = zs.getD k 0 := ⟨_, rfl⟩
        have hcc : wr.cell? ⟨gb, ob + k, none⟩ = some (.int .i64 a) := by rw [ha]; exact (HP.out.2.2.2.2.2.cell (p := ⟨gb, ob + k, none⟩) hgb).trans (hrow k hlt)
        obtain ⟨q, hq⟩ : ∃ q : Nat, (q : Int) = IntKind.u64.wrap a % 300 := ⟨(IntKind.u64.wrap a % 300).toNat, Int.toNat_of_nonneg (Int.emod_nonneg _ (by decide))⟩
        obtain ⟨hq1, hq2⟩ := ix_pads a q hq
        obtain ⟨m, kd, hm1, hm4, hm2, hm3, hkb⟩ := ix_kd k h8
        obtain ⟨k1, hk1, hk2, hk3, hk4, hk0, hkI, hk8⟩ := ix_up k np h8 hlt
        obtain ⟨x1, x2, x3, t, ht, hx1, hx2, hx3, hx4, hy1, hy2, hy3, hy4⟩ := ix_rec nb q HB3.out hq2
        have hse := HKW.out wr A c k kd q (in_up HIB.out HP.out.2.2.2.2.2) hkb hq2 h8 HP.out.1
        have hop := fun (W : World) (A' : Option Addr) (c' : Nat) => HOW.out W A' c' k kd q hkb hq2 h8
        rw [← ht, ← hk1] at hse
        simp only [← ht, ← hk1] at hop
        have HSE := Lib.hid hse
        have HOP := Lib.hid hop
        have HK1 := Lib.hid hk4
        have HM := Lib.hid (And.intro hm1 (And.intro hm2 (And.intro hm3 hm4)))
        have HX := Lib.hid (And.intro hx1 (And.intro hx2 (And.intro hx3 (And.intro hx4 (And.intro hy1 (And.intro hy2 (And.intro hy3 hy4)))))))
        have HK2 := Lib.hid (And.intro hk2 hk3)
        subst hAe
        clear hm1 hm2 hm3 hm4 hx1 hx2 hx3 hx4 hy1 hy2 hy3 hy4 hk2 hk3 hk4 hse hop hrow ha hq hq2 hgb hkb hk1 ht hkn hlt h8
        go_upto_region 7 with (fail)
        rw [hq1]
        clear hcc hq1 hk0 hkI hd
        obtain ⟨hm1, hm2, hm3, hm4⟩ := HM.out
        go_upto_region 8 with (go_at_call 10; with_reducible refine HSE.out.mono ?_; rintro e w3 ⟨A3, c3, rfl, hB3, hH3, hg3⟩)
        have hJ3 := HP.out.2.1.grown HP.out.1.half hg3 (Ne.symm HP.out.2.2.2.2.1)
        have hb3 := below_new HP.out.2.2.2.2.2 hg3 HP.out.2.2.1 HP.out.2.2.2.2.2.size
        clear hm2 hm3 hm1 hm4
        go_upto_region 9 with (go_at_call 11; refine (HOP.out w3 A3 c3 hJ3 (hB3.toIn (Nat.le_refl _))).mono ?_; rintro e w5 ⟨A5, c5, rfl, hi5, hJ5, hg5⟩)
        have hH5 := hH3.grown hJ3.half hg5 HP.out.2.2.2.2.1
        have hb5 := below_new hb3 hg5 HP.out.2.2.2.1 hb3.size
        have hcv1 := conv_in HNB.out hi5
        have hcv2 := conv_in HNB.out (in_up HIB.out hb5)
        have hu := used_e hH5
        rw [← HK2.out.1] at hu
        have HU := Lib.hid hu
        clear hu
        have HF := Lib.hid (And.intro hH5 (And.intro hJ5 hb5))
        clear hH5 hJ5 hb5 hb3 hg5 hJ3 hH3 hB3 hg3 hi5
        obtain ⟨hm1, hm2, hm3, hm4⟩ := HM.out
        obtain ⟨hx1, hx2, hx3, hx4, hy1, hy2, hy3, hy4⟩ := HX.out
        go_wp2_with (go_at_call 13; refine HU.out.mono ?_; rintro e w6 ⟨rfl, hww⟩; have hw6 := hww.symm; subst hw6)
        go_roundw
        case rel => exact ⟨k1, HK1.out.1, by rw [HK2.out.1], HF.out.1, HF.out.2.1, HP.out.2.2.1, HP.out.2.2.2.1, HP.out.2.2.2.2.1, HF.out.2.2⟩
        case measure => rw [HK2.out.1]; exact HK1.out.2
      · have hk8 : ¬ (k : Int) < 8 := by omega
        clear hlt h8 hkn
        go_wp2_with (go_at_call 12; refine (records_e _ (HT.out.below HP.out.2.2.2.2.2)).mono ?_; rintro e we ⟨rfl, hbe⟩)
        go_ret
        exact ⟨rfl, HP.out.2.2.2.2.2.trans (hbe.mono HP.out.2.2.2.2.2.size)⟩
    · have hd : decide (k < np) = false := by simpa using hlt
      clear hlt hkn
      go_wp2_with (go_at_call 12; refine (records_e _ (HT.out.below HP.out.2.2.2.2.2)).mono ?_; rintro e we ⟨rfl, hbe⟩)
      go_ret
      exact ⟨rfl, HP.out.2.2.2.2.2.trans (hbe.mono HP.out.2.2.2.2.2.size)⟩
end Go.Proofs.YtceenlmidlmmgaaDoor
