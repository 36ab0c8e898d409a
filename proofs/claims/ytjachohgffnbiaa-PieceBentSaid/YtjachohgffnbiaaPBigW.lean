/-
  The walk of the statement PieceBig.
-/
import Derived.Test.YtjachohgffnbiaaPCountsW
namespace Go.Proofs.Ytjachohgffnbiaa
open Go.RowKit

theorem split_nine {L : List UInt8} (h1 : 32765 ≤ L.length) (h2 : L.length ≤ 32768) : (splitE L 4000).2 = 0 ∧ (splitE L 4000).1.length = 9 := by
  unfold splitE
  rw [if_neg (by decide), if_neg (by omega), if_neg (by show ¬ L.length ≤ 3999; omega)]
  refine ⟨rfl, ?_⟩
  show (restE 3999 (L.drop 3995)).length + 1 = 9
  rw [restE_len (by decide) (L.length - 3995) _ (by rw [List.length_drop]) (by omega)]
  omega
theorem split_none {L : List UInt8} (h1 : 32768 < L.length) : (splitE L 4000).2 = 4 := by
  unfold splitE
  rw [if_neg (by decide), if_pos h1]
/-- What a first piece of one byte says of its count. -/
theorem cnt_be (m : Nat) (h : m < 65536) : cntTo (be4 m ++ [1]) 4 = m := by
  show (((0 * 256 + (ub ((m : Int) / 16777216)).toNat) * 256 + (ub ((m : Int) / 65536)).toNat) * 256 + (ub ((m : Int) / 256)).toNat) * 256 + (ub (m : Int)).toNat = m
  unfold ub
  simp only [UInt8.toNat_ofNat']
  omega
theorem parts_lie (m : Nat) (h : m < 65536) : partsE (192 :: (be4 m ++ [1])) = (192, m, [1], 0) := by
  unfold partsE
  rw [if_neg (by show ¬ 6 < 1; decide), if_neg (by show ¬ hL 192 = false; decide), if_neg (by show ¬ 6 - 1 < 4; decide)]
  show ((192 : UInt8), cntTo (be4 m ++ [1]) 4, [1], 0) = _
  rw [cnt_be m h]
theorem join_lie (m : Nat) (h2 : 2 ≤ m) : joinE [] 0 192 m [1] = if 32768 < m then (4, [], 0) else (0, [1], m) := by
  have e : (if ([] : List UInt8).length = 0 then m else 0) = m := if_pos rfl
  unfold joinE
  rw [e, if_neg (by decide)]
  by_cases hb : 32768 < m
  · rw [if_pos hb, if_pos hb]
  · rw [if_neg hb, if_neg hb, if_neg (by
      have hm : hM 192 = true := by decide
      rw [hm]
      simp
      omega)]
    rfl
theorem take_lie (m : Nat) (h : m < 65536) (h2 : 2 ≤ m) : (takeE [] 0 (192 :: (be4 m ++ [1]))).2.1 = false ∧ (takeE [] 0 (192 :: (be4 m ++ [1]))).2.2.1 = if 32768 < m then 4 else 0 := by
  have hm : hM 192 = true := by decide
  have e : takeE [] 0 (192 :: (be4 m ++ [1])) = if (joinE [] 0 192 m [1]).1 ≠ 0 then ([], false, (joinE [] 0 192 m [1]).1, [], 0) else ([], false, 0, (joinE [] 0 192 m [1]).2) := by
    unfold takeE
    rw [parts_lie m h]
    simp only
    rw [if_neg (by simp), hm]
    rfl
  rw [e, join_lie m h2]
  by_cases hb : 32768 < m
  · rw [if_pos hb, if_pos hb]
    exact ⟨rfl, rfl⟩
  · rw [if_neg hb, if_neg hb]
    exact ⟨rfl, rfl⟩
set_option maxRecDepth 100000 in
set_option maxHeartbeats 1000000 in
theorem pieceBig_tt (n m r q : Nat) (a b : Int) (w : World) (hn1 : wrap64 ((IntKind.u64.wrap a).tmod 7) = (r : Int)) (hq1 : wrap64 ((IntKind.u64.wrap b).tmod 20) = (q : Int)) (hr7 : r < 7) (hq2 : q < 20) (hn2 : (32765 : Int) + (r : Int) = (n : Int)) (hm2 : (32760 : Int) + (q : Int) = (m : Int)) (hnb : ¬ n ≤ 32768) (hmb : ¬ m ≤ 32768) :
    Calls Try.prog 6 #[.int .i64 a, .int .i64 b] w fun e w' => e = .returned (.bool true) ∧ Below w.heap.size w w' := by
  have hn9 : n < 33000 := by omega
  have hm9 : m < 33000 := by omega
  have HNM := Lib.hid (show 32765 ≤ n ∧ n < 33000 ∧ 32760 ≤ m ∧ m < 33000 from ⟨by omega, by omega, by omega, by omega⟩)
  have HLG := Lib.hid (fun (W : World) => long_e 3 n W (by omega))
  have u1 := ub_wrap ((m : Int) / 16777216)
  have u2 := ub_wrap ((m : Int) / 65536)
  have u3 := ub_wrap ((m : Int) / 256)
  have u4 := ub_wrap (m : Int)
  have htl := take_lie m (by omega) (by omega)
  rw [if_pos (by omega)] at htl
  have HBE := Lib.hid (show (192 :: (be4 m ++ [1]) : List UInt8) = [192, ub ((m : Int) / 16777216), ub ((m : Int) / 65536), ub ((m : Int) / 256), ub (m : Int), 1] from rfl)
  generalize ub ((m : Int) / 16777216) = x1 at *
  generalize ub ((m : Int) / 65536) = x2 at *
  generalize ub ((m : Int) / 256) = x3 at *
  generalize ub (m : Int) = x4 at *
  rw [HBE.out] at htl
  have HTL := Lib.hid htl
  have HSP := Lib.hid (fun (L : List UInt8) (hL : L.length = n) => (show (splitE L 4000).2 = 4 from split_none (by omega)))
  have hd1 : decide ((n : Int) ≤ 32768) = false := by simp; omega
  have hd2 : decide ((m : Int) ≤ 32768) = false := by simp; omega
  clear hnb hmb htl hr7 hq2
  go_enter Try.func6, Try.ntmps6
  go_upto_region 3 with (first
    | (go_at_call 9; refine (HLG.out _).mono ?_; rintro e w1 ⟨A1, c1, L, rfl, hB1, hb1⟩)
    | (go_at_call 10; refine (split_e A1 c1 n L 4000 _ hB1.1 (hB1.toIn (Nat.le_refl _)) (by have := HNM.out; omega)).mono ?_; rintro e w2 ⟨v, rfl, hR, hb2⟩))
  clear hn1 hn2
  have hsp := HSP.out L hB1.1
  have hbw := hb1.trans (hb2.mono hb1.size)
  obtain ⟨Av, cv, hv⟩ := rws_slice hR
  rw [hsp]
  subst hv
  clear hR hb1 hb2 hB1 hsp
  generalize (splitE L 4000).1.length = nl at *
  go_upto_region 6 with (go_at_call 12; refine (pieces_e _).mono ?_; rintro e w3 ⟨rfl, hb3⟩; replace hbw := hbw.trans (hb3.mono hbw.size))
  clear hq1 hb3 hm2
  go_wp2_with (go_at_call 13; refine (new_e _).mono ?_; rintro e w4 ⟨rfl, hJ, hb4, hz4⟩)
  have hz0 := Lib.hid hbw.size
  replace hbw := hbw.trans (hb4.mono hbw.size)
  have hz := hb4.size
  have hbf := buf_lit w4 [192, x1, x2, x3, x4, 1] 6 5 rfl (by decide)
  rw [hz4] at hbf
  have hal : Below w4.heap.size w4 (w4.alloc (.cells ([192, x1, x2, x3, x4, 1].map B8).toArray 5)) := (Below.refl _ _).alloc (Nat.le_refl _) _
  have htk := take_e w3.heap.size w3.heap.size none (some ⟨w3.heap.size + 1, 0, none⟩) 0 6 6 0 [] [192, x1, x2, x3, x4, 1] _ (hJ.below hal) rfl (hbf.toIn (Nat.le_refl _)) (by decide) (by decide) (Nat.le_trans hz hal.size)
  refine htk.mono ?_
  rintro e w6 ⟨A6, n6, c6, A', c', rfl, _, _, _, _, _, hC6⟩
  rw [HTL.out.1, HTL.out.2]
  have hb6 := hC6.below (B := w3.heap.size) (Nat.le_trans hz hal.size) (fun k hk => by rcases hk with rfl | hk; exact Nat.le_refl _; cases hk)
  have HF := Lib.hid (hbw.trans ((hal.mono (Nat.le_trans hbw.size (Nat.le_refl _))).trans (hb6.mono hz0.out)))
  clear htk hJ hbf hal hC6 hb6 hbw u1 u2 u3 u4
  go_wp2
  go_ret
  exact ⟨rfl, HF.out⟩
set_option maxRecDepth 100000 in
set_option maxHeartbeats 1000000 in
theorem pieceBig_ty (n m r q : Nat) (a b : Int) (w : World) (hn1 : wrap64 ((IntKind.u64.wrap a).tmod 7) = (r : Int)) (hq1 : wrap64 ((IntKind.u64.wrap b).tmod 20) = (q : Int)) (hr7 : r < 7) (hq2 : q < 20) (hn2 : (32765 : Int) + (r : Int) = (n : Int)) (hm2 : (32760 : Int) + (q : Int) = (m : Int)) (hnb : ¬ n ≤ 32768) (hmb : m ≤ 32768) :
    Calls Try.prog 6 #[.int .i64 a, .int .i64 b] w fun e w' => e = .returned (.bool true) ∧ Below w.heap.size w w' := by
  have hn9 : n < 33000 := by omega
  have hm9 : m < 33000 := by omega
  have HNM := Lib.hid (show 32765 ≤ n ∧ n < 33000 ∧ 32760 ≤ m ∧ m < 33000 from ⟨by omega, by omega, by omega, by omega⟩)
  have HLG := Lib.hid (fun (W : World) => long_e 3 n W (by omega))
  have u1 := ub_wrap ((m : Int) / 16777216)
  have u2 := ub_wrap ((m : Int) / 65536)
  have u3 := ub_wrap ((m : Int) / 256)
  have u4 := ub_wrap (m : Int)
  have htl := take_lie m (by omega) (by omega)
  rw [if_neg (by omega)] at htl
  have HBE := Lib.hid (show (192 :: (be4 m ++ [1]) : List UInt8) = [192, ub ((m : Int) / 16777216), ub ((m : Int) / 65536), ub ((m : Int) / 256), ub (m : Int), 1] from rfl)
  generalize ub ((m : Int) / 16777216) = x1 at *
  generalize ub ((m : Int) / 65536) = x2 at *
  generalize ub ((m : Int) / 256) = x3 at *
  generalize ub (m : Int) = x4 at *
  rw [HBE.out] at htl
  have HTL := Lib.hid htl
  have HSP := Lib.hid (fun (L : List UInt8) (hL : L.length = n) => (show (splitE L 4000).2 = 4 from split_none (by omega)))
  have hd1 : decide ((n : Int) ≤ 32768) = false := by simp; omega
  have hd2 : decide ((m : Int) ≤ 32768) = true := by simp; omega
  clear hnb hmb htl hr7 hq2
  go_enter Try.func6, Try.ntmps6
  go_upto_region 3 with (first
    | (go_at_call 9; refine (HLG.out _).mono ?_; rintro e w1 ⟨A1, c1, L, rfl, hB1, hb1⟩)
    | (go_at_call 10; refine (split_e A1 c1 n L 4000 _ hB1.1 (hB1.toIn (Nat.le_refl _)) (by have := HNM.out; omega)).mono ?_; rintro e w2 ⟨v, rfl, hR, hb2⟩))
  clear hn1 hn2
  have hsp := HSP.out L hB1.1
  have hbw := hb1.trans (hb2.mono hb1.size)
  obtain ⟨Av, cv, hv⟩ := rws_slice hR
  rw [hsp]
  subst hv
  clear hR hb1 hb2 hB1 hsp
  generalize (splitE L 4000).1.length = nl at *
  go_upto_region 6 with (go_at_call 12; refine (pieces_e _).mono ?_; rintro e w3 ⟨rfl, hb3⟩; replace hbw := hbw.trans (hb3.mono hbw.size))
  clear hq1 hb3 hm2
  go_wp2_with (go_at_call 13; refine (new_e _).mono ?_; rintro e w4 ⟨rfl, hJ, hb4, hz4⟩)
  have hz0 := Lib.hid hbw.size
  replace hbw := hbw.trans (hb4.mono hbw.size)
  have hz := hb4.size
  have hbf := buf_lit w4 [192, x1, x2, x3, x4, 1] 6 5 rfl (by decide)
  rw [hz4] at hbf
  have hal : Below w4.heap.size w4 (w4.alloc (.cells ([192, x1, x2, x3, x4, 1].map B8).toArray 5)) := (Below.refl _ _).alloc (Nat.le_refl _) _
  have htk := take_e w3.heap.size w3.heap.size none (some ⟨w3.heap.size + 1, 0, none⟩) 0 6 6 0 [] [192, x1, x2, x3, x4, 1] _ (hJ.below hal) rfl (hbf.toIn (Nat.le_refl _)) (by decide) (by decide) (Nat.le_trans hz hal.size)
  refine htk.mono ?_
  rintro e w6 ⟨A6, n6, c6, A', c', rfl, _, _, _, _, _, hC6⟩
  rw [HTL.out.1, HTL.out.2]
  have hb6 := hC6.below (B := w3.heap.size) (Nat.le_trans hz hal.size) (fun k hk => by rcases hk with rfl | hk; exact Nat.le_refl _; cases hk)
  have HF := Lib.hid (hbw.trans ((hal.mono (Nat.le_trans hbw.size (Nat.le_refl _))).trans (hb6.mono hz0.out)))
  clear htk hJ hbf hal hC6 hb6 hbw u1 u2 u3 u4
  go_wp2
  go_ret
  exact ⟨rfl, HF.out⟩
set_option maxRecDepth 100000 in
set_option maxHeartbeats 1000000 in
theorem pieceBig_yt (n m r q : Nat) (a b : Int) (w : World) (hn1 : wrap64 ((IntKind.u64.wrap a).tmod 7) = (r : Int)) (hq1 : wrap64 ((IntKind.u64.wrap b).tmod 20) = (q : Int)) (hr7 : r < 7) (hq2 : q < 20) (hn2 : (32765 : Int) + (r : Int) = (n : Int)) (hm2 : (32760 : Int) + (q : Int) = (m : Int)) (hnb : n ≤ 32768) (hmb : ¬ m ≤ 32768) :
    Calls Try.prog 6 #[.int .i64 a, .int .i64 b] w fun e w' => e = .returned (.bool true) ∧ Below w.heap.size w w' := by
  have hn9 : n < 33000 := by omega
  have hm9 : m < 33000 := by omega
  have HNM := Lib.hid (show 32765 ≤ n ∧ n < 33000 ∧ 32760 ≤ m ∧ m < 33000 from ⟨by omega, by omega, by omega, by omega⟩)
  have HLG := Lib.hid (fun (W : World) => long_e 3 n W (by omega))
  have u1 := ub_wrap ((m : Int) / 16777216)
  have u2 := ub_wrap ((m : Int) / 65536)
  have u3 := ub_wrap ((m : Int) / 256)
  have u4 := ub_wrap (m : Int)
  have htl := take_lie m (by omega) (by omega)
  rw [if_pos (by omega)] at htl
  have HBE := Lib.hid (show (192 :: (be4 m ++ [1]) : List UInt8) = [192, ub ((m : Int) / 16777216), ub ((m : Int) / 65536), ub ((m : Int) / 256), ub (m : Int), 1] from rfl)
  generalize ub ((m : Int) / 16777216) = x1 at *
  generalize ub ((m : Int) / 65536) = x2 at *
  generalize ub ((m : Int) / 256) = x3 at *
  generalize ub (m : Int) = x4 at *
  rw [HBE.out] at htl
  have HTL := Lib.hid htl
  have HSP := Lib.hid (fun (L : List UInt8) (hL : L.length = n) => (show (splitE L 4000).2 = 0 ∧ (splitE L 4000).1.length = 9 from split_nine (by omega) (by omega)))
  have hd1 : decide ((n : Int) ≤ 32768) = true := by simp; omega
  have hd2 : decide ((m : Int) ≤ 32768) = false := by simp; omega
  clear hnb hmb htl hr7 hq2
  go_enter Try.func6, Try.ntmps6
  go_upto_region 3 with (first
    | (go_at_call 9; refine (HLG.out _).mono ?_; rintro e w1 ⟨A1, c1, L, rfl, hB1, hb1⟩)
    | (go_at_call 10; refine (split_e A1 c1 n L 4000 _ hB1.1 (hB1.toIn (Nat.le_refl _)) (by have := HNM.out; omega)).mono ?_; rintro e w2 ⟨v, rfl, hR, hb2⟩))
  clear hn1 hn2
  have hsp := HSP.out L hB1.1
  have hbw := hb1.trans (hb2.mono hb1.size)
  obtain ⟨Av, cv, hv⟩ := rws_slice hR
  rw [hsp.1]
  rw [hsp.2] at hv
  subst hv
  clear hR hb1 hb2 hB1 hsp
  go_upto_region 6 with (go_at_call 12; refine (pieces_e _).mono ?_; rintro e w3 ⟨rfl, hb3⟩; replace hbw := hbw.trans (hb3.mono hbw.size))
  clear hq1 hb3 hm2
  go_wp2_with (go_at_call 13; refine (new_e _).mono ?_; rintro e w4 ⟨rfl, hJ, hb4, hz4⟩)
  have hz0 := Lib.hid hbw.size
  replace hbw := hbw.trans (hb4.mono hbw.size)
  have hz := hb4.size
  have hbf := buf_lit w4 [192, x1, x2, x3, x4, 1] 6 5 rfl (by decide)
  rw [hz4] at hbf
  have hal : Below w4.heap.size w4 (w4.alloc (.cells ([192, x1, x2, x3, x4, 1].map B8).toArray 5)) := (Below.refl _ _).alloc (Nat.le_refl _) _
  have htk := take_e w3.heap.size w3.heap.size none (some ⟨w3.heap.size + 1, 0, none⟩) 0 6 6 0 [] [192, x1, x2, x3, x4, 1] _ (hJ.below hal) rfl (hbf.toIn (Nat.le_refl _)) (by decide) (by decide) (Nat.le_trans hz hal.size)
  refine htk.mono ?_
  rintro e w6 ⟨A6, n6, c6, A', c', rfl, _, _, _, _, _, hC6⟩
  rw [HTL.out.1, HTL.out.2]
  have hb6 := hC6.below (B := w3.heap.size) (Nat.le_trans hz hal.size) (fun k hk => by rcases hk with rfl | hk; exact Nat.le_refl _; cases hk)
  have HF := Lib.hid (hbw.trans ((hal.mono (Nat.le_trans hbw.size (Nat.le_refl _))).trans (hb6.mono hz0.out)))
  clear htk hJ hbf hal hC6 hb6 hbw u1 u2 u3 u4
  go_wp2
  go_ret
  exact ⟨rfl, HF.out⟩
set_option maxRecDepth 100000 in
set_option maxHeartbeats 1000000 in
theorem pieceBig_yy (n m r q : Nat) (a b : Int) (w : World) (hn1 : wrap64 ((IntKind.u64.wrap a).tmod 7) = (r : Int)) (hq1 : wrap64 ((IntKind.u64.wrap b).tmod 20) = (q : Int)) (hr7 : r < 7) (hq2 : q < 20) (hn2 : (32765 : Int) + (r : Int) = (n : Int)) (hm2 : (32760 : Int) + (q : Int) = (m : Int)) (hnb : n ≤ 32768) (hmb : m ≤ 32768) :
    Calls Try.prog 6 #[.int .i64 a, .int .i64 b] w fun e w' => e = .returned (.bool true) ∧ Below w.heap.size w w' := by
  have hn9 : n < 33000 := by omega
  have hm9 : m < 33000 := by omega
  have HNM := Lib.hid (show 32765 ≤ n ∧ n < 33000 ∧ 32760 ≤ m ∧ m < 33000 from ⟨by omega, by omega, by omega, by omega⟩)
  have HLG := Lib.hid (fun (W : World) => long_e 3 n W (by omega))
  have u1 := ub_wrap ((m : Int) / 16777216)
  have u2 := ub_wrap ((m : Int) / 65536)
  have u3 := ub_wrap ((m : Int) / 256)
  have u4 := ub_wrap (m : Int)
  have htl := take_lie m (by omega) (by omega)
  rw [if_neg (by omega)] at htl
  have HBE := Lib.hid (show (192 :: (be4 m ++ [1]) : List UInt8) = [192, ub ((m : Int) / 16777216), ub ((m : Int) / 65536), ub ((m : Int) / 256), ub (m : Int), 1] from rfl)
  generalize ub ((m : Int) / 16777216) = x1 at *
  generalize ub ((m : Int) / 65536) = x2 at *
  generalize ub ((m : Int) / 256) = x3 at *
  generalize ub (m : Int) = x4 at *
  rw [HBE.out] at htl
  have HTL := Lib.hid htl
  have HSP := Lib.hid (fun (L : List UInt8) (hL : L.length = n) => (show (splitE L 4000).2 = 0 ∧ (splitE L 4000).1.length = 9 from split_nine (by omega) (by omega)))
  have hd1 : decide ((n : Int) ≤ 32768) = true := by simp; omega
  have hd2 : decide ((m : Int) ≤ 32768) = true := by simp; omega
  clear hnb hmb htl hr7 hq2
  go_enter Try.func6, Try.ntmps6
  go_upto_region 3 with (first
    | (go_at_call 9; refine (HLG.out _).mono ?_; rintro e w1 ⟨A1, c1, L, rfl, hB1, hb1⟩)
    | (go_at_call 10; refine (split_e A1 c1 n L 4000 _ hB1.1 (hB1.toIn (Nat.le_refl _)) (by have := HNM.out; omega)).mono ?_; rintro e w2 ⟨v, rfl, hR, hb2⟩))
  clear hn1 hn2
  have hsp := HSP.out L hB1.1
  have hbw := hb1.trans (hb2.mono hb1.size)
  obtain ⟨Av, cv, hv⟩ := rws_slice hR
  rw [hsp.1]
  rw [hsp.2] at hv
  subst hv
  clear hR hb1 hb2 hB1 hsp
  go_upto_region 6 with (go_at_call 12; refine (pieces_e _).mono ?_; rintro e w3 ⟨rfl, hb3⟩; replace hbw := hbw.trans (hb3.mono hbw.size))
  clear hq1 hb3 hm2
  go_wp2_with (go_at_call 13; refine (new_e _).mono ?_; rintro e w4 ⟨rfl, hJ, hb4, hz4⟩)
  have hz0 := Lib.hid hbw.size
  replace hbw := hbw.trans (hb4.mono hbw.size)
  have hz := hb4.size
  have hbf := buf_lit w4 [192, x1, x2, x3, x4, 1] 6 5 rfl (by decide)
  rw [hz4] at hbf
  have hal : Below w4.heap.size w4 (w4.alloc (.cells ([192, x1, x2, x3, x4, 1].map B8).toArray 5)) := (Below.refl _ _).alloc (Nat.le_refl _) _
  have htk := take_e w3.heap.size w3.heap.size none (some ⟨w3.heap.size + 1, 0, none⟩) 0 6 6 0 [] [192, x1, x2, x3, x4, 1] _ (hJ.below hal) rfl (hbf.toIn (Nat.le_refl _)) (by decide) (by decide) (Nat.le_trans hz hal.size)
  refine htk.mono ?_
  rintro e w6 ⟨A6, n6, c6, A', c', rfl, _, _, _, _, _, hC6⟩
  rw [HTL.out.1, HTL.out.2]
  have hb6 := hC6.below (B := w3.heap.size) (Nat.le_trans hz hal.size) (fun k hk => by rcases hk with rfl | hk; exact Nat.le_refl _; cases hk)
  have HF := Lib.hid (hbw.trans ((hal.mono (Nat.le_trans hbw.size (Nat.le_refl _))).trans (hb6.mono hz0.out)))
  clear htk hJ hbf hal hC6 hb6 hbw u1 u2 u3 u4
  go_wp2
  go_ret
  exact ⟨rfl, HF.out⟩
theorem pieceBig_walk (a b : Int) (w : World) : Calls Try.prog 6 #[.int .i64 a, .int .i64 b] w fun e w' => e = .returned (.bool true) ∧ Below w.heap.size w w' := by
  obtain ⟨r, hn1, hr7⟩ : ∃ n : Nat, wrap64 ((IntKind.u64.wrap a).tmod 7) = (n : Int) ∧ n < 7 := ix_mod a 7 (by decide) (by decide)
  obtain ⟨q, hq1, hq2⟩ : ∃ q : Nat, wrap64 ((IntKind.u64.wrap b).tmod 20) = (q : Int) ∧ q < 20 := ix_mod b 20 (by decide) (by decide)
  by_cases hnb : 32765 + r ≤ 32768
  · by_cases hmb : 32760 + q ≤ 32768
    · exact pieceBig_yy (32765 + r) (32760 + q) r q a b w hn1 hq1 hr7 hq2 rfl rfl hnb hmb
    · exact pieceBig_yt (32765 + r) (32760 + q) r q a b w hn1 hq1 hr7 hq2 rfl rfl hnb hmb
  · by_cases hmb : 32760 + q ≤ 32768
    · exact pieceBig_ty (32765 + r) (32760 + q) r q a b w hn1 hq1 hr7 hq2 rfl rfl hnb hmb
    · exact pieceBig_tt (32765 + r) (32760 + q) r q a b w hn1 hq1 hr7 hq2 rfl rfl hnb hmb
end Go.Proofs.Ytjachohgffnbiaa
