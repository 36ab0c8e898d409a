/-
  The walk of the statement PieceCounts.
-/
import Derived.Test.YtjachohgffnbiaaPg
namespace Go.Proofs.Ytjachohgffnbiaa
open Go.RowKit

theorem ix_mod (a : Int) (m : Nat) (h0 : 0 < m) (hm : m < 1000000) : ∃ q : Nat, wrap64 ((IntKind.u64.wrap a).tmod (m : Int)) = (q : Int) ∧ q < m := by
  have hu0 : (0 : Int) ≤ IntKind.u64.wrap a := by rw [IntKind.wrap_u64]; omega
  have h1 := Int.emod_nonneg (IntKind.u64.wrap a) (b := (m : Int)) (by omega)
  have h2 := Int.emod_lt_of_pos (IntKind.u64.wrap a) (b := (m : Int)) (by omega)
  refine ⟨(IntKind.u64.wrap a % (m : Int)).toNat, ?_, by omega⟩
  rw [Int.tmod_eq_emod_of_nonneg hu0]
  generalize IntKind.u64.wrap a % (m : Int) = r at *
  unfold wrap64
  omega
theorem restE_len {room : Nat} (h0 : 0 < room) : ∀ (k : Nat) (r : List UInt8), r.length = k → 0 < k → (restE room r).length = (k + room - 1) / room := by
  intro k
  induction k using Nat.strongRecOn with
  | ind k ih =>
    intro r hr hk
    by_cases h : room < r.length
    · rw [restE_more h0 h, List.length_cons, ih (k - room) (by omega) (r.drop room) (by rw [List.length_drop, hr]) (by omega)]
      have e : k + room - 1 = (k - room + room - 1) + room := by omega
      rw [e, Nat.add_div_right _ h0]
    · rw [restE_last h]
      have h1 : (k + room - 1) / room = 1 := by
        have e : k + room - 1 = (k - 1) + room := by omega
        rw [e, Nat.add_div_right _ h0, Nat.div_eq_of_lt (by omega)]
      rw [h1]; rfl
theorem restE_pos (room : Nat) (r : List UInt8) : 0 < (restE room r).length := by
  by_cases h : 0 < room ∧ room < r.length
  · rw [restE_more h.1 h.2]; simp
  · rw [restE, dif_neg h]; simp
theorem restE_full {room : Nat} (h0 : 0 < room) : ∀ (k : Nat) (r : List UInt8), r.length = k → ∀ j, j + 1 < (restE room r).length → ((restE room r).getD j []).length = room + 1 := by
  intro k
  induction k using Nat.strongRecOn with
  | ind k ih =>
    intro r hr j hj
    by_cases h : room < r.length
    · rw [restE_more h0 h] at hj ⊢
      cases j with
      | zero => show (64 :: r.take room).length = _; rw [List.length_cons, List.length_take]; omega
      | succ j =>
        show ((restE room (r.drop room)).getD j []).length = _
        exact ih (k - room) (by omega) (r.drop room) (by rw [List.length_drop, hr]) j (by simpa using hj)
    · rw [restE_last h] at hj; simp at hj
theorem ix_cnt (n z m m1 rs : Nat) (hz : 16 ≤ z ∧ z ≤ 4000) (hn : z ≤ n ∧ n < 33000) (hm : m = 1 + (n - (z - 5) + (z - 1) - 1) / (z - 1)) (hm1 : m1 + 1 = m) (hrs : rs = n - (z - 5)) :
    ∃ a1 a2 d : Nat, (rs : Int) + (z : Int) = (a1 : Int) ∧ (a1 : Int) - 2 = (a2 : Int) ∧ (z : Int) - 1 = (d : Int) ∧ (a2 : Int).tdiv (d : Int) = (m1 : Int) ∧ (a2 : Int) / (d : Int) = (m1 : Int) ∧ ¬ (d : Int) = 0 ∧ ((d : Int) == 0) = false ∧ (1 : Int) + (m1 : Int) = (m : Int) ∧ wrap64 (m1 : Int) = (m1 : Int) ∧ wrap64 (m : Int) = (m : Int) ∧ a1 < 100000 := by
  have e : n - (z - 5) + (z - 1) - 1 = rs + z - 2 := by omega
  rw [e] at hm
  have hq : (rs + z - 2) / (z - 1) = m1 := by omega
  have hle : m1 ≤ 100000 := by rw [← hq]; exact Nat.le_trans (Nat.div_le_self _ _) (by omega)
  have hi : ((rs + z - 2 : Nat) : Int) / ((z - 1 : Nat) : Int) = (m1 : Int) := by rw [← hq]; rfl
  clear hm hq e
  refine ⟨rs + z, rs + z - 2, z - 1, by omega, by omega, by omega, ?_, hi, by omega, by simp; omega, by omega, by unfold wrap64; omega, by unfold wrap64; omega, by omega⟩
  rw [Int.tdiv_eq_ediv_of_nonneg (by omega)]; exact hi
set_option maxRecDepth 100000 in
set_option maxHeartbeats 1000000 in
theorem pieceCounts_walk (a b : Int) (w : World) : Calls Try.prog 7 #[.int .i64 a, .int .i64 b] w fun e w' => e = .returned (.bool true) ∧ Below w.heap.size w w' := by
  obtain ⟨n, hn1, hn2⟩ : ∃ n : Nat, wrap64 ((IntKind.u64.wrap a).tmod 33000) = (n : Int) ∧ n < 33000 := ix_mod a 33000 (by decide) (by decide)
  obtain ⟨q, hq1, hq2⟩ : ∃ q : Nat, wrap64 ((IntKind.u64.wrap b).tmod 3985) = (q : Int) ∧ q < 3985 := ix_mod b 3985 (by decide) (by decide)
  obtain ⟨z, hz⟩ : ∃ z, z = 16 + q := ⟨_, rfl⟩
  have hz1 : (16 : Int) + (q : Int) = (z : Int) := by omega
  have hz9 : 16 ≤ z ∧ z ≤ 4000 := by omega
  have hmk := fun (W : World) => run_make_bytes .i64 .i64 n n (Nat.le_refl _) (by omega) W
  have hbz := fun (W : World) => buf_zeros W n (by omega)
  have hzl : (List.replicate n (0 : UInt8)).length = n := List.length_replicate
  generalize List.replicate n (0 : UInt8) = Z at *
  have HS := Lib.hid (fun (W : World) (A : Option Addr) (i : In W W.heap.size A n Z) => split_e A n n Z (z : Int) W hzl i (by omega))
  have HBZ := Lib.hid hbz
  have HZL := Lib.hid hzl
  have HZ9 := Lib.hid hz9
  have HSP := Lib.hid (show splitE Z (z : Int) = if 32768 < n then ([], 4) else if n ≤ z - 1 then ([0 :: Z], 0) else ((192 :: (be4 n ++ Z.take (z - 5))) :: restE (z - 1) (Z.drop (z - 5)), 0) by
    unfold splitE; rw [if_neg (by omega), hzl, Int.toNat_natCast])
  clear hz hbz hzl hz9
  by_cases hbig : 32768 < n
  · rw [HSP.out, if_pos hbig] at HS
    have hd : (32768 : Int) < (n : Int) := by omega
    clear hbig
    go_enter Try.func7, Try.ntmps7
    go_upto_region 2 with (fail)
    rw [hn1, hq1]
    clear hn1 hq1 hz1
    go_wp2_with (first
      | (go_at_call 10; refine (HS.out _ _ ((HBZ.out _).toIn (Nat.le_refl _))).mono ?_; rintro e w2 ⟨v, rfl, hR, hb2⟩; have hbw := ((Below.refl w.heap.size w).alloc (Nat.le_refl _) (.cells (Z.map B8).toArray 5)).trans (hb2.mono (by simp)); clear hR hb2 hmk)
      | (go_at_call 12; refine (pieces_e _).mono ?_; rintro e w3 ⟨rfl, hb3⟩; replace hbw := hbw.trans (hb3.mono hbw.size); clear hb3))
    go_ret
    exact ⟨rfl, hbw⟩
  · have hd : ¬ (32768 : Int) < (n : Int) := by omega
    rw [if_neg hbig] at HSP
    obtain ⟨n1, hn1e⟩ : ∃ n1, n1 = n + 1 := ⟨_, rfl⟩
    have hne1 : (n : Int) + 1 = (n1 : Int) := by omega
    by_cases hone : n ≤ z - 1
    · rw [HSP.out, if_pos hone] at HS
      have hd2 : decide (n1 ≤ z) = true := by simp; omega
      have HN1 := Lib.hid (show (0 :: Z).length = n1 by rw [List.length_cons, HZL.out, hn1e])
      clear hbig hn1e hone
      go_enter Try.func7, Try.ntmps7
      go_upto_region 2 with (fail)
      rw [hn1, hq1]
      clear hn1 hq1 hz1
      go_upto_region 5 with (first
        | (go_at_call 10; refine (HS.out _ _ ((HBZ.out _).toIn (Nat.le_refl _))).mono ?_; rintro e w2 ⟨v, rfl, hR, hb2⟩; have hbw := ((Below.refl w.heap.size w).alloc (Nat.le_refl _) (.cells (Z.map B8).toArray 5)).trans (hb2.mono (by simp)); clear hb2 hmk)
        | (go_at_call 12; refine (pieces_e _).mono ?_; rintro e w3 ⟨rfl, hb3⟩; replace hbw := hbw.trans (hb3.mono hbw.size); replace hR := hR.below hb3; clear hb3))
      obtain ⟨gp, op, cp, rfl, hc1, _, _, hrow⟩ := hR.row (by simp)
      obtain ⟨A0, c0, hc0, _⟩ := hrow 0 (by simp)
      replace hc0 : w3.cell? ⟨gp, op, none⟩ = some (.slice A0 n1 c0) := by rw [← HN1.out]; exact hc0
      have hlen : ([0 :: Z] : List (List UInt8)).length = 1 := rfl
      rw [hlen]
      clear hR hrow hlen hc1
      go_wp2
      go_ret
      exact ⟨rfl, hbw⟩
    · rw [HSP.out, if_neg hone] at HS
      have hd2 : decide (n1 ≤ z) = false := by simp; omega
      have HM := Lib.hid (show 0 < z - 1 ∧ (Z.drop (z - 5)).length = n - (z - 5) ∧ 0 < n - (z - 5) ∧ z ≤ n from ⟨by have := HZ9.out; omega, by rw [List.length_drop, HZL.out], by have := HZ9.out; omega, by omega⟩)
      obtain ⟨ps, hps⟩ : ∃ ps, ps = (192 :: (be4 n ++ Z.take (z - 5))) :: restE (z - 1) (Z.drop (z - 5)) := ⟨_, rfl⟩
      obtain ⟨m, hm⟩ : ∃ m, m = ps.length := ⟨_, rfl⟩
      have hml : m = 1 + (n - (z - 5) + (z - 1) - 1) / (z - 1) := by rw [hm, hps, List.length_cons, restE_len HM.out.1 _ _ HM.out.2.1 HM.out.2.2.1]; omega
      have HFU := Lib.hid (show ∀ j, j + 1 < m → (ps.getD j []).length = z from fun j hj => by
        rw [hps]
        cases j with
        | zero => show (192 :: (be4 n ++ Z.take (z - 5))).length = z; rw [List.length_cons, List.length_append, List.length_take, HZL.out]; have := HM.out.2.2.2; have := HZ9.out; show 4 + _ + 1 = z; omega
        | succ j =>
          show ((restE (z - 1) (Z.drop (z - 5))).getD j []).length = z
          rw [restE_full HM.out.1 _ _ rfl j (by rw [hm, hps, List.length_cons] at hj; omega)]; have := HZ9.out; omega)
      have HM2 := Lib.hid (show 2 ≤ m ∧ m ≤ 40000 from ⟨by rw [hm, hps, List.length_cons]; have := restE_pos (z - 1) (Z.drop (z - 5)); omega, by rw [hml]; have := Nat.div_le_self (n - (z - 5) + (z - 1) - 1) (z - 1); have := HZ9.out; omega⟩)
      rw [← hps] at HS
      have HML := Lib.hid hml
      have HMM := Lib.hid hm
      clear hps hml hm hbig hn1e hone
      go_enter Try.func7, Try.ntmps7
      go_upto_region 2 with (fail)
      rw [hn1, hq1]
      clear hn1 hq1 hz1
      go_upto_region 5 with (first
        | (go_at_call 10; refine (HS.out _ _ ((HBZ.out _).toIn (Nat.le_refl _))).mono ?_; rintro e w2 ⟨v, rfl, hR, hb2⟩; have hbw := ((Below.refl w.heap.size w).alloc (Nat.le_refl _) (.cells (Z.map B8).toArray 5)).trans (hb2.mono (by simp)); clear hb2 hmk)
        | (go_at_call 12; refine (pieces_e _).mono ?_; rintro e w3 ⟨rfl, hb3⟩; replace hbw := hbw.trans (hb3.mono hbw.size); replace hR := hR.below hb3; clear hb3))
      obtain ⟨gp, op, cp, rfl, hc1, _, _, hrow⟩ := hR.row (by have := HM2.out; have := HMM.out; omega)
      rw [← HMM.out] at hc1 hrow ⊢
      have HROW := Lib.hid hrow
      have HBW := Lib.hid hbw
      obtain ⟨m1, hm1⟩ : ∃ m1 : Nat, (m : Int) - 1 = (m1 : Int) ∧ m1 + 1 = m := ⟨m - 1, by have := HM2.out; omega, by have := HM2.out; omega⟩
      have e1 := hm1.1
      have HM1 := Lib.hid hm1.2
      have hmc : (m : Int) ≤ (cp : Int) := by omega
      obtain ⟨h5, hh5, hh6⟩ : ∃ h5 : Nat, (z : Int) - 5 = (h5 : Int) ∧ h5 = z - 5 := ⟨z - 5, by have := HZ9.out; omega, rfl⟩
      obtain ⟨rs, hrs, hrs2⟩ : ∃ rs : Nat, (n : Int) - (h5 : Int) = (rs : Int) ∧ rs = n - (z - 5) := ⟨n - (z - 5), by have := HM.out; omega, rfl⟩
      have HRS := Lib.hid hrs2
      clear hR hrow hc1 hbw hm1 hh6 hrs2
      have HD := Lib.hid (ix_cnt n z m m1 rs HZ9.out ⟨HM.out.2.2.2, hn2⟩ HML.out HM1.out HRS.out)
      have hm9 : m1 < 40000 := by have := HM2.out; have := HM1.out; omega
      have HQQ := Lib.hid (show m1 < 100000 ∧ m < 100001 by have := HM2.out; have := HM1.out; omega)
      go_wp2
      clear hrs hh5 e1 hne1
      have HE1 := Lib.hid (show (m : Int) - 1 = (m1 : Int) by have := HM1.out; omega)
      go_loop [8] (fun i => ∃ k : Nat, k ≤ m1 ∧ i = .int .i64 (k : Int)) (fun i => m1 - (intOf i).toNat)
      case atStart => exact ⟨0, Nat.zero_le _, rfl⟩
      case round =>
        obtain ⟨k, hk, rfl⟩ := hrel
        have e1 := HE1.out
        by_cases hlt : k < m1
        · have hdl : decide (k < m1) = true := by simpa using hlt
          obtain ⟨A0, c0, hc0, _⟩ := HROW.out k (by have := HM1.out; omega)
          rw [HFU.out k (by have := HM1.out; omega)] at hc0
          have hk0 : (0 : Int) ≤ (k : Int) := by omega
          have hkm : (k : Int) < (m : Int) := by have := HM1.out; omega
          go_wp2
          go_round
          case rel => exact ⟨k + 1, by omega, by go_num⟩
          case measure => simp [intOf]; omega
        · have hdl : decide (k < m1) = false := by simpa using hlt
          have hke := Lib.hid (show (k : Int) = (m1 : Int) by omega)
          clear hk hlt hd hd2 hmc hn2 hq2 hdl
          have hdl2 : decide (m1 < m1) = false := by simp
          rw [show (k : Int) = (m1 : Int) from hke.out]
          go_upto_region 13 with (fail)
          clear e1 hdl2 hm9
          obtain ⟨a1, a2, d, q1, q2, q3, q4, q5, q6, q7, q8, q9, q10, q11⟩ := HD.out
          obtain ⟨q12, q13⟩ := HQQ.out
          clear q9 q4 q10
          go_wp2
          go_ret
          exact ⟨rfl, HBW.out⟩
end Go.Proofs.Ytjachohgffnbiaa
