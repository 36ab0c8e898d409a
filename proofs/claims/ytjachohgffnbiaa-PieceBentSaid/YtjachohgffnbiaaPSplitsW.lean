/-
  The walk of the statement PieceSplits.
-/
import Derived.Test.YtjachohgffnbiaaPi
import Derived.Test.YtjachohgffnbiaaPh
namespace Go.Proofs.Ytjachohgffnbiaa
open Go.RowKit

theorem split_bad {b : List UInt8} {size : Int} (h : (splitE b size).2 ≠ 0) : (splitE b size).1 = [] := by
  unfold splitE at *
  split at h
  · rename_i h1; rw [if_pos h1]
  · rename_i h1
    split at h
    · rename_i h2; rw [if_neg h1, if_pos h2]
    · split at h <;> simp at h
theorem split_size {b : List UInt8} {size : Int} (h : (splitE b size).2 = 0) : ∃ z : Nat, size = (z : Int) ∧ z ≤ 4000 := by
  unfold splitE at h
  split at h
  · cases h
  · exact ⟨size.toNat, by omega, by omega⟩
theorem split_few {b : List UInt8} {size : Int} (h : b.length ≤ 40000) : (splitE b size).1.length ≤ 50000 := by
  have key : ∀ (room : Nat) (k : Nat) (R : List UInt8), R.length = k → (restE room R).length ≤ k + 1 := by
    intro room k
    induction k using Nat.strongRecOn with
    | ind k ih =>
      intro R hR
      by_cases h : 0 < room ∧ room < R.length
      · rw [restE_more h.1 h.2, List.length_cons]
        have := ih (k - room) (by omega) (R.drop room) (by rw [List.length_drop, hR])
        omega
      · rw [restE, dif_neg h]; simp
  unfold splitE
  split
  · simp
  · split
    · simp
    · split
      · simp
      · have := key (size.toNat - 1) _ (b.drop (size.toNat - 5)) rfl
        rw [List.length_drop] at this
        simp only [List.length_cons]
        omega
theorem drop_cons {ps : List (List UInt8)} {k : Nat} (h : k < ps.length) : ps.drop k = ps.getD k [] :: ps.drop (k + 1) := by
  rw [List.drop_eq_getElem_cons h, List.getD_eq_getElem?_getD, List.getElem?_eq_getElem h]; rfl
theorem drop_last {ps : List (List UInt8)} {k : Nat} (h : k < ps.length) : (ps.drop (k + 1)).isEmpty = decide (k + 1 = ps.length) := by
  rw [Bool.eq_iff_iff, List.isEmpty_iff, decide_eq_true_eq, List.drop_eq_nil_iff]; omega
set_option maxRecDepth 100000 in
set_option maxHeartbeats 1000000 in
theorem pieceSplits_walk (s : UInt8) (a size : Int) (w : World) : Calls Try.prog 3 #[.int .u8 (s.toNat : Int), .int .i64 a, .int .i64 size] w fun e w' => e = .returned (.bool true) ∧ Below w.heap.size w w' := by
  obtain ⟨n, hn1, hn2⟩ : ∃ n : Nat, wrap64 ((IntKind.u64.wrap a).tmod 33000) = (n : Int) ∧ n < 33000 := ix_mod a 33000 (by decide) (by decide)
  have HLG := Lib.hid (fun (W : World) => long_e s n W (by omega))
  have HN := Lib.hid hn2
  go_enter Try.func3, Try.ntmps3
  go_upto_region 2 with (fail)
  rw [hn1]
  clear hn1
  go_upto_region 4 with (first
    | (go_at_call 9; refine (HLG.out _).mono ?_; rintro e w1 ⟨A1, c1, L, rfl, hB1, hb1⟩)
    | (go_at_call 10; refine (split_e A1 c1 n L size _ hB1.1 (hB1.toIn (Nat.le_refl _)) (by have := HN.out; omega)).mono ?_; rintro e w2 ⟨v, rfl, hR, hb2⟩))
  have hbw := hb1.trans (hb2.mono hb1.size)
  replace hR := hR.base_le hb1.size
  replace hB1 := hB1.below hb2
  clear hb1 hb2
  have hcx := conv_in hB1.1 (hB1.toIn (Nat.le_refl _))
  go_upto_region 5 with (go_at_call 11; refine (rsplit_e n L size _ hB1.1 (by have := HN.out; omega)).mono ?_; rintro e w3 ⟨v2, rfl, hS, hb3⟩)
  replace hR := hR.below hb3
  replace hB1 := hB1.below hb3
  replace hS := (show Strs w3 w2.heap.size v2 _ from hS)
  replace hbw := hbw.trans (hb3.mono hbw.size)
  clear hcx hb3
  obtain ⟨A2, c2, hv⟩ := rws_slice hR
  have hv2 : ∃ A3 c3, v2 = .slice A3 (splitE L size).1.length c3 := by
    rcases hS.2 with ⟨h, h0⟩ | ⟨g, cap, cur, h, _⟩
    · exact ⟨none, 0, by rw [h, h0]⟩
    · exact ⟨_, cap, h⟩
  obtain ⟨A3, c3, hv2⟩ := hv2
  have HFEW := Lib.hid (split_few (b := L) (size := size) (by rw [hB1.1]; omega))
  have HRUN := Lib.hid (show Runs L [] 0 (splitE L size).1 from by
    by_cases h : (splitE L size).2 = 0
    · exact runs_split h
    · rw [split_bad h]; exact ⟨rfl, rfl⟩)
  have HMOST := Lib.hid (show ∀ p ∈ (splitE L size).1, (p.length : Int) ≤ size ∧ p.length ≤ 4000 from by
    intro p hp
    by_cases h : (splitE L size).2 = 0
    · obtain ⟨z, rfl, _⟩ := split_size h
      have := split_most hp; exact ⟨by omega, by omega⟩
    · rw [split_bad h] at hp; cases hp)
  generalize (splitE L size).2 = er at *
  generalize (splitE L size).1 = ps at *
  obtain ⟨m, hm⟩ : ∃ m, m = ps.length := ⟨_, rfl⟩
  rw [← hm] at hv hv2
  have HMM := Lib.hid hm
  subst hv hv2
  clear hm
  go_upto_region 7 with (go_at_call 12; refine (pieces_e _).mono ?_; rintro e w4 ⟨rfl, hb4⟩)
  replace hR := hR.below hb4
  replace hB1 := hB1.below hb4
  replace hS := hS.below hb4
  replace hbw := hbw.trans (hb4.mono hbw.size)
  clear hb4
  go_upto_region 8 with (go_at_call 13; refine (new_e _).mono ?_; rintro e w5 ⟨rfl, hJ, hb5, hz5⟩)
  have HR := Lib.hid hR
  have HS := Lib.hid hS
  have HB1 := Lib.hid (hB1.toIn (Nat.le_refl _))
  have HBL := Lib.hid hB1.1
  have HBW := Lib.hid hbw
  have HJ := Lib.hid hJ
  have HB5 := Lib.hid hb5
  have hm9 : m ≤ 50000 := by rw [HMM.out]; exact HFEW.out
  clear hR hS hB1 hbw hJ hb5 hz5
  go_wp2
  go_loopw [13] (fun i wr => ∃ (k : Nat) (F : List UInt8) (C : Nat) (A : Option Addr) (c : Nat), k ≤ m ∧ i = .int .i64 (k : Int) ∧ JoinAt wr w4.heap.size w4.heap.size A c F C ∧ Runs L F C (ps.drop k) ∧ Below w4.heap.size w4 wr) (fun i _ => m - (intOf i).toNat)
  case atStart => exact ⟨0, [], 0, none, 0, Nat.zero_le _, rfl, HJ.out, HRUN.out, HB5.out⟩
  case round =>
    obtain ⟨k, F, C, A, c, hk, rfl, hJ, hrun, hbr⟩ := hrel
    by_cases hlt : k < m
    · have hd : decide (k < m) = true := by simpa using hlt
      obtain ⟨p, hp⟩ : ∃ p, p = ps.getD k [] := ⟨_, rfl⟩
      have hkp : k < ps.length := by rw [← HMM.out]; exact hlt
      have hpm : p ∈ ps := by rw [hp, List.getD_eq_getElem?_getD, List.getElem?_eq_getElem hkp]; exact List.getElem_mem _
      obtain ⟨hple, hp4⟩ := HMOST.out p hpm
      rw [drop_cons hkp, ← hp] at hrun
      obtain ⟨hF9, out, F', C', htk, hout, hrun'⟩ := hrun
      obtain ⟨gp, op, cp, hve, hc1, hc2, hgp, hrow⟩ := HR.out.row (by omega)
      obtain ⟨Ak, ck, hck, hik⟩ := hrow k hkp
      rw [← hp] at hck hik
      obtain ⟨gs, cs, hse, hs1, hs2, _, hgs, hsrow⟩ := HS.out.row (by omega)
      have hsk := hsrow k hkp
      rw [← hp] at hsk
      injection hve with hA2 hl2 hc2e
      injection hse with hA3 hl3 hc3e
      subst hA2 hc2e hA3 hc3e
      clear hl2 hl3
      rw [← HMM.out] at hc1 hs1
      obtain ⟨pl, hpl⟩ : ∃ pl, pl = p.length := ⟨_, rfl⟩
      rw [← hpl] at hck hple
      have HPL := Lib.hid hpl.symm
      have hz := hbr.size
      have hck2 : wr.cell? ⟨gp, op + k, none⟩ = some (.slice Ak pl ck) := (hbr.cell (p := ⟨gp, op + k, none⟩) hgp).trans hck
      have hsk2 : wr.cell? ⟨gs, k, none⟩ = some (.string ⟨p.toArray⟩) := (hbr.cell (p := ⟨gs, k, none⟩) hgs).trans hsk
      have hik2 := in_weak (hik.below hbr) hz
      have HCL := Lib.hid (fun (W : World) (h : Below wr.heap.size wr W) => (show W.cell? ⟨gp, op + k, none⟩ = some (.slice Ak pl ck) from (h.cell (p := ⟨gp, op + k, none⟩) (by show gp < _; omega)).trans hck2))
      have HCS := Lib.hid (fun (W : World) (h : Below wr.heap.size wr W) => (show W.cell? ⟨gs, k, none⟩ = some (.string ⟨p.toArray⟩) from (h.cell (p := ⟨gs, k, none⟩) (by show gs < _; omega)).trans hsk2))
      have HCX := Lib.hid (fun (W : World) (h : Below wr.heap.size wr W) => conv_in HPL.out (in_up hik2 h))
      have HIK := Lib.hid (fun (W : World) (h : Below wr.heap.size wr W) => in_up hik2 h)
      have hk0 : (0 : Int) ≤ (k : Int) := by omega
      have hkm : (k : Int) < (m : Int) := by omega
      have hmc1 : (m : Int) ≤ (c2 : Int) := by omega
      have hmc2 : (m : Int) ≤ (c3 : Int) := by omega
      have hsz : ¬ size < (pl : Int) := by omega
      have hsz2 : decide (size < (pl : Int)) = false := by simpa using hsz
      have HJR := Lib.hid hJ
      have HBR := Lib.hid hbr
      have HTK := Lib.hid htk
      have HOUT := Lib.hid hout
      have HRUN' := Lib.hid hrun'
      have HF9 := Lib.hid hF9
      have HKP := Lib.hid hkp
      have HLT := Lib.hid hlt
      have HP9 := Lib.hid (show p.length < 900000 from by omega)
      clear hck hik hsk hck2 hsk2 hik2 hJ hbr htk hout hrun' hF9 hp hpm hple hp4 hgp hgs hc1 hs1 hkp hlt hz hrow hsrow hpl hk
      go_wp2
      refine wp_region_noPanic ?_
      refine wp_region_held_drew (S := fun W => Below wr.heap.size wr W) (by kernel_rfl) (by exact below_drewN (Below.refl _ _) 1) (fun hHeld => ?_)
      refine wpAnyH_take (i := 0) (oi := ⟨_, _, _, _, _, _⟩) (v := ?_) rfl (by kernel_rfl) (by kernel_rfl) (by kernel_rfl) (fun _ _ _ h => h) (Or.inl ⟨by rfl, ?_⟩) hHeld ?_
      rotate_left 1
      · (intro W hSw; (try dsimp only at hSw); go_simp; try with_reducible rfl)
      try simp only [Act.put, List.setIfInBounds_toArray, List.set_cons_zero, List.set_cons_succ]
      refine wpAnyH_take (i := 1) (oi := ⟨_, _, _, _, _, _⟩) (v := ?_) rfl (by kernel_rfl) (by kernel_rfl) (by kernel_rfl) (fun _ _ _ h => h) (Or.inl ⟨by rfl, ?_⟩) hHeld ?_
      rotate_left 1
      · (intro W hSw; (try dsimp only at hSw); go_simp; try with_reducible rfl)
      try simp only [Act.put, List.setIfInBounds_toArray, List.set_cons_zero, List.set_cons_succ]
      refine wpAnyH_take (i := 2) (oi := ⟨_, _, _, _, _, _⟩) (v := ?_) rfl (by kernel_rfl) (by kernel_rfl) (by kernel_rfl) (fun _ _ _ h => h) (Or.inl ⟨by rfl, ?_⟩) hHeld ?_
      rotate_left 1
      · (intro W hSw; (try dsimp only at hSw); go_simp; try with_reducible rfl)
      try simp only [Act.put, List.setIfInBounds_toArray, List.set_cons_zero, List.set_cons_succ]
      refine wpAnyH_take (i := 3) (oi := ⟨_, _, _, _, _, _⟩) (v := ?_) rfl (by kernel_rfl) (by kernel_rfl) (by kernel_rfl) (fun _ _ _ h => h) (Or.inl ⟨by rfl, ?_⟩) hHeld ?_
      rotate_left 1
      · (intro W hSw; (try dsimp only at hSw); have hcc := HCL.out W hSw; go_simp; try with_reducible rfl)
      try simp only [Act.put, List.setIfInBounds_toArray, List.set_cons_zero, List.set_cons_succ]
      refine wpAnyH_take (i := 4) (oi := ⟨_, _, _, _, _, _⟩) (v := ?_) rfl (by kernel_rfl) (by kernel_rfl) (by kernel_rfl) (fun _ _ _ h => h) (Or.inl ⟨by rfl, ?_⟩) hHeld ?_
      rotate_left 1
      · (intro W hSw; (try dsimp only at hSw); have hcc := HCX.out W hSw; go_simp; try with_reducible rfl)
      try simp only [Act.put, List.setIfInBounds_toArray, List.set_cons_zero, List.set_cons_succ]
      refine wpAnyH_take (i := 5) (oi := ⟨_, _, _, _, _, _⟩) (v := ?_) rfl (by kernel_rfl) (by kernel_rfl) (by kernel_rfl) (fun _ _ _ h => h) (Or.inl ⟨by rfl, ?_⟩) hHeld ?_
      rotate_left 1
      · (intro W hSw; (try dsimp only at hSw); go_simp; try with_reducible rfl)
      try simp only [Act.put, List.setIfInBounds_toArray, List.set_cons_zero, List.set_cons_succ]
      refine wpAnyH_take (i := 6) (oi := ⟨_, _, _, _, _, _⟩) (v := ?_) rfl (by kernel_rfl) (by kernel_rfl) (by kernel_rfl) (fun _ _ _ h => h) (Or.inl ⟨by rfl, ?_⟩) hHeld ?_
      rotate_left 1
      · (intro W hSw; (try dsimp only at hSw); go_simp; try with_reducible rfl)
      try simp only [Act.put, List.setIfInBounds_toArray, List.set_cons_zero, List.set_cons_succ]
      refine wpAnyH_take (i := 7) (oi := ⟨_, _, _, _, _, _⟩) (v := ?_) rfl (by kernel_rfl) (by kernel_rfl) (by kernel_rfl) (fun _ _ _ h => h) (Or.inl ⟨by rfl, ?_⟩) hHeld ?_
      rotate_left 1
      · (intro W hSw; (try dsimp only at hSw); go_simp; try with_reducible rfl)
      try simp only [Act.put, List.setIfInBounds_toArray, List.set_cons_zero, List.set_cons_succ]
      refine wpAnyH_take (i := 8) (oi := ⟨_, _, _, _, _, _⟩) (v := ?_) rfl (by kernel_rfl) (by kernel_rfl) (by kernel_rfl) (fun _ _ _ h => h) (Or.inl ⟨by rfl, ?_⟩) hHeld ?_
      rotate_left 1
      · (intro W hSw; (try dsimp only at hSw); have hcc := HCS.out W hSw; go_simp; try with_reducible rfl)
      try simp only [Act.put, List.setIfInBounds_toArray, List.set_cons_zero, List.set_cons_succ]
      refine wpAnyH_take (i := 9) (oi := ⟨_, _, _, _, _, _⟩) (v := ?_) rfl (by kernel_rfl) (by kernel_rfl) (by kernel_rfl) (fun _ _ _ h => h) (Or.inl ⟨by rfl, ?_⟩) hHeld ?_
      rotate_left 1
      · (intro W hSw; (try dsimp only at hSw); go_simp; try with_reducible rfl)
      try simp only [Act.put, List.setIfInBounds_toArray, List.set_cons_zero, List.set_cons_succ]
      refine wpAnyH_take (i := 10) (oi := ⟨_, _, _, _, _, _⟩) (v := ?_) rfl (by kernel_rfl) (by kernel_rfl) (by kernel_rfl) (fun _ _ _ h => h) (Or.inl ⟨by rfl, ?_⟩) hHeld ?_
      rotate_left 1
      · (intro W hSw; (try dsimp only at hSw); go_simp; try with_reducible rfl)
      try simp only [Act.put, List.setIfInBounds_toArray, List.set_cons_zero, List.set_cons_succ]
      refine wpAnyH_take (i := 11) (oi := ⟨_, _, _, _, _, _⟩) (v := ?_) rfl (by kernel_rfl) (by kernel_rfl) (by kernel_rfl) (fun _ _ _ h => h) (Or.inl ⟨by rfl, ?_⟩) hHeld ?_
      rotate_left 1
      · (intro W hSw; (try dsimp only at hSw); go_simp; try with_reducible rfl)
      try simp only [Act.put, List.setIfInBounds_toArray, List.set_cons_zero, List.set_cons_succ]
      refine wpAnyH_take (i := 12) (oi := ⟨_, _, _, _, _, _⟩) (v := ?_) rfl (by kernel_rfl) (by kernel_rfl) (by kernel_rfl) (fun _ _ _ h => h) (Or.inl ⟨by rfl, ?_⟩) hHeld ?_
      rotate_left 1
      · (intro W hSw; (try dsimp only at hSw); go_simp; try with_reducible rfl)
      try simp only [Act.put, List.setIfInBounds_toArray, List.set_cons_zero, List.set_cons_succ]
      refine wpAnyH_take (i := 13) (oi := ⟨_, _, _, _, _, _⟩) (v := ?_) rfl (by kernel_rfl) (by kernel_rfl) (by kernel_rfl) (fun _ _ _ h => h) (Or.inl ⟨by rfl, ?_⟩) hHeld ?_
      rotate_left 1
      · (intro W hSw; (try dsimp only at hSw); go_simp; try with_reducible rfl)
      try simp only [Act.put, List.setIfInBounds_toArray, List.set_cons_zero, List.set_cons_succ]
      refine wpAnyH_take (i := 14) (oi := ⟨_, _, _, _, _, _⟩) (v := ?_) rfl (by kernel_rfl) (by kernel_rfl) (by kernel_rfl) (fun _ _ _ h => h) (Or.inl ⟨by rfl, ?_⟩) hHeld ?_
      rotate_left 1
      · (intro W hSw; (try dsimp only at hSw); have hcc := HCL.out W hSw; go_simp; try with_reducible rfl)
      try simp only [Act.put, List.setIfInBounds_toArray, List.set_cons_zero, List.set_cons_succ]
      refine wpAnyH_take (i := 15) (oi := ⟨_, _, _, _, _, _⟩) (v := ?_) rfl (by kernel_rfl) (by kernel_rfl) (by kernel_rfl) (fun _ _ _ h => h) (Or.inl ⟨by rfl, ?_⟩) hHeld ?_
      rotate_left 1
      · (intro W hSw; (try dsimp only at hSw); go_simp; try with_reducible rfl)
      try simp only [Act.put, List.setIfInBounds_toArray, List.set_cons_zero, List.set_cons_succ]
      refine wpAnyH_take (i := 16) (oi := ⟨_, _, _, _, _, _⟩) (v := ?_) rfl (by kernel_rfl) (by kernel_rfl) (by kernel_rfl) (fun _ _ _ h => h) (Or.inl ⟨by rfl, ?_⟩) hHeld ?_
      rotate_left 1
      · (intro W hSw; (try dsimp only at hSw); go_simp; try with_reducible rfl)
      try simp only [Act.put, List.setIfInBounds_toArray, List.set_cons_zero, List.set_cons_succ]
      refine wpAnyH_take (i := 17) (oi := ⟨_, _, _, _, _, _⟩) (v := ?_) rfl (by kernel_rfl) (by kernel_rfl) (by kernel_rfl) (fun _ _ _ h => h) (Or.inl ⟨by rfl, ?_⟩) hHeld ?_
      rotate_left 1
      · (intro W hSw; (try dsimp only at hSw); go_simp; try with_reducible rfl)
      try simp only [Act.put, List.setIfInBounds_toArray, List.set_cons_zero, List.set_cons_succ]
      refine wpAnyH_take (i := 18) (oi := ⟨_, _, _, _, _, _⟩) (v := ?_) rfl (by kernel_rfl) (by kernel_rfl) (by kernel_rfl) (fun _ _ _ h => h) (Or.inl ⟨by rfl, ?_⟩) hHeld ?_
      rotate_left 1
      · (intro W hSw; (try dsimp only at hSw); go_simp; try with_reducible rfl)
      try simp only [Act.put, List.setIfInBounds_toArray, List.set_cons_zero, List.set_cons_succ]
      refine wpAnyH_done (by kernel_rfl) ?_ _
      refine NoPanic.normal ?_
      have hb7 := hHeld
      generalize wr.drew = w7 at *
      by_cases hlast : k + 1 = m
      · skip
        have hr : (ps.drop (k + 1)).isEmpty = true := by rw [drop_last HKP.out, ← HMM.out]; simpa using hlast
        have htk := HTK.out
        have hout := HOUT.out
        rw [hr] at htk hout
        have HTE := Lib.hid (take_e w4.heap.size w4.heap.size A Ak c ck pl C F p w7 (HJR.out.below hHeld) HPL.out (HIK.out w7 hHeld) (by have := HF9.out; omega) (by have := HP9.out; have := HPL.out; omega) (Nat.le_trans HBR.out.size hHeld.size))
        rw [htk] at HTE
        have hck := HCL.out w7 hHeld
        have HBQ := Lib.hid (HBR.out.trans (hHeld.mono HBR.out.size))
        have HOO := Lib.hid (fun (kk : Nat) (h : Ours w4.heap.size A kk) => ((HJR.out.below hHeld).ours h).1)
        clear hr htk hHeld hsz2 hsz HCL HCX HCS HIK
        go_upto_region 14 with (go_at_call 14; refine HTE.out.mono ?_; rintro e w8 ⟨A8, n8, c8, A', c', rfl, hX, _, _, hJ8, _, hC8⟩)
        have hb8 : Below w4.heap.size w7 w8 := hC8.below HBQ.out.size HOO.out
        have hbz := HBQ.out.trans hb8
        have hm1 : (m : Int) - 1 = ((m - 1 : Nat) : Int) := by omega
        have hq1 : ((k : Int) == ((m - 1 : Nat) : Int)) = true := by simp; omega
        have hq2 : k = m - 1 := by omega
        rw [if_pos trivial] at hout
        have hcx := conv_in hX.1 (hX.toIn (Nat.le_refl _))
        have hcf := conv_in HBL.out (in_weak (HB1.out.below hbz) hbz.size)
        rw [hout] at hcx
        have HFIN := Lib.hid (And.intro hJ8 hbz)
        clear hX hJ8 hC8 hb8 hbz hout hck
        go_wp2
        go_roundw
        case rel => exact ⟨k + 1, F', C', A', c', HLT.out, by go_num, HFIN.out.1, HRUN'.out, HFIN.out.2⟩
        case measure => have := HLT.out; simp [intOf]; omega
      · skip
        have hr : (ps.drop (k + 1)).isEmpty = false := by rw [drop_last HKP.out, ← HMM.out]; simpa using hlast
        have htk := HTK.out
        have hout := HOUT.out
        rw [hr] at htk hout
        have HTE := Lib.hid (take_e w4.heap.size w4.heap.size A Ak c ck pl C F p w7 (HJR.out.below hHeld) HPL.out (HIK.out w7 hHeld) (by have := HF9.out; omega) (by have := HP9.out; have := HPL.out; omega) (Nat.le_trans HBR.out.size hHeld.size))
        rw [htk] at HTE
        have hck := HCL.out w7 hHeld
        have HBQ := Lib.hid (HBR.out.trans (hHeld.mono HBR.out.size))
        have HOO := Lib.hid (fun (kk : Nat) (h : Ours w4.heap.size A kk) => ((HJR.out.below hHeld).ours h).1)
        clear hr htk hHeld hsz2 hsz HCL HCX HCS HIK
        go_upto_region 14 with (go_at_call 14; refine HTE.out.mono ?_; rintro e w8 ⟨A8, n8, c8, A', c', rfl, hX, _, _, hJ8, _, hC8⟩)
        have hb8 : Below w4.heap.size w7 w8 := hC8.below HBQ.out.size HOO.out
        have hbz := HBQ.out.trans hb8
        have hm1 : (m : Int) - 1 = ((m - 1 : Nat) : Int) := by omega
        have hq1 : ((k : Int) == ((m - 1 : Nat) : Int)) = false := by simp; omega
        rw [if_neg (by decide)] at hout
        have hn8 : n8 = 0 := by rw [← hX.1, hout]; rfl
        subst hn8
        have HFIN := Lib.hid (And.intro hJ8 hbz)
        clear hX hJ8 hC8 hb8 hbz hout hck
        go_wp2
        go_roundw
        case rel => exact ⟨k + 1, F', C', A', c', HLT.out, by go_num, HFIN.out.1, HRUN'.out, HFIN.out.2⟩
        case measure => have := HLT.out; simp [intOf]; omega
    · have hkm : k = m := by omega
      have hdr : ps.drop k = [] := List.drop_of_length_le (by rw [← HMM.out]; omega)
      rw [hdr] at hrun
      obtain ⟨rfl, rfl⟩ := hrun
      have hd : decide (k < m) = false := by simpa using hlt
      have HWT := Lib.hid (waits_e _ _ _ _ _ _ wr hJ)
      have HFIN := Lib.hid (HBW.out.trans (hbr.mono HBW.out.size))
      clear hJ hbr hdr hk hlt hkm
      go_wp2_with (go_at_call 15; refine HWT.out.mono ?_; rintro e w6 ⟨rfl, hww⟩; have hw2 := hww.symm; subst hw2)
      go_ret
      exact ⟨rfl, HFIN.out⟩
end Go.Proofs.Ytjachohgffnbiaa
