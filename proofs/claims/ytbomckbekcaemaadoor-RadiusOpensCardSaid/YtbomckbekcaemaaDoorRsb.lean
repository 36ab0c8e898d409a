/-
  The contracts of the document's Attrs, Split and Join.
-/
import Derived.Test.YtbomckbekcaemaaDoorRsa
namespace Go.Proofs.YtbomckbekcaemaaDoor
open Go.RowKit

theorem guardS : Tryd.prog.eqGuardType Tryd.prog.depth 62 = false := by kernel_rfl
theorem attrs_ext {la lb : Attrs} (hl : la.length = lb.length) (h : ∀ j, j < la.length → la.getD j (0, []) = lb.getD j (0, [])) : la = lb := by
  apply List.ext_getElem hl
  intro j h1 h2
  have := h j h1
  rw [List.getD_eq_getElem?_getD, List.getD_eq_getElem?_getD, List.getElem?_eq_getElem h1, List.getElem?_eq_getElem h2] at this
  exact this
set_option maxRecDepth 100000 in
set_option maxHeartbeats 1000000 in
theorem rattrs_e (A A' : Option Addr) (c c' n n' : Nat) (la lb : Attrs) (w : World) (hn : la.length = n) (hA : SIn w w.heap.size A c la) (hn' : lb.length = n') (hA' : SIn w w.heap.size A' c' lb) :
    Calls Tryd.prog 26 #[.slice A n c, .slice A' n' c'] w fun e w' => e = .returned (.bool (decide (la = lb))) ∧ Below w.heap.size w w' := by
  by_cases hl : n = n'
  · subst hl
    have hmc : n ≤ c := by rw [← hn]; exact hA.1
    have HNM := Lib.hid (Nat.le_trans hmc hA.2.1)
    have hmc1 : (n : Int) ≤ (c : Int) := Int.ofNat_le.2 hmc
    have hmc2 : (n : Int) ≤ (c' : Int) := Int.ofNat_le.2 (by rw [← hn']; exact hA'.1)
    have HN := Lib.hid (And.intro hn hn')
    have HA := Lib.hid (And.intro hA hA')
    clear hn hn' hA hA' hmc
    go_enter Tryd.func26, Tryd.ntmps26
    go_wp2
    go_loopw [5] (fun i wr => ∃ k : Nat, k ≤ n ∧ i = .int .i64 (k : Int) ∧ (∀ j, j < k → la.getD j (0, []) = lb.getD j (0, [])) ∧ Below w.heap.size w wr) (fun i _ => n - (intOf i).toNat)
    case atStart => exact ⟨0, Nat.zero_le _, rfl, fun j h => absurd h (Nat.not_lt_zero _), Below.refl _ _⟩
    case round =>
      obtain ⟨k, hk, rfl, hno, hbr⟩ := hrel
      by_cases hlt : k < n
      · have hd : (k : Int) < (n : Int) := by omega
        have hkr : k < la.length := by rw [HN.out.1]; exact hlt
        have hkr' : k < lb.length := by rw [HN.out.2]; exact hlt
        obtain ⟨gp, op, hAe, hgp, hrow⟩ := HA.out.1.2.2 (Nat.lt_of_le_of_lt (Nat.zero_le _) hkr)
        obtain ⟨gp', op', hAe', hgp', hrow'⟩ := HA.out.2.2.2 (Nat.lt_of_le_of_lt (Nat.zero_le _) hkr')
        obtain ⟨h1, h2⟩ := hrow k hkr
        obtain ⟨h1', h2'⟩ := hrow' k hkr'
        obtain ⟨kd, v, hkv⟩ : ∃ kd v, la.getD k (0, []) = (kd, v) := ⟨_, _, rfl⟩
        obtain ⟨kd', v', hkv'⟩ : ∃ kd v, lb.getD k (0, []) = (kd, v) := ⟨_, _, rfl⟩
        rw [hkv] at h1 h2
        rw [hkv'] at h1' h2'
        have HC1 := Lib.hid (fun (W : World) (h : Below w.heap.size w W) => (show W.cell? ⟨gp, op + k * 2, none⟩ = some (.int .i64 kd) from (h.cell (p := ⟨gp, op + k * 2, none⟩) hgp).trans h1))
        have HC2 := Lib.hid (fun (W : World) (h : Below w.heap.size w W) => (show W.cell? ⟨gp, op + k * 2 + 1, none⟩ = some (.string ⟨v.toArray⟩) from (h.cell (p := ⟨gp, op + k * 2 + 1, none⟩) hgp).trans h2))
        have HD1 := Lib.hid (fun (W : World) (h : Below w.heap.size w W) => (show W.cell? ⟨gp', op' + k * 2, none⟩ = some (.int .i64 kd') from (h.cell (p := ⟨gp', op' + k * 2, none⟩) hgp').trans h1'))
        have HD2 := Lib.hid (fun (W : World) (h : Below w.heap.size w W) => (show W.cell? ⟨gp', op' + k * 2 + 1, none⟩ = some (.string ⟨v'.toArray⟩) from (h.cell (p := ⟨gp', op' + k * 2 + 1, none⟩) hgp').trans h2'))
        obtain ⟨hk0, hkn, hkw⟩ := ix_at hlt HNM.out
        have HB := Lib.hid hbr
        have HK := Lib.hid (And.intro hkr (And.intro hkv hkv'))
        have HW := Lib.hid hkw
        have HNO := Lib.hid hno
        subst hAe
        subst hAe'
        clear hrow h1 h2 hkv hbr hgp hrow' h1' h2' hkv' hgp' hkw hk hlt hkr hkr' hno
        obtain ⟨r, hr⟩ : ∃ r, r = !decide ((kd, v) = (kd', v')) := ⟨_, rfl⟩
        have HR := Lib.hid hr
        clear hr
        go_upto_region 6 with (fail)
        clear hd
        refine wp_region_noPanic ?_
        refine wp_region_held_drew (S := fun W => Below w.heap.size w W) (by kernel_rfl) (by exact below_drewN HB.out 1) (fun hHeld => ?_)
        refine wpAnyH_take (i := 0) (oi := ⟨_, _, _, _, _, _⟩) (v := ?_) rfl (by kernel_rfl) (by kernel_rfl) (by kernel_rfl) (fun _ _ _ h => h) (Or.inl ⟨by rfl, ?_⟩) hHeld ?_
        rotate_left 1
        · (intro W hSw; (try dsimp only at hSw); go_simp; try with_reducible rfl)
        try simp only [Act.put, List.setIfInBounds_toArray, List.set_cons_zero, List.set_cons_succ]
        refine wpAnyH_take (i := 1) (oi := ⟨_, _, _, _, _, _⟩) (v := ?_) rfl (by kernel_rfl) (by kernel_rfl) (by kernel_rfl) (fun _ _ _ h => h) (Or.inl ⟨by rfl, ?_⟩) hHeld ?_
        rotate_left 1
        · (intro W hSw; (try dsimp only at hSw); go_simp; try with_reducible rfl)
        try simp only [Act.put, List.setIfInBounds_toArray, List.set_cons_zero, List.set_cons_succ]
        refine wpAnyH_take (i := 2) (oi := ⟨_, _, _, _, _, _⟩) (v := ?_) rfl (by kernel_rfl) (by kernel_rfl) (by kernel_rfl) (fun _ _ _ h => h) (Or.inl ⟨by rfl, ?_⟩) hHeld ?_
        rotate_left 1
        · (intro W hSw; (try dsimp only at hSw); go_simp; try with_reducible rfl)
        try simp only [Act.put, List.setIfInBounds_toArray, List.set_cons_zero, List.set_cons_succ]
        refine wpAnyH_take (i := 3) (oi := ⟨_, _, _, _, _, _⟩) (v := ?_) rfl (by kernel_rfl) (by kernel_rfl) (by kernel_rfl) (fun _ _ _ h => h) (Or.inl ⟨by rfl, ?_⟩) hHeld ?_
        rotate_left 1
        · (intro W hSw; (try dsimp only at hSw); have hc1 := HC1.out W hSw; have hc2 := HC2.out W hSw; go_simp; try with_reducible rfl)
        try simp only [Act.put, List.setIfInBounds_toArray, List.set_cons_zero, List.set_cons_succ]
        refine wpAnyH_take (i := 4) (oi := ⟨_, _, _, _, _, _⟩) (v := ?_) rfl (by kernel_rfl) (by kernel_rfl) (by kernel_rfl) (fun _ _ _ h => h) (Or.inl ⟨by rfl, ?_⟩) hHeld ?_
        rotate_left 1
        · (intro W hSw; (try dsimp only at hSw); go_simp; try with_reducible rfl)
        try simp only [Act.put, List.setIfInBounds_toArray, List.set_cons_zero, List.set_cons_succ]
        refine wpAnyH_take (i := 5) (oi := ⟨_, _, _, _, _, _⟩) (v := ?_) rfl (by kernel_rfl) (by kernel_rfl) (by kernel_rfl) (fun _ _ _ h => h) (Or.inl ⟨by rfl, ?_⟩) hHeld ?_
        rotate_left 1
        · (intro W hSw; (try dsimp only at hSw); go_simp; try with_reducible rfl)
        try simp only [Act.put, List.setIfInBounds_toArray, List.set_cons_zero, List.set_cons_succ]
        refine wpAnyH_take (i := 6) (oi := ⟨_, _, _, _, _, _⟩) (v := ?_) rfl (by kernel_rfl) (by kernel_rfl) (by kernel_rfl) (fun _ _ _ h => h) (Or.inl ⟨by rfl, ?_⟩) hHeld ?_
        rotate_left 1
        · (intro W hSw; (try dsimp only at hSw); go_simp; try with_reducible rfl)
        try simp only [Act.put, List.setIfInBounds_toArray, List.set_cons_zero, List.set_cons_succ]
        refine wpAnyH_take (i := 7) (oi := ⟨_, _, _, _, _, _⟩) (v := ?_) rfl (by kernel_rfl) (by kernel_rfl) (by kernel_rfl) (fun _ _ _ h => h) (Or.inl ⟨by rfl, ?_⟩) hHeld ?_
        rotate_left 1
        · (intro W hSw; (try dsimp only at hSw); have hc1 := HD1.out W hSw; have hc2 := HD2.out W hSw; go_simp; try with_reducible rfl)
        try simp only [Act.put, List.setIfInBounds_toArray, List.set_cons_zero, List.set_cons_succ]
        refine wpAnyH_take (i := 8) (oi := ⟨_, _, _, _, _, _⟩) (v := .bool r) rfl (by kernel_rfl) (by kernel_rfl) (by kernel_rfl) (fun _ _ _ h => h) (Or.inl ⟨by rfl, ?_⟩) hHeld ?_
        · (intro W hSw; have hgu := guardS; have hr := HR.out; go_simp; by_cases h1 : kd = kd' <;> by_cases h2 : v = v' <;> simp [h1, h2])
        try simp only [Act.put, List.setIfInBounds_toArray, List.set_cons_zero, List.set_cons_succ]
        replace hHeld : Below w.heap.size w wr.drew := hHeld
        have HBD := Lib.hid hHeld
        clear hHeld
        generalize wr.drew = wd at *
        refine wpAnyH_done (by kernel_rfl) ?_ _
        refine NoPanic.normal ?_
        cases r with
        | false =>
          have HNO1 := Lib.hid (show ∀ j, j < k + 1 → la.getD j (0, []) = lb.getD j (0, []) from fun j hj => by
            rcases Nat.lt_or_ge j k with hjk | hjk
            · exact HNO.out j hjk
            · have hr := HR.out
              rw [show j = k by omega, HK.out.2.1, HK.out.2.2]
              simpa using hr)
          go_wp2
          go_roundw
          case rel => exact ⟨k + 1, (by have := HK.out.1; have := HN.out.1; omega), by rw [HW.out], HNO1.out, HBD.out⟩
          case measure => exact ix_meas2 HK.out.1 HN.out.1 HNM.out
        | true =>
          have HZ := Lib.hid (show decide (la = lb) = false by
            have hr := HR.out
            simp only [decide_eq_false_iff_not]
            intro h
            have h2 := HK.out
            rw [h] at h2
            have h3 := h2.2.1.symm.trans h2.2.2
            rw [h3] at hr
            simp at hr)
          go_wp2
          go_ret
          exact ⟨by rw [HZ.out]; rfl, HBD.out⟩
      · have hd : ¬ (k : Int) < (n : Int) := by omega
        have HFIN := Lib.hid (And.intro (show la = lb from attrs_ext (HN.out.1.trans HN.out.2.symm) (fun j hj => hno j (by have := HN.out.1; omega))) hbr)
        clear hno hbr hk hlt
        go_wp2
        go_ret
        exact ⟨by rw [HFIN.out.1]; simp, HFIN.out.2⟩
  · have hne : ¬ (n : Int) = (n' : Int) := by omega
    have HZ := Lib.hid (show decide (la = lb) = false by simp only [decide_eq_false_iff_not]; intro h; rw [h] at hn; omega)
    clear hl hA hA' hn hn'
    go_enter Tryd.func26, Tryd.ntmps26
    go_wp2
    go_ret
    exact ⟨by rw [HZ.out]; rfl, Below.refl _ _⟩
end Go.Proofs.YtbomckbekcaemaaDoor
