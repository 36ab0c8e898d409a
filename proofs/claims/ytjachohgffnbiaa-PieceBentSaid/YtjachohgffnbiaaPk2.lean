/-
  The reference's take of layer 17: a flight of one piece.
-/
import Derived.Test.YtjachohgffnbiaaPj
import Derived.StillTailTactics
namespace Go.Proofs.Ytjachohgffnbiaa
open Go.RowKit

set_option maxRecDepth 100000 in
set_option maxHeartbeats 1000000 in
theorem rtake_one (g : Nat) (F b : List UInt8) (C n : Nat) (w : World) (hJ : RJoin w g F C) (hn : b.length = n) (hm : n < 900000) (hF : Fine F C) (hb0 : b.length ≠ 0) (hw : ¬ (hL (b.getD 0 0) = true ∧ b.length < 5)) (hmy : mayB F.length (b.getD 0 0) = true) (hF0 : F = []) (hlv : hL (b.getD 0 0) = false) (hmv : hM (b.getD 0 0) = false) :
    Calls Try.prog 25 #[.pointer (some ⟨g, 0, none⟩), .string ⟨b.toArray⟩] w (RPost (takeE F C b) g w) := by
  obtain ⟨E, hE⟩ : ∃ E, takeE F C b = E := ⟨_, rfl⟩
  rw [hE]
  have hlen : (b.length : Int) = (n : Int) := by omega
  have g0 : w.cell? ⟨g, 0, none⟩ = some (.bool (!F.isEmpty)) := hJ.cell 0
  have g1 : w.cell? ⟨g, 1, none⟩ = some (.int .i64 (C : Int)) := hJ.cell 1
  have g2 : w.cell? ⟨g, 2, none⟩ = some (.string ⟨F.toArray⟩) := hJ.cell 2
  have HJ := Lib.hid hJ
  have HN := Lib.hid hn
  have h0 : ¬ n = 0 := by omega
  have hb1 : ¬ b = [] := fun e => by subst e; exact h0 (by simpa using hn.symm)
  have hb2 : b.isEmpty = false := by simpa using hb1
  have hb3 : (b == []) = false := by simpa using hb1
  have q0 : 0 < b.length := by omega
  have s0 := str_get b 0 q0
  obtain ⟨f, hf⟩ : ∃ f, f = b.getD 0 0 := ⟨_, rfl⟩
  rw [← hf] at s0
  have hx1 := extract_from b 1 b.length (Nat.le_refl _)
  obtain ⟨X, hXd⟩ : ∃ X, X = b.drop 1 := ⟨_, rfl⟩
  rw [← hXd] at hx1
  obtain ⟨m, hmm⟩ : ∃ m, m = X.length := ⟨_, rfl⟩
  have hlx : (X.length : Int) = (m : Int) := by omega
  have hbf : b = f :: X := by
    cases b with
    | nil => exact absurd rfl hb1
    | cons a r => rw [hf, hXd]; rfl
  have hge := hL_ge f
  obtain ⟨mo, hmo⟩ : ∃ mo, hM f = mo := ⟨_, rfl⟩
  obtain ⟨am, haM, haM2⟩ : ∃ am : Int, bits .and .u8 (f.toNat : Int) 64 = am ∧ (am != 0) = mo := ⟨_, and_M f, by rw [hmo]; cases mo <;> rfl⟩
  obtain ⟨ax, haX, haX2⟩ : ∃ ax : Int, bits .and .u8 (f.toNat : Int) 63 = ax ∧ (ax != 0) = hX f := ⟨_, and_X f, by unfold hX; rw [Bool.eq_iff_iff]; simp; omega⟩
  have h0n : 0 < n := by omega
  have h1n : (1 : Int) ≤ (n : Int) := by omega
  have HMF := Lib.hid (show mo = false by rw [← hmo, hf]; exact hmv)
  have HLF := Lib.hid (show hL f = false by rw [hf]; exact hlv)
  clear hmv hlv
  have hshort : ¬ (hL f = true ∧ X.length < 4) := by rw [hf, hXd, List.length_drop]; intro h; exact hw ⟨h.1, by omega⟩
  have hmay : ¬ mayB F.length f = false := by rw [hf, hmy]; decide
  clear hw hmy hb0
  have hm9 : X.length < 900000 := by rw [hXd, List.length_drop]; omega
  obtain ⟨hh, hhh⟩ : ∃ h, h = (partsE b).2.2.1 := ⟨_, rfl⟩
  obtain ⟨qq, hqq⟩ : ∃ q, q = (partsE b).2.1 := ⟨_, rfl⟩
  have hpe : partsE b = (f, qq, hh, 0) := by
    rw [hqq, hhh]
    unfold partsE
    rw [if_neg (by omega), ← hf]
    cases hl : hL f
    · rw [if_pos rfl]
    · rw [if_neg (by decide), if_neg (by intro h; exact hshort ⟨hl, by rw [hXd, List.length_drop]; exact h⟩)]
  have hE2 : E = if (joinE F C f qq hh).1 ≠ 0 then ([], false, (joinE F C f qq hh).1, [], 0) else if hM f = true then ([], false, 0, (joinE F C f qq hh).2) else ((joinE F C f qq hh).2.1, true, 0, [], 0) := by
    rw [← hE]; unfold takeE; rw [hpe, if_neg (by simp)]
  clear hE
  rw [hmo] at hE2
  have HE2 := Lib.hid hE2
  have HPC := Lib.hid (show (hL f = false → hh = X ∧ qq = m) ∧ (hL f = true → hh = X.drop 4 ∧ qq = cntTo X 4) by
    have e := hpe
    unfold partsE at e
    rw [if_neg (by omega), ← hf] at e
    refine ⟨fun hl => ?_, fun hl => ?_⟩
    · rw [if_pos hl] at e
      injection e with _ e; injection e with e1 e; injection e with e2 _
      exact ⟨by rw [← e2, hXd], by rw [← e1, hmm, hXd, List.length_drop]⟩
    · rw [if_neg (by rw [hl]; decide), if_neg (by intro h; exact hshort ⟨hl, by rw [hXd, List.length_drop]; exact h⟩)] at e
      injection e with _ e; injection e with e1 e; injection e with e2 _
      exact ⟨by rw [← e2, hXd, List.drop_drop], by rw [← e1, hXd]⟩)
  have HMO := Lib.hid hmo
  have HHX := Lib.hid (And.intro hhh (And.intro hqq hXd))
  have HFN := Lib.hid hF
  have HBN := Lib.hid (And.intro hn hmm)
  clear hE2 hpe hhh hqq hn hF hf hbf hXd hmm
  replace hmay : mayB F.length f = true := by simpa using hmay
  have hx : hX f = false := by cases h : hX f; · rfl
                               unfold mayB at hmay; rw [h] at hmay; cases hmay
  have HMY := Lib.hid hmay
  unfold mayB at hmay
  rw [hx] at haX2
  rw [hx, if_neg (by decide)] at hmay
  have hg0 : F.isEmpty = true := by rw [hF0]; rfl
  rw [hg0] at g0
  have hl := HLF.out
  obtain ⟨hhX, hqm⟩ := HPC.out.1 hl
  subst hhX
  have HE0 := Lib.hid (take_fine HE2.out HMY.out HMO.out (T := m) (by rw [if_pos (by rw [hF0]; rfl)]; exact hqm))
  rw [hl] at hge
  have HQ0 := Lib.hid (show Blk w g 41 [.bool false, .int .i64 (C : Int), .string ⟨F.toArray⟩] from by have h := HJ.out; unfold RJoin at h; rw [hg0] at h; exact h)
  have z1 := HQ0.out.frozen 1
  clear hg0 hmay hx hl hshort hmo hqm hF0 hJ g2
  obtain rfl := HMF.out
  go_enter Try.func25, Try.ntmps25
  go_upto_region 15 with (fail)
  have HQ := Lib.hid (show Blk (w.setCell ⟨g, 1, none⟩ (.int .i64 (m : Int))) g 41 [.bool false, .int .i64 (m : Int), .string ⟨F.toArray⟩] from HQ0.out.set_ 1 _)
  have HCQ := Lib.hid (chg_cell g 1 w (.int .i64 (m : Int)))
  generalize w.setCell ⟨g, 1, none⟩ (.int .i64 (m : Int)) = w2 at *
  clear g0 g1 z1
  have g0 : w2.cell? ⟨g, 0, none⟩ = some (.bool false) := HQ.out.cell 0
  have g1 : w2.cell? ⟨g, 1, none⟩ = some (.int .i64 (m : Int)) := HQ.out.cell 1
  have g2 : w2.cell? ⟨g, 2, none⟩ = some (.string ⟨F.toArray⟩) := HQ.out.cell 2
  by_cases cb : 32768 < m
  · have HZ := Lib.hid (HE0.out.trans (if_pos cb))
    have hdb : (32768 : Int) < (m : Int) := by omega
    clear cb
    go_wp2
    go_ret3
    exact ⟨by rw [HZ.out] <;> rfl, ⟨_, _, _, HQ.out⟩, fun _ h => (by rw [HZ.out] at h; cases h), HCQ.out⟩
  · have HE3 := Lib.hid (HE0.out.trans (if_neg cb))
    have hdb : ¬ (32768 : Int) < (m : Int) := by omega
    clear cb
    go_upto_region 17 with (fail)
    clear hdb
    obtain ⟨a, ha⟩ : ∃ a, a = F.length + hh.length := ⟨_, rfl⟩
    obtain ⟨fl, hfl0⟩ : ∃ fl, fl = F.length := ⟨_, rfl⟩
    have hfl : (F.length : Int) = (fl : Int) := by omega
    have hs1 : (fl : Int) + (m : Int) = (a : Int) := by omega
    have ha9 : a < 1000000 := by have := HFN.out.1; have := hm9; omega
    rw [← ha] at HE3
    have hm0 : (hh.length = 0 ↔ m = 0) := by omega
    by_cases c1 : m < a
    · have HZ := Lib.hid (HE3.out.trans (if_pos (.inl c1)))
      have hd : decide (m < a) = true := by simpa using c1
      obtain ⟨hs2, hs3⟩ := ix_small a ha9
      clear ha hfl0 ha9 hm0 c1
      refine (wp_region_quiet_lit (by kernel_rfl) (by kernel_rfl) ?_ : _)
      repeat (refine (wpQuiet_step (fun K hK => ?_) : _); go_simp; refine hK _ ?_; clear hK K)
      refine (wpQuiet_nil ?_ : _)
      intro _ hw'
      obtain ⟨nq, hw''⟩ := hw'
      subst hw''
      go_wp2
      go_ret3
      exact ⟨by rw [HZ.out] <;> rfl, ⟨_, _, _, HQ.out.drewN nq⟩, fun _ h => (by rw [HZ.out] at h; cases h), HCQ.out.trans (chg_drewN _ _ nq) (fun _ _ h => h)⟩
    · have hd : decide (m < a) = false := by simpa using c1
      by_cases c2 : a < m
      · have HZ := Lib.hid (HE3.out.trans (if_pos (.inr (.inl ⟨c2, rfl⟩))))
        have hd2 : decide (a < m) = true := by simpa using c2
        obtain ⟨hs2, hs3⟩ := ix_small a ha9
        clear ha hfl0 ha9 hm0 c1 c2
        refine (wp_region_quiet_lit (by kernel_rfl) (by kernel_rfl) ?_ : _)
        repeat (refine (wpQuiet_step (fun K hK => ?_) : _); go_simp; refine hK _ ?_; clear hK K)
        refine (wpQuiet_nil ?_ : _)
        intro _ hw'
        obtain ⟨nq, hw''⟩ := hw'
        subst hw''
        go_wp2
        go_ret3
        exact ⟨by rw [HZ.out] <;> rfl, ⟨_, _, _, HQ.out.drewN nq⟩, fun _ h => (by rw [HZ.out] at h; cases h), HCQ.out.trans (chg_drewN _ _ nq) (fun _ _ h => h)⟩
      · have HZ := Lib.hid ((HE3.out.trans (if_neg (by intro h; rcases h with h | h | h <;> first | exact c1 h | exact c2 h.1 | cases h.2))).trans (if_neg (by decide)))
        have hd2 : decide (a < m) = false := by simpa using c2
        obtain ⟨hs2, hs3⟩ := ix_small a ha9
        clear ha hfl0 ha9 hm0 c1 c2
        refine (wp_region_quiet_lit (by kernel_rfl) (by kernel_rfl) ?_ : _)
        repeat (refine (wpQuiet_step (fun K hK => ?_) : _); go_simp; refine hK _ ?_; clear hK K)
        refine (wpQuiet_nil ?_ : _)
        intro _ hw'
        obtain ⟨nq, hw''⟩ := hw'
        subst hw''
        clear hs1 hs2 hs3 hfl hlx g0 g1 g2 hd hd2
        have hJ5 := HQ.out.drewN nq
        have HC5 := Lib.hid (HCQ.out.trans (chg_drewN (fun k => k = g) _ nq) (fun _ _ h => h))
        generalize w2.drewN nq = w5 at *
        have y0 := hJ5.cell 0
        have z0 := hJ5.frozen 0
        simp only [List.getElem?_cons_zero] at y0
        go_upto_region 20 with (fail)
        have hJ6 := hJ5.set_ 0 (.bool true)
        have HC6 := Lib.hid (HC5.out.trans (chg_cell g 0 w5 (.bool true)) (fun _ _ h => h))
        generalize w5.setCell ⟨g, 0, none⟩ (.bool true) = w6 at *
        simp only [List.set_cons_zero] at hJ6
        clear y0 z0 hJ5
        have y2 : w6.cell? ⟨g, 2, none⟩ = some (.string ⟨F.toArray⟩) := hJ6.cell 2
        have z2 := hJ6.frozen 2
        have happ := str_app F hh
        have hov : ¬ 9223372036854775807 < F.length + hh.length := by have := HFN.out.1; have := hm9; omega
        go_upto_region 21 with (fail)
        have hJ7 := hJ6.set_ 2 (.string ⟨(F ++ hh).toArray⟩)
        have HC7 := Lib.hid (HC6.out.trans (chg_cell g 2 w6 (.string ⟨(F ++ hh).toArray⟩)) (fun _ _ h => h))
        generalize w6.setCell ⟨g, 2, none⟩ (.string ⟨(F ++ hh).toArray⟩) = w7 at *
        replace hJ7 : Blk w7 g 41 [.bool true, .int .i64 (m : Int), .string ⟨(F ++ hh).toArray⟩] := hJ7
        clear y2 z2 hJ6 happ hov
        have y2 : w7.cell? ⟨g, 2, none⟩ = some (.string ⟨(F ++ hh).toArray⟩) := hJ7.cell 2
        go_wp2
        go_ret3
        exact ⟨by rw [HZ.out] <;> rfl, ⟨_, _, _, hJ7⟩, fun h _ => (by rw [HZ.out] at h; cases h), HC7.out⟩
end Go.Proofs.Ytjachohgffnbiaa
