/-
  The contracts of the law's tame, to and from.
-/
import Derived.Test.YtbomckbekcaemaaDoorRsc
namespace Go.Proofs.YtbomckbekcaemaaDoor
open Go.RowKit

theorem infRP : (Tryd.prog.info? 25).map (·.size) = some 19 := by kernel_rfl
theorem SRow.base {w : World} {base base' : Nat} {v : Value} {la : Attrs} (h : SRow w base v la) (hb : base' ≤ base) : SRow w base' v la :=
  ⟨h.1, h.2.imp id (fun ⟨g, cap, cur, e, hg, r⟩ => ⟨g, cap, cur, e, Nat.le_trans hb hg, r⟩)⟩
theorem SRow.grown {w w' : World} {base g : Nat} {v : Value} {la : Attrs} (h : SRow w base v la) (hg : w.grownBy w' (some g)) (hlt : g < base) : SRow w' base v la :=
  World.ownsRow.kept h hg (by
    cases e : v.ownBlock with
    | none => exact .inl rfl
    | some k => exact .inr (fun e2 => by have h1 := (h.lt k e).1; cases e2; omega))
def tameL (la : Attrs) : Attrs := la.map fun a => (a.1, a.2.take 260)
/-- What tame leaves. -/
def tameA (la : Attrs) : Attrs := tameL (la.take 20)
theorem tameL_snoc (la : Attrs) (a : Int × List UInt8) : tameL (la ++ [a]) = tameL la ++ [(a.1, a.2.take 260)] := by unfold tameL; simp
theorem tameA_bounds (la : Attrs) : (tameA la).length ≤ 20 ∧ ∀ j, j < (tameA la).length → ((tameA la).getD j (0, [])).2.length ≤ 260 := by
  unfold tameA tameL
  refine ⟨by rw [List.length_map, List.length_take]; omega, fun j hj => ?_⟩
  rw [List.getD_eq_getElem?_getD, List.getElem?_eq_getElem hj, Option.getD_some, List.getElem_map, List.length_take]
  omega
theorem ix_minT {v qm : Nat} (hq : qm = min v 260) : min (v : Int) 260 = (qm : Int) ∧ (qm : Int) ≤ (v : Int) ∧ (0 : Int) ≤ (qm : Int) := by omega
theorem take_minT (v : List UInt8) (qm : Nat) (hq : qm = min v.length 260) : v.take qm = v.take 260 := by
  rw [hq]
  rcases Nat.le_total v.length 260 with h | h
  · rw [Nat.min_eq_left h, List.take_of_length_le (Nat.le_refl _), List.take_of_length_le h]
  · rw [Nat.min_eq_right h]
def PkS (code id : Int) (Q : List UInt8) (la : Attrs) (w : World) (e : Ending) (w' : World) : Prop :=
  ∃ A m c, e = .returned (.agg (pkC code id Q A m c).toArray) ∧ SRow w' w.heap.size (.slice A m c) la ∧ Below w.heap.size w w'
def PkA (code id : Int) (Q : List UInt8) (la : Attrs) (w : World) (e : Ending) (w' : World) : Prop :=
  ∃ A m c, e = .returned (.agg (pkC code id Q A m c).toArray) ∧ ARow w' w.heap.size (.slice A m c) la ∧ Below w.heap.size w w'
set_option maxRecDepth 100000 in
set_option maxHeartbeats 1000000 in
theorem tame_e (code id : Int) (Q : List UInt8) (A : Option Addr) (c n : Nat) (la : Attrs) (w : World) (hQ : Q.length = 16) (hn : la.length = n) (hA : SIn w w.heap.size A c la) :
    Calls Tryd.prog 11 #[.agg (pkC code id Q A n c).toArray] w (PkS code id Q (tameA la) w) := by
  have HQ := Lib.hid hQ
  have hmc : n ≤ c := by rw [← hn]; exact hA.1
  have HNM := Lib.hid (Nat.le_trans hmc hA.2.1)
  have hmc1 : (n : Int) ≤ (c : Int) := Int.ofNat_le.2 hmc
  have HN := Lib.hid hn
  have HA := Lib.hid hA
  clear hn hA hmc
  go_enter Tryd.func11, Tryd.ntmps11
  go_upto_region 1 with (fail)
  have hP := (Blk.new_of w 25 (pkC code id Q A n c).toArray (pkC code id Q A n c) rfl).alloc (.cells #[.int .i64 0, .int .i64 0, .int .u8 0, .int .u8 0, .int .u8 0, .int .u8 0, .int .u8 0, .int .u8 0, .int .u8 0, .int .u8 0, .int .u8 0, .int .u8 0, .int .u8 0, .int .u8 0, .int .u8 0, .int .u8 0, .int .u8 0, .int .u8 0, .slice none 0 0] 25)
  have hR := Blk.new2_of w (.cells (pkC code id Q A n c).toArray 25) 25 #[.int .i64 0, .int .i64 0, .int .u8 0, .int .u8 0, .int .u8 0, .int .u8 0, .int .u8 0, .int .u8 0, .int .u8 0, .int .u8 0, .int .u8 0, .int .u8 0, .int .u8 0, .int .u8 0, .int .u8 0, .int .u8 0, .int .u8 0, .int .u8 0, .slice none 0 0] (pkC 0 0 zQ none 0 0) rfl
  have hb0 : Below w.heap.size w ((w.alloc (.cells (pkC code id Q A n c).toArray 25)).alloc (.cells #[.int .i64 0, .int .i64 0, .int .u8 0, .int .u8 0, .int .u8 0, .int .u8 0, .int .u8 0, .int .u8 0, .int .u8 0, .int .u8 0, .int .u8 0, .int .u8 0, .int .u8 0, .int .u8 0, .int .u8 0, .int .u8 0, .int .u8 0, .int .u8 0, .slice none 0 0] 25)) := ((Below.refl _ _).alloc (Nat.le_refl _) _).alloc (by simp) _
  obtain ⟨gr, hgr⟩ : ∃ gr, gr = w.heap.size + 1 := ⟨_, rfl⟩
  obtain ⟨g, hg⟩ : ∃ g, g = w.heap.size := ⟨_, rfl⟩
  have HG := Lib.hid (show w.heap.size ≤ g ∧ g < gr by omega)
  rw [← hgr] at hR
  rw [← hg] at hP
  simp only [← hgr]
  clear hgr
  simp only [← hg]
  have HP := Lib.hid hP
  have HR := Lib.hid hR
  have HBW := Lib.hid hb0
  clear hg hP hR hb0
  generalize (w.alloc (.cells (pkC code id Q A n c).toArray 25)).alloc (.cells #[.int .i64 0, .int .i64 0, .int .u8 0, .int .u8 0, .int .u8 0, .int .u8 0, .int .u8 0, .int .u8 0, .int .u8 0, .int .u8 0, .int .u8 0, .int .u8 0, .int .u8 0, .int .u8 0, .int .u8 0, .int .u8 0, .int .u8 0, .int .u8 0, .slice none 0 0] 25) = w1 at *
  have HC0 := Lib.hid (fun (W : World) (h : Below w1.heap.size w1 W) => (show W.cell? ⟨g, 0, none⟩ = some (.int .i64 code) from (HP.out.below h HP.out.lt).cell 0))
  have HC1 := Lib.hid (fun (W : World) (h : Below w1.heap.size w1 W) => (show W.cell? ⟨g, 1, none⟩ = some (.int .i64 id) from (HP.out.below h HP.out.lt).cell 1))
  have HC18 := Lib.hid (fun (W : World) (h : Below w1.heap.size w1 W) => (show W.cell? ⟨g, 18, none⟩ = some (.slice A n c) from ((HP.out.below h HP.out.lt).cell 18).trans (pkC_last code id Q A n c HQ.out)))
  have HD := Lib.hid (fun (W : World) (h : Below w1.heap.size w1 W) => HA.out.below (HBW.out.trans (h.mono HBW.out.size)))
  clear hQ
  go_wp2
  go_loopw [4, 3] (fun i lv wr => ∃ k : Nat, k ≤ n ∧ k ≤ 20 ∧ i = .int .i64 (k : Int) ∧ SRow wr w1.heap.size lv (tameL (la.take k)) ∧ Below w1.heap.size w1 wr) (fun i _ _ => n - (intOf i).toNat)
  case atStart => exact ⟨0, Nat.zero_le _, Nat.zero_le _, rfl, SRow.nil _ _, Below.refl _ _⟩
  case round =>
    obtain ⟨k, hk, hk2, rfl, hAR, hbr⟩ := hrel
    have hc18r := HC18.out wr hbr
    by_cases hlt : k < n
    · have hd : (k : Int) < (n : Int) := by omega
      by_cases h20 : k < 20
      · have hd2 : (k : Int) < 20 := by omega
        have hkr : k < la.length := by rw [HN.out]; exact hlt
        obtain ⟨gp, op, hAe, hgp, hrow⟩ := HA.out.2.2 (Nat.lt_of_le_of_lt (Nat.zero_le _) hkr)
        obtain ⟨h1, h2⟩ := hrow k hkr
        obtain ⟨kd, v, hkv⟩ : ∃ kd v, la.getD k (0, []) = (kd, v) := ⟨_, _, rfl⟩
        rw [hkv] at h1 h2
        have HD1 := Lib.hid (fun (W : World) (h : Below w1.heap.size w1 W) => (show W.cell? ⟨gp, op + k * 2, none⟩ = some (.int .i64 kd) from ((HBW.out.trans (h.mono HBW.out.size)).cell (p := ⟨gp, op + k * 2, none⟩) hgp).trans h1))
        have HD2 := Lib.hid (fun (W : World) (h : Below w1.heap.size w1 W) => (show W.cell? ⟨gp, op + k * 2 + 1, none⟩ = some (.string ⟨v.toArray⟩) from ((HBW.out.trans (h.mono HBW.out.size)).cell (p := ⟨gp, op + k * 2 + 1, none⟩) hgp).trans h2))
        obtain ⟨qm, hqm⟩ : ∃ qm, qm = min v.length 260 := ⟨_, rfl⟩
        have HQM := Lib.hid (take_minT v qm hqm)
        have HLL := Lib.hid (show (tameL (la.take k)).length + 1 ≤ 1000000 by unfold tameL; rw [List.length_map, List.length_take]; omega)
        have HTK := Lib.hid (show tameL (la.take (k + 1)) = tameL (la.take k) ++ [(kd, v.take 260)] by rw [take_snocA la k hkr, hkv, tameL_snoc])
        have HB := Lib.hid hbr
        have HAR := Lib.hid hAR
        have HK := Lib.hid (And.intro hkr h20)
        obtain ⟨hmin, hm1, hm2⟩ := ix_minT hqm
        obtain ⟨hk0, hkn, hkw⟩ := ix_at hlt HNM.out
        have HW := Lib.hid hkw
        subst hAe
        clear hrow h1 h2 hkv hbr hgp hkw hk hk2 hlt h20 hkr hAR hqm
        go_upto_region 5 with (fail)
        clear hd hd2 hc18r
        refine wp_region_noPanic ?_
        refine wp_region_held_drew (S := fun W => Below w1.heap.size w1 W) (by kernel_rfl) (by exact below_drewN HB.out 1) (fun hHeld => ?_)
        refine wpAnyH_take (i := 0) (oi := ⟨_, _, _, _, _, _⟩) (v := ?_) rfl (by kernel_rfl) (by kernel_rfl) (by kernel_rfl) (fun _ _ _ h => h) (Or.inl ⟨by rfl, ?_⟩) hHeld ?_
        rotate_left 1
        · (intro W hSw; (try dsimp only at hSw); go_simp; try with_reducible rfl)
        try simp only [Act.put, List.setIfInBounds_toArray, List.set_cons_zero, List.set_cons_succ]
        refine wpAnyH_take (i := 1) (oi := ⟨_, _, _, _, _, _⟩) (v := ?_) rfl (by kernel_rfl) (by kernel_rfl) (by kernel_rfl) (fun _ _ _ h => h) (Or.inl ⟨by rfl, ?_⟩) hHeld ?_
        rotate_left 1
        · (intro W hSw; (try dsimp only at hSw); go_simp; try with_reducible rfl)
        try simp only [Act.put, List.setIfInBounds_toArray, List.set_cons_zero, List.set_cons_succ]
        refine wpAnyH_take (i := 2) (oi := ⟨_, _, _, _, _, _⟩) (v := ?_) rfl (by kernel_rfl) (by kernel_rfl) (by kernel_rfl) (fun _ _ _ h => h) (Or.inl ⟨by rfl, ?_⟩) hHeld ?_
        rotate_left 1
        · (intro W hSw; (try dsimp only at hSw); have hcc := HC18.out W hSw; go_simp; try with_reducible rfl)
        try simp only [Act.put, List.setIfInBounds_toArray, List.set_cons_zero, List.set_cons_succ]
        refine wpAnyH_take (i := 3) (oi := ⟨_, _, _, _, _, _⟩) (v := ?_) rfl (by kernel_rfl) (by kernel_rfl) (by kernel_rfl) (fun _ _ _ h => h) (Or.inl ⟨by rfl, ?_⟩) hHeld ?_
        rotate_left 1
        · (intro W hSw; (try dsimp only at hSw); go_simp; try with_reducible rfl)
        try simp only [Act.put, List.setIfInBounds_toArray, List.set_cons_zero, List.set_cons_succ]
        refine wpAnyH_take (i := 4) (oi := ⟨_, _, _, _, _, _⟩) (v := ?_) rfl (by kernel_rfl) (by kernel_rfl) (by kernel_rfl) (fun _ _ _ h => h) (Or.inl ⟨by rfl, ?_⟩) hHeld ?_
        rotate_left 1
        · (intro W hSw; (try dsimp only at hSw); go_simp; try with_reducible rfl)
        try simp only [Act.put, List.setIfInBounds_toArray, List.set_cons_zero, List.set_cons_succ]
        refine wpAnyH_take (i := 5) (oi := ⟨_, _, _, _, _, _⟩) (v := ?_) rfl (by kernel_rfl) (by kernel_rfl) (by kernel_rfl) (fun _ _ _ h => h) (Or.inl ⟨by rfl, ?_⟩) hHeld ?_
        rotate_left 1
        · (intro W hSw; (try dsimp only at hSw); go_simp; try with_reducible rfl)
        try simp only [Act.put, List.setIfInBounds_toArray, List.set_cons_zero, List.set_cons_succ]
        refine wpAnyH_take (i := 6) (oi := ⟨_, _, _, _, _, _⟩) (v := ?_) rfl (by kernel_rfl) (by kernel_rfl) (by kernel_rfl) (fun _ _ _ h => h) (Or.inl ⟨by rfl, ?_⟩) hHeld ?_
        rotate_left 1
        · (intro W hSw; (try dsimp only at hSw); have hcc := HD1.out W hSw; go_simp; try with_reducible rfl)
        try simp only [Act.put, List.setIfInBounds_toArray, List.set_cons_zero, List.set_cons_succ]
        refine wpAnyH_take (i := 7) (oi := ⟨_, _, _, _, _, _⟩) (v := ?_) rfl (by kernel_rfl) (by kernel_rfl) (by kernel_rfl) (fun _ _ _ h => h) (Or.inl ⟨by rfl, ?_⟩) hHeld ?_
        rotate_left 1
        · (intro W hSw; (try dsimp only at hSw); go_simp; try with_reducible rfl)
        try simp only [Act.put, List.setIfInBounds_toArray, List.set_cons_zero, List.set_cons_succ]
        refine wpAnyH_take (i := 8) (oi := ⟨_, _, _, _, _, _⟩) (v := ?_) rfl (by kernel_rfl) (by kernel_rfl) (by kernel_rfl) (fun _ _ _ h => h) (Or.inl ⟨by rfl, ?_⟩) hHeld ?_
        rotate_left 1
        · (intro W hSw; (try dsimp only at hSw); have hcc := HC18.out W hSw; go_simp; try with_reducible rfl)
        try simp only [Act.put, List.setIfInBounds_toArray, List.set_cons_zero, List.set_cons_succ]
        refine wpAnyH_take (i := 9) (oi := ⟨_, _, _, _, _, _⟩) (v := ?_) rfl (by kernel_rfl) (by kernel_rfl) (by kernel_rfl) (fun _ _ _ h => h) (Or.inl ⟨by rfl, ?_⟩) hHeld ?_
        rotate_left 1
        · (intro W hSw; (try dsimp only at hSw); go_simp; try with_reducible rfl)
        try simp only [Act.put, List.setIfInBounds_toArray, List.set_cons_zero, List.set_cons_succ]
        refine wpAnyH_take (i := 10) (oi := ⟨_, _, _, _, _, _⟩) (v := ?_) rfl (by kernel_rfl) (by kernel_rfl) (by kernel_rfl) (fun _ _ _ h => h) (Or.inl ⟨by rfl, ?_⟩) hHeld ?_
        rotate_left 1
        · (intro W hSw; (try dsimp only at hSw); go_simp; try with_reducible rfl)
        try simp only [Act.put, List.setIfInBounds_toArray, List.set_cons_zero, List.set_cons_succ]
        refine wpAnyH_take (i := 11) (oi := ⟨_, _, _, _, _, _⟩) (v := ?_) rfl (by kernel_rfl) (by kernel_rfl) (by kernel_rfl) (fun _ _ _ h => h) (Or.inl ⟨by rfl, ?_⟩) hHeld ?_
        rotate_left 1
        · (intro W hSw; (try dsimp only at hSw); go_simp; try with_reducible rfl)
        try simp only [Act.put, List.setIfInBounds_toArray, List.set_cons_zero, List.set_cons_succ]
        refine wpAnyH_take (i := 12) (oi := ⟨_, _, _, _, _, _⟩) (v := ?_) rfl (by kernel_rfl) (by kernel_rfl) (by kernel_rfl) (fun _ _ _ h => h) (Or.inl ⟨by rfl, ?_⟩) hHeld ?_
        rotate_left 1
        · (intro W hSw; (try dsimp only at hSw); have hcc := HD2.out W hSw; go_simp; try with_reducible rfl)
        try simp only [Act.put, List.setIfInBounds_toArray, List.set_cons_zero, List.set_cons_succ]
        refine wpAnyH_take (i := 13) (oi := ⟨_, _, _, _, _, _⟩) (v := ?_) rfl (by kernel_rfl) (by kernel_rfl) (by kernel_rfl) (fun _ _ _ h => h) (Or.inl ⟨by rfl, ?_⟩) hHeld ?_
        rotate_left 1
        · (intro W hSw; (try dsimp only at hSw); go_simp; try with_reducible rfl)
        try simp only [Act.put, List.setIfInBounds_toArray, List.set_cons_zero, List.set_cons_succ]
        refine wpAnyH_take (i := 14) (oi := ⟨_, _, _, _, _, _⟩) (v := ?_) rfl (by kernel_rfl) (by kernel_rfl) (by kernel_rfl) (fun _ _ _ h => h) (Or.inl ⟨by rfl, ?_⟩) hHeld ?_
        rotate_left 1
        · (intro W hSw; (try dsimp only at hSw); have hcc := HC18.out W hSw; go_simp; try with_reducible rfl)
        try simp only [Act.put, List.setIfInBounds_toArray, List.set_cons_zero, List.set_cons_succ]
        refine wpAnyH_take (i := 15) (oi := ⟨_, _, _, _, _, _⟩) (v := ?_) rfl (by kernel_rfl) (by kernel_rfl) (by kernel_rfl) (fun _ _ _ h => h) (Or.inl ⟨by rfl, ?_⟩) hHeld ?_
        rotate_left 1
        · (intro W hSw; (try dsimp only at hSw); go_simp; try with_reducible rfl)
        try simp only [Act.put, List.setIfInBounds_toArray, List.set_cons_zero, List.set_cons_succ]
        refine wpAnyH_take (i := 16) (oi := ⟨_, _, _, _, _, _⟩) (v := ?_) rfl (by kernel_rfl) (by kernel_rfl) (by kernel_rfl) (fun _ _ _ h => h) (Or.inl ⟨by rfl, ?_⟩) hHeld ?_
        rotate_left 1
        · (intro W hSw; (try dsimp only at hSw); go_simp; try with_reducible rfl)
        try simp only [Act.put, List.setIfInBounds_toArray, List.set_cons_zero, List.set_cons_succ]
        refine wpAnyH_take (i := 17) (oi := ⟨_, _, _, _, _, _⟩) (v := ?_) rfl (by kernel_rfl) (by kernel_rfl) (by kernel_rfl) (fun _ _ _ h => h) (Or.inl ⟨by rfl, ?_⟩) hHeld ?_
        rotate_left 1
        · (intro W hSw; (try dsimp only at hSw); go_simp; try with_reducible rfl)
        try simp only [Act.put, List.setIfInBounds_toArray, List.set_cons_zero, List.set_cons_succ]
        refine wpAnyH_take (i := 18) (oi := ⟨_, _, _, _, _, _⟩) (v := ?_) rfl (by kernel_rfl) (by kernel_rfl) (by kernel_rfl) (fun _ _ _ h => h) (Or.inl ⟨by rfl, ?_⟩) hHeld ?_
        rotate_left 1
        · (intro W hSw; (try dsimp only at hSw); have hcc := HD2.out W hSw; go_simp; try with_reducible rfl)
        try simp only [Act.put, List.setIfInBounds_toArray, List.set_cons_zero, List.set_cons_succ]
        refine wpAnyH_take (i := 19) (oi := ⟨_, _, _, _, _, _⟩) (v := ?_) rfl (by kernel_rfl) (by kernel_rfl) (by kernel_rfl) (fun _ _ _ h => h) (Or.inl ⟨by rfl, ?_⟩) hHeld ?_
        rotate_left 1
        · (intro W hSw; (try dsimp only at hSw); go_simp; try with_reducible rfl)
        try simp only [Act.put, List.setIfInBounds_toArray, List.set_cons_zero, List.set_cons_succ]
        refine wpAnyH_take (i := 20) (oi := ⟨_, _, _, _, _, _⟩) (v := ?_) rfl (by kernel_rfl) (by kernel_rfl) (by kernel_rfl) (fun _ _ _ h => h) (Or.inl ⟨by rfl, ?_⟩) hHeld ?_
        rotate_left 1
        · (intro W hSw; (try dsimp only at hSw); go_simp; try with_reducible rfl)
        try simp only [Act.put, List.setIfInBounds_toArray, List.set_cons_zero, List.set_cons_succ]
        refine wpAnyH_take (i := 21) (oi := ⟨_, _, _, _, _, _⟩) (v := .string ⟨(v.take 260).toArray⟩) rfl (by kernel_rfl) (by kernel_rfl) (by kernel_rfl) (fun _ _ _ h => h) (Or.inl ⟨by rfl, ?_⟩) hHeld ?_
        · (intro W hSw; have hx1 := extract_toR v qm; rw [HQM.out] at hx1; go_simp)
        try simp only [Act.put, List.setIfInBounds_toArray, List.set_cons_zero, List.set_cons_succ]
        refine wpAnyH_take (i := 22) (oi := ⟨_, _, _, _, _, _⟩) (v := ?_) rfl (by kernel_rfl) (by kernel_rfl) (by kernel_rfl) (fun _ _ _ h => h) (Or.inl ⟨by rfl, ?_⟩) hHeld ?_
        rotate_left 1
        · (intro W hSw; (try dsimp only at hSw); go_simp; try with_reducible rfl)
        try simp only [Act.put, List.setIfInBounds_toArray, List.set_cons_zero, List.set_cons_succ]
        replace hHeld : Below w1.heap.size w1 wr.drew := hHeld
        have hWd : Below wr.heap.size wr wr.drew := below_drewN (Below.refl _ _) 1
        generalize wr.drew = wd at *
        refine wpAnyH_ready (rs := [23]) (by kernel_rfl) (by simp) ?_
        refine AllReadyH.cons (o := ⟨_, _, _, _, _, _⟩) rfl (fun K hK => ?_) AllReadyH.nil
        go_simp
        have hal : Below wd.heap.size wd (wd.alloc (.cells #[.int .i64 kd, .string ⟨(v.take 260).toArray⟩] 62)) := (Below.refl _ _).alloc (Nat.le_refl _) _
        have hBk := Blk.new_of wd 62 #[.int .i64 kd, .string ⟨(v.take 260).toArray⟩] [.int .i64 kd, .string ⟨(v.take 260).toArray⟩] rfl
        have hW6 := hWd.trans (hal.mono hWd.size)
        refine hK.out _ _ (hHeld.trans (hal.mono hHeld.size)) (fun hHeld => ?_)
        replace hHeld : Below w1.heap.size w1 (wd.alloc (.cells #[.int .i64 kd, .string ⟨(v.take 260).toArray⟩] 62)) := hHeld
        clear hK K hal hWd
        generalize wd.heap.size = g6 at *
        generalize wd.alloc (.cells #[.int .i64 kd, .string ⟨(v.take 260).toArray⟩] 62) = w6 at *
        try simp only [Act.put, List.setIfInBounds_toArray, List.set_cons_zero, List.set_cons_succ]
        refine wpAnyH_ready (rs := [24]) (by kernel_rfl) (by simp) ?_
        refine AllReadyH.cons (o := ⟨_, _, _, _, _, _⟩) rfl (fun K hK => ?_) AllReadyH.nil
        refine step_append_s rfl (.tmp 16) (.tmp 39) rfl w1.heap.size u3 (tameL (la.take k)) kd (v.take 260) g6 rfl (HAR.out.below hW6) hHeld.size rfl hBk HLL.out ?_
        intro v7 w7 hS7 hg7
        have HS7 := Lib.hid hS7
        have hHeld7 := row_belowS hHeld (HAR.out.below hW6) hg7
        have HB7 := Lib.hid hHeld7
        refine hK.out _ _ hHeld7 (fun hHeld => ?_)
        clear hK K hS7 hg7 hBk hW6 hHeld7
        try simp only [Act.put, List.setIfInBounds_toArray, List.set_cons_zero, List.set_cons_succ]
        refine wpAnyH_take (i := 25) (oi := ⟨_, _, _, _, _, _⟩) (v := ?_) rfl (by kernel_rfl) (by kernel_rfl) (by kernel_rfl) (fun _ _ _ h => h) (Or.inl ⟨by rfl, ?_⟩) hHeld ?_
        rotate_left 1
        · (intro W hSw; (try dsimp only at hSw); go_simp; try with_reducible rfl)
        try simp only [Act.put, List.setIfInBounds_toArray, List.set_cons_zero, List.set_cons_succ]
        refine wpAnyH_done (by kernel_rfl) ?_ _
        refine NoPanic.normal ?_
        clear hHeld
        go_wp2
        go_roundw
        case rel => exact ⟨k + 1, (by have := HK.out.1; have := HN.out; omega), (by have := HK.out.2; omega), by rw [HW.out], by rw [HTK.out]; exact HS7.out, HB7.out⟩
        case measure => exact ix_meas2 HK.out.1 HN.out HNM.out
      · have hd2 : ¬ (k : Int) < 20 := by omega
        have hfin : tameL (la.take k) = tameA la := by unfold tameA; rw [show k = 20 by omega]
        rw [hfin] at hAR
        clear hfin hk hk2 hlt h20
        have HAR := Lib.hid hAR
        obtain ⟨A5, c5, hv5, _⟩ := HAR.out.slice
        obtain ⟨m5, hm5⟩ : ∃ m5, (tameA la).length = m5 := ⟨_, rfl⟩
        rw [hm5] at hv5
        subst hv5
        have HB := Lib.hid hbr
        have hP5 := HP.out.below hbr HP.out.lt
        have hc18 : wr.cell? ⟨g, 18, none⟩ = some (.slice A n c) := HC18.out wr hbr
        have hf18 := hP5.frozen 18
        clear hAR hbr hm5 hP5
        go_upto_region 7 with (fail)
        have hP7 := (HP.out.below HB.out HP.out.lt).set_ 18 (.slice A5 m5 c5)
        rw [pkC_set _ _ _ _ _ _ _ _ _ HQ.out] at hP7
        have hg7 : wr.grownBy (wr.setCell ⟨g, 18, none⟩ (.slice A5 m5 c5)) (some g) := grown_setCell (grown_refl wr _) (.inl rfl) _
        have HR7 := Lib.hid ((HR.out.below HB.out HR.out.lt).grown hg7 (fun e => by have := HG.out.2; injection e with e; omega))
        have hS7 : SRow (wr.setCell ⟨g, 18, none⟩ (.slice A5 m5 c5)) w1.heap.size (.slice A5 m5 c5) (tameA la) := HAR.out.grown hg7 HP.out.lt
        have HS7 := Lib.hid hS7
        have HB7 := Lib.hid ((HBW.out.trans (HB.out.mono HBW.out.size)).setCell (p := ⟨g, 18, none⟩) HG.out.1 (.slice A5 m5 c5))
        clear hc18 hf18 hg7 hS7
        generalize wr.setCell ⟨g, 18, none⟩ (.slice A5 m5 c5) = w7 at *
        go_wp2_with (first
          | ((with_reducible refine (?_ : wpList _ _ _ (Oper.mk (some 43) _ _ _ _ _ :: _) _ _)); go_loud (refine wpList_load_blk rfl 25 (.tmp 1) rfl g rfl _ _ _ (hP7) Tryd.underlying25 rfl (infRP.trans (by rw [pkC_length _ _ _ _ _ _ HQ.out])) ?_))
          | ((with_reducible refine (?_ : wpList _ _ _ (Oper.mk none _ _ _ _ _ :: _) _ _)); go_loud (refine wpList_store_blk rfl 25 (.tmp 2) (.tmp 43) rfl rfl gr (pkC code id Q A5 m5 c5) rfl rfl _ _ (HR7.out) (infRP.trans (by rw [pkC_length _ _ _ _ _ _ HQ.out])) (by rw [pkC_length _ _ _ _ _ _ HQ.out]; rfl) (pk_one _ _ _ _ _ _) ?_); intro wz hPz hgz))
        refine bodyPost_ret (v := .agg _) (results_cell_row rfl _ _ gr 25 _ (0, 0) _ rfl hPz.raw Tryd.underlying25 rfl (infRP.trans (by rw [List.size_toArray, pkC_length _ _ _ _ _ _ HQ.out]))) rfl ?_
        refine ⟨A5, m5, c5, rfl, ?_, below_new HB7.out hgz (Nat.le_trans HG.out.1 (Nat.le_of_lt HG.out.2)) HB7.out.size⟩
        exact (HS7.out.grown hgz HR.out.lt).base HBW.out.size
    · have hd : ¬ (k : Int) < (n : Int) := by omega
      have hfin : tameL (la.take k) = tameA la := by
        have hn := HN.out
        unfold tameA
        rw [List.take_of_length_le (by omega), List.take_of_length_le (by omega)]
      rw [hfin] at hAR
      clear hfin hk hk2 hlt
      have HAR := Lib.hid hAR
      obtain ⟨A5, c5, hv5, _⟩ := HAR.out.slice
      obtain ⟨m5, hm5⟩ : ∃ m5, (tameA la).length = m5 := ⟨_, rfl⟩
      rw [hm5] at hv5
      subst hv5
      have HB := Lib.hid hbr
      have hP5 := HP.out.below hbr HP.out.lt
      have hc18 : wr.cell? ⟨g, 18, none⟩ = some (.slice A n c) := HC18.out wr hbr
      have hf18 := hP5.frozen 18
      clear hAR hbr hm5 hP5
      go_upto_region 7 with (fail)
      have hP7 := (HP.out.below HB.out HP.out.lt).set_ 18 (.slice A5 m5 c5)
      rw [pkC_set _ _ _ _ _ _ _ _ _ HQ.out] at hP7
      have hg7 : wr.grownBy (wr.setCell ⟨g, 18, none⟩ (.slice A5 m5 c5)) (some g) := grown_setCell (grown_refl wr _) (.inl rfl) _
      have HR7 := Lib.hid ((HR.out.below HB.out HR.out.lt).grown hg7 (fun e => by have := HG.out.2; injection e with e; omega))
      have hS7 : SRow (wr.setCell ⟨g, 18, none⟩ (.slice A5 m5 c5)) w1.heap.size (.slice A5 m5 c5) (tameA la) := HAR.out.grown hg7 HP.out.lt
      have HS7 := Lib.hid hS7
      have HB7 := Lib.hid ((HBW.out.trans (HB.out.mono HBW.out.size)).setCell (p := ⟨g, 18, none⟩) HG.out.1 (.slice A5 m5 c5))
      clear hc18 hf18 hg7 hS7
      generalize wr.setCell ⟨g, 18, none⟩ (.slice A5 m5 c5) = w7 at *
      go_wp2_with (first
        | ((with_reducible refine (?_ : wpList _ _ _ (Oper.mk (some 43) _ _ _ _ _ :: _) _ _)); go_loud (refine wpList_load_blk rfl 25 (.tmp 1) rfl g rfl _ _ _ (hP7) Tryd.underlying25 rfl (infRP.trans (by rw [pkC_length _ _ _ _ _ _ HQ.out])) ?_))
        | ((with_reducible refine (?_ : wpList _ _ _ (Oper.mk none _ _ _ _ _ :: _) _ _)); go_loud (refine wpList_store_blk rfl 25 (.tmp 2) (.tmp 43) rfl rfl gr (pkC code id Q A5 m5 c5) rfl rfl _ _ (HR7.out) (infRP.trans (by rw [pkC_length _ _ _ _ _ _ HQ.out])) (by rw [pkC_length _ _ _ _ _ _ HQ.out]; rfl) (pk_one _ _ _ _ _ _) ?_); intro wz hPz hgz))
      refine bodyPost_ret (v := .agg _) (results_cell_row rfl _ _ gr 25 _ (0, 0) _ rfl hPz.raw Tryd.underlying25 rfl (infRP.trans (by rw [List.size_toArray, pkC_length _ _ _ _ _ _ HQ.out]))) rfl ?_
      refine ⟨A5, m5, c5, rfl, ?_, below_new HB7.out hgz (Nat.le_trans HG.out.1 (Nat.le_of_lt HG.out.2)) HB7.out.size⟩
      exact (HS7.out.grown hgz HR.out.lt).base HBW.out.size
theorem pk_range {w : World} {g n c : Nat} {t : TypeId} {code id : Int} {Q : List UInt8} {A : Option Addr} (h : Blk w g t (pkC code id Q A n c)) (_hQ : Q.length = 16) : w.rangeAt g 2 (Q.map B8) := fun j v hv => by
  rw [h.cell, ← hv]
  have hj : j < Q.length := by have := (List.getElem?_eq_some_iff.1 hv).1; simpa using this
  show (Value.int .i64 code :: Value.int .i64 id :: (Q.map B8 ++ [Value.slice A n c]))[2 + j]? = _
  rw [show 2 + j = (j + 1) + 1 by omega, List.getElem?_cons_succ, List.getElem?_cons_succ, List.getElem?_append_left (by simpa using hj)]
set_option maxRecDepth 100000 in
set_option maxHeartbeats 1000000 in
theorem to_e (code id : Int) (Q : List UInt8) (A : Option Addr) (c n : Nat) (la : Attrs) (w : World) (hQ : Q.length = 16) (hn : la.length = n) (hA : SIn w w.heap.size A c la) (hm : n ≤ 400000) (hv : ∀ j, j < la.length → (la.getD j (0, [])).2.length ≤ 1000000) :
    Calls Tryd.prog 12 #[.agg (pkC code id Q A n c).toArray] w (PkA code id Q la w) := by
  have HCL := Lib.hid (fun (W : World) (hb : Below w.heap.size w W) => attrs_e A c n la W hn (hA.up hb) (by omega) (fun j hj => Nat.le_trans (hv j hj) (by decide)))
  unfold SaidAPost at HCL
  have HQ := Lib.hid hQ
  have HN := Lib.hid hn
  clear hn hA hm
  go_enter Tryd.func12, Tryd.ntmps12
  go_upto_region 1 with (fail)
  have hP := (Blk.new_of w 25 (pkC code id Q A n c).toArray (pkC code id Q A n c) rfl).alloc (.cells #[.int .i64 0, .int .i64 0, .int .u8 0, .int .u8 0, .int .u8 0, .int .u8 0, .int .u8 0, .int .u8 0, .int .u8 0, .int .u8 0, .int .u8 0, .int .u8 0, .int .u8 0, .int .u8 0, .int .u8 0, .int .u8 0, .int .u8 0, .int .u8 0, .slice none 0 0] 30)
  have hR := Blk.new2_of w (.cells (pkC code id Q A n c).toArray 25) 30 #[.int .i64 0, .int .i64 0, .int .u8 0, .int .u8 0, .int .u8 0, .int .u8 0, .int .u8 0, .int .u8 0, .int .u8 0, .int .u8 0, .int .u8 0, .int .u8 0, .int .u8 0, .int .u8 0, .int .u8 0, .int .u8 0, .int .u8 0, .int .u8 0, .slice none 0 0] (pkC 0 0 zQ none 0 0) rfl
  have hb0 : Below w.heap.size w ((w.alloc (.cells (pkC code id Q A n c).toArray 25)).alloc (.cells #[.int .i64 0, .int .i64 0, .int .u8 0, .int .u8 0, .int .u8 0, .int .u8 0, .int .u8 0, .int .u8 0, .int .u8 0, .int .u8 0, .int .u8 0, .int .u8 0, .int .u8 0, .int .u8 0, .int .u8 0, .int .u8 0, .int .u8 0, .int .u8 0, .slice none 0 0] 30)) := ((Below.refl _ _).alloc (Nat.le_refl _) _).alloc (by simp) _
  obtain ⟨gr, hgr⟩ : ∃ gr, gr = w.heap.size + 1 := ⟨_, rfl⟩
  obtain ⟨g, hg⟩ : ∃ g, g = w.heap.size := ⟨_, rfl⟩
  have HG := Lib.hid (show w.heap.size ≤ g ∧ g < gr by omega)
  rw [← hgr] at hR
  rw [← hg] at hP
  simp only [← hgr]
  clear hgr
  simp only [← hg]
  have HP := Lib.hid hP
  have HR := Lib.hid hR
  have HBW := Lib.hid hb0
  clear hg hP hR hb0
  generalize (w.alloc (.cells (pkC code id Q A n c).toArray 25)).alloc (.cells #[.int .i64 0, .int .i64 0, .int .u8 0, .int .u8 0, .int .u8 0, .int .u8 0, .int .u8 0, .int .u8 0, .int .u8 0, .int .u8 0, .int .u8 0, .int .u8 0, .int .u8 0, .int .u8 0, .int .u8 0, .int .u8 0, .int .u8 0, .int .u8 0, .slice none 0 0] 30) = w1 at *
  have HC0 := Lib.hid (fun (W : World) (h : Below w1.heap.size w1 W) => (show W.cell? ⟨g, 0, none⟩ = some (.int .i64 code) from (HP.out.below h HP.out.lt).cell 0))
  have HC1 := Lib.hid (fun (W : World) (h : Below w1.heap.size w1 W) => (show W.cell? ⟨g, 1, none⟩ = some (.int .i64 id) from (HP.out.below h HP.out.lt).cell 1))
  have HC18 := Lib.hid (fun (W : World) (h : Below w1.heap.size w1 W) => (show W.cell? ⟨g, 18, none⟩ = some (.slice A n c) from ((HP.out.below h HP.out.lt).cell 18).trans (pkC_last code id Q A n c HQ.out)))
  have HCQ := Lib.hid (fun (W : World) (h : Below w1.heap.size w1 W) => (show W.rangeAt g 2 (Q.map B8) from pk_range (HP.out.below h HP.out.lt) HQ.out))
  clear hQ
  refine wp_region_noPanic ?_
  refine wp_region_but (S := fun W => Below w1.heap.size w1 W) 10 (by kernel_rfl) (by exact below_drewN (Below.refl _ _) 1) (fun hHeld => ?_)
  refine but_take (i := 0) (oi := ⟨_, _, _, _, _, _⟩) (v := ?_) rfl (by kernel_rfl) (by kernel_rfl) (by kernel_rfl) (by kernel_rfl) (fun _ _ _ h => h) (Or.inl ⟨by rfl, ?_⟩) hHeld ?_
  rotate_left 1
  · (intro W hSw; (try dsimp only at hSw); go_simp; try with_reducible rfl)
  try simp only [Act.put, List.setIfInBounds_toArray, List.set_cons_zero, List.set_cons_succ]
  refine but_take (i := 1) (oi := ⟨_, _, _, _, _, _⟩) (v := ?_) rfl (by kernel_rfl) (by kernel_rfl) (by kernel_rfl) (by kernel_rfl) (fun _ _ _ h => h) (Or.inl ⟨by rfl, ?_⟩) hHeld ?_
  rotate_left 1
  · (intro W hSw; (try dsimp only at hSw); have hcc := HC0.out W hSw; go_simp; try with_reducible rfl)
  try simp only [Act.put, List.setIfInBounds_toArray, List.set_cons_zero, List.set_cons_succ]
  refine but_take (i := 2) (oi := ⟨_, _, _, _, _, _⟩) (v := ?_) rfl (by kernel_rfl) (by kernel_rfl) (by kernel_rfl) (by kernel_rfl) (fun _ _ _ h => h) (Or.inl ⟨by rfl, ?_⟩) hHeld ?_
  rotate_left 1
  · (intro W hSw; (try dsimp only at hSw); go_simp; try with_reducible rfl)
  try simp only [Act.put, List.setIfInBounds_toArray, List.set_cons_zero, List.set_cons_succ]
  refine but_take (i := 3) (oi := ⟨_, _, _, _, _, _⟩) (v := ?_) rfl (by kernel_rfl) (by kernel_rfl) (by kernel_rfl) (by kernel_rfl) (fun _ _ _ h => h) (Or.inl ⟨by rfl, ?_⟩) hHeld ?_
  rotate_left 1
  · (intro W hSw; (try dsimp only at hSw); have hcc := HC1.out W hSw; go_simp; try with_reducible rfl)
  try simp only [Act.put, List.setIfInBounds_toArray, List.set_cons_zero, List.set_cons_succ]
  refine but_take (i := 4) (oi := ⟨_, _, _, _, _, _⟩) (v := ?_) rfl (by kernel_rfl) (by kernel_rfl) (by kernel_rfl) (by kernel_rfl) (fun _ _ _ h => h) (Or.inl ⟨by rfl, ?_⟩) hHeld ?_
  rotate_left 1
  · (intro W hSw; (try dsimp only at hSw); go_simp; try with_reducible rfl)
  try simp only [Act.put, List.setIfInBounds_toArray, List.set_cons_zero, List.set_cons_succ]
  refine' but_take (i := 5) (oi := ⟨_, _, _, _, _, _⟩) rfl (by kernel_rfl) (by kernel_rfl) (by kernel_rfl) (by kernel_rfl) (fun _ _ _ h => h) (yieldsIf_load_mid (by rfl) 22 _ rfl g (2) rfl (Q.map B8) _ (fun W h => HCQ.out W h) Tryd.underlying22 rfl (inf16.trans (by rw [List.length_map, HQ.out]))) hHeld ?_
  try simp only [Act.put, List.setIfInBounds_toArray, List.set_cons_zero, List.set_cons_succ]
  refine but_take (i := 6) (oi := ⟨_, _, _, _, _, _⟩) (v := ?_) rfl (by kernel_rfl) (by kernel_rfl) (by kernel_rfl) (by kernel_rfl) (fun _ _ _ h => h) (Or.inl ⟨by rfl, ?_⟩) hHeld ?_
  rotate_left 1
  · (intro W hSw; (try dsimp only at hSw); go_simp; try with_reducible rfl)
  try simp only [Act.put, List.setIfInBounds_toArray, List.set_cons_zero, List.set_cons_succ]
  refine but_take (i := 7) (oi := ⟨_, _, _, _, _, _⟩) (v := ?_) rfl (by kernel_rfl) (by kernel_rfl) (by kernel_rfl) (by kernel_rfl) (fun _ _ _ h => h) (Or.inl ⟨by rfl, ?_⟩) hHeld ?_
  rotate_left 1
  · (intro W hSw; (try dsimp only at hSw); have hcc := HC18.out W hSw; go_simp; try with_reducible rfl)
  try simp only [Act.put, List.setIfInBounds_toArray, List.set_cons_zero, List.set_cons_succ]
  replace hHeld : Below w1.heap.size w1 w1.drew := hHeld
  generalize w1.drew = wd at *
  refine but_ready (i := 8) (o := ⟨_, _, _, _, _, _⟩) (by kernel_rfl) rfl (fun K hK => ?_)
  go_simp
  go_at_call 32
  refine (HCL.out _ (HBW.out.trans (hHeld.mono HBW.out.size))).mono ?_
  rintro e w3 ⟨v, rfl, hAR, hb3⟩
  try go_wp2_with fail
  have HAR := Lib.hid hAR
  obtain ⟨A3, c3, hv, _⟩ := HAR.out.slice
  rw [HN.out] at hv
  subst hv
  have hszx := hHeld.size
  have HZX := Lib.hid hszx
  refine hK.out _ _ (hHeld.trans (hb3.mono hszx)) (fun hHeld => ?_)
  clear hK K hb3 hAR hszx
  try simp only [Act.put, List.setIfInBounds_toArray, List.set_cons_zero, List.set_cons_succ]
  refine but_take (i := 9) (oi := ⟨_, _, _, _, _, _⟩) (v := .agg (pkC code id Q A3 n c3).toArray) rfl (by kernel_rfl) (by kernel_rfl) (by kernel_rfl) (by kernel_rfl) (fun _ _ _ h => h) (Or.inl ⟨by rfl, ?_⟩) hHeld ?_
  · (intro W hSw; have hql := HQ.out; have hfo := pk_fold code id Q hql; have hsz := pk_sz code id Q hql; have hse := fun (A : Option Addr) (n c : Nat) => pk_set code id Q hql (A := A) (n := n) (c := c); go_simp)
  try simp only [Act.put, List.setIfInBounds_toArray, List.set_cons_zero, List.set_cons_succ]
  replace hHeld : Below w1.heap.size w1 w3 := hHeld
  refine but_last (o := ⟨_, _, _, _, _, _⟩) (by kernel_rfl) rfl (by kernel_rfl) (fun K hK => ?_)
  refine step_store_blk rfl 30 (.tmp 2) (.tmp 12) rfl rfl gr (pkC code id Q A3 n c3) rfl rfl 30 _ (HR.out.below hHeld HR.out.lt) (infPk.trans (by rw [pkC_length _ _ _ _ _ _ HQ.out])) (by rw [pkC_length _ _ _ _ _ _ HQ.out]; rfl) (pk_one _ _ _ _ _ _) ?_
  intro w5 hP5 hg5
  refine hK.out _ _ ?_
  clear hK K
  refine NoPanic.normal ?_
  have hbw := HBW.out.trans (hHeld.mono HBW.out.size)
  have hb5 : Below w.heap.size w w5 := below_new hbw hg5 (Nat.le_trans HG.out.1 (Nat.le_of_lt HG.out.2)) hbw.size
  have hlt5 : gr < wd.heap.size := Nat.lt_of_lt_of_le HR.out.lt HZX.out
  have HAR5 := Lib.hid ((HAR.out.grown hg5 hlt5).base (Nat.le_trans HBW.out.size HZX.out))
  go_wp2
  refine bodyPost_ret (v := .agg _) (results_cell_row rfl _ _ gr 30 _ (0, 0) _ rfl hP5.raw Tryd.underlying30 rfl (infPk.trans (by rw [List.size_toArray, pkC_length _ _ _ _ _ _ HQ.out]))) rfl ⟨A3, n, c3, rfl, HAR5.out, hb5⟩
set_option maxRecDepth 100000 in
set_option maxHeartbeats 1000000 in
theorem from_e (code id : Int) (Q : List UInt8) (A : Option Addr) (c n : Nat) (la : Attrs) (w : World) (hQ : Q.length = 16) (hn : la.length = n) (hA : AIn w w.heap.size A c la) (hm : n ≤ 400000) :
    Calls Tryd.prog 17 #[.agg (pkC code id Q A n c).toArray] w (PkS code id Q la w) := by
  have HCL := Lib.hid (fun (W : World) (hb : Below w.heap.size w W) => told_e A c n la W hn (hA.up hb) (by omega))
  have HQ := Lib.hid hQ
  have HN := Lib.hid hn
  clear hn hA hm
  go_enter Tryd.func17, Tryd.ntmps17
  go_upto_region 1 with (fail)
  have hP := (Blk.new_of w 30 (pkC code id Q A n c).toArray (pkC code id Q A n c) rfl).alloc (.cells #[.int .i64 0, .int .i64 0, .int .u8 0, .int .u8 0, .int .u8 0, .int .u8 0, .int .u8 0, .int .u8 0, .int .u8 0, .int .u8 0, .int .u8 0, .int .u8 0, .int .u8 0, .int .u8 0, .int .u8 0, .int .u8 0, .int .u8 0, .int .u8 0, .slice none 0 0] 25)
  have hR := Blk.new2_of w (.cells (pkC code id Q A n c).toArray 30) 25 #[.int .i64 0, .int .i64 0, .int .u8 0, .int .u8 0, .int .u8 0, .int .u8 0, .int .u8 0, .int .u8 0, .int .u8 0, .int .u8 0, .int .u8 0, .int .u8 0, .int .u8 0, .int .u8 0, .int .u8 0, .int .u8 0, .int .u8 0, .int .u8 0, .slice none 0 0] (pkC 0 0 zQ none 0 0) rfl
  have hb0 : Below w.heap.size w ((w.alloc (.cells (pkC code id Q A n c).toArray 30)).alloc (.cells #[.int .i64 0, .int .i64 0, .int .u8 0, .int .u8 0, .int .u8 0, .int .u8 0, .int .u8 0, .int .u8 0, .int .u8 0, .int .u8 0, .int .u8 0, .int .u8 0, .int .u8 0, .int .u8 0, .int .u8 0, .int .u8 0, .int .u8 0, .int .u8 0, .slice none 0 0] 25)) := ((Below.refl _ _).alloc (Nat.le_refl _) _).alloc (by simp) _
  obtain ⟨gr, hgr⟩ : ∃ gr, gr = w.heap.size + 1 := ⟨_, rfl⟩
  obtain ⟨g, hg⟩ : ∃ g, g = w.heap.size := ⟨_, rfl⟩
  have HG := Lib.hid (show w.heap.size ≤ g ∧ g < gr by omega)
  rw [← hgr] at hR
  rw [← hg] at hP
  simp only [← hgr]
  clear hgr
  simp only [← hg]
  have HP := Lib.hid hP
  have HR := Lib.hid hR
  have HBW := Lib.hid hb0
  clear hg hP hR hb0
  generalize (w.alloc (.cells (pkC code id Q A n c).toArray 30)).alloc (.cells #[.int .i64 0, .int .i64 0, .int .u8 0, .int .u8 0, .int .u8 0, .int .u8 0, .int .u8 0, .int .u8 0, .int .u8 0, .int .u8 0, .int .u8 0, .int .u8 0, .int .u8 0, .int .u8 0, .int .u8 0, .int .u8 0, .int .u8 0, .int .u8 0, .slice none 0 0] 25) = w1 at *
  have HC0 := Lib.hid (fun (W : World) (h : Below w1.heap.size w1 W) => (show W.cell? ⟨g, 0, none⟩ = some (.int .i64 code) from (HP.out.below h HP.out.lt).cell 0))
  have HC1 := Lib.hid (fun (W : World) (h : Below w1.heap.size w1 W) => (show W.cell? ⟨g, 1, none⟩ = some (.int .i64 id) from (HP.out.below h HP.out.lt).cell 1))
  have HC18 := Lib.hid (fun (W : World) (h : Below w1.heap.size w1 W) => (show W.cell? ⟨g, 18, none⟩ = some (.slice A n c) from ((HP.out.below h HP.out.lt).cell 18).trans (pkC_last code id Q A n c HQ.out)))
  have HCQ := Lib.hid (fun (W : World) (h : Below w1.heap.size w1 W) => (show W.rangeAt g 2 (Q.map B8) from pk_range (HP.out.below h HP.out.lt) HQ.out))
  clear hQ
  refine wp_region_noPanic ?_
  refine wp_region_but (S := fun W => Below w1.heap.size w1 W) 10 (by kernel_rfl) (by exact below_drewN (Below.refl _ _) 1) (fun hHeld => ?_)
  refine but_take (i := 0) (oi := ⟨_, _, _, _, _, _⟩) (v := ?_) rfl (by kernel_rfl) (by kernel_rfl) (by kernel_rfl) (by kernel_rfl) (fun _ _ _ h => h) (Or.inl ⟨by rfl, ?_⟩) hHeld ?_
  rotate_left 1
  · (intro W hSw; (try dsimp only at hSw); go_simp; try with_reducible rfl)
  try simp only [Act.put, List.setIfInBounds_toArray, List.set_cons_zero, List.set_cons_succ]
  refine but_take (i := 1) (oi := ⟨_, _, _, _, _, _⟩) (v := ?_) rfl (by kernel_rfl) (by kernel_rfl) (by kernel_rfl) (by kernel_rfl) (fun _ _ _ h => h) (Or.inl ⟨by rfl, ?_⟩) hHeld ?_
  rotate_left 1
  · (intro W hSw; (try dsimp only at hSw); have hcc := HC0.out W hSw; go_simp; try with_reducible rfl)
  try simp only [Act.put, List.setIfInBounds_toArray, List.set_cons_zero, List.set_cons_succ]
  refine but_take (i := 2) (oi := ⟨_, _, _, _, _, _⟩) (v := ?_) rfl (by kernel_rfl) (by kernel_rfl) (by kernel_rfl) (by kernel_rfl) (fun _ _ _ h => h) (Or.inl ⟨by rfl, ?_⟩) hHeld ?_
  rotate_left 1
  · (intro W hSw; (try dsimp only at hSw); go_simp; try with_reducible rfl)
  try simp only [Act.put, List.setIfInBounds_toArray, List.set_cons_zero, List.set_cons_succ]
  refine but_take (i := 3) (oi := ⟨_, _, _, _, _, _⟩) (v := ?_) rfl (by kernel_rfl) (by kernel_rfl) (by kernel_rfl) (by kernel_rfl) (fun _ _ _ h => h) (Or.inl ⟨by rfl, ?_⟩) hHeld ?_
  rotate_left 1
  · (intro W hSw; (try dsimp only at hSw); have hcc := HC1.out W hSw; go_simp; try with_reducible rfl)
  try simp only [Act.put, List.setIfInBounds_toArray, List.set_cons_zero, List.set_cons_succ]
  refine but_take (i := 4) (oi := ⟨_, _, _, _, _, _⟩) (v := ?_) rfl (by kernel_rfl) (by kernel_rfl) (by kernel_rfl) (by kernel_rfl) (fun _ _ _ h => h) (Or.inl ⟨by rfl, ?_⟩) hHeld ?_
  rotate_left 1
  · (intro W hSw; (try dsimp only at hSw); go_simp; try with_reducible rfl)
  try simp only [Act.put, List.setIfInBounds_toArray, List.set_cons_zero, List.set_cons_succ]
  refine' but_take (i := 5) (oi := ⟨_, _, _, _, _, _⟩) rfl (by kernel_rfl) (by kernel_rfl) (by kernel_rfl) (by kernel_rfl) (fun _ _ _ h => h) (yieldsIf_load_mid (by rfl) 22 _ rfl g (2) rfl (Q.map B8) _ (fun W h => HCQ.out W h) Tryd.underlying22 rfl (inf16.trans (by rw [List.length_map, HQ.out]))) hHeld ?_
  try simp only [Act.put, List.setIfInBounds_toArray, List.set_cons_zero, List.set_cons_succ]
  refine but_take (i := 6) (oi := ⟨_, _, _, _, _, _⟩) (v := ?_) rfl (by kernel_rfl) (by kernel_rfl) (by kernel_rfl) (by kernel_rfl) (fun _ _ _ h => h) (Or.inl ⟨by rfl, ?_⟩) hHeld ?_
  rotate_left 1
  · (intro W hSw; (try dsimp only at hSw); go_simp; try with_reducible rfl)
  try simp only [Act.put, List.setIfInBounds_toArray, List.set_cons_zero, List.set_cons_succ]
  refine but_take (i := 7) (oi := ⟨_, _, _, _, _, _⟩) (v := ?_) rfl (by kernel_rfl) (by kernel_rfl) (by kernel_rfl) (by kernel_rfl) (fun _ _ _ h => h) (Or.inl ⟨by rfl, ?_⟩) hHeld ?_
  rotate_left 1
  · (intro W hSw; (try dsimp only at hSw); have hcc := HC18.out W hSw; go_simp; try with_reducible rfl)
  try simp only [Act.put, List.setIfInBounds_toArray, List.set_cons_zero, List.set_cons_succ]
  replace hHeld : Below w1.heap.size w1 w1.drew := hHeld
  generalize w1.drew = wd at *
  refine but_ready (i := 8) (o := ⟨_, _, _, _, _, _⟩) (by kernel_rfl) rfl (fun K hK => ?_)
  go_simp
  go_at_call 27
  refine (HCL.out _ (HBW.out.trans (hHeld.mono HBW.out.size))).mono ?_
  rintro e w3 ⟨v, rfl, hAR, hb3⟩
  try go_wp2_with fail
  have HAR := Lib.hid hAR
  obtain ⟨A3, c3, hv, _⟩ := HAR.out.slice
  rw [HN.out] at hv
  subst hv
  have hszx := hHeld.size
  have HZX := Lib.hid hszx
  refine hK.out _ _ (hHeld.trans (hb3.mono hszx)) (fun hHeld => ?_)
  clear hK K hb3 hAR hszx
  try simp only [Act.put, List.setIfInBounds_toArray, List.set_cons_zero, List.set_cons_succ]
  refine but_take (i := 9) (oi := ⟨_, _, _, _, _, _⟩) (v := .agg (pkC code id Q A3 n c3).toArray) rfl (by kernel_rfl) (by kernel_rfl) (by kernel_rfl) (by kernel_rfl) (fun _ _ _ h => h) (Or.inl ⟨by rfl, ?_⟩) hHeld ?_
  · (intro W hSw; have hql := HQ.out; have hfo := pk_fold code id Q hql; have hsz := pk_sz code id Q hql; have hse := fun (A : Option Addr) (n c : Nat) => pk_set code id Q hql (A := A) (n := n) (c := c); go_simp)
  try simp only [Act.put, List.setIfInBounds_toArray, List.set_cons_zero, List.set_cons_succ]
  replace hHeld : Below w1.heap.size w1 w3 := hHeld
  refine but_last (o := ⟨_, _, _, _, _, _⟩) (by kernel_rfl) rfl (by kernel_rfl) (fun K hK => ?_)
  refine step_store_blk rfl 25 (.tmp 2) (.tmp 12) rfl rfl gr (pkC code id Q A3 n c3) rfl rfl 25 _ (HR.out.below hHeld HR.out.lt) (infRP.trans (by rw [pkC_length _ _ _ _ _ _ HQ.out])) (by rw [pkC_length _ _ _ _ _ _ HQ.out]; rfl) (pk_one _ _ _ _ _ _) ?_
  intro w5 hP5 hg5
  refine hK.out _ _ ?_
  clear hK K
  refine NoPanic.normal ?_
  have hbw := HBW.out.trans (hHeld.mono HBW.out.size)
  have hb5 : Below w.heap.size w w5 := below_new hbw hg5 (Nat.le_trans HG.out.1 (Nat.le_of_lt HG.out.2)) hbw.size
  have hlt5 : gr < wd.heap.size := Nat.lt_of_lt_of_le HR.out.lt HZX.out
  have HAR5 := Lib.hid ((HAR.out.grown hg5 hlt5).base (Nat.le_trans HBW.out.size HZX.out))
  go_wp2
  refine bodyPost_ret (v := .agg _) (results_cell_row rfl _ _ gr 25 _ (0, 0) _ rfl hP5.raw Tryd.underlying25 rfl (infRP.trans (by rw [List.size_toArray, pkC_length _ _ _ _ _ _ HQ.out]))) rfl ⟨A3, n, c3, rfl, HAR5.out, hb5⟩
end Go.Proofs.YtbomckbekcaemaaDoor
