/-
  The contract of package radius's said.
-/
import Derived.Test.YtbomckbekcaemaaDoorRdf
import Derived.Test.YtbomckbekcaemaaDoorHz
namespace Go.Proofs.YtbomckbekcaemaaDoor
open Go.RowKit

theorem pk_fold (x y : Int) (Q : List UInt8) (h : Q.length = 16) : List.foldl (fun (cs : Array Value) (z : Value × Nat) => cs.setIfInBounds (2 + z.snd) z.fst) #[.int .i64 x, .int .i64 y, .int .u8 0, .int .u8 0, .int .u8 0, .int .u8 0, .int .u8 0, .int .u8 0, .int .u8 0, .int .u8 0, .int .u8 0, .int .u8 0, .int .u8 0, .int .u8 0, .int .u8 0, .int .u8 0, .int .u8 0, .int .u8 0, .slice none 0 0] (Q.map B8).zipIdx = (pkC x y Q none 0 0).toArray := by
  rcases Q with _ | ⟨q0, Q⟩
  · simp at h
  rcases Q with _ | ⟨q1, Q⟩
  · simp at h
  rcases Q with _ | ⟨q2, Q⟩
  · simp at h
  rcases Q with _ | ⟨q3, Q⟩
  · simp at h
  rcases Q with _ | ⟨q4, Q⟩
  · simp at h
  rcases Q with _ | ⟨q5, Q⟩
  · simp at h
  rcases Q with _ | ⟨q6, Q⟩
  · simp at h
  rcases Q with _ | ⟨q7, Q⟩
  · simp at h
  rcases Q with _ | ⟨q8, Q⟩
  · simp at h
  rcases Q with _ | ⟨q9, Q⟩
  · simp at h
  rcases Q with _ | ⟨q10, Q⟩
  · simp at h
  rcases Q with _ | ⟨q11, Q⟩
  · simp at h
  rcases Q with _ | ⟨q12, Q⟩
  · simp at h
  rcases Q with _ | ⟨q13, Q⟩
  · simp at h
  rcases Q with _ | ⟨q14, Q⟩
  · simp at h
  rcases Q with _ | ⟨q15, Q⟩
  · simp at h
  rcases Q with _ | ⟨_, _⟩
  · simp [pkC]
  · simp at h
theorem pk_sz (x y : Int) (Q : List UInt8) (h : Q.length = 16) : (pkC x y Q none 0 0).toArray.size = 19 := by rw [List.size_toArray, pkC_length _ _ _ _ _ _ h]
theorem pk_set (x y : Int) (Q : List UInt8) (h : Q.length = 16) {A : Option Addr} {n c : Nat} : (pkC x y Q none 0 0).toArray.setIfInBounds 18 (.slice A n c) = (pkC x y Q A n c).toArray := by
  rcases Q with _ | ⟨q0, Q⟩
  · simp at h
  rcases Q with _ | ⟨q1, Q⟩
  · simp at h
  rcases Q with _ | ⟨q2, Q⟩
  · simp at h
  rcases Q with _ | ⟨q3, Q⟩
  · simp at h
  rcases Q with _ | ⟨q4, Q⟩
  · simp at h
  rcases Q with _ | ⟨q5, Q⟩
  · simp at h
  rcases Q with _ | ⟨q6, Q⟩
  · simp at h
  rcases Q with _ | ⟨q7, Q⟩
  · simp at h
  rcases Q with _ | ⟨q8, Q⟩
  · simp at h
  rcases Q with _ | ⟨q9, Q⟩
  · simp at h
  rcases Q with _ | ⟨q10, Q⟩
  · simp at h
  rcases Q with _ | ⟨q11, Q⟩
  · simp at h
  rcases Q with _ | ⟨q12, Q⟩
  · simp at h
  rcases Q with _ | ⟨q13, Q⟩
  · simp at h
  rcases Q with _ | ⟨q14, Q⟩
  · simp at h
  rcases Q with _ | ⟨q15, Q⟩
  · simp at h
  rcases Q with _ | ⟨_, _⟩
  · simp [pkC]
  · simp at h
theorem infPk : (Tryd.prog.info? 30).map (·.size) = some 19 := by kernel_rfl
theorem pk_one (x y : Int) (Q : List UInt8) (A : Option Addr) (n c : Nat) : (pkC x y Q A n c).toArray.all (·.oneCell') = true := by
  simp [pkC, Value.oneCell']
theorem ARow.base {w : World} {base base' : Nat} {v : Value} {la : Attrs} (h : ARow w base v la) (hb : base' ≤ base) : ARow w base' v la := by
  obtain ⟨cells, ho, hc⟩ := h
  exact ⟨cells, ⟨ho.1, ho.2.imp id (fun ⟨g, cap, cur, e, hg, r⟩ => ⟨g, cap, cur, e, Nat.le_trans hb hg, r⟩)⟩, fun j hj => by
    obtain ⟨Aj, cj, h1, h2, h3, h4⟩ := hc j hj
    exact ⟨Aj, cj, h1, h2, h3, fun h0 x e => ⟨(h4 h0 x e).1, Nat.le_trans hb (h4 h0 x e).2⟩⟩⟩
def SaidPPost (b : List UInt8) (w : World) (e : Ending) (w' : World) : Prop :=
  ∃ A m c, e = .returned (.agg (pkC ((b.getD 0 0).toNat : Int) ((b.getD 1 0).toNat : Int) ((b.drop 4).take 16) A m c).toArray) ∧ (saidA (b.drop 20)).length = m ∧ ARow w' w.heap.size (.slice A m c) (saidA (b.drop 20)) ∧ Below w.heap.size w w'
theorem ix_hd {n c : Nat} (h : 20 ≤ n) (h2 : n ≤ c) : 0 < n ∧ (1 : Int) < (n : Int) ∧ (20 : Int) ≤ (n : Int) ∧ (20 : Int) ≤ (c : Int) ∧ (4 : Int) ≤ (c : Int) ∧ (n : Int) ≤ (c : Int) ∧ ¬ c = 4 := by omega
set_option maxRecDepth 100000 in
set_option maxHeartbeats 1000000 in
theorem said_r (A : Option Addr) (c n : Nat) (b : List UInt8) (w : World) (hn : b.length = n) (h20 : 20 ≤ n) (hm : n ≤ 100000) (i0 : In w w.heap.size A c b) :
    Calls Tryd.prog 47 #[.slice A n c] w (SaidPPost b w) := by
  obtain ⟨gb, ob, hA, hgb, hby⟩ := i0.2.2 (by omega)
  obtain ⟨y0, hy0⟩ : ∃ y, y = b.getD 0 0 := ⟨_, rfl⟩
  obtain ⟨y1, hy1⟩ : ∃ y, y = b.getD 1 0 := ⟨_, rfl⟩
  obtain ⟨Q, hQ⟩ : ∃ Q, Q = (b.drop 4).take 16 := ⟨_, rfl⟩
  obtain ⟨o2, HO2⟩ := ix_cut c 20 ob
  subst hA
  have HI2 := Lib.hid (show In w w.heap.size (some ⟨gb, o2, none⟩) (c - 20) (b.drop 20) from in_cut2 i0 20 (by omega) HO2.out)
  have HSA := Lib.hid (fun (W : World) (h : Below w.heap.size w W) => saidAttrs_e (some ⟨gb, o2, none⟩) (c - 20) (n - 20) (b.drop 20) W (by rw [List.length_drop, hn]) (by omega) (HI2.out.up h))
  have HQL := Lib.hid (show Q.length = 16 by rw [hQ, List.length_take, List.length_drop]; omega)
  have HC := Lib.hid (show ∀ j, j < b.length → w.cell? ⟨gb, ob + j, none⟩ = some (.int .u8 ((b.getD j 0).toNat : Int)) from hby)
  obtain ⟨e1, e2, e3, e4, e5, e6, e7⟩ := ix_hd (n := n) (c := c) h20 (by rw [← hn]; exact i0.1)
  obtain ⟨ya, yb⟩ := ix_byte y0
  obtain ⟨yc, yd⟩ := ix_byte y1
  have HY := Lib.hid (And.intro hy0 (And.intro hy1 (And.intro hQ (And.intro hn (And.intro hgb h20)))))
  unfold SaidPPost
  rw [← hy0, ← hy1, ← hQ]
  clear hy0 hy1 hQ hn hgb hby h20 hm i0
  go_enter Tryd.func47, Tryd.ntmps47
  go_upto_region 1 with (fail)
  have hP := Blk.new_of w 30 #[.int .i64 0, .int .i64 0, .int .u8 0, .int .u8 0, .int .u8 0, .int .u8 0, .int .u8 0, .int .u8 0, .int .u8 0, .int .u8 0, .int .u8 0, .int .u8 0, .int .u8 0, .int .u8 0, .int .u8 0, .int .u8 0, .int .u8 0, .int .u8 0, .slice none 0 0] _ rfl
  have hb0 : Below w.heap.size w (w.alloc (.cells #[.int .i64 0, .int .i64 0, .int .u8 0, .int .u8 0, .int .u8 0, .int .u8 0, .int .u8 0, .int .u8 0, .int .u8 0, .int .u8 0, .int .u8 0, .int .u8 0, .int .u8 0, .int .u8 0, .int .u8 0, .int .u8 0, .int .u8 0, .int .u8 0, .slice none 0 0] 30)) := (Below.refl _ _).alloc (Nat.le_refl _) _
  obtain ⟨g, hg⟩ : ∃ g, g = w.heap.size := ⟨_, rfl⟩
  have HG := Lib.hid (show w.heap.size ≤ g by rw [hg]; exact Nat.le_refl _)
  rw [← hg] at hP
  simp only [← hg]
  have HP := Lib.hid hP
  have HB := Lib.hid hb0
  clear hg hP hb0
  generalize w.alloc (.cells #[.int .i64 0, .int .i64 0, .int .u8 0, .int .u8 0, .int .u8 0, .int .u8 0, .int .u8 0, .int .u8 0, .int .u8 0, .int .u8 0, .int .u8 0, .int .u8 0, .int .u8 0, .int .u8 0, .int .u8 0, .int .u8 0, .int .u8 0, .int .u8 0, .slice none 0 0] 30) = w1 at *
  have HCW := Lib.hid (fun (W : World) (h : Below w1.heap.size w1 W) (j : Nat) (hj : j < b.length) => (show W.cell? ⟨gb, ob + j, none⟩ = some (.int .u8 ((b.getD j 0).toNat : Int)) from ((HB.out.trans (h.mono HB.out.size)).cell (p := ⟨gb, ob + j, none⟩) HY.out.2.2.2.2.1).trans (HC.out j hj)))
  have HY0 := Lib.hid (fun (W : World) (h : Below w1.heap.size w1 W) => (show W.cell? ⟨gb, ob, none⟩ = some (.int .u8 (y0.toNat : Int)) by rw [HY.out.1]; exact HCW.out W h 0 (by have := HY.out; omega)))
  have HY1 := Lib.hid (fun (W : World) (h : Below w1.heap.size w1 W) => (show W.cell? ⟨gb, ob + 1, none⟩ = some (.int .u8 (y1.toNat : Int)) by rw [HY.out.2.1]; exact HCW.out W h 1 (by have := HY.out; omega)))
  have HQR := Lib.hid (fun (W : World) (h : Below w1.heap.size w1 W) => (show W.rangeAt gb (ob + 4) (Q.map B8) from fun j u hj => by
    rw [List.getElem?_map] at hj
    have hjq : j < Q.length := by
      rcases Nat.lt_or_ge j Q.length with hl | hl
      · exact hl
      · rw [List.getElem?_eq_none hl] at hj; cases hj
    rw [List.getElem?_eq_getElem hjq] at hj
    cases hj
    have h16 := HQL.out
    rw [Nat.add_assoc, HCW.out W h (4 + j) (by have := HY.out; omega)]
    have : Q[j] = b.getD (4 + j) 0 := by
      have e : Q.getD j 0 = b.getD (4 + j) 0 := by rw [HY.out.2.2.1, getD_take _ _ _ (by omega), List.getD_eq_getElem?_getD, List.getElem?_drop, ← List.getD_eq_getElem?_getD]
      rw [← e, List.getD_eq_getElem?_getD, List.getElem?_eq_getElem hjq]; rfl
    rw [this]))
  refine wp_region_noPanic ?_
  refine wp_region_but (S := fun W => Below w1.heap.size w1 W) 16 (by kernel_rfl) (by exact below_drewN (Below.refl _ _) 1) (fun hHeld => ?_)
  refine but_take (i := 0) (oi := ⟨_, _, _, _, _, _⟩) (v := ?_) rfl (by kernel_rfl) (by kernel_rfl) (by kernel_rfl) (by kernel_rfl) (fun _ _ _ h => h) (Or.inl ⟨by rfl, ?_⟩) hHeld ?_
  rotate_left 1
  · (intro W hSw; (try dsimp only at hSw); go_simp; try with_reducible rfl)
  try simp only [Act.put, List.setIfInBounds_toArray, List.set_cons_zero, List.set_cons_succ]
  refine but_take (i := 1) (oi := ⟨_, _, _, _, _, _⟩) (v := ?_) rfl (by kernel_rfl) (by kernel_rfl) (by kernel_rfl) (by kernel_rfl) (fun _ _ _ h => h) (Or.inl ⟨by rfl, ?_⟩) hHeld ?_
  rotate_left 1
  · (intro W hSw; (try dsimp only at hSw); go_simp; try with_reducible rfl)
  try simp only [Act.put, List.setIfInBounds_toArray, List.set_cons_zero, List.set_cons_succ]
  refine but_take (i := 2) (oi := ⟨_, _, _, _, _, _⟩) (v := ?_) rfl (by kernel_rfl) (by kernel_rfl) (by kernel_rfl) (by kernel_rfl) (fun _ _ _ h => h) (Or.inl ⟨by rfl, ?_⟩) hHeld ?_
  rotate_left 1
  · (intro W hSw; (try dsimp only at hSw); have hcc := HY0.out W hSw; go_simp; try with_reducible rfl)
  try simp only [Act.put, List.setIfInBounds_toArray, List.set_cons_zero, List.set_cons_succ]
  refine but_take (i := 3) (oi := ⟨_, _, _, _, _, _⟩) (v := ?_) rfl (by kernel_rfl) (by kernel_rfl) (by kernel_rfl) (by kernel_rfl) (fun _ _ _ h => h) (Or.inl ⟨by rfl, ?_⟩) hHeld ?_
  rotate_left 1
  · (intro W hSw; (try dsimp only at hSw); go_simp; try with_reducible rfl)
  try simp only [Act.put, List.setIfInBounds_toArray, List.set_cons_zero, List.set_cons_succ]
  refine but_take (i := 4) (oi := ⟨_, _, _, _, _, _⟩) (v := ?_) rfl (by kernel_rfl) (by kernel_rfl) (by kernel_rfl) (by kernel_rfl) (fun _ _ _ h => h) (Or.inl ⟨by rfl, ?_⟩) hHeld ?_
  rotate_left 1
  · (intro W hSw; (try dsimp only at hSw); go_simp; try with_reducible rfl)
  try simp only [Act.put, List.setIfInBounds_toArray, List.set_cons_zero, List.set_cons_succ]
  refine but_take (i := 5) (oi := ⟨_, _, _, _, _, _⟩) (v := ?_) rfl (by kernel_rfl) (by kernel_rfl) (by kernel_rfl) (by kernel_rfl) (fun _ _ _ h => h) (Or.inl ⟨by rfl, ?_⟩) hHeld ?_
  rotate_left 1
  · (intro W hSw; (try dsimp only at hSw); go_simp; try with_reducible rfl)
  try simp only [Act.put, List.setIfInBounds_toArray, List.set_cons_zero, List.set_cons_succ]
  refine but_take (i := 6) (oi := ⟨_, _, _, _, _, _⟩) (v := ?_) rfl (by kernel_rfl) (by kernel_rfl) (by kernel_rfl) (by kernel_rfl) (fun _ _ _ h => h) (Or.inl ⟨by rfl, ?_⟩) hHeld ?_
  rotate_left 1
  · (intro W hSw; (try dsimp only at hSw); have hcc := HY1.out W hSw; go_simp; try with_reducible rfl)
  try simp only [Act.put, List.setIfInBounds_toArray, List.set_cons_zero, List.set_cons_succ]
  refine but_take (i := 7) (oi := ⟨_, _, _, _, _, _⟩) (v := ?_) rfl (by kernel_rfl) (by kernel_rfl) (by kernel_rfl) (by kernel_rfl) (fun _ _ _ h => h) (Or.inl ⟨by rfl, ?_⟩) hHeld ?_
  rotate_left 1
  · (intro W hSw; (try dsimp only at hSw); go_simp; try with_reducible rfl)
  try simp only [Act.put, List.setIfInBounds_toArray, List.set_cons_zero, List.set_cons_succ]
  refine but_take (i := 8) (oi := ⟨_, _, _, _, _, _⟩) (v := ?_) rfl (by kernel_rfl) (by kernel_rfl) (by kernel_rfl) (by kernel_rfl) (fun _ _ _ h => h) (Or.inl ⟨by rfl, ?_⟩) hHeld ?_
  rotate_left 1
  · (intro W hSw; (try dsimp only at hSw); go_simp; try with_reducible rfl)
  try simp only [Act.put, List.setIfInBounds_toArray, List.set_cons_zero, List.set_cons_succ]
  refine but_take (i := 9) (oi := ⟨_, _, _, _, _, _⟩) (v := ?_) rfl (by kernel_rfl) (by kernel_rfl) (by kernel_rfl) (by kernel_rfl) (fun _ _ _ h => h) (Or.inl ⟨by rfl, ?_⟩) hHeld ?_
  rotate_left 1
  · (intro W hSw; (try dsimp only at hSw); go_simp; try with_reducible rfl)
  try simp only [Act.put, List.setIfInBounds_toArray, List.set_cons_zero, List.set_cons_succ]
  refine but_take (i := 10) (oi := ⟨_, _, _, _, _, _⟩) (v := .pointer (some ⟨gb, ob + 4, none⟩)) rfl (by kernel_rfl) (by kernel_rfl) (by kernel_rfl) (by kernel_rfl) (fun _ _ _ h => h) (Or.inl ⟨by rfl, ?_⟩) hHeld ?_
  · (intro W hSw; go_simp; simp [Instr.arrayAt, Sem.run_bind, Sem.run_pure, Result.andThen_ok, run_underlying Tryd.underlying22])
  try simp only [Act.put, List.setIfInBounds_toArray, List.set_cons_zero, List.set_cons_succ]
  refine' but_take (i := 11) (oi := ⟨_, _, _, _, _, _⟩) rfl (by kernel_rfl) (by kernel_rfl) (by kernel_rfl) (by kernel_rfl) (fun _ _ _ h => h) (yieldsIf_load_mid (by rfl) 22 _ rfl gb (ob + 4) rfl (Q.map B8) _ (fun W h => HQR.out W h) Tryd.underlying22 rfl (inf16.trans (by rw [List.length_map, HQL.out]))) hHeld ?_
  try simp only [Act.put, List.setIfInBounds_toArray, List.set_cons_zero, List.set_cons_succ]
  refine but_take (i := 12) (oi := ⟨_, _, _, _, _, _⟩) (v := ?_) rfl (by kernel_rfl) (by kernel_rfl) (by kernel_rfl) (by kernel_rfl) (fun _ _ _ h => h) (Or.inl ⟨by rfl, ?_⟩) hHeld ?_
  rotate_left 1
  · (intro W hSw; (try dsimp only at hSw); go_simp; try with_reducible rfl)
  try simp only [Act.put, List.setIfInBounds_toArray, List.set_cons_zero, List.set_cons_succ]
  refine but_take (i := 13) (oi := ⟨_, _, _, _, _, _⟩) (v := .slice (some ⟨gb, o2, none⟩) (n - 20) (c - 20)) rfl (by kernel_rfl) (by kernel_rfl) (by kernel_rfl) (by kernel_rfl) (fun _ _ _ h => h) (Or.inl ⟨by rfl, ?_⟩) hHeld ?_
  · (intro W hSw; rcases HO2.out with ⟨hcx, hox⟩ | ⟨hcx, hox⟩ <;> subst hox <;> first | (subst hcx; go_simp; done) | go_simp)
  try simp only [Act.put, List.setIfInBounds_toArray, List.set_cons_zero, List.set_cons_succ]
  replace hHeld : Below w1.heap.size w1 w1.drew := hHeld
  have HGD := Lib.hid (show g < w1.drew.heap.size from Nat.lt_of_lt_of_le HP.out.lt hHeld.size)
  have HWD := Lib.hid (show w.heap.size ≤ w1.drew.heap.size from Nat.le_trans HB.out.size hHeld.size)
  generalize w1.drew = wd at *
  refine but_ready (i := 14) (o := ⟨_, _, _, _, _, _⟩) (by kernel_rfl) rfl (fun K hK => ?_)
  go_simp
  go_at_call 63
  refine (HSA.out _ (HB.out.trans (hHeld.mono HB.out.size))).mono ?_
  rintro e w3 ⟨v, rfl, hAR, hb3⟩
  try go_wp2_with fail
  obtain ⟨cells, hown, hcells⟩ := hAR
  have HAR := Lib.hid (show ARow w3 wd.heap.size v (saidA (b.drop 20)) from ⟨cells, hown, hcells⟩)
  clear hown hcells
  obtain ⟨A3, c3, hv, _⟩ := HAR.out.slice
  subst hv
  have hszx := hHeld.size
  refine hK.out _ _ (hHeld.trans (hb3.mono hszx)) (fun hHeld => ?_)
  clear hK K hb3
  try simp only [Act.put, List.setIfInBounds_toArray, List.set_cons_zero, List.set_cons_succ]
  refine but_take (i := 15) (oi := ⟨_, _, _, _, _, _⟩) (v := .agg (pkC (y0.toNat : Int) (y1.toNat : Int) Q A3 (saidA (b.drop 20)).length c3).toArray) rfl (by kernel_rfl) (by kernel_rfl) (by kernel_rfl) (by kernel_rfl) (fun _ _ _ h => h) (Or.inl ⟨by rfl, ?_⟩) hHeld ?_
  · (intro W hSw; have hql := HQL.out; have hfo := pk_fold (y0.toNat : Int) (y1.toNat : Int) Q hql; have hsz := pk_sz (y0.toNat : Int) (y1.toNat : Int) Q hql; have hse := fun (A : Option Addr) (n c : Nat) => pk_set (y0.toNat : Int) (y1.toNat : Int) Q hql (A := A) (n := n) (c := c); go_simp)
  try simp only [Act.put, List.setIfInBounds_toArray, List.set_cons_zero, List.set_cons_succ]
  refine but_last (o := ⟨_, _, _, _, _, _⟩) (by kernel_rfl) rfl (by kernel_rfl) (fun K hK => ?_)
  refine step_store_blk rfl 30 (.tmp 2) (.tmp 18) rfl rfl g (pkC (y0.toNat : Int) (y1.toNat : Int) Q A3 (saidA (b.drop 20)).length c3) rfl rfl 30 _ (HP.out.below hHeld HP.out.lt) (infPk.trans (by rw [pkC_length _ _ _ _ _ _ HQL.out])) (by rw [pkC_length _ _ _ _ _ _ HQL.out]; rfl) (pk_one _ _ _ _ _ _) ?_
  intro w5 hP5 hg5
  refine hK.out _ _ ?_
  clear hK K
  refine NoPanic.normal ?_
  have hb5 : Below w.heap.size w w5 := below_new (HB.out.trans (hHeld.mono HB.out.size)) hg5 HG.out (Nat.le_trans HB.out.size hHeld.size)
  have HAR5 := Lib.hid ((HAR.out.grown hg5 HGD.out).base HWD.out)
  go_wp2
  refine bodyPost_ret (v := .agg _) (results_cell_row rfl _ _ g 30 _ (0, 0) _ rfl hP5.raw Tryd.underlying30 rfl (infPk.trans (by rw [List.size_toArray, pkC_length _ _ _ _ _ _ HQL.out]))) rfl ⟨A3, _, c3, rfl, rfl, HAR5.out, hb5⟩
end Go.Proofs.YtbomckbekcaemaaDoor
