/-
  The contracts of package radius's isMark, Find and Join, and of slices.IndexFunc and ContainsFunc over attributes.
-/
import Derived.Test.YtbomckbekcaemaaDoorRdh
namespace Go.Proofs.YtbomckbekcaemaaDoor
open Go.RowKit

set_option maxRecDepth 100000 in
set_option maxHeartbeats 1000000 in
theorem isMark_e (kd : Int) (u : Value) (w : World) :
    Calls Tryd.prog 65 #[.agg #[.int .i64 kd, u]] w fun e w' => e = .returned (.bool (decide (kd = 80))) ∧ Below w.heap.size w w' := by
  go_enter Tryd.func65, Tryd.ntmps65
  go_wp2
  go_ret
  exact ⟨rfl, (Below.refl _ _).alloc (Nat.le_refl _) _⟩
/-- The place of the first Mark, or -1. -/
def MarkIx (la : Attrs) (r : Int) : Prop := (r = -1 ∧ ∀ j, j < la.length → (la.getD j (0, [])).1 ≠ 80) ∨ ∃ k : Nat, r = (k : Int) ∧ k < la.length ∧ (la.getD k (0, [])).1 = 80 ∧ ∀ j, j < k → (la.getD j (0, [])).1 ≠ 80
def hasMark (la : Attrs) : Bool := la.any fun a => decide (a.1 = 80)
theorem markIx_has {la : Attrs} {r : Int} (h : MarkIx la r) : decide (0 ≤ r) = hasMark la := by
  rcases h with ⟨rfl, h⟩ | ⟨k, rfl, hk, h80, _⟩
  · rw [show decide ((0 : Int) ≤ -1) = false by decide]
    symm
    unfold hasMark
    rw [List.any_eq_false]
    intro a ha
    obtain ⟨j, hj, rfl⟩ := List.mem_iff_getElem.1 ha
    have := h j hj
    rw [List.getD_eq_getElem?_getD, List.getElem?_eq_getElem hj] at this
    simpa using this
  · rw [show decide ((0 : Int) ≤ (k : Int)) = true by simp]
    symm
    unfold hasMark
    rw [List.any_eq_true]
    refine ⟨la[k], List.getElem_mem hk, ?_⟩
    rw [List.getD_eq_getElem?_getD, List.getElem?_eq_getElem hk] at h80
    simpa using h80
set_option maxRecDepth 100000 in
set_option maxHeartbeats 1000000 in
theorem indexFunc_e (A : Option Addr) (c n : Nat) (la : Attrs) (w : World) (hn : la.length = n) (hA : AIn w w.heap.size A c la) :
    Calls Tryd.prog 77 #[.slice A n c, .func (.func 65) #[] #[]] w fun e w' => ∃ r, e = .returned (.int .i64 r) ∧ MarkIx la r ∧ Below w.heap.size w w' := by
  have hmc : n ≤ c := by rw [← hn]; exact hA.1
  have HNM := Lib.hid (Nat.le_trans hmc hA.2.1)
  have hmc1 : (n : Int) ≤ (c : Int) := Int.ofNat_le.2 hmc
  have HN := Lib.hid hn
  have HA := Lib.hid hA
  clear hn hA hmc
  go_enter Tryd.func77, Tryd.ntmps77
  go_wp2
  go_loopw [8] (fun i wr => ∃ k : Nat, k ≤ n ∧ i = .int .i64 (k : Int) ∧ (∀ j, j < k → (la.getD j (0, [])).1 ≠ 80) ∧ Below w.heap.size w wr) (fun i _ => n - (intOf i).toNat)
  case atStart => exact ⟨0, Nat.zero_le _, rfl, fun j h => absurd h (Nat.not_lt_zero _), Below.refl _ _⟩
  case round =>
    obtain ⟨k, hk, rfl, hno, hbr⟩ := hrel
    by_cases hlt : k < n
    · skip
      have hd : decide (k < n) = true := by simpa using hlt
      have hkr : k < la.length := by rw [HN.out]; exact hlt
      obtain ⟨gp, op, hAe, hgp, hrow⟩ := HA.out.2.2 (Nat.lt_of_le_of_lt (Nat.zero_le _) hkr)
      obtain ⟨Aj, cj, h1, h2, h3⟩ := hrow k hkr
      obtain ⟨kd, v, hkv⟩ : ∃ kd v, la.getD k (0, []) = (kd, v) := ⟨_, _, rfl⟩
      rw [hkv] at h1 h2 h3
      obtain ⟨vl, hvl⟩ : ∃ vl, vl = v.length := ⟨_, rfl⟩
      have hc1' : wr.cell? ⟨gp, op + k * 2, none⟩ = some (.int .i64 kd) := (hbr.cell (p := ⟨gp, op + k * 2, none⟩) hgp).trans h1
      have hc2' : wr.cell? ⟨gp, op + k * 2 + 1, none⟩ = some (.slice Aj vl cj) := by rw [hvl]; exact (hbr.cell (p := ⟨gp, op + k * 2 + 1, none⟩) hgp).trans h2
      obtain ⟨hk0, hkn, hkw⟩ := ix_at hlt HNM.out
      have HV := Lib.hid (And.intro hvl.symm h3)
      have HB := Lib.hid hbr
      have HK := Lib.hid (And.intro hkr hkv)
      have HW := Lib.hid hkw
      subst hAe
      have HNO := Lib.hid hno
      clear hrow h1 h2 h3 hkv hvl hno hbr hgp hkw hk hlt hkr
      by_cases h80 : kd = 80
      · have HFIN := Lib.hid (show MarkIx la (k : Int) from .inr ⟨k, rfl, HK.out.1, by rw [HK.out.2]; exact h80, HNO.out⟩)
        subst h80
        go_wp2_with (go_at_call 65; refine (isMark_e _ _ _).mono ?_; rintro e w2 ⟨rfl, hb2⟩)
        go_ret
        exact ⟨_, rfl, HFIN.out, HB.out.trans (hb2.mono HB.out.size)⟩
      · have HNO1 := Lib.hid (show ∀ j, j < k + 1 → (la.getD j (0, [])).1 ≠ 80 from fun j hj => by
          rcases Nat.lt_or_ge j k with hjk | hjk
          · exact HNO.out j hjk
          · rw [show j = k by omega, HK.out.2]; exact h80)
        have hd8 : decide (kd = 80) = false := by simpa using h80
        clear h80 HNO
        have HIM := Lib.hid (fun (u : Value) (W : World) => (show Calls Tryd.prog 65 #[.agg #[.int .i64 kd, u]] W (fun e w' => e = .returned (.bool false) ∧ Below W.heap.size W w') by rw [← hd8]; exact isMark_e kd u W))
        clear hd8
        go_wp2_with (go_at_call 65; refine (HIM.out _ _).mono ?_; rintro e w2 ⟨rfl, hb2⟩)
        have HB2 := Lib.hid (HB.out.trans (hb2.mono HB.out.size))
        go_roundw
        case rel => exact ⟨k + 1, (by have := HK.out.1; have := HN.out; omega), by rw [HW.out], HNO1.out, HB2.out⟩
        case measure => exact ix_meas2 HK.out.1 HN.out HNM.out
    · have hd : decide (k < n) = false := by simpa using hlt
      have HFIN := Lib.hid (And.intro (show MarkIx la (-1) from .inl ⟨rfl, fun j hj => hno j (by have := HN.out; omega)⟩) hbr)
      clear hno hbr hk hlt
      go_wp2
      go_ret
      exact ⟨_, rfl, HFIN.out.1, HFIN.out.2⟩
set_option maxRecDepth 100000 in
set_option maxHeartbeats 1000000 in
theorem containsFunc_e (A : Option Addr) (c n : Nat) (la : Attrs) (w : World) (hn : la.length = n) (hA : AIn w w.heap.size A c la) :
    Calls Tryd.prog 64 #[.slice A n c, .func (.func 65) #[] #[]] w fun e w' => e = .returned (.bool (hasMark la)) ∧ Below w.heap.size w w' := by
  have HI := Lib.hid (indexFunc_e A c n la w hn hA)
  clear hn hA
  go_enter Tryd.func64, Tryd.ntmps64
  go_wp2_with (go_at_call 77; refine HI.out.mono ?_; rintro e w2 ⟨r, rfl, hr, hb2⟩)
  go_ret
  exact ⟨by rw [← markIx_has hr] <;> rfl, hb2⟩
/-- What Find tells. -/
def findA (la : Attrs) (kind : Int) : Option (List UInt8) := (la.find? fun a => decide (a.1 = kind)).map (·.2)
theorem findA_at {la : Attrs} {kind : Int} {k : Nat} {v : List UInt8} (hk : k < la.length) (hkv : la.getD k (0, []) = (kind, v)) (hno : ∀ j, j < k → (la.getD j (0, [])).1 ≠ kind) : findA la kind = some v := by
  induction la generalizing k with
  | nil => simp at hk
  | cons a la ih =>
    cases k with
    | zero =>
      have : a = (kind, v) := by simpa using hkv
      subst this
      simp [findA]
    | succ k =>
      have h0 : a.1 ≠ kind := by simpa using hno 0 (Nat.succ_pos _)
      have := ih (k := k) (by simpa using hk) (by simpa using hkv) (fun j hj => by simpa using hno (j + 1) (by omega))
      unfold findA at this ⊢
      rw [List.find?_cons_of_neg (by simpa using h0)]
      exact this
theorem findA_no {la : Attrs} {kind : Int} (hno : ∀ j, j < la.length → (la.getD j (0, [])).1 ≠ kind) : findA la kind = none := by
  unfold findA
  rw [List.find?_eq_none.2]
  · rfl
  · intro a ha
    obtain ⟨j, hj, rfl⟩ := List.mem_iff_getElem.1 ha
    have := hno j hj
    rw [List.getD_eq_getElem?_getD, List.getElem?_eq_getElem hj] at this
    simpa using this
def FindPost (r : Option (List UInt8)) (w : World) (e : Ending) (w' : World) : Prop :=
  ∃ A n c, e = .returned (.tuple #[.slice A n c, .bool r.isSome]) ∧ Buf w' w.heap.size A n c (r.getD []) ∧ Below w.heap.size w w'
set_option maxRecDepth 100000 in
set_option maxHeartbeats 1000000 in
theorem find_e (A : Option Addr) (c n : Nat) (la : Attrs) (kind : Int) (w : World) (hn : la.length = n) (hA : AIn w w.heap.size A c la) (hv : ∀ j, j < la.length → (la.getD j (0, [])).2.length < 1000000) :
    Calls Tryd.prog 31 #[.slice A n c, .int .i64 kind] w (FindPost (findA la kind) w) := by
  have hmc : n ≤ c := by rw [← hn]; exact hA.1
  have HNM := Lib.hid (Nat.le_trans hmc hA.2.1)
  have hmc1 : (n : Int) ≤ (c : Int) := Int.ofNat_le.2 hmc
  have HN := Lib.hid hn
  have HA := Lib.hid hA
  clear hn hA hmc
  have HVL := Lib.hid hv
  clear hv
  go_enter Tryd.func31, Tryd.ntmps31
  go_wp2
  go_loopw [10] (fun i wr => ∃ k : Nat, k ≤ n ∧ i = .int .i64 (k : Int) ∧ (∀ j, j < k → (la.getD j (0, [])).1 ≠ kind) ∧ Below w.heap.size w wr) (fun i _ => n - (intOf i).toNat)
  case atStart => exact ⟨0, Nat.zero_le _, rfl, fun j h => absurd h (Nat.not_lt_zero _), Below.refl _ _⟩
  case round =>
    obtain ⟨k, hk, rfl, hno, hbr⟩ := hrel
    by_cases hlt : k < n
    · skip
      have hd : decide (k < n) = true := by simpa using hlt
      have hkr : k < la.length := by rw [HN.out]; exact hlt
      obtain ⟨gp, op, hAe, hgp, hrow⟩ := HA.out.2.2 (Nat.lt_of_le_of_lt (Nat.zero_le _) hkr)
      obtain ⟨Aj, cj, h1, h2, h3⟩ := hrow k hkr
      obtain ⟨kd, v, hkv⟩ : ∃ kd v, la.getD k (0, []) = (kd, v) := ⟨_, _, rfl⟩
      rw [hkv] at h1 h2 h3
      obtain ⟨vl, hvl⟩ : ∃ vl, vl = v.length := ⟨_, rfl⟩
      have hc1' : wr.cell? ⟨gp, op + k * 2, none⟩ = some (.int .i64 kd) := (hbr.cell (p := ⟨gp, op + k * 2, none⟩) hgp).trans h1
      have hc2' : wr.cell? ⟨gp, op + k * 2 + 1, none⟩ = some (.slice Aj vl cj) := by rw [hvl]; exact (hbr.cell (p := ⟨gp, op + k * 2 + 1, none⟩) hgp).trans h2
      obtain ⟨hk0, hkn, hkw⟩ := ix_at hlt HNM.out
      have HV := Lib.hid (And.intro hvl.symm h3)
      have HB := Lib.hid hbr
      have HK := Lib.hid (And.intro hkr hkv)
      have HW := Lib.hid hkw
      subst hAe
      have HNO := Lib.hid hno
      clear hrow h1 h2 h3 hkv hvl hno hbr hgp hkw hk hlt hkr
      have HWR := Lib.hid HB.out.size
      go_upto_region 4 with ((with_reducible refine (?_ : wpList _ _ _ (Oper.mk none _ _ _ _ _ :: _) _ _)); go_loud (refine wpList_store_blk rfl 69 (.tmp 7) (.tmp 13) rfl rfl wr.heap.size [.int .i64 kd, .slice Aj vl cj] rfl rfl _ _ (Blk.new_of wr 69 #[.int .i64 0, .slice none 0 0] _ rfl) infA rfl (by simp [Value.oneCell']) ?_); intro w5 hS5 hg5)
      have h4a : Below wr.heap.size wr (wr.alloc (.cells #[.int .i64 0, .slice none 0 0] 69)) := (Below.refl _ _).alloc (Nat.le_refl _) _
      have HB5 := Lib.hid (HB.out.trans ((below_new h4a hg5 (Nat.le_refl _) h4a.size).mono HB.out.size))
      have HB5R := Lib.hid (below_new h4a hg5 (Nat.le_refl _) h4a.size)
      have hd0 : w5.cell? ⟨wr.heap.size, 0, none⟩ = some (.int .i64 kd) := hS5.cell 0
      have hd1 : w5.cell? ⟨wr.heap.size, 1, none⟩ = some (.slice Aj vl cj) := hS5.cell 1
      clear h4a hg5 hS5 hc1' hc2' HB hkn hd hmc1
      by_cases h80 : kd = kind
      · subst h80
        have HFIN := Lib.hid (show findA la kd = some v from findA_at HK.out.1 HK.out.2 HNO.out)
        have HCL := Lib.hid (clone_e Aj cj vl v w5 HV.out.1 ((HV.out.2.up HB5.out)) (by have := HVL.out k HK.out.1; rw [HK.out.2] at this; rw [← HV.out.1]; exact this))
        generalize wr.heap.size = g5 at *
        clear HV HK HNO
        go_wp2_with (go_at_call 57; refine HCL.out.mono ?_; rintro e w6 ⟨A6, c6, rfl, hB6, hb6⟩)
        go_ret2
        exact ⟨A6, vl, c6, by rw [HFIN.out] <;> rfl, by rw [HFIN.out]; exact hB6.base HB5.out.size, HB5.out.trans (hb6.mono HB5.out.size)⟩
      · have HNO1 := Lib.hid (show ∀ j, j < k + 1 → (la.getD j (0, [])).1 ≠ kind from fun j hj => by
          rcases Nat.lt_or_ge j k with hjk | hjk
          · exact HNO.out j hjk
          · rw [show j = k by omega, HK.out.2]; exact h80)
        have hd8 : decide (kd = kind) = false := by simpa using h80
        generalize wr.heap.size = g5 at *
        clear HNO hd8
        have HK1 := Lib.hid HK.out.1
        clear HK HV
        go_wp2
        go_roundw
        case rel => exact ⟨k + 1, (by have := HK1.out; have := HN.out; omega), by rw [HW.out], HNO1.out, HB5.out⟩
        case measure => exact ix_meas2 HK1.out HN.out HNM.out
    · have hd : decide (k < n) = false := by simpa using hlt
      have HFIN := Lib.hid (And.intro (show findA la kind = none from findA_no (fun j hj => hno j (by have := HN.out; omega))) hbr)
      clear hno hbr hk hlt
      go_wp2
      go_ret2
      exact ⟨none, 0, 0, by rw [HFIN.out.1] <;> rfl, by rw [HFIN.out.1]; exact Buf.nil _ _, HFIN.out.2⟩
/-- What Join tells. -/
def joinA (la : Attrs) : List UInt8 := (la.filter fun a => decide (a.1 = 79)).flatMap (·.2)
theorem joinA_snoc (la : Attrs) (a : Int × List UInt8) : joinA (la ++ [a]) = joinA la ++ (if a.1 = 79 then a.2 else []) := by
  unfold joinA
  rw [List.filter_append, List.flatMap_append]
  by_cases h : a.1 = 79
  · simp [h]
  · simp [h]
theorem joinA_take (la : Attrs) (k : Nat) : (joinA (la.take k)).length ≤ (joinA la).length := by
  conv => rhs; rw [← List.take_append_drop k la]
  unfold joinA
  rw [List.filter_append, List.flatMap_append, List.length_append]
  omega
set_option maxRecDepth 100000 in
set_option maxHeartbeats 1000000 in
theorem join_e (A : Option Addr) (c n : Nat) (la : Attrs) (w : World) (hn : la.length = n) (hA : AIn w w.heap.size A c la) (hv : (joinA la).length ≤ 1000000) :
    Calls Tryd.prog 34 #[.slice A n c] w fun e w' => ∃ A' n' c', e = .returned (.slice A' n' c') ∧ Buf w' w.heap.size A' n' c' (joinA la) ∧ Below w.heap.size w w' := by
  have hmc : n ≤ c := by rw [← hn]; exact hA.1
  have HNM := Lib.hid (Nat.le_trans hmc hA.2.1)
  have hmc1 : (n : Int) ≤ (c : Int) := Int.ofNat_le.2 hmc
  have HN := Lib.hid hn
  have HA := Lib.hid hA
  clear hn hA hmc
  have HVL := Lib.hid hv
  clear hv
  go_enter Tryd.func34, Tryd.ntmps34
  go_wp2
  go_loopw [8, 3] (fun i r wr => ∃ (k m : Nat) (A' : Option Addr) (c' : Nat), k ≤ n ∧ i = .int .i64 (k : Int) ∧ r = .slice A' m c' ∧ Buf wr w.heap.size A' m c' (joinA (la.take k)) ∧ Below w.heap.size w wr) (fun i _ _ => n - (intOf i).toNat)
  case atStart => exact ⟨0, 0, none, 0, Nat.zero_le _, rfl, rfl, Buf.nil _ _, Below.refl _ _⟩
  case round =>
    obtain ⟨k, m, A', c', hk, rfl, rfl, hB, hbr⟩ := hrel
    by_cases hlt : k < n
    · skip
      have hd : decide (k < n) = true := by simpa using hlt
      have hkr : k < la.length := by rw [HN.out]; exact hlt
      obtain ⟨gp, op, hAe, hgp, hrow⟩ := HA.out.2.2 (Nat.lt_of_le_of_lt (Nat.zero_le _) hkr)
      obtain ⟨Aj, cj, h1, h2, h3⟩ := hrow k hkr
      obtain ⟨kd, v, hkv⟩ : ∃ kd v, la.getD k (0, []) = (kd, v) := ⟨_, _, rfl⟩
      rw [hkv] at h1 h2 h3
      obtain ⟨vl, hvl⟩ : ∃ vl, vl = v.length := ⟨_, rfl⟩
      have hc1' : wr.cell? ⟨gp, op + k * 2, none⟩ = some (.int .i64 kd) := (hbr.cell (p := ⟨gp, op + k * 2, none⟩) hgp).trans h1
      have hc2' : wr.cell? ⟨gp, op + k * 2 + 1, none⟩ = some (.slice Aj vl cj) := by rw [hvl]; exact (hbr.cell (p := ⟨gp, op + k * 2 + 1, none⟩) hgp).trans h2
      obtain ⟨hk0, hkn, hkw⟩ := ix_at hlt HNM.out
      have HV := Lib.hid (And.intro hvl.symm h3)
      have HB := Lib.hid hbr
      have HK := Lib.hid (And.intro hkr hkv)
      have HW := Lib.hid hkw
      subst hAe
      have hsn := take_snocA la k hkr
      rw [hkv] at hsn
      have HSN := Lib.hid (show joinA (la.take (k + 1)) = joinA (la.take k) ++ (if kd = 79 then v else []) by rw [hsn, joinA_snoc])
      have HBB := Lib.hid hB
      have HLE := Lib.hid (show (joinA (la.take (k + 1))).length ≤ 1000000 from Nat.le_trans (joinA_take la (k + 1)) HVL.out)
      clear hrow h1 h2 h3 hkv hvl hB hbr hgp hkw hk hlt hkr hsn
      go_upto_region 5 with ((with_reducible refine (?_ : wpList _ _ _ (Oper.mk none _ _ _ _ _ :: _) _ _)); go_loud (refine wpList_store_blk rfl 69 (.tmp 5) (.tmp 11) rfl rfl wr.heap.size [.int .i64 kd, .slice Aj vl cj] rfl rfl _ _ (Blk.new_of wr 69 #[.int .i64 0, .slice none 0 0] _ rfl) infA rfl (by simp [Value.oneCell']) ?_); intro w5 hS5 hg5)
      have h4a : Below wr.heap.size wr (wr.alloc (.cells #[.int .i64 0, .slice none 0 0] 69)) := (Below.refl _ _).alloc (Nat.le_refl _) _
      have HB5 := Lib.hid (HB.out.trans ((below_new h4a hg5 (Nat.le_refl _) h4a.size).mono HB.out.size))
      have HB5R := Lib.hid (below_new h4a hg5 (Nat.le_refl _) h4a.size)
      have hd0 : w5.cell? ⟨wr.heap.size, 0, none⟩ = some (.int .i64 kd) := hS5.cell 0
      have hd1 : w5.cell? ⟨wr.heap.size, 1, none⟩ = some (.slice Aj vl cj) := hS5.cell 1
      clear h4a hg5 hS5 hc1' hc2' HB hkn hd hmc1
      have HBB5 := Lib.hid (HBB.out.below HB5R.out)
      generalize joinA (la.take k) = BS at *
      generalize wr.heap.size = g5 at *
      by_cases h79 : kd = 79
      · subst h79
        rw [if_pos rfl] at HSN
        clear HBB HB5R
        go_wp2_with (((with_reducible refine (?_ : wpList _ _ _ (Oper.mk (some 18) _ _ _ _ _ :: _) _ _)); go_loud (refine wpList_append_far rfl (.tmp 15) (.tmp 17) 26 rfl w.heap.size _ m _ BS v _ rfl HBB5.out rfl (src_at ((HV.out.2.up HB5.out).src (Nat.le_refl _)) HV.out.1) (by have := HLE.out; rw [HSN.out, List.length_append] at this; rw [← HBB5.out.1]; omega) HB5.out.size (m + vl) (by rw [HV.out.1]) ?_); intro A7 c7 w7 hB7 hg7 _))
        have HB7 := Lib.hid hB7
        have HW7 := Lib.hid (below_own HB5.out HBB5.out hg7 (Nat.le_refl _) HB5.out.size)
        clear hB7 hg7 HBB5 HB5
        go_roundw
        case rel => exact ⟨k + 1, m + vl, A7, c7, (by have := HK.out.1; have := HN.out; omega), by rw [HW.out], rfl, by rw [HSN.out]; exact HB7.out, HW7.out⟩
        case measure => exact ix_meas2 HK.out.1 HN.out HNM.out
      · have hd8 : decide (kd = 79) = false := by simpa using h79
        rw [if_neg h79, List.append_nil] at HSN
        clear hd8 HBB HB5R
        have HK1 := Lib.hid HK.out.1
        clear HK HV
        go_wp2
        go_roundw
        case rel => exact ⟨k + 1, m, A', c', (by have := HK1.out; have := HN.out; omega), by rw [HW.out], rfl, by rw [HSN.out]; exact HBB5.out, HB5.out⟩
        case measure => exact ix_meas2 HK1.out HN.out HNM.out
    · have hd : decide (k < n) = false := by simpa using hlt
      have hkn : k = la.length := by have := HN.out; omega
      rw [hkn, List.take_length] at hB
      have HFIN := Lib.hid (And.intro hB hbr)
      clear hB hbr hk hlt hkn
      go_wp2
      go_ret
      exact ⟨_, _, _, rfl, HFIN.out.1, HFIN.out.2⟩
end Go.Proofs.YtbomckbekcaemaaDoor
