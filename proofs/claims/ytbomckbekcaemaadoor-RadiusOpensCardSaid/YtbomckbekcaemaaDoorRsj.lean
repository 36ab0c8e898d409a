/-
  The contracts of the document's marks and zero.
-/
import Derived.Test.YtbomckbekcaemaaDoorRsh
namespace Go.Proofs.YtbomckbekcaemaaDoor
open Go.RowKit

/-- How many Marks there are. -/
def cntM (la : Attrs) : Nat := (la.filter fun a => decide (a.1 = 80)).length
/-- Where the last one is. -/
def LastIx (la : Attrs) (r : Int) : Prop := (r = -1 ∧ ∀ j, j < la.length → (la.getD j (0, [])).1 ≠ 80) ∨ ∃ k : Nat, r = (k : Int) ∧ k < la.length ∧ (la.getD k (0, [])).1 = 80 ∧ ∀ j, k < j → j < la.length → (la.getD j (0, [])).1 ≠ 80
theorem cntM_snoc (la : Attrs) (a : Int × List UInt8) : cntM (la ++ [a]) = cntM la + if a.1 = 80 then 1 else 0 := by
  unfold cntM
  rw [List.filter_append, List.length_append]
  by_cases h : a.1 = 80 <;> simp [h]
theorem cntM_le (la : Attrs) : cntM la ≤ la.length := List.length_filter_le _ _
theorem cntM_has (la : Attrs) : decide (0 < cntM la) = hasMark la := by
  unfold cntM hasMark
  induction la with
  | nil => rfl
  | cons a la ih =>
    by_cases h : a.1 = 80
    · simp [h]
    · simp only [List.filter_cons, h, List.any_cons, decide_false, Bool.false_or]
      exact ih
theorem getD_snocM {la : Attrs} {a : Int × List UInt8} {j : Nat} (h : j < la.length) : (la ++ [a]).getD j (0, []) = la.getD j (0, []) := by
  rw [List.getD_eq_getElem?_getD, List.getD_eq_getElem?_getD, List.getElem?_append_left h]
theorem getD_lastM (la : Attrs) (a : Int × List UInt8) : (la ++ [a]).getD la.length (0, []) = a := by
  rw [List.getD_eq_getElem?_getD, List.getElem?_append_right (Nat.le_refl _)]; simp
theorem LastIx.other {la : Attrs} {a : Int × List UInt8} {r : Int} (h : LastIx la r) (ha : a.1 ≠ 80) : LastIx (la ++ [a]) r := by
  have hstep : ∀ j, j < (la ++ [a]).length → (∀ i, i < la.length → i = j → (la.getD i (0, [])).1 ≠ 80) → ((la ++ [a]).getD j (0, [])).1 ≠ 80 := by
    intro j hj hi
    rw [List.length_append, List.length_singleton] at hj
    rcases Nat.lt_or_ge j la.length with h1 | h1
    · rw [getD_snocM h1]; exact hi j h1 rfl
    · rw [show j = la.length by omega, getD_lastM]; exact ha
  rcases h with ⟨rfl, h⟩ | ⟨k, rfl, hk, h80, h⟩
  · exact .inl ⟨rfl, fun j hj => hstep j hj (fun i hi _ => h i hi)⟩
  · exact .inr ⟨k, rfl, by rw [List.length_append]; omega, by rw [getD_snocM hk]; exact h80, fun j hj1 hj2 => hstep j hj2 (fun i hi e => h i (by omega) hi)⟩
theorem LastIx.new {la : Attrs} {a : Int × List UInt8} {k : Nat} (hk : k = la.length) (ha : a.1 = 80) : LastIx (la ++ [a]) (k : Int) := by
  subst hk
  exact .inr ⟨la.length, rfl, by rw [List.length_append, List.length_singleton]; omega, by rw [getD_lastM]; exact ha, fun j h1 h2 => by rw [List.length_append, List.length_singleton] at h2; omega⟩
set_option maxRecDepth 100000 in
set_option maxHeartbeats 1000000 in
theorem rmarks_e (c n : Nat) (code id : Int) (Q : List UInt8) (A : Option Addr) (la : Attrs) (w : World) (hQ : Q.length = 16) (hn : la.length = n) (hA : SIn w w.heap.size A c la) :
    Calls Tryd.prog 50 #[.agg (pkC code id Q A n c).toArray] w fun e w' => ∃ r, e = .returned (.tuple #[.int .i64 (cntM la : Int), .int .i64 r]) ∧ LastIx la r ∧ Below w.heap.size w w' := by
  have hmc : n ≤ c := by rw [← hn]; exact hA.1
  have HNM := Lib.hid (Nat.le_trans hmc hA.2.1)
  have hmc1 : (n : Int) ≤ (c : Int) := Int.ofNat_le.2 hmc
  have HQ := Lib.hid hQ
  have HN := Lib.hid hn
  have HA := Lib.hid hA
  clear hQ hn hA hmc
  go_enter Tryd.func50, Tryd.ntmps50
  go_upto_region 1 with (fail)
  have hP := Blk.new_of w 25 (pkC code id Q A n c).toArray (pkC code id Q A n c) rfl
  have hb0 : Below w.heap.size w (w.alloc (.cells (pkC code id Q A n c).toArray 25)) := (Below.refl _ _).alloc (Nat.le_refl _) _
  obtain ⟨g, hg⟩ : ∃ g, g = w.heap.size := ⟨_, rfl⟩
  rw [← hg] at hP
  simp only [← hg]
  have hc18 : (w.alloc (.cells (pkC code id Q A n c).toArray 25)).cell? ⟨g, 18, none⟩ = some (.slice A n c) := (hP.cell 18).trans (pkC_last code id Q A n c HQ.out)
  have HBW := Lib.hid hb0
  clear hg hP hb0
  generalize w.alloc (.cells (pkC code id Q A n c).toArray 25) = w1 at *
  go_wp2
  go_loopw [6, 4, 5] (fun i nv av wr => w1 = wr ∧ ∃ (k q : Nat) (r : Int), k ≤ n ∧ i = .int .i64 (k : Int) ∧ nv = .int .i64 (q : Int) ∧ Hid (q = cntM (la.take k)) ∧ av = .int .i64 r ∧ LastIx (la.take k) r) (fun i _ _ _ => n - (intOf i).toNat)
  case atStart => exact ⟨rfl, 0, 0, -1, Nat.zero_le _, rfl, rfl, Lib.hid rfl, rfl, .inl ⟨rfl, fun j hj => by simp at hj⟩⟩
  case round =>
    obtain ⟨hww, k, q, r, hk, rfl, rfl, HQK, rfl, hix⟩ := hrel
    subst hww
    by_cases hlt : k < n
    · have hd : (k : Int) < (n : Int) := by omega
      have hkr : k < la.length := by rw [HN.out]; exact hlt
      obtain ⟨gp, op, hAe, hgp, hrow⟩ := HA.out.2.2 (Nat.lt_of_le_of_lt (Nat.zero_le _) hkr)
      obtain ⟨h1, _⟩ := hrow k hkr
      obtain ⟨kd, v, hkv⟩ : ∃ kd v, la.getD k (0, []) = (kd, v) := ⟨_, _, rfl⟩
      rw [hkv] at h1
      have hc1 : w1.cell? ⟨gp, op + k * 2, none⟩ = some (.int .i64 kd) := (HBW.out.cell (p := ⟨gp, op + k * 2, none⟩) hgp).trans h1
      have hsn := take_snocA la k hkr
      rw [hkv] at hsn
      obtain ⟨hk0, hkn, hkw⟩ := ix_at hlt HNM.out
      have hql := HQK.out
      have hqk : q ≤ k := by rw [hql]; exact Nat.le_trans (cntM_le _) (by rw [List.length_take]; omega)
      have HK := Lib.hid (And.intro hkr hkw)
      have HIX := Lib.hid hix
      have HSN := Lib.hid hsn
      have hlk : (la.take k).length = k := by rw [List.length_take]; omega
      have HLK := Lib.hid hlk
      obtain ⟨q1, hq1, hq2⟩ : ∃ q1 : Nat, (q : Int) + 1 = (q1 : Int) ∧ wrap64 (q1 : Int) = (q1 : Int) := ⟨q + 1, by omega, by have := HNM.out; unfold wrap64; omega⟩
      have HQ1 := Lib.hid (show q1 = q + 1 by omega)
      have HQW := Lib.hid hq2
      subst hAe
      clear hrow h1 hkv hgp hkw hlt hkr hsn hql hqk hlk hix hk
      by_cases h80 : kd = 80
      · subst h80
        go_wp2
        go_roundw
        case rel => exact ⟨trivial, k + 1, q1, (k : Int), (by have := HK.out.1; have := HN.out; omega), by rw [HK.out.2], by rw [HQW.out], Lib.hid (by rw [HSN.out, cntM_snoc, if_pos rfl, ← HQK.out, HQ1.out]), rfl, by rw [HSN.out]; exact LastIx.new HLK.out.symm rfl⟩
        case measure => exact ix_meas2 HK.out.1 HN.out HNM.out
      · have H80 := Lib.hid h80
        clear hq1 hq2
        go_wp2
        go_roundw
        case rel => exact ⟨trivial, k + 1, q, r, (by have := HK.out.1; have := HN.out; omega), by rw [HK.out.2], rfl, Lib.hid (by rw [HSN.out, cntM_snoc, if_neg H80.out, ← HQK.out, Nat.add_zero]), rfl, by rw [HSN.out]; exact HIX.out.other H80.out⟩
        case measure => exact ix_meas2 HK.out.1 HN.out HNM.out
    · have hd : ¬ (k : Int) < (n : Int) := by omega
      have hkn : k = la.length := by have := HN.out; omega
      rw [hkn, List.take_length] at hix
      have hq := HQK.out
      rw [hkn, List.take_length] at hq
      have HFIN := Lib.hid (And.intro hq hix)
      clear hkn hk hlt hq hix
      go_wp2
      go_ret2
      exact ⟨r, by rw [← HFIN.out.1] <;> rfl, HFIN.out.2, HBW.out⟩
set_option maxRecDepth 100000 in
set_option maxHeartbeats 1000000 in
theorem rzero_e (w : World) :
    Calls Tryd.prog 70 #[] w fun e w' => e = .returned (.string ⟨zQ.toArray⟩) ∧ Below w.heap.size w w' := by
  have hmk0 := fun (W : World) => (show (Instr.makeSlice 26 (.int .i64 16) (.int .i64 16)).run Tryd.prog W = .ok (.slice (some ⟨W.heap.size, 0, none⟩) 16 16) (W.alloc (.cells ((List.replicate 16 (0 : UInt8)).map B8).toArray 5)) from run_make_bytes .i64 .i64 16 16 (Nat.le_refl _) (by decide) W)
  obtain ⟨Z, hZ⟩ : ∃ Z, Z = List.replicate 16 (0 : UInt8) := ⟨_, rfl⟩
  rw [← hZ] at hmk0
  have HZ := Lib.hid (show Z = zQ from hZ)
  have hl : Z.length = 16 := by rw [hZ]; rfl
  have hmk := hmk0 w
  have hcv := conv_in hl ((buf_lit w Z 16 5 hl (by decide)).toIn (Nat.le_refl _))
  have HB := Lib.hid ((Below.refl w.heap.size w).alloc (Nat.le_refl _) (.cells (Z.map B8).toArray 5))
  clear hZ hmk0 hl
  go_enter Tryd.func70, Tryd.ntmps70
  go_wp2
  go_ret
  exact ⟨by rw [← HZ.out] <;> rfl, HB.out⟩
end Go.Proofs.YtbomckbekcaemaaDoor
