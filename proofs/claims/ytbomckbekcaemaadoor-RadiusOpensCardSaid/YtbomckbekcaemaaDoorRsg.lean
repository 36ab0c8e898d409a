/-
  The contract of the document's Write.
-/
import Derived.Test.YtbomckbekcaemaaDoorRsf
namespace Go.Proofs.YtbomckbekcaemaaDoor
open Go.RowKit

theorem bad_write {code id : Int} {Q : List UInt8} {la : Attrs} (h : pkOK code id la = false) : writeE code id Q la = ([], 2) := by unfold writeE; rw [if_neg (by simp [h])]
theorem fresh_ne {w : World} {A A' : Option Addr} {g : Nat} (h : some g ≠ ownOf A) (hf : Fresh w A A') (hg : g < w.heap.size) : some g ≠ ownOf A' := by
  rcases hf with rfl | ⟨k, rfl, hk⟩
  · exact h
  · intro e
    simp only [ownOf, Option.some.injEq] at e
    omega
theorem ix_a3 {v : List UInt8} {m : Nat} (h : v.length ≤ 253 ∧ m ≤ 4096) : m + 2 + v.length ≤ 1099511627776 := by omega
theorem ix_attr2 {kd : Int} {v : List UInt8} (h1 : ¬ kd < 1) (h2 : ¬ 255 < kd) (h3 : ¬ (253 : Int) < (v.length : Int)) :
    ∃ (t : Nat) (x y : UInt8), attrB (kd, v) = [x, y] ++ v ∧ (v.length : Int) + 2 = (t : Int) ∧ IntKind.i64.wrap (t : Int) = (t : Int) ∧ IntKind.u8.wrap (t : Int) = (y.toNat : Int) ∧ IntKind.u8.wrap kd = (x.toNat : Int) ∧ v.length ≤ 253 := by
  refine ⟨v.length + 2, by8 kd, by8 (2 + (v.length : Int)), rfl, by omega, by rw [IntKind.wrap_i64]; omega, ?_, by8_wrap (by omega), by omega⟩
  rw [← by8_wrap (by omega)]; congr 1; omega
theorem ix_fin {code id : Int} {Q : List UInt8} {la : Attrs} {m : Nat} (hc : 0 ≤ code ∧ code ≤ 255) (hi : 0 ≤ id ∧ id ≤ 255) (hm : m = sizeA la) (h : m + 20 ≤ 4096) :
    ∃ (t : Nat) (xc xi xh xl : UInt8), pkB code id Q la = ([xc, xi, xh, xl] ++ Q) ++ flatA la ∧ (m : Int) + 20 = (t : Int) ∧ wrap64 (t : Int) = (t : Int) ∧ IntKind.u8.wrap code = (xc.toNat : Int) ∧ IntKind.u8.wrap id = (xi.toNat : Int) ∧ IntKind.u8.wrap ((t : Int) / 256) = (xh.toNat : Int) ∧ IntKind.u8.wrap (t : Int) = (xl.toNat : Int) ∧ ¬ (4096 : Int) < (t : Int) := by
  subst hm
  refine ⟨20 + sizeA la, by8 code, by8 id, by8 ((20 + sizeA la) / 256 : Nat), by8 ((20 + sizeA la) % 256 : Nat), rfl, by omega, by unfold wrap64; omega, by8_wrap hc, by8_wrap hi, ?_, ?_, by omega⟩
  · rw [← ix_hi (by omega), IntKind.wrap_u8]
  · rw [← ix_lo, IntKind.wrap_u8]
theorem all_snoc {la : Attrs} {k : Nat} (h : (la.take k).all attrOK = true) (hk : k < la.length) (ha : attrOK (la.getD k (0, [])) = true) : (la.take (k + 1)).all attrOK = true := by
  rw [take_snocA la k hk, List.all_append, h]; simp only [List.all_cons, List.all_nil, ha, Bool.and_true]
set_option maxRecDepth 100000 in
set_option maxHeartbeats 1000000 in
theorem rwrite_code (c n : Nat) (code id : Int) (Q : List UInt8) (A : Option Addr) (la : Attrs) (w : World) (_hQ : Q.length = 16) (_hn : la.length = n) (_hA : SIn w w.heap.size A c la) (hc : codeOK code = false) :
    Calls Tryd.prog 14 #[.agg (pkC code id Q A n c).toArray] w fun e w' => e = .returned (.tuple #[.string ⟨(writeE code id Q la).1.toArray⟩, .int .i64 ((writeE code id Q la).2 : Int)]) ∧ Below w.heap.size w w' := by
  have HZ := Lib.hid (show writeE code id Q la = ([], 2) from bad_write (pk_code hc))
  have HCD := Lib.hid (fun (W : World) => rcode_e code W)
  rw [hc] at HCD
  clear hc
  go_enter Tryd.func14, Tryd.ntmps14
  go_upto_region 1 with (fail)
  have hP := Blk.new_of w 25 (pkC code id Q A n c).toArray (pkC code id Q A n c) rfl
  have hb0 : Below w.heap.size w (w.alloc (.cells (pkC code id Q A n c).toArray 25)) := (Below.refl _ _).alloc (Nat.le_refl _) _
  obtain ⟨g, hg⟩ : ∃ g, g = w.heap.size := ⟨_, rfl⟩
  rw [← hg] at hP
  simp only [← hg]
  have f0 : (w.alloc (.cells (pkC code id Q A n c).toArray 25)).cell? ⟨g, 0, none⟩ = some (.int .i64 code) := hP.cell 0
  have HP := Lib.hid hP
  have HBW := Lib.hid hb0
  clear hg hP hb0
  generalize w.alloc (.cells (pkC code id Q A n c).toArray 25) = w1 at *
  go_wp2_with (go_at_call 46; refine (HCD.out _).mono ?_; rintro e w2 ⟨rfl, hb2⟩; have f1 : w2.cell? ⟨g, 1, none⟩ = some (.int .i64 id) := (HP.out.below hb2 HP.out.lt).cell 1)
  go_ret2
  exact ⟨by rw [HZ.out]; rfl, HBW.out.trans (hb2.mono HBW.out.size)⟩
set_option maxRecDepth 100000 in
set_option maxHeartbeats 1000000 in
theorem rwrite_id1 (c n : Nat) (code id : Int) (Q : List UInt8) (A : Option Addr) (la : Attrs) (w : World) (_hQ : Q.length = 16) (_hn : la.length = n) (_hA : SIn w w.heap.size A c la) (hc : codeOK code = true) (hi : id < 0) :
    Calls Tryd.prog 14 #[.agg (pkC code id Q A n c).toArray] w fun e w' => e = .returned (.tuple #[.string ⟨(writeE code id Q la).1.toArray⟩, .int .i64 ((writeE code id Q la).2 : Int)]) ∧ Below w.heap.size w w' := by
  have HZ := Lib.hid (show writeE code id Q la = ([], 2) from bad_write (pk_id (by omega)))
  have HCD := Lib.hid (fun (W : World) => rcode_e code W)
  rw [hc] at HCD
  clear hc
  go_enter Tryd.func14, Tryd.ntmps14
  go_upto_region 1 with (fail)
  have hP := Blk.new_of w 25 (pkC code id Q A n c).toArray (pkC code id Q A n c) rfl
  have hb0 : Below w.heap.size w (w.alloc (.cells (pkC code id Q A n c).toArray 25)) := (Below.refl _ _).alloc (Nat.le_refl _) _
  obtain ⟨g, hg⟩ : ∃ g, g = w.heap.size := ⟨_, rfl⟩
  rw [← hg] at hP
  simp only [← hg]
  have f0 : (w.alloc (.cells (pkC code id Q A n c).toArray 25)).cell? ⟨g, 0, none⟩ = some (.int .i64 code) := hP.cell 0
  have HP := Lib.hid hP
  have HBW := Lib.hid hb0
  clear hg hP hb0
  generalize w.alloc (.cells (pkC code id Q A n c).toArray 25) = w1 at *
  go_wp2_with (go_at_call 46; refine (HCD.out _).mono ?_; rintro e w2 ⟨rfl, hb2⟩; have f1 : w2.cell? ⟨g, 1, none⟩ = some (.int .i64 id) := (HP.out.below hb2 HP.out.lt).cell 1)
  go_ret2
  exact ⟨by rw [HZ.out]; rfl, HBW.out.trans (hb2.mono HBW.out.size)⟩
set_option maxRecDepth 100000 in
set_option maxHeartbeats 1000000 in
theorem rwrite_id2 (c n : Nat) (code id : Int) (Q : List UInt8) (A : Option Addr) (la : Attrs) (w : World) (_hQ : Q.length = 16) (_hn : la.length = n) (_hA : SIn w w.heap.size A c la) (hc : codeOK code = true) (hi : ¬ id < 0) (hj : 255 < id) :
    Calls Tryd.prog 14 #[.agg (pkC code id Q A n c).toArray] w fun e w' => e = .returned (.tuple #[.string ⟨(writeE code id Q la).1.toArray⟩, .int .i64 ((writeE code id Q la).2 : Int)]) ∧ Below w.heap.size w w' := by
  have HZ := Lib.hid (show writeE code id Q la = ([], 2) from bad_write (pk_id (by omega)))
  have HCD := Lib.hid (fun (W : World) => rcode_e code W)
  rw [hc] at HCD
  clear hc
  go_enter Tryd.func14, Tryd.ntmps14
  go_upto_region 1 with (fail)
  have hP := Blk.new_of w 25 (pkC code id Q A n c).toArray (pkC code id Q A n c) rfl
  have hb0 : Below w.heap.size w (w.alloc (.cells (pkC code id Q A n c).toArray 25)) := (Below.refl _ _).alloc (Nat.le_refl _) _
  obtain ⟨g, hg⟩ : ∃ g, g = w.heap.size := ⟨_, rfl⟩
  rw [← hg] at hP
  simp only [← hg]
  have f0 : (w.alloc (.cells (pkC code id Q A n c).toArray 25)).cell? ⟨g, 0, none⟩ = some (.int .i64 code) := hP.cell 0
  have HP := Lib.hid hP
  have HBW := Lib.hid hb0
  clear hg hP hb0
  generalize w.alloc (.cells (pkC code id Q A n c).toArray 25) = w1 at *
  go_wp2_with (go_at_call 46; refine (HCD.out _).mono ?_; rintro e w2 ⟨rfl, hb2⟩; have f1 : w2.cell? ⟨g, 1, none⟩ = some (.int .i64 id) := (HP.out.below hb2 HP.out.lt).cell 1)
  go_ret2
  exact ⟨by rw [HZ.out]; rfl, HBW.out.trans (hb2.mono HBW.out.size)⟩
set_option maxRecDepth 100000 in
set_option maxHeartbeats 1000000 in
theorem rwrite_fit (c n : Nat) (code id : Int) (Q : List UInt8) (A : Option Addr) (la : Attrs) (w : World) (hQ : Q.length = 16) (hn : la.length = n) (hA : SIn w w.heap.size A c la) (hc : codeOK code = true) (hi : ¬ id < 0) (hj : ¬ 255 < id) :
    Calls Tryd.prog 14 #[.agg (pkC code id Q A n c).toArray] w fun e w' => e = .returned (.tuple #[.string ⟨(writeE code id Q la).1.toArray⟩, .int .i64 ((writeE code id Q la).2 : Int)]) ∧ Below w.heap.size w w' := by
  have HCD := Lib.hid (fun (W : World) => rcode_e code W)
  rw [hc] at HCD
  have HOKC := Lib.hid (And.intro hc (show 0 ≤ id ∧ id ≤ 255 by omega))
  have HRC := Lib.hid (show 0 ≤ code ∧ code ≤ 255 by unfold codeOK at hc; simp at hc; rcases hc with ((h | h) | h) | h <;> omega)
  have HQ := Lib.hid hQ
  have HN := Lib.hid hn
  have HA := Lib.hid hA
  have hmc : n ≤ c := by rw [← hn]; exact hA.1
  have hmc1 : (n : Int) ≤ (c : Int) := Int.ofNat_le.2 hmc
  have HNM := Lib.hid (Nat.le_trans hmc hA.2.1)
  clear hc hQ hn hA hmc
  go_enter Tryd.func14, Tryd.ntmps14
  go_upto_region 1 with (fail)
  have hP := Blk.new_of w 25 (pkC code id Q A n c).toArray (pkC code id Q A n c) rfl
  have hb0 : Below w.heap.size w (w.alloc (.cells (pkC code id Q A n c).toArray 25)) := (Below.refl _ _).alloc (Nat.le_refl _) _
  obtain ⟨g, hg⟩ : ∃ g, g = w.heap.size := ⟨_, rfl⟩
  rw [← hg] at hP
  simp only [← hg]
  have f0 : (w.alloc (.cells (pkC code id Q A n c).toArray 25)).cell? ⟨g, 0, none⟩ = some (.int .i64 code) := hP.cell 0
  have HP := Lib.hid hP
  have HBW := Lib.hid hb0
  clear hg hP hb0
  generalize w.alloc (.cells (pkC code id Q A n c).toArray 25) = w1 at *
  go_wp2_with (go_at_call 46; refine (HCD.out _).mono ?_; rintro e w2 ⟨rfl, hb2⟩; have f1 : w2.cell? ⟨g, 1, none⟩ = some (.int .i64 id) := (HP.out.below hb2 HP.out.lt).cell 1)
  have HP2 := Lib.hid (HP.out.below hb2 HP.out.lt)
  have HBW2 := Lib.hid (HBW.out.trans (hb2.mono HBW.out.size))
  have HA2 := Lib.hid (HA.out.up HBW2.out)
  have HC0 := Lib.hid (fun (W : World) (h : Below w2.heap.size w2 W) => (show W.cell? ⟨g, 0, none⟩ = some (.int .i64 code) from (HP2.out.below h HP2.out.lt).cell 0))
  have HC1 := Lib.hid (fun (W : World) (h : Below w2.heap.size w2 W) => (show W.cell? ⟨g, 1, none⟩ = some (.int .i64 id) from (HP2.out.below h HP2.out.lt).cell 1))
  have HC18 := Lib.hid (fun (W : World) (h : Below w2.heap.size w2 W) => (show W.cell? ⟨g, 18, none⟩ = some (.slice A n c) from ((HP2.out.below h HP2.out.lt).cell 18).trans (pkC_last code id Q A n c HQ.out)))
  have HQI2 := Lib.hid (in_auth HP2.out HQ.out)
  clear f0 f1 hb2 hi hj
  go_loopw [5, 4] (fun i lv wr => ∃ (k m : Nat) (A' : Option Addr) (c' : Nat), k ≤ n ∧ i = .int .i64 (k : Int) ∧ lv = .slice A' m c' ∧ Buf wr w2.heap.size A' m c' (flatA (la.take k)) ∧ (la.take k).all attrOK = true ∧ m ≤ 4096 ∧ Below w2.heap.size w2 wr) (fun i _ _ => n - (intOf i).toNat)
  case atStart => exact ⟨0, 0, none, 0, Nat.zero_le _, rfl, rfl, Buf.nil _ _, rfl, by decide, Below.refl _ _⟩
  case round =>
    obtain ⟨k, m, A', c', hk, rfl, rfl, hB, hall, hm9, hbr⟩ := hrel
    have hc18 := HC18.out wr hbr
    by_cases hlt : k < n
    · have hd : decide (k < n) = true := by simpa using hlt
      have hkr : k < la.length := by rw [HN.out]; exact hlt
      obtain ⟨gp, op, hAe, hgp, hrow⟩ := HA2.out.2.2 (Nat.lt_of_le_of_lt (Nat.zero_le _) hkr)
      obtain ⟨h1, h2⟩ := hrow k hkr
      obtain ⟨kd, v, hkv⟩ : ∃ kd v, la.getD k (0, []) = (kd, v) := ⟨_, _, rfl⟩
      rw [hkv] at h1 h2
      have hc1' : wr.cell? ⟨gp, op + k * 2, none⟩ = some (.int .i64 kd) := (hbr.cell (p := ⟨gp, op + k * 2, none⟩) hgp).trans h1
      have hc2' : wr.cell? ⟨gp, op + k * 2 + 1, none⟩ = some (.string ⟨v.toArray⟩) := (hbr.cell (p := ⟨gp, op + k * 2 + 1, none⟩) hgp).trans h2
      obtain ⟨hk0, hkn, hkw⟩ := ix_at hlt HNM.out
      have HK := Lib.hid (And.intro hkr (And.intro hkw hkv))
      have HB := Lib.hid hB
      have HBR := Lib.hid hbr
      have HALL := Lib.hid hall
      have HM9 := Lib.hid hm9
      subst hAe
      clear hrow h1 h2 hkv hB hbr hall hm9 hgp hkw hk hlt hkr
      go_upto_region 8 with ((with_reducible refine (?_ : wpList _ _ _ (Oper.mk none _ _ _ _ _ :: _) _ _)); go_loud (refine wpList_store_blk rfl 62 (.tmp 6) (.tmp 33) rfl rfl wr.heap.size [.int .i64 kd, .string ⟨v.toArray⟩] rfl rfl _ _ (Blk.new_of wr 62 #[.int .i64 0, .string ⟨#[]⟩] _ rfl) infS2 rfl (by simp [Value.oneCell']) ?_); intro w5 hS5 hg5)
      have h4a : Below wr.heap.size wr (wr.alloc (.cells #[.int .i64 0, .string ⟨#[]⟩] 62)) := (Below.refl _ _).alloc (Nat.le_refl _) _
      have hb5 : Below wr.heap.size wr w5 := below_new h4a hg5 (Nat.le_refl _) h4a.size
      have hd0 : w5.cell? ⟨wr.heap.size, 0, none⟩ = some (.int .i64 kd) := hS5.cell 0
      have hd1 : w5.cell? ⟨wr.heap.size, 1, none⟩ = some (.string ⟨v.toArray⟩) := hS5.cell 1
      have HB5 := Lib.hid (HB.out.below hb5)
      have HW5 := Lib.hid (HBR.out.trans (hb5.mono HBR.out.size))
      have hne : some wr.heap.size ≠ ownOf A' := fun e => Nat.lt_irrefl _ (own_lt HB.out e.symm)
      obtain ⟨g5, hg5e⟩ : ∃ g5, g5 = wr.heap.size := ⟨_, rfl⟩
      rw [← hg5e] at hS5 hd0 hd1 hne ⊢
      have HS5 := Lib.hid (And.intro hS5 hne)
      clear h4a hg5 hS5 hc1' hc2' HB HBR hk0 hkn hd hmc1 hb5 hne hg5e hc18
      by_cases hk1 : kd < 1
      · skip
        have HZ := Lib.hid (show writeE code id Q la = ([], 2) from bad_write (by rw [pk_attrs HOKC.out.1 HOKC.out.2]; exact attrs_bad HK.out.1 (by rw [HK.out.2.2]; exact attr_lo hk1)))
        clear HK
        go_wp2
        go_ret2
        exact ⟨by rw [HZ.out]; rfl, HBW2.out.trans (HW5.out.mono HBW2.out.size)⟩
      by_cases hk2 : 255 < kd
      · skip
        have HZ := Lib.hid (show writeE code id Q la = ([], 2) from bad_write (by rw [pk_attrs HOKC.out.1 HOKC.out.2]; exact attrs_bad HK.out.1 (by rw [HK.out.2.2]; exact attr_hi hk2)))
        clear HK
        go_wp2
        go_ret2
        exact ⟨by rw [HZ.out]; rfl, HBW2.out.trans (HW5.out.mono HBW2.out.size)⟩
      by_cases hk3 : (253 : Int) < (v.length : Int)
      · skip
        have HZ := Lib.hid (show writeE code id Q la = ([], 2) from bad_write (by rw [pk_attrs HOKC.out.1 HOKC.out.2]; exact attrs_bad HK.out.1 (by rw [HK.out.2.2]; exact attr_long (by omega))))
        clear HK
        go_wp2
        go_ret2
        exact ⟨by rw [HZ.out]; rfl, HBW2.out.trans (HW5.out.mono HBW2.out.size)⟩
      have HAOK := Lib.hid (attr_ok hk1 hk2 (show ¬ 253 < v.length by omega))
      obtain ⟨tt, x, y, hF, ht1, ht2, ht3, ht4, hvl9⟩ := ix_attr2 hk1 hk2 hk3
      have HV := Lib.hid (And.intro hvl9 HM9.out)
      obtain ⟨BS, hBS⟩ : ∃ BS, BS = flatA (la.take k) := ⟨_, rfl⟩
      rw [← hBS] at HB5
      have HBS := Lib.hid (And.intro hBS (show flatA (la.take (k + 1)) = BS ++ [x, y] ++ v by rw [take_snocA la k HK.out.1, flatA_snoc, HK.out.2.2, hF, ← hBS, List.append_assoc]))
      clear hBS hF hvl9
      go_upto_region 10 with (fail)
      clear hk1 hk2 hk3 hd0 hd1
      refine wp_region_noPanic ?_
      refine wp_region_held_drew (S := (fun W => Below w2.heap.size w2 W ∧ Blk W g5 62 [.int .i64 kd, .string ⟨v.toArray⟩])) (by kernel_rfl) (by exact ⟨below_drewN HW5.out 1, HS5.out.1.drew⟩) (fun hHeld => ?_)
      refine wpAnyH_take (i := 0) (oi := ⟨_, _, _, _, _, _⟩) (v := ?_) rfl (by kernel_rfl) (by kernel_rfl) (by kernel_rfl) (fun _ _ _ h => h) (Or.inl ⟨by rfl, ?_⟩) hHeld ?_
      rotate_left 1
      · (intro W hSw; go_simp; try with_reducible rfl)
      try simp only [Act.put, List.setIfInBounds_toArray, List.set_cons_zero, List.set_cons_succ]
      refine wpAnyH_take (i := 1) (oi := ⟨_, _, _, _, _, _⟩) (v := ?_) rfl (by kernel_rfl) (by kernel_rfl) (by kernel_rfl) (fun _ _ _ h => h) (Or.inl ⟨by rfl, ?_⟩) hHeld ?_
      rotate_left 1
      · (intro W hSw; go_simp; try with_reducible rfl)
      try simp only [Act.put, List.setIfInBounds_toArray, List.set_cons_zero, List.set_cons_succ]
      refine wpAnyH_take (i := 2) (oi := ⟨_, _, _, _, _, _⟩) (v := ?_) rfl (by kernel_rfl) (by kernel_rfl) (by kernel_rfl) (fun _ _ _ h => h) (Or.inl ⟨by rfl, ?_⟩) hHeld ?_
      rotate_left 1
      · (intro W hSw; have hcc := hSw.2.cell 0; go_simp; try with_reducible rfl)
      try simp only [Act.put, List.setIfInBounds_toArray, List.set_cons_zero, List.set_cons_succ]
      refine wpAnyH_take (i := 3) (oi := ⟨_, _, _, _, _, _⟩) (v := ?_) rfl (by kernel_rfl) (by kernel_rfl) (by kernel_rfl) (fun _ _ _ h => h) (Or.inl ⟨by rfl, ?_⟩) hHeld ?_
      rotate_left 1
      · (intro W hSw; go_simp; try with_reducible rfl)
      try simp only [Act.put, List.setIfInBounds_toArray, List.set_cons_zero, List.set_cons_succ]
      refine wpAnyH_take (i := 4) (oi := ⟨_, _, _, _, _, _⟩) (v := ?_) rfl (by kernel_rfl) (by kernel_rfl) (by kernel_rfl) (fun _ _ _ h => h) (Or.inl ⟨by rfl, ?_⟩) hHeld ?_
      rotate_left 1
      · (intro W hSw; go_simp; try with_reducible rfl)
      try simp only [Act.put, List.setIfInBounds_toArray, List.set_cons_zero, List.set_cons_succ]
      refine wpAnyH_take (i := 5) (oi := ⟨_, _, _, _, _, _⟩) (v := ?_) rfl (by kernel_rfl) (by kernel_rfl) (by kernel_rfl) (fun _ _ _ h => h) (Or.inl ⟨by rfl, ?_⟩) hHeld ?_
      rotate_left 1
      · (intro W hSw; have hcc := hSw.2.cell 1; go_simp; try with_reducible rfl)
      try simp only [Act.put, List.setIfInBounds_toArray, List.set_cons_zero, List.set_cons_succ]
      refine wpAnyH_take (i := 6) (oi := ⟨_, _, _, _, _, _⟩) (v := ?_) rfl (by kernel_rfl) (by kernel_rfl) (by kernel_rfl) (fun _ _ _ h => h) (Or.inl ⟨by rfl, ?_⟩) hHeld ?_
      rotate_left 1
      · (intro W hSw; go_simp; try with_reducible rfl)
      try simp only [Act.put, List.setIfInBounds_toArray, List.set_cons_zero, List.set_cons_succ]
      refine wpAnyH_take (i := 7) (oi := ⟨_, _, _, _, _, _⟩) (v := ?_) rfl (by kernel_rfl) (by kernel_rfl) (by kernel_rfl) (fun _ _ _ h => h) (Or.inl ⟨by rfl, ?_⟩) hHeld ?_
      rotate_left 1
      · (intro W hSw; go_simp; try with_reducible rfl)
      try simp only [Act.put, List.setIfInBounds_toArray, List.set_cons_zero, List.set_cons_succ]
      refine wpAnyH_take (i := 8) (oi := ⟨_, _, _, _, _, _⟩) (v := ?_) rfl (by kernel_rfl) (by kernel_rfl) (by kernel_rfl) (fun _ _ _ h => h) (Or.inl ⟨by rfl, ?_⟩) hHeld ?_
      rotate_left 1
      · (intro W hSw; go_simp; try with_reducible rfl)
      try simp only [Act.put, List.setIfInBounds_toArray, List.set_cons_zero, List.set_cons_succ]
      refine wpAnyH_take (i := 11) (oi := ⟨_, _, _, _, _, _⟩) (v := ?_) rfl (by kernel_rfl) (by kernel_rfl) (by kernel_rfl) (fun _ _ _ h => h) (Or.inl ⟨by rfl, ?_⟩) hHeld ?_
      rotate_left 1
      · (intro W hSw; go_simp; try with_reducible rfl)
      try simp only [Act.put, List.setIfInBounds_toArray, List.set_cons_zero, List.set_cons_succ]
      refine wpAnyH_take (i := 12) (oi := ⟨_, _, _, _, _, _⟩) (v := ?_) rfl (by kernel_rfl) (by kernel_rfl) (by kernel_rfl) (fun _ _ _ h => h) (Or.inl ⟨by rfl, ?_⟩) hHeld ?_
      rotate_left 1
      · (intro W hSw; have hcc := hSw.2.cell 1; go_simp; try with_reducible rfl)
      try simp only [Act.put, List.setIfInBounds_toArray, List.set_cons_zero, List.set_cons_succ]
      replace hHeld : Below w2.heap.size w2 w5.drew ∧ Blk w5.drew g5 62 [.int .i64 kd, .string ⟨v.toArray⟩] := hHeld
      have hBd := HB5.out.drew
      have hgd : w5.heap.size = w5.drew.heap.size := rfl
      generalize w5.drew = wd at *
      refine wpAnyH_ready (rs := [9]) (by kernel_rfl) (by simp) ?_
      refine AllReadyH.cons (o := ⟨_, _, _, _, _, _⟩) rfl (fun K hK => ?_) AllReadyH.nil
      go_simp
      have hz := hHeld.1.size
      have hla : Below wd.heap.size wd (wd.alloc (.cells #[.int .u8 (x.toNat : Int), .int .u8 (y.toNat : Int)] 5)) := (Below.refl _ _).alloc (Nat.le_refl _) _
      have hlit := buf_lit wd [x, y] 2 5 rfl (by decide)
      replace hlit : Buf (wd.alloc (.cells #[.int .u8 (x.toNat : Int), .int .u8 (y.toNat : Int)] 5)) wd.heap.size (some ⟨wd.heap.size, 0, none⟩) 2 2 [x, y] := hlit
      refine hK.out _ _ ⟨hHeld.1.alloc hz _, hHeld.2.alloc _⟩ (fun hHeld => ?_)
      clear hK K
      replace hHeld : Below w2.heap.size w2 (wd.alloc (.cells #[.int .u8 (x.toNat : Int), .int .u8 (y.toNat : Int)] 5)) ∧ Blk (wd.alloc (.cells #[.int .u8 (x.toNat : Int), .int .u8 (y.toNat : Int)] 5)) g5 62 [.int .i64 kd, .string ⟨v.toArray⟩] := hHeld
      have hBa := hBd.alloc (.cells #[.int .u8 (x.toNat : Int), .int .u8 (y.toNat : Int)] 5)
      clear hBd hla
      generalize wd.alloc (.cells #[.int .u8 (x.toNat : Int), .int .u8 (y.toNat : Int)] 5) = wa at *
      have hsza := hHeld.1.size
      try simp only [Act.put, List.setIfInBounds_toArray, List.set_cons_zero, List.set_cons_succ]
      refine wpAnyH_ready (rs := [10]) (by kernel_rfl) (by simp) ?_
      refine AllReadyH.cons (o := ⟨_, _, _, _, _, _⟩) rfl (fun K hK => ?_) AllReadyH.nil
      refine step_append_far rfl (.tmp 48) (.tmp 57) 26 rfl w2.heap.size _ m _ BS [x, y] _ rfl hBa rfl (src_at ((hlit.toIn (Nat.le_refl _)).src (Nat.le_refl _)) rfl) (ix_a1 HV.out.2) hHeld.1.size (m + 2) rfl ?_
      intro A6 c6 w6 hB6 hg6 hF6
      have hne6 : some g5 ≠ ownOf A6 := fresh_ne HS5.out.2 hF6 hHeld.2.lt
      refine hK.out _ _ ⟨below_own hHeld.1 hBa hg6 (Nat.le_refl _) hHeld.1.size, hHeld.2.grown hg6 HS5.out.2⟩ (fun hHeld => ?_)
      clear hK K hg6 hF6 hlit hBa hsza hz hgd
      replace hHeld : Below w2.heap.size w2 w6 ∧ Blk w6 g5 62 [.int .i64 kd, .string ⟨v.toArray⟩] := hHeld
      try simp only [Act.put, List.setIfInBounds_toArray, List.set_cons_zero, List.set_cons_succ]
      refine wpAnyH_ready (rs := [13]) (by kernel_rfl) (by simp) ?_
      refine AllReadyH.cons (o := ⟨_, _, _, _, _, _⟩) rfl (fun K hK => ?_) AllReadyH.nil
      refine step_append_far rfl (.tmp 58) (.tmp 60) 9 rfl w2.heap.size _ (m + 2) _ (BS ++ [x, y]) v _ rfl hB6 rfl (src_string _ v) (ix_a3 HV.out) hHeld.1.size (m + 2 + v.length) rfl ?_
      intro A7 c7 w7 hB7 hg7 _
      have HB7 := Lib.hid hB7
      have HW7 := Lib.hid (below_own hHeld.1 hB6 hg7 (Nat.le_refl _) hHeld.1.size)
      refine hK.out _ _ ⟨HW7.out, hHeld.2.grown hg7 hne6⟩ (fun hHeld => ?_)
      clear hK K hg7 hB7 hB6 hne6
      try simp only [Act.put, List.setIfInBounds_toArray, List.set_cons_zero, List.set_cons_succ]
      refine wpAnyH_take (i := 14) (oi := ⟨_, _, _, _, _, _⟩) (v := ?_) rfl (by kernel_rfl) (by kernel_rfl) (by kernel_rfl) (fun _ _ _ h => h) (Or.inl ⟨by rfl, ?_⟩) hHeld ?_
      rotate_left 1
      · (intro W hSw; go_simp; try with_reducible rfl)
      try simp only [Act.put, List.setIfInBounds_toArray, List.set_cons_zero, List.set_cons_succ]
      refine wpAnyH_done (by kernel_rfl) ?_ _
      refine NoPanic.normal ?_
      clear hHeld
      clear ht1 ht2 ht3 ht4
      by_cases hbg : (4096 : Int) < ((m + 2 + v.length : Nat) : Int)
      · have HZ := Lib.hid (show writeE code id Q la = ([], 2) from bad_write (by rw [pk_attrs HOKC.out.1 HOKC.out.2]; exact attrs_big (k := k + 1) (by rw [← flatA_length, HBS.out.2]; have := HB7.out.1; omega)))
        go_wp2
        go_ret2
        exact ⟨by rw [HZ.out]; rfl, HBW2.out.trans (HW7.out.mono HBW2.out.size)⟩
      · have HBG := Lib.hid (show m + 2 + v.length ≤ 4096 by omega)
        go_wp2
        go_roundw
        case rel => exact ⟨k + 1, m + 2 + v.length, A7, c7, (by have := HK.out.1; have := HN.out; omega), by rw [HK.out.2.1], rfl, by rw [HBS.out.2]; exact HB7.out, all_snoc HALL.out HK.out.1 (by rw [HK.out.2.2]; exact HAOK.out), HBG.out, HW7.out⟩
        case measure => exact ix_meas2 HK.out.1 HN.out HNM.out
    · have hd : decide (k < n) = false := by simpa using hlt
      have hkn : k = la.length := by have := HN.out; omega
      rw [hkn, List.take_length] at hB
      rw [hkn] at hall
      have HM := Lib.hid (show m = sizeA la by rw [← hB.1, flatA_length])
      have HALL := Lib.hid hall
      have HBF := Lib.hid hB
      have HC0 := Lib.hid (fun (W : World) (h : Below wr.heap.size wr W) => HC0.out W (hbr.trans (h.mono hbr.size)))
      have HC1 := Lib.hid (fun (W : World) (h : Below wr.heap.size wr W) => HC1.out W (hbr.trans (h.mono hbr.size)))
      have HQI := Lib.hid (HQI2.out.up hbr)
      have HBR := Lib.hid (HBW2.out.trans (hbr.mono HBW2.out.size))
      have HM9 := Lib.hid hm9
      have HXwr := Lib.hid (Below.refl wr.heap.size wr)
      clear hall hB hm9 hkn hk hlt hbr
      by_cases hbg : m + 20 ≤ 4096
      · obtain ⟨t, xc, xi, xh, xl, hpk, ht1, ht2, hx1, hx2, hx3, hx4, ht3⟩ := ix_fin (code := code) (id := id) (Q := Q) HRC.out HOKC.out.2 HM.out hbg
        have HZ := Lib.hid (show writeE code id Q la = (([xc, xi, xh, xl] ++ Q) ++ flatA la, 0) by
          unfold writeE
          rw [if_pos (by rw [pk_attrs HOKC.out.1 HOKC.out.2]; exact attrs_all HALL.out (by rw [List.take_length, ← HM.out]; omega)), hpk])
        obtain ⟨BS, hBS⟩ : ∃ BS, BS = flatA la := ⟨_, rfl⟩
        rw [← hBS] at HZ HBF
        obtain ⟨HD, hHD⟩ : ∃ HD, HD = [xc, xi, xh, xl] := ⟨_, rfl⟩
        have HHD := Lib.hid hHD.symm
        rw [← hHD] at HZ
        have ho1 : ¬ 9223372036854775807 < HD.length + Q.length := by rw [hHD, HQ.out]; simp only [List.length_cons, List.length_nil]; omega
        have ha1 := bytes_append HD Q
        obtain ⟨T, hT⟩ : ∃ T, T = HD ++ Q := ⟨_, rfl⟩
        have ho2 : ¬ 9223372036854775807 < T.length + BS.length := by
          rw [hT, hHD, List.length_append, HQ.out, HBF.out.1]
          have := HM9.out
          simp only [List.length_cons, List.length_nil]
          omega
        rw [← hT] at ha1 HZ
        have ha2 := bytes_append T BS
        clear hT hHD hBS hpk hbg
        go_upto_region 16 with (fail)
        clear ht3 hd hc18 hmc1
        refine wp_region_noPanic ?_
        refine wp_region_held_drew (S := fun W => Below wr.heap.size wr W) (by kernel_rfl) (by exact below_drewN (Below.refl _ _) 1) (fun hHeld => ?_)
        replace hHeld : Below wr.heap.size wr wr.drew := hHeld
        have HXwd := Lib.hid (HXwr.out.trans (hHeld.mono HXwr.out.size))
        have HYwd := Lib.hid (show Below wr.heap.size wr wr.drew from hHeld)
        generalize wr.drew = wd at *
        refine anyH_mono (S' := fun W => Below wd.heap.size wd W) (fun W h => hHeld.trans (h.mono hHeld.size)) _ _ _ _ ?_
        clear hHeld
        have hHeld : Below wd.heap.size wd wd := Below.refl _ _
        refine wpAnyH_take (i := 0) (oi := ⟨_, _, _, _, _, _⟩) (v := ?_) rfl (by kernel_rfl) (by kernel_rfl) (by kernel_rfl) (fun _ _ _ h => h) (Or.inl ⟨by rfl, ?_⟩) hHeld ?_
        rotate_left 1
        · (intro W hSw; (try dsimp only at hSw); go_simp; try with_reducible rfl)
        try simp only [Act.put, List.setIfInBounds_toArray, List.set_cons_zero, List.set_cons_succ]
        refine wpAnyH_take (i := 1) (oi := ⟨_, _, _, _, _, _⟩) (v := ?_) rfl (by kernel_rfl) (by kernel_rfl) (by kernel_rfl) (fun _ _ _ h => h) (Or.inl ⟨by rfl, ?_⟩) hHeld ?_
        rotate_left 1
        · (intro W hSw; (try dsimp only at hSw); have hcc := HC0.out W (HXwd.out.trans (hSw.mono HXwd.out.size)); go_simp; try with_reducible rfl)
        try simp only [Act.put, List.setIfInBounds_toArray, List.set_cons_zero, List.set_cons_succ]
        refine wpAnyH_take (i := 2) (oi := ⟨_, _, _, _, _, _⟩) (v := ?_) rfl (by kernel_rfl) (by kernel_rfl) (by kernel_rfl) (fun _ _ _ h => h) (Or.inl ⟨by rfl, ?_⟩) hHeld ?_
        rotate_left 1
        · (intro W hSw; (try dsimp only at hSw); go_simp; try with_reducible rfl)
        try simp only [Act.put, List.setIfInBounds_toArray, List.set_cons_zero, List.set_cons_succ]
        refine wpAnyH_take (i := 3) (oi := ⟨_, _, _, _, _, _⟩) (v := ?_) rfl (by kernel_rfl) (by kernel_rfl) (by kernel_rfl) (fun _ _ _ h => h) (Or.inl ⟨by rfl, ?_⟩) hHeld ?_
        rotate_left 1
        · (intro W hSw; (try dsimp only at hSw); go_simp; try with_reducible rfl)
        try simp only [Act.put, List.setIfInBounds_toArray, List.set_cons_zero, List.set_cons_succ]
        refine wpAnyH_take (i := 4) (oi := ⟨_, _, _, _, _, _⟩) (v := ?_) rfl (by kernel_rfl) (by kernel_rfl) (by kernel_rfl) (fun _ _ _ h => h) (Or.inl ⟨by rfl, ?_⟩) hHeld ?_
        rotate_left 1
        · (intro W hSw; (try dsimp only at hSw); have hcc := HC1.out W (HXwd.out.trans (hSw.mono HXwd.out.size)); go_simp; try with_reducible rfl)
        try simp only [Act.put, List.setIfInBounds_toArray, List.set_cons_zero, List.set_cons_succ]
        refine wpAnyH_take (i := 5) (oi := ⟨_, _, _, _, _, _⟩) (v := ?_) rfl (by kernel_rfl) (by kernel_rfl) (by kernel_rfl) (fun _ _ _ h => h) (Or.inl ⟨by rfl, ?_⟩) hHeld ?_
        rotate_left 1
        · (intro W hSw; (try dsimp only at hSw); go_simp; try with_reducible rfl)
        try simp only [Act.put, List.setIfInBounds_toArray, List.set_cons_zero, List.set_cons_succ]
        refine wpAnyH_take (i := 6) (oi := ⟨_, _, _, _, _, _⟩) (v := ?_) rfl (by kernel_rfl) (by kernel_rfl) (by kernel_rfl) (fun _ _ _ h => h) (Or.inl ⟨by rfl, ?_⟩) hHeld ?_
        rotate_left 1
        · (intro W hSw; (try dsimp only at hSw); go_simp; try with_reducible rfl)
        try simp only [Act.put, List.setIfInBounds_toArray, List.set_cons_zero, List.set_cons_succ]
        refine wpAnyH_take (i := 7) (oi := ⟨_, _, _, _, _, _⟩) (v := ?_) rfl (by kernel_rfl) (by kernel_rfl) (by kernel_rfl) (fun _ _ _ h => h) (Or.inl ⟨by rfl, ?_⟩) hHeld ?_
        rotate_left 1
        · (intro W hSw; (try dsimp only at hSw); go_simp; try with_reducible rfl)
        try simp only [Act.put, List.setIfInBounds_toArray, List.set_cons_zero, List.set_cons_succ]
        refine wpAnyH_take (i := 8) (oi := ⟨_, _, _, _, _, _⟩) (v := ?_) rfl (by kernel_rfl) (by kernel_rfl) (by kernel_rfl) (fun _ _ _ h => h) (Or.inl ⟨by rfl, ?_⟩) hHeld ?_
        rotate_left 1
        · (intro W hSw; (try dsimp only at hSw); go_simp; try with_reducible rfl)
        try simp only [Act.put, List.setIfInBounds_toArray, List.set_cons_zero, List.set_cons_succ]
        refine wpAnyH_take (i := 9) (oi := ⟨_, _, _, _, _, _⟩) (v := ?_) rfl (by kernel_rfl) (by kernel_rfl) (by kernel_rfl) (fun _ _ _ h => h) (Or.inl ⟨by rfl, ?_⟩) hHeld ?_
        rotate_left 1
        · (intro W hSw; (try dsimp only at hSw); go_simp; try with_reducible rfl)
        try simp only [Act.put, List.setIfInBounds_toArray, List.set_cons_zero, List.set_cons_succ]
        refine wpAnyH_take (i := 10) (oi := ⟨_, _, _, _, _, _⟩) (v := ?_) rfl (by kernel_rfl) (by kernel_rfl) (by kernel_rfl) (fun _ _ _ h => h) (Or.inl ⟨by rfl, ?_⟩) hHeld ?_
        rotate_left 1
        · (intro W hSw; (try dsimp only at hSw); go_simp; try with_reducible rfl)
        try simp only [Act.put, List.setIfInBounds_toArray, List.set_cons_zero, List.set_cons_succ]
        refine wpAnyH_take (i := 13) (oi := ⟨_, _, _, _, _, _⟩) (v := ?_) rfl (by kernel_rfl) (by kernel_rfl) (by kernel_rfl) (fun _ _ _ h => h) (Or.inl ⟨by rfl, ?_⟩) hHeld ?_
        rotate_left 1
        · (intro W hSw; (try dsimp only at hSw); go_simp; try with_reducible rfl)
        try simp only [Act.put, List.setIfInBounds_toArray, List.set_cons_zero, List.set_cons_succ]
        refine wpAnyH_take (i := 14) (oi := ⟨_, _, _, _, _, _⟩) (v := ?_) rfl (by kernel_rfl) (by kernel_rfl) (by kernel_rfl) (fun _ _ _ h => h) (Or.inl ⟨by rfl, ?_⟩) hHeld ?_
        rotate_left 1
        · (intro W hSw; (try dsimp only at hSw); go_simp; try with_reducible rfl)
        try simp only [Act.put, List.setIfInBounds_toArray, List.set_cons_zero, List.set_cons_succ]
        refine wpAnyH_take (i := 15) (oi := ⟨_, _, _, _, _, _⟩) (v := ?_) rfl (by kernel_rfl) (by kernel_rfl) (by kernel_rfl) (fun _ _ _ h => h) (Or.inl ⟨by rfl, ?_⟩) hHeld ?_
        rotate_left 1
        · (intro W hSw; (try dsimp only at hSw); have hcv := conv_in HQ.out (HQI.out.up (HXwd.out.trans (hSw.mono HXwd.out.size))); go_simp; try with_reducible rfl)
        try simp only [Act.put, List.setIfInBounds_toArray, List.set_cons_zero, List.set_cons_succ]
        refine wpAnyH_take (i := 17) (oi := ⟨_, _, _, _, _, _⟩) (v := ?_) rfl (by kernel_rfl) (by kernel_rfl) (by kernel_rfl) (fun _ _ _ h => h) (Or.inl ⟨by rfl, ?_⟩) hHeld ?_
        rotate_left 1
        · (intro W hSw; (try dsimp only at hSw); go_simp; try with_reducible rfl)
        try simp only [Act.put, List.setIfInBounds_toArray, List.set_cons_zero, List.set_cons_succ]
        refine wpAnyH_take (i := 18) (oi := ⟨_, _, _, _, _, _⟩) (v := ?_) rfl (by kernel_rfl) (by kernel_rfl) (by kernel_rfl) (fun _ _ _ h => h) (Or.inl ⟨by rfl, ?_⟩) hHeld ?_
        rotate_left 1
        · (intro W hSw; (try dsimp only at hSw); have hcv := conv_in HBF.out.1 ((HBF.out.toIn (Nat.le_refl _)).up (HYwd.out.trans (hSw.mono HYwd.out.size))); go_simp; try with_reducible rfl)
        try simp only [Act.put, List.setIfInBounds_toArray, List.set_cons_zero, List.set_cons_succ]
        refine wpAnyH_ready (rs := [11]) (by kernel_rfl) (by simp) ?_
        refine AllReadyH.cons (o := ⟨_, _, _, _, _, _⟩) rfl (fun K hK => ?_) AllReadyH.nil
        go_simp
        have hla : Below wd.heap.size wd (wd.alloc (.cells #[.int .u8 (xc.toNat : Int), .int .u8 (xi.toNat : Int), .int .u8 (xh.toNat : Int), .int .u8 (xl.toNat : Int)] 5)) := (Below.refl _ _).alloc (Nat.le_refl _) _
        have hlit := buf_lit wd [xc, xi, xh, xl] 4 5 rfl (by decide)
        replace hlit : Buf (wd.alloc (.cells #[.int .u8 (xc.toNat : Int), .int .u8 (xi.toNat : Int), .int .u8 (xh.toNat : Int), .int .u8 (xl.toNat : Int)] 5)) wd.heap.size (some ⟨wd.heap.size, 0, none⟩) 4 4 [xc, xi, xh, xl] := hlit
        rw [HHD.out] at hlit
        refine hK.out _ _ (hHeld.trans hla) (fun hHeld => ?_)
        clear hK K
        replace hHeld : Below wd.heap.size wd (wd.alloc (.cells #[.int .u8 (xc.toNat : Int), .int .u8 (xi.toNat : Int), .int .u8 (xh.toNat : Int), .int .u8 (xl.toNat : Int)] 5)) := hHeld
        generalize wd.alloc (.cells #[.int .u8 (xc.toNat : Int), .int .u8 (xi.toNat : Int), .int .u8 (xh.toNat : Int), .int .u8 (xl.toNat : Int)] 5) = wa at *
        have HLI := Lib.hid (And.intro hlit.1 (hlit.toIn (Nat.le_refl _)))
        have HXwa := Lib.hid (HXwd.out.trans (hHeld.mono HXwd.out.size))
        clear hlit hla
        try simp only [Act.put, List.setIfInBounds_toArray, List.set_cons_zero, List.set_cons_succ]
        refine anyH_mono (S' := fun W => Below wa.heap.size wa W) (fun W h => hHeld.trans (h.mono hHeld.size)) _ _ _ _ ?_
        clear hHeld
        have hHeld : Below wa.heap.size wa wa := Below.refl _ _
        refine wpAnyH_take (i := 12) (oi := ⟨_, _, _, _, _, _⟩) (v := ?_) rfl (by kernel_rfl) (by kernel_rfl) (by kernel_rfl) (fun _ _ _ h => h) (Or.inl ⟨by rfl, ?_⟩) hHeld ?_
        rotate_left 1
        · (intro W hSw; (try dsimp only at hSw); have hcv := conv_in HLI.out.1 (HLI.out.2.up hSw); go_simp; try with_reducible rfl)
        try simp only [Act.put, List.setIfInBounds_toArray, List.set_cons_zero, List.set_cons_succ]
        refine wpAnyH_take (i := 16) (oi := ⟨_, _, _, _, _, _⟩) (v := ?_) rfl (by kernel_rfl) (by kernel_rfl) (by kernel_rfl) (fun _ _ _ h => h) (Or.inl ⟨by rfl, ?_⟩) hHeld ?_
        rotate_left 1
        · (intro W hSw; (try dsimp only at hSw); go_simp; try with_reducible rfl)
        try simp only [Act.put, List.setIfInBounds_toArray, List.set_cons_zero, List.set_cons_succ]
        refine wpAnyH_take (i := 19) (oi := ⟨_, _, _, _, _, _⟩) (v := ?_) rfl (by kernel_rfl) (by kernel_rfl) (by kernel_rfl) (fun _ _ _ h => h) (Or.inl ⟨by rfl, ?_⟩) hHeld ?_
        rotate_left 1
        · (intro W hSw; (try dsimp only at hSw); go_simp; try with_reducible rfl)
        try simp only [Act.put, List.setIfInBounds_toArray, List.set_cons_zero, List.set_cons_succ]
        refine wpAnyH_take (i := 20) (oi := ⟨_, _, _, _, _, _⟩) (v := ?_) rfl (by kernel_rfl) (by kernel_rfl) (by kernel_rfl) (fun _ _ _ h => h) (Or.inl ⟨by rfl, ?_⟩) hHeld ?_
        rotate_left 1
        · (intro W hSw; (try dsimp only at hSw); go_simp; try with_reducible rfl)
        try simp only [Act.put, List.setIfInBounds_toArray, List.set_cons_zero, List.set_cons_succ]
        refine wpAnyH_take (i := 21) (oi := ⟨_, _, _, _, _, _⟩) (v := ?_) rfl (by kernel_rfl) (by kernel_rfl) (by kernel_rfl) (fun _ _ _ h => h) (Or.inl ⟨by rfl, ?_⟩) hHeld ?_
        rotate_left 1
        · (intro W hSw; (try dsimp only at hSw); go_simp; try with_reducible rfl)
        try simp only [Act.put, List.setIfInBounds_toArray, List.set_cons_zero, List.set_cons_succ]
        have HWE := Lib.hid (HXwa.out.trans (hHeld.mono HXwa.out.size))
        clear hHeld
        refine wpAnyH_done (by kernel_rfl) ?_ _
        refine NoPanic.normal ?_
        clear ha1 ha2 ho1 ho2 hx1 hx2 hx3 hx4 ht1 ht2
        go_wp2
        go_ret2
        exact ⟨by rw [HZ.out]; rfl, HBR.out.trans (HWE.out.mono HBR.out.size)⟩
      · have HZ := Lib.hid (show writeE code id Q la = ([], 2) from bad_write (by rw [pk_attrs HOKC.out.1 HOKC.out.2]; exact attrs_big (k := la.length) (by rw [List.take_length, ← HM.out]; omega)))
        obtain ⟨t, ht1, ht2, ht3⟩ : ∃ t : Nat, (m : Int) + 20 = (t : Int) ∧ wrap64 (t : Int) = (t : Int) ∧ (4096 : Int) < (t : Int) := ⟨m + 20, by omega, by have := HM9.out; unfold wrap64; omega, by omega⟩
        clear hbg
        go_wp2
        go_ret2
        exact ⟨by rw [HZ.out]; rfl, HBR.out⟩
theorem rwrite_e (c n : Nat) (code id : Int) (Q : List UInt8) (A : Option Addr) (la : Attrs) (w : World) (hQ : Q.length = 16) (hn : la.length = n) (hA : SIn w w.heap.size A c la) :
    Calls Tryd.prog 14 #[.agg (pkC code id Q A n c).toArray] w fun e w' => e = .returned (.tuple #[.string ⟨(writeE code id Q la).1.toArray⟩, .int .i64 ((writeE code id Q la).2 : Int)]) ∧ Below w.heap.size w w' := by
  cases hc : codeOK code with
  | false => exact rwrite_code c n code id Q A la w hQ hn hA hc
  | true =>
    by_cases hi : id < 0
    · exact rwrite_id1 c n code id Q A la w hQ hn hA hc hi
    · by_cases hj : 255 < id
      · exact rwrite_id2 c n code id Q A la w hQ hn hA hc hi hj
      · exact rwrite_fit c n code id Q A la w hQ hn hA hc hi hj
end Go.Proofs.YtbomckbekcaemaaDoor
