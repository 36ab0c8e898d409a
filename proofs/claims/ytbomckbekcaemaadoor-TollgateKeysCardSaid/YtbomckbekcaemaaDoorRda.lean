/-
  Attributes that lie in a row; the contract of package radius's attrsInForm.
-/
import Derived.Test.YtbomckbekcaemaaDoorVx
namespace Go.Proofs.YtbomckbekcaemaaDoor
open Go.RowKit

abbrev Attrs := List (Int × List UInt8)
/-- Attributes that lie in a row of cells, two for each, all below block B. -/
def AIn (w : World) (B : Nat) (A : Option Addr) (c : Nat) (la : Attrs) : Prop := la.length ≤ c ∧ c ≤ 9223372036854775807 ∧ (0 < la.length → ∃ gp op, A = some ⟨gp, op, none⟩ ∧ gp < B ∧
  ∀ j, j < la.length → ∃ Aj cj, w.cell? ⟨gp, op + j * 2, none⟩ = some (.int .i64 (la.getD j (0, [])).1) ∧ w.cell? ⟨gp, op + j * 2 + 1, none⟩ = some (.slice Aj (la.getD j (0, [])).2.length cj) ∧ In w B Aj cj (la.getD j (0, [])).2)
theorem AIn.below {w w' : World} {B : Nat} {A : Option Addr} {c : Nat} {la : Attrs} (h : AIn w B A c la) (hb : Below B w w') : AIn w' B A c la :=
  ⟨h.1, h.2.1, fun h0 => by
    obtain ⟨gp, op, e, hl, hj⟩ := h.2.2 h0
    refine ⟨gp, op, e, hl, fun j hjl => ?_⟩
    obtain ⟨Aj, cj, h1, h2, h3⟩ := hj j hjl
    exact ⟨Aj, cj, (hb.cell (p := ⟨gp, op + j * 2, none⟩) hl).trans h1, (hb.cell (p := ⟨gp, op + j * 2 + 1, none⟩) hl).trans h2, h3.below hb⟩⟩
theorem AIn.weaken {w : World} {B B' : Nat} {A : Option Addr} {c : Nat} {la : Attrs} (h : AIn w B A c la) (hB : B ≤ B') : AIn w B' A c la :=
  ⟨h.1, h.2.1, fun h0 => by
    obtain ⟨gp, op, e, hl, hj⟩ := h.2.2 h0
    refine ⟨gp, op, e, Nat.lt_of_lt_of_le hl hB, fun j hjl => ?_⟩
    obtain ⟨Aj, cj, h1, h2, h3⟩ := hj j hjl
    exact ⟨Aj, cj, h1, h2, in_weak h3 hB⟩⟩
theorem AIn.up {w w' : World} {A : Option Addr} {c : Nat} {la : Attrs} (h : AIn w w.heap.size A c la) (hb : Below w.heap.size w w') : AIn w' w'.heap.size A c la := (h.below hb).weaken hb.size
def attrOK (a : Int × List UInt8) : Bool := decide (1 ≤ a.1) && decide (a.1 ≤ 255) && decide (a.2.length ≤ 253)
def sizeA (la : Attrs) : Nat := (la.map fun a => 2 + a.2.length).sum
/-- Are attributes in form? -/
def attrsOK (la : Attrs) : Bool := la.all attrOK && decide (sizeA la ≤ 4076)
theorem sizeA_snoc (la : Attrs) (a : Int × List UInt8) : sizeA (la ++ [a]) = sizeA la + (2 + a.2.length) := by simp [sizeA]
theorem take_snocA (la : Attrs) (k : Nat) (h : k < la.length) : la.take (k + 1) = la.take k ++ [la.getD k (0, [])] := by
  rw [List.take_add_one, List.getD_eq_getElem?_getD, List.getElem?_eq_getElem h]; rfl
theorem sizeA_take (la : Attrs) (k : Nat) : sizeA (la.take k) ≤ sizeA la := by
  have : sizeA la = sizeA (la.take k) + sizeA (la.drop k) := by
    unfold sizeA
    rw [← List.sum_append, ← List.map_append, List.take_append_drop]
  omega
theorem attrs_bad {la : Attrs} {k : Nat} (h : k < la.length) (hb : attrOK (la.getD k (0, [])) = false) : attrsOK la = false := by
  have hm : la.getD k (0, []) ∈ la := by rw [List.getD_eq_getElem?_getD, List.getElem?_eq_getElem h]; exact List.getElem_mem h
  unfold attrsOK
  rw [show la.all attrOK = false from by rw [List.all_eq_false]; exact ⟨_, hm, by rw [hb]; decide⟩]; rfl
theorem attrs_big {la : Attrs} {k : Nat} (hb : 4076 < sizeA (la.take k)) : attrsOK la = false := by
  have := sizeA_take la k
  unfold attrsOK
  rw [show decide (sizeA la ≤ 4076) = false from by simp; omega, Bool.and_false]
theorem attrs_all {la : Attrs} (h1 : (la.take la.length).all attrOK = true) (h2 : sizeA (la.take la.length) ≤ 4076) : attrsOK la = true := by
  rw [List.take_length] at h1 h2
  unfold attrsOK; rw [h1]; simpa using h2
theorem infA : (Tryd.prog.info? 69).map (·.size) = some 2 := by kernel_rfl
theorem attr_lo {kd : Int} {v : List UInt8} (h : kd < 1) : attrOK (kd, v) = false := by unfold attrOK; simp; omega
theorem attr_hi {kd : Int} {v : List UInt8} (h : 255 < kd) : attrOK (kd, v) = false := by unfold attrOK; simp; omega
theorem attr_long {kd : Int} {v : List UInt8} (h : 253 < v.length) : attrOK (kd, v) = false := by unfold attrOK; simp; omega
theorem attr_ok {kd : Int} {v : List UInt8} (h1 : ¬ kd < 1) (h2 : ¬ 255 < kd) (h3 : ¬ 253 < v.length) : attrOK (kd, v) = true := by unfold attrOK; simp; omega
theorem ix_room {R s s1 vl : Nat} (hR : R = 4076 - s) (hs : s ≤ 4076) (hv : vl ≤ 253) (h1 : s1 = s + (2 + vl)) : ∃ (x : Int) (t : Nat), (2 : Int) + (vl : Int) = (t : Int) ∧ wrap64 (t : Int) = (t : Int) ∧ (R : Int) - (t : Int) = x ∧ wrap64 x = x ∧
    ((x < 0 → 4076 < s1) ∧ (¬ x < 0 → s1 ≤ 4076 ∧ x = ((4076 - s1 : Nat) : Int))) := by
  refine ⟨(R : Int) - ((2 + vl : Nat) : Int), 2 + vl, by omega, by unfold wrap64; omega, rfl, by unfold wrap64; omega, fun h => by omega, fun h => ⟨by omega, by omega⟩⟩
theorem ix_meas2 {la : Attrs} {k n : Nat} (h : k < la.length) (hn : la.length = n) (hm : n ≤ 9223372036854775807) : n - (intOf (.int .i64 (wrap64 ((k : Int) + 1)))).toNat < n - (intOf (.int .i64 (k : Int))).toNat := by
  rw [show wrap64 ((k : Int) + 1) = ((k + 1 : Nat) : Int) by unfold wrap64; omega]; simp only [intOf]; omega
theorem ix_at {k n : Nat} (h : k < n) (hn : n ≤ 9223372036854775807) : (0 : Int) ≤ (k : Int) ∧ (k : Int) < (n : Int) ∧ wrap64 ((k : Int) + 1) = ((k + 1 : Nat) : Int) := by
  refine ⟨by omega, by omega, by unfold wrap64; omega⟩
set_option maxRecDepth 100000 in
set_option maxHeartbeats 1000000 in
theorem attrsInForm_e (A : Option Addr) (c n : Nat) (la : Attrs) (w : World) (hn : la.length = n) (hA : AIn w w.heap.size A c la) :
    Calls Tryd.prog 62 #[.slice A n c] w fun e w' => e = .returned (.bool (attrsOK la)) ∧ Below w.heap.size w w' := by
  have hmc : n ≤ c := by rw [← hn]; exact hA.1
  have HNM := Lib.hid (Nat.le_trans hmc hA.2.1)
  have hmc1 : (n : Int) ≤ (c : Int) := Int.ofNat_le.2 hmc
  have HN := Lib.hid hn
  have HA := Lib.hid hA
  clear hn hA hmc
  go_enter Tryd.func62, Tryd.ntmps62
  go_wp2
  go_loopw [8, 3] (fun i r wr => ∃ k : Nat, k ≤ n ∧ i = .int .i64 (k : Int) ∧ (la.take k).all attrOK = true ∧ sizeA (la.take k) ≤ 4076 ∧ r = .int .i64 ((4076 - sizeA (la.take k) : Nat) : Int) ∧ Below w.heap.size w wr) (fun i _ _ => n - (intOf i).toNat)
  case atStart => exact ⟨0, Nat.zero_le _, rfl, rfl, by simp [sizeA], by simp [sizeA], Below.refl _ _⟩
  case round =>
    obtain ⟨k, hk, rfl, hall, hsz, rfl, hbr⟩ := hrel
    by_cases hlt : k < n
    · have hd : decide (k < n) = true := by simpa using hlt
      have hkr : k < la.length := by rw [HN.out]; exact hlt
      obtain ⟨gp, op, hAe, hgp, hrow⟩ := HA.out.2.2 (Nat.lt_of_le_of_lt (Nat.zero_le _) hkr)
      obtain ⟨Aj, cj, h1, h2, _⟩ := hrow k hkr
      obtain ⟨kd, v, hkv⟩ : ∃ kd v, la.getD k (0, []) = (kd, v) := ⟨_, _, rfl⟩
      rw [hkv] at h1 h2
      have hc1 : wr.cell? ⟨gp, op + k * 2, none⟩ = some (.int .i64 kd) := (hbr.cell (p := ⟨gp, op + k * 2, none⟩) hgp).trans h1
      have hc2 : wr.cell? ⟨gp, op + k * 2 + 1, none⟩ = some (.slice Aj v.length cj) := (hbr.cell (p := ⟨gp, op + k * 2 + 1, none⟩) hgp).trans h2
      obtain ⟨vl, hvl⟩ : ∃ vl, vl = v.length := ⟨_, rfl⟩
      rw [← hvl] at hc2
      obtain ⟨hk0, hkn, hkw⟩ := ix_at hlt HNM.out
      obtain ⟨R, hR⟩ : ∃ R, R = 4076 - sizeA (la.take k) := ⟨_, rfl⟩
      rw [← hR]
      have HKV := Lib.hid (And.intro hkv hvl)
      have HB := Lib.hid hbr
      have HK := Lib.hid (And.intro hkr (And.intro hall (And.intro hsz hR)))
      have HW := Lib.hid hkw
      subst hAe
      clear hrow h1 h2 hkv hvl hR hall hsz hbr hgp hkw hk hlt hkr
      go_upto_region 5 with ((with_reducible refine (?_ : wpList _ _ _ (Oper.mk none _ _ _ _ _ :: _) _ _)); go_loud (refine wpList_store_blk rfl 69 (.tmp 5) (.tmp 11) rfl rfl wr.heap.size [.int .i64 kd, .slice Aj vl cj] rfl rfl _ _ (Blk.new_of wr 69 #[.int .i64 0, .slice none 0 0] _ rfl) infA rfl (by simp [Value.oneCell']) ?_); intro w5 hS5 hg5)
      have h4a : Below wr.heap.size wr (wr.alloc (.cells #[.int .i64 0, .slice none 0 0] 69)) := (Below.refl _ _).alloc (Nat.le_refl _) _
      have HB5 := Lib.hid (HB.out.trans ((below_new h4a hg5 (Nat.le_refl _) h4a.size).mono HB.out.size))
      have hd0 : w5.cell? ⟨wr.heap.size, 0, none⟩ = some (.int .i64 kd) := hS5.cell 0
      have hd1 : w5.cell? ⟨wr.heap.size, 1, none⟩ = some (.slice Aj vl cj) := hS5.cell 1
      generalize wr.heap.size = g5 at *
      clear h4a hg5 hS5 hc1 hc2 HB hk0 hkn hd hmc1
      by_cases hb1 : kd < 1
      · skip
        have HZ := Lib.hid (show attrsOK la = false from attrs_bad HK.out.1 (by rw [HKV.out.1]; exact attr_lo hb1))
        clear HKV HK HW
        go_wp2
        go_ret
        exact ⟨by rw [HZ.out]; rfl, HB5.out⟩
      by_cases hb2 : 255 < kd
      · skip
        have HZ := Lib.hid (show attrsOK la = false from attrs_bad HK.out.1 (by rw [HKV.out.1]; exact attr_hi hb2))
        clear HKV HK HW
        go_wp2
        go_ret
        exact ⟨by rw [HZ.out]; rfl, HB5.out⟩
      by_cases hb3n : 253 < vl
      · have hb3 : (253 : Int) < (vl : Int) := Int.ofNat_lt.2 hb3n
        have HZ := Lib.hid (show attrsOK la = false from attrs_bad HK.out.1 (by rw [HKV.out.1]; exact attr_long (HKV.out.2 ▸ hb3n)))
        clear HKV HK HW
        go_wp2
        go_ret
        exact ⟨by rw [HZ.out]; rfl, HB5.out⟩
      have hb3 : ¬ (253 : Int) < (vl : Int) := fun h => hb3n (Int.ofNat_lt.1 h)
      have hok := attr_ok hb1 hb2 (HKV.out.2 ▸ hb3n)
      have hR0 := HK.out.2.2.2
      have hR1 := HK.out.2.2.1
      have hs1 : sizeA (la.take (k + 1)) = sizeA (la.take k) + (2 + vl) := by rw [take_snocA la k HK.out.1, sizeA_snoc, HKV.out.1, HKV.out.2]
      have ha1 : (la.take (k + 1)).all attrOK = true := by rw [take_snocA la k HK.out.1, List.all_append, HK.out.2.1, HKV.out.1]; simpa using hok
      obtain ⟨x, t, hx1, hx2, hx3, hx4, hx5⟩ := ix_room (vl := vl) hR0 hR1 (Nat.le_of_not_lt hb3n) hs1
      by_cases hbig : x < 0
      · have HZ := Lib.hid (show attrsOK la = false from attrs_big (k := k + 1) ((hx5.1 hbig)))
        clear HKV HK HW hok hR0 hR1 hs1 ha1 hx5 hb3n
        go_wp2
        go_ret
        exact ⟨by rw [HZ.out]; rfl, HB5.out⟩
      · have HX := Lib.hid (hx5.2 hbig)
        have HA1 := Lib.hid ha1
        have hk1 := HW.out
        clear HKV hok hR0 hR1 hs1 ha1 hx5 hb3n hk1
        have HK1 := Lib.hid HK.out.1
        clear HK
        go_wp2
        go_roundw
        case rel => exact ⟨k + 1, (by have := HK1.out; have := HN.out; omega), by rw [HW.out], HA1.out, HX.out.1, by rw [hx4, HX.out.2], HB5.out⟩
        case measure => exact ix_meas2 HK1.out HN.out HNM.out
    · have hd : decide (k < n) = false := by simpa using hlt
      have hkn : k = la.length := by have := HN.out; omega
      have HFIN := Lib.hid (And.intro (show attrsOK la = true from attrs_all (hkn ▸ hall) (hkn ▸ hsz)) hbr)
      clear hall hsz hbr hk hlt hkn
      go_wp2
      go_ret
      exact ⟨by rw [HFIN.out.1]; rfl, HFIN.out.2⟩
end Go.Proofs.YtbomckbekcaemaaDoor
