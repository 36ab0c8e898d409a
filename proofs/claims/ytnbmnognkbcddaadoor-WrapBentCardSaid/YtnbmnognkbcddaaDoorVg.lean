/-
  The contract of the reference's Unwrap of a value.
-/
import Derived.Test.YtnbmnognkbcddaaDoorVf
import Derived.Test.YtnbmnognkbcddaaDoorVe
namespace Go.Proofs.YtnbmnognkbcddaaDoor
open Go.RowKit

def RUnwrapPost (E : Int × List UInt8 × Nat) (w : World) (e : Ending) (w' : World) : Prop :=
  e = .returned (.tuple #[.int .i64 E.1, .string ⟨E.2.1.toArray⟩, .int .i64 (E.2.2 : Int)]) ∧ Below w.heap.size w w'
theorem extract_mid (b : List UInt8) (s m : Nat) : (⟨b.toArray⟩ : ByteArray).extract s m = ⟨((b.drop s).take (m - s)).toArray⟩ := by
  apply ByteArray.ext
  rw [ByteArray.data_extract]
  simp
theorem extract_end (b : List UInt8) (s : Nat) : (⟨b.toArray⟩ : ByteArray).extract s b.length = ⟨(b.drop s).toArray⟩ := by
  rw [extract_mid, List.take_of_length_le (by rw [List.length_drop]; omega)]
theorem two_mid (v : List UInt8) (h : 24 ≤ v.length) : (⟨v.toArray⟩ : ByteArray).extract 6 8 = ⟨#[v.getD 6 0, v.getD 7 0]⟩ := by
  rw [extract_mid]
  match v, h with
  | _ :: _ :: _ :: _ :: _ :: _ :: _ :: _ :: _, _ => rfl
theorem ix_val (n p r : Nat) (h : 24 ≤ n) (h1 : n ≤ 1000000) (hp : p = n - 8) (hr : r = p % 16) : ¬ (n : Int) < 24 ∧ (8 : Int) ≤ (n : Int) ∧ wrap64 ((n : Int) - 8) = (p : Int) ∧ IntKind.i64.wrap ((n : Int) - 8) = (p : Int) ∧ (p : Int).tmod 16 = (r : Int) ∧ (n : Int) - 8 = (p : Int) ∧ ((n : Int) - 8).tmod 16 = (r : Int) ∧ wrap64 (p : Int) = (p : Int) := by
  have e : (n : Int) - 8 = (p : Int) := by omega
  refine ⟨by omega, by omega, by unfold wrap64; omega, by rw [IntKind.wrap_i64]; omega, ?_, e, ?_⟩
  · rw [Int.tmod_eq_emod_of_nonneg (by omega)]; omega
  · refine ⟨?_, by unfold wrap64; omega⟩
    rw [e, Int.tmod_eq_emod_of_nonneg (by omega)]; omega
theorem unwrap_rem {v asked sec : List UInt8} (h : (v.length - 8) % 16 ≠ 0) : unwrapE v asked sec = (0, [], 2) := unwrap_none (fun hh => h hh.2.2)
set_option maxRecDepth 100000 in
set_option maxHeartbeats 1000000 in
theorem runwrap_short (Q v sec : List UInt8) (w : World) (_hQ : Q.length = 16) (h1 : v.length ≤ 1000000) (_h2 : sec.length ≤ 1000000) (hb : v.length < 24) :
    Calls Tryd.prog 44 #[.string ⟨v.toArray⟩, .agg (Q.map B8).toArray, .string ⟨sec.toArray⟩] w (RUnwrapPost (unwrapE v Q sec) w) := by
  have HZ := Lib.hid (show unwrapE v Q sec = (0, [], 2) from unwrap_none (by omega))
  have hd : (v.length : Int) < 24 := by omega
  generalize unwrapE v Q sec = E at *
  clear _hQ h1 _h2 hb
  go_enter Tryd.func44, Tryd.ntmps44
  go_upto_region 1 with (fail)
  have hQb := Blk.new_of w 22 _ (Q.map B8) rfl
  have hb0 : Below w.heap.size w (w.alloc (.cells (Q.map B8).toArray 22)) := (Below.refl _ _).alloc (Nat.le_refl _) _
  have hgq := hQb.lt
  obtain ⟨gq, hgq'⟩ : ∃ gq, gq = w.heap.size := ⟨_, rfl⟩
  rw [← hgq'] at hQb hgq
  simp only [← hgq']
  have HGQ := Lib.hid hgq
  have HQB := Lib.hid hQb
  have HBW := Lib.hid hb0
  clear hgq' hb0 hgq hQb
  generalize (w.alloc (.cells (Q.map B8).toArray 22)) = w1 at *
  go_wp2
  go_ret3
  exact ⟨by rw [HZ.out] <;> rfl, HBW.out⟩
set_option maxRecDepth 100000 in
set_option maxHeartbeats 1000000 in
theorem runwrap_rem (Q v sec : List UInt8) (w : World) (_hQ : Q.length = 16) (h1 : v.length ≤ 1000000) (_h2 : sec.length ≤ 1000000) (hb : 24 ≤ v.length) (hr0 : (v.length - 8) % 16 ≠ 0) :
    Calls Tryd.prog 44 #[.string ⟨v.toArray⟩, .agg (Q.map B8).toArray, .string ⟨sec.toArray⟩] w (RUnwrapPost (unwrapE v Q sec) w) := by
  have HZ := Lib.hid (show unwrapE v Q sec = (0, [], 2) from unwrap_rem hr0)
  obtain ⟨p, hp⟩ : ∃ p, p = v.length - 8 := ⟨_, rfl⟩
  obtain ⟨r, hr⟩ : ∃ r, r = p % 16 := ⟨_, rfl⟩
  obtain ⟨hd1, hd2, hd3, hd4, hd5, _, hd7, hd8⟩ := ix_val v.length p r hb h1 hp hr
  have hd6 : ((r : Int) == 0) = false := by subst hr hp; simp; omega
  generalize unwrapE v Q sec = E at *
  clear _hQ h1 _h2 hb hr0 hp hr
  go_enter Tryd.func44, Tryd.ntmps44
  go_upto_region 1 with (fail)
  have hQb := Blk.new_of w 22 _ (Q.map B8) rfl
  have hb0 : Below w.heap.size w (w.alloc (.cells (Q.map B8).toArray 22)) := (Below.refl _ _).alloc (Nat.le_refl _) _
  have hgq := hQb.lt
  obtain ⟨gq, hgq'⟩ : ∃ gq, gq = w.heap.size := ⟨_, rfl⟩
  rw [← hgq'] at hQb hgq
  simp only [← hgq']
  have HGQ := Lib.hid hgq
  have HQB := Lib.hid hQb
  have HBW := Lib.hid hb0
  clear hgq' hb0 hgq hQb
  generalize (w.alloc (.cells (Q.map B8).toArray 22)) = w1 at *
  go_wp2
  go_ret3
  exact ⟨by rw [HZ.out] <;> rfl, HBW.out⟩
theorem ix_q {S : List UInt8} {p q : Nat} {y : UInt8} (hl : S.length = p) (h : ¬ p ≤ y.toNat) (hq : q = 1 + y.toNat) : (q : Int) ≤ (S.length : Int) ∧ (1 : Int) ≤ (q : Int) := by omega
theorem ix_k {S K : List UInt8} {y : UInt8} (hK : K = (S.drop 1).take y.toNat) : K.length ≤ 1000000 := by
  rw [hK, List.length_take]; have := y.toNat_lt; omega
theorem ix_told (m : Nat) (y : UInt8) (h : 16 ≤ m) (h1 : m ≤ 1000000) : wrap64 ((m : Int) - 1) = ((m - 1 : Nat) : Int) ∧ IntKind.i64.wrap ((m : Int) - 1) = ((m - 1 : Nat) : Int) ∧ (y.toNat < m → ¬ ((m - 1 : Nat) : Int) < (y.toNat : Int)) ∧ (m ≤ y.toNat → ((m - 1 : Nat) : Int) < (y.toNat : Int)) := by
  refine ⟨by unfold wrap64; omega, by rw [IntKind.wrap_i64]; omega, ?_, ?_⟩ <;> omega
set_option maxRecDepth 100000 in
set_option maxHeartbeats 1000000 in
theorem runwrap_val (Q v sec : List UInt8) (w : World) (hQ : Q.length = 16) (h1 : v.length ≤ 1000000) (h2 : sec.length ≤ 1000000) (hb : 24 ≤ v.length) (hr0 : (v.length - 8) % 16 = 0) :
    Calls Tryd.prog 44 #[.string ⟨v.toArray⟩, .agg (Q.map B8).toArray, .string ⟨sec.toArray⟩] w (RUnwrapPost (unwrapE v Q sec) w) := by
  obtain ⟨p, hp⟩ : ∃ p, p = v.length - 8 := ⟨_, rfl⟩
  obtain ⟨hd1, hd2, hd3, hd4, hd5, _, hd7, hd8⟩ := ix_val v.length p 0 hb h1 hp (by rw [hp]; exact hr0.symm)
  obtain ⟨x0, hx0⟩ : ∃ x, x = v.getD 6 0 := ⟨_, rfl⟩
  obtain ⟨x1, hx1⟩ : ∃ x, x = v.getD 7 0 := ⟨_, rfl⟩
  obtain ⟨k4, hk4⟩ : ∃ x, x = v.getD 4 0 := ⟨_, rfl⟩
  obtain ⟨S, hSh⟩ : ∃ S, S = shownAs sec (Q ++ [x0, x1]) (v.drop 8) := ⟨_, rfl⟩
  have hSl : S.length = p := by rw [hSh, shownAs_length, List.length_drop, hp, if_pos hr0]
  have hparts := unwrap_parts (asked := Q) (sec := sec) hb S (by rw [hSh, hx0, hx1])
  obtain ⟨y, hy⟩ : ∃ y, y = S.getD 0 0 := ⟨_, rfl⟩
  have HSH := Lib.hid (fun (W : World) => refShow_all sec (Q ++ [x0, x1]) (v.drop 8) W h2 (by rw [List.length_append, hQ]; show 16 + 2 ≤ _; decide) (by rw [List.length_drop]; omega))
  rw [← hSh] at HSH
  have hv6 : (⟨v.toArray⟩ : ByteArray).extract 6 8 = ⟨#[x0, x1]⟩ := by rw [hx0, hx1]; exact two_mid v hb
  have hv8 : (⟨v.toArray⟩ : ByteArray).extract 8 v.length = ⟨(v.drop 8).toArray⟩ := extract_end v 8
  have hi4 := fun W => (show (Instr.index 9 (.string ⟨v.toArray⟩) (.int .i64 4)).run Tryd.prog W = .ok (.int .u8 (v.getD 4 0).toNat) W from index_str v 4 (by omega) W)
  have hi6 := fun W => (show (Instr.index 9 (.string ⟨v.toArray⟩) (.int .i64 6)).run Tryd.prog W = .ok (.int .u8 (v.getD 6 0).toNat) W from index_str v 6 (by omega) W)
  have hi7 := fun W => (show (Instr.index 9 (.string ⟨v.toArray⟩) (.int .i64 7)).run Tryd.prog W = .ok (.int .u8 (v.getD 7 0).toNat) W from index_str v 7 (by omega) W)
  have hiS := fun W => (show (Instr.index 9 (.string ⟨S.toArray⟩) (.int .i64 0)).run Tryd.prog W = .ok (.int .u8 (S.getD 0 0).toNat) W from index_str S 0 (by omega) W)
  rw [← hk4] at hi4 hparts
  rw [← hx0] at hi6 hparts
  rw [← hx1] at hi7 hparts
  rw [← hy] at hiS hparts
  have HI := Lib.hid (And.intro hi4 (And.intro hi6 hi7))
  have HIS := Lib.hid hiS
  have HSL := Lib.hid hSl
  have HP := Lib.hid hparts
  have HP16 := Lib.hid (show 16 ≤ p ∧ p ≤ 1000000 by omega)
  have HQ := Lib.hid hQ
  have H2 := Lib.hid h2
  have hq1 : ¬ (9223372036854775807 < Q.length + 2) := by omega
  have hq2 : (⟨Q.toArray⟩ : ByteArray) ++ ⟨#[x0, x1]⟩ = ⟨(Q ++ [x0, x1]).toArray⟩ := bytes_add Q [x0, x1]
  generalize unwrapE v Q sec = E at *
  clear hx0 hx1 hk4 hSh hSl hparts hi4 hi6 hi7 hiS hy hQ h1 h2 hb hr0 hp
  go_enter Tryd.func44, Tryd.ntmps44
  go_upto_region 1 with (fail)
  have hQb := Blk.new_of w 22 _ (Q.map B8) rfl
  have hb0 : Below w.heap.size w (w.alloc (.cells (Q.map B8).toArray 22)) := (Below.refl _ _).alloc (Nat.le_refl _) _
  have hgq := hQb.lt
  obtain ⟨gq, hgq'⟩ : ∃ gq, gq = w.heap.size := ⟨_, rfl⟩
  rw [← hgq'] at hQb hgq
  simp only [← hgq']
  have HGQ := Lib.hid hgq
  have HQB := Lib.hid hQb
  have HBW := Lib.hid hb0
  clear hgq' hb0 hgq hQb
  generalize (w.alloc (.cells (Q.map B8).toArray 22)) = w1 at *
  have HCQ := Lib.hid (fun (W : World) (h : Below w1.heap.size w1 W) => conv_in (n := 16) HQ.out (in_up (in_blk (n := 16) HQB.out HQ.out (by decide)) h))
  go_upto_region 3 with (fail)
  refine wp_region_noPanic ?_
  refine wp_region_held_drew (S := fun W => Below w1.heap.size w1 W) (by kernel_rfl) (by exact below_drewN (Below.refl _ _) 1) (fun hHeld => ?_)
  refine wpAnyH_take (i := 0) (oi := ⟨_, _, _, _, _, _⟩) (v := ?_) rfl (by kernel_rfl) (by kernel_rfl) (by kernel_rfl) (fun _ _ _ h => h) (Or.inl ⟨by rfl, ?_⟩) hHeld ?_
  rotate_left 1
  · (intro W hSw; (try dsimp only at hSw); go_simp; try with_reducible rfl)
  try simp only [Act.put, List.setIfInBounds_toArray, List.set_cons_zero, List.set_cons_succ]
  refine wpAnyH_take (i := 1) (oi := ⟨_, _, _, _, _, _⟩) (v := ?_) rfl (by kernel_rfl) (by kernel_rfl) (by kernel_rfl) (fun _ _ _ h => h) (Or.inl ⟨by rfl, ?_⟩) hHeld ?_
  rotate_left 1
  · (intro W hSw; (try dsimp only at hSw); go_simp; try with_reducible rfl)
  try simp only [Act.put, List.setIfInBounds_toArray, List.set_cons_zero, List.set_cons_succ]
  refine wpAnyH_take (i := 2) (oi := ⟨_, _, _, _, _, _⟩) (v := ?_) rfl (by kernel_rfl) (by kernel_rfl) (by kernel_rfl) (fun _ _ _ h => h) (Or.inl ⟨by rfl, ?_⟩) hHeld ?_
  rotate_left 1
  · (intro W hSw; (try dsimp only at hSw); have hcq := HCQ.out W hSw; go_simp; try with_reducible rfl)
  try simp only [Act.put, List.setIfInBounds_toArray, List.set_cons_zero, List.set_cons_succ]
  refine wpAnyH_take (i := 3) (oi := ⟨_, _, _, _, _, _⟩) (v := ?_) rfl (by kernel_rfl) (by kernel_rfl) (by kernel_rfl) (fun _ _ _ h => h) (Or.inl ⟨by rfl, ?_⟩) hHeld ?_
  rotate_left 1
  · (intro W hSw; (try dsimp only at hSw); go_simp; try with_reducible rfl)
  try simp only [Act.put, List.setIfInBounds_toArray, List.set_cons_zero, List.set_cons_succ]
  refine wpAnyH_take (i := 4) (oi := ⟨_, _, _, _, _, _⟩) (v := ?_) rfl (by kernel_rfl) (by kernel_rfl) (by kernel_rfl) (fun _ _ _ h => h) (Or.inl ⟨by rfl, ?_⟩) hHeld ?_
  rotate_left 1
  · (intro W hSw; (try dsimp only at hSw); go_simp; try with_reducible rfl)
  try simp only [Act.put, List.setIfInBounds_toArray, List.set_cons_zero, List.set_cons_succ]
  refine wpAnyH_take (i := 5) (oi := ⟨_, _, _, _, _, _⟩) (v := ?_) rfl (by kernel_rfl) (by kernel_rfl) (by kernel_rfl) (fun _ _ _ h => h) (Or.inl ⟨by rfl, ?_⟩) hHeld ?_
  rotate_left 1
  · (intro W hSw; (try dsimp only at hSw); go_simp; try with_reducible rfl)
  try simp only [Act.put, List.setIfInBounds_toArray, List.set_cons_zero, List.set_cons_succ]
  refine wpAnyH_take (i := 6) (oi := ⟨_, _, _, _, _, _⟩) (v := ?_) rfl (by kernel_rfl) (by kernel_rfl) (by kernel_rfl) (fun _ _ _ h => h) (Or.inl ⟨by rfl, ?_⟩) hHeld ?_
  rotate_left 1
  · (intro W hSw; (try dsimp only at hSw); go_simp; try with_reducible rfl)
  try simp only [Act.put, List.setIfInBounds_toArray, List.set_cons_zero, List.set_cons_succ]
  refine wpAnyH_take (i := 7) (oi := ⟨_, _, _, _, _, _⟩) (v := ?_) rfl (by kernel_rfl) (by kernel_rfl) (by kernel_rfl) (fun _ _ _ h => h) (Or.inl ⟨by rfl, ?_⟩) hHeld ?_
  rotate_left 1
  · (intro W hSw; (try dsimp only at hSw); go_simp; try with_reducible rfl)
  try simp only [Act.put, List.setIfInBounds_toArray, List.set_cons_zero, List.set_cons_succ]
  replace hHeld : Below w1.heap.size w1 w1.drew := hHeld
  generalize w1.drew = wd at *
  refine wpAnyH_ready (rs := [8]) (by kernel_rfl) (by simp) ?_
  refine AllReadyH.cons (o := ⟨_, _, _, _, _, _⟩) rfl (fun K hK => ?_) AllReadyH.nil
  go_simp
  go_at_call 60
  refine (HSH.out _).mono ?_
  rintro e w3 ⟨rfl, hb3⟩
  try go_wp2_with fail
  have hsz2 := hHeld.size
  refine hK.out _ _ (hHeld.trans (hb3.mono hsz2)) (fun hHeld => ?_)
  clear hK K hb3 hsz2
  try simp only [Act.put, List.setIfInBounds_toArray, List.set_cons_zero, List.set_cons_succ]
  refine wpAnyH_take (i := 9) (oi := ⟨_, _, _, _, _, _⟩) (v := ?_) rfl (by kernel_rfl) (by kernel_rfl) (by kernel_rfl) (fun _ _ _ h => h) (Or.inl ⟨by rfl, ?_⟩) hHeld ?_
  rotate_left 1
  · (intro W hSw; (try dsimp only at hSw); go_simp; try with_reducible rfl)
  try simp only [Act.put, List.setIfInBounds_toArray, List.set_cons_zero, List.set_cons_succ]
  refine wpAnyH_done (by kernel_rfl) ?_ _
  refine NoPanic.normal ?_
  replace hHeld : Below w1.heap.size w1 w3 := hHeld
  have HB3 := Lib.hid hHeld
  clear hHeld HSH hq1 hq2 hv6 hv8 hd1 hd3 hd4 hd5 hd7 hd8
  have hiS := HIS.out
  have hSl : S.length = p := HSL.out
  obtain ⟨hy64, hyi⟩ := ix_byte y
  obtain ⟨hm1, hm2, hm3, hm4⟩ := ix_told p y HP16.out.1 HP16.out.2
  generalize p - 1 = p1 at *
  by_cases hle : p ≤ y.toNat
  · have hd := hm4 hle
    have HZ := Lib.hid (HP.out.1 (by rw [HSL.out]; exact hle))
    clear hm3 hm4 hle
    go_wp2
    go_ret3
    exact ⟨by rw [HZ.out] <;> rfl, HBW.out.trans (HB3.out.mono HBW.out.size)⟩
  · have hd := hm3 (Nat.lt_of_not_le hle)
    obtain ⟨q, hq⟩ : ∃ q, q = 1 + y.toNat := ⟨_, rfl⟩
    obtain ⟨hq1, hq2, hq3, hq4⟩ := ix_next y q hq
    obtain ⟨KY, hKY⟩ : ∃ KY, KY = (S.drop 1).take y.toNat := ⟨_, rfl⟩
    have hx := extract_mid S 1 q
    rw [hq4, ← hKY] at hx
    have hu := HP.out.2 (by rw [HSL.out]; exact hle)
    rw [← hKY] at hu
    obtain ⟨V, er, hW⟩ : ∃ V er, wrapE (k4.toNat : Int) x0 x1 KY Q sec = (V, er) := ⟨_, _, rfl⟩
    have her := wrap_err (k4.toNat : Int) x0 x1 KY Q sec
    rw [hW] at her hu
    obtain ⟨ei, hei⟩ : ∃ ei : Int, ei = (er : Int) := ⟨_, rfl⟩
    have HRW := Lib.hid (fun (W : World) => (show Calls Tryd.prog 41 #[.int .i64 (k4.toNat : Int), .string ⟨KY.toArray⟩, .agg #[.int .u8 (x0.toNat : Int), .int .u8 (x1.toNat : Int)], .agg (Q.map B8).toArray, .string ⟨sec.toArray⟩] W (fun e w' => e = .returned (.tuple #[.string ⟨V.toArray⟩, .int .i64 ei]) ∧ Below W.heap.size W w') by
      have hh := rwrap_e (k4.toNat : Int) x0 x1 Q KY sec KY.length W HQ.out rfl (ix_k hKY) H2.out
      rw [hW] at hh
      rw [hei]
      exact hh))
    obtain ⟨hqm, hq0⟩ := ix_q HSL.out hle hq
    have HU := Lib.hid hu
    have HE := Lib.hid hei
    have HER := Lib.hid her
    obtain ⟨hi4, hi6, hi7⟩ := HI.out
    obtain ⟨hk64, hki⟩ := ix_byte k4
    clear hm3 hm4 hle hq hKY hu hW her hei hq4
    go_upto_region 7 with (fail)
    clear hm1 hm2 hSl hiS hd
    have HQ3 := Lib.hid (HQB.out.below HB3.out HGQ.out)
    have hgl := HQ3.out.lt
    refine wp_region_noPanic ?_
    refine wp_region_held_drew (S := fun W => Below w3.heap.size w3 W) (by kernel_rfl) (by exact below_drewN (Below.refl _ _) 1) (fun hHeld => ?_)
    refine wpAnyH_take (i := 0) (oi := ⟨_, _, _, _, _, _⟩) (v := ?_) rfl (by kernel_rfl) (by kernel_rfl) (by kernel_rfl) (fun _ _ _ h => h) (Or.inl ⟨by rfl, ?_⟩) hHeld ?_
    rotate_left 1
    · (intro W hSw; (try dsimp only at hSw); go_simp; try with_reducible rfl)
    try simp only [Act.put, List.setIfInBounds_toArray, List.set_cons_zero, List.set_cons_succ]
    refine wpAnyH_take (i := 1) (oi := ⟨_, _, _, _, _, _⟩) (v := ?_) rfl (by kernel_rfl) (by kernel_rfl) (by kernel_rfl) (fun _ _ _ h => h) (Or.inl ⟨by rfl, ?_⟩) hHeld ?_
    rotate_left 1
    · (intro W hSw; (try dsimp only at hSw); go_simp; try with_reducible rfl)
    try simp only [Act.put, List.setIfInBounds_toArray, List.set_cons_zero, List.set_cons_succ]
    refine wpAnyH_take (i := 2) (oi := ⟨_, _, _, _, _, _⟩) (v := ?_) rfl (by kernel_rfl) (by kernel_rfl) (by kernel_rfl) (fun _ _ _ h => h) (Or.inl ⟨by rfl, ?_⟩) hHeld ?_
    rotate_left 1
    · (intro W hSw; (try dsimp only at hSw); go_simp; try with_reducible rfl)
    try simp only [Act.put, List.setIfInBounds_toArray, List.set_cons_zero, List.set_cons_succ]
    refine wpAnyH_take (i := 3) (oi := ⟨_, _, _, _, _, _⟩) (v := ?_) rfl (by kernel_rfl) (by kernel_rfl) (by kernel_rfl) (fun _ _ _ h => h) (Or.inl ⟨by rfl, ?_⟩) hHeld ?_
    rotate_left 1
    · (intro W hSw; (try dsimp only at hSw); go_simp; try with_reducible rfl)
    try simp only [Act.put, List.setIfInBounds_toArray, List.set_cons_zero, List.set_cons_succ]
    refine wpAnyH_take (i := 4) (oi := ⟨_, _, _, _, _, _⟩) (v := ?_) rfl (by kernel_rfl) (by kernel_rfl) (by kernel_rfl) (fun _ _ _ h => h) (Or.inl ⟨by rfl, ?_⟩) hHeld ?_
    rotate_left 1
    · (intro W hSw; (try dsimp only at hSw); go_simp; try with_reducible rfl)
    try simp only [Act.put, List.setIfInBounds_toArray, List.set_cons_zero, List.set_cons_succ]
    refine wpAnyH_take (i := 5) (oi := ⟨_, _, _, _, _, _⟩) (v := ?_) rfl (by kernel_rfl) (by kernel_rfl) (by kernel_rfl) (fun _ _ _ h => h) (Or.inl ⟨by rfl, ?_⟩) hHeld ?_
    rotate_left 1
    · (intro W hSw; (try dsimp only at hSw); go_simp; try with_reducible rfl)
    try simp only [Act.put, List.setIfInBounds_toArray, List.set_cons_zero, List.set_cons_succ]
    refine wpAnyH_take (i := 6) (oi := ⟨_, _, _, _, _, _⟩) (v := ?_) rfl (by kernel_rfl) (by kernel_rfl) (by kernel_rfl) (fun _ _ _ h => h) (Or.inl ⟨by rfl, ?_⟩) hHeld ?_
    rotate_left 1
    · (intro W hSw; (try dsimp only at hSw); go_simp; try with_reducible rfl)
    try simp only [Act.put, List.setIfInBounds_toArray, List.set_cons_zero, List.set_cons_succ]
    refine wpAnyH_take (i := 7) (oi := ⟨_, _, _, _, _, _⟩) (v := ?_) rfl (by kernel_rfl) (by kernel_rfl) (by kernel_rfl) (fun _ _ _ h => h) (Or.inl ⟨by rfl, ?_⟩) hHeld ?_
    rotate_left 1
    · (intro W hSw; (try dsimp only at hSw); go_simp; try with_reducible rfl)
    try simp only [Act.put, List.setIfInBounds_toArray, List.set_cons_zero, List.set_cons_succ]
    refine wpAnyH_take (i := 8) (oi := ⟨_, _, _, _, _, _⟩) (v := ?_) rfl (by kernel_rfl) (by kernel_rfl) (by kernel_rfl) (fun _ _ _ h => h) (Or.inl ⟨by rfl, ?_⟩) hHeld ?_
    rotate_left 1
    · (intro W hSw; (try dsimp only at hSw); go_simp; try with_reducible rfl)
    try simp only [Act.put, List.setIfInBounds_toArray, List.set_cons_zero, List.set_cons_succ]
    refine wpAnyH_take (i := 9) (oi := ⟨_, _, _, _, _, _⟩) (v := ?_) rfl (by kernel_rfl) (by kernel_rfl) (by kernel_rfl) (fun _ _ _ h => h) (Or.inl ⟨by rfl, ?_⟩) hHeld ?_
    rotate_left 1
    · (intro W hSw; (try dsimp only at hSw); go_simp; try with_reducible rfl)
    try simp only [Act.put, List.setIfInBounds_toArray, List.set_cons_zero, List.set_cons_succ]
    refine wpAnyH_take (i := 10) (oi := ⟨_, _, _, _, _, _⟩) (v := ?_) rfl (by kernel_rfl) (by kernel_rfl) (by kernel_rfl) (fun _ _ _ h => h) (Or.inl ⟨by rfl, ?_⟩) hHeld ?_
    rotate_left 1
    · (intro W hSw; (try dsimp only at hSw); go_simp; try with_reducible rfl)
    try simp only [Act.put, List.setIfInBounds_toArray, List.set_cons_zero, List.set_cons_succ]
    refine wpAnyH_take (i := 11) (oi := ⟨_, _, _, _, _, _⟩) (v := ?_) rfl (by kernel_rfl) (by kernel_rfl) (by kernel_rfl) (fun _ _ _ h => h) (Or.inl ⟨by rfl, ?_⟩) hHeld ?_
    rotate_left 1
    · (intro W hSw; (try dsimp only at hSw); go_simp; try with_reducible rfl)
    try simp only [Act.put, List.setIfInBounds_toArray, List.set_cons_zero, List.set_cons_succ]
    refine' wpAnyH_take (i := 12) (oi := ⟨_, _, _, _, _, _⟩) rfl (by kernel_rfl) (by kernel_rfl) (by kernel_rfl) (fun _ _ _ h => h) (yieldsIf_load_mid (by rfl) 22 _ rfl gq 0 rfl (Q.map B8) _ (fun W h => rangeAt_of_blk (HQ3.out.below h hgl)) Tryd.underlying22 rfl (inf16.trans (by rw [List.length_map, HQ.out]))) hHeld ?_
    try simp only [Act.put, List.setIfInBounds_toArray, List.set_cons_zero, List.set_cons_succ]
    refine wpAnyH_take (i := 13) (oi := ⟨_, _, _, _, _, _⟩) (v := ?_) rfl (by kernel_rfl) (by kernel_rfl) (by kernel_rfl) (fun _ _ _ h => h) (Or.inl ⟨by rfl, ?_⟩) hHeld ?_
    rotate_left 1
    · (intro W hSw; (try dsimp only at hSw); go_simp; try with_reducible rfl)
    try simp only [Act.put, List.setIfInBounds_toArray, List.set_cons_zero, List.set_cons_succ]
    replace hHeld : Below w3.heap.size w3 w3.drew := hHeld
    generalize w3.drew = wd at *
    refine wpAnyH_ready (rs := [14]) (by kernel_rfl) (by simp) ?_
    refine AllReadyH.cons (o := ⟨_, _, _, _, _, _⟩) rfl (fun K hK => ?_) AllReadyH.nil
    go_simp
    go_at_call 41
    refine (HRW.out _).mono ?_
    rintro e w4 ⟨rfl, hb4⟩
    try go_wp2_with fail
    have hsz2 := hHeld.size
    refine hK.out _ _ (hHeld.trans (hb4.mono hsz2)) (fun hHeld => ?_)
    clear hK K hb4 hsz2
    try simp only [Act.put, List.setIfInBounds_toArray, List.set_cons_zero, List.set_cons_succ]
    refine wpAnyH_take (i := 15) (oi := ⟨_, _, _, _, _, _⟩) (v := ?_) rfl (by kernel_rfl) (by kernel_rfl) (by kernel_rfl) (fun _ _ _ h => h) (Or.inl ⟨by rfl, ?_⟩) hHeld ?_
    rotate_left 1
    · (intro W hSw; (try dsimp only at hSw); go_simp; try with_reducible rfl)
    try simp only [Act.put, List.setIfInBounds_toArray, List.set_cons_zero, List.set_cons_succ]
    refine wpAnyH_take (i := 16) (oi := ⟨_, _, _, _, _, _⟩) (v := ?_) rfl (by kernel_rfl) (by kernel_rfl) (by kernel_rfl) (fun _ _ _ h => h) (Or.inl ⟨by rfl, ?_⟩) hHeld ?_
    rotate_left 1
    · (intro W hSw; (try dsimp only at hSw); go_simp; try with_reducible rfl)
    try simp only [Act.put, List.setIfInBounds_toArray, List.set_cons_zero, List.set_cons_succ]
    refine wpAnyH_take (i := 17) (oi := ⟨_, _, _, _, _, _⟩) (v := ?_) rfl (by kernel_rfl) (by kernel_rfl) (by kernel_rfl) (fun _ _ _ h => h) (Or.inl ⟨by rfl, ?_⟩) hHeld ?_
    rotate_left 1
    · (intro W hSw; (try dsimp only at hSw); go_simp; try with_reducible rfl)
    try simp only [Act.put, List.setIfInBounds_toArray, List.set_cons_zero, List.set_cons_succ]
    refine wpAnyH_take (i := 18) (oi := ⟨_, _, _, _, _, _⟩) (v := ?_) rfl (by kernel_rfl) (by kernel_rfl) (by kernel_rfl) (fun _ _ _ h => h) (Or.inl ⟨by rfl, ?_⟩) hHeld ?_
    rotate_left 1
    · (intro W hSw; (try dsimp only at hSw); go_simp; try with_reducible rfl)
    try simp only [Act.put, List.setIfInBounds_toArray, List.set_cons_zero, List.set_cons_succ]
    refine wpAnyH_take (i := 19) (oi := ⟨_, _, _, _, _, _⟩) (v := ?_) rfl (by kernel_rfl) (by kernel_rfl) (by kernel_rfl) (fun _ _ _ h => h) (Or.inl ⟨by rfl, ?_⟩) hHeld ?_
    rotate_left 1
    · (intro W hSw; (try dsimp only at hSw); go_simp; try with_reducible rfl)
    try simp only [Act.put, List.setIfInBounds_toArray, List.set_cons_zero, List.set_cons_succ]
    refine wpAnyH_done (by kernel_rfl) ?_ _
    refine NoPanic.normal ?_
    replace hHeld : Below w3.heap.size w3 w4 := hHeld
    have HB4 := Lib.hid hHeld
    have hbe := HBW.out.trans ((HB3.out.trans (HB4.out.mono HB3.out.size)).mono HBW.out.size)
    clear hHeld HRW hgl hi6 hi7
    rcases HER.out with h0 | h0
    · have hE0 : ei = 0 := by rw [HE.out, h0]; rfl
      have hu := HU.out
      rw [h0] at hu
      subst hE0
      clear h0
      by_cases hVv : V = v
      · subst hVv
        have HZ := Lib.hid (show E = ((k4.toNat : Int), KY, 0) by rw [hu, if_pos rfl])
        clear hu
        go_upto_region 10 with (fail)
        refine wp_region_noPanic ?_
        refine wp_region_held_drew (S := fun W => Below w4.heap.size w4 W) (by kernel_rfl) (by exact below_drewN (Below.refl _ _) 1) (fun hHeld => ?_)
        refine wpAnyH_take (i := 0) (oi := ⟨_, _, _, _, _, _⟩) (v := ?_) rfl (by kernel_rfl) (by kernel_rfl) (by kernel_rfl) (fun _ _ _ h => h) (Or.inl ⟨by rfl, ?_⟩) hHeld ?_
        rotate_left 1
        · (intro W hSw; (try dsimp only at hSw); go_simp; try with_reducible rfl)
        try simp only [Act.put, List.setIfInBounds_toArray, List.set_cons_zero, List.set_cons_succ]
        refine wpAnyH_take (i := 1) (oi := ⟨_, _, _, _, _, _⟩) (v := ?_) rfl (by kernel_rfl) (by kernel_rfl) (by kernel_rfl) (fun _ _ _ h => h) (Or.inl ⟨by rfl, ?_⟩) hHeld ?_
        rotate_left 1
        · (intro W hSw; (try dsimp only at hSw); go_simp; try with_reducible rfl)
        try simp only [Act.put, List.setIfInBounds_toArray, List.set_cons_zero, List.set_cons_succ]
        refine wpAnyH_take (i := 2) (oi := ⟨_, _, _, _, _, _⟩) (v := ?_) rfl (by kernel_rfl) (by kernel_rfl) (by kernel_rfl) (fun _ _ _ h => h) (Or.inl ⟨by rfl, ?_⟩) hHeld ?_
        rotate_left 1
        · (intro W hSw; (try dsimp only at hSw); go_simp; try with_reducible rfl)
        try simp only [Act.put, List.setIfInBounds_toArray, List.set_cons_zero, List.set_cons_succ]
        refine wpAnyH_take (i := 3) (oi := ⟨_, _, _, _, _, _⟩) (v := ?_) rfl (by kernel_rfl) (by kernel_rfl) (by kernel_rfl) (fun _ _ _ h => h) (Or.inl ⟨by rfl, ?_⟩) hHeld ?_
        rotate_left 1
        · (intro W hSw; (try dsimp only at hSw); go_simp; try with_reducible rfl)
        try simp only [Act.put, List.setIfInBounds_toArray, List.set_cons_zero, List.set_cons_succ]
        refine wpAnyH_take (i := 4) (oi := ⟨_, _, _, _, _, _⟩) (v := ?_) rfl (by kernel_rfl) (by kernel_rfl) (by kernel_rfl) (fun _ _ _ h => h) (Or.inl ⟨by rfl, ?_⟩) hHeld ?_
        rotate_left 1
        · (intro W hSw; (try dsimp only at hSw); go_simp; try with_reducible rfl)
        try simp only [Act.put, List.setIfInBounds_toArray, List.set_cons_zero, List.set_cons_succ]
        refine wpAnyH_take (i := 5) (oi := ⟨_, _, _, _, _, _⟩) (v := ?_) rfl (by kernel_rfl) (by kernel_rfl) (by kernel_rfl) (fun _ _ _ h => h) (Or.inl ⟨by rfl, ?_⟩) hHeld ?_
        rotate_left 1
        · (intro W hSw; (try dsimp only at hSw); go_simp; try with_reducible rfl)
        try simp only [Act.put, List.setIfInBounds_toArray, List.set_cons_zero, List.set_cons_succ]
        refine wpAnyH_take (i := 6) (oi := ⟨_, _, _, _, _, _⟩) (v := ?_) rfl (by kernel_rfl) (by kernel_rfl) (by kernel_rfl) (fun _ _ _ h => h) (Or.inl ⟨by rfl, ?_⟩) hHeld ?_
        rotate_left 1
        · (intro W hSw; (try dsimp only at hSw); go_simp; try with_reducible rfl)
        try simp only [Act.put, List.setIfInBounds_toArray, List.set_cons_zero, List.set_cons_succ]
        refine wpAnyH_take (i := 7) (oi := ⟨_, _, _, _, _, _⟩) (v := ?_) rfl (by kernel_rfl) (by kernel_rfl) (by kernel_rfl) (fun _ _ _ h => h) (Or.inl ⟨by rfl, ?_⟩) hHeld ?_
        rotate_left 1
        · (intro W hSw; (try dsimp only at hSw); go_simp; try with_reducible rfl)
        try simp only [Act.put, List.setIfInBounds_toArray, List.set_cons_zero, List.set_cons_succ]
        refine wpAnyH_take (i := 8) (oi := ⟨_, _, _, _, _, _⟩) (v := ?_) rfl (by kernel_rfl) (by kernel_rfl) (by kernel_rfl) (fun _ _ _ h => h) (Or.inl ⟨by rfl, ?_⟩) hHeld ?_
        rotate_left 1
        · (intro W hSw; (try dsimp only at hSw); go_simp; try with_reducible rfl)
        try simp only [Act.put, List.setIfInBounds_toArray, List.set_cons_zero, List.set_cons_succ]
        refine wpAnyH_take (i := 9) (oi := ⟨_, _, _, _, _, _⟩) (v := ?_) rfl (by kernel_rfl) (by kernel_rfl) (by kernel_rfl) (fun _ _ _ h => h) (Or.inl ⟨by rfl, ?_⟩) hHeld ?_
        rotate_left 1
        · (intro W hSw; (try dsimp only at hSw); go_simp; try with_reducible rfl)
        try simp only [Act.put, List.setIfInBounds_toArray, List.set_cons_zero, List.set_cons_succ]
        refine wpAnyH_done (by kernel_rfl) ?_ _
        refine NoPanic.normal ?_
        replace hHeld : Below w4.heap.size w4 w4.drew := hHeld
        have hbe2 := hbe.trans (hHeld.mono hbe.size)
        clear hHeld
        go_wp2
        go_ret3
        exact ⟨by rw [HZ.out] <;> rfl, hbe2⟩
      · have HZ := Lib.hid (show E = (0, [], 2) by rw [hu, if_neg]; intro h; injection h with h _; exact hVv h)
        have hne : (V == v) = false := by simpa using hVv
        clear hu hVv hx hqm hq0 hi4
        go_wp2
        go_ret3
        exact ⟨by rw [HZ.out] <;> rfl, hbe⟩
    · have hE0 : ei = 1 := by rw [HE.out, h0]; rfl
      have HZ := Lib.hid (show E = (0, [], 2) by rw [HU.out, h0, if_neg]; simp)
      subst hE0
      clear h0 hx hqm hq0 hi4
      go_wp2
      go_ret3
      exact ⟨by rw [HZ.out] <;> rfl, hbe⟩
theorem runwrap_e (Q v sec : List UInt8) (w : World) (hQ : Q.length = 16) (h1 : v.length ≤ 1000000) (h2 : sec.length ≤ 1000000) :
    Calls Tryd.prog 44 #[.string ⟨v.toArray⟩, .agg (Q.map B8).toArray, .string ⟨sec.toArray⟩] w (RUnwrapPost (unwrapE v Q sec) w) := by
  by_cases hb : v.length < 24
  · exact runwrap_short Q v sec w hQ h1 h2 hb
  by_cases hr : (v.length - 8) % 16 = 0
  · exact runwrap_val Q v sec w hQ h1 h2 (by omega) hr
  · exact runwrap_rem Q v sec w hQ h1 h2 (by omega) hr
end Go.Proofs.YtnbmnognkbcddaaDoor
