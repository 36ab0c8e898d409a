/-
  The walk of the statement EapReads.
-/
import Derived.Test.YtokogedgbegmkaaEi
import Derived.Test.YtokogedgbegmkaaEc
namespace Go.Proofs.Ytokogedgbegmkaa
open Go.RowKit

theorem u8_x17 (a : UInt8) : bits .xor .u8 (a.toNat : Int) (17 : Int) = ((a ^^^ 17).toNat : Int) := by
  have h : ∀ x : Fin 256, bits .xor .u8 ((UInt8.ofNat x.1).toNat : Int) (17 : Int) = ((UInt8.ofNat x.1 ^^^ 17).toNat : Int) := by decide +kernel
  have := h ⟨a.toNat, a.toNat_lt⟩
  simpa using this
set_option maxRecDepth 100000 in
set_option maxHeartbeats 1000000 in
theorem eapReads_walk (A : Option Addr) (c : Nat) (b : List UInt8) (w : World) (iB : In w w.heap.size A c b) :
    Calls Try.prog 6 #[.slice A b.length c] w fun e w' => e = .returned (.bool true) ∧ Below w.heap.size w w' := by
  have ms : min (b.length : Int) 5000 = ((b.take 5000).length : Int) := by rw [List.length_take]; omega
  have hb3 : (b.take 5000).length ≤ 5000 := by rw [List.length_take]; omega
  have hbl : (b.take 5000).length ≤ b.length := by rw [List.length_take]; omega
  have hbc := iB.1
  replace iB := iB.take 5000
  generalize b.take 5000 = B at *
  obtain ⟨n, hn⟩ : ∃ n, n = B.length := ⟨_, rfl⟩
  obtain ⟨lb, hlb⟩ : ∃ lb, lb = b.length := ⟨_, rfl⟩
  rw [← hn] at ms hb3 hbl
  rw [← hlb] at ms hbl hbc ⊢
  have hc0 : (0 : Int) ≤ (n : Int) := by omega
  have hc1 : (n : Int) ≤ (c : Int) := by omega
  have HN := Lib.hid hn.symm
  have HM := Lib.hid (show n < 900000 by omega)
  have IB := Lib.hid iB
  have HBE := Lib.hid (buf_empty w)
  clear hn hlb hb3 hbl hbc iB
  go_enter Try.func6, Try.ntmps6
  go_upto_region 2 with ((with_reducible refine (?_ : wpList _ _ _ (Oper.mk (some 14) _ _ _ _ _ :: _) _ _)); go_loud (refine wpList_append_far rfl (.tmp 8) (.tmp 13) 24 rfl (w.heap.size) _ 0 _ [] B _ rfl HBE.out rfl (src_at ((in_up IB.out ((Below.refl _ _).alloc (Nat.le_refl _) _)).src (Nat.le_refl _)) HN.out) (by rw [HN.out]; have := HM.out; omega) (by simp) n (by rw [HN.out]; omega) ?_); intro A1 c1 w1 hB1 hg1 _; have hbw := below_own ((Below.refl _ _).alloc (Nat.le_refl _) _) HBE.out hg1 (Nat.le_refl _) (by simp))
  rw [List.nil_append] at hB1
  clear ms hc0 hc1 hg1
  have HR := Lib.hid (fun (W : World) (i : In W W.heap.size A1 c1 B) => read_e A1 c1 n B W HN.out i HM.out)
  have HQ := Lib.hid (fun (W : World) => rread_e n B W HN.out HM.out)
  generalize readE B = rd at *
  obtain ⟨⟨p0, p1, p2, pd⟩, er⟩ := rd
  simp only at HR HQ
  go_upto_region 3 with (first
    | (go_at_call 11; refine (HR.out _ (hB1.toIn (Nat.le_refl _))).mono ?_; rintro e w2 ⟨A2, n2, c2, rfl, hP, hb2⟩)
    | ((with_reducible refine (?_ : wpList _ _ _ (Oper.mk none _ _ _ _ _ :: _) _ _)); go_loud (refine wpList_store_blk rfl 29 (.tmp 3) (.tmp 18) rfl rfl w2.heap.size [.int .i64 p0, .int .i64 p1, .int .i64 p2, .slice A2 n2 c2] rfl rfl _ _ (Blk.new_of w2 _ _ _ rfl) (by kernel_rfl) rfl (by simp [Value.oneCell']) ?_); intro w3 hD hg3))
  have HP2 := Lib.hid (fun (g : Nat) (e : A2 = some ⟨g, 0, none⟩) => (hP.lt e).1)
  have hb23 : Below w2.heap.size w2 w3 := below_new ((Below.refl _ _).alloc (Nat.le_refl _) _) hg3 (Nat.le_refl _) (by simp)
  have hB1z := hB1
  replace hB1 := (hB1.below hb2).below hb23
  have HG3 := Lib.hid (show w1.heap.size ≤ w2.heap.size from hb2.size)
  have hb13 := hb2.trans (hb23.mono hb2.size)
  replace hbw := hbw.trans (hb13.mono hbw.size)
  replace hP := hP.below hb23
  replace hD : Blk w3 w2.heap.size 29 [.int .i64 p0, .int .i64 p1, .int .i64 p2, .slice A2 n2 c2] := hD
  generalize w2.heap.size = g3 at *
  clear hg3 hb2 hb23
  have hcx := conv_in HN.out (hB1.toIn (Nat.le_refl _))
  go_upto_region 4 with (first
    | (go_at_call 13; refine (HQ.out _).mono ?_; rintro e w4 ⟨rfl, hb4⟩)
    | ((with_reducible refine (?_ : wpList _ _ _ (Oper.mk none _ _ _ _ _ :: _) _ _)); go_loud (refine wpList_store_blk rfl 23 (.tmp 5) (.tmp 24) rfl rfl w4.heap.size [.int .i64 p0, .int .i64 p1, .int .i64 p2, .string ⟨pd.toArray⟩] rfl rfl _ _ (Blk.new_of w4 _ _ _ rfl) (by kernel_rfl) rfl (by simp [Value.oneCell']) ?_); intro w5 hC hg5))
  have hb45 : Below w4.heap.size w4 w5 := below_new ((Below.refl _ _).alloc (Nat.le_refl _) _) hg5 (Nat.le_refl _) (by simp)
  have hb35 := hb4.trans (hb45.mono hb4.size)
  have HG5 := Lib.hid (show w1.heap.size ≤ w4.heap.size from Nat.le_trans hb13.size hb4.size)
  replace hB1 := hB1.below hb35
  replace hP := hP.below hb35
  replace hD := hD.below hb35 hD.lt
  replace hC : Blk w5 w4.heap.size 23 [.int .i64 p0, .int .i64 p1, .int .i64 p2, .string ⟨pd.toArray⟩] := hC
  replace hbw := hbw.trans (hb35.mono hbw.size)
  generalize w4.heap.size = g5 at *
  clear hcx hg5 hb4 hb45 hb35 hb13
  have HPL := Lib.hid hP.1
  have hip := hP.toIn (Nat.le_refl _)
  have HDD0 := Lib.hid (fun (W : World) (h : Below w5.heap.size w5 W) => (show W.cell? ⟨g3, 0, none⟩ = some (.int .i64 p0) from (hD.below h hD.lt).cell 0))
  have HDD1 := Lib.hid (fun (W : World) (h : Below w5.heap.size w5 W) => (show W.cell? ⟨g3, 1, none⟩ = some (.int .i64 p1) from (hD.below h hD.lt).cell 1))
  have HDD2 := Lib.hid (fun (W : World) (h : Below w5.heap.size w5 W) => (show W.cell? ⟨g3, 2, none⟩ = some (.int .i64 p2) from (hD.below h hD.lt).cell 2))
  have HDD3 := Lib.hid (fun (W : World) (h : Below w5.heap.size w5 W) => (show W.cell? ⟨g3, 3, none⟩ = some (.slice A2 n2 c2) from (hD.below h hD.lt).cell 3))
  have HCC0 := Lib.hid (fun (W : World) (h : Below w5.heap.size w5 W) => (show W.cell? ⟨g5, 0, none⟩ = some (.int .i64 p0) from (hC.below h hC.lt).cell 0))
  have HCC1 := Lib.hid (fun (W : World) (h : Below w5.heap.size w5 W) => (show W.cell? ⟨g5, 1, none⟩ = some (.int .i64 p1) from (hC.below h hC.lt).cell 1))
  have HCC2 := Lib.hid (fun (W : World) (h : Below w5.heap.size w5 W) => (show W.cell? ⟨g5, 2, none⟩ = some (.int .i64 p2) from (hC.below h hC.lt).cell 2))
  have HCC3 := Lib.hid (fun (W : World) (h : Below w5.heap.size w5 W) => (show W.cell? ⟨g5, 3, none⟩ = some (.string ⟨pd.toArray⟩) from (hC.below h hC.lt).cell 3))
  have HIP := Lib.hid (fun (W : World) (h : Below w5.heap.size w5 W) => in_up hip h)
  have HH := Lib.hid (And.intro hP (And.intro hB1 (And.intro hD (And.intro hC hbw))))
  have HB1z := Lib.hid hB1z
  clear hip hP hB1 hD hC hbw hB1z
  go_wp2
  refine wp_region_noPanic ?_
  refine wp_region_held_drew (S := fun W => Below w5.heap.size w5 W) (by kernel_rfl) (by exact below_drewN (Below.refl _ _) 1) (fun hHeld => ?_)
  refine wpAnyH_ready (rs := [0]) (by kernel_rfl) (by simp) ?_
  refine AllReadyH.cons (o := ⟨_, _, _, _, _, _⟩) rfl (fun K hK => ?_) AllReadyH.nil
  go_simp
  go_at_call 10
  refine (eaps_e _).mono ?_
  rintro e w6 ⟨rfl, hbc⟩
  try go_wp2_with fail
  replace hHeld : Below w5.heap.size w5 w5.drew := hHeld
  refine hK.out _ _ (hHeld.trans (hbc.mono hHeld.size)) (fun hHeld => ?_)
  clear hK K hbc
  try simp only [Act.put, List.setIfInBounds_toArray, List.set_cons_zero, List.set_cons_succ]
  refine wpAnyH_take (i := 1) (oi := ⟨_, _, _, _, _, _⟩) (v := ?_) rfl (by kernel_rfl) (by kernel_rfl) (by kernel_rfl) (fun _ _ _ h => h) (Or.inl ⟨by rfl, ?_⟩) hHeld ?_
  rotate_left 1
  · (intro W hSw; (try dsimp only at hSw); go_simp; try with_reducible rfl)
  try simp only [Act.put, List.setIfInBounds_toArray, List.set_cons_zero, List.set_cons_succ]
  refine wpAnyH_take (i := 2) (oi := ⟨_, _, _, _, _, _⟩) (v := ?_) rfl (by kernel_rfl) (by kernel_rfl) (by kernel_rfl) (fun _ _ _ h => h) (Or.inl ⟨by rfl, ?_⟩) hHeld ?_
  rotate_left 1
  · (intro W hSw; (try dsimp only at hSw); go_simp; try with_reducible rfl)
  try simp only [Act.put, List.setIfInBounds_toArray, List.set_cons_zero, List.set_cons_succ]
  refine wpAnyH_take (i := 3) (oi := ⟨_, _, _, _, _, _⟩) (v := ?_) rfl (by kernel_rfl) (by kernel_rfl) (by kernel_rfl) (fun _ _ _ h => h) (Or.inl ⟨by rfl, ?_⟩) hHeld ?_
  rotate_left 1
  · (intro W hSw; (try dsimp only at hSw); go_simp; try with_reducible rfl)
  try simp only [Act.put, List.setIfInBounds_toArray, List.set_cons_zero, List.set_cons_succ]
  refine wpAnyH_take (i := 4) (oi := ⟨_, _, _, _, _, _⟩) (v := ?_) rfl (by kernel_rfl) (by kernel_rfl) (by kernel_rfl) (fun _ _ _ h => h) (Or.inl ⟨by rfl, ?_⟩) hHeld ?_
  rotate_left 1
  · (intro W hSw; (try dsimp only at hSw); go_simp; try with_reducible rfl)
  try simp only [Act.put, List.setIfInBounds_toArray, List.set_cons_zero, List.set_cons_succ]
  refine wpAnyH_take (i := 5) (oi := ⟨_, _, _, _, _, _⟩) (v := ?_) rfl (by kernel_rfl) (by kernel_rfl) (by kernel_rfl) (fun _ _ _ h => h) (Or.inl ⟨by rfl, ?_⟩) hHeld ?_
  rotate_left 1
  · (intro W hSw; (try dsimp only at hSw); go_simp; try with_reducible rfl)
  try simp only [Act.put, List.setIfInBounds_toArray, List.set_cons_zero, List.set_cons_succ]
  refine wpAnyH_take (i := 6) (oi := ⟨_, _, _, _, _, _⟩) (v := ?_) rfl (by kernel_rfl) (by kernel_rfl) (by kernel_rfl) (fun _ _ _ h => h) (Or.inl ⟨by rfl, ?_⟩) hHeld ?_
  rotate_left 1
  · (intro W hSw; (try dsimp only at hSw); go_simp; try with_reducible rfl)
  try simp only [Act.put, List.setIfInBounds_toArray, List.set_cons_zero, List.set_cons_succ]
  refine wpAnyH_take (i := 7) (oi := ⟨_, _, _, _, _, _⟩) (v := ?_) rfl (by kernel_rfl) (by kernel_rfl) (by kernel_rfl) (fun _ _ _ h => h) (Or.inl ⟨by rfl, ?_⟩) hHeld ?_
  rotate_left 1
  · (intro W hSw; (try dsimp only at hSw); go_simp; try with_reducible rfl)
  try simp only [Act.put, List.setIfInBounds_toArray, List.set_cons_zero, List.set_cons_succ]
  refine wpAnyH_take (i := 8) (oi := ⟨_, _, _, _, _, _⟩) (v := ?_) rfl (by kernel_rfl) (by kernel_rfl) (by kernel_rfl) (fun _ _ _ h => h) (Or.inl ⟨by rfl, ?_⟩) hHeld ?_
  rotate_left 1
  · (intro W hSw; (try dsimp only at hSw); have d0 := HDD0.out W hSw; have d1 := HDD1.out W hSw; have d2 := HDD2.out W hSw; have d3 := HDD3.out W hSw; go_simp; try with_reducible rfl)
  try simp only [Act.put, List.setIfInBounds_toArray, List.set_cons_zero, List.set_cons_succ]
  refine wpAnyH_take (i := 10) (oi := ⟨_, _, _, _, _, _⟩) (v := ?_) rfl (by kernel_rfl) (by kernel_rfl) (by kernel_rfl) (fun _ _ _ h => h) (Or.inl ⟨by rfl, ?_⟩) hHeld ?_
  rotate_left 1
  · (intro W hSw; (try dsimp only at hSw); have c0 := HCC0.out W hSw; have c1 := HCC1.out W hSw; have c2 := HCC2.out W hSw; have c3 := HCC3.out W hSw; go_simp; try with_reducible rfl)
  try simp only [Act.put, List.setIfInBounds_toArray, List.set_cons_zero, List.set_cons_succ]
  refine wpAnyH_ready (rs := [9]) (by kernel_rfl) (by simp) ?_
  refine AllReadyH.cons (o := ⟨_, _, _, _, _, _⟩) rfl (fun K hK => ?_) AllReadyH.nil
  go_simp
  go_at_call 12
  refine (from_e p0 p1 p2 A2 n2 c2 pd _ HPL.out (HIP.out _ hHeld)).mono ?_
  rintro e w7 ⟨rfl, hbc⟩
  try go_wp2_with fail
  refine hK.out _ _ (hHeld.trans (hbc.mono hHeld.size)) (fun hHeld => ?_)
  clear hK K hbc
  try simp only [Act.put, List.setIfInBounds_toArray, List.set_cons_zero, List.set_cons_succ]
  refine wpAnyH_take (i := 11) (oi := ⟨_, _, _, _, _, _⟩) (v := ?_) rfl (by kernel_rfl) (by kernel_rfl) (by kernel_rfl) (fun _ _ _ h => h) (Or.inl ⟨by rfl, ?_⟩) hHeld ?_
  rotate_left 1
  · (intro W hSw; (try dsimp only at hSw); go_simp; try with_reducible rfl)
  try simp only [Act.put, List.setIfInBounds_toArray, List.set_cons_zero, List.set_cons_succ]
  refine wpAnyH_take (i := 12) (oi := ⟨_, _, _, _, _, _⟩) (v := ?_) rfl (by kernel_rfl) (by kernel_rfl) (by kernel_rfl) (fun _ _ _ h => h) (Or.inl ⟨by rfl, ?_⟩) hHeld ?_
  rotate_left 1
  · (intro W hSw; (try dsimp only at hSw); go_simp; try with_reducible rfl)
  try simp only [Act.put, List.setIfInBounds_toArray, List.set_cons_zero, List.set_cons_succ]
  refine wpAnyH_done (by kernel_rfl) ?_ _
  refine NoPanic.normal ?_
  have hP := HH.out.1.below hHeld
  have hB1 := HH.out.2.1.below hHeld
  have hD := HH.out.2.2.1.below hHeld HH.out.2.2.1.lt
  have hC := HH.out.2.2.2.1.below hHeld HH.out.2.2.2.1.lt
  have hbw := HH.out.2.2.2.2.trans (hHeld.mono HH.out.2.2.2.2.size)
  clear HDD0 HDD1 HDD2 HDD3 HCC0 HCC1 HCC2 HCC3 HIP HH hHeld
  rename_i w7
  have hlA := hB1.le
  have HHS := Lib.hid (show w.heap.size ≤ w7.heap.size ∧ g3 < w7.heap.size ∧ g5 < w7.heap.size from ⟨hbw.size, hD.lt, hC.lt⟩)
  have HP := Lib.hid hP
  have HB := Lib.hid hB1
  have HD := Lib.hid hD
  have HC := Lib.hid hC
  have HBW := Lib.hid hbw
  clear hP hB1 hD hC hbw
  go_wp2
  go_loopw [7] (fun i wr => ∃ (k : Nat) (L : List UInt8), k ≤ n ∧ i = .int .i64 (k : Int) ∧ Buf wr w.heap.size A1 n c1 L ∧ w7.grownBy wr (ownOf A1)) (fun i _ => n - (intOf i).toNat)
  case atStart => exact ⟨0, B, Nat.zero_le _, rfl, HB.out, grown_refl _ _⟩
  case round =>
    obtain ⟨k, L, hk, rfl, hL, hgw⟩ := hrel
    by_cases hlt : k < n
    · obtain ⟨gB, rfl, hgB, hgB2, hby⟩ := hL.at (by omega)
      have hcc : wr.cell? ⟨gB, k, none⟩ = some (.int .u8 ((L.getD k 0).toNat : Int)) := by have := hby k (by rw [hL.1]; exact hlt); rwa [Nat.zero_add] at this
      have hfr := hL.notFrozen (j := k) (by omega)
      obtain ⟨y, hy⟩ : ∃ y, y = L.getD k 0 := ⟨_, rfl⟩
      rw [← hy] at hcc
      obtain ⟨z, hz⟩ : ∃ z, z = y ^^^ 17 := ⟨_, rfl⟩
      have hxx : bits .xor .u8 (y.toNat : Int) 17 = (z.toNat : Int) := by rw [hz, u8_x17]
      have hk0 : (0 : Int) ≤ (k : Int) := by omega
      have hd : (k : Int) < (n : Int) := by omega
      have hd2 : decide (k < n) = true := by simpa using hlt
      have HN9 := Lib.hid (show n < 900000 from HM.out)
      have hn9 : n < 900000 := HM.out
      clear hz hy hby hlA
      go_wp2
      go_roundw
      case rel => exact ⟨k + 1, L.set k z, by omega, by go_num, hL.set hlt z, by exact grown_setCell (g := gB) (p := ⟨gB, k, none⟩) hgw (.inl rfl) _⟩
      case measure => simp [intOf]; omega
    · have hd2 : decide (k < n) = false := by simpa using hlt
      rw [show (k : Int) = (n : Int) by omega]
      have hd3 : ¬ (n : Int) < (n : Int) := by omega
      have hne : ∀ g, w1.heap.size ≤ g → some g ≠ ownOf A1 := fun g hg e => by
        rcases HB1z.out.2 with ⟨h, _⟩ | ⟨g', h, _, h2, _⟩
        · rw [h] at e; cases e
        · rw [h] at e; injection e with e; simp at e; omega
      have hDw := HD.out.grown hgw (hne _ HG3.out)
      have hCw := HC.out.grown hgw (hne _ HG5.out)
      have hPw := HP.out.kept hgw (fun g e => hne g (HP2.out g e))
      have hip := hPw.toIn (Nat.le_refl _)
      have HBR := Lib.hid (below_own HBW.out HB.out hgw (Nat.le_refl _) HBW.out.size)
      have EDD0 := Lib.hid (fun (W : World) (h : Below wr.heap.size wr W) => (show W.cell? ⟨g3, 0, none⟩ = some (.int .i64 p0) from (hDw.below h hDw.lt).cell 0))
      have EDD1 := Lib.hid (fun (W : World) (h : Below wr.heap.size wr W) => (show W.cell? ⟨g3, 1, none⟩ = some (.int .i64 p1) from (hDw.below h hDw.lt).cell 1))
      have EDD2 := Lib.hid (fun (W : World) (h : Below wr.heap.size wr W) => (show W.cell? ⟨g3, 2, none⟩ = some (.int .i64 p2) from (hDw.below h hDw.lt).cell 2))
      have EDD3 := Lib.hid (fun (W : World) (h : Below wr.heap.size wr W) => (show W.cell? ⟨g3, 3, none⟩ = some (.slice A2 n2 c2) from (hDw.below h hDw.lt).cell 3))
      have ECC0 := Lib.hid (fun (W : World) (h : Below wr.heap.size wr W) => (show W.cell? ⟨g5, 0, none⟩ = some (.int .i64 p0) from (hCw.below h hCw.lt).cell 0))
      have ECC1 := Lib.hid (fun (W : World) (h : Below wr.heap.size wr W) => (show W.cell? ⟨g5, 1, none⟩ = some (.int .i64 p1) from (hCw.below h hCw.lt).cell 1))
      have ECC2 := Lib.hid (fun (W : World) (h : Below wr.heap.size wr W) => (show W.cell? ⟨g5, 2, none⟩ = some (.int .i64 p2) from (hCw.below h hCw.lt).cell 2))
      have ECC3 := Lib.hid (fun (W : World) (h : Below wr.heap.size wr W) => (show W.cell? ⟨g5, 3, none⟩ = some (.string ⟨pd.toArray⟩) from (hCw.below h hCw.lt).cell 3))
      have EIP := Lib.hid (fun (W : World) (h : Below wr.heap.size wr W) => in_up hip h)
      clear hne hDw hCw hPw hip hL hgw hk hlt hd2 hlA
      go_wp2
      refine wp_region_noPanic ?_
      refine wp_region_held_drew (S := fun W => Below wr.heap.size wr W) (by kernel_rfl) (by exact below_drewN (Below.refl _ _) 1) (fun hHeld => ?_)
      refine wpAnyH_take (i := 0) (oi := ⟨_, _, _, _, _, _⟩) (v := ?_) rfl (by kernel_rfl) (by kernel_rfl) (by kernel_rfl) (fun _ _ _ h => h) (Or.inl ⟨by rfl, ?_⟩) hHeld ?_
      rotate_left 1
      · (intro W hSw; (try dsimp only at hSw); have d0 := EDD0.out W hSw; have d1 := EDD1.out W hSw; have d2 := EDD2.out W hSw; have d3 := EDD3.out W hSw; go_simp; try with_reducible rfl)
      try simp only [Act.put, List.setIfInBounds_toArray, List.set_cons_zero, List.set_cons_succ]
      refine wpAnyH_take (i := 2) (oi := ⟨_, _, _, _, _, _⟩) (v := ?_) rfl (by kernel_rfl) (by kernel_rfl) (by kernel_rfl) (fun _ _ _ h => h) (Or.inl ⟨by rfl, ?_⟩) hHeld ?_
      rotate_left 1
      · (intro W hSw; (try dsimp only at hSw); have c0 := ECC0.out W hSw; have c1 := ECC1.out W hSw; have c2 := ECC2.out W hSw; have c3 := ECC3.out W hSw; go_simp; try with_reducible rfl)
      try simp only [Act.put, List.setIfInBounds_toArray, List.set_cons_zero, List.set_cons_succ]
      refine wpAnyH_ready (rs := [1]) (by kernel_rfl) (by simp) ?_
      refine AllReadyH.cons (o := ⟨_, _, _, _, _, _⟩) rfl (fun K hK => ?_) AllReadyH.nil
      go_simp
      go_at_call 12
      refine (from_e p0 p1 p2 A2 n2 c2 pd _ HPL.out (EIP.out _ hHeld)).mono ?_
      rintro e w9 ⟨rfl, hbc⟩
      try go_wp2_with fail
      replace hHeld : Below wr.heap.size wr wr.drew := hHeld
      refine hK.out _ _ (hHeld.trans (hbc.mono hHeld.size)) (fun hHeld => ?_)
      clear hK K hbc
      try simp only [Act.put, List.setIfInBounds_toArray, List.set_cons_zero, List.set_cons_succ]
      refine wpAnyH_take (i := 3) (oi := ⟨_, _, _, _, _, _⟩) (v := ?_) rfl (by kernel_rfl) (by kernel_rfl) (by kernel_rfl) (fun _ _ _ h => h) (Or.inl ⟨by rfl, ?_⟩) hHeld ?_
      rotate_left 1
      · (intro W hSw; (try dsimp only at hSw); go_simp; try with_reducible rfl)
      try simp only [Act.put, List.setIfInBounds_toArray, List.set_cons_zero, List.set_cons_succ]
      refine wpAnyH_take (i := 4) (oi := ⟨_, _, _, _, _, _⟩) (v := ?_) rfl (by kernel_rfl) (by kernel_rfl) (by kernel_rfl) (fun _ _ _ h => h) (Or.inl ⟨by rfl, ?_⟩) hHeld ?_
      rotate_left 1
      · (intro W hSw; (try dsimp only at hSw); go_simp; try with_reducible rfl)
      try simp only [Act.put, List.setIfInBounds_toArray, List.set_cons_zero, List.set_cons_succ]
      refine wpAnyH_done (by kernel_rfl) ?_ _
      refine NoPanic.normal ?_
      have hfin := HBR.out.trans (hHeld.mono HBR.out.size)
      go_wp2
      go_ret
      exact ⟨rfl, hfin⟩
end Go.Proofs.Ytokogedgbegmkaa
