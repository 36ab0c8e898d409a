/-
  The walk of the statement HashLong: whatever numbers come in, the call answers true and turns nothing that was there.
-/
import Derived.Test.YtdpfcbkmkmccgaaDoorEnds
namespace Go.Proofs.YtdpfcbkmkmccgaaDoor
open Go.RowKit

theorem u64_wrap_nat (n : Int) : IntKind.u64.wrap n = ((n % 18446744073709551616).toNat : Int) := by
  simp [IntKind.wrap, IntKind.signed, IntKind.bits]
  omega
/-- A row of n places of which the first i are filled. -/
def fillTo (n : Nat) (x : UInt8) (i : Nat) : List UInt8 := List.replicate i x ++ List.replicate (n - i) 0
theorem fillTo_set (n : Nat) (x : UInt8) (i : Nat) (h : i < n) : (fillTo n x i).set i x = fillTo n x (i + 1) := by
  unfold fillTo
  rw [List.set_append_right _ _ (by simp), List.length_replicate, Nat.sub_self, show n - i = (n - (i + 1)) + 1 by omega, List.replicate_succ, List.set_cons_zero, List.replicate_succ' (n := i), List.append_assoc]
  rfl
theorem fillTo_length (n : Nat) (x : UInt8) (i : Nat) (h : i ≤ n) : (fillTo n x i).length = n := by
  unfold fillTo; rw [List.length_append, List.length_replicate, List.length_replicate]; omega
theorem fillTo_all (n : Nat) (x : UInt8) : fillTo n x n = List.replicate n x := by
  unfold fillTo; simp
/-- A part of one slice, its length said otherwise. -/
theorem Parts.one' {w : World} {g gp k c : Nat} {A : Option Addr} {b : List UInt8} (hl : b.length = k) (hc : w.cell? ⟨gp, 0, none⟩ = some (.slice A k c)) (hn : gp ≠ g) (h1 : k ≤ c) (h2 : c ≤ 9223372036854775807) (h3 : Src w g A b) : Parts w g (some ⟨gp, 0, none⟩) [b] := by
  subst hl
  exact Parts.one hc hn h1 h2 h3
theorem Src.of_below {w w' : World} {g B : Nat} {A : Option Addr} {xs : List UInt8} (h : Src w g A xs) (hb : Below B w w') (hA : ∀ a, A = some a → a.block < B) : Src w' g A xs := fun h0 => by
  obtain ⟨gb, ob, rfl, hn, hby⟩ := h h0
  exact ⟨gb, ob, rfl, hn, hby.below hb (hA _ rfl)⟩

set_option maxRecDepth 100000 in
set_option maxHeartbeats 2000000 in
theorem hashLong_walk (n0 c0 : Int) (x : UInt8) (w : World) (ht : Tabs w) :
    Calls Tryd.prog 6 #[.int .i64 n0, .int .i64 c0, .int .u8 x.toNat] w fun e w' => e = .returned (.bool true) ∧ Below w.heap.size w w' := by
  have ht0 := ht.lt0
  have ht1 := ht.lt1
  obtain ⟨m, hm⟩ : ∃ m : Nat, IntKind.u64.wrap n0 = (m : Int) := ⟨_, u64_wrap_nat n0⟩
  obtain ⟨mc, hmc⟩ : ∃ m : Nat, IntKind.u64.wrap c0 = (m : Int) := ⟨_, u64_wrap_nat c0⟩
  obtain ⟨N, hN⟩ : ∃ N : Nat, (m : Int) % 400 = (N : Int) := ⟨m % 400, by omega⟩
  have hN4 : N < 400 := by omega
  have hmk := fun W => run_make_bytes .i64 .i64 N N (Nat.le_refl _) (by omega) W
  have hN0 : (0 : Int) ≤ (N : Int) := by omega
  go_enter Tryd.func6, Tryd.ntmps6
  go_wp2
  go_loopw [8] (fun i wr => ∃ k : Nat, k ≤ N ∧ i = .int .i64 k ∧ Blk wr w.heap.size 5 ((fillTo N x k).map B8) ∧ Below w.heap.size w wr) (fun i _ => N - (intOf i).toNat)
  case atStart => exact ⟨0, by omega, rfl, Blk.new_of w _ _ _ (by simp [fillTo]), (Below.refl _ _).alloc (Nat.le_refl _) _⟩
  case round =>
    obtain ⟨k, hk, rfl, hB, hb⟩ := hrel
    by_cases hlt : k < N
    · have hd : decide ((k : Int) < (N : Int)) = true := by simp; omega
      have hkN : (k : Int) < (N : Int) := by omega
      have hl := fillTo_length N x k (by omega)
      have c1 := hB.at8 k (by omega)
      have f1 := hB.frozen k
      have HS := Lib.hid (fillTo_set N x k hlt)
      clear hl
      go_wp2
      go_roundw
      case rel =>
        refine ⟨k + 1, by omega, by go_num, ?_, hb.setCell (Nat.le_refl _) _⟩
        rw [← HS.out, ← map_set8]
        exact hB.set_ k _
      case measure => simp [intOf]; omega
    · have hkN : ¬ ((k : Int) < (N : Int)) := by omega
      obtain rfl : k = N := by omega
      rw [fillTo_all] at hB
      have hq : (mc : Int) % ((k : Int) + 1) = ((mc % (k + 1) : Nat) : Int) := by rw [Int.natCast_emod]; rfl
      have hq1 : mc % (k + 1) ≤ k := by have := Nat.mod_lt mc (show 0 < k + 1 by omega); omega
      generalize mc % (k + 1) = q at *
      have hq0 : (0 : Int) ≤ (q : Int) := by omega
      have hq2 : (q : Int) ≤ (k : Int) := by omega
      clear hlt hk hmk hkN
      go_wp2_with fail
      refine (new_any _).mono ?_
      rintro e w1 ⟨rfl, hs1, hb1⟩
      have hgs0 : w.heap.size < wr.heap.size := hB.lt
      replace hB := hB.below hb1 hB.lt
      replace hb1 := hb.trans (hb1.mono hb.size)
      generalize wr.heap.size = gs at *
      have hs := HeldN.new hs1
      have hl1 := hs.lt
      clear hs1 hb
      have hbl : (List.replicate k x).length = k := List.length_replicate
      obtain ⟨bs, hbs⟩ : ∃ bs, bs = List.replicate k x := ⟨_, rfl⟩
      rw [← hbs] at hB hbl
      clear hbs
      have HBL := Lib.hid hbl
      clear hbl
      have hby : Bytes w1 w.heap.size 0 bs := fun j hj => by rw [Nat.zero_add]; exact hB.at8 j hj
      have hP1 : Parts (w1.alloc (.cells #[.slice (some ⟨w.heap.size, 0, none⟩) q k] 27)) gs (some ⟨w1.heap.size, 0, none⟩) [bs.take q] :=
        Parts.one' (by rw [List.length_take, HBL.out]; omega) (new_cell _ _ _) (by omega) hq1 (by omega) (Src.alloc (fun _ => ⟨w.heap.size, 0, rfl, by omega, hby.take q⟩) _)
      go_wp2_with fail
      refine (Put_any gs 1 _ [] [bs.take q] _ (by simp; rw [HBL.out]; omega) (by simp) (by omega) hP1 (hs.alloc _) ((ht.below hb1).below ((Below.refl _ _).alloc (Nat.le_refl _) _)) (by omega) (by omega)).mono ?_
      rintro e w2 ⟨rfl, hg2, hh2⟩
      replace hB := (hB.alloc _).grown hg2 (by simp; omega)
      have hb2 := below_new (hb1.alloc hb1.size _) hg2 (by omega) (by simp; omega)
      replace hs := HeldN.of_held hh2
      simp only [List.nil_append, List.flatten_cons, List.flatten_nil, List.append_nil] at hs
      have hl2 := hs.lt
      clear hh2 hg2 hb1 hl1 hP1 hby
      have hby : Bytes w2 w.heap.size 0 bs := fun j hj => by rw [Nat.zero_add]; exact hB.at8 j hj
      have hdrop : Bytes w2 w.heap.size q (bs.drop q) := fun j hj => by
        rw [List.length_drop] at hj
        have := hby (q + j) (by omega)
        rw [Nat.zero_add] at this
        rw [this]
        simp [List.getD_eq_getElem?_getD, List.getElem?_drop]
      by_cases hkq : k = q
      · subst hkq
        go_wp2_with fail
        refine (Put_any gs 1 _ (bs.take k) [bs.drop k] _ (by simp [HBL.out]; omega) (by simp) (by omega) (by first
          | exact Parts.one' (k := k - k) (by rw [List.length_drop, HBL.out]) (new_cell _ _ _) (by omega) (Nat.le_refl _) (by omega) (Src.alloc (fun _ => ⟨w.heap.size, k, rfl, by omega, hdrop⟩) _)
          | exact Parts.one' (k := 0) (by rw [List.length_drop, HBL.out]; omega) (new_cell _ _ _) (by omega) (Nat.le_refl _) (by omega) (Src.alloc (fun h0 => absurd h0 (by rw [List.length_drop, HBL.out]; omega)) _)) (hs.alloc _) ((ht.below hb2).below ((Below.refl _ _).alloc (Nat.le_refl _) _)) (by omega) (by omega)).mono ?_
        rintro e w3 ⟨rfl, hg3, hh3⟩
        replace hB := (hB.alloc _).grown hg3 (by simp; omega)
        have hb3 := below_new (hb2.alloc hb2.size _) hg3 (by omega) (by simp; omega)
        have hs3 := HeldN.of_held hh3
        simp only [List.flatten_cons, List.flatten_nil, List.append_nil, List.take_append_drop] at hs3
        clear hh3 hg3 hb2 hl2 hby hs hdrop
        go_wp2_with fail
        refine (Sum_held gs _ _ (by rw [HBL.out]; omega) hs3 (ht.below hb3)).mono ?_
        rintro e w4 ⟨rfl, hb4⟩
        replace hB := hB.below hb4 hB.lt
        have hlt4 := hB.lt
        have hb5 := hb3.trans (hb4.mono hb3.size)
        have hz5 := hb5.size
        clear hb3 hb4 hs3
        obtain ⟨y, hy⟩ : ∃ y, y = sha bs := ⟨_, rfl⟩
        have hyl : y.length = 32 := by rw [hy]; exact sha_length _
        rw [← hy]
        have HY := Lib.hid hy
        have HYL := Lib.hid hyl
        clear hy hyl
        go_wp2_with (refine wpList_store_blk rfl 24 (.tmp 11) (.tmp 48) rfl rfl w4.heap.size _ rfl rfl 24 _ (Blk.new_of w4 24 _ ((List.replicate 32 (0 : UInt8)).map B8) (by rfl)) (info32.trans (by rw [List.length_map, HYL.out])) (by rw [List.length_map, List.length_map, HYL.out]; rfl) (one8 _) ?_; intro w6 hS6 hg6)
        replace hB := (hB.alloc _).grown hg6 (by simp; omega)
        have hb6 := below_new (hb5.alloc hb5.size _) hg6 hb5.size (by simp; omega)
        clear hg6 hb5
        have hlt6 : w4.heap.size < w6.heap.size := hS6.lt
        have hS0 : w6.drew.rangeAt w4.heap.size 0 (y.map B8) ∧ Below w6.heap.size w6 w6.drew := ⟨rangeAt_of_blk hS6.drew, below_drewN (Below.refl _ _) 1⟩
        have HS0 := Lib.hid hS0
        have HT := Lib.hid (fun (W : World) (h : W.rangeAt w4.heap.size 0 (y.map B8) ∧ Below w6.heap.size w6 W) => (ht.below hb6).below h.2)
        have HI := Lib.hid (fun (W : World) (h : W.rangeAt w4.heap.size 0 (y.map B8) ∧ Below w6.heap.size w6 W) => (show In W (w.heap.size + 1) (some ⟨w.heap.size, 0, none⟩) k bs from ⟨by rw [HBL.out]; exact Nat.le_refl _, by omega, fun _ => ⟨w.heap.size, 0, rfl, Nat.lt_succ_self _, fun j hj => by rw [Nat.zero_add]; exact (hB.below h.2 (by omega)).at8 j hj⟩⟩))
        have HZ := Lib.hid (fun (W : World) (h : W.rangeAt w4.heap.size 0 (y.map B8) ∧ Below w6.heap.size w6 W) => (show w.heap.size + 1 ≤ W.heap.size by have := h.2.size; omega))
        have HOf := Lib.hid (fun (W : World) (gp : Nat) (h : W.rangeAt w4.heap.size 0 (y.map B8) ∧ Below w6.heap.size w6 W) (hc : W.cell? ⟨gp, 0, none⟩ = some (.slice (some ⟨w.heap.size, 0, none⟩) k k)) => by
          have := of_one HBL.out (by omega) (HT.out W h) hc (HI.out W h) (HZ.out W h)
          rw [← HY.out] at this
          exact this)
        have HRef := Lib.hid (fun (W : World) => by
          have := refSum_any bs W (by rw [HBL.out]; omega)
          rw [← HY.out] at this
          exact this)
        have hq1 := eq32 y HYL.out
        have hcv1 := fun (W : World) (h : W.rangeAt w4.heap.size 0 (y.map B8)) => conv_row HYL.out h 32
        have hcv2 := fun (W : World) (h : W.rangeAt w4.heap.size 0 (y.map B8) ∧ Below w6.heap.size w6 W) => conv_in HBL.out (HI.out W h)
        have hu := Tryd.underlying24
        have hi32 : (Tryd.prog.info? 24).map (·.size) = some (y.map B8).length := info32.trans (by rw [List.length_map, HYL.out])
        have HB6 := Lib.hid hb6
        clear hB hS6 hb6 hS0 ht
        go_region_held3 (fun w' => w'.rangeAt w4.heap.size 0 (y.map B8) ∧ Below w6.heap.size w6 w') (first | exact HS0.out | exact held_alloc hlt6 (by assumption) _ | exact held_step hlt6 (by assumption) (by assumption)) (first
          | (go_at_call 17; refine (sums_any _ (HT.out _ (by assumption))).mono ?_; rintro e w7 ⟨rfl, hb7⟩)
          | (go_at_call 16; refine (HOf.out _ _ (by assumption) (new_cell _ _ _)).mono ?_; rintro e w7 ⟨rfl, hb7⟩)
          | (go_at_call 18; refine (HRef.out _).mono ?_; rintro e w7 ⟨rfl, hb7⟩))
        have hfin := HB6.out.trans ((by assumption : World.rangeAt _ w4.heap.size 0 (y.map B8) ∧ Below w6.heap.size w6 _).2.mono HB6.out.size)
        go_wp2
        go_ret
        exact ⟨rfl, hfin⟩
      · skip
        go_wp2_with fail
        refine (Put_any gs 1 _ (bs.take q) [bs.drop q] _ (by simp [HBL.out]; omega) (by simp) (by omega) (by first
          | exact Parts.one' (k := k - q) (by rw [List.length_drop, HBL.out]) (new_cell _ _ _) (by omega) (Nat.le_refl _) (by omega) (Src.alloc (fun _ => ⟨w.heap.size, q, rfl, by omega, hdrop⟩) _)
          | exact Parts.one' (k := 0) (by rw [List.length_drop, HBL.out]; omega) (new_cell _ _ _) (by omega) (Nat.le_refl _) (by omega) (Src.alloc (fun h0 => absurd h0 (by rw [List.length_drop, HBL.out]; omega)) _)) (hs.alloc _) ((ht.below hb2).below ((Below.refl _ _).alloc (Nat.le_refl _) _)) (by omega) (by omega)).mono ?_
        rintro e w3 ⟨rfl, hg3, hh3⟩
        replace hB := (hB.alloc _).grown hg3 (by simp; omega)
        have hb3 := below_new (hb2.alloc hb2.size _) hg3 (by omega) (by simp; omega)
        have hs3 := HeldN.of_held hh3
        simp only [List.flatten_cons, List.flatten_nil, List.append_nil, List.take_append_drop] at hs3
        clear hh3 hg3 hb2 hl2 hby hs hdrop
        go_wp2_with fail
        refine (Sum_held gs _ _ (by rw [HBL.out]; omega) hs3 (ht.below hb3)).mono ?_
        rintro e w4 ⟨rfl, hb4⟩
        replace hB := hB.below hb4 hB.lt
        have hlt4 := hB.lt
        have hb5 := hb3.trans (hb4.mono hb3.size)
        have hz5 := hb5.size
        clear hb3 hb4 hs3
        obtain ⟨y, hy⟩ : ∃ y, y = sha bs := ⟨_, rfl⟩
        have hyl : y.length = 32 := by rw [hy]; exact sha_length _
        rw [← hy]
        have HY := Lib.hid hy
        have HYL := Lib.hid hyl
        clear hy hyl
        go_wp2_with (refine wpList_store_blk rfl 24 (.tmp 11) (.tmp 48) rfl rfl w4.heap.size _ rfl rfl 24 _ (Blk.new_of w4 24 _ ((List.replicate 32 (0 : UInt8)).map B8) (by rfl)) (info32.trans (by rw [List.length_map, HYL.out])) (by rw [List.length_map, List.length_map, HYL.out]; rfl) (one8 _) ?_; intro w6 hS6 hg6)
        replace hB := (hB.alloc _).grown hg6 (by simp; omega)
        have hb6 := below_new (hb5.alloc hb5.size _) hg6 hb5.size (by simp; omega)
        clear hg6 hb5
        have hlt6 : w4.heap.size < w6.heap.size := hS6.lt
        have hS0 : w6.drew.rangeAt w4.heap.size 0 (y.map B8) ∧ Below w6.heap.size w6 w6.drew := ⟨rangeAt_of_blk hS6.drew, below_drewN (Below.refl _ _) 1⟩
        have HS0 := Lib.hid hS0
        have HT := Lib.hid (fun (W : World) (h : W.rangeAt w4.heap.size 0 (y.map B8) ∧ Below w6.heap.size w6 W) => (ht.below hb6).below h.2)
        have HI := Lib.hid (fun (W : World) (h : W.rangeAt w4.heap.size 0 (y.map B8) ∧ Below w6.heap.size w6 W) => (show In W (w.heap.size + 1) (some ⟨w.heap.size, 0, none⟩) k bs from ⟨by rw [HBL.out]; exact Nat.le_refl _, by omega, fun _ => ⟨w.heap.size, 0, rfl, Nat.lt_succ_self _, fun j hj => by rw [Nat.zero_add]; exact (hB.below h.2 (by omega)).at8 j hj⟩⟩))
        have HZ := Lib.hid (fun (W : World) (h : W.rangeAt w4.heap.size 0 (y.map B8) ∧ Below w6.heap.size w6 W) => (show w.heap.size + 1 ≤ W.heap.size by have := h.2.size; omega))
        have HOf := Lib.hid (fun (W : World) (gp : Nat) (h : W.rangeAt w4.heap.size 0 (y.map B8) ∧ Below w6.heap.size w6 W) (hc : W.cell? ⟨gp, 0, none⟩ = some (.slice (some ⟨w.heap.size, 0, none⟩) k k)) => by
          have := of_one HBL.out (by omega) (HT.out W h) hc (HI.out W h) (HZ.out W h)
          rw [← HY.out] at this
          exact this)
        have HRef := Lib.hid (fun (W : World) => by
          have := refSum_any bs W (by rw [HBL.out]; omega)
          rw [← HY.out] at this
          exact this)
        have hq1 := eq32 y HYL.out
        have hcv1 := fun (W : World) (h : W.rangeAt w4.heap.size 0 (y.map B8)) => conv_row HYL.out h 32
        have hcv2 := fun (W : World) (h : W.rangeAt w4.heap.size 0 (y.map B8) ∧ Below w6.heap.size w6 W) => conv_in HBL.out (HI.out W h)
        have hu := Tryd.underlying24
        have hi32 : (Tryd.prog.info? 24).map (·.size) = some (y.map B8).length := info32.trans (by rw [List.length_map, HYL.out])
        have HB6 := Lib.hid hb6
        clear hB hS6 hb6 hS0 ht
        go_region_held3 (fun w' => w'.rangeAt w4.heap.size 0 (y.map B8) ∧ Below w6.heap.size w6 w') (first | exact HS0.out | exact held_alloc hlt6 (by assumption) _ | exact held_step hlt6 (by assumption) (by assumption)) (first
          | (go_at_call 17; refine (sums_any _ (HT.out _ (by assumption))).mono ?_; rintro e w7 ⟨rfl, hb7⟩)
          | (go_at_call 16; refine (HOf.out _ _ (by assumption) (new_cell _ _ _)).mono ?_; rintro e w7 ⟨rfl, hb7⟩)
          | (go_at_call 18; refine (HRef.out _).mono ?_; rintro e w7 ⟨rfl, hb7⟩))
        have hfin := HB6.out.trans ((by assumption : World.rangeAt _ w4.heap.size 0 (y.map B8) ∧ Below w6.heap.size w6 _).2.mono HB6.out.size)
        go_wp2
        go_ret
        exact ⟨rfl, hfin⟩

theorem hashLong_u8 (n0 c0 x : Int) (w : World) (hx : (Lit.int .u8 x).wf = true) (ht : Tabs w) :
    Calls Tryd.prog 6 #[.int .i64 n0, .int .i64 c0, .int .u8 x] w fun e w' => e = .returned (.bool true) ∧ Below w.heap.size w w' := by
  have hb : 0 ≤ x ∧ x ≤ 255 := by simpa [Lit.wf, IntKind.min, IntKind.max, IntKind.signed, IntKind.bits] using hx
  have e2 : ((UInt8.ofNat x.toNat).toNat : Int) = x := by
    rw [UInt8.toNat_ofNat']
    omega
  have h := hashLong_walk n0 c0 (UInt8.ofNat x.toNat) w ht
  rwa [e2] at h
end Go.Proofs.YtdpfcbkmkmccgaaDoor
