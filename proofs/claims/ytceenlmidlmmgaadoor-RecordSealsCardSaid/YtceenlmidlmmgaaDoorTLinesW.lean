/-
  The walk of the statement TollgateLines.
-/
import Derived.Test.YtceenlmidlmmgaaDoorRk2
import Derived.Test.YtceenlmidlmmgaaDoorFreshJ
import Derived.Test.YtceenlmidlmmgaaDoorStandsJ
namespace Go.Proofs.YtceenlmidlmmgaaDoor
open Go.RowKit

def zeroT : List UInt8 := List.replicate 32 0
theorem ix_kdL (k : Nat) (h : k < 8) : ∃ q kd : Nat, (k : Int).tmod 3 = (q : Int) ∧ wrap64 (q : Int) = (q : Int) ∧ (21 : Int) + (q : Int) = (kd : Int) ∧ wrap64 (kd : Int) = (kd : Int) ∧ kindB (kd : Int) = true := by
  refine ⟨k % 3, 21 + k % 3, ?_, by unfold wrap64; omega, by omega, by unfold wrap64; omega, ?_⟩
  · rw [Int.tmod_eq_emod_of_nonneg (by omega)]; omega
  · obtain h | h | h : k % 3 = 0 ∨ k % 3 = 1 ∨ k % 3 = 2 := by omega
    · rw [h]; rfl
    · rw [h]; rfl
    · rw [h]; rfl
theorem ix_parity (k : Nat) (h : k < 8) : ∃ z : Bool, ((k : Int).tmod 2 == 1) = z ∧ (k % 2 == 1) = z := by
  refine ⟨k % 2 == 1, ?_, rfl⟩
  rw [Int.tmod_eq_emod_of_nonneg (by omega)]
  obtain h | h : k % 2 = 0 ∨ k % 2 = 1 := by omega
  · have : (k : Int) % 2 = 0 := by omega
    rw [this, h]; rfl
  · have : (k : Int) % 2 = 1 := by omega
    rw [this, h]; rfl
/-- Two halves of one secret, so often used, above B. -/
def TwoAt (B : Nat) (wr : World) (gh gx gk gr gj gy gl gq : Nat) (L : List UInt32) (V : List UInt8) (k : Nat) : Prop :=
  HalfAt wr gh gx gk gr 11 L V k ∧ HalfAt wr gj gy gl gq 11 L V k ∧ B ≤ gh ∧ B ≤ gj ∧ gh ≠ gj
theorem TwoAt.below {B : Nat} {w w' : World} {gh gx gk gr gj gy gl gq : Nat} {L : List UInt32} {V : List UInt8} {k : Nat} (h : TwoAt B w gh gx gk gr gj gy gl gq L V k) (hb : Below w.heap.size w w') : TwoAt B w' gh gx gk gr gj gy gl gq L V k :=
  ⟨h.1.below hb, h.2.1.below hb, h.2.2⟩
theorem TwoAt.grown {B g : Nat} {w w' : World} {gh gx gk gr gj gy gl gq : Nat} {L : List UInt32} {V : List UInt8} {k : Nat} {cs : List Value} (h : TwoAt B w gh gx gk gr gj gy gl gq L V k) (hh : Blk w g 74 cs) (hg : w.grownBy w' (some g)) (h1 : gh ≠ g) (h2 : gj ≠ g) : TwoAt B w' gh gx gk gr gj gy gl gq L V k :=
  ⟨h.1.grown hh hg h1, h.2.1.grown hh hg h2, h.2.2⟩
theorem ix_minL (lk ck : Nat) (h : lk ≤ ck) : ∃ n : Nat, min (lk : Int) 100 = (n : Int) ∧ (0 : Int) ≤ (n : Int) ∧ (n : Int) ≤ (ck : Int) ∧ n ≤ 100 ∧ n = min lk 100 := ⟨min lk 100, by omega, by omega, by omega, by omega, rfl⟩
theorem ix_two (k : Nat) : ∃ m : Nat, (k : Int).tmod 2 = (m : Int) ∧ wrap64 (m : Int) = (m : Int) ∧ (m = 0 ∨ m = 1) := by
  refine ⟨k % 2, ?_, by unfold wrap64; omega, by omega⟩
  rw [Int.tmod_eq_emod_of_nonneg (by omega)]; omega
theorem ix_upL (k np : Nat) (h : k < 8) (hn : k < np) : ∃ k1 : Nat, k1 = k + 1 ∧ (k : Int) + 1 = (k1 : Int) ∧ wrap64 (k1 : Int) = (k1 : Int) ∧ (k1 ≤ np ∧ np - k1 < np - k) ∧ (0 : Int) ≤ (k : Int) ∧ (k : Int) < (np : Int) ∧ (k : Int) < 8 := ⟨_, rfl, by omega, by unfold wrap64; omega, by omega, by omega, by omega, by omega⟩
def LinesAt (w wr : World) (gh gx gk gr gj gy gl gq : Nat) (L1 : List UInt32) (V1 : List UInt8) (ja jb jc jd ka kb kc kd : Nat) (L2 : List UInt32) (V2 : List UInt8) (i1 i2 : Nat) : Prop :=
  TwoAt w.heap.size wr gh gx gk gr gj gy gl gq L1 V1 i1 ∧ TwoAt w.heap.size wr ja jb jc jd ka kb kc kd L2 V2 i2 ∧ (gh ≠ ja ∧ gh ≠ ka ∧ gj ≠ ja ∧ gj ≠ ka) ∧ Below w.heap.size w wr
theorem pads_seal (gh gx gk gr : Nat) (L : List UInt32) (V : List UInt8) (W : World) (A : Option Addr) (c k kd q nb : Nat) (B : List UInt8) (hnb : B.length = nb) (hb3 : nb ≤ 200) (iB : In W W.heap.size A c B) (hk : kindB (kd : Int) = true) (hq : q < 300) (hk8 : k < 8) (h : HalfAt W gh gx gk gr 11 L V k) :
    Calls Tryd.prog 10 #[.pointer (some ⟨gh, 0, none⟩), .int .i64 (kd : Int), .slice A nb c, .int .i64 (q : Int)] W fun e w' => ∃ A' c', e = .returned (.tuple #[.slice A' (5 + (nb + 1 + q + 16)) c', .int .i64 0]) ∧ Buf w' W.heap.size A' (5 + (nb + 1 + q + 16)) c' (recE L 11 V k kd B q) ∧ HalfAt w' gh gx gk gr 11 L V (k + 1) ∧ W.grownBy w' (some gh) :=
  hseal_ok h kd nb q c A B hk hnb iB (by omega) (by omega)
theorem pads_open (gh gx gk gr : Nat) (L : List UInt32) (V : List UInt8) (W : World) (A : Option Addr) (c k kd q nb : Nat) (B : List UInt8) (hnb : B.length = nb) (hb3 : nb ≤ 200) (hk : kindB (kd : Int) = true) (hq : q < 300) (hk8 : k < 8) (h : HalfAt W gh gx gk gr 11 L V k) (iB : In W W.heap.size A c (recE L 11 V k kd B q)) :
    Calls Tryd.prog 11 #[.pointer (some ⟨gh, 0, none⟩), .slice A (5 + (nb + 1 + q + 16)) c] W fun e w' => ∃ A' c', e = .returned (.tuple #[.int .i64 (kd : Int), .slice A' nb c', .int .i64 0]) ∧ In w' w'.heap.size A' c' B ∧ HalfAt w' gh gx gk gr 11 L V (k + 1) ∧ W.grownBy w' (some gh) :=
  opened_e h kd nb q c A B hk hnb (by omega) (by omega) iB
theorem LinesAt.below {w w1 w2 : World} {gh gx gk gr gj gy gl gq : Nat} {L1 : List UInt32} {V1 : List UInt8} {ja jb jc jd ka kb kc kd : Nat} {L2 : List UInt32} {V2 : List UInt8} {i1 i2 : Nat} (h : LinesAt w w1 gh gx gk gr gj gy gl gq L1 V1 ja jb jc jd ka kb kc kd L2 V2 i1 i2) (hb : Below w1.heap.size w1 w2) : LinesAt w w2 gh gx gk gr gj gy gl gq L1 V1 ja jb jc jd ka kb kc kd L2 V2 i1 i2 :=
  ⟨h.1.below hb, h.2.1.below hb, h.2.2.1, h.2.2.2.trans (hb.mono h.2.2.2.size)⟩
set_option maxRecDepth 100000 in
set_option maxHeartbeats 2000000 in
theorem tollgateLines_walk (S : List UInt8) (A : Option Addr) (c : Nat) (ps : List (List UInt8)) (w : World) (hS : S.length = 32) (hA : PIn w w.heap.size A c ps) (ht : Tabs w) :
    Calls Tryd.prog 8 #[BV S, .slice A ps.length c] w fun e w' => e = .returned (.bool true) ∧ Below w.heap.size w w' := by
  have HPI := Lib.hid hA
  obtain ⟨np, hnp⟩ : ∃ np, np = ps.length := ⟨_, rfl⟩
  rw [← hnp]
  have HNP := Lib.hid hnp
  have hz : ∀ W : World, (zeroValue 22).run Tryd.prog W = .ok (.agg (zeroT.map B8).toArray) W := fun W => by kernel_rfl
  obtain ⟨Z, hZ⟩ : ∃ Z, Z = zeroT := ⟨_, rfl⟩
  have HZL := Lib.hid (show Z.length = 32 by rw [hZ]; rfl)
  rw [← hZ] at hz
  have hof := fun (W : World) (h : Tabs W) => Of_any 0 none [] W (by decide) (Nat.le_refl _) (by decide) (fun g _ h0 => absurd h0 (by decide)) h
  have hxl : (sha ([] : List (List UInt8)).flatten).length = 32 := sha_length _
  generalize sha ([] : List (List UInt8)).flatten = X at *
  have hd1 := fun (W : World) (h : Tabs W) => derive_any S [111, 110, 101] X W hS hxl (by decide) h
  have hd2 := fun (W : World) (h : Tabs W) => derive_any S [116, 119, 111] X W hS hxl (by decide) h
  have hl1 := expand_length S (labelInfo [111, 110, 101] X 32) 32
  have hl2 := expand_length S (labelInfo [116, 119, 111] X 32) 32
  generalize expand S (labelInfo [111, 110, 101] X 32) 32 = D1 at *
  generalize expand S (labelInfo [116, 119, 111] X 32) 32 = D2 at *
  have HSL := Lib.hid hS
  have HT := Lib.hid ht
  have HOF := Lib.hid hof
  have HD1 := Lib.hid hd1
  have HD2 := Lib.hid hd2
  have HL1 := Lib.hid hl1
  have HL2 := Lib.hid hl2
  clear hA hnp hZ hof hxl hd1 hd2 hS ht hl1 hl2
  go_enter Tryd.func8, Tryd.ntmps8
  go_upto_region 1 with (fail)
  have hA := Blk.new_of w 22 (S.map B8).toArray (S.map B8) rfl
  have hb0 : Below w.heap.size w (w.alloc (.cells (S.map B8).toArray 22)) := (Below.refl _ _).alloc (Nat.le_refl _) _
  obtain ⟨gS, hg⟩ : ∃ g, g = w.heap.size := ⟨_, rfl⟩
  rw [← hg] at hA
  simp only [← hg]
  have HBW := Lib.hid (show Below w.heap.size w (w.alloc (.cells (S.map B8).toArray 22)) from hb0)
  clear hg hb0
  generalize w.alloc (.cells (S.map B8).toArray 22) = w1 at *
  apply wp_region_fresh (m := 8) (Z := []) (Fl := [false, false, false, false, false, false, true, true]) (D := [[], [], [0, 1], [], [0, 1, 2], [0, 1, 2, 3, 4], [], [], [0, 1, 2, 3, 4, 5, 6, 7], [0, 1, 2, 3, 4, 5, 6, 7, 8]]) (J := [[], [], [0, 1], [], [], [3, 4], [], []]) (Je := [2, 5, 6, 7]) (Rs := [Is _, Is _, Is _, Is _, Is _, Is _, fun v V => ∃ g, v = .pointer (some ⟨g, 0, none⟩) ∧ w1.heap.size ≤ g ∧ Blk V g 22 (Z.map B8), fun v V => ∃ g, v = .pointer (some ⟨g, 0, none⟩) ∧ w1.heap.size ≤ g ∧ Blk V g 22 (Z.map B8)])
  · kernel_rfl
  · kernel_rfl
  · kernel_rfl
  · kernel_rfl
  · kernel_rfl
  · kernel_rfl
  · kernel_rfl
  · kernel_rfl
  · exact fun h => absurd rfl h
  · intro u
    simp only [List.take_succ_cons, List.take_zero, List.map_cons, List.map_nil, fillU, List.setIfInBounds_toArray, List.set_cons_zero, List.set_cons_succ, Nat.zero_add, Nat.reduceAdd]
    exact rfl
  · simp only [List.take_succ_cons, List.take_zero]
    refine ⟨fun u W hb hd K hK => ?_, ?_⟩
    · clear hd
      rw [if_pos (by rfl)]
      refine wp_load_mid 22 (.tmp 2) rfl (gS) 0 rfl (S.map B8) _ (rangeAt_of_blk (hA.below hb hA.lt)) Tryd.underlying22 rfl (info32.trans (by rw [List.length_map, HSL.out])) ?_
      exact hK _ _ _ rfl (Below.refl _ _) IsOut
    refine ⟨fun u W hb hd K hK => ?_, ?_⟩
    · clear hd
      go_simp
      refine (HOF.out _ ((HT.out.below HBW.out).below hb)).mono ?_
      rintro e wy ⟨rfl, hby⟩
      exact hK _ _ _ rfl hby IsOut
    refine ⟨fun u W hb hd K hK => ?_, ?_⟩
    · simp only [Facts, nthR, Is, and_true] at hd
      simp only [hd] at hK ⊢
      clear hd
      go_simp
      refine (HD1.out _ ((HT.out.below HBW.out).below hb)).mono ?_
      rintro e wy ⟨rfl, hby⟩
      exact hK _ _ _ rfl hby IsOut
    refine ⟨fun u W hb hd K hK => ?_, ?_⟩
    · clear hd
      rw [if_pos (by rfl)]
      refine wp_load_mid 22 (.tmp 2) rfl (gS) 0 rfl (S.map B8) _ (rangeAt_of_blk (hA.below hb hA.lt)) Tryd.underlying22 rfl (info32.trans (by rw [List.length_map, HSL.out])) ?_
      exact hK _ _ _ rfl (Below.refl _ _) IsOut
    refine ⟨fun u W hb hd K hK => ?_, ?_⟩
    · clear hd
      go_simp
      refine (HOF.out _ ((HT.out.below HBW.out).below hb)).mono ?_
      rintro e wy ⟨rfl, hby⟩
      exact hK _ _ _ rfl hby IsOut
    refine ⟨fun u W hb hd K hK => ?_, ?_⟩
    · simp only [Facts, nthR, Is, and_true] at hd
      simp only [hd] at hK ⊢
      clear hd
      go_simp
      refine (HD2.out _ ((HT.out.below HBW.out).below hb)).mono ?_
      rintro e wy ⟨rfl, hby⟩
      exact hK _ _ _ rfl hby IsOut
    refine ⟨fun u W hb hd K hK => ?_, ?_⟩
    · clear hd
      go_simp
      apply hK
      · simp only [Act.put, List.setIfInBounds_toArray, List.set_cons_zero, List.set_cons_succ]
        exact rfl
      · exact (Below.refl _ _).alloc (Nat.le_refl _) _
      · exact ⟨_, rfl, hb.size, Blk.new_of _ _ _ _ (by rfl)⟩
      · exact ⟨_, rfl, Nat.le_refl _, by simp⟩
    refine ⟨fun u W hb hd K hK => ?_, ?_⟩
    · clear hd
      go_simp
      apply hK
      · simp only [Act.put, List.setIfInBounds_toArray, List.set_cons_zero, List.set_cons_succ]
        exact rfl
      · exact (Below.refl _ _).alloc (Nat.le_refl _) _
      · exact ⟨_, rfl, hb.size, Blk.new_of _ _ _ _ (by rfl)⟩
      · exact ⟨_, rfl, Nat.le_refl _, by simp⟩
    exact trivial
  · skip
    exact trivial
  · exact (.is (.is (.is (.is (.is (.is (.cons (fun v V V' ⟨g, h1, h2, h3⟩ hb => ⟨g, h1, h2, h3.below hb h3.lt⟩) (.cons (fun v V V' ⟨g, h1, h2, h3⟩ hb => ⟨g, h1, h2, h3.below hb h3.lt⟩) .nil))))))))
  · intro u W hb hd hne
    simp only [List.drop_succ_cons, List.drop_zero]
    simp only [Facts, nthR, Is, and_true] at hd
    obtain ⟨e1, e2, ⟨ga, e3, hga, hX⟩, ⟨gb', e4, hgb, hY⟩⟩ := hd
    have hgn : ga ≠ gb' := fun e => hne 6 7 rfl rfl (by decide) (by decide) (by decide) (by rw [e3, e4, e])
    simp only [e1, e2, e3, e4]
    clear e1 e2 e3 e4 hne
    go_upto_region 2 with (first
      | ((with_reducible refine (?_ : wpList _ _ _ (Oper.mk none (.store 22 (.tmp 5) _) _ _ _ _ :: _) _ _)); refine wpList_store_blk rfl 22 (.tmp 5) (.tmp 22) rfl rfl (ga) _ rfl rfl 22 _ hX (info32.trans (by rw [List.length_map, HL1.out])) (by rw [List.length_map, List.length_map, HL1.out, HZL.out]) (one8 _) ?_; intro w2 hP hg1; replace hY := hY.grown hg1 (fun h => hgn (by have := Option.some.inj h; omega)); replace hb := below_new hb hg1 hga hb.size)
      | ((with_reducible refine (?_ : wpList _ _ _ (Oper.mk none (.store 22 (.tmp 6) _) _ _ _ _ :: _) _ _)); refine wpList_store_blk rfl 22 (.tmp 6) (.tmp 25) rfl rfl (gb') _ rfl rfl 22 _ hY (info32.trans (by rw [List.length_map, HL2.out])) (by rw [List.length_map, List.length_map, HL2.out, HZL.out]) (one8 _) ?_; intro w3 hQ hg2; replace hP := hP.grown hg2 (fun h => hgn (by have := Option.some.inj h; omega)); replace hb := below_new hb hg2 hgb hb.size))
    replace HBW := Lib.hid (HBW.out.trans (hb.mono HBW.out.size))
    clear hg1 hg2 hga hgb hgn hX hY hb hA
    clear hz
    have HCA := Lib.hid (fun (W : World) (h : Below w3.heap.size w3 W) => rangeAt_of_blk (hP.below h hP.lt))
    have HQ := Lib.hid hQ
    clear hP hQ
    refine wp_region_noPanic ?_
    refine wp_region_held_drew (S := fun W => Below w3.heap.size w3 W) (by kernel_rfl) (by exact below_drewN (Below.refl _ _) 1) (fun hHeld => ?_)
    refine' wpAnyH_take (i := 0) (oi := ⟨_, _, _, _, _, _⟩) rfl (by kernel_rfl) (by kernel_rfl) (by kernel_rfl) (fun _ _ _ h => h) (yieldsIf_load_mid (by rfl) 22 _ rfl ga 0 rfl (D1.map B8) _ (fun W h => HCA.out W h) Tryd.underlying22 rfl (info32.trans (by rw [List.length_map, HL1.out]))) hHeld ?_
    try simp only [Act.put, List.setIfInBounds_toArray, List.set_cons_zero, List.set_cons_succ]
    refine' wpAnyH_take (i := 2) (oi := ⟨_, _, _, _, _, _⟩) rfl (by kernel_rfl) (by kernel_rfl) (by kernel_rfl) (fun _ _ _ h => h) (yieldsIf_load_mid (by rfl) 22 _ rfl ga 0 rfl (D1.map B8) _ (fun W h => HCA.out W h) Tryd.underlying22 rfl (info32.trans (by rw [List.length_map, HL1.out]))) hHeld ?_
    try simp only [Act.put, List.setIfInBounds_toArray, List.set_cons_zero, List.set_cons_succ]
    replace hHeld : Below w3.heap.size w3 w3.drew := hHeld
    have HWD := Lib.hid (show w3.heap.size ≤ w3.drew.heap.size from hHeld.size)
    generalize w3.drew = wd at *
    refine wpAnyH_ready (rs := [1]) (by kernel_rfl) (by simp) ?_
    refine AllReadyH.cons (o := ⟨_, _, _, _, _, _⟩) rfl (fun K hK => ?_) AllReadyH.nil
    go_simp
    go_at_call 14
    refine (hnew_e D1 _ HL1.out (HT.out.below (HBW.out.trans (hHeld.mono HBW.out.size)))).mono ?_
    rintro e wa ⟨gh, gx, gk, gr, rfl, hgh, hgx, Hgh, hbgh⟩
    try go_wp2_with fail
    have hszx := hHeld.size
    refine hK.out _ _ (hHeld.trans (hbgh.mono hszx)) (fun hHeld => ?_)
    clear hK K hszx
    try simp only [Act.put, List.setIfInBounds_toArray, List.set_cons_zero, List.set_cons_succ]
    refine wpAnyH_ready (rs := [3]) (by kernel_rfl) (by simp) ?_
    refine AllReadyH.cons (o := ⟨_, _, _, _, _, _⟩) rfl (fun K hK => ?_) AllReadyH.nil
    go_simp
    go_at_call 14
    refine (hnew_e D1 _ HL1.out (HT.out.below (HBW.out.trans (hHeld.mono HBW.out.size)))).mono ?_
    rintro e wb ⟨gj, gy, gl, gq, rfl, hgj, hgy, Hgj, hbgj⟩
    try go_wp2_with fail
    have hszx := hHeld.size
    refine hK.out _ _ (hHeld.trans (hbgj.mono hszx)) (fun hHeld => ?_)
    clear hK K hszx
    try simp only [Act.put, List.setIfInBounds_toArray, List.set_cons_zero, List.set_cons_succ]
    refine wpAnyH_take (i := 4) (oi := ⟨_, _, _, _, _, _⟩) (v := ?_) rfl (by kernel_rfl) (by kernel_rfl) (by kernel_rfl) (fun _ _ _ h => h) (Or.inl ⟨by rfl, ?_⟩) hHeld ?_
    rotate_left 1
    · (intro W hSw; (try dsimp only at hSw); go_simp; try with_reducible rfl)
    try simp only [Act.put, List.setIfInBounds_toArray, List.set_cons_zero, List.set_cons_succ]
    refine wpAnyH_take (i := 5) (oi := ⟨_, _, _, _, _, _⟩) (v := ?_) rfl (by kernel_rfl) (by kernel_rfl) (by kernel_rfl) (fun _ _ _ h => h) (Or.inl ⟨by rfl, ?_⟩) hHeld ?_
    rotate_left 1
    · (intro W hSw; (try dsimp only at hSw); go_simp; try with_reducible rfl)
    try simp only [Act.put, List.setIfInBounds_toArray, List.set_cons_zero, List.set_cons_succ]
    refine wpAnyH_done (by kernel_rfl) ?_ _
    refine NoPanic.normal ?_
    replace hHeld : Below w3.heap.size w3 wb := hHeld
    have HT1 := Lib.hid (show TwoAt w.heap.size wb gh gx gk gr gj gy gl gq (keyL 4 (keyH D1)) (ivH D1) 0 from ⟨Hgh.below hbgj, Hgj, Nat.le_trans HBW.out.size (Nat.le_trans HWD.out hgh), Nat.le_trans HBW.out.size (Nat.le_trans HWD.out (Nat.le_trans hbgh.size hgj)), fun e => absurd Hgh.below_size.1 (by rw [e]; exact Nat.not_lt_of_le hgj)⟩)
    replace HBW := Lib.hid (HBW.out.trans (hHeld.mono HBW.out.size))
    have hQ := HQ.out.below hHeld HQ.out.lt
    clear HQ HCA HWD Hgh Hgj hbgh hbgj hgh hgj hgx hgy hHeld
    have HCA := Lib.hid (fun (W : World) (h : Below wb.heap.size wb W) => rangeAt_of_blk (hQ.below h hQ.lt))
    clear hQ
    go_upto_region 3 with (fail)
    refine wp_region_noPanic ?_
    refine wp_region_held_drew (S := fun W => Below wb.heap.size wb W) (by kernel_rfl) (by exact below_drewN (Below.refl _ _) 1) (fun hHeld => ?_)
    refine' wpAnyH_take (i := 0) (oi := ⟨_, _, _, _, _, _⟩) rfl (by kernel_rfl) (by kernel_rfl) (by kernel_rfl) (fun _ _ _ h => h) (yieldsIf_load_mid (by rfl) 22 _ rfl gb' 0 rfl (D2.map B8) _ (fun W h => HCA.out W h) Tryd.underlying22 rfl (info32.trans (by rw [List.length_map, HL2.out]))) hHeld ?_
    try simp only [Act.put, List.setIfInBounds_toArray, List.set_cons_zero, List.set_cons_succ]
    refine' wpAnyH_take (i := 2) (oi := ⟨_, _, _, _, _, _⟩) rfl (by kernel_rfl) (by kernel_rfl) (by kernel_rfl) (fun _ _ _ h => h) (yieldsIf_load_mid (by rfl) 22 _ rfl gb' 0 rfl (D2.map B8) _ (fun W h => HCA.out W h) Tryd.underlying22 rfl (info32.trans (by rw [List.length_map, HL2.out]))) hHeld ?_
    try simp only [Act.put, List.setIfInBounds_toArray, List.set_cons_zero, List.set_cons_succ]
    replace hHeld : Below wb.heap.size wb wb.drew := hHeld
    have HWD := Lib.hid (show wb.heap.size ≤ wb.drew.heap.size from hHeld.size)
    generalize wb.drew = we at *
    refine wpAnyH_ready (rs := [1]) (by kernel_rfl) (by simp) ?_
    refine AllReadyH.cons (o := ⟨_, _, _, _, _, _⟩) rfl (fun K hK => ?_) AllReadyH.nil
    go_simp
    go_at_call 14
    refine (hnew_e D2 _ HL2.out (HT.out.below (HBW.out.trans (hHeld.mono HBW.out.size)))).mono ?_
    rintro e wf ⟨ja, jb, jc, jd, rfl, hja, hjb, Hja, hbja⟩
    try go_wp2_with fail
    have hszx := hHeld.size
    refine hK.out _ _ (hHeld.trans (hbja.mono hszx)) (fun hHeld => ?_)
    clear hK K hszx
    try simp only [Act.put, List.setIfInBounds_toArray, List.set_cons_zero, List.set_cons_succ]
    refine wpAnyH_ready (rs := [3]) (by kernel_rfl) (by simp) ?_
    refine AllReadyH.cons (o := ⟨_, _, _, _, _, _⟩) rfl (fun K hK => ?_) AllReadyH.nil
    go_simp
    go_at_call 14
    refine (hnew_e D2 _ HL2.out (HT.out.below (HBW.out.trans (hHeld.mono HBW.out.size)))).mono ?_
    rintro e wg ⟨ka, kb, kc, kd, rfl, hka, hkb, Hka, hbka⟩
    try go_wp2_with fail
    have hszx := hHeld.size
    refine hK.out _ _ (hHeld.trans (hbka.mono hszx)) (fun hHeld => ?_)
    clear hK K hszx
    try simp only [Act.put, List.setIfInBounds_toArray, List.set_cons_zero, List.set_cons_succ]
    refine wpAnyH_take (i := 4) (oi := ⟨_, _, _, _, _, _⟩) (v := ?_) rfl (by kernel_rfl) (by kernel_rfl) (by kernel_rfl) (fun _ _ _ h => h) (Or.inl ⟨by rfl, ?_⟩) hHeld ?_
    rotate_left 1
    · (intro W hSw; (try dsimp only at hSw); go_simp; try with_reducible rfl)
    try simp only [Act.put, List.setIfInBounds_toArray, List.set_cons_zero, List.set_cons_succ]
    refine wpAnyH_take (i := 5) (oi := ⟨_, _, _, _, _, _⟩) (v := ?_) rfl (by kernel_rfl) (by kernel_rfl) (by kernel_rfl) (fun _ _ _ h => h) (Or.inl ⟨by rfl, ?_⟩) hHeld ?_
    rotate_left 1
    · (intro W hSw; (try dsimp only at hSw); go_simp; try with_reducible rfl)
    try simp only [Act.put, List.setIfInBounds_toArray, List.set_cons_zero, List.set_cons_succ]
    refine wpAnyH_done (by kernel_rfl) ?_ _
    refine NoPanic.normal ?_
    replace hHeld : Below wb.heap.size wb wg := hHeld
    have HT2 := Lib.hid (show TwoAt w.heap.size wg ja jb jc jd ka kb kc kd (keyL 4 (keyH D2)) (ivH D2) 0 from ⟨Hja.below hbka, Hka, Nat.le_trans HBW.out.size (Nat.le_trans HWD.out hja), Nat.le_trans HBW.out.size (Nat.le_trans HWD.out (Nat.le_trans hbja.size hka)), fun e => absurd Hja.below_size.1 (by rw [e]; exact Nat.not_lt_of_le hka)⟩)
    have hl1 := HT1.out.1.below_size.1
    have hl2 := HT1.out.2.1.below_size.1
    have hja2 := Nat.le_trans HWD.out hja
    have hka2 := Nat.le_trans HWD.out (Nat.le_trans hbja.size hka)
    have HL0 := Lib.hid (show LinesAt w wg gh gx gk gr gj gy gl gq (keyL 4 (keyH D1)) (ivH D1) ja jb jc jd ka kb kc kd (keyL 4 (keyH D2)) (ivH D2) 0 0 from ⟨HT1.out.below hHeld, HT2.out, ⟨by omega, by omega, by omega, by omega⟩, HBW.out.trans (hHeld.mono HBW.out.size)⟩)
    clear HT1 HT2 hl1 hl2 hja2 hka2 HCA HWD Hja Hka hbja hbka hja hka hjb hkb hHeld HBW
    generalize keyL 4 (keyH D1) = L1 at *
    generalize ivH D1 = V1 at *
    generalize keyL 4 (keyH D2) = L2 at *
    generalize ivH D2 = V2 at *
    go_wp2
    go_loopw [11] (fun i wr => ∃ k i1 i2 : Nat, k ≤ np ∧ i1 ≤ k ∧ i2 ≤ k ∧ i = .int .i64 (k : Int) ∧ LinesAt w wr gh gx gk gr gj gy gl gq L1 V1 ja jb jc jd ka kb kc kd L2 V2 i1 i2) (fun i _ => np - (intOf i).toNat)
    case atStart => exact ⟨0, 0, 0, Nat.zero_le _, Nat.le_refl _, Nat.le_refl _, rfl, HL0.out⟩
    case round =>
      obtain ⟨k, i1, i2, hkn, hi1, hi2, rfl, hp⟩ := hrel
      have HP := Lib.hid hp
      clear hp HL0
      by_cases hlt : k < np
      · have hd : decide (k < np) = true := by simpa using hlt
        by_cases h8 : k < 8
        · obtain ⟨gp, op, hAe, hgp, hrow⟩ := HPI.out.2.2 (by rw [← HNP.out]; omega)
          obtain ⟨Ak, ck, hck, hIk⟩ := hrow k (by rw [← HNP.out]; exact hlt)
          obtain ⟨lk, hlk⟩ : ∃ lk, lk = (ps.getD k []).length := ⟨_, rfl⟩
          rw [← hlk] at hck
          have hrb : wr.cell? ⟨gp, op + k, none⟩ = some (.slice Ak lk ck) := (HP.out.2.2.2.cell (p := ⟨gp, op + k, none⟩) hgp).trans hck
          have hlc := hIk.1
          rw [← hlk] at hlc
          obtain ⟨nb, ms, hnb0, hnbc, hnb1, hnb2⟩ := ix_minL lk ck hlc
          have hB := hIk.take 100
          have hBL : ((ps.getD k []).take 100).length = nb := by rw [List.length_take, ← hlk, hnb2]; exact Nat.min_comm _ _
          obtain ⟨m, kk, hm1, hm4, hm2, hm3, hkb⟩ := ix_kdL k h8
          obtain ⟨m2, hv1, hv2, hv3⟩ := ix_two k
          obtain ⟨k1, hk1, hk2, hk3, hk4, hk0, hkI, hk8⟩ := ix_upL k np h8 hlt
          obtain ⟨t, ht⟩ : ∃ t, t = 5 + (nb + 1 + k + 16) := ⟨_, rfl⟩
          have hn200 : nb ≤ 200 := Nat.le_trans hnb1 (by decide)
          have hk300 : k < 300 := Nat.lt_trans h8 (by decide)
          have hi18 : i1 < 8 := Nat.lt_of_le_of_lt hi1 h8
          have hi28 : i2 < 8 := Nat.lt_of_le_of_lt hi2 h8
          have hs1 := fun (W : World) (hb : Below w.heap.size w W) (hT : TwoAt w.heap.size W gh gx gk gr gj gy gl gq L1 V1 i1) => pads_seal gh gx gk gr L1 V1 W Ak ck i1 kk k nb ((ps.getD k []).take 100) hBL hn200 (in_up hB hb) hkb hk300 hi18 hT.1
          have ho1 := fun (W : World) (A' : Option Addr) (c' : Nat) => pads_open gj gy gl gq L1 V1 W A' c' i1 kk k nb ((ps.getD k []).take 100) hBL hn200 hkb hk300 hi18
          have hs2 := fun (W : World) (hb : Below w.heap.size w W) (hT : TwoAt w.heap.size W ja jb jc jd ka kb kc kd L2 V2 i2) => pads_seal ja jb jc jd L2 V2 W Ak ck i2 kk k nb ((ps.getD k []).take 100) hBL hn200 (in_up hB hb) hkb hk300 hi28 hT.1
          have ho2 := fun (W : World) (A' : Option Addr) (c' : Nat) => pads_open ka kb kc kd L2 V2 W A' c' i2 kk k nb ((ps.getD k []).take 100) hBL hn200 hkb hk300 hi28
          simp only [← ht] at hs1 ho1 hs2 ho2
          have HS1 := Lib.hid hs1
          have HO1 := Lib.hid ho1
          have HS2 := Lib.hid hs2
          have HO2 := Lib.hid ho2
          have HB := Lib.hid hB
          have HBL := Lib.hid hBL
          have HK1 := Lib.hid (And.intro hk4 (show i1 ≤ k1 ∧ i2 ≤ k1 ∧ i1 + 1 ≤ k1 ∧ i2 + 1 ≤ k1 by rw [hk1]; exact ⟨Nat.le_succ_of_le hi1, Nat.le_succ_of_le hi2, Nat.succ_le_succ hi1, Nat.succ_le_succ hi2⟩))
          have HK2 := Lib.hid (And.intro hk2 hk3)
          have HM := Lib.hid (And.intro hm1 (And.intro hm2 (And.intro hm3 hm4)))
          have HV := Lib.hid (And.intro hv1 (And.intro hv2 hv3))
          have H8 := Lib.hid hk8
          clear hn200 hk300 hi18 hi28 hs1 ho1 hs2 ho2 hB hBL hk1 hk2 hk3 hk4 hm1 hm2 hm3 hm4 hv1 hv2 hv3 hkb ht hck hIk hlk hrow hgp hnb1 hnb2 hlc hkn hi1 hi2 hlt h8
          generalize (ps.getD k []).take 100 = B at *
          subst hAe
          go_upto_region 7 with (fail)
          clear hd hk8
          go_quiet (fail)
          have hqb : Below wr.heap.size wr (wr.drewN nq) := below_drewN (Below.refl _ _) nq
          have HP2 := Lib.hid (HP.out.below hqb)
          clear hqb HP hrb ms hnb0 hnbc hk0 hkI
          generalize wr.drewN nq = w4 at *
          obtain ⟨hv1, hv2, hv3⟩ := HV.out
          clear HV
          rcases hv3 with rfl | rfl
          · go_upto_region 11 with (fail)
            clear hv1 hv2
            obtain ⟨hm1, hm2, hm3, hm4⟩ := HM.out
            have hsc := HS1.out _ HP2.out.2.2.2 HP2.out.1
            go_upto_region 12 with (go_at_call 10; with_reducible refine hsc.mono ?_; rintro e w5 ⟨A5, c5, rfl, hB5, hH5, hg5⟩)
            have hJ5 := HP2.out.1.2.1.grown HP2.out.1.1.half hg5 (Ne.symm HP2.out.1.2.2.2.2)
            have hO5 := HP2.out.2.1.grown HP2.out.1.1.half hg5 (Ne.symm HP2.out.2.2.1.1) (Ne.symm HP2.out.2.2.1.2.1)
            have hb5 := below_new HP2.out.2.2.2 hg5 HP2.out.1.2.2.1 HP2.out.2.2.2.size
            clear hm1 hm2 hm3 hm4 hg5 hsc
            go_upto_region 13 with (go_at_call 11; refine (HO1.out w5 A5 c5 hJ5 (hB5.toIn (Nat.le_refl _))).mono ?_; rintro e w6 ⟨A6, c6, rfl, hi6, hJ6, hg6⟩)
            have hH6 := hH5.grown hJ5.half hg6 HP2.out.1.2.2.2.2
            have hO6 := hO5.grown hJ5.half hg6 (Ne.symm HP2.out.2.2.1.2.2.1) (Ne.symm HP2.out.2.2.1.2.2.2)
            have hb6 := below_new hb5 hg6 HP2.out.1.2.2.2.1 hb5.size
            have hcv1 := conv_in HBL.out hi6
            have hcv2 := conv_in HBL.out (in_up HB.out hb6)
            have HF := Lib.hid (show LinesAt w w6 gh gx gk gr gj gy gl gq L1 V1 ja jb jc jd ka kb kc kd L2 V2 (i1 + 1) (i2) from ⟨⟨hH6, hJ6, HP2.out.1.2.2⟩, hO6, HP2.out.2.2.1, hb6⟩)
            clear hH6 hO6 hb6 hg6 hJ6 hi6 hH5 hJ5 hO5 hb5 hB5
            obtain ⟨hm1, hm2, hm3, hm4⟩ := HM.out
            go_wp2
            go_roundw
            case rel => exact ⟨k1, i1 + 1, i2, HK1.out.1.1, HK1.out.2.2.2.1, HK1.out.2.2.1, by simp only [HK2.out.1, HK2.out.2], HF.out⟩
            case measure => simp only [HK2.out.1, HK2.out.2]; exact HK1.out.1.2
          · go_upto_region 11 with (fail)
            clear hv1 hv2
            obtain ⟨hm1, hm2, hm3, hm4⟩ := HM.out
            have hsc := HS2.out _ HP2.out.2.2.2 HP2.out.2.1
            go_upto_region 12 with (go_at_call 10; with_reducible refine hsc.mono ?_; rintro e w5 ⟨A5, c5, rfl, hB5, hH5, hg5⟩)
            have hJ5 := HP2.out.2.1.2.1.grown HP2.out.2.1.1.half hg5 (Ne.symm HP2.out.2.1.2.2.2.2)
            have hO5 := HP2.out.1.grown HP2.out.2.1.1.half hg5 HP2.out.2.2.1.1 HP2.out.2.2.1.2.2.1
            have hb5 := below_new HP2.out.2.2.2 hg5 HP2.out.2.1.2.2.1 HP2.out.2.2.2.size
            clear hm1 hm2 hm3 hm4 hg5 hsc
            go_upto_region 13 with (go_at_call 11; refine (HO2.out w5 A5 c5 hJ5 (hB5.toIn (Nat.le_refl _))).mono ?_; rintro e w6 ⟨A6, c6, rfl, hi6, hJ6, hg6⟩)
            have hH6 := hH5.grown hJ5.half hg6 HP2.out.2.1.2.2.2.2
            have hO6 := hO5.grown hJ5.half hg6 HP2.out.2.2.1.2.1 HP2.out.2.2.1.2.2.2
            have hb6 := below_new hb5 hg6 HP2.out.2.1.2.2.2.1 hb5.size
            have hcv1 := conv_in HBL.out hi6
            have hcv2 := conv_in HBL.out (in_up HB.out hb6)
            have HF := Lib.hid (show LinesAt w w6 gh gx gk gr gj gy gl gq L1 V1 ja jb jc jd ka kb kc kd L2 V2 (i1) (i2 + 1) from ⟨hO6, ⟨hH6, hJ6, HP2.out.2.1.2.2⟩, HP2.out.2.2.1, hb6⟩)
            clear hH6 hO6 hb6 hg6 hJ6 hi6 hH5 hJ5 hO5 hb5 hB5
            obtain ⟨hm1, hm2, hm3, hm4⟩ := HM.out
            go_wp2
            go_roundw
            case rel => exact ⟨k1, i1, i2 + 1, HK1.out.1.1, HK1.out.2.1, HK1.out.2.2.2.2, by simp only [HK2.out.1, HK2.out.2], HF.out⟩
            case measure => simp only [HK2.out.1, HK2.out.2]; exact HK1.out.1.2
        · have hk8 : ¬ (k : Int) < 8 := by omega
          clear hlt h8 hkn hi1 hi2
          have HU1 := Lib.hid (fun (W : World) (hb : Below wr.heap.size wr W) => used_e (HP.out.1.1.below hb))
          have HU2 := Lib.hid (fun (W : World) (hb : Below wr.heap.size wr W) => used_e (HP.out.1.2.1.below hb))
          have HU3 := Lib.hid (fun (W : World) (hb : Below wr.heap.size wr W) => used_e (HP.out.2.1.1.below hb))
          have HU4 := Lib.hid (fun (W : World) (hb : Below wr.heap.size wr W) => used_e (HP.out.2.1.2.1.below hb))
          go_wp2_with (first
            | (go_at_call 24; refine (stands_any _ (HT.out.below HP.out.2.2.2)).mono ?_; rintro e we ⟨rfl, hbe⟩)
            | (go_at_call 13; with_reducible refine (HU1.out _ hbe).mono ?_; rintro e wf ⟨rfl, hww⟩; have hwf := hww.symm; subst hwf)
            | (go_at_call 13; with_reducible refine (HU2.out _ hbe).mono ?_; rintro e wf ⟨rfl, hww⟩; have hwf := hww.symm; subst hwf)
            | (go_at_call 13; with_reducible refine (HU3.out _ hbe).mono ?_; rintro e wf ⟨rfl, hww⟩; have hwf := hww.symm; subst hwf)
            | (go_at_call 13; with_reducible refine (HU4.out _ hbe).mono ?_; rintro e wf ⟨rfl, hww⟩; have hwf := hww.symm; subst hwf))
          go_ret
          exact ⟨rfl, HP.out.2.2.2.trans (hbe.mono HP.out.2.2.2.size)⟩
      · have hd : decide (k < np) = false := by simpa using hlt
        clear hlt hkn hi1 hi2
        have HU1 := Lib.hid (fun (W : World) (hb : Below wr.heap.size wr W) => used_e (HP.out.1.1.below hb))
        have HU2 := Lib.hid (fun (W : World) (hb : Below wr.heap.size wr W) => used_e (HP.out.1.2.1.below hb))
        have HU3 := Lib.hid (fun (W : World) (hb : Below wr.heap.size wr W) => used_e (HP.out.2.1.1.below hb))
        have HU4 := Lib.hid (fun (W : World) (hb : Below wr.heap.size wr W) => used_e (HP.out.2.1.2.1.below hb))
        go_wp2_with (first
          | (go_at_call 24; refine (stands_any _ (HT.out.below HP.out.2.2.2)).mono ?_; rintro e we ⟨rfl, hbe⟩)
          | (go_at_call 13; with_reducible refine (HU1.out _ hbe).mono ?_; rintro e wf ⟨rfl, hww⟩; have hwf := hww.symm; subst hwf)
          | (go_at_call 13; with_reducible refine (HU2.out _ hbe).mono ?_; rintro e wf ⟨rfl, hww⟩; have hwf := hww.symm; subst hwf)
          | (go_at_call 13; with_reducible refine (HU3.out _ hbe).mono ?_; rintro e wf ⟨rfl, hww⟩; have hwf := hww.symm; subst hwf)
          | (go_at_call 13; with_reducible refine (HU4.out _ hbe).mono ?_; rintro e wf ⟨rfl, hww⟩; have hwf := hww.symm; subst hwf))
        go_ret
        exact ⟨rfl, HP.out.2.2.2.trans (hbe.mono HP.out.2.2.2.size)⟩
end Go.Proofs.YtceenlmidlmmgaaDoor
