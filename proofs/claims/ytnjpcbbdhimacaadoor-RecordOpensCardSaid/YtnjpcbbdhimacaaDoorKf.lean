/-
 Joined: Gt, Gu.
-/
import Derived.Test.YtnjpcbbdhimacaaDoorKe
import Derived.Deep.DeepCutAuto
import Derived.Test.YtnjpcbbdhimacaaDoorKd
import Derived.Test.YtnjpcbbdhimacaaDoorJa
namespace Go.Proofs.YtnjpcbbdhimacaaDoor
section
open Go.RowKit
/-- What stays beside the rows that are written. -/
structure PFr (w : World) (ga gb g4 : Nat) (a b Z : List UInt8) (wr : World) : Prop where
 a : Blk wr ga 56 (a.map B8)
 r : Blk wr g4 56 (Z.map B8)
 b : Below w.heap.size w wr
theorem PFr.far {w wr : World} {ga gb g4 : Nat} {a b Z : List UInt8} (h : PFr w ga gb g4 a b Z wr) {p : Addr} (hp : ga ≠ p.block ∧ g4 ≠ p.block ∧ w.heap.size ≤ p.block) (u : Value) : PFr w ga gb g4 a b Z (wr.setCell p u) :=
 ⟨h.a.far hp.1 u, h.r.far hp.2.1 u, h.b.setCell hp.2.2 u⟩
theorem PFr.below {w wr wx : World} {ga gb g4 : Nat} {a b Z : List UInt8} (h : PFr w ga gb g4 a b Z wr) (hb : Below wr.heap.size wr wx) : PFr w ga gb g4 a b Z wx :=
 ⟨h.a.below hb h.a.lt, h.r.below hb h.r.lt, h.b.trans (hb.mono h.b.size)⟩
theorem top_true {b : UInt8} {k : Nat} (h : b.toNat / 2 ^ k % 2 = 1) : (((b.toNat : Int) / 2 ^ k).tmod 2 == 1) = true := by
 have h1 : ((b.toNat : Int) / 2 ^ k).tmod 2 = ((b.toNat / 2 ^ k % 2 : Nat) : Int) := by
  rw [Int.tmod_eq_emod_of_nonneg (Int.ediv_nonneg (by omega) (by exact Int.pow_nonneg (by omega)))]
  norm_cast
 rw [h1, h]; rfl
theorem top_false {b : UInt8} {k : Nat} (h : ¬ b.toNat / 2 ^ k % 2 = 1) : (((b.toNat : Int) / 2 ^ k).tmod 2 == 1) = false := by
 have h1 : ((b.toNat : Int) / 2 ^ k).tmod 2 = ((b.toNat / 2 ^ k % 2 : Nat) : Int) := by
  rw [Int.tmod_eq_emod_of_nonneg (Int.ediv_nonneg (by omega) (by exact Int.pow_nonneg (by omega)))]
  norm_cast
 rw [h1, show b.toNat / 2 ^ k % 2 = 0 by omega]; rfl
theorem set_down (X S : List UInt8) (p : Nat) (hX : X.length = 16) (hS : S.length = 16) (hp : p < 16) : (X.take (p + 1) ++ S.drop (p + 1)).set p (S.getD p 0) = X.take p ++ S.drop p := by
 apply List.ext_getElem?
 intro i
 rw [List.getElem?_set]
 by_cases hi : p = i
 ·
  subst hi
  rw [if_pos rfl, if_pos (by simp [hX, hS]; omega), List.getElem?_append_right (by simp; omega), List.length_take, List.getElem?_drop, List.getD_eq_getElem?_getD, List.getElem?_eq_getElem (by omega)]
  have e : p + (p - min p X.length) = p := by omega
  rw [e, List.getElem?_eq_getElem (by omega)]
  rfl
 ·
  rw [if_neg hi]
  by_cases h : i < p
  ·
   rw [List.getElem?_append_left (by simp; omega), List.getElem?_append_left (by simp; omega), List.getElem?_take, List.getElem?_take, if_pos (by omega), if_pos h]
  ·
   rw [List.getElem?_append_right (by simp; omega), List.getElem?_append_right (by simp; omega), List.getElem?_drop, List.getElem?_drop, List.length_take, List.length_take]
   have e : p + 1 + (i - min (p + 1) X.length) = p + (i - min p X.length) := by omega
   rw [e]
theorem q8_shr1 (a : UInt8) : (a.toNat : Int) / (2 : Int) = ((a >>> 1).toNat : Int) := by
 rw [UInt8.toNat_shiftRight]; simp [Nat.shiftRight_eq_div_pow]
theorem q8_shl7 (a : UInt8) : (a.toNat : Int) * (128 : Int) % (256 : Int) = ((a <<< 7).toNat : Int) := by
 rw [UInt8.toNat_shiftLeft]; simp [Nat.shiftLeft_eq]
theorem q8_or (a b : UInt8) : bits .or .u8 (a.toNat : Int) (b.toNat : Int) = ((a ||| b).toNat : Int) := by
 rw [u8_or_nat _ _ (u8_lt a) (u8_lt b), UInt8.toNat_or]
theorem q8_over (a : UInt8) : bits .xor .u8 (a.toNat : Int) (225 : Int) = ((a ^^^ 0xE1).toNat : Int) := by
 have := u8_xor_nat _ _ (u8_lt a) (u8_lt 0xE1)
 exact this.trans (by rw [UInt8.toNat_xor])
theorem low_true {b : UInt8} (h : b.toNat % 2 = 1) : ((b.toNat : Int) % (2 : Int) == (1 : Int)) = true := by rw [beq_iff_eq]; omega
theorem low_false {b : UInt8} (h : ¬ b.toNat % 2 = 1) : ((b.toNat : Int) % (2 : Int) == (1 : Int)) = false := by rw [beq_eq_false_iff_ne]; omega
theorem bit_ix (k q s : Nat) (hk : k < 128) (hq : q = k / 8) (hs : s = k % 8) : (k : Int) / 8 = (q : Int) ∧ (k : Int).tdiv 8 = (q : Int) ∧ (k : Int) % 8 = (s : Int) ∧ (k : Int).tmod 8 = (s : Int) ∧ wrap64 (7 - (s : Int)) = 7 - (s : Int) ∧ (0 : Int) ≤ (q : Int) ∧ (q : Int) < 16 ∧ (0 : Int) ≤ (s : Int) ∧ (s : Int) < 8 ∧ (0 : Int) ≤ (k : Int) := by
 refine ⟨by omega, ?_, by omega, ?_, ?_, by omega, by omega, by omega, by omega, by omega⟩
 ·
  rw [Int.tdiv_eq_ediv_of_nonneg (by omega)]; omega
 ·
  rw [Int.tmod_eq_emod_of_nonneg (by omega)]; omega
 ·
  unfold wrap64; omega
set_option maxRecDepth 100000 in
set_option maxHeartbeats 1000000 in
theorem refProduct_e (a b : List UInt8) (ha : a.length = 16) (hb : b.length = 16) (w : World) : Calls Tryd.prog 90 #[BV a, BV b] w fun e w' => e = .returned (BV (zE a b 128)) ∧ Below w.heap.size w w' := by
 obtain ⟨Z, hZ⟩ : ∃ Z, Z = zero16 := ⟨_, rfl⟩
 have hz : ∀ W : World, (zeroValue 56).run Tryd.prog W = .ok (.agg (Z.map B8).toArray) W := fun W => by rw [hZ]; kernel_rfl
 have HZL := Lib.hid (show Z.length = 16 by rw [hZ]; rfl)
 have HZ0 := Lib.hid (show zE a b 0 = Z by rw [hZ]; rfl)
 have HAL := Lib.hid ha
 have HBL := Lib.hid hb
 clear hZ ha hb
 go_enter Tryd.func90, Tryd.ntmps90
 have hA0 : Blk ((((w.alloc (.cells (a.map B8).toArray 56)).alloc (.cells (b.map B8).toArray 56)).alloc (.cells (Z.map B8).toArray 56)).alloc (.cells (Z.map B8).toArray 56)) w.heap.size 56 (a.map B8) := (((Blk.new_of w 56 _ (a.map B8) rfl).alloc _).alloc _).alloc _
 have hB0 := ((Blk.new2_of w (.cells (a.map B8).toArray 56) 56 (b.map B8).toArray (b.map B8) rfl).alloc (.cells (Z.map B8).toArray 56)).alloc (.cells (Z.map B8).toArray 56)
 have hR0 := (Blk.new3_of w (.cells (a.map B8).toArray 56) (.cells (b.map B8).toArray 56) 56 (Z.map B8).toArray (Z.map B8) rfl).alloc (.cells (Z.map B8).toArray 56)
 have hZ0 := Blk.new3_of (w.alloc (.cells (a.map B8).toArray 56)) (.cells (b.map B8).toArray 56) (.cells (Z.map B8).toArray 56) 56 (Z.map B8).toArray (Z.map B8) rfl
 rw [show (w.alloc (.cells (a.map B8).toArray 56)).heap.size = w.heap.size + 1 by simp] at hZ0
 have hb0 := ((((Below.refl w.heap.size w).alloc (Nat.le_refl _) (.cells (a.map B8).toArray 56)).alloc (by simp) (.cells (b.map B8).toArray 56)).alloc (by simp; omega) (.cells (Z.map B8).toArray 56)).alloc (by simp; omega) (.cells (Z.map B8).toArray 56)
 go_upto_region 2 with fail
 generalize hw1 : (((w.alloc (.cells (a.map B8).toArray 56)).alloc (.cells (b.map B8).toArray 56)).alloc (.cells (Z.map B8).toArray 56)).alloc (.cells (Z.map B8).toArray 56) = w1 at *
 clear hw1
 go_wp2_with (first
  | (refine wpList_load_blk rfl 56 (.tmp 3) rfl (w.heap.size + 1) rfl 56 _ _ hB0 Tryd.underlying56 rfl (infoBk.trans (by rw [List.length_map, HBL.out])) ?_)
  | (refine wpList_store_blk rfl 56 (.tmp 6) (.tmp 11) rfl rfl w1.heap.size _ rfl rfl 56 _ (Blk.new_of w1 56 _ (Z.map B8) rfl) (infoBk.trans (by rw [List.length_map, HBL.out])) (by rw [List.length_map, List.length_map, HBL.out, HZL.out]) (one8 _) ?_; intro w2 hV hg2))
 have hlz := hZ0.lt
 have hZz := (hZ0.alloc (.cells (Z.map B8).toArray 56)).grown hg2 (by simp; omega)
 have hP : PFr w w.heap.size (w.heap.size + 1) (w.heap.size + 1 + 1) a b Z w2 := ⟨(hA0.alloc _).grown hg2 (by simp; have := hA0.lt; omega), (hR0.alloc _).grown hg2 (by simp; have := hR0.lt; omega), below_new (hb0.alloc hb0.size (.cells (Z.map B8).toArray 56)) hg2 hb0.size (by have := hb0.size; simp; omega)⟩
 have hnz := (show w.heap.size ≠ w.heap.size + 1 + 1 + 1 ∧ w.heap.size + 1 + 1 ≠ w.heap.size + 1 + 1 + 1 ∧ w.heap.size ≤ w.heap.size + 1 + 1 + 1 by omega)
 have hnv := (show w.heap.size ≠ w1.heap.size ∧ w.heap.size + 1 + 1 ≠ w1.heap.size ∧ w.heap.size ≤ w1.heap.size by omega)
 have hzv := (show w.heap.size + 1 + 1 + 1 ≠ w1.heap.size by omega)
 have hle4 := (show w.heap.size ≤ w.heap.size + 1 + 1 by omega)
 clear hA0 hB0 hR0 hZ0 hb0 hg2 hlz
 generalize w1.heap.size = gv at *
 generalize w.heap.size + 1 + 1 + 1 = gz at *
 generalize w.heap.size + 1 + 1 = g4 at *
 generalize w.heap.size + 1 = gb at *
 go_loopw [7] (fun i wr => ∃ k : Nat, k ≤ 128 ∧ i = .int .i64 (k : Int) ∧ Blk wr gz 56 ((zE a b k).map B8) ∧ Blk wr gv 56 ((vE b k).map B8) ∧ PFr w w.heap.size gb g4 a b Z wr) (fun i _ => 128 - (intOf i).toNat)
 case atStart => exact ⟨0, by omega, rfl, by rw [HZ0.out]; exact hZz, hV, hP⟩
 case round =>
  clear hZz hV hP
  obtain ⟨k, hk, rfl, hz1, hv1, hP⟩ := hrel
  by_cases hlt : k < 128
  ·
   have hd : decide ((k : Int) < 128) = true := by simp; omega
   obtain ⟨q, hq⟩ : ∃ q, q = k / 8 := ⟨_, rfl⟩
   obtain ⟨s, hs⟩ : ∃ s, s = k % 8 := ⟨_, rfl⟩
   obtain ⟨zk, hzk⟩ : ∃ z, z = zE a b k := ⟨_, rfl⟩
   obtain ⟨vk, hvk⟩ : ∃ v, v = vE b k := ⟨_, rfl⟩
   obtain ⟨zn, hzn⟩ : ∃ z, z = zE a b (k + 1) := ⟨_, rfl⟩
   have HZK := Lib.hid (show zk.length = 16 by rw [hzk]; exact zE_length HBL.out k)
   have HVK := Lib.hid (show vk.length = 16 by rw [hvk]; exact vE_length HBL.out k)
   have HVN := Lib.hid (show vE b (k + 1) = stepE vk by rw [hvk]; rfl)
   have hcc := hP.a.at8 q (by rw [HAL.out]; omega)
   have hzn1 : zn = if (a.getD q 0).toNat / 2 ^ (7 - s) % 2 = 1 then putE zk vk else zk := by rw [hzn, zE, hq, hs, hzk, hvk]
   rw [← hzk] at hz1
   rw [← hvk] at hv1
   have HZN := Lib.hid hzn
   generalize a.getD q 0 = x at *
   obtain ⟨e1, e2, e3, e4, e5, e6, e7, e8, e9, e10⟩ := bit_ix k q s hlt hq hs
   clear hq hs hzk hvk hzn
   go_upto_if 25 with fail
   clear e1 e2 e3 e4 e5 e6 e7 e8 e9 hcc
   go_cut [8] from 12 to 70 (fun _ wx => Blk wx gz 56 (zn.map B8) ∧ Blk wx gv 56 (vk.map B8) ∧ PFr w w.heap.size gb g4 a b Z wx)
   case first =>
    by_cases hbit : x.toNat / 2 ^ (7 - s) % 2 = 1
    ·
     have ht := top_true hbit
     have HN := Lib.hid (show zn = putE zk vk by rw [hzn1, if_pos hbit])
     simp only [ht]
     clear ht hbit HZN hzn1
     go_wp2
     obtain ⟨P, hPe⟩ : ∃ P, P = putE zk vk := ⟨_, rfl⟩
     have HPL := Lib.hid (show P.length = 16 by rw [hPe]; exact putE_length HZK.out HVK.out)
     have HPG := Lib.hid (show ∀ i, i < 16 → P.getD i 0 = zk.getD i 0 ^^^ vk.getD i 0 by rw [hPe]; exact putE_get HZK.out HVK.out)
     rw [← hPe] at HN
     clear hPe
     go_loopw [8] (fun i wx => ∃ j : Nat, j ≤ 16 ∧ i = .int .i64 (j : Int) ∧ Blk wx gz 56 ((P.take j ++ zk.drop j).map B8) ∧ Blk wx gv 56 (vk.map B8) ∧ PFr w w.heap.size gb g4 a b Z wx) (fun i _ => 16 - (intOf i).toNat)
     case atStart => exact ⟨0, by omega, rfl, hz1, hv1, hP⟩
     case round =>
      clear hz1 hv1 hP
      obtain ⟨j, hj, rfl, hz1, hv1, hP⟩ := hrel
      by_cases hlj : j < 16
      ·
       have hdj : decide ((j : Int) < 16) = true := by simp; omega
       have hlen := len_to P zk j (by rw [HPL.out]; omega) (by rw [HPL.out, HZK.out])
       have HST := Lib.hid (set_to P zk j 0 (by rw [HPL.out]; omega) (by rw [HZK.out]; omega))
       have hget := get_to P zk j 0 (by rw [HPL.out]; omega)
       have hv := HPG.out j hlj
       obtain ⟨y, hy⟩ : ∃ y, y = vk.getD j 0 := ⟨_, rfl⟩
       obtain ⟨u, hu⟩ : ∃ u, u = zk.getD j 0 := ⟨_, rfl⟩
       obtain ⟨v, hve⟩ : ∃ v, v = P.getD j 0 := ⟨_, rfl⟩
       have hxx : bits .xor .u8 (u.toNat : Int) (y.toNat : Int) = (v.toNat : Int) := by
        rw [hve, hv, hu, hy, u8_xor_nat _ _ (u8_lt _) (u8_lt _), UInt8.toNat_xor]
       rw [← hve] at HST
       have HX := Lib.hid (fun (W : World) (hb : Below wr.heap.size wr W) => (show W.cell? ⟨gz, j, none⟩ = some (.int .u8 (u.toNat : Int)) by rw [hu, ← hget]; exact (hz1.below hb hz1.lt).at8 j (by rw [hlen, HZK.out]; exact hlj)))
       have HY := Lib.hid (fun (W : World) (hb : Below wr.heap.size wr W) => (show W.cell? ⟨gv, j, none⟩ = some (.int .u8 (y.toNat : Int)) by rw [hy]; exact (hv1.below hb hv1.lt).at8 j (by rw [HVK.out]; exact hlj)))
       have hj0 : (0 : Int) ≤ (j : Int) := by omega
       have hj1 : (j : Int) < 16 := by omega
       clear hv hy hu hve hget hlen
       generalize P.take j ++ zk.drop j = L at *
       go_wp2
       refine wp_region_noPanic ?_
       apply wp_region_once_tail (m := 9) (Z := []) (D := [[], [], [1], [1, 2], [], [4], [4, 5], [1, 2, 3, 4, 5, 6], [0, 1, 2, 3, 4, 5, 6, 7], [0, 1, 2, 3, 4, 5, 6, 7, 8]]) (J := [[], [], [1], [2], [], [4], [5], [3, 6], [0]]) (Je := [7, 8]) (Rs := [Is _, Is _, Is _, Is _, Is _, Is _, Is _, Is _, Is _])
       ·
        kernel_rfl
       ·
        kernel_rfl
       ·
        kernel_rfl
       ·
        kernel_rfl
       ·
        kernel_rfl
       ·
        kernel_rfl
       ·
        kernel_rfl
       ·
        exact fun h => absurd rfl h
       ·
        intro u
        simp only [List.take_succ_cons, List.take_zero, List.map_cons, List.map_nil, fillU, List.setIfInBounds_toArray, List.set_cons_zero, List.set_cons_succ, Nat.zero_add, Nat.reduceAdd]
        exact rfl
       ·
        simp only [List.take_succ_cons, List.take_zero]
        refine ⟨fun u W hb hd K hK => ?_, ?_⟩
        ·
         clear hd
         go_simp
         apply hK
         ·
          simp only [Act.put, List.setIfInBounds_toArray, List.set_cons_zero, List.set_cons_succ]
          exact rfl
         ·
          exact Below.refl _ _
         ·
          exact IsOut
        refine ⟨fun u W hb hd K hK => ?_, ?_⟩
        ·
         clear hd
         go_simp
         apply hK
         ·
          simp only [Act.put, List.setIfInBounds_toArray, List.set_cons_zero, List.set_cons_succ]
          exact rfl
         ·
          exact Below.refl _ _
         ·
          exact IsOut
        refine ⟨fun u W hb hd K hK => ?_, ?_⟩
        ·
         simp only [Facts, nthR, Is, and_true] at hd
         simp only [hd] at hK ⊢
         clear hd
         go_simp
         apply hK
         ·
          simp only [Act.put, List.setIfInBounds_toArray, List.set_cons_zero, List.set_cons_succ]
          exact rfl
         ·
          exact Below.refl _ _
         ·
          exact IsOut
        refine ⟨fun u W hb hd K hK => ?_, ?_⟩
        ·
         simp only [Facts, nthR, Is, and_true] at hd
         simp only [hd] at hK ⊢
         clear hd
         have hcc := HX.out W hb
         go_simp
         apply hK
         ·
          simp only [Act.put, List.setIfInBounds_toArray, List.set_cons_zero, List.set_cons_succ]
          exact rfl
         ·
          exact Below.refl _ _
         ·
          exact IsOut
        refine ⟨fun u W hb hd K hK => ?_, ?_⟩
        ·
         clear hd
         go_simp
         apply hK
         ·
          simp only [Act.put, List.setIfInBounds_toArray, List.set_cons_zero, List.set_cons_succ]
          exact rfl
         ·
          exact Below.refl _ _
         ·
          exact IsOut
        refine ⟨fun u W hb hd K hK => ?_, ?_⟩
        ·
         simp only [Facts, nthR, Is, and_true] at hd
         simp only [hd] at hK ⊢
         clear hd
         go_simp
         apply hK
         ·
          simp only [Act.put, List.setIfInBounds_toArray, List.set_cons_zero, List.set_cons_succ]
          exact rfl
         ·
          exact Below.refl _ _
         ·
          exact IsOut
        refine ⟨fun u W hb hd K hK => ?_, ?_⟩
        ·
         simp only [Facts, nthR, Is, and_true] at hd
         simp only [hd] at hK ⊢
         clear hd
         have hcc := HY.out W hb
         go_simp
         apply hK
         ·
          simp only [Act.put, List.setIfInBounds_toArray, List.set_cons_zero, List.set_cons_succ]
          exact rfl
         ·
          exact Below.refl _ _
         ·
          exact IsOut
        refine ⟨fun u W hb hd K hK => ?_, ?_⟩
        ·
         simp only [Facts, nthR, Is, and_true] at hd
         simp only [hd] at hK ⊢
         clear hd
         go_simp
         apply hK
         ·
          simp only [Act.put, List.setIfInBounds_toArray, List.set_cons_zero, List.set_cons_succ]
          exact rfl
         ·
          exact Below.refl _ _
         ·
          exact IsOut
        refine ⟨fun u W hb hd K hK => ?_, ?_⟩
        ·
         simp only [Facts, nthR, Is, and_true] at hd
         simp only [hd] at hK ⊢
         clear hd
         go_simp
         apply hK
         ·
          simp only [Act.put, List.setIfInBounds_toArray, List.set_cons_zero, List.set_cons_succ]
          exact rfl
         ·
          exact Below.refl _ _
         ·
          exact IsOut
        exact trivial
       ·
        skip
        exact trivial
       ·
        exact (.is (.is (.is (.is (.is (.is (.is (.is (.is .nil)))))))))
       ·
        intro u W hb hd
        simp only [List.drop_succ_cons, List.drop_zero]
        simp only [Facts, nthR, Is, and_true] at hd
        simp only [hd]
        clear hd
        have hcc := HX.out W hb
        have hfr := (hz1.below hb hz1.lt).frozen j
        replace hz1 := hz1.below hb hz1.lt
        replace hv1 := hv1.below hb hv1.lt
        replace hP := hP.below hb
        clear hb HX HY
        go_wp2
        refine NoPanic.normal ?_
        go_wp2
        go_roundw
        case rel =>
         refine ⟨j + 1, by omega, by go_num, ?_, hv1.far (by simp; exact Ne.symm hzv) _, hP.far hnz _⟩
         rw [← HST.out, ← map_set8]
         exact hz1.set_ j _
        case measure => simp [intOf]; omega
      ·
       have hdj : decide ((j : Int) < 16) = false := by simp; omega
       obtain rfl : j = 16 := by omega
       rw [List.take_of_length_le (by rw [HPL.out]; omega), List.drop_eq_nil_of_le (by rw [HZK.out]; omega), List.append_nil] at hz1
       go_wp2
       go_meet
       case rel => exact ⟨by rw [HN.out]; exact hz1, hv1, hP⟩
    ·
     have ht := top_false hbit
     have HN := Lib.hid (show zn = zk by rw [hzn1, if_neg hbit])
     simp only [ht]
     clear ht hbit HZN hzn1
     go_wp2
     go_meet
     case rel => exact ⟨by rw [HN.out]; exact hz1, hv1, hP⟩
   case rest =>
    clear hz1 hv1 hP
    obtain ⟨hz1, hv1, hP⟩ := hcut
    obtain ⟨S, hS⟩ : ∃ S, S = shrE vk := ⟨_, rfl⟩
    have HSL := Lib.hid (show S.length = 16 by rw [hS]; exact shrE_length vk)
    have HSG := Lib.hid (show ∀ i, i < 16 → S.getD i 0 = shrB vk i by rw [hS]; exact shrE_get vk)
    have HSE := Lib.hid hS
    have c15 := hv1.at8 15 (by rw [HVK.out]; omega)
    obtain ⟨y, hy⟩ : ∃ y, y = vk.getD 15 0 := ⟨_, rfl⟩
    rw [← hy] at c15
    have HY := Lib.hid hy
    clear hS hy hzn1
    go_wp2
    clear c15
    go_loopw [10] (fun i wx => ∃ (j : Nat) (v : Int), j ≤ 16 ∧ v = (j : Int) - 1 ∧ i = .int .i64 v ∧ Blk wx gz 56 (zn.map B8) ∧ Blk wx gv 56 ((vk.take j ++ S.drop j).map B8) ∧ PFr w w.heap.size gb g4 a b Z wx) (fun i _ => (intOf i + 1).toNat)
    case atStart => exact ⟨16, 15, by omega, by omega, rfl, hz1, by rw [List.take_of_length_le (by rw [HVK.out]; omega), List.drop_eq_nil_of_le (by rw [HSL.out]; omega), List.append_nil]; exact hv1, hP⟩
    case round =>
     clear hz1 hv1 hP
     obtain ⟨j, v, hj, hvj, rfl, hz1, hv1, hP⟩ := hrel
     by_cases hj0 : 0 < j
     ·
      obtain ⟨p, rfl⟩ : ∃ p, j = p + 1 := ⟨j - 1, by omega⟩
      obtain rfl : v = (p : Int) := by omega
      have hdj : decide ((0 : Int) ≤ (p : Int)) = true := by simp
      have hp16 : p < 16 := by omega
      have hlen : (vk.take (p + 1) ++ S.drop (p + 1)).length = 16 := by simp [HVK.out, HSL.out]; omega
      have HST := Lib.hid (set_down vk S p HVK.out HSL.out hp16)
      have hsp := HSG.out p hp16
      unfold shrB at hsp
      have hget : ∀ i, i < p + 1 → (vk.take (p + 1) ++ S.drop (p + 1)).getD i 0 = vk.getD i 0 := fun i hi => by
       rw [List.getD_eq_getElem?_getD, List.getElem?_append_left (by simp [HVK.out]; omega), List.getElem?_take, if_pos hi, ← List.getD_eq_getElem?_getD]
      have hcc := hv1.at8 p (by rw [hlen]; exact hp16)
      have hfr := hv1.frozen p
      rw [hget p (by omega)] at hcc
      have hm1 : ∀ m, m + 1 = p → wr.cell? ⟨gv, m, none⟩ = some (.int .u8 ((vk.getD m 0).toNat : Int)) := fun m hm => by
       have h := hv1.at8 m (by rw [hlen]; omega)
       rw [hget m (by omega)] at h
       exact h
      have hget2 : ∀ m, m + 1 = p → (vk.take (p + 1) ++ S.drop (p + 1)).getD m 0 = vk.getD m 0 := fun m hm => hget m (by omega)
      generalize vk.getD p 0 = x at *
      have e1 := q8_shr1 x
      obtain ⟨x1, hx1⟩ : ∃ x1, x1 = x >>> 1 := ⟨_, rfl⟩
      rw [← hx1] at e1 hsp
      generalize vk.take (p + 1) ++ S.drop (p + 1) = L at *
      have hk0 : (0 : Int) ≤ (p : Int) := by omega
      have hk1 : (p : Int) < 16 := by omega
      have HM := Lib.hid hm1
      have HSP := Lib.hid hsp
      have HLM := Lib.hid hget2
      have HLL := Lib.hid hlen
      clear hx1 hsp hm1 hget hget2
      by_cases hp0 : 0 < p
      ·
       have hgt : decide ((0 : Int) < (p : Int)) = true := by simp; omega
       have hgt' : decide (0 < p) = true := by simp; omega
       obtain ⟨m, hm⟩ : ∃ m, m + 1 = p := ⟨p - 1, by omega⟩
       have HMP := Lib.hid hm
       have HP16 := Lib.hid (show 0 < p ∧ p < 16 from ⟨hp0, hp16⟩)
       clear hm hp16 hlen hj hj0 hvj
       go_upto_region 17 with fail
       have hm := HMP.out
       have hp16 := HP16.out.2
       have hv6 := hv1.set_ p (B8 x1)
       rw [map_set8] at hv6
       have hz6 := hz1.far (p := ⟨gv, p, none⟩) (by simp; exact hzv) (.int .u8 (x1.toNat : Int))
       have hP6 := hP.far (p := ⟨gv, p, none⟩) hnv (.int .u8 (x1.toNat : Int))
       change Blk (wr.setCell ⟨gv, p, none⟩ (.int .u8 (x1.toNat : Int))) gv 56 _ at hv6
       generalize wr.setCell ⟨gv, p, none⟩ (.int .u8 (x1.toNat : Int)) = w6 at *
       have hs1 : (L.set p x1).getD p 0 = x1 := by
        rw [List.getD_eq_getElem?_getD, List.getElem?_set_self (by rw [HLL.out]; exact hp16)]; rfl
       have hs2 : (L.set p x1).getD m 0 = vk.getD m 0 := by
        rw [List.getD_eq_getElem?_getD, List.getElem?_set_ne (by omega), ← List.getD_eq_getElem?_getD, HLM.out m hm]
       have hv := HSP.out
       rw [if_neg (by omega), show p - 1 = m by omega] at hv
       obtain ⟨y0, hy0⟩ : ∃ y, y = vk.getD m 0 := ⟨_, rfl⟩
       rw [← hy0] at hv hs2
       obtain ⟨y7, hy7⟩ : ∃ y, y = y0 <<< 7 := ⟨_, rfl⟩
       obtain ⟨v, hve⟩ : ∃ v, v = S.getD p 0 := ⟨_, rfl⟩
       rw [← hve] at hv HST
       rw [← hy7] at hv
       have f1 := q8_shl7 y0
       rw [← hy7] at f1
       have f2 : IntKind.u8.wrap ((y0.toNat : Int) * (128 : Int)) = (y7.toNat : Int) := by rw [← f1, IntKind.wrap_u8]
       have f3 := q8_or x1 y7
       rw [← hv] at f3
       have f4 : IntKind.i64.wrap ((p : Int) - 1) = (m : Int) := by rw [IntKind.wrap_i64]; omega
       have f5 : (0 : Int) ≤ (m : Int) := by omega
       have f6 : (m : Int) < 16 := by omega
       have HX := Lib.hid (fun (W : World) (hb : Below w6.heap.size w6 W) => (show W.cell? ⟨gv, p, none⟩ = some (.int .u8 (x1.toNat : Int)) from ((hv6.below hb hv6.lt).at8 p (by rw [List.length_set, HLL.out]; exact hp16)).trans (by rw [hs1])))
       have HY0 := Lib.hid (fun (W : World) (hb : Below w6.heap.size w6 W) => (show W.cell? ⟨gv, m, none⟩ = some (.int .u8 (y0.toNat : Int)) from ((hv6.below hb hv6.lt).at8 m (by rw [List.length_set, HLL.out]; omega)).trans (by rw [hs2])))
       clear hm hp16 hs1 hs2 hv hy0 hy7 hve hz1 hv1 hP hcc hfr hp0 hgt hgt' e1
       refine wp_region_noPanic ?_
       apply wp_region_once_tail (m := 11) (Z := []) (D := [[], [], [1], [1, 2], [], [4], [4, 5], [4, 5, 6], [4, 5, 6, 7], [1, 2, 3, 4, 5, 6, 7, 8], [0, 1, 2, 3, 4, 5, 6, 7, 8, 9], [0, 1, 2, 3, 4, 5, 6, 7, 8, 9, 10]]) (J := [[], [], [1], [2], [], [4], [5], [6], [7], [3, 8], [0]]) (Je := [9, 10]) (Rs := [Is _, Is _, Is _, Is _, Is _, Is _, Is _, Is _, Is _, Is _, Is _])
       ·
        kernel_rfl
       ·
        kernel_rfl
       ·
        kernel_rfl
       ·
        kernel_rfl
       ·
        kernel_rfl
       ·
        kernel_rfl
       ·
        kernel_rfl
       ·
        exact fun h => absurd rfl h
       ·
        intro u
        simp only [List.take_succ_cons, List.take_zero, List.map_cons, List.map_nil, fillU, List.setIfInBounds_toArray, List.set_cons_zero, List.set_cons_succ, Nat.zero_add, Nat.reduceAdd]
        exact rfl
       ·
        simp only [List.take_succ_cons, List.take_zero]
        refine ⟨fun u W hb hd K hK => ?_, ?_⟩
        ·
         clear hd
         go_simp
         apply hK
         ·
          simp only [Act.put, List.setIfInBounds_toArray, List.set_cons_zero, List.set_cons_succ]
          exact rfl
         ·
          exact Below.refl _ _
         ·
          exact IsOut
        refine ⟨fun u W hb hd K hK => ?_, ?_⟩
        ·
         clear hd
         go_simp
         apply hK
         ·
          simp only [Act.put, List.setIfInBounds_toArray, List.set_cons_zero, List.set_cons_succ]
          exact rfl
         ·
          exact Below.refl _ _
         ·
          exact IsOut
        refine ⟨fun u W hb hd K hK => ?_, ?_⟩
        ·
         simp only [Facts, nthR, Is, and_true] at hd
         simp only [hd] at hK ⊢
         clear hd
         go_simp
         apply hK
         ·
          simp only [Act.put, List.setIfInBounds_toArray, List.set_cons_zero, List.set_cons_succ]
          exact rfl
         ·
          exact Below.refl _ _
         ·
          exact IsOut
        refine ⟨fun u W hb hd K hK => ?_, ?_⟩
        ·
         simp only [Facts, nthR, Is, and_true] at hd
         simp only [hd] at hK ⊢
         clear hd
         have hcc := HX.out W hb
         go_simp
         apply hK
         ·
          simp only [Act.put, List.setIfInBounds_toArray, List.set_cons_zero, List.set_cons_succ]
          exact rfl
         ·
          exact Below.refl _ _
         ·
          exact IsOut
        refine ⟨fun u W hb hd K hK => ?_, ?_⟩
        ·
         clear hd
         go_simp
         apply hK
         ·
          simp only [Act.put, List.setIfInBounds_toArray, List.set_cons_zero, List.set_cons_succ]
          exact rfl
         ·
          exact Below.refl _ _
         ·
          exact IsOut
        refine ⟨fun u W hb hd K hK => ?_, ?_⟩
        ·
         simp only [Facts, nthR, Is, and_true] at hd
         simp only [hd] at hK ⊢
         clear hd
         go_simp
         apply hK
         ·
          simp only [Act.put, List.setIfInBounds_toArray, List.set_cons_zero, List.set_cons_succ]
          exact rfl
         ·
          exact Below.refl _ _
         ·
          exact IsOut
        refine ⟨fun u W hb hd K hK => ?_, ?_⟩
        ·
         simp only [Facts, nthR, Is, and_true] at hd
         simp only [hd] at hK ⊢
         clear hd
         go_simp
         apply hK
         ·
          simp only [Act.put, List.setIfInBounds_toArray, List.set_cons_zero, List.set_cons_succ]
          exact rfl
         ·
          exact Below.refl _ _
         ·
          exact IsOut
        refine ⟨fun u W hb hd K hK => ?_, ?_⟩
        ·
         simp only [Facts, nthR, Is, and_true] at hd
         simp only [hd] at hK ⊢
         clear hd
         have hcc := HY0.out W hb
         go_simp
         apply hK
         ·
          simp only [Act.put, List.setIfInBounds_toArray, List.set_cons_zero, List.set_cons_succ]
          exact rfl
         ·
          exact Below.refl _ _
         ·
          exact IsOut
        refine ⟨fun u W hb hd K hK => ?_, ?_⟩
        ·
         simp only [Facts, nthR, Is, and_true] at hd
         simp only [hd] at hK ⊢
         clear hd
         go_simp
         apply hK
         ·
          simp only [Act.put, List.setIfInBounds_toArray, List.set_cons_zero, List.set_cons_succ]
          exact rfl
         ·
          exact Below.refl _ _
         ·
          exact IsOut
        refine ⟨fun u W hb hd K hK => ?_, ?_⟩
        ·
         simp only [Facts, nthR, Is, and_true] at hd
         simp only [hd] at hK ⊢
         clear hd
         go_simp
         apply hK
         ·
          simp only [Act.put, List.setIfInBounds_toArray, List.set_cons_zero, List.set_cons_succ]
          exact rfl
         ·
          exact Below.refl _ _
         ·
          exact IsOut
        refine ⟨fun u W hb hd K hK => ?_, ?_⟩
        ·
         simp only [Facts, nthR, Is, and_true] at hd
         simp only [hd] at hK ⊢
         clear hd
         go_simp
         apply hK
         ·
          simp only [Act.put, List.setIfInBounds_toArray, List.set_cons_zero, List.set_cons_succ]
          exact rfl
         ·
          exact Below.refl _ _
         ·
          exact IsOut
        exact trivial
       ·
        skip
        exact trivial
       ·
        exact (.is (.is (.is (.is (.is (.is (.is (.is (.is (.is (.is .nil)))))))))))
       ·
        intro u W hb hd
        simp only [List.drop_succ_cons, List.drop_zero]
        simp only [Facts, nthR, Is, and_true] at hd
        simp only [hd]
        clear hd
        have hcc := HX.out W hb
        have hfr := (hv6.below hb hv6.lt).frozen p
        replace hz6 := hz6.below hb hz6.lt
        replace hv6 := hv6.below hb hv6.lt
        replace hP6 := hP6.below hb
        clear hb HX HY0
        go_wp2
        refine NoPanic.normal ?_
        go_wp2
        go_roundw
        case rel =>
         have hp16 := HP16.out.2
         have hm := HMP.out
         refine ⟨p, (p : Int) - 1, by omega, rfl, by first | go_num | (congr 1; omega), hz6.far (by simp; exact hzv) _, ?_, hP6.far hnv _⟩
         have h9 := hv6.set_ p (B8 v)
         rw [map_set8, List.set_set, HST.out] at h9
         exact h9
        case measure =>
         have hm := HMP.out
         simp [intOf]
         omega
      ·
       have hgt : decide ((0 : Int) < (p : Int)) = false := by simp; omega
       have hv0 : S.getD p 0 = x1 := by rw [HSP.out, if_pos (by omega)]; simp
       have HV0 := Lib.hid hv0
       have hpz : p = 0 := by omega
       have HPZ := Lib.hid hpz
       clear hv0 hpz hp16 hlen hj hj0 hvj
       go_wp2
       go_roundw
       case rel =>
        refine ⟨p, (p : Int) - 1, by have := HPZ.out; omega, rfl, by go_num, hz1.far (by simp; exact hzv) _, ?_, hP.far hnv _⟩
        rw [← HST.out, ← map_set8, HV0.out]
        exact hv1.set_ p _
       case measure => simp [intOf]
     ·
      have hdj : decide ((0 : Int) ≤ v) = false := by simp; omega
      have hvn : ¬ (0 : Int) ≤ v := by omega
      have hvn2 : v < 0 := by omega
      have hj00 : j = 0 := by omega
      subst hj00
      clear hvj hj0
      rw [List.take_zero, List.nil_append, List.drop_zero] at hv1
      by_cases hl : y.toNat % 2 = 1
      ·
       have hlt1 := low_true hl
       have HN := Lib.hid (show vE b (k + 1) = S.set 0 (S.getD 0 0 ^^^ 0xE1) by rw [HVN.out, stepE, ← HY.out, if_pos hl, ← HSE.out, set_over S HSL.out])
       have hcc := hv1.at8 0 (by rw [HSL.out]; omega)
       have hfr := hv1.frozen 0
       have hxx := q8_over (S.getD 0 0)
       obtain ⟨v, hve⟩ : ∃ v, v = S.getD 0 0 ^^^ 0xE1 := ⟨_, rfl⟩
       rw [← hve] at HN hxx
       generalize S.getD 0 0 = x0 at *
       clear hl hve
       go_wp2
       go_roundw
       case rel =>
        refine ⟨k + 1, by omega, by go_num, by rw [← HZN.out]; exact hz1.far (by simp; exact hzv) _, ?_, hP.far hnv _⟩
        rw [HN.out, ← map_set8]
        exact hv1.set_ 0 _
       case measure => simp [intOf]; omega
      ·
       have hlt1 := low_false hl
       have HN := Lib.hid (show vE b (k + 1) = S by rw [HVN.out, stepE, ← HY.out, if_neg hl, HSE.out])
       clear hl
       go_wp2
       go_roundw
       case rel => exact ⟨k + 1, by omega, by go_num, by rw [← HZN.out]; exact hz1, by rw [HN.out]; exact hv1, hP⟩
       case measure => simp [intOf]; omega
  ·
   have hd : decide ((k : Int) < 128) = false := by simp; omega
   obtain rfl : k = 128 := by omega
   obtain ⟨zk, hzk⟩ : ∃ z, z = zE a b 128 := ⟨_, rfl⟩
   have HZK := Lib.hid (show zk.length = 16 by rw [hzk]; exact zE_length HBL.out 128)
   have HZE := Lib.hid hzk
   rw [← hzk] at hz1
   clear hzk hv1
   have h4 := hP.r
   have hbw := hP.b
   go_wp2_with (first
    | (refine wpList_load_blk rfl 56 (.tmp 5) rfl gz rfl 56 _ _ hz1 Tryd.underlying56 rfl (infoBk.trans (by rw [List.length_map, HZK.out])) ?_)
    | (refine wpList_store_blk rfl 56 (.tmp 4) (.tmp 71) rfl rfl g4 _ rfl rfl 56 _ h4 (infoBk.trans (by rw [List.length_map, HZK.out])) (by rw [List.length_map, List.length_map, HZK.out, HZL.out]) (one8 _) ?_; intro w9 h9 hg9))
   refine bodyPost_ret (v := .agg _) (results_cell_row rfl _ _ g4 56 _ (0, 0) _ rfl h9.raw Tryd.underlying56 rfl (infoBk.trans (by rw [List.size_toArray, List.length_map, HZK.out]))) rfl ⟨by rw [HZE.out], below_new hbw hg9 hle4 hbw.size⟩

end
section
open Go.RowKit
theorem info12 : (Tryd.prog.info? 48).map (·.size) = some 12 := by kernel_rfl
/-- A box that is ready. -/
structure BoxAt (w : World) (gx gk gr R : Nat) (L : List UInt32) : Prop where
 box : Blk w gx 91 [.pointer (some ⟨gk, 0, none⟩)]
 key : KeyAt w gk gr R L
 lo : 2 ≤ R
 hi : R ≤ 15
theorem BoxAt.below {w w' : World} {gx gk gr R : Nat} {L : List UInt32} (h : BoxAt w gx gk gr R L) (hb : Below w.heap.size w w') : BoxAt w' gx gk gr R L :=
 ⟨h.box.below hb h.box.lt, h.key.below hb, h.lo, h.hi⟩
theorem BoxAt.grown {w w' : World} {gx gk gr R g : Nat} {L : List UInt32} (h : BoxAt w gx gk gr R L) (hb : w.grownBy w' (some g)) (n1 : gx ≠ g) (n2 : gk ≠ g) (n3 : gr ≠ g) : BoxAt w' gx gk gr R L :=
 ⟨h.box.grown hb (by simpa using n1), ⟨h.key.key.grown hb (by simpa using n2), h.key.rounds.grown hb (by simpa using n3), h.key.len⟩, h.lo, h.hi⟩

theorem bempty_no {gx gk gr R : Nat} {L : List UInt32} {w : World} (h : BoxAt w gx gk gr R L) :
  Calls Tryd.prog 59 #[.pointer (some ⟨gx, 0, none⟩)] w fun e w' => e = .returned (.bool false) ∧ w' = w := by
 have c0 : w.cell? ⟨gx, 0, none⟩ = some (.pointer (some ⟨gk, 0, none⟩)) := h.box.cell 0
 go_enter Tryd.func59, Tryd.ntmps59
 go_wp2
 go_ret
 exact ⟨rfl, rfl⟩
theorem bempty_nil (w : World) : Calls Tryd.prog 59 #[.pointer none] w fun e w' => e = .returned (.bool true) ∧ w' = w := by
 go_enter Tryd.func59, Tryd.ntmps59
 go_wp2
 go_ret
 exact ⟨rfl, rfl⟩
theorem bnew_any (A : Option Addr) (c B n : Nat) (key : List UInt8) (w : World) (hB : B ≤ w.heap.size) (ik : InK w B A c key) (hl : key.length = 4 * n) (hn : n = 4 ∨ n = 8) :
  Calls Tryd.prog 23 #[.slice A key.length c] w fun e w' => ∃ gx gk gr, e = .returned (.tuple #[.pointer (some ⟨gx, 0, none⟩), .int .i64 0]) ∧ w.heap.size ≤ gx ∧ BoxAt w' gx gk gr (n + 7) (keyL n key) ∧ Below w.heap.size w w' := by
 have hc1 := newB_any A c B n key w hB ik hl hn
 generalize keyL n key = L at *
 generalize key.length = kl at *
 clear hl
 go_enter Tryd.func23, Tryd.ntmps23
 go_wp2_with (go_at_call 22; with_reducible refine hc1.mono ?_; rintro e w1 ⟨gk, gr, rfl, hgk, hK, hb1⟩)
 go_ret2
 exact ⟨w1.heap.size, gk, gr, rfl, hb1.size, ⟨Blk.new_of _ _ _ _ rfl, hK.below ((Below.refl _ _).alloc (Nat.le_refl _) _), by omega, by omega⟩, hb1.alloc hb1.size _⟩
theorem bnew_bad (A : Option Addr) (c n : Nat) (w : World) (h1 : n ≠ 16) (h2 : n ≠ 32) :
  Calls Tryd.prog 23 #[.slice A n c] w fun e w' => e = .returned (.tuple #[.pointer none, .int .i64 1]) ∧ Below w.heap.size w w' := by
 have hc1 := new_bad A c n w h1 h2
 go_enter Tryd.func23, Tryd.ntmps23
 go_wp2_with (go_at_call 22; with_reducible refine hc1.mono ?_; rintro e w1 ⟨rfl, hb1⟩)
 go_ret2
 exact ⟨rfl, hb1⟩

/-- The block of a nonce and a number. -/
def numB (n k : Nat) : UInt8 := UInt8.ofNat (n / 2 ^ (24 - 8 * k))
def ctrTo (N : List UInt8) (n k : Nat) : List UInt8 := (List.range 16).map fun i => if i < 12 then N.getD i 0 else if i < 12 + k then numB n (i - 12) else 0
def ctrE (N : List UInt8) (n : Nat) : List UInt8 := ctrTo N n 4
theorem ctrTo_length (N : List UInt8) (n k : Nat) : (ctrTo N n k).length = 16 := by simp [ctrTo]
theorem ctrTo_get (N : List UInt8) (n k i : Nat) (hi : i < 16) : (ctrTo N n k).getD i 0 = if i < 12 then N.getD i 0 else if i < 12 + k then numB n (i - 12) else 0 := by
 simp [ctrTo, List.getD_eq_getElem?_getD, hi]
theorem ctrTo_step (N : List UInt8) (n k : Nat) (hk : k < 4) : (ctrTo N n k).set (12 + k) (numB n k) = ctrTo N n (k + 1) := by
 apply List.ext_getElem?
 intro i
 simp only [ctrTo, List.getElem?_set, List.getElem?_map, List.length_map, List.length_range]
 by_cases hi : i < 16
 ·
  rw [List.getElem?_range hi]
  by_cases he : 12 + k = i
  ·
   subst he
   simp
   omega
  ·
   rw [if_neg he]
   simp only [Option.map_some]
   congr 1
   by_cases h12 : i < 12
   ·
    rw [if_pos h12, if_pos h12]
   ·
    rw [if_neg h12, if_neg h12]
    by_cases hk2 : i < 12 + k
    ·
     rw [if_pos hk2, if_pos (by omega)]
    ·
     rw [if_neg hk2, if_neg (by omega)]
 ·
  rw [List.getElem?_eq_none (by simp; omega)]
  split <;> simp_all
theorem ctrTo_none (N : List UInt8) (n : Nat) (hN : N.length = 12) : splice (zero16.map B8) 0 (N.map B8) = (ctrTo N n 0).map B8 := by
 rw [splice_eq, List.take_zero, List.nil_append, Nat.zero_add, List.length_map, ← List.map_drop, ← List.map_append]
 refine congrArg (List.map B8) ?_
 apply List.ext_getElem?
 intro i
 by_cases hi : i < 16
 ·
  simp only [ctrTo, List.getElem?_map, List.getElem?_range hi, Option.map_some]
  by_cases h12 : i < 12
  ·
   rw [List.getElem?_append_left (by omega), if_pos h12, List.getD_eq_getElem?_getD, List.getElem?_eq_getElem (by omega)]; rfl
  ·
   rw [List.getElem?_append_right (by omega), if_neg h12, if_neg (by omega), hN]
   have : i = 12 ∨ i = 13 ∨ i = 14 ∨ i = 15 := by omega
   rcases this with rfl | rfl | rfl | rfl <;> rfl
 ·
  rw [List.getElem?_eq_none (by simp [hN, zero16]; omega), List.getElem?_eq_none (by simp [ctrTo]; omega)]
theorem q32_low (n k : Nat) : IntKind.u8.wrap ((n : Int) / 2 ^ (24 - 8 * k)) = ((numB n k).toNat : Int) := by
 rw [IntKind.wrap_u8]
 unfold numB
 simp
theorem ix_c (k c : Nat) (hk : k < 4) (hc : c = 24 - 8 * k) : wrap64 (8 * (k : Int)) = 8 * (k : Int) ∧ wrap64 (24 - 8 * (k : Int)) = (c : Int) ∧ wrap64 (12 + (k : Int)) = ((12 + k : Nat) : Int) ∧ (c : Int) < 32 ∧ (0 : Int) ≤ (c : Int) ∧ ((12 + k : Nat) : Int) < 16 ∧ (0 : Int) ≤ ((12 + k : Nat) : Int) ∧ (((12 + k : Nat) : Int)).toNat = 12 + k ∧ ((c : Int)).toNat = c := by
 subst hc
 refine ⟨?_, ?_, ?_, ?_, ?_, ?_, ?_, ?_, ?_⟩ <;> first | (unfold wrap64; omega) | omega

set_option maxRecDepth 100000 in
set_option maxHeartbeats 1000000 in
theorem cipher_e (gx gk gr R n : Nat) (L : List UInt32) (N : List UInt8) (w : World) (hx : BoxAt w gx gk gr R L) (hN : N.length = 12) (_hn : n < 4294967296) :
  Calls Tryd.prog 79 #[.pointer (some ⟨gx, 0, none⟩), BV N, .int .u32 (n : Int)] w fun e w' => e = .returned (BV (sealS L R (ctrE N n))) ∧ Below w.heap.size w w' := by
 have hse := fun (W : World) (h : BoxAt W gx gk gr R L) => seal_any gk gr R L (ctrE N n) W h.key h.lo h.hi (ctrTo_length _ _ _)
 have hxl := sealS_length L R (ctrE N n)
 obtain ⟨X, hX⟩ : ∃ X, X = sealS L R (ctrE N n) := ⟨_, rfl⟩
 rw [← hX] at hxl ⊢
 rw [← hX] at hse
 have hsp := ctrTo_none N n hN
 have hz : ∀ W : World, (zeroValue 56).run Tryd.prog W = .ok (BV zero16) W := fun W => by kernel_rfl
 obtain ⟨Z, hZ⟩ : ∃ Z, Z = zero16 := ⟨_, rfl⟩
 have HZL := Lib.hid (show Z.length = 16 by rw [hZ]; rfl)
 rw [← hZ] at hz
 rw [← hZ] at hsp
 have HSE := Lib.hid hse
 have HXL := Lib.hid hxl
 have HSP := Lib.hid hsp
 have HN := Lib.hid hN
 have HX := Lib.hid hx
 clear hse hxl hsp hN hZ hX hx _hn
 go_enter Tryd.func79, Tryd.ntmps79
 go_wp2
 clear hz
 have hA : Blk (((w.alloc (.cells (N.map B8).toArray 48)).alloc (.cells (Z.map B8).toArray 56)).alloc (.cells (Z.map B8).toArray 56)) w.heap.size 48 (N.map B8) := ((Blk.new_of w 48 _ (N.map B8) rfl).alloc _).alloc _
 have hR := (Blk.new2_of w (.cells (N.map B8).toArray 48) 56 (Z.map B8).toArray (Z.map B8) rfl).alloc (.cells (Z.map B8).toArray 56)
 have hC := Blk.new3_of w (.cells (N.map B8).toArray 48) (.cells (Z.map B8).toArray 56) 56 (Z.map B8).toArray (Z.map B8) rfl
 have hbw := (((Below.refl w.heap.size w).alloc (Nat.le_refl _) (.cells (N.map B8).toArray 48)).alloc (by simp) (.cells (Z.map B8).toArray 56)).alloc (by simp; omega) (.cells (Z.map B8).toArray 56)
 have hne := (show w.heap.size ≠ w.heap.size + 1 + 1 ∧ w.heap.size + 1 ≠ w.heap.size + 1 + 1 ∧ w.heap.size ≤ w.heap.size + 1 + 1 by omega)
 have hle := (show w.heap.size ≤ w.heap.size + 1 by omega)
 generalize w.heap.size + 1 + 1 = gb at *
 generalize w.heap.size + 1 = go at *
 generalize ((w.alloc (.cells (N.map B8).toArray 48)).alloc (.cells (Z.map B8).toArray 56)).alloc (.cells (Z.map B8).toArray 56) = w1 at *
 apply wp_region_once_tail (m := 2) (Z := []) (D := [[], [], [0, 1]]) (J := [[], []]) (Je := [0, 1]) (Rs := [Is _, Is _])
 ·
  kernel_rfl
 ·
  kernel_rfl
 ·
  kernel_rfl
 ·
  kernel_rfl
 ·
  kernel_rfl
 ·
  kernel_rfl
 ·
  kernel_rfl
 ·
  exact fun h => absurd rfl h
 ·
  intro u
  simp only [List.take_succ_cons, List.take_zero, List.map_cons, List.map_nil, fillU, List.setIfInBounds_toArray, List.set_cons_zero, List.set_cons_succ, Nat.zero_add]
  exact rfl
 ·
  simp only [List.take_succ_cons, List.take_zero]
  refine ⟨fun u W hb hd K hK => ?_, ?_⟩
  ·
   clear hd
   go_simp
   apply hK
   ·
    simp only [Act.put, List.setIfInBounds_toArray, List.set_cons_zero, List.set_cons_succ]
    exact rfl
   ·
    exact Below.refl _ _
   ·
    exact IsOut
  refine ⟨fun u W hb hd K hK => ?_, ?_⟩
  ·
   clear hd
   go_simp
   apply hK
   ·
    simp only [Act.put, List.setIfInBounds_toArray, List.set_cons_zero, List.set_cons_succ]
    exact rfl
   ·
    exact Below.refl _ _
   ·
    exact IsOut
  exact trivial
 ·
  skip
  exact trivial
 ·
  exact (.is (.is .nil))
 ·
  intro u W hb hd
  simp only [List.drop_succ_cons, List.drop_zero]
  simp only [Facts, nthR, Is, and_true] at hd
  simp only [hd]
  clear hd
  replace hA := hA.below hb hA.lt
  replace hR := hR.below hb hR.lt
  replace hC := hC.below hb hC.lt
  replace hbw := hbw.trans (hb.mono hbw.size)
  clear hb
  go_wp2_with (refine wpList_copy_blk rfl (.tmp 9) (.tmp 10) 24 24 rfl 5 Tryd.underlying24 info8 _ _ _ _ _ _ rfl rfl gb 0 (Z.map B8) 56 hC (N.map B8) (by rw [List.length_map, HN.out]; rfl) (fun h0 => ⟨rfl, w.heap.size, 0, rfl, fun j v hv => by rw [Nat.zero_add, hA.cell]; exact hv⟩) (by rw [List.length_map, List.length_map, HN.out, HZL.out]; decide) (oneB8 _) ?_; intro w5 hC5 hg5)
  rw [HSP.out] at hC5
  replace hbw := below_new hbw hg5 hne.2.2 hbw.size
  replace hR := hR.grown hg5 (by simpa using hne.2.1)
  clear hA hC hg5
  go_loopw [8, 12] (fun _ i wr => ∃ k : Nat, k ≤ 4 ∧ i = .int .i64 (k : Int) ∧ Blk wr gb 56 ((ctrTo N n k).map B8) ∧ Blk wr go 56 (Z.map B8) ∧ Below w.heap.size w wr) (fun _ i _ => 4 - (intOf i).toNat)
  case atStart => exact ⟨0, by omega, rfl, hC5, hR, hbw⟩
  case round =>
   clear hC5 hR hbw
   obtain ⟨k, hk, rfl, hC, hR, hbw⟩ := hrel
   by_cases hlt : k < 4
   ·
    have hd : decide ((k : Int) < 4) = true := by simp; omega
    have HST := Lib.hid (ctrTo_step N n k hlt)
    have hq := q32_low n k
    obtain ⟨y, hy⟩ : ∃ y, y = numB n k := ⟨_, rfl⟩
    rw [← hy] at HST hq
    clear hy
    have hl16 := ctrTo_length N n k
    have hc0 := hC.at8 (12 + k) (by rw [hl16]; omega)
    have hf0 := hC.frozen (12 + k)
    have hC2 := hC.set_ (12 + k) (B8 y)
    rw [map_set8, HST.out] at hC2
    have hR2 := hR.far (p := ⟨gb, 12 + k, none⟩) (by simp; exact hne.2.1) (B8 y)
    have hb2 := hbw.setCell (p := ⟨gb, 12 + k, none⟩) (by simp; exact hne.2.2) (B8 y)
    obtain ⟨g1, g2, g3, g4, g5, g6, g7, g8, g9⟩ := ix_c k (24 - 8 * k) hlt rfl
    clear hC hR hbw hl16
    replace hC2 := Lib.hid hC2
    replace hR2 := Lib.hid hR2
    replace hb2 := Lib.hid hb2
    go_wp2
    go_roundw
    case rel => exact ⟨k + 1, by omega, by go_num, hC2.out, hR2.out, hb2.out⟩
    case measure => simp [intOf]; omega
   ·
    have hd : decide ((k : Int) < 4) = false := by simp; omega
    rw [show k = 4 by omega] at hC
    replace hC : Blk wr gb 56 ((ctrE N n).map B8) := hC
    have hCL := ctrTo_length N n 4
    have HCL : Hid ((ctrE N n).length = 16) := hCL
    clear hCL
    obtain ⟨C, hCe⟩ : ∃ C, C = ctrE N n := ⟨_, rfl⟩
    rw [← hCe] at hC HCL HSE
    clear hCe hk hlt
    go_wp2
    apply wp_region_once_tail (m := 6) (Z := []) (D := [[], [0], [0, 1], [0, 1, 2], [], [0, 1, 2, 3, 4], [0, 1, 2, 3, 4, 5]]) (J := [[], [0], [1], [2], [], [3, 4]]) (Je := [5]) (Rs := [Is _, Is _, Is _, Is _, Is _, Is _])
    ·
     kernel_rfl
    ·
     kernel_rfl
    ·
     kernel_rfl
    ·
     kernel_rfl
    ·
     kernel_rfl
    ·
     kernel_rfl
    ·
     kernel_rfl
    ·
     exact fun h => absurd rfl h
    ·
     intro u
     simp only [List.take_succ_cons, List.take_zero, List.map_cons, List.map_nil, fillU, List.setIfInBounds_toArray, List.set_cons_zero, List.set_cons_succ, Nat.zero_add, Nat.reduceAdd]
     exact rfl
    ·
     simp only [List.take_succ_cons, List.take_zero]
     refine ⟨fun u W hb hd K hK => ?_, ?_⟩
     ·
      clear hd
      go_simp
      apply hK
      ·
       simp only [Act.put, List.setIfInBounds_toArray, List.set_cons_zero, List.set_cons_succ]
       exact rfl
      ·
       exact Below.refl _ _
      ·
       exact IsOut
     refine ⟨fun u W hb hd K hK => ?_, ?_⟩
     ·
      simp only [Facts, nthR, Is, and_true] at hd
      simp only [hd] at hK ⊢
      clear hd
      go_simp
      apply hK
      ·
       simp only [Act.put, List.setIfInBounds_toArray, List.set_cons_zero, List.set_cons_succ]
       exact rfl
      ·
       exact Below.refl _ _
      ·
       exact IsOut
     refine ⟨fun u W hb hd K hK => ?_, ?_⟩
     ·
      simp only [Facts, nthR, Is, and_true] at hd
      simp only [hd] at hK ⊢
      clear hd
      go_simp
      apply hK
      ·
       simp only [Act.put, List.setIfInBounds_toArray, List.set_cons_zero, List.set_cons_succ]
       exact rfl
      ·
       exact Below.refl _ _
      ·
       exact IsOut
     refine ⟨fun u W hb hd K hK => ?_, ?_⟩
     ·
      simp only [Facts, nthR, Is, and_true] at hd
      simp only [hd] at hK ⊢
      clear hd
      have hcc := (show W.cell? ⟨gx, 0, none⟩ = some (.pointer (some ⟨gk, 0, none⟩)) from ((HX.out.below hbw).below hb).box.cell 0)
      go_simp
      apply hK
      ·
       simp only [Act.put, List.setIfInBounds_toArray, List.set_cons_zero, List.set_cons_succ]
       exact rfl
      ·
       exact Below.refl _ _
      ·
       exact IsOut
     refine ⟨fun u W hb hd K hK => ?_, ?_⟩
     ·
      clear hd
      rw [if_pos (by rfl)]
      refine wp_load_mid 56 (.tmp 7) rfl (gb) 0 rfl (C.map B8) _ (rangeAt_blk (hC.below hb hC.lt)) Tryd.underlying56 rfl (infoBk.trans (by rw [List.length_map, HCL.out])) ?_
      exact hK _ _ _ rfl (Below.refl _ _) IsOut
     refine ⟨fun u W hb hd K hK => ?_, ?_⟩
     ·
      simp only [Facts, nthR, Is, and_true] at hd
      simp only [hd] at hK ⊢
      clear hd
      go_simp
      refine (HSE.out W ((HX.out.below hbw).below hb)).mono ?_
      rintro e wy ⟨rfl, hby⟩
      exact hK _ _ _ rfl hby IsOut
     exact trivial
    ·
     skip
     exact trivial
    ·
     exact (.is (.is (.is (.is (.is (.is .nil))))))
    ·
     intro u W hb hd
     simp only [List.drop_succ_cons, List.drop_zero]
     simp only [Facts, nthR, Is, and_true] at hd
     simp only [hd]
     clear hd
     replace hR := hR.below hb hR.lt
     replace hbw := hbw.trans (hb.mono hbw.size)
     clear hb hC
     go_wp2_with ((with_reducible refine (?_ : wpList _ _ _ (Oper.mk none (.store 56 (.tmp 6) _) _ _ _ _ :: _) _ _)); go_loud (refine wpList_store_blk rfl 56 (.tmp 6) (.tmp 30) rfl rfl (go) _ rfl rfl 56 _ hR (infoBk.trans (by rw [List.length_map, HXL.out])) (by rw [List.length_map, List.length_map, HXL.out, HZL.out]) (one8 _) ?_); intro w7 hR7 hg7)
     go_wp2
     refine bodyPost_ret (v := .agg _) (results_cell_row rfl _ _ (go) 56 _ (0, 0) _ rfl hR7.raw Tryd.underlying56 rfl (infoBk.trans (by rw [List.size_toArray, List.length_map, HXL.out]))) rfl ⟨rfl, below_new hbw hg7 hle hbw.size⟩

end
end Go.Proofs.YtnjpcbbdhimacaaDoor
