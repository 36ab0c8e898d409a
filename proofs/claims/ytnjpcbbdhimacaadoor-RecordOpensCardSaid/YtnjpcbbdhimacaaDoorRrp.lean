/-
 The reference's Open, all ways together; the statement's iv.
-/
import Derived.Test.YtnjpcbbdhimacaaDoorRro
import Derived.Lib.BufferWrite
namespace Go.Proofs.YtnjpcbbdhimacaaDoor
open Go.RowKit

theorem rhopen_all {w : World} {gm u0 : Nat} {S : List UInt8} (h : RHalf w gm u0 S) (hS : S.length = 32) (n : Nat) (b : List UInt8) (hn : b.length = n) (hm : n < 100000) (hu : u0 < 1000) :
  Calls Tryd.prog 21 #[.pointer (some ⟨gm, 0, none⟩), .string ⟨b.toArray⟩] w (ROPost (openOut (keyL 4 (keyH S)) (ivH S) u0 b) w gm u0 S) := by
 by_cases hz : (sizeE b).2 = 0
 ·
  obtain ⟨h5, hs1, hs2, _⟩ := sizeE_fine hz
  by_cases hlt : (sizeE b).1 < b.length
  ·
   exact rhopen_rest h n b hn (Nat.lt_trans hm (by decide)) _ _ hz hlt
  ·
   have hp : partsE b = ((b.getD 0 0).toNat, b.drop 5, 0) := by unfold partsE; rw [if_neg (by rw [hz]; decide), if_neg hlt]
   have hs : (sizeE b).1 = n := by omega
   have hcz : cutE b = (b.take n, [], 0) := by unfold cutE; rw [if_neg (by rw [hz]; decide), hs, List.drop_of_length_le (by omega)]
   have h5n : 5 ≤ n := by omega
   by_cases hk : (b.getD 0 0).toNat = 23
   ·
    by_cases hf : n - 5 < 16
    ·
     exact rhopen_few h hS n b hn (Nat.lt_trans hm (by decide)) hu _ _ hp hcz h5n hk hf
    ·
     by_cases ht : tagE (keyL 4 (keyH S)) 11 (nonceH (ivH S) u0) ((b.drop 5).take (n - 5 - 16)) (b.take 5) = (b.drop 5).drop (n - 5 - 16)
     ·
      exact rhopen_ok h hS n b hn hm hu hp hcz h5n hk hf ht
     ·
      exact rhopen_mac h hS n b hn hm hu hp hcz h5n hk hf ht
   ·
    exact rhopen_kind h n b hn (Nat.lt_trans hm (by decide)) _ _ hp hcz h5n hk
 ·
  exact rhopen_size h n b hn (Nat.lt_trans hm (by decide)) _ _ hz
theorem wpList_copy_str {ops : Array Oper} {rest : List Oper} {o : Oper} {a : Act} {w : World} {Q : Exit → Act → World → Prop} (hgd : o.guard = none) (d s : Operand) (dT sT : TypeId)
  (ho : o.op = .call { callee := .builtin .copy, args := #[d, s], argTypes := #[dT, sT] }) (elem : TypeId) (hu : Tryd.prog.underlying dT = some (.slice elem)) (hsz : (Tryd.prog.info? elem).map (·.size) = some 1)
  (g dLen dCap : Nat) (str : ByteArray) (hd : a.eval d = .slice (some ⟨g, 0, none⟩) dLen dCap) (hs : a.eval s = .string str) (cur : List Value) (t : TypeId) (hg : Blk w g t cur) (hle : str.size ≤ dLen) (hfit : str.size ≤ cur.length)
  (h : ∀ w', Blk w' g t (Lib.byteCells str.data.toList ++ cur.drop str.size) → w.grownBy w' (some g) → wpList Tryd.prog ops Q rest (a.put o.dst (goInt str.size)) w') : wpList Tryd.prog ops Q (o :: rest) a w := by
 refine wpList_plain hgd fun _ hK' => ?_
 have hr := Lib.run_copy_row_string (P := Tryd.prog) w dT sT o.type elem g 0 dLen dCap str cur.toArray t hu hsz hg hle (by simpa using hfit)
 unfold Oper.wp execOp
 simp only [ho, resolve, invoke, builtin, Sem.run_bind, Sem.run_pure, Result.andThen_ok, List.map_toArray, List.map_cons, List.map_nil, hd, hs, hr]
 refine hK' _ _ (h _ ?_ (grown_setRow _ _ _))
 have := hg.row (Lib.byteCells str.data.toList ++ cur.drop str.size)
 simpa using this
theorem cells_b8 (L : List UInt8) : Lib.byteCells L = L.map B8 := rfl
def zero12v : List UInt8 := [0, 0, 0, 0, 0, 0, 0, 0, 0, 0, 0, 0]
set_option maxRecDepth 100000 in
set_option maxHeartbeats 1000000 in
theorem iv_e {w : World} {gm u0 : Nat} {S : List UInt8} (h : RHalf w gm u0 S) (hS : S.length = 32) :
  Calls Tryd.prog 20 #[.pointer (some ⟨gm, 0, none⟩)] w fun e w' => ∃ Q : List UInt8, Q.length = 12 ∧ e = .returned (BV Q) ∧ Below w.heap.size w w' := by
 have hz : ∀ W : World, (zeroValue 48).run Tryd.prog W = .ok (BV zero12v) W := fun W => by kernel_rfl
 obtain ⟨Z, hZ⟩ : ∃ Z, Z = zero12v := ⟨_, rfl⟩
 have HZL := Lib.hid (show Z.length = 12 by rw [hZ]; rfl)
 rw [← hZ] at hz
 have hla := fun (W : World) => refLabel_any 12 S [105, 118] [] W (by omega) (by decide) (by decide) (by decide)
 have hvl := expand_length S (labelInfo [105, 118] [] 12) 12
 generalize expand S (labelInfo [105, 118] [] 12) 12 = V12 at *
 obtain ⟨vx, hvx⟩ : ∃ y, y = V12.getD 11 0 := ⟨_, rfl⟩
 obtain ⟨yb, hyb⟩ : ∃ y, y = UInt8.ofNat u0 := ⟨_, rfl⟩
 have hw := wrap_ofNat u0
 rw [← hyb] at hw
 have hxx := b_xor vx yb
 obtain ⟨z, hzx⟩ : ∃ z, z = vx ^^^ yb := ⟨_, rfl⟩
 rw [← hzx] at hxx
 have HVX := Lib.hid hvx.symm
 have HYB := Lib.hid hw
 have HXX := Lib.hid hxx
 have HVL := Lib.hid hvl
 have HLA := Lib.hid hla
 have HC0 := Lib.hid (fun (W : World) (hb : Below w.heap.size w W) => (h.below hb).c0)
 have HC1 := Lib.hid (fun (W : World) (hb : Below w.heap.size w W) => (h.below hb).c1)
 clear hZ hla hvl hvx hyb hw hxx hzx hS h
 go_enter Tryd.func20, Tryd.ntmps20
 go_upto_region 1 with (fail)
 have hR := Blk.new_of w 48 (Z.map B8).toArray (Z.map B8) rfl
 have hb0 : Below w.heap.size w (w.alloc (.cells (Z.map B8).toArray 48)) := (Below.refl _ _).alloc (Nat.le_refl _) _
 have HGR := Lib.hid (show w.heap.size ≤ w.heap.size from Nat.le_refl _)
 generalize w.alloc (.cells (Z.map B8).toArray 48) = w1 at *
 have hcc := HC0.out _ hb0
 go_upto_region 2 with (go_at_call 17; refine (HLA.out _).mono ?_; rintro e w2 ⟨rfl, hb2⟩)
 clear hcc
 replace hR := hR.below hb2 hR.lt
 replace hb0 := hb0.trans (hb2.mono hb0.size)
 clear hb2
 go_upto_region 3 with (fail)
 clear hz
 have hN := Blk.new_of w2 48 (Z.map B8).toArray (Z.map B8) rfl
 have hb3 : Below w2.heap.size w2 (w2.alloc (.cells (Z.map B8).toArray 48)) := (Below.refl _ _).alloc (Nat.le_refl _) _
 have HNE := Lib.hid (show w.heap.size ≠ w2.heap.size from Nat.ne_of_lt hR.lt)
 have HGE := Lib.hid (show w.heap.size ≤ w2.heap.size from hb0.size)
 replace hR := hR.below hb3 hR.lt
 replace hb0 := hb0.trans (hb3.mono hb0.size)
 clear hb3
 generalize w2.alloc (.cells (Z.map B8).toArray 48) = w4 at *
 generalize w2.heap.size = gn at *
 go_upto_region 4 with ((with_reducible refine (?_ : wpList _ _ _ (Oper.mk (some 16) _ _ _ _ _ :: _) _ _)); go_loud (refine wpList_copy_str rfl (.tmp 14) (.tmp 15) 24 9 rfl 5 Tryd.underlying24 info8 gn 12 12 ⟨V12.toArray⟩ rfl rfl _ 48 hN (by show V12.length ≤ 12; rw [HVL.out]; exact Nat.le_refl _) (by rw [List.length_map, HZL.out]; show V12.length ≤ 12; rw [HVL.out]; exact Nat.le_refl _) ?_); intro w5 hQ hg5)
 rw [cells_b8] at hQ
 replace hQ : Blk w5 gn 48 (V12.map B8 ++ (Z.map B8).drop V12.length) := hQ
 rw [List.drop_of_length_le (by rw [List.length_map, HZL.out, HVL.out]; exact Nat.le_refl _), List.append_nil] at hQ
 replace hR := hR.grown hg5 (by simpa using HNE.out)
 have hb5 := below_new hb0 hg5 HGE.out hb0.size
 clear hN hb0 hg5
 apply wp_region_once_tail (m := 9) (Z := []) (D := [[], [0], [], [2], [2, 3], [2, 3, 4], [2, 3, 4, 5], [0, 1, 2, 3, 4, 5, 6], [0, 1, 2, 3, 4, 5, 6, 7], [0, 1, 2, 3, 4, 5, 6, 7, 8]]) (J := [[], [0], [], [2], [3], [4], [5], [1, 6], []]) (Je := [7, 8]) (Rs := [Is _, Is _, Is _, Is _, Is _, Is _, Is _, Is _, Is _])
 ·
  kernel_rfl
 ·
  kernel_rfl
 ·
  kernel_rfl
 ·
  kernel_rfl
 ·
  kernel_rfl
 ·
  kernel_rfl
 ·
  kernel_rfl
 ·
  exact fun h => absurd rfl h
 ·
  intro u
  simp only [List.take_succ_cons, List.take_zero, List.map_cons, List.map_nil, fillU, List.setIfInBounds_toArray, List.set_cons_zero, List.set_cons_succ, Nat.zero_add, Nat.reduceAdd]
  exact rfl
 ·
  simp only [List.take_succ_cons, List.take_zero]
  refine ⟨fun u V hb hd K hK => ?_, ?_⟩
  ·
   clear hd
   go_simp
   apply hK
   ·
    simp only [Act.put, List.setIfInBounds_toArray, List.set_cons_zero, List.set_cons_succ]
    exact rfl
   ·
    exact Below.refl _ _
   ·
    exact IsOut
  refine ⟨fun u V hb hd K hK => ?_, ?_⟩
  ·
   simp only [Facts, nthR, Is, and_true] at hd
   simp only [hd] at hK ⊢
   clear hd
   have hcc := (hQ.below hb hQ.lt).at8 11 (by rw [HVL.out]; decide)
   rw [HVX.out] at hcc
   go_simp
   apply hK
   ·
    simp only [Act.put, List.setIfInBounds_toArray, List.set_cons_zero, List.set_cons_succ]
    exact rfl
   ·
    exact Below.refl _ _
   ·
    exact IsOut
  refine ⟨fun u V hb hd K hK => ?_, ?_⟩
  ·
   clear hd
   go_simp
   apply hK
   ·
    simp only [Act.put, List.setIfInBounds_toArray, List.set_cons_zero, List.set_cons_succ]
    exact rfl
   ·
    exact Below.refl _ _
   ·
    exact IsOut
  refine ⟨fun u V hb hd K hK => ?_, ?_⟩
  ·
   simp only [Facts, nthR, Is, and_true] at hd
   simp only [hd] at hK ⊢
   clear hd
   go_simp
   apply hK
   ·
    simp only [Act.put, List.setIfInBounds_toArray, List.set_cons_zero, List.set_cons_succ]
    exact rfl
   ·
    exact Below.refl _ _
   ·
    exact IsOut
  refine ⟨fun u V hb hd K hK => ?_, ?_⟩
  ·
   simp only [Facts, nthR, Is, and_true] at hd
   simp only [hd] at hK ⊢
   clear hd
   go_simp
   apply hK
   ·
    simp only [Act.put, List.setIfInBounds_toArray, List.set_cons_zero, List.set_cons_succ]
    exact rfl
   ·
    exact Below.refl _ _
   ·
    exact IsOut
  refine ⟨fun u V hb hd K hK => ?_, ?_⟩
  ·
   simp only [Facts, nthR, Is, and_true] at hd
   simp only [hd] at hK ⊢
   clear hd
   have hcc := HC1.out V (hb5.trans (hb.mono hb5.size))
   go_simp
   apply hK
   ·
    simp only [Act.put, List.setIfInBounds_toArray, List.set_cons_zero, List.set_cons_succ]
    exact rfl
   ·
    exact Below.refl _ _
   ·
    exact IsOut
  refine ⟨fun u V hb hd K hK => ?_, ?_⟩
  ·
   simp only [Facts, nthR, Is, and_true] at hd
   simp only [hd] at hK ⊢
   clear hd
   have c1 := HYB.out
   go_simp
   apply hK
   ·
    simp only [Act.put, List.setIfInBounds_toArray, List.set_cons_zero, List.set_cons_succ]
    exact rfl
   ·
    exact Below.refl _ _
   ·
    exact IsOut
  refine ⟨fun u V hb hd K hK => ?_, ?_⟩
  ·
   simp only [Facts, nthR, Is, and_true] at hd
   simp only [hd] at hK ⊢
   clear hd
   have hxx := HXX.out
   go_simp
   apply hK
   ·
    simp only [Act.put, List.setIfInBounds_toArray, List.set_cons_zero, List.set_cons_succ]
    exact rfl
   ·
    exact Below.refl _ _
   ·
    exact IsOut
  refine ⟨fun u V hb hd K hK => ?_, ?_⟩
  ·
   clear hd
   go_simp
   apply hK
   ·
    simp only [Act.put, List.setIfInBounds_toArray, List.set_cons_zero, List.set_cons_succ]
    exact rfl
   ·
    exact Below.refl _ _
   ·
    exact IsOut
  exact trivial
 ·
  skip
  exact trivial
 ·
  exact (.is (.is (.is (.is (.is (.is (.is (.is (.is .nil)))))))))
 ·
  intro u V hb hd
  simp only [List.drop_succ_cons, List.drop_zero]
  simp only [Facts, nthR, Is, and_true] at hd
  simp only [hd]
  clear hd
  replace hQ := hQ.below hb hQ.lt
  replace hR := hR.below hb hR.lt
  replace hb5 := hb5.trans (hb.mono hb5.size)
  clear hb
  have hcc := hQ.at8 11 (by rw [HVL.out]; decide)
  have hff := hQ.frozen 11
  have hset := hQ.set_ 11 (.int .u8 (z.toNat : Int))
  rw [show Value.int .u8 (z.toNat : Int) = B8 z from rfl, map_set8] at hset
  have hfar := hR.far (p := ⟨gn, 11, none⟩) (by simpa using HNE.out) (.int .u8 (z.toNat : Int))
  have hbs := hb5.setCell (p := ⟨gn, 11, none⟩) (by simpa using HGE.out) (.int .u8 (z.toNat : Int))
  go_upto_region 5 with (fail)
  replace hset : Blk (V.setCell ⟨gn, 11, none⟩ (.int .u8 (z.toNat : Int))) gn 48 ((V12.set 11 z).map B8) := hset
  clear hcc hff hQ hR hb5
  generalize V.setCell ⟨gn, 11, none⟩ (.int .u8 (z.toNat : Int)) = w7 at *
  go_wp2_with (first
   | ((with_reducible refine (?_ : wpList _ _ _ (Oper.mk (some 26) _ _ _ _ _ :: _) _ _)); go_loud (refine wpList_load_blk rfl 48 (.tmp 5) rfl gn rfl 48 _ _ hset Tryd.underlying48 rfl (info12.trans (by rw [List.length_map, List.length_set, HVL.out])) ?_))
   | ((with_reducible refine (?_ : wpList _ _ _ (Oper.mk none _ _ _ _ _ :: _) _ _)); go_loud (refine wpList_store_blk rfl 48 (.tmp 2) (.tmp 26) rfl rfl w.heap.size _ rfl rfl 48 _ hfar (info12.trans (by rw [List.length_map, List.length_set, HVL.out])) (by rw [List.length_map, List.length_map, List.length_set, HZL.out, HVL.out]) (one8 _) ?_); intro w8 hQ8 hg8))
  refine bodyPost_ret (v := .agg _) (results_cell_row rfl _ _ w.heap.size 48 _ (0, 0) _ rfl hQ8.raw Tryd.underlying48 rfl (info12.trans (by rw [List.size_toArray, List.length_map, List.length_set, HVL.out]))) rfl ⟨V12.set 11 z, by rw [List.length_set, HVL.out], rfl, below_new hbs hg8 (Nat.le_refl _) hbs.size⟩
end Go.Proofs.YtnjpcbbdhimacaaDoor
