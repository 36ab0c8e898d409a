/-
  CurveBytes's walk, and what it wants of places, copies, Write and Read.
-/
import Derived.Test.YtnkikhnllnbhfaaDoorCs3
import Derived.Test.YtnkikhnllnbhfaaDoorCr3
import Derived.Lib.MinMax
namespace Go.Proofs.YtnkikhnllnbhfaaDoor
open Go.RowKit
open CurveMath

section
variable {ops : Array Oper} {rest : List Oper} {o : Oper} {a : Act} {w : World} {K : Act → World → Prop} {Q : Exit → Act → World → Prop}
theorem run_placeB {g ob n c j : Nat} (hj : j < n) (w : World) : (Instr.indexAt 47 (.slice (some ⟨g, ob, none⟩) n c) (.int .i64 (j : Int))).run Tryd.prog w = .ok (.pointer (some ⟨g, ob + j, none⟩)) w := by
  rw [run_indexAt_slice w _ _ _ _ _ _ under8, elem8, size8]
  have h1 : (0 : Int) ≤ (j : Int) ∧ (j : Int) < (n : Int) := by omega
  simp only [Result.andThen_ok]
  simp [h1, add_at]
theorem wp_placeB {x i : Operand} (ho : o.op = .indexAddr 47 x i) {g ob n c j : Nat} (hx : a.eval x = .slice (some ⟨g, ob, none⟩) n c) (hi : a.eval i = .int .i64 (j : Int)) (hj : j < n) (hk : K (a.put o.dst (.pointer (some ⟨g, ob + j, none⟩))) w) : o.wp Tryd.prog a w K Q := by
  unfold Oper.wp execOp
  simp only [ho, hx, hi, Sem.run_bind, run_placeB hj, Result.andThen_ok]
  exact hk
theorem wp_placeB0 {x i : Operand} (ho : o.op = .indexAddr 47 x i) {g n c j : Nat} (hx : a.eval x = .slice (some ⟨g, 0, none⟩) n c) (hi : a.eval i = .int .i64 (j : Int)) (hj : j < n) (hk : K (a.put o.dst (.pointer (some ⟨g, j, none⟩))) w) : o.wp Tryd.prog a w K Q :=
  wp_placeB ho hx hi hj (by rw [Nat.zero_add]; exact hk)
theorem wpList_copy32 (hgd : o.guard = none) (d s : Operand) (ho : o.op = .call { callee := .builtin .copy, args := #[d, s], argTypes := #[47, 47] })
    {g gb ob sc : Nat} {X Z : List UInt8} {t : TypeId} (hd : a.eval d = .slice (some ⟨g, 0, none⟩) 32 32) (hs : a.eval s = .slice (some ⟨gb, ob, none⟩) 32 sc) (hg : Blk w g t (Z.map B8)) (hZ : Z.length = 32) (hX : X.length = 32) (hr : w.rangeAt gb ob (X.map B8))
    (h : ∀ w', Blk w' g t (X.map B8) → w.grownBy w' (some g) → wpList Tryd.prog ops Q rest (a.put o.dst (.int .i64 32)) w') : wpList Tryd.prog ops Q (o :: rest) a w := by
  refine wpList_copy_blk hgd d s _ _ ho 5 Tryd.underlying47 (by kernel_rfl) (some ⟨g, 0, none⟩) (some ⟨gb, ob, none⟩) 32 32 32 sc hd hs g 0 (Z.map B8) t hg (X.map B8) (by rw [List.length_map, hX]; rfl) (fun _ => ⟨rfl, gb, ob, rfl, hr⟩) (by rw [List.length_map, List.length_map, hX, hZ]; decide) (oneB8 _) fun w' hb hg' => ?_
  have e : splice (Z.map B8) 0 (X.map B8) = X.map B8 := by
    rw [splice_eq, List.take_zero, List.nil_append, Nat.zero_add, List.length_map, hX, List.drop_eq_nil_of_le (by rw [List.length_map, hZ]; decide), List.append_nil]
  rw [e] at hb
  rw [show goInt (X.map B8).length = .int .i64 32 by rw [List.length_map, hX]; rfl]
  exact h w' hb hg'
theorem wpList_store8 (hgd : o.guard = none) {x y : Operand} (ho : o.op = .store 5 x y) {g j n c base : Nat} {bs : List UInt8} {b : UInt8} (hx : a.eval x = .pointer (some ⟨g, j, none⟩)) (hy : a.eval y = .int .u8 (b.toNat : Int)) (hB : Buf w base (some ⟨g, 0, none⟩) n c bs) (hj : j < n) (hd : o.dst = none)
    (h : ∀ w', Buf w' base (some ⟨g, 0, none⟩) n c (bs.set j b) → w.grownBy w' (some g) → wpList Tryd.prog ops Q rest a w') : wpList Tryd.prog ops Q (o :: rest) a w := by
  have hc : w.cell? ⟨g, j, none⟩ = some (B8 (bs.getD j 0)) := by
    obtain ⟨g', e, _, _, hb⟩ := hB.at (by omega)
    cases e
    have := hb j (by rw [hB.len]; exact hj)
    rwa [Nat.zero_add] at this
  have hf := hB.notFrozen (j := j) (Nat.lt_of_lt_of_le hj hB.le.1)
  refine wpList_plain hgd fun K hK => ?_
  unfold Oper.wp execOp
  simp only [ho, hx, hy]
  simp [hc, hf, hd, go_sem]
  exact hK _ _ (h _ (hB.set hj b) (grown_setCell (grown_refl w _) (.inl rfl) _))
end
theorem u8_x1 (a : UInt8) : bits .xor .u8 (a.toNat : Int) (1 : Int) = ((a ^^^ 1).toNat : Int) := by
  have h : ∀ x : Fin 256, bits .xor .u8 ((UInt8.ofNat x.1).toNat : Int) (1 : Int) = ((UInt8.ofNat x.1 ^^^ 1).toNat : Int) := by decide +kernel
  have := h ⟨a.toNat, a.toNat_lt⟩
  simpa using this
theorem wr_none : wrB (xB none) (yB none) = [] := by
  unfold wrB
  rw [show holdsB (xB none) (yB none) = false from holds_zero, if_neg (by decide)]
theorem wr_some {P : Pt} {x y : K} (hP : onPt P) (e : P = some (x, y)) : wrB (xB P) (yB P) = 4 :: (xB P ++ yB P) := by
  have hh : holdsB (xB P) (yB P) = true := by
    subst e
    show holdsB (kB x) (kB y) = true
    rw [holds_kB, decide_eq_true (p := y * y = x * x * x - 3 * x + bK) hP]
  unfold wrB
  rw [if_pos hh]
theorem WriteP0 {P : Pt} {w : World} (hT : TabsC w) (h : Hid (P = none)) : Calls Tryd.prog 28 #[.agg (ptV P).toArray] w fun e w' => ∃ A c, e = .returned (.slice A 0 c) ∧ Below w.heap.size w w' := by
  refine (WriteP hT (Lib.hid rfl)).mono ?_
  rintro e w' ⟨A, c, he, _, hb⟩
  rw [h.out, wr_none] at he
  exact ⟨A, c, he, hb⟩
theorem WriteP1 {P : Pt} {x y : K} {bs : List UInt8} {w : World} (hT : TabsC w) (hP : Hid (onPt P)) (h : Hid (P = some (x, y))) (hb : Hid (bs = wrB (xB P) (yB P))) : Calls Tryd.prog 28 #[.agg (ptV P).toArray] w fun e w' => ∃ g c, e = .returned (.slice (some ⟨g, 0, none⟩) 65 c) ∧ Buf w' w.heap.size (some ⟨g, 0, none⟩) 65 c bs ∧ Below w.heap.size w w' := by
  refine (WriteP hT (Lib.hid hb.out.symm)).mono ?_
  rintro e w' ⟨A, c, he, hf, hw⟩
  have hl : bs.length = 65 := by rw [hb.out, wr_some hP.out h.out, List.length_cons, List.length_append, xB_length, yB_length]
  rw [hl] at he hf
  obtain ⟨g, rfl, _, _, _⟩ := hf.at (by decide)
  exact ⟨g, c, he, hf, hw⟩
theorem ReadP {P : Pt} {A : Option Addr} {n c : Nat} {xs : List UInt8} {w : World} (hX : Hid (rdX xs = xB P)) (hY : Hid (rdY xs = yB P)) (hE : Hid (rdE xs = 0)) (hn : xs.length = n) (hI : In w w.heap.size A c xs) (hT : TabsC w) : Calls Tryd.prog 29 #[.slice A n c] w fun e w' => e = .returned (.tuple #[.agg (ptV P).toArray, .int .i64 0]) ∧ Below w.heap.size w w' := by
  rw [ptV_eq]
  exact ReadH hX hY hE hn hI hT
theorem rd_not {xs : List UInt8} (h : okR xs = false) : rdX xs = zero32 ∧ rdY xs = zero32 ∧ rdE xs = 15 := by
  unfold rdX rdY rdE
  rw [h]
  exact ⟨rfl, rfl, rfl⟩
theorem rd_yes {xs : List UInt8} (h : okR xs = true) : rdE xs = 0 := by
  unfold rdE
  rw [h, if_pos rfl]
theorem buf_row {w : World} {base g n c : Nat} {bs : List UInt8} (h : Buf w base (some ⟨g, 0, none⟩) n c bs) (h0 : 0 < n) : RowAt w g 0 bs := by
  obtain ⟨g', e, _, hl, hb⟩ := h.at h0
  cases e
  exact ⟨hl, hb⟩
theorem rd_code {xs : List UInt8} {b : Bool} (h : Hid (okR xs = b)) : (rdE xs == 0) = b ∧ (rdE xs != 0) = (!b) ∧ (rdE xs != 15) = b ∧ (rdE xs == 15) = (!b) := by
  unfold rdE
  rw [h.out]
  cases b <;> exact ⟨rfl, rfl, rfl, rfl⟩
theorem ok_parts {xs X Y : List UInt8} (hl : xs.length = 65) (hX : X = (xs.drop 1).take 32) (hY : Y = (xs.drop 33).take 32) : okR xs = ((xs.getD 0 0 == 4) && onN (ofTo X 32) (ofTo Y 32)) := by
  unfold okR
  rw [decide_eq_true hl, Bool.true_and, ← hX, ← hY, holds_onN]
theorem part32 {xs X : List UInt8} {k : Nat} (h : X = (xs.drop k).take 32) (hk : k + 32 ≤ xs.length) : X.length = 32 := by
  rw [h, List.length_take, List.length_drop]
  omega
/-- What was read is written again. -/
theorem wr_rd {xs : List UInt8} (h : okR xs = true) : wrB (rdX xs) (rdY xs) = xs := by
  unfold rdX rdY
  rw [h, if_pos rfl, if_pos rfl]
  unfold okR at h
  simp only [Bool.and_eq_true, decide_eq_true_eq, beq_iff_eq] at h
  obtain ⟨⟨hl, h4⟩, hh⟩ := h
  unfold wrB
  rw [hh, if_pos rfl]
  obtain ⟨y, ys, rfl⟩ : ∃ y ys, xs = y :: ys := by
    cases xs with
    | nil => exact absurd hl (by decide)
    | cons y ys => exact ⟨y, ys, rfl⟩
  have hy : ys.length = 64 := by
    rw [List.length_cons] at hl
    omega
  have e4 : y = 4 := by simpa using h4
  subst e4
  rw [List.drop_one, List.tail_cons, List.drop_succ_cons, List.take_of_length_le (l := ys.drop 32) (by rw [List.length_drop]; omega), List.take_append_drop]
theorem idx_at {at' : Int} : ∃ z j : Nat, IntKind.u64.wrap at' = (z : Int) ∧ (z : Int).tmod 65 = (j : Int) ∧ (z : Int) % 65 = (j : Int) ∧ IntKind.i64.wrap (j : Int) = (j : Int) ∧ j < 65 := by
  refine ⟨(IntKind.u64.wrap at').toNat, (IntKind.u64.wrap at').toNat % 65, ?_, ?_, ?_, ?_, ?_⟩
  · rw [IntKind.wrap_u64]; omega
  · rw [Int.tmod_eq_emod_of_nonneg (by omega)]; omega
  · omega
  · rw [IntKind.wrap_i64]; omega
  · omega
theorem ix_min {n : Nat} : ∃ m : Nat, min (n : Int) 80 = (m : Int) ∧ m = min n 80 := ⟨min n 80, by omega, rfl⟩
end Go.Proofs.YtnkikhnllnbhfaaDoor
namespace Go.Proofs.YtnkikhnllnbhfaaDoor
open Go.RowKit
open CurveMath

set_option maxRecDepth 100000 in
set_option maxHeartbeats 8000000 in
theorem curveBytes_any (A : List UInt8) (A3 : Option Addr) (no c3 : Nat) (xs : List UInt8) (at' : Int) (w : World) (hT : TabsC w) (hA : Hid (A.length = 32)) (hN : xs.length = no) (hI : In w w.heap.size A3 c3 xs) : Calls Tryd.prog 7 #[.agg (A.map B8).toArray, .slice A3 no c3, .int .i64 at'] w fun e w' => e = .returned (.bool true) ∧ Below w.heap.size w w' := by
 go_enter Tryd.func7, Tryd.ntmps7
 have hb0 : Below w.heap.size w w := Below.refl _ _
 obtain ⟨va, hva⟩ : ∃ s, Hid ((ofTo A 32).val = s) := ⟨_, Lib.hid rfl⟩
 go_upto_region 0 with (fail)
 refine wp_region_lit ?_
 refine wpList_box_blk rfl 22 (.tmp 0) rfl (A.map B8) rfl ?_
 intro g3 w1 hg bg3 hb
 have og3 := Lib.hid (show w.heap.size ≤ g3 from Nat.le_trans hb0.size (Nat.le_of_eq hg.symm))
 clear hg
 replace hb0 := hb0.trans (hb.mono hb0.size)
 clear hb
 have lg3 := bg3.lt
 try simp only [Act.put, List.setIfInBounds_toArray, List.set_cons_zero, List.set_cons_succ]
 go_upto_region 1 with (fail)
 obtain ⟨p21, hp21⟩ : ∃ s : Pt, Hid (s = mulG (va)) := ⟨_, Lib.hid rfl⟩
 apply wp_plain_once (m := 2) (J := [[], [0]]) (Je := [1]) (Rs := [Is _, Is _])
 ·
  kernel_rfl
 ·
  kernel_rfl
 ·
  intro u
  simp only [List.take_succ_cons, List.take_zero, List.map_cons, List.map_nil, fillU, List.setIfInBounds_toArray, List.set_cons_zero, List.set_cons_succ, Nat.reduceAdd]
  exact rfl
 ·
  simp only [List.take_succ_cons, List.take_zero]
  refine ⟨fun u W hb hd K hK => ?_, ?_⟩
  ·
   clear hd
   rw [if_pos (by rfl)]
   refine wp_load_mid 22 (.tmp 3) rfl g3 0 rfl (A.map B8) _ (rangeAt_of_blk (bg3.below hb lg3)) Tryd.underlying22 rfl (info40.trans (by rw [List.length_map, (hA).out])) ?_
   exact hK _ _ _ rfl (Below.refl _ _) IsOut
  refine ⟨fun u W hb hd K hK => ?_, ?_⟩
  ·
   simp only [Facts, nthR, Is, and_true] at hd
   simp only [hd] at hK ⊢
   clear hd
   go_simp
   refine (OfE (hT.up hb0 hb) (hA) (hva) hp21).mono ?_
   rintro e wy ⟨rfl, hby⟩
   exact hK _ _ _ rfl hby IsOut
  exact trivial
 ·
  exact (.is (.is .nil))
 intro u w2 hb hd
 simp only [List.drop_succ_cons, List.drop_zero]
 simp only [Facts, nthR, Is, and_true] at hd
 have h1 := hd
 clear hd
 simp only [h1]
 clear h1
 replace bg3 := bg3.below hb lg3
 replace hb0 := hb0.trans (hb.mono hb0.size)
 replace lg3 := bg3.lt
 clear hb
 refine wpList_new_store rfl 24 rfl rfl (ptV none) zeroPt rfl rfl rfl (ptV p21) (fun _ => rfl) (fun _ => rfl) (infoPt.trans (by rw [ptV_length])) (by first | with_reducible rfl | rw [ptV_length, ptV_length] | rw [ptV_length]) (onePv _) ?_
 intro g7 w3 hg bg7 hb
 have og7 := Lib.hid (show w.heap.size ≤ g7 ∧ g3 < g7 from ⟨Nat.le_trans hb0.size (Nat.le_of_eq hg.symm), Nat.lt_of_lt_of_le lg3 (Nat.le_of_eq hg.symm)⟩)
 clear hg
 replace bg3 := bg3.below hb lg3
 replace hb0 := hb0.trans (hb.mono hb0.size)
 replace lg3 := bg3.lt
 clear hb
 have lg7 := bg7.lt
 try simp only [Act.put, List.setIfInBounds_toArray, List.set_cons_zero, List.set_cons_succ]
 go_upto_region 2 with (fail)
 by_cases hm : mulG va = none
 case' pos =>
  have hz : Hid (p21 = none) := Lib.hid (hp21.out.trans hm)
  clear hm
  apply wp_plain_once (m := 2) (J := [[], [0]]) (Je := [1]) (Rs := [Is _, fun v _ => ∃ A c, v = .slice A 0 c])
  ·
   kernel_rfl
  ·
   kernel_rfl
  ·
   intro u
   simp only [List.take_succ_cons, List.take_zero, List.map_cons, List.map_nil, fillU, List.setIfInBounds_toArray, List.set_cons_zero, List.set_cons_succ, Nat.reduceAdd]
   exact rfl
  ·
   simp only [List.take_succ_cons, List.take_zero]
   refine ⟨fun u W hb hd K hK => ?_, ?_⟩
   ·
    clear hd
    rw [if_pos (by rfl)]
    refine wp_load_mid 24 (.tmp 7) rfl g7 0 rfl (ptV p21) _ (rangeAt_of_blk (bg7.below hb lg7)) Tryd.underlying24 rfl (infoPt.trans (by rw [ptV_length])) ?_
    exact hK _ _ _ rfl (Below.refl _ _) IsOut
   refine ⟨fun u W hb hd K hK => ?_, ?_⟩
   ·
    simp only [Facts, nthR, Is, and_true] at hd
    simp only [hd] at hK ⊢
    clear hd
    go_simp
    refine (WriteP0 (hT.up hb0 hb) hz).mono ?_
    rintro e wy ⟨A, c, rfl, hby⟩
    exact hK _ _ _ rfl hby ⟨A, c, rfl⟩
   exact trivial
  ·
   exact (.is (.cons (fun v _ _ h _ => h) .nil))
  intro u w4 hb hd
  simp only [List.drop_succ_cons, List.drop_zero]
  simp only [Facts, nthR, and_true] at hd
  obtain ⟨Ab, cb, h1⟩ := hd
  simp only [h1]
  clear h1
  replace bg3 := bg3.below hb lg3
  replace bg7 := bg7.below hb lg7
  replace hb0 := hb0.trans (hb.mono hb0.size)
  replace lg3 := bg3.lt
  replace lg7 := bg7.lt
  clear hb
  go_upto_region 3 with (fail)
  apply wp_plain_once (m := 11) (J := [[], [0], [1], [2], [2, 3], [2, 4], [2], [2], [2, 6, 7], [2, 5, 8], [2, 9]]) (Je := [10]) (Rs := [Is _, Is _, Is _, Is _, Is _, Is _, Is _, Is _, Is _, Is _, Is _])
  ·
   kernel_rfl
  ·
   kernel_rfl
  ·
   intro u
   simp only [List.take_succ_cons, List.take_zero, List.map_cons, List.map_nil, fillU, List.setIfInBounds_toArray, List.set_cons_zero, List.set_cons_succ, Nat.reduceAdd]
   exact rfl
  ·
   simp only [List.take_succ_cons, List.take_zero]
   refine ⟨fun u W hb hd K hK => ?_, ?_⟩
   ·
    clear hd
    go_simp
    refine (CurvesE (hT.up hb0 hb)).mono ?_
    rintro e wy ⟨rfl, hby⟩
    exact hK _ _ _ rfl hby IsOut
   refine ⟨fun u W hb hd K hK => ?_, ?_⟩
   ·
    simp only [Facts, nthR, Is, and_true] at hd
    simp only [hd] at hK ⊢
    clear hd
    go_simp
    apply hK
    ·
     simp only [Act.put, List.setIfInBounds_toArray, List.set_cons_zero, List.set_cons_succ]
     exact rfl
    ·
     exact Below.refl _ _
    ·
     exact IsOut
   refine ⟨fun u W hb hd K hK => ?_, ?_⟩
   ·
    simp only [Facts, nthR, Is, and_true] at hd
    simp only [hd] at hK ⊢
    clear hd
    go_simp
    apply hK
    ·
     simp only [Act.put, List.setIfInBounds_toArray, List.set_cons_zero, List.set_cons_succ]
     exact rfl
    ·
     exact Below.refl _ _
    ·
     exact IsOut
   refine ⟨fun u W hb hd K hK => ?_, ?_⟩
   ·
    simp only [Facts, nthR, Is, and_true] at hd
    simp only [hd] at hK ⊢
    clear hd
    go_simp
    apply hK
    ·
     simp only [Act.put, List.setIfInBounds_toArray, List.set_cons_zero, List.set_cons_succ]
     exact rfl
    ·
     exact Below.refl _ _
    ·
     exact IsOut
   refine ⟨fun u W hb hd K hK => ?_, ?_⟩
   ·
    simp only [Facts, nthR, Is, and_true] at hd
    simp only [hd] at hK ⊢
    clear hd
    go_simp
    apply hK
    ·
     simp only [Act.put, List.setIfInBounds_toArray, List.set_cons_zero, List.set_cons_succ]
     exact rfl
    ·
     exact Below.refl _ _
    ·
     exact IsOut
   refine ⟨fun u W hb hd K hK => ?_, ?_⟩
   ·
    simp only [Facts, nthR, Is, and_true] at hd
    simp only [hd] at hK ⊢
    clear hd
    go_simp
    apply hK
    ·
     simp only [Act.put, List.setIfInBounds_toArray, List.set_cons_zero, List.set_cons_succ]
     exact rfl
    ·
     exact Below.refl _ _
    ·
     exact IsOut
   refine ⟨fun u W hb hd K hK => ?_, ?_⟩
   ·
    simp only [Facts, nthR, Is, and_true] at hd
    simp only [hd] at hK ⊢
    clear hd
    rw [if_pos (by rfl)]
    refine wp_load_mid 24 (.tmp 7) rfl g7 0 rfl (ptV p21) _ (rangeAt_of_blk (bg7.below hb lg7)) Tryd.underlying24 rfl (infoPt.trans (by rw [ptV_length])) ?_
    exact hK _ _ _ rfl (Below.refl _ _) IsOut
   refine ⟨fun u W hb hd K hK => ?_, ?_⟩
   ·
    simp only [Facts, nthR, Is, and_true] at hd
    simp only [hd] at hK ⊢
    clear hd
    rw [if_pos (by rfl)]
    refine wp_builtV 24 _ rfl [] rfl (ptV none).toArray builtZ ?_
    exact hK _ _ _ rfl (Below.refl _ _) IsOut
   refine ⟨fun u W hb hd K hK => ?_, ?_⟩
   ·
    simp only [Facts, nthR, Is, and_true] at hd
    simp only [hd] at hK ⊢
    clear hd
    rw [if_pos (by rfl)]
    refine wp_eqlA rfl rfl rfl guardPt (show (Op.equalIn 10000 24 (.agg (ptV p21).toArray) (.agg (ptV none).toArray)).run Tryd.prog W = .ok true W from EqP (on_of hp21) (on_of (Lib.hid rfl : Hid ((none : Pt) = mulG 0))) (Lib.hid (decide_eq_true hz.out)) W) ?_
    exact hK _ _ (.bool true) rfl (Below.refl _ _) IsOut
   refine ⟨fun u W hb hd K hK => ?_, ?_⟩
   ·
    simp only [Facts, nthR, Is, and_true] at hd
    simp only [hd] at hK ⊢
    clear hd
    go_simp
    apply hK
    ·
     simp only [Act.put, List.setIfInBounds_toArray, List.set_cons_zero, List.set_cons_succ]
     exact rfl
    ·
     exact Below.refl _ _
    ·
     exact IsOut
   refine ⟨fun u W hb hd K hK => ?_, ?_⟩
   ·
    simp only [Facts, nthR, Is, and_true] at hd
    simp only [hd] at hK ⊢
    clear hd
    go_simp
    apply hK
    ·
     simp only [Act.put, List.setIfInBounds_toArray, List.set_cons_zero, List.set_cons_succ]
     exact rfl
    ·
     exact Below.refl _ _
    ·
     exact IsOut
   exact trivial
  ·
   exact (.is (.is (.is (.is (.is (.is (.is (.is (.is (.is (.is .nil)))))))))))
  intro u w5 hb hd
  simp only [List.drop_succ_cons, List.drop_zero]
  simp only [Facts, nthR, Is, and_true] at hd
  have h10 := hd
  clear hd
  simp only [h10]
  clear h10
  replace bg3 := bg3.below hb lg3
  replace bg7 := bg7.below hb lg7
  replace hb0 := hb0.trans (hb.mono hb0.size)
  replace lg3 := bg3.lt
  replace lg7 := bg7.lt
  clear hb
  go_upto_region 5 with (fail)
  apply wp_plain_once (m := 3) (J := [[], [0], [1]]) (Je := [2]) (Rs := [Is _, Is _, Is _])
  ·
   kernel_rfl
  ·
   kernel_rfl
  ·
   intro u
   simp only [List.take_succ_cons, List.take_zero, List.map_cons, List.map_nil, fillU, List.setIfInBounds_toArray, List.set_cons_zero, List.set_cons_succ, Nat.reduceAdd]
   exact rfl
  ·
   simp only [List.take_succ_cons, List.take_zero]
   refine ⟨fun u W hb hd K hK => ?_, ?_⟩
   ·
    clear hd
    go_simp
    apply hK
    ·
     simp only [Act.put, List.setIfInBounds_toArray, List.set_cons_zero, List.set_cons_succ]
     exact rfl
    ·
     exact Below.refl _ _
    ·
     exact IsOut
   refine ⟨fun u W hb hd K hK => ?_, ?_⟩
   ·
    simp only [Facts, nthR, Is, and_true] at hd
    simp only [hd] at hK ⊢
    clear hd
    go_simp
    apply hK
    ·
     simp only [Act.put, List.setIfInBounds_toArray, List.set_cons_zero, List.set_cons_succ]
     exact rfl
    ·
     exact Below.refl _ _
    ·
     exact IsOut
   refine ⟨fun u W hb hd K hK => ?_, ?_⟩
   ·
    simp only [Facts, nthR, Is, and_true] at hd
    simp only [hd] at hK ⊢
    clear hd
    go_simp
    apply hK
    ·
     simp only [Act.put, List.setIfInBounds_toArray, List.set_cons_zero, List.set_cons_succ]
     exact rfl
    ·
     exact Below.refl _ _
    ·
     exact IsOut
   exact trivial
  ·
   exact (.is (.is (.is .nil)))
  intro u w6 hb hd
  simp only [List.drop_succ_cons, List.drop_zero]
  simp only [Facts, nthR, Is, and_true] at hd
  have h2 := hd
  clear hd
  simp only [h2]
  clear h2
  replace bg3 := bg3.below hb lg3
  replace bg7 := bg7.below hb lg7
  replace hb0 := hb0.trans (hb.mono hb0.size)
  replace lg3 := bg3.lt
  replace lg7 := bg7.lt
  clear hb
  go_upto_region 14 with (fail)
  clear bg3 lg3 og3 bg7 lg7 og7
  obtain ⟨wz, hwz⟩ : ∃ x, x = w6 := ⟨_, rfl⟩
  subst hwz
 case' neg =>
  obtain ⟨x, y, hz⟩ : ∃ x y, Hid (p21 = some (x, y)) := by
   match h : mulG va with
   | none => exact absurd h hm
   | some (x, y) => exact ⟨x, y, Lib.hid (hp21.out.trans h)⟩
  clear hm
  obtain ⟨B2, hB2⟩ : ∃ s, s = w3.heap.size := ⟨_, rfl⟩
  have oB2 := Lib.hid (show w.heap.size ≤ B2 ∧ g3 < B2 ∧ g7 < B2 from ⟨Nat.le_trans hb0.size (Nat.le_of_eq hB2.symm), Nat.lt_of_lt_of_le lg3 (Nat.le_of_eq hB2.symm), Nat.lt_of_lt_of_le lg7 (Nat.le_of_eq hB2.symm)⟩)
  obtain ⟨bs, hbs⟩ : ∃ s, Hid (s = wrB (xB p21) (yB p21)) := ⟨_, Lib.hid rfl⟩
  apply wp_plain_once (m := 2) (J := [[], [0]]) (Je := [1]) (Rs := [Is _, fun v V => ∃ g c, v = .slice (some ⟨g, 0, none⟩) 65 c ∧ Buf V w3.heap.size (some ⟨g, 0, none⟩) 65 c bs])
  ·
   kernel_rfl
  ·
   kernel_rfl
  ·
   intro u
   simp only [List.take_succ_cons, List.take_zero, List.map_cons, List.map_nil, fillU, List.setIfInBounds_toArray, List.set_cons_zero, List.set_cons_succ, Nat.reduceAdd]
   exact rfl
  ·
   simp only [List.take_succ_cons, List.take_zero]
   refine ⟨fun u W hb hd K hK => ?_, ?_⟩
   ·
    clear hd
    rw [if_pos (by rfl)]
    refine wp_load_mid 24 (.tmp 7) rfl g7 0 rfl (ptV p21) _ (rangeAt_of_blk (bg7.below hb lg7)) Tryd.underlying24 rfl (infoPt.trans (by rw [ptV_length])) ?_
    exact hK _ _ _ rfl (Below.refl _ _) IsOut
   refine ⟨fun u W hb hd K hK => ?_, ?_⟩
   ·
    simp only [Facts, nthR, Is, and_true] at hd
    simp only [hd] at hK ⊢
    clear hd
    go_simp
    refine (WriteP1 (hT.up hb0 hb) (on_of hp21) hz hbs).mono ?_
    rintro e wy ⟨g, c, rfl, hF, hby⟩
    exact hK _ _ _ rfl hby ⟨g, c, rfl, hF.base hb.size⟩
   exact trivial
  ·
   exact (.is (.cons (fun v V V' ⟨g, c, h1, h2⟩ hb => ⟨g, c, h1, h2.below hb⟩) .nil))
  intro u w4 hb hd
  simp only [List.drop_succ_cons, List.drop_zero]
  simp only [Facts, nthR, and_true] at hd
  obtain ⟨gb, cb, h1, fb⟩ := hd
  simp only [h1]
  clear h1
  replace bg3 := bg3.below hb lg3
  replace bg7 := bg7.below hb lg7
  replace hb0 := hb0.trans (hb.mono hb0.size)
  replace lg3 := bg3.lt
  replace lg7 := bg7.lt
  clear hb
  rw [← hB2] at fb
  clear hB2
  go_upto_region 3 with (fail)
  apply wp_plain_once (m := 11) (J := [[], [0], [1], [2], [2, 3], [2, 4], [2], [2], [2, 6, 7], [2, 5, 8], [2, 9]]) (Je := [10]) (Rs := [Is _, Is _, Is _, Is _, Is _, Is _, Is _, Is _, Is _, Is _, Is _])
  ·
   kernel_rfl
  ·
   kernel_rfl
  ·
   intro u
   simp only [List.take_succ_cons, List.take_zero, List.map_cons, List.map_nil, fillU, List.setIfInBounds_toArray, List.set_cons_zero, List.set_cons_succ, Nat.reduceAdd]
   exact rfl
  ·
   simp only [List.take_succ_cons, List.take_zero]
   refine ⟨fun u W hb hd K hK => ?_, ?_⟩
   ·
    clear hd
    go_simp
    refine (CurvesE (hT.up hb0 hb)).mono ?_
    rintro e wy ⟨rfl, hby⟩
    exact hK _ _ _ rfl hby IsOut
   refine ⟨fun u W hb hd K hK => ?_, ?_⟩
   ·
    simp only [Facts, nthR, Is, and_true] at hd
    simp only [hd] at hK ⊢
    clear hd
    go_simp
    apply hK
    ·
     simp only [Act.put, List.setIfInBounds_toArray, List.set_cons_zero, List.set_cons_succ]
     exact rfl
    ·
     exact Below.refl _ _
    ·
     exact IsOut
   refine ⟨fun u W hb hd K hK => ?_, ?_⟩
   ·
    simp only [Facts, nthR, Is, and_true] at hd
    simp only [hd] at hK ⊢
    clear hd
    go_simp
    apply hK
    ·
     simp only [Act.put, List.setIfInBounds_toArray, List.set_cons_zero, List.set_cons_succ]
     exact rfl
    ·
     exact Below.refl _ _
    ·
     exact IsOut
   refine ⟨fun u W hb hd K hK => ?_, ?_⟩
   ·
    simp only [Facts, nthR, Is, and_true] at hd
    simp only [hd] at hK ⊢
    clear hd
    go_simp
    apply hK
    ·
     simp only [Act.put, List.setIfInBounds_toArray, List.set_cons_zero, List.set_cons_succ]
     exact rfl
    ·
     exact Below.refl _ _
    ·
     exact IsOut
   refine ⟨fun u W hb hd K hK => ?_, ?_⟩
   ·
    simp only [Facts, nthR, Is, and_true] at hd
    simp only [hd] at hK ⊢
    clear hd
    go_simp
    apply hK
    ·
     simp only [Act.put, List.setIfInBounds_toArray, List.set_cons_zero, List.set_cons_succ]
     exact rfl
    ·
     exact Below.refl _ _
    ·
     exact IsOut
   refine ⟨fun u W hb hd K hK => ?_, ?_⟩
   ·
    simp only [Facts, nthR, Is, and_true] at hd
    simp only [hd] at hK ⊢
    clear hd
    go_simp
    apply hK
    ·
     simp only [Act.put, List.setIfInBounds_toArray, List.set_cons_zero, List.set_cons_succ]
     exact rfl
    ·
     exact Below.refl _ _
    ·
     exact IsOut
   refine ⟨fun u W hb hd K hK => ?_, ?_⟩
   ·
    simp only [Facts, nthR, Is, and_true] at hd
    simp only [hd] at hK ⊢
    clear hd
    rw [if_pos (by rfl)]
    refine wp_load_mid 24 (.tmp 7) rfl g7 0 rfl (ptV p21) _ (rangeAt_of_blk (bg7.below hb lg7)) Tryd.underlying24 rfl (infoPt.trans (by rw [ptV_length])) ?_
    exact hK _ _ _ rfl (Below.refl _ _) IsOut
   refine ⟨fun u W hb hd K hK => ?_, ?_⟩
   ·
    simp only [Facts, nthR, Is, and_true] at hd
    simp only [hd] at hK ⊢
    clear hd
    rw [if_pos (by rfl)]
    refine wp_builtV 24 _ rfl [] rfl (ptV none).toArray builtZ ?_
    exact hK _ _ _ rfl (Below.refl _ _) IsOut
   refine ⟨fun u W hb hd K hK => ?_, ?_⟩
   ·
    simp only [Facts, nthR, Is, and_true] at hd
    simp only [hd] at hK ⊢
    clear hd
    rw [if_pos (by rfl)]
    refine wp_eqlA rfl rfl rfl guardPt (show (Op.equalIn 10000 24 (.agg (ptV p21).toArray) (.agg (ptV none).toArray)).run Tryd.prog W = .ok false W from EqP (on_of hp21) (on_of (Lib.hid rfl : Hid ((none : Pt) = mulG 0))) (Lib.hid (decide_eq_false (fun h => by rw [hz.out] at h; cases h))) W) ?_
    exact hK _ _ (.bool false) rfl (Below.refl _ _) IsOut
   refine ⟨fun u W hb hd K hK => ?_, ?_⟩
   ·
    simp only [Facts, nthR, Is, and_true] at hd
    simp only [hd] at hK ⊢
    clear hd
    go_simp
    apply hK
    ·
     simp only [Act.put, List.setIfInBounds_toArray, List.set_cons_zero, List.set_cons_succ]
     exact rfl
    ·
     exact Below.refl _ _
    ·
     exact IsOut
   refine ⟨fun u W hb hd K hK => ?_, ?_⟩
   ·
    simp only [Facts, nthR, Is, and_true] at hd
    simp only [hd] at hK ⊢
    clear hd
    go_simp
    apply hK
    ·
     simp only [Act.put, List.setIfInBounds_toArray, List.set_cons_zero, List.set_cons_succ]
     exact rfl
    ·
     exact Below.refl _ _
    ·
     exact IsOut
   exact trivial
  ·
   exact (.is (.is (.is (.is (.is (.is (.is (.is (.is (.is (.is .nil)))))))))))
  intro u w5 hb hd
  simp only [List.drop_succ_cons, List.drop_zero]
  simp only [Facts, nthR, Is, and_true] at hd
  have h10 := hd
  clear hd
  simp only [h10]
  clear h10
  replace bg3 := bg3.below hb lg3
  replace bg7 := bg7.below hb lg7
  replace hb0 := hb0.trans (hb.mono hb0.size)
  replace lg3 := bg3.lt
  replace lg7 := bg7.lt
  replace fb := fb.below hb
  clear hb
  go_upto_region 5 with (fail)
  apply wp_plain_once (m := 3) (J := [[], [0], [1]]) (Je := [2]) (Rs := [Is _, Is _, Is _])
  ·
   kernel_rfl
  ·
   kernel_rfl
  ·
   intro u
   simp only [List.take_succ_cons, List.take_zero, List.map_cons, List.map_nil, fillU, List.setIfInBounds_toArray, List.set_cons_zero, List.set_cons_succ, Nat.reduceAdd]
   exact rfl
  ·
   simp only [List.take_succ_cons, List.take_zero]
   refine ⟨fun u W hb hd K hK => ?_, ?_⟩
   ·
    clear hd
    go_simp
    apply hK
    ·
     simp only [Act.put, List.setIfInBounds_toArray, List.set_cons_zero, List.set_cons_succ]
     exact rfl
    ·
     exact Below.refl _ _
    ·
     exact IsOut
   refine ⟨fun u W hb hd K hK => ?_, ?_⟩
   ·
    simp only [Facts, nthR, Is, and_true] at hd
    simp only [hd] at hK ⊢
    clear hd
    go_simp
    apply hK
    ·
     simp only [Act.put, List.setIfInBounds_toArray, List.set_cons_zero, List.set_cons_succ]
     exact rfl
    ·
     exact Below.refl _ _
    ·
     exact IsOut
   refine ⟨fun u W hb hd K hK => ?_, ?_⟩
   ·
    simp only [Facts, nthR, Is, and_true] at hd
    simp only [hd] at hK ⊢
    clear hd
    go_simp
    apply hK
    ·
     simp only [Act.put, List.setIfInBounds_toArray, List.set_cons_zero, List.set_cons_succ]
     exact rfl
    ·
     exact Below.refl _ _
    ·
     exact IsOut
   exact trivial
  ·
   exact (.is (.is (.is .nil)))
  intro u w6 hb hd
  simp only [List.drop_succ_cons, List.drop_zero]
  simp only [Facts, nthR, Is, and_true] at hd
  have h2 := hd
  clear hd
  simp only [h2]
  clear h2
  replace bg3 := bg3.below hb lg3
  replace bg7 := bg7.below hb lg7
  replace hb0 := hb0.trans (hb.mono hb0.size)
  replace lg3 := bg3.lt
  replace lg7 := bg7.lt
  replace fb := fb.below hb
  clear hb
  go_upto_region 6 with (fail)
  have hbl : Hid (bs.length = 65) := Lib.hid fb.len
  obtain ⟨hr0, hrX, hrY⟩ := rd_wr (on_of hp21).out hz.out
  rw [← hbs.out] at hr0 hrX hrY
  replace hrX := Lib.hid hrX
  replace hrY := Lib.hid hrY
  have hrE := Lib.hid (rd_yes hr0)
  clear hr0
  apply wp_plain_once (m := 5) (J := [[], [0], [1], [2], [2]]) (Je := [3, 4]) (Rs := [Is _, Is _, Is _, Is _, Is _])
  ·
   kernel_rfl
  ·
   kernel_rfl
  ·
   intro u
   simp only [List.take_succ_cons, List.take_zero, List.map_cons, List.map_nil, fillU, List.setIfInBounds_toArray, List.set_cons_zero, List.set_cons_succ, Nat.reduceAdd]
   exact rfl
  ·
   simp only [List.take_succ_cons, List.take_zero]
   refine ⟨fun u W hb hd K hK => ?_, ?_⟩
   ·
    clear hd
    go_simp
    apply hK
    ·
     simp only [Act.put, List.setIfInBounds_toArray, List.set_cons_zero, List.set_cons_succ]
     exact rfl
    ·
     exact Below.refl _ _
    ·
     exact IsOut
   refine ⟨fun u W hb hd K hK => ?_, ?_⟩
   ·
    simp only [Facts, nthR, Is, and_true] at hd
    simp only [hd] at hK ⊢
    clear hd
    go_simp
    refine (ReadP hrX hrY hrE hbl.out ((fb.below hb).toIn (Nat.le_refl _)) (hT.up hb0 hb)).mono ?_
    rintro e wy ⟨rfl, hby⟩
    exact hK _ _ _ rfl hby IsOut
   refine ⟨fun u W hb hd K hK => ?_, ?_⟩
   ·
    simp only [Facts, nthR, Is, and_true] at hd
    simp only [hd] at hK ⊢
    clear hd
    go_simp
    apply hK
    ·
     simp only [Act.put, List.setIfInBounds_toArray, List.set_cons_zero, List.set_cons_succ]
     exact rfl
    ·
     exact Below.refl _ _
    ·
     exact IsOut
   refine ⟨fun u W hb hd K hK => ?_, ?_⟩
   ·
    simp only [Facts, nthR, Is, and_true] at hd
    simp only [hd] at hK ⊢
    clear hd
    go_simp
    apply hK
    ·
     simp only [Act.put, List.setIfInBounds_toArray, List.set_cons_zero, List.set_cons_succ]
     exact rfl
    ·
     exact Below.refl _ _
    ·
     exact IsOut
   refine ⟨fun u W hb hd K hK => ?_, ?_⟩
   ·
    simp only [Facts, nthR, Is, and_true] at hd
    simp only [hd] at hK ⊢
    clear hd
    go_simp
    apply hK
    ·
     simp only [Act.put, List.setIfInBounds_toArray, List.set_cons_zero, List.set_cons_succ]
     exact rfl
    ·
     exact Below.refl _ _
    ·
     exact IsOut
   exact trivial
  ·
   exact (.is (.is (.is (.is (.is .nil)))))
  intro u w7 hb hd
  simp only [List.drop_succ_cons, List.drop_zero]
  simp only [Facts, nthR, Is, and_true] at hd
  obtain ⟨h3, h4⟩ := hd
  simp only [h3, h4]
  clear h3 h4
  replace bg3 := bg3.below hb lg3
  replace bg7 := bg7.below hb lg7
  replace hb0 := hb0.trans (hb.mono hb0.size)
  replace lg3 := bg3.lt
  replace lg7 := bg7.lt
  replace fb := fb.below hb
  clear hb
  refine wpList_new_store rfl 24 rfl rfl (ptV none) zeroPt rfl rfl rfl (ptV p21) (fun _ => rfl) (fun _ => rfl) (infoPt.trans (by rw [ptV_length])) (by first | with_reducible rfl | rw [ptV_length, ptV_length] | rw [ptV_length]) (onePv _) ?_
  intro g9 w8 hg bg9 hb
  have mbg9 := Lib.hid (show gb < g9 from Nat.lt_of_lt_of_le (fb.lt rfl).2 (Nat.le_of_eq hg.symm))
  have og9 := Lib.hid (show w.heap.size ≤ g9 ∧ g3 < g9 ∧ g7 < g9 from ⟨Nat.le_trans hb0.size (Nat.le_of_eq hg.symm), Nat.lt_of_lt_of_le lg3 (Nat.le_of_eq hg.symm), Nat.lt_of_lt_of_le lg7 (Nat.le_of_eq hg.symm)⟩)
  clear hg
  replace bg3 := bg3.below hb lg3
  replace bg7 := bg7.below hb lg7
  replace hb0 := hb0.trans (hb.mono hb0.size)
  replace lg3 := bg3.lt
  replace lg7 := bg7.lt
  replace fb := fb.below hb
  clear hb
  have lg9 := bg9.lt
  try simp only [Act.put, List.setIfInBounds_toArray, List.set_cons_zero, List.set_cons_succ]
  go_upto_region 7 with (fail)
  obtain ⟨z, j, hiz, hiq, hiq', hij, hjl⟩ := idx_at (at' := at')
  replace hiz := Lib.hid hiz
  replace hiq := Lib.hid hiq
  replace hiq' := Lib.hid hiq'
  replace hij := Lib.hid hij
  replace hjl := Lib.hid hjl
  obtain ⟨yj, hyj⟩ : ∃ s, Hid (bs.getD j 0 = s) := ⟨_, Lib.hid rfl⟩
  obtain ⟨yx, hyx⟩ : ∃ s, Hid (s = yj ^^^ 1) := ⟨_, Lib.hid rfl⟩
  have hxr : Hid (bits .xor .u8 (yj.toNat : Int) (1 : Int) = (yx.toNat : Int)) := Lib.hid (by rw [hyx.out]; exact u8_x1 yj)
  apply wp_plain_once (m := 9) (J := [[], [], [1], [2], [3], [0, 4], [5], [6], [0, 4]]) (Je := [7, 8]) (Rs := [Is _, Is _, Is _, Is _, Is _, Is _, Is _, Is _, Is _])
  ·
   kernel_rfl
  ·
   kernel_rfl
  ·
   intro u
   simp only [List.take_succ_cons, List.take_zero, List.map_cons, List.map_nil, fillU, List.setIfInBounds_toArray, List.set_cons_zero, List.set_cons_succ, Nat.reduceAdd]
   exact rfl
  ·
   simp only [List.take_succ_cons, List.take_zero]
   refine ⟨fun u W hb hd K hK => ?_, ?_⟩
   ·
    clear hd
    go_simp
    apply hK
    ·
     simp only [Act.put, List.setIfInBounds_toArray, List.set_cons_zero, List.set_cons_succ]
     exact rfl
    ·
     exact Below.refl _ _
    ·
     exact IsOut
   refine ⟨fun u W hb hd K hK => ?_, ?_⟩
   ·
    clear hd
    go_simp
    apply hK
    ·
     simp only [Act.put, List.setIfInBounds_toArray, List.set_cons_zero, List.set_cons_succ]
     exact rfl
    ·
     exact Below.refl _ _
    ·
     exact IsOut
   refine ⟨fun u W hb hd K hK => ?_, ?_⟩
   ·
    simp only [Facts, nthR, Is, and_true] at hd
    simp only [hd] at hK ⊢
    clear hd
    have hw := hiz.out
    go_simp
    apply hK
    ·
     simp only [Act.put, List.setIfInBounds_toArray, List.set_cons_zero, List.set_cons_succ]
     exact rfl
    ·
     exact Below.refl _ _
    ·
     exact IsOut
   refine ⟨fun u W hb hd K hK => ?_, ?_⟩
   ·
    simp only [Facts, nthR, Is, and_true] at hd
    simp only [hd] at hK ⊢
    clear hd
    have hw := hiq.out
    have hw' := hiq'.out
    go_simp
    apply hK
    ·
     simp only [Act.put, List.setIfInBounds_toArray, List.set_cons_zero, List.set_cons_succ]
     exact rfl
    ·
     exact Below.refl _ _
    ·
     exact IsOut
   refine ⟨fun u W hb hd K hK => ?_, ?_⟩
   ·
    simp only [Facts, nthR, Is, and_true] at hd
    simp only [hd] at hK ⊢
    clear hd
    have hw := hij.out
    go_simp
    apply hK
    ·
     simp only [Act.put, List.setIfInBounds_toArray, List.set_cons_zero, List.set_cons_succ]
     exact rfl
    ·
     exact Below.refl _ _
    ·
     exact IsOut
   refine ⟨fun u W hb hd K hK => ?_, ?_⟩
   ·
    simp only [Facts, nthR, Is, and_true] at hd
    simp only [hd] at hK ⊢
    clear hd
    rw [if_pos (by rfl)]
    refine wp_placeB0 rfl rfl rfl hjl.out ?_
    exact hK _ _ _ rfl (Below.refl _ _) IsOut
   refine ⟨fun u W hb hd K hK => ?_, ?_⟩
   ·
    simp only [Facts, nthR, Is, and_true] at hd
    simp only [hd] at hK ⊢
    clear hd
    have hc := (buf_row (fb.below hb) (by decide)).2 j (by rw [hbl.out]; exact hjl.out)
    rw [hyj.out, Nat.zero_add] at hc
    go_simp
    apply hK
    ·
     simp only [Act.put, List.setIfInBounds_toArray, List.set_cons_zero, List.set_cons_succ]
     exact rfl
    ·
     exact Below.refl _ _
    ·
     exact IsOut
   refine ⟨fun u W hb hd K hK => ?_, ?_⟩
   ·
    simp only [Facts, nthR, Is, and_true] at hd
    simp only [hd] at hK ⊢
    clear hd
    have hx := hxr.out
    go_simp
    apply hK
    ·
     simp only [Act.put, List.setIfInBounds_toArray, List.set_cons_zero, List.set_cons_succ]
     exact rfl
    ·
     exact Below.refl _ _
    ·
     exact IsOut
   refine ⟨fun u W hb hd K hK => ?_, ?_⟩
   ·
    simp only [Facts, nthR, Is, and_true] at hd
    simp only [hd] at hK ⊢
    clear hd
    rw [if_pos (by rfl)]
    refine wp_placeB0 rfl rfl rfl hjl.out ?_
    exact hK _ _ _ rfl (Below.refl _ _) IsOut
   exact trivial
  ·
   exact (.is (.is (.is (.is (.is (.is (.is (.is (.is .nil)))))))))
  intro u w9 hb hd
  simp only [List.drop_succ_cons, List.drop_zero]
  simp only [Facts, nthR, Is, and_true] at hd
  obtain ⟨h7, h8⟩ := hd
  simp only [h7, h8]
  clear h7 h8
  replace bg3 := bg3.below hb lg3
  replace bg7 := bg7.below hb lg7
  replace bg9 := bg9.below hb lg9
  replace hb0 := hb0.trans (hb.mono hb0.size)
  replace lg3 := bg3.lt
  replace lg7 := bg7.lt
  replace lg9 := bg9.lt
  replace fb := fb.below hb
  clear hb
  refine wpList_store8 rfl rfl (j := j) (b := yx) rfl rfl fb hjl.out rfl ?_
  intro w10 fn hgs
  replace bg3 := bg3.grown hgs (ownOf_fresh fb oB2.out.2.1)
  replace bg7 := bg7.grown hgs (ownOf_fresh fb oB2.out.2.2)
  replace bg9 := bg9.grown hgs (fun e => Nat.ne_of_gt mbg9.out (Option.some.inj e))
  replace hb0 := below_new hb0 hgs (Nat.le_trans oB2.out.1 (fb.lt rfl).1) hb0.size
  clear hgs fb
  have fb := fn
  clear fn
  replace lg3 := bg3.lt
  replace lg7 := bg7.lt
  replace lg9 := bg9.lt
  try simp only [Act.put, List.setIfInBounds_toArray, List.set_cons_zero, List.set_cons_succ]
  obtain ⟨xs2, hx2⟩ : ∃ s, Hid (s = bs.set j yx) := ⟨_, Lib.hid rfl⟩
  rw [← hx2.out] at fb
  clear hiz hiq hiq' hij hjl hyj hyx hxr hx2 hbs hrX hrY hrE hbl
  go_upto_region 8 with (fail)
  have hl2 : Hid (xs2.length = 65) := Lib.hid fb.len
  obtain ⟨X2, hX2⟩ : ∃ s, Hid (rdX xs2 = s) := ⟨_, Lib.hid rfl⟩
  obtain ⟨Y2, hY2⟩ : ∃ s, Hid (rdY xs2 = s) := ⟨_, Lib.hid rfl⟩
  obtain ⟨e2, hE2⟩ : ∃ s, Hid (rdE xs2 = s) := ⟨_, Lib.hid rfl⟩
  have hX2l : Hid (X2.length = 32) := Lib.hid (by rw [← hX2.out]; exact rdX_length _)
  have hY2l : Hid (Y2.length = 32) := Lib.hid (by rw [← hY2.out]; exact rdY_length _)
  apply wp_plain_once (m := 5) (J := [[], [0], [1], [2], [2]]) (Je := [3, 4]) (Rs := [Is _, Is _, Is _, Is _, Is _])
  ·
   kernel_rfl
  ·
   kernel_rfl
  ·
   intro u
   simp only [List.take_succ_cons, List.take_zero, List.map_cons, List.map_nil, fillU, List.setIfInBounds_toArray, List.set_cons_zero, List.set_cons_succ, Nat.reduceAdd]
   exact rfl
  ·
   simp only [List.take_succ_cons, List.take_zero]
   refine ⟨fun u W hb hd K hK => ?_, ?_⟩
   ·
    clear hd
    go_simp
    apply hK
    ·
     simp only [Act.put, List.setIfInBounds_toArray, List.set_cons_zero, List.set_cons_succ]
     exact rfl
    ·
     exact Below.refl _ _
    ·
     exact IsOut
   refine ⟨fun u W hb hd K hK => ?_, ?_⟩
   ·
    simp only [Facts, nthR, Is, and_true] at hd
    simp only [hd] at hK ⊢
    clear hd
    go_simp
    refine (ReadH hX2 hY2 hE2 hl2.out ((fb.below hb).toIn (Nat.le_refl _)) (hT.up hb0 hb)).mono ?_
    rintro e wy ⟨rfl, hby⟩
    exact hK _ _ _ rfl hby IsOut
   refine ⟨fun u W hb hd K hK => ?_, ?_⟩
   ·
    simp only [Facts, nthR, Is, and_true] at hd
    simp only [hd] at hK ⊢
    clear hd
    go_simp
    apply hK
    ·
     simp only [Act.put, List.setIfInBounds_toArray, List.set_cons_zero, List.set_cons_succ]
     exact rfl
    ·
     exact Below.refl _ _
    ·
     exact IsOut
   refine ⟨fun u W hb hd K hK => ?_, ?_⟩
   ·
    simp only [Facts, nthR, Is, and_true] at hd
    simp only [hd] at hK ⊢
    clear hd
    go_simp
    apply hK
    ·
     simp only [Act.put, List.setIfInBounds_toArray, List.set_cons_zero, List.set_cons_succ]
     exact rfl
    ·
     exact Below.refl _ _
    ·
     exact IsOut
   refine ⟨fun u W hb hd K hK => ?_, ?_⟩
   ·
    simp only [Facts, nthR, Is, and_true] at hd
    simp only [hd] at hK ⊢
    clear hd
    go_simp
    apply hK
    ·
     simp only [Act.put, List.setIfInBounds_toArray, List.set_cons_zero, List.set_cons_succ]
     exact rfl
    ·
     exact Below.refl _ _
    ·
     exact IsOut
   exact trivial
  ·
   exact (.is (.is (.is (.is (.is .nil)))))
  intro u w11 hb hd
  simp only [List.drop_succ_cons, List.drop_zero]
  simp only [Facts, nthR, Is, and_true] at hd
  obtain ⟨h3, h4⟩ := hd
  simp only [h3, h4]
  clear h3 h4
  replace bg3 := bg3.below hb lg3
  replace bg7 := bg7.below hb lg7
  replace bg9 := bg9.below hb lg9
  replace hb0 := hb0.trans (hb.mono hb0.size)
  replace lg3 := bg3.lt
  replace lg7 := bg7.lt
  replace lg9 := bg9.lt
  replace fb := fb.below hb
  clear hb
  refine wpList_new_store rfl 24 rfl rfl (ptV none) zeroPt rfl rfl rfl (ptC X2 Y2) (fun _ => rfl) (fun _ => rfl) (infoPt.trans (by rw [ptC_length (hX2l).out (hY2l).out])) (by first | with_reducible rfl | rw [ptV_length, ptC_length (hX2l).out (hY2l).out] | rw [ptV_length]) (onePt _ _) ?_
  intro g11 w12 hg bg11 hb
  have mbg11 := Lib.hid (show gb < g11 from Nat.lt_of_lt_of_le (fb.lt rfl).2 (Nat.le_of_eq hg.symm))
  have og11 := Lib.hid (show w.heap.size ≤ g11 ∧ g3 < g11 ∧ g7 < g11 ∧ g9 < g11 from ⟨Nat.le_trans hb0.size (Nat.le_of_eq hg.symm), Nat.lt_of_lt_of_le lg3 (Nat.le_of_eq hg.symm), Nat.lt_of_lt_of_le lg7 (Nat.le_of_eq hg.symm), Nat.lt_of_lt_of_le lg9 (Nat.le_of_eq hg.symm)⟩)
  clear hg
  replace bg3 := bg3.below hb lg3
  replace bg7 := bg7.below hb lg7
  replace bg9 := bg9.below hb lg9
  replace hb0 := hb0.trans (hb.mono hb0.size)
  replace lg3 := bg3.lt
  replace lg7 := bg7.lt
  replace lg9 := bg9.lt
  replace fb := fb.below hb
  clear hb
  have lg11 := bg11.lt
  try simp only [Act.put, List.setIfInBounds_toArray, List.set_cons_zero, List.set_cons_succ]
  go_upto_region 9 with (fail)
  refine wp_region_lit ?_
  refine wpList_new_blk rfl 22 rfl (zero32.map B8) zeroB32 ?_
  intro g13 w13 hg bg13 hb
  have mbg13 := Lib.hid (show gb < g13 from Nat.lt_of_lt_of_le (fb.lt rfl).2 (Nat.le_of_eq hg.symm))
  have og13 := Lib.hid (show w.heap.size ≤ g13 ∧ g3 < g13 ∧ g7 < g13 ∧ g9 < g13 ∧ g11 < g13 from ⟨Nat.le_trans hb0.size (Nat.le_of_eq hg.symm), Nat.lt_of_lt_of_le lg3 (Nat.le_of_eq hg.symm), Nat.lt_of_lt_of_le lg7 (Nat.le_of_eq hg.symm), Nat.lt_of_lt_of_le lg9 (Nat.le_of_eq hg.symm), Nat.lt_of_lt_of_le lg11 (Nat.le_of_eq hg.symm)⟩)
  clear hg
  replace bg3 := bg3.below hb lg3
  replace bg7 := bg7.below hb lg7
  replace bg9 := bg9.below hb lg9
  replace bg11 := bg11.below hb lg11
  replace hb0 := hb0.trans (hb.mono hb0.size)
  replace lg3 := bg3.lt
  replace lg7 := bg7.lt
  replace lg9 := bg9.lt
  replace lg11 := bg11.lt
  replace fb := fb.below hb
  clear hb
  have lg13 := bg13.lt
  try simp only [Act.put, List.setIfInBounds_toArray, List.set_cons_zero, List.set_cons_succ]
  refine wpList_new_blk rfl 22 rfl (zero32.map B8) zeroB32 ?_
  intro g14 w14 hg bg14 hb
  have mbg14 := Lib.hid (show gb < g14 from Nat.lt_of_lt_of_le (fb.lt rfl).2 (Nat.le_of_eq hg.symm))
  have og14 := Lib.hid (show w.heap.size ≤ g14 ∧ g3 < g14 ∧ g7 < g14 ∧ g9 < g14 ∧ g11 < g14 ∧ g13 < g14 from ⟨Nat.le_trans hb0.size (Nat.le_of_eq hg.symm), Nat.lt_of_lt_of_le lg3 (Nat.le_of_eq hg.symm), Nat.lt_of_lt_of_le lg7 (Nat.le_of_eq hg.symm), Nat.lt_of_lt_of_le lg9 (Nat.le_of_eq hg.symm), Nat.lt_of_lt_of_le lg11 (Nat.le_of_eq hg.symm), Nat.lt_of_lt_of_le lg13 (Nat.le_of_eq hg.symm)⟩)
  clear hg
  replace bg3 := bg3.below hb lg3
  replace bg7 := bg7.below hb lg7
  replace bg9 := bg9.below hb lg9
  replace bg11 := bg11.below hb lg11
  replace bg13 := bg13.below hb lg13
  replace hb0 := hb0.trans (hb.mono hb0.size)
  replace lg3 := bg3.lt
  replace lg7 := bg7.lt
  replace lg9 := bg9.lt
  replace lg11 := bg11.lt
  replace lg13 := bg13.lt
  replace fb := fb.below hb
  clear hb
  have lg14 := bg14.lt
  try simp only [Act.put, List.setIfInBounds_toArray, List.set_cons_zero, List.set_cons_succ]
  go_upto_region 10 with (fail)
  obtain ⟨X4, eX4⟩ : ∃ s, Hid (s = (xs2.drop 1).take 32) := ⟨_, Lib.hid rfl⟩
  obtain ⟨Y4, eY4⟩ : ∃ s, Hid (s = (xs2.drop 33).take 32) := ⟨_, Lib.hid rfl⟩
  have hX4l : Hid (X4.length = 32) := Lib.hid (part32 eX4.out (by rw [hl2.out]; decide))
  have hY4l : Hid (Y4.length = 32) := Lib.hid (part32 eY4.out (by rw [hl2.out]; decide))
  apply wp_region_once_tail (m := 3) (Z := []) (D := [[], [], [1], [0, 1, 2]]) (J := [[], [], [1]]) (Je := [0, 2]) (Rs := [Is _, Is _, Is _])
  ·
   kernel_rfl
  ·
   kernel_rfl
  ·
   kernel_rfl
  ·
   kernel_rfl
  ·
   kernel_rfl
  ·
   kernel_rfl
  ·
   kernel_rfl
  ·
   exact fun h => absurd rfl h
  ·
   intro u
   simp only [List.take_succ_cons, List.take_zero, List.map_cons, List.map_nil, fillU, List.setIfInBounds_toArray, List.set_cons_zero, List.set_cons_succ, Nat.reduceAdd]
   exact rfl
  ·
   simp only [List.take_succ_cons, List.take_zero]
   refine ⟨fun u W hb hd K hK => ?_, ?_⟩
   ·
    clear hd
    rw [if_pos (by rfl)]
    refine wp_rowOf rfl Tryd.underlying22 (fun w => size8 w) rfl ?_
    exact hK _ _ _ rfl (Below.refl _ _) IsOut
   refine ⟨fun u W hb hd K hK => ?_, ?_⟩
   ·
    clear hd
    go_simp
    apply hK
    ·
     simp only [Act.put, List.setIfInBounds_toArray, List.set_cons_zero, List.set_cons_succ]
     exact rfl
    ·
     exact Below.refl _ _
    ·
     exact IsOut
   refine ⟨fun u W hb hd K hK => ?_, ?_⟩
   ·
    simp only [Facts, nthR, Is, and_true] at hd
    simp only [hd] at hK ⊢
    clear hd
    rw [if_pos (by rfl)]
    refine wp_piece rfl rfl (lo := 1) (hi := 33) rfl rfl (by decide) (by have h := fb.le.1; omega) (by have h := fb.le.1; omega) ?_
    exact hK _ _ _ rfl (Below.refl _ _) IsOut
   exact trivial
  ·
   skip
   exact trivial
  ·
   exact (.is (.is (.is .nil)))
  intro u w15 hb hd
  simp only [List.drop_succ_cons, List.drop_zero]
  simp only [Facts, nthR, Is, and_true] at hd
  obtain ⟨h0, h2⟩ := hd
  simp only [h0, h2]
  clear h0 h2
  replace bg3 := bg3.below hb lg3
  replace bg7 := bg7.below hb lg7
  replace bg9 := bg9.below hb lg9
  replace bg11 := bg11.below hb lg11
  replace bg13 := bg13.below hb lg13
  replace bg14 := bg14.below hb lg14
  replace hb0 := hb0.trans (hb.mono hb0.size)
  replace lg3 := bg3.lt
  replace lg7 := bg7.lt
  replace lg9 := bg9.lt
  replace lg11 := bg11.lt
  replace lg13 := bg13.lt
  replace lg14 := bg14.lt
  replace fb := fb.below hb
  clear hb
  refine wpList_copy32 rfl (.tmp 57) (.tmp 59) rfl (X := X4) (Z := zero32) rfl rfl bg13 ((Lib.hid (by decide) : Hid (zero32.length = 32))).out (hX4l).out ((buf_row fb (by decide)).piece (k := 1) (n := 32) eX4.out (by rw [hl2.out]; decide)) ?_
  intro w16 bn hgs
  replace bg3 := bg3.grown hgs (fun e => Nat.ne_of_lt og13.out.2.1 (Option.some.inj e))
  replace bg7 := bg7.grown hgs (fun e => Nat.ne_of_lt og13.out.2.2.1 (Option.some.inj e))
  replace bg9 := bg9.grown hgs (fun e => Nat.ne_of_lt og13.out.2.2.2.1 (Option.some.inj e))
  replace bg11 := bg11.grown hgs (fun e => Nat.ne_of_lt og13.out.2.2.2.2 (Option.some.inj e))
  replace bg14 := bg14.grown hgs (fun e => Nat.ne_of_gt og14.out.2.2.2.2.2 (Option.some.inj e))
  replace fb := fb.kept hgs (fun k e e2 => by cases e; exact Nat.ne_of_lt mbg13.out (Option.some.inj e2))
  replace hb0 := below_new hb0 hgs og13.out.1 hb0.size
  clear hgs bg13
  have bg13 := bn
  clear bn
  replace lg3 := bg3.lt
  replace lg7 := bg7.lt
  replace lg9 := bg9.lt
  replace lg11 := bg11.lt
  replace lg13 := bg13.lt
  replace lg14 := bg14.lt
  try simp only [Act.put, List.setIfInBounds_toArray, List.set_cons_zero, List.set_cons_succ]
  go_upto_region 11 with (fail)
  apply wp_region_once_tail (m := 3) (Z := []) (D := [[], [], [1], [0, 1, 2]]) (J := [[], [], [1]]) (Je := [0, 2]) (Rs := [Is _, Is _, Is _])
  ·
   kernel_rfl
  ·
   kernel_rfl
  ·
   kernel_rfl
  ·
   kernel_rfl
  ·
   kernel_rfl
  ·
   kernel_rfl
  ·
   kernel_rfl
  ·
   exact fun h => absurd rfl h
  ·
   intro u
   simp only [List.take_succ_cons, List.take_zero, List.map_cons, List.map_nil, fillU, List.setIfInBounds_toArray, List.set_cons_zero, List.set_cons_succ, Nat.reduceAdd]
   exact rfl
  ·
   simp only [List.take_succ_cons, List.take_zero]
   refine ⟨fun u W hb hd K hK => ?_, ?_⟩
   ·
    clear hd
    rw [if_pos (by rfl)]
    refine wp_rowOf rfl Tryd.underlying22 (fun w => size8 w) rfl ?_
    exact hK _ _ _ rfl (Below.refl _ _) IsOut
   refine ⟨fun u W hb hd K hK => ?_, ?_⟩
   ·
    clear hd
    go_simp
    apply hK
    ·
     simp only [Act.put, List.setIfInBounds_toArray, List.set_cons_zero, List.set_cons_succ]
     exact rfl
    ·
     exact Below.refl _ _
    ·
     exact IsOut
   refine ⟨fun u W hb hd K hK => ?_, ?_⟩
   ·
    simp only [Facts, nthR, Is, and_true] at hd
    simp only [hd] at hK ⊢
    clear hd
    rw [if_pos (by rfl)]
    refine wp_behind rfl rfl (lo := 33) rfl (by decide) (by have h := fb.le.1; omega) ?_
    exact hK _ _ _ rfl (Below.refl _ _) IsOut
   exact trivial
  ·
   skip
   exact trivial
  ·
   exact (.is (.is (.is .nil)))
  intro u w17 hb hd
  simp only [List.drop_succ_cons, List.drop_zero]
  simp only [Facts, nthR, Is, and_true] at hd
  obtain ⟨h0, h2⟩ := hd
  simp only [h0, h2]
  clear h0 h2
  replace bg3 := bg3.below hb lg3
  replace bg7 := bg7.below hb lg7
  replace bg9 := bg9.below hb lg9
  replace bg11 := bg11.below hb lg11
  replace bg13 := bg13.below hb lg13
  replace bg14 := bg14.below hb lg14
  replace hb0 := hb0.trans (hb.mono hb0.size)
  replace lg3 := bg3.lt
  replace lg7 := bg7.lt
  replace lg9 := bg9.lt
  replace lg11 := bg11.lt
  replace lg13 := bg13.lt
  replace lg14 := bg14.lt
  replace fb := fb.below hb
  clear hb
  refine wpList_copy32 rfl (.tmp 61) (.tmp 63) rfl (X := Y4) (Z := zero32) rfl rfl bg14 ((Lib.hid (by decide) : Hid (zero32.length = 32))).out (hY4l).out ((buf_row fb (by decide)).piece (k := 33) (n := 32) eY4.out (by rw [hl2.out]; decide)) ?_
  intro w18 bn hgs
  replace bg3 := bg3.grown hgs (fun e => Nat.ne_of_lt og14.out.2.1 (Option.some.inj e))
  replace bg7 := bg7.grown hgs (fun e => Nat.ne_of_lt og14.out.2.2.1 (Option.some.inj e))
  replace bg9 := bg9.grown hgs (fun e => Nat.ne_of_lt og14.out.2.2.2.1 (Option.some.inj e))
  replace bg11 := bg11.grown hgs (fun e => Nat.ne_of_lt og14.out.2.2.2.2.1 (Option.some.inj e))
  replace bg13 := bg13.grown hgs (fun e => Nat.ne_of_lt og14.out.2.2.2.2.2 (Option.some.inj e))
  replace fb := fb.kept hgs (fun k e e2 => by cases e; exact Nat.ne_of_lt mbg14.out (Option.some.inj e2))
  replace hb0 := below_new hb0 hgs og14.out.1 hb0.size
  clear hgs bg14
  have bg14 := bn
  clear bn
  replace lg3 := bg3.lt
  replace lg7 := bg7.lt
  replace lg9 := bg9.lt
  replace lg11 := bg11.lt
  replace lg13 := bg13.lt
  replace lg14 := bg14.lt
  try simp only [Act.put, List.setIfInBounds_toArray, List.set_cons_zero, List.set_cons_succ]
  go_upto_region 12 with (fail)
  obtain ⟨n86, hn86⟩ : ∃ s : P4, Hid (ofTo X4 32 = s) := ⟨_, Lib.hid rfl⟩
  obtain ⟨n88, hn88⟩ : ∃ s : P4, Hid (ofTo Y4 32 = s) := ⟨_, Lib.hid rfl⟩
  obtain ⟨bF, hbF⟩ : ∃ s, Hid (okR xs2 = s) := ⟨_, Lib.hid rfl⟩
  obtain ⟨hF0, hFN, hF15, -⟩ := rd_code hbF
  rw [hE2.out] at hF0 hFN hF15
  obtain ⟨bN, hbN⟩ : ∃ s, Hid ((!bF) = s) := ⟨_, Lib.hid rfl⟩
  rw [hbN.out] at hFN
  replace hF0 := Lib.hid hF0
  replace hFN := Lib.hid hFN
  replace hF15 := Lib.hid hF15
  obtain ⟨y0, hy0⟩ : ∃ s, Hid (xs2.getD 0 0 = s) := ⟨_, Lib.hid rfl⟩
  obtain ⟨b4, hb4⟩ : ∃ s, Hid (((y0.toNat : Int) == 4) = s) := ⟨_, Lib.hid rfl⟩
  obtain ⟨bO, hbO⟩ : ∃ s, Hid (onN n86 n88 = s) := ⟨_, Lib.hid rfl⟩
  have hbG : Hid ((b4 && bO) = bF) := Lib.hid (by rw [← hbF.out, ok_parts hl2.out eX4.out eY4.out, hy0.out, ← u8_eq4, hb4.out, hn86.out, hn88.out, hbO.out])
  apply wp_region_once_tail (m := 36) (Z := []) (D := [[], [0], [0, 1], [0, 1, 2], [0, 1, 2, 3], [0, 1, 2, 3, 4], [0, 1, 2, 3, 4, 5], [0, 1, 2, 3, 4, 5, 6], [0, 1, 2, 3, 4, 5, 6, 7], [0, 1, 2, 3, 4, 5, 6, 7], [0, 1, 2, 3, 4, 5, 6, 7, 8, 9], [0, 1, 2, 3, 4, 5, 6, 7, 8, 9, 10], [0, 1, 2, 3, 4, 5, 6, 7, 8, 9, 10, 11], [0, 1, 2, 3, 4, 5, 6, 7, 8, 9, 10, 11, 12], [0, 1, 2, 3, 4, 5, 6, 7, 8, 9, 10, 11, 12, 13], [0, 1, 2, 3, 4, 5, 6, 7, 8, 9, 10, 11, 12], [0, 1, 2, 3, 4, 5, 6, 7, 8, 9, 10, 11, 12, 15], [0, 1, 2, 3, 4, 5, 6, 7, 8, 9, 10, 11, 12, 15, 16], [0, 1, 2, 3, 4, 5, 6, 7, 8, 9, 10, 11, 12, 15, 16, 17], [0, 1, 2, 3, 4, 5, 6, 7, 8, 9, 10, 11, 12, 15, 16, 17, 18], [0, 1, 2, 3, 4, 5, 6, 7, 8, 9, 10, 11, 12, 15, 16, 17, 18, 19], [0, 1, 2, 3, 4, 5, 6, 7, 8, 9, 10, 11, 12, 15, 16, 17, 18, 19, 20], [0, 1, 2, 3, 4, 5, 6, 7, 8, 9, 10, 11, 12, 15, 16, 17, 18, 19], [0, 1, 2, 3, 4, 5, 6, 7, 8, 9, 10, 11, 12, 15, 16, 17, 18, 19, 20, 21, 22], [0, 1, 2, 3, 4, 5, 6, 7, 8, 9, 10, 11, 12, 15, 16, 17, 18, 19, 20, 21, 22, 23], [0, 1, 2, 3, 4, 5, 6, 7, 8, 9, 10, 11, 12, 15, 16, 17, 18, 19, 20, 21, 22, 23, 24], [0, 1, 2, 3, 4, 5, 6, 7, 8, 9, 10, 11, 12, 13, 14, 15, 16, 17, 18, 19, 20, 21, 22, 23, 24, 25], [0, 1, 2, 3, 4, 5, 6, 7, 8, 9, 10, 11, 12, 13, 14, 15, 16, 17, 18, 19, 20, 21, 22, 23, 24, 25, 26], [0, 1, 2, 3, 4, 5, 6, 7, 8, 9, 10, 11, 12, 13, 14, 15, 16, 17, 18, 19, 20, 21, 22, 23, 24, 25, 26, 27], [0, 1, 2, 3, 4, 5, 6, 7, 8, 9, 10, 11, 12, 13, 14, 15, 16, 17, 18, 19, 20, 21, 22, 23, 24, 25, 26, 27, 28], [0, 1, 2, 3, 4, 5, 6, 7, 8, 9, 10, 11, 12, 13, 14, 15, 16, 17, 18, 19, 20, 21, 22, 23, 24, 25, 26, 27, 28, 29], [0, 1, 2, 3, 4, 5, 6, 7, 8, 9, 10, 11, 12, 13, 14, 15, 16, 17, 18, 19, 20, 21, 22, 23, 24, 25, 26, 27, 28, 29, 30], [0, 1, 2, 3, 4, 5, 6, 7, 8, 9, 10, 11, 12, 13, 14, 15, 16, 17, 18, 19, 20, 21, 22, 23, 24, 25, 26, 27, 28, 29, 30, 31], [0, 1, 2, 3, 4, 5, 6, 7, 8, 9, 10, 11, 12, 13, 14, 15, 16, 17, 18, 19, 20, 21, 22, 23, 24, 25, 26, 27, 28, 29, 30, 31, 32], [0, 1, 2, 3, 4, 5, 6, 7, 8, 9, 10, 11, 12, 13, 14, 15, 16, 17, 18, 19, 20, 21, 22, 23, 24, 25, 26, 27, 28, 29, 30, 31, 32, 33], [0, 1, 2, 3, 4, 5, 6, 7, 8, 9, 10, 11, 12, 13, 14, 15, 16, 17, 18, 19, 20, 21, 22, 23, 24, 25, 26, 27, 28, 29, 30, 31, 32, 33, 34]]) (J := [[], [0], [1], [2], [3], [3, 4], [3, 5], [6], [7], [7], [7, 8, 9], [7, 10], [11], [12], [12, 13], [12], [12, 15], [12, 16], [12, 17], [12, 18], [19], [19, 20], [19], [19, 22], [19, 21, 23], [12, 19, 24], [12, 14, 25], [12, 26], [27], [28], [28, 29], [28, 30], [31], [31, 32], [28, 31, 33], [28, 34]]) (Je := [35]) (Rs := [Is _, Is _, Is _, Is _, Is _, Is _, Is _, Is _, Is _, Is _, Is _, Is _, Is _, Is _, Is _, Is _, Is _, Is _, Is _, Is _, Maybe b4 true _, Maybe b4 true _, Maybe b4 true _, Maybe b4 true _, Maybe b4 true _, Is (.bool bF), Is _, Is _, Is _, Is _, Is _, Is _, Maybe bN true _, Maybe bN true _, Is (.bool false), Is _])
  ·
   kernel_rfl
  ·
   kernel_rfl
  ·
   kernel_rfl
  ·
   kernel_rfl
  ·
   kernel_rfl
  ·
   kernel_rfl
  ·
   kernel_rfl
  ·
   exact fun h => absurd rfl h
  ·
   intro u
   simp only [List.take_succ_cons, List.take_zero, List.map_cons, List.map_nil, fillU, List.setIfInBounds_toArray, List.set_cons_zero, List.set_cons_succ, Nat.reduceAdd]
   exact rfl
  ·
   simp only [List.take_succ_cons, List.take_zero]
   refine ⟨fun u W hb hd K hK => ?_, ?_⟩
   ·
    clear hd
    go_simp
    apply hK
    ·
     simp only [Act.put, List.setIfInBounds_toArray, List.set_cons_zero, List.set_cons_succ]
     exact rfl
    ·
     exact Below.refl _ _
    ·
     exact IsOut
   refine ⟨fun u W hb hd K hK => ?_, ?_⟩
   ·
    simp only [Facts, nthR, Is, and_true] at hd
    simp only [hd] at hK ⊢
    clear hd
    go_simp
    apply hK
    ·
     simp only [Act.put, List.setIfInBounds_toArray, List.set_cons_zero, List.set_cons_succ]
     exact rfl
    ·
     exact Below.refl _ _
    ·
     exact IsOut
   refine ⟨fun u W hb hd K hK => ?_, ?_⟩
   ·
    simp only [Facts, nthR, Is, and_true] at hd
    simp only [hd] at hK ⊢
    clear hd
    go_simp
    apply hK
    ·
     simp only [Act.put, List.setIfInBounds_toArray, List.set_cons_zero, List.set_cons_succ]
     exact rfl
    ·
     exact Below.refl _ _
    ·
     exact IsOut
   refine ⟨fun u W hb hd K hK => ?_, ?_⟩
   ·
    simp only [Facts, nthR, Is, and_true] at hd
    simp only [hd] at hK ⊢
    clear hd
    go_simp
    apply hK
    ·
     simp only [Act.put, List.setIfInBounds_toArray, List.set_cons_zero, List.set_cons_succ]
     exact rfl
    ·
     exact Below.refl _ _
    ·
     exact IsOut
   refine ⟨fun u W hb hd K hK => ?_, ?_⟩
   ·
    simp only [Facts, nthR, Is, and_true] at hd
    simp only [hd] at hK ⊢
    clear hd
    go_simp
    apply hK
    ·
     simp only [Act.put, List.setIfInBounds_toArray, List.set_cons_zero, List.set_cons_succ]
     exact rfl
    ·
     exact Below.refl _ _
    ·
     exact IsOut
   refine ⟨fun u W hb hd K hK => ?_, ?_⟩
   ·
    simp only [Facts, nthR, Is, and_true] at hd
    simp only [hd] at hK ⊢
    clear hd
    go_simp
    apply hK
    ·
     simp only [Act.put, List.setIfInBounds_toArray, List.set_cons_zero, List.set_cons_succ]
     exact rfl
    ·
     exact Below.refl _ _
    ·
     exact IsOut
   refine ⟨fun u W hb hd K hK => ?_, ?_⟩
   ·
    simp only [Facts, nthR, Is, and_true] at hd
    simp only [hd] at hK ⊢
    clear hd
    go_simp
    apply hK
    ·
     simp only [Act.put, List.setIfInBounds_toArray, List.set_cons_zero, List.set_cons_succ]
     exact rfl
    ·
     exact Below.refl _ _
    ·
     exact IsOut
   refine ⟨fun u W hb hd K hK => ?_, ?_⟩
   ·
    simp only [Facts, nthR, Is, and_true] at hd
    simp only [hd] at hK ⊢
    clear hd
    go_simp
    apply hK
    ·
     simp only [Act.put, List.setIfInBounds_toArray, List.set_cons_zero, List.set_cons_succ]
     exact rfl
    ·
     exact Below.refl _ _
    ·
     exact IsOut
   refine ⟨fun u W hb hd K hK => ?_, ?_⟩
   ·
    simp only [Facts, nthR, Is, and_true] at hd
    simp only [hd] at hK ⊢
    clear hd
    rw [if_pos (by rfl)]
    refine wp_load_mid 24 (.tmp 9) rfl g9 0 rfl (ptV p21) _ (rangeAt_of_blk (bg9.below hb lg9)) Tryd.underlying24 rfl (infoPt.trans (by rw [ptV_length])) ?_
    exact hK _ _ _ rfl (Below.refl _ _) IsOut
   refine ⟨fun u W hb hd K hK => ?_, ?_⟩
   ·
    simp only [Facts, nthR, Is, and_true] at hd
    simp only [hd] at hK ⊢
    clear hd
    rw [if_pos (by rfl)]
    refine wp_load_mid 24 (.tmp 7) rfl g7 0 rfl (ptV p21) _ (rangeAt_of_blk (bg7.below hb lg7)) Tryd.underlying24 rfl (infoPt.trans (by rw [ptV_length])) ?_
    exact hK _ _ _ rfl (Below.refl _ _) IsOut
   refine ⟨fun u W hb hd K hK => ?_, ?_⟩
   ·
    simp only [Facts, nthR, Is, and_true] at hd
    simp only [hd] at hK ⊢
    clear hd
    rw [if_pos (by rfl)]
    refine wp_neqR rfl rfl rfl guardPt (show (Op.equalIn 10000 24 (.agg (ptV p21).toArray) (.agg (ptV p21).toArray)).run Tryd.prog W = .ok (!false) W from EqP (on_of hp21) (on_of hp21) (Lib.hid (decide_eq_true rfl)) W) ?_
    exact hK _ _ (.bool false) rfl (Below.refl _ _) IsOut
   refine ⟨fun u W hb hd K hK => ?_, ?_⟩
   ·
    simp only [Facts, nthR, Is, and_true] at hd
    simp only [hd] at hK ⊢
    clear hd
    go_simp
    apply hK
    ·
     simp only [Act.put, List.setIfInBounds_toArray, List.set_cons_zero, List.set_cons_succ]
     exact rfl
    ·
     exact Below.refl _ _
    ·
     exact IsOut
   refine ⟨fun u W hb hd K hK => ?_, ?_⟩
   ·
    simp only [Facts, nthR, Is, and_true] at hd
    simp only [hd] at hK ⊢
    clear hd
    go_simp
    apply hK
    ·
     simp only [Act.put, List.setIfInBounds_toArray, List.set_cons_zero, List.set_cons_succ]
     exact rfl
    ·
     exact Below.refl _ _
    ·
     exact IsOut
   refine ⟨fun u W hb hd K hK => ?_, ?_⟩
   ·
    simp only [Facts, nthR, Is, and_true] at hd
    simp only [hd] at hK ⊢
    clear hd
    go_simp
    apply hK
    ·
     simp only [Act.put, List.setIfInBounds_toArray, List.set_cons_zero, List.set_cons_succ]
     exact rfl
    ·
     exact Below.refl _ _
    ·
     exact IsOut
   refine ⟨fun u W hb hd K hK => ?_, ?_⟩
   ·
    simp only [Facts, nthR, Is, and_true] at hd
    simp only [hd] at hK ⊢
    clear hd
    have hh := hF0.out
    go_simp
    apply hK
    ·
     simp only [Act.put, List.setIfInBounds_toArray, List.set_cons_zero, List.set_cons_succ]
     exact rfl
    ·
     exact Below.refl _ _
    ·
     exact IsOut
   refine ⟨fun u W hb hd K hK => ?_, ?_⟩
   ·
    simp only [Facts, nthR, Is, and_true] at hd
    simp only [hd] at hK ⊢
    clear hd
    go_simp
    apply hK
    ·
     simp only [Act.put, List.setIfInBounds_toArray, List.set_cons_zero, List.set_cons_succ]
     exact rfl
    ·
     exact Below.refl _ _
    ·
     exact IsOut
   refine ⟨fun u W hb hd K hK => ?_, ?_⟩
   ·
    simp only [Facts, nthR, Is, and_true] at hd
    simp only [hd] at hK ⊢
    clear hd
    go_simp
    apply hK
    ·
     simp only [Act.put, List.setIfInBounds_toArray, List.set_cons_zero, List.set_cons_succ]
     exact rfl
    ·
     exact Below.refl _ _
    ·
     exact IsOut
   refine ⟨fun u W hb hd K hK => ?_, ?_⟩
   ·
    simp only [Facts, nthR, Is, and_true] at hd
    simp only [hd] at hK ⊢
    clear hd
    have hc := (buf_row (fb.below hb) (by decide)).first (by rw [hl2.out]; decide)
    rw [hy0.out] at hc
    go_simp
    apply hK
    ·
     simp only [Act.put, List.setIfInBounds_toArray, List.set_cons_zero, List.set_cons_succ]
     exact rfl
    ·
     exact Below.refl _ _
    ·
     exact IsOut
   refine ⟨fun u W hb hd K hK => ?_, ?_⟩
   ·
    simp only [Facts, nthR, Is, and_true] at hd
    simp only [hd] at hK ⊢
    clear hd
    have hh := hb4.out
    go_simp
    apply hK
    ·
     simp only [Act.put, List.setIfInBounds_toArray, List.set_cons_zero, List.set_cons_succ]
     exact rfl
    ·
     exact Below.refl _ _
    ·
     exact IsOut
   refine ⟨fun u W hb hd K hK => ?_, ?_⟩
   ·
    simp only [Facts, nthR, Is, and_true] at hd
    simp only [hd] at hK ⊢
    clear hd
    go_simp
    apply hK
    ·
     simp only [Act.put, List.setIfInBounds_toArray, List.set_cons_zero, List.set_cons_succ]
     exact rfl
    ·
     exact Below.refl _ _
    ·
     exact IsOut
   refine ⟨fun u W hb hd K hK => ?_, ?_⟩
   ·
    simp only [Facts, nthR, Is, and_true] at hd
    have h19 := hd
    by_cases hc : b4 = true
    ·
     simp only [h19, hc] at hK ⊢
     rw [if_pos (by rfl)]
     refine wp_load_mid 22 (.tmp 13) rfl g13 0 rfl (X4.map B8) _ (rangeAt_of_blk (bg13.below hb lg13)) Tryd.underlying22 rfl (info40.trans (by rw [List.length_map, (hX4l).out])) ?_
     exact hK _ _ _ rfl (Below.refl _ _) fun _ => IsOut (w := W)
    ·
     have hc' : b4 = false := by cases b4 <;> simp_all
     simp only [h19, hc'] at hK ⊢
     go_simp
     apply hK
     ·
      simp only [Act.put, List.setIfInBounds_toArray, List.set_cons_zero, List.set_cons_succ]
      exact rfl
     ·
      exact Below.refl _ _
     ·
      exact fun h => by cases h
   refine ⟨fun u W hb hd K hK => ?_, ?_⟩
   ·
    simp only [Facts, nthR, Is, and_true] at hd
    obtain ⟨h19, h20⟩ := hd
    by_cases hc : b4 = true
    ·
     replace h20 := h20 hc
     simp only [h19, h20, hc] at hK ⊢
     go_simp
     refine (ROf hn86 (hX4l) _).mono ?_
     rintro e wy ⟨rfl, hby⟩
     exact hK _ _ _ rfl hby fun _ => IsOut (w := W)
    ·
     have hc' : b4 = false := by cases b4 <;> simp_all
     simp only [h19, hc'] at hK ⊢
     go_simp
     apply hK
     ·
      simp only [Act.put, List.setIfInBounds_toArray, List.set_cons_zero, List.set_cons_succ]
      exact rfl
     ·
      exact Below.refl _ _
     ·
      exact fun h => by cases h
   refine ⟨fun u W hb hd K hK => ?_, ?_⟩
   ·
    simp only [Facts, nthR, Is, and_true] at hd
    have h19 := hd
    by_cases hc : b4 = true
    ·
     simp only [h19, hc] at hK ⊢
     rw [if_pos (by rfl)]
     refine wp_load_mid 22 (.tmp 14) rfl g14 0 rfl (Y4.map B8) _ (rangeAt_of_blk (bg14.below hb lg14)) Tryd.underlying22 rfl (info40.trans (by rw [List.length_map, (hY4l).out])) ?_
     exact hK _ _ _ rfl (Below.refl _ _) fun _ => IsOut (w := W)
    ·
     have hc' : b4 = false := by cases b4 <;> simp_all
     simp only [h19, hc'] at hK ⊢
     go_simp
     apply hK
     ·
      simp only [Act.put, List.setIfInBounds_toArray, List.set_cons_zero, List.set_cons_succ]
      exact rfl
     ·
      exact Below.refl _ _
     ·
      exact fun h => by cases h
   refine ⟨fun u W hb hd K hK => ?_, ?_⟩
   ·
    simp only [Facts, nthR, Is, and_true] at hd
    obtain ⟨h19, h22⟩ := hd
    by_cases hc : b4 = true
    ·
     replace h22 := h22 hc
     simp only [h19, h22, hc] at hK ⊢
     go_simp
     refine (ROf hn88 (hY4l) _).mono ?_
     rintro e wy ⟨rfl, hby⟩
     exact hK _ _ _ rfl hby fun _ => IsOut (w := W)
    ·
     have hc' : b4 = false := by cases b4 <;> simp_all
     simp only [h19, hc'] at hK ⊢
     go_simp
     apply hK
     ·
      simp only [Act.put, List.setIfInBounds_toArray, List.set_cons_zero, List.set_cons_succ]
      exact rfl
     ·
      exact Below.refl _ _
     ·
      exact fun h => by cases h
   refine ⟨fun u W hb hd K hK => ?_, ?_⟩
   ·
    simp only [Facts, nthR, Is, and_true] at hd
    obtain ⟨h19, h21, h23⟩ := hd
    by_cases hc : b4 = true
    ·
     replace h21 := h21 hc
     replace h23 := h23 hc
     simp only [h19, h21, h23, hc] at hK ⊢
     go_simp
     refine (ROn (ok_of hn86) (ok_of hn88) hbO _).mono ?_
     rintro e wy ⟨rfl, hby⟩
     exact hK _ _ _ rfl hby fun _ => IsOut (w := W)
    ·
     have hc' : b4 = false := by cases b4 <;> simp_all
     simp only [h19, hc'] at hK ⊢
     go_simp
     apply hK
     ·
      simp only [Act.put, List.setIfInBounds_toArray, List.set_cons_zero, List.set_cons_succ]
      exact rfl
     ·
      exact Below.refl _ _
     ·
      exact fun h => by cases h
   refine ⟨fun u W hb hd K hK => ?_, ?_⟩
   ·
    simp only [Facts, nthR, Is, and_true] at hd
    obtain ⟨h12, h19, h24⟩ := hd
    by_cases hc : b4 = true
    ·
     replace h24 := h24 hc
     simp only [h12, h19, h24, hc] at hK ⊢
     go_simp
     apply hK
     ·
      simp only [Act.put, List.setIfInBounds_toArray, List.set_cons_zero, List.set_cons_succ]
      exact rfl
     ·
      exact Below.refl _ _
     ·
      exact (by have hz := hbG.out; rw [hc, Bool.true_and] at hz; rw [← hz]; exact IsOut)
    ·
     have hc' : b4 = false := by cases b4 <;> simp_all
     simp only [h12, h19, hc'] at hK ⊢
     go_simp
     apply hK
     ·
      simp only [Act.put, List.setIfInBounds_toArray, List.set_cons_zero, List.set_cons_succ]
      exact rfl
     ·
      exact Below.refl _ _
     ·
      exact (by have hz := hbG.out; rw [hc', Bool.false_and] at hz; rw [← hz]; exact IsOut)
   refine ⟨fun u W hb hd K hK => ?_, ?_⟩
   ·
    simp only [Facts, nthR, Is, and_true] at hd
    simp only [hd] at hK ⊢
    clear hd
    go_simp
    apply hK
    ·
     simp only [Act.put, List.setIfInBounds_toArray, List.set_cons_zero, List.set_cons_succ]
     exact rfl
    ·
     exact Below.refl _ _
    ·
     exact IsOut
   refine ⟨fun u W hb hd K hK => ?_, ?_⟩
   ·
    simp only [Facts, nthR, Is, and_true] at hd
    simp only [hd] at hK ⊢
    clear hd
    go_simp
    apply hK
    ·
     simp only [Act.put, List.setIfInBounds_toArray, List.set_cons_zero, List.set_cons_succ]
     exact rfl
    ·
     exact Below.refl _ _
    ·
     exact IsOut
   refine ⟨fun u W hb hd K hK => ?_, ?_⟩
   ·
    simp only [Facts, nthR, Is, and_true] at hd
    simp only [hd] at hK ⊢
    clear hd
    go_simp
    apply hK
    ·
     simp only [Act.put, List.setIfInBounds_toArray, List.set_cons_zero, List.set_cons_succ]
     exact rfl
    ·
     exact Below.refl _ _
    ·
     exact IsOut
   refine ⟨fun u W hb hd K hK => ?_, ?_⟩
   ·
    simp only [Facts, nthR, Is, and_true] at hd
    simp only [hd] at hK ⊢
    clear hd
    go_simp
    apply hK
    ·
     simp only [Act.put, List.setIfInBounds_toArray, List.set_cons_zero, List.set_cons_succ]
     exact rfl
    ·
     exact Below.refl _ _
    ·
     exact IsOut
   refine ⟨fun u W hb hd K hK => ?_, ?_⟩
   ·
    simp only [Facts, nthR, Is, and_true] at hd
    simp only [hd] at hK ⊢
    clear hd
    have hh := hFN.out
    go_simp
    apply hK
    ·
     simp only [Act.put, List.setIfInBounds_toArray, List.set_cons_zero, List.set_cons_succ]
     exact rfl
    ·
     exact Below.refl _ _
    ·
     exact IsOut
   refine ⟨fun u W hb hd K hK => ?_, ?_⟩
   ·
    simp only [Facts, nthR, Is, and_true] at hd
    simp only [hd] at hK ⊢
    clear hd
    go_simp
    apply hK
    ·
     simp only [Act.put, List.setIfInBounds_toArray, List.set_cons_zero, List.set_cons_succ]
     exact rfl
    ·
     exact Below.refl _ _
    ·
     exact IsOut
   refine ⟨fun u W hb hd K hK => ?_, ?_⟩
   ·
    simp only [Facts, nthR, Is, and_true] at hd
    have h31 := hd
    by_cases hc : bN = true
    ·
     simp only [h31, hc] at hK ⊢
     go_simp
     apply hK
     ·
      simp only [Act.put, List.setIfInBounds_toArray, List.set_cons_zero, List.set_cons_succ]
      exact rfl
     ·
      exact Below.refl _ _
     ·
      exact fun _ => IsOut (w := W)
    ·
     have hc' : bN = false := by cases bN <;> simp_all
     simp only [h31, hc'] at hK ⊢
     go_simp
     apply hK
     ·
      simp only [Act.put, List.setIfInBounds_toArray, List.set_cons_zero, List.set_cons_succ]
      exact rfl
     ·
      exact Below.refl _ _
     ·
      exact fun h => by cases h
   refine ⟨fun u W hb hd K hK => ?_, ?_⟩
   ·
    simp only [Facts, nthR, Is, and_true] at hd
    obtain ⟨h31, h32⟩ := hd
    by_cases hc : bN = true
    ·
     replace h32 := h32 hc
     simp only [h31, h32, hc] at hK ⊢
     have hh := hF15.out
     go_simp
     apply hK
     ·
      simp only [Act.put, List.setIfInBounds_toArray, List.set_cons_zero, List.set_cons_succ]
      exact rfl
     ·
      exact Below.refl _ _
     ·
      exact fun _ => IsOut (w := W)
    ·
     have hc' : bN = false := by cases bN <;> simp_all
     simp only [h31, hc'] at hK ⊢
     go_simp
     apply hK
     ·
      simp only [Act.put, List.setIfInBounds_toArray, List.set_cons_zero, List.set_cons_succ]
      exact rfl
     ·
      exact Below.refl _ _
     ·
      exact fun h => by cases h
   refine ⟨fun u W hb hd K hK => ?_, ?_⟩
   ·
    simp only [Facts, nthR, Is, and_true] at hd
    obtain ⟨h28, h31, h33⟩ := hd
    by_cases hc : bN = true
    ·
     replace h33 := h33 hc
     simp only [h28, h31, h33, hc] at hK ⊢
     go_simp
     apply hK
     ·
      simp only [Act.put, List.setIfInBounds_toArray, List.set_cons_zero, List.set_cons_succ]
      exact rfl
     ·
      exact Below.refl _ _
     ·
      exact (by have hz := hbN.out; rw [hc] at hz; cases bF with | false => exact IsOut | true => cases hz)
    ·
     have hc' : bN = false := by cases bN <;> simp_all
     simp only [h28, h31, hc'] at hK ⊢
     go_simp
     apply hK
     ·
      simp only [Act.put, List.setIfInBounds_toArray, List.set_cons_zero, List.set_cons_succ]
      exact rfl
     ·
      exact Below.refl _ _
     ·
      exact IsOut
   refine ⟨fun u W hb hd K hK => ?_, ?_⟩
   ·
    simp only [Facts, nthR, Is, and_true] at hd
    simp only [hd] at hK ⊢
    clear hd
    go_simp
    apply hK
    ·
     simp only [Act.put, List.setIfInBounds_toArray, List.set_cons_zero, List.set_cons_succ]
     exact rfl
    ·
     exact Below.refl _ _
    ·
     exact IsOut
   exact trivial
  ·
   skip
   exact trivial
  ·
   exact (.is (.is (.is (.is (.is (.is (.is (.is (.is (.is (.is (.is (.is (.is (.is (.is (.is (.is (.is (.is (.cons (fun _ _ _ h _ => h) (.cons (fun _ _ _ h _ => h) (.cons (fun _ _ _ h _ => h) (.cons (fun _ _ _ h _ => h) (.cons (fun _ _ _ h _ => h) (.cons (fun _ _ _ h _ => h) (.is (.is (.is (.is (.is (.is (.cons (fun _ _ _ h _ => h) (.cons (fun _ _ _ h _ => h) (.cons (fun _ _ _ h _ => h) (.is .nil))))))))))))))))))))))))))))))))))))
  intro u w19 hb hd
  simp only [List.drop_succ_cons, List.drop_zero]
  simp only [Facts, nthR, Is, and_true] at hd
  have h35 := hd
  clear hd
  simp only [h35]
  clear h35
  replace bg3 := bg3.below hb lg3
  replace bg7 := bg7.below hb lg7
  replace bg9 := bg9.below hb lg9
  replace bg11 := bg11.below hb lg11
  replace bg13 := bg13.below hb lg13
  replace bg14 := bg14.below hb lg14
  replace hb0 := hb0.trans (hb.mono hb0.size)
  replace lg3 := bg3.lt
  replace lg7 := bg7.lt
  replace lg9 := bg9.lt
  replace lg11 := bg11.lt
  replace lg13 := bg13.lt
  replace lg14 := bg14.lt
  replace fb := fb.below hb
  clear hb
  go_upto_region 14 with (fail)
  clear bg3 lg3 og3 bg7 lg7 og7 bg9 lg9 og9 bg11 lg11 og11 bg13 lg13 og13 bg14 lg14 og14 fb
  obtain ⟨wz, hwz⟩ : ∃ x, x = w19 := ⟨_, rfl⟩
  subst hwz
 all_goals (
  obtain ⟨m3, hm3, hm3'⟩ := ix_min (n := no)
  replace hm3 := Lib.hid hm3
  replace hm3' := Lib.hid hm3'
  obtain ⟨xs3, hx3⟩ : ∃ s, Hid (s = xs.take m3) := ⟨_, Lib.hid rfl⟩
  have hl3 : Hid ((xs.take m3).length = m3) := Lib.hid (by rw [List.length_take, hN, hm3'.out]; omega)
  obtain ⟨X3, hX3⟩ : ∃ s, Hid (rdX (xs.take m3) = s) := ⟨_, Lib.hid rfl⟩
  obtain ⟨Y3, hY3⟩ : ∃ s, Hid (rdY (xs.take m3) = s) := ⟨_, Lib.hid rfl⟩
  have hX3l : Hid (X3.length = 32) := Lib.hid (by rw [← hX3.out]; exact rdX_length _)
  have hY3l : Hid (Y3.length = 32) := Lib.hid (by rw [← hY3.out]; exact rdY_length _)
  apply wp_plain_once (m := 5) (J := [[], [], [1], [2], [0, 3]]) (Je := [4]) (Rs := [Is _, Is _, Is _, Is _, Is _])
  ·
   kernel_rfl
  ·
   kernel_rfl
  ·
   intro u
   simp only [List.take_succ_cons, List.take_zero, List.map_cons, List.map_nil, fillU, List.setIfInBounds_toArray, List.set_cons_zero, List.set_cons_succ, Nat.reduceAdd]
   exact rfl
  ·
   simp only [List.take_succ_cons, List.take_zero]
   refine ⟨fun u W hb hd K hK => ?_, ?_⟩
   ·
    clear hd
    go_simp
    apply hK
    ·
     simp only [Act.put, List.setIfInBounds_toArray, List.set_cons_zero, List.set_cons_succ]
     exact rfl
    ·
     exact Below.refl _ _
    ·
     exact IsOut
   refine ⟨fun u W hb hd K hK => ?_, ?_⟩
   ·
    clear hd
    go_simp
    apply hK
    ·
     simp only [Act.put, List.setIfInBounds_toArray, List.set_cons_zero, List.set_cons_succ]
     exact rfl
    ·
     exact Below.refl _ _
    ·
     exact IsOut
   refine ⟨fun u W hb hd K hK => ?_, ?_⟩
   ·
    simp only [Facts, nthR, Is, and_true] at hd
    simp only [hd] at hK ⊢
    clear hd
    go_simp
    apply hK
    ·
     simp only [Act.put, List.setIfInBounds_toArray, List.set_cons_zero, List.set_cons_succ]
     exact rfl
    ·
     exact Below.refl _ _
    ·
     exact IsOut
   refine ⟨fun u W hb hd K hK => ?_, ?_⟩
   ·
    simp only [Facts, nthR, Is, and_true] at hd
    simp only [hd] at hK ⊢
    clear hd
    have hw := hm3.out
    go_simp
    apply hK
    ·
     simp only [Act.put, List.setIfInBounds_toArray, List.set_cons_zero, List.set_cons_succ]
     exact rfl
    ·
     exact Below.refl _ _
    ·
     exact IsOut
   refine ⟨fun u W hb hd K hK => ?_, ?_⟩
   ·
    simp only [Facts, nthR, Is, and_true] at hd
    simp only [hd] at hK ⊢
    clear hd
    rw [if_pos (by rfl)]
    refine wp_ahead rfl rfl (hi := m3) rfl (by have h := hI.1; have h1 := hm3'.out; have h2 := hN; omega) ?_
    exact hK _ _ _ rfl (Below.refl _ _) IsOut
   exact trivial
  ·
   exact (.is (.is (.is (.is (.is .nil)))))
  intro u w61 hb hd
  simp only [List.drop_succ_cons, List.drop_zero]
  simp only [Facts, nthR, Is, and_true] at hd
  have h4 := hd
  clear hd
  simp only [h4]
  clear h4
  replace hb0 := hb0.trans (hb.mono hb0.size)
  clear hb
  go_upto_region 15 with (fail)
  cases hok : okR (xs.take m3) with
  | true =>
   have hE3 := Lib.hid (rd_yes hok)
   apply wp_plain_once (m := 5) (J := [[], [0], [1], [2], [2]]) (Je := [3, 4]) (Rs := [Is _, Is _, Is _, Is _, Is _])
   ·
    kernel_rfl
   ·
    kernel_rfl
   ·
    intro u
    simp only [List.take_succ_cons, List.take_zero, List.map_cons, List.map_nil, fillU, List.setIfInBounds_toArray, List.set_cons_zero, List.set_cons_succ, Nat.reduceAdd]
    exact rfl
   ·
    simp only [List.take_succ_cons, List.take_zero]
    refine ⟨fun u W hb hd K hK => ?_, ?_⟩
    ·
     clear hd
     go_simp
     apply hK
     ·
      simp only [Act.put, List.setIfInBounds_toArray, List.set_cons_zero, List.set_cons_succ]
      exact rfl
     ·
      exact Below.refl _ _
     ·
      exact IsOut
    refine ⟨fun u W hb hd K hK => ?_, ?_⟩
    ·
     simp only [Facts, nthR, Is, and_true] at hd
     simp only [hd] at hK ⊢
     clear hd
     go_simp
     refine (ReadH hX3 hY3 hE3 hl3.out ((hI.up (hb0.trans (hb.mono hb0.size))).take m3) (hT.up hb0 hb)).mono ?_
     rintro e wy ⟨rfl, hby⟩
     exact hK _ _ _ rfl hby IsOut
    refine ⟨fun u W hb hd K hK => ?_, ?_⟩
    ·
     simp only [Facts, nthR, Is, and_true] at hd
     simp only [hd] at hK ⊢
     clear hd
     go_simp
     apply hK
     ·
      simp only [Act.put, List.setIfInBounds_toArray, List.set_cons_zero, List.set_cons_succ]
      exact rfl
     ·
      exact Below.refl _ _
     ·
      exact IsOut
    refine ⟨fun u W hb hd K hK => ?_, ?_⟩
    ·
     simp only [Facts, nthR, Is, and_true] at hd
     simp only [hd] at hK ⊢
     clear hd
     go_simp
     apply hK
     ·
      simp only [Act.put, List.setIfInBounds_toArray, List.set_cons_zero, List.set_cons_succ]
      exact rfl
     ·
      exact Below.refl _ _
     ·
      exact IsOut
    refine ⟨fun u W hb hd K hK => ?_, ?_⟩
    ·
     simp only [Facts, nthR, Is, and_true] at hd
     simp only [hd] at hK ⊢
     clear hd
     go_simp
     apply hK
     ·
      simp only [Act.put, List.setIfInBounds_toArray, List.set_cons_zero, List.set_cons_succ]
      exact rfl
     ·
      exact Below.refl _ _
     ·
      exact IsOut
    exact trivial
   ·
    exact (.is (.is (.is (.is (.is .nil)))))
   intro u w62 hb hd
   simp only [List.drop_succ_cons, List.drop_zero]
   simp only [Facts, nthR, Is, and_true] at hd
   obtain ⟨h3, h4⟩ := hd
   simp only [h3, h4]
   clear h3 h4
   replace hb0 := hb0.trans (hb.mono hb0.size)
   clear hb
   refine wpList_new_store rfl 24 rfl rfl (ptV none) zeroPt rfl rfl rfl (ptC X3 Y3) (fun _ => rfl) (fun _ => rfl) (infoPt.trans (by rw [ptC_length (hX3l).out (hY3l).out])) (by first | with_reducible rfl | rw [ptV_length, ptC_length (hX3l).out (hY3l).out] | rw [ptV_length]) (onePt _ _) ?_
   intro g15 w63 hg bg15 hb
   have og15 := Lib.hid (show w.heap.size ≤ g15 from Nat.le_trans hb0.size (Nat.le_of_eq hg.symm))
   clear hg
   replace hb0 := hb0.trans (hb.mono hb0.size)
   clear hb
   have lg15 := bg15.lt
   try simp only [Act.put, List.setIfInBounds_toArray, List.set_cons_zero, List.set_cons_succ]
   go_upto_region 16 with (fail)
   apply wp_plain_once (m := 2) (J := [[], [0]]) (Je := [1]) (Rs := [Is _, Is _])
   ·
    kernel_rfl
   ·
    kernel_rfl
   ·
    intro u
    simp only [List.take_succ_cons, List.take_zero, List.map_cons, List.map_nil, fillU, List.setIfInBounds_toArray, List.set_cons_zero, List.set_cons_succ, Nat.reduceAdd]
    exact rfl
   ·
    simp only [List.take_succ_cons, List.take_zero]
    refine ⟨fun u W hb hd K hK => ?_, ?_⟩
    ·
     clear hd
     go_simp
     apply hK
     ·
      simp only [Act.put, List.setIfInBounds_toArray, List.set_cons_zero, List.set_cons_succ]
      exact rfl
     ·
      exact Below.refl _ _
     ·
      exact IsOut
    refine ⟨fun u W hb hd K hK => ?_, ?_⟩
    ·
     simp only [Facts, nthR, Is, and_true] at hd
     simp only [hd] at hK ⊢
     clear hd
     go_simp
     apply hK
     ·
      simp only [Act.put, List.setIfInBounds_toArray, List.set_cons_zero, List.set_cons_succ]
      exact rfl
     ·
      exact Below.refl _ _
     ·
      exact IsOut
    exact trivial
   ·
    exact (.is (.is .nil))
   intro u w64 hb hd
   simp only [List.drop_succ_cons, List.drop_zero]
   simp only [Facts, nthR, Is, and_true] at hd
   have h1 := hd
   clear hd
   simp only [h1]
   clear h1
   replace bg15 := bg15.below hb lg15
   replace hb0 := hb0.trans (hb.mono hb0.size)
   replace lg15 := bg15.lt
   clear hb
   go_upto_region 23 with (fail)
   have hwr : Hid (wrB X3 Y3 = xs3) := Lib.hid (by rw [← hX3.out, ← hY3.out, wr_rd hok, hx3.out])
   apply wp_region_once_tail (m := 6) (Z := []) (D := [[], [0], [0, 1], [], [3], [0, 1, 2, 3, 4], [0, 1, 2, 3, 4, 5]]) (J := [[], [0], [1], [], [3], [2, 4]]) (Je := [5]) (Rs := [Is _, fun v V => ∃ A c, v = .slice A xs3.length c ∧ In V V.heap.size A c xs3, Is _, Is _, Is _, Is _])
   ·
    kernel_rfl
   ·
    kernel_rfl
   ·
    kernel_rfl
   ·
    kernel_rfl
   ·
    kernel_rfl
   ·
    kernel_rfl
   ·
    kernel_rfl
   ·
    exact fun h => absurd rfl h
   ·
    intro u
    simp only [List.take_succ_cons, List.take_zero, List.map_cons, List.map_nil, fillU, List.setIfInBounds_toArray, List.set_cons_zero, List.set_cons_succ, Nat.reduceAdd]
    exact rfl
   ·
    simp only [List.take_succ_cons, List.take_zero]
    refine ⟨fun u W hb hd K hK => ?_, ?_⟩
    ·
     clear hd
     rw [if_pos (by rfl)]
     refine wp_load_mid 24 (.tmp 15) rfl g15 0 rfl (ptC X3 Y3) _ (rangeAt_of_blk (bg15.below hb lg15)) Tryd.underlying24 rfl (infoPt.trans (by rw [ptC_length (hX3l).out (hY3l).out])) ?_
     exact hK _ _ _ rfl (Below.refl _ _) IsOut
    refine ⟨fun u W hb hd K hK => ?_, ?_⟩
    ·
     simp only [Facts, nthR, Is, and_true] at hd
     simp only [hd] at hK ⊢
     clear hd
     go_simp
     refine (WriteC (hT.up hb0 hb) hX3l hY3l hwr).mono ?_
     rintro e wy ⟨A, c, rfl, hF, hby⟩
     exact hK _ _ _ rfl hby ⟨A, c, rfl, hF.toIn (Nat.le_refl _)⟩
    refine ⟨fun u W hb hd K hK => ?_, ?_⟩
    ·
     simp only [Facts, nthR, and_true] at hd
     obtain ⟨A, c, h1, hF⟩ := hd
     simp only [h1] at hK ⊢
     have hcv := conv_in rfl hF
     go_simp
     apply hK
     ·
      simp only [Act.put, List.setIfInBounds_toArray, List.set_cons_zero, List.set_cons_succ]
      exact rfl
     ·
      exact Below.refl _ _
     ·
      exact IsOut
    refine ⟨fun u W hb hd K hK => ?_, ?_⟩
    ·
     clear hd
     go_simp
     apply hK
     ·
      simp only [Act.put, List.setIfInBounds_toArray, List.set_cons_zero, List.set_cons_succ]
      exact rfl
     ·
      exact Below.refl _ _
     ·
      exact IsOut
    refine ⟨fun u W hb hd K hK => ?_, ?_⟩
    ·
     simp only [Facts, nthR, Is, and_true] at hd
     simp only [hd] at hK ⊢
     clear hd
     have hcv := conv_in (y := xs3) (show xs3.length = m3 by rw [hx3.out]; exact hl3.out) (show In W W.heap.size A3 c3 xs3 by rw [hx3.out]; exact ((hI.up (hb0.trans (hb.mono hb0.size))).take m3))
     go_simp
     apply hK
     ·
      simp only [Act.put, List.setIfInBounds_toArray, List.set_cons_zero, List.set_cons_succ]
      exact rfl
     ·
      exact Below.refl _ _
     ·
      exact IsOut
    refine ⟨fun u W hb hd K hK => ?_, ?_⟩
    ·
     simp only [Facts, nthR, Is, and_true] at hd
     simp only [hd] at hK ⊢
     clear hd
     go_simp
     apply hK
     ·
      simp only [Act.put, List.setIfInBounds_toArray, List.set_cons_zero, List.set_cons_succ]
      exact rfl
     ·
      exact Below.refl _ _
     ·
      exact IsOut
    exact trivial
   ·
    skip
    exact trivial
   ·
    exact (.is (.cons (fun v V V' ⟨A, c, h1, h2⟩ hb => ⟨A, c, h1, h2.up hb⟩) (.is (.is (.is (.is .nil))))))
   intro u w65 hb hd
   simp only [List.drop_succ_cons, List.drop_zero]
   simp only [Facts, nthR, Is, and_true] at hd
   have h5 := hd
   clear hd
   simp only [h5]
   clear h5
   replace bg15 := bg15.below hb lg15
   replace hb0 := hb0.trans (hb.mono hb0.size)
   replace lg15 := bg15.lt
   clear hb
   go_wp2_with (fail)
   refine bodyPost_ret (results_tmp Tryd.results7 _ _ _) rfl ?_
   exact ⟨rfl, hb0⟩
  | false =>
   have hE3 := Lib.hid (rd_not hok).2.2
   by_cases hl65 : m3 = 65
   ·
    have hR3 := row_of_in hI (by have h := hm3'.out; omega)
    obtain ⟨g3', o3', rfl, hR3'⟩ := hR3
    have h65c : Hid (65 ≤ c3) := Lib.hid (by have h := hI.1; have h1 := hm3'.out; omega)
    subst hl65
    have hR3 : RowAt w g3' o3' (xs.take 65) := ⟨hR3'.1, hR3'.2.take 65⟩
    have hl65 := hl3.out
    obtain ⟨y0, hy0⟩ : ∃ s, Hid ((xs.take 65).getD 0 0 = s) := ⟨_, Lib.hid rfl⟩
    obtain ⟨X4, eX4⟩ : ∃ s, Hid (s = ((xs.take 65).drop 1).take 32) := ⟨_, Lib.hid rfl⟩
    obtain ⟨Y4, eY4⟩ : ∃ s, Hid (s = ((xs.take 65).drop 33).take 32) := ⟨_, Lib.hid rfl⟩
    have hX4l : Hid (X4.length = 32) := Lib.hid (part32 eX4.out (by rw [hl65]; decide))
    have hY4l : Hid (Y4.length = 32) := Lib.hid (part32 eY4.out (by rw [hl65]; decide))
    rw [ok_parts hl65 eX4.out eY4.out, hy0.out, ← u8_eq4] at hok
    clear hR3'
    cases hb4 : ((y0.toNat : Int) == 4) with
    | false =>
     replace hb4 := Lib.hid hb4
     apply wp_plain_once (m := 5) (J := [[], [0], [1], [2], [2]]) (Je := [3, 4]) (Rs := [Is _, Is _, Is _, Is _, Is _])
     ·
      kernel_rfl
     ·
      kernel_rfl
     ·
      intro u
      simp only [List.take_succ_cons, List.take_zero, List.map_cons, List.map_nil, fillU, List.setIfInBounds_toArray, List.set_cons_zero, List.set_cons_succ, Nat.reduceAdd]
      exact rfl
     ·
      simp only [List.take_succ_cons, List.take_zero]
      refine ⟨fun u W hb hd K hK => ?_, ?_⟩
      ·
       clear hd
       go_simp
       apply hK
       ·
        simp only [Act.put, List.setIfInBounds_toArray, List.set_cons_zero, List.set_cons_succ]
        exact rfl
       ·
        exact Below.refl _ _
       ·
        exact IsOut
      refine ⟨fun u W hb hd K hK => ?_, ?_⟩
      ·
       simp only [Facts, nthR, Is, and_true] at hd
       simp only [hd] at hK ⊢
       clear hd
       go_simp
       refine (ReadH hX3 hY3 hE3 hl3.out ((hI.up (hb0.trans (hb.mono hb0.size))).take 65) (hT.up hb0 hb)).mono ?_
       rintro e wy ⟨rfl, hby⟩
       exact hK _ _ _ rfl hby IsOut
      refine ⟨fun u W hb hd K hK => ?_, ?_⟩
      ·
       simp only [Facts, nthR, Is, and_true] at hd
       simp only [hd] at hK ⊢
       clear hd
       go_simp
       apply hK
       ·
        simp only [Act.put, List.setIfInBounds_toArray, List.set_cons_zero, List.set_cons_succ]
        exact rfl
       ·
        exact Below.refl _ _
       ·
        exact IsOut
      refine ⟨fun u W hb hd K hK => ?_, ?_⟩
      ·
       simp only [Facts, nthR, Is, and_true] at hd
       simp only [hd] at hK ⊢
       clear hd
       go_simp
       apply hK
       ·
        simp only [Act.put, List.setIfInBounds_toArray, List.set_cons_zero, List.set_cons_succ]
        exact rfl
       ·
        exact Below.refl _ _
       ·
        exact IsOut
      refine ⟨fun u W hb hd K hK => ?_, ?_⟩
      ·
       simp only [Facts, nthR, Is, and_true] at hd
       simp only [hd] at hK ⊢
       clear hd
       go_simp
       apply hK
       ·
        simp only [Act.put, List.setIfInBounds_toArray, List.set_cons_zero, List.set_cons_succ]
        exact rfl
       ·
        exact Below.refl _ _
       ·
        exact IsOut
      exact trivial
     ·
      exact (.is (.is (.is (.is (.is .nil)))))
     intro u w62 hb hd
     simp only [List.drop_succ_cons, List.drop_zero]
     simp only [Facts, nthR, Is, and_true] at hd
     obtain ⟨h3, h4⟩ := hd
     simp only [h3, h4]
     clear h3 h4
     replace hb0 := hb0.trans (hb.mono hb0.size)
     clear hb
     refine wpList_new_store rfl 24 rfl rfl (ptV none) zeroPt rfl rfl rfl (ptC X3 Y3) (fun _ => rfl) (fun _ => rfl) (infoPt.trans (by rw [ptC_length (hX3l).out (hY3l).out])) (by first | with_reducible rfl | rw [ptV_length, ptC_length (hX3l).out (hY3l).out] | rw [ptV_length]) (onePt _ _) ?_
     intro g15 w63 hg bg15 hb
     have og15 := Lib.hid (show w.heap.size ≤ g15 from Nat.le_trans hb0.size (Nat.le_of_eq hg.symm))
     clear hg
     replace hb0 := hb0.trans (hb.mono hb0.size)
     clear hb
     have lg15 := bg15.lt
     try simp only [Act.put, List.setIfInBounds_toArray, List.set_cons_zero, List.set_cons_succ]
     go_upto_region 16 with (fail)
     apply wp_plain_once (m := 2) (J := [[], [0]]) (Je := [1]) (Rs := [Is _, Is _])
     ·
      kernel_rfl
     ·
      kernel_rfl
     ·
      intro u
      simp only [List.take_succ_cons, List.take_zero, List.map_cons, List.map_nil, fillU, List.setIfInBounds_toArray, List.set_cons_zero, List.set_cons_succ, Nat.reduceAdd]
      exact rfl
     ·
      simp only [List.take_succ_cons, List.take_zero]
      refine ⟨fun u W hb hd K hK => ?_, ?_⟩
      ·
       clear hd
       go_simp
       apply hK
       ·
        simp only [Act.put, List.setIfInBounds_toArray, List.set_cons_zero, List.set_cons_succ]
        exact rfl
       ·
        exact Below.refl _ _
       ·
        exact IsOut
      refine ⟨fun u W hb hd K hK => ?_, ?_⟩
      ·
       simp only [Facts, nthR, Is, and_true] at hd
       simp only [hd] at hK ⊢
       clear hd
       go_simp
       apply hK
       ·
        simp only [Act.put, List.setIfInBounds_toArray, List.set_cons_zero, List.set_cons_succ]
        exact rfl
       ·
        exact Below.refl _ _
       ·
        exact IsOut
      exact trivial
     ·
      exact (.is (.is .nil))
     intro u w64 hb hd
     simp only [List.drop_succ_cons, List.drop_zero]
     simp only [Facts, nthR, Is, and_true] at hd
     have h1 := hd
     clear hd
     simp only [h1]
     clear h1
     replace bg15 := bg15.below hb lg15
     replace hb0 := hb0.trans (hb.mono hb0.size)
     replace lg15 := bg15.lt
     clear hb
     go_upto_region 17 with (fail)
     apply wp_plain_once (m := 9) (J := [[], [0], [1], [2], [3], [3, 4], [3, 5], [3, 6], [3, 7]]) (Je := [8]) (Rs := [Is _, Is _, Is _, Is _, Is _, Is _, Is _, Is _, Is _])
     ·
      kernel_rfl
     ·
      kernel_rfl
     ·
      intro u
      simp only [List.take_succ_cons, List.take_zero, List.map_cons, List.map_nil, fillU, List.setIfInBounds_toArray, List.set_cons_zero, List.set_cons_succ, Nat.reduceAdd]
      exact rfl
     ·
      simp only [List.take_succ_cons, List.take_zero]
      refine ⟨fun u W hb hd K hK => ?_, ?_⟩
      ·
       clear hd
       go_simp
       apply hK
       ·
        simp only [Act.put, List.setIfInBounds_toArray, List.set_cons_zero, List.set_cons_succ]
        exact rfl
       ·
        exact Below.refl _ _
       ·
        exact IsOut
      refine ⟨fun u W hb hd K hK => ?_, ?_⟩
      ·
       simp only [Facts, nthR, Is, and_true] at hd
       simp only [hd] at hK ⊢
       clear hd
       go_simp
       apply hK
       ·
        simp only [Act.put, List.setIfInBounds_toArray, List.set_cons_zero, List.set_cons_succ]
        exact rfl
       ·
        exact Below.refl _ _
       ·
        exact IsOut
      refine ⟨fun u W hb hd K hK => ?_, ?_⟩
      ·
       simp only [Facts, nthR, Is, and_true] at hd
       simp only [hd] at hK ⊢
       clear hd
       go_simp
       apply hK
       ·
        simp only [Act.put, List.setIfInBounds_toArray, List.set_cons_zero, List.set_cons_succ]
        exact rfl
       ·
        exact Below.refl _ _
       ·
        exact IsOut
      refine ⟨fun u W hb hd K hK => ?_, ?_⟩
      ·
       simp only [Facts, nthR, Is, and_true] at hd
       simp only [hd] at hK ⊢
       clear hd
       go_simp
       apply hK
       ·
        simp only [Act.put, List.setIfInBounds_toArray, List.set_cons_zero, List.set_cons_succ]
        exact rfl
       ·
        exact Below.refl _ _
       ·
        exact IsOut
      refine ⟨fun u W hb hd K hK => ?_, ?_⟩
      ·
       simp only [Facts, nthR, Is, and_true] at hd
       simp only [hd] at hK ⊢
       clear hd
       go_simp
       apply hK
       ·
        simp only [Act.put, List.setIfInBounds_toArray, List.set_cons_zero, List.set_cons_succ]
        exact rfl
       ·
        exact Below.refl _ _
       ·
        exact IsOut
      refine ⟨fun u W hb hd K hK => ?_, ?_⟩
      ·
       simp only [Facts, nthR, Is, and_true] at hd
       simp only [hd] at hK ⊢
       clear hd
       go_simp
       apply hK
       ·
        simp only [Act.put, List.setIfInBounds_toArray, List.set_cons_zero, List.set_cons_succ]
        exact rfl
       ·
        exact Below.refl _ _
       ·
        exact IsOut
      refine ⟨fun u W hb hd K hK => ?_, ?_⟩
      ·
       simp only [Facts, nthR, Is, and_true] at hd
       simp only [hd] at hK ⊢
       clear hd
       have hc := (hR3.up (hb0.trans (hb.mono hb0.size))).first (by rw [hl65]; decide)
       rw [hy0.out] at hc
       go_simp
       apply hK
       ·
        simp only [Act.put, List.setIfInBounds_toArray, List.set_cons_zero, List.set_cons_succ]
        exact rfl
       ·
        exact Below.refl _ _
       ·
        exact IsOut
      refine ⟨fun u W hb hd K hK => ?_, ?_⟩
      ·
       simp only [Facts, nthR, Is, and_true] at hd
       simp only [hd] at hK ⊢
       clear hd
       have hh := hb4.out
       go_simp
       apply hK
       ·
        simp only [Act.put, List.setIfInBounds_toArray, List.set_cons_zero, List.set_cons_succ]
        exact rfl
       ·
        exact Below.refl _ _
       ·
        exact IsOut
      refine ⟨fun u W hb hd K hK => ?_, ?_⟩
      ·
       simp only [Facts, nthR, Is, and_true] at hd
       simp only [hd] at hK ⊢
       clear hd
       go_simp
       apply hK
       ·
        simp only [Act.put, List.setIfInBounds_toArray, List.set_cons_zero, List.set_cons_succ]
        exact rfl
       ·
        exact Below.refl _ _
       ·
        exact IsOut
      exact trivial
     ·
      exact (.is (.is (.is (.is (.is (.is (.is (.is (.is .nil)))))))))
     intro u w65 hb hd
     simp only [List.drop_succ_cons, List.drop_zero]
     simp only [Facts, nthR, Is, and_true] at hd
     have h8 := hd
     clear hd
     simp only [h8]
     clear h8
     replace bg15 := bg15.below hb lg15
     replace hb0 := hb0.trans (hb.mono hb0.size)
     replace lg15 := bg15.lt
     clear hb
     go_upto_region 18 with (fail)
     refine wp_region_lit ?_
     refine wpList_new_blk rfl 22 rfl (zero32.map B8) zeroB32 ?_
     intro g18 w66 hg bg18 hb
     have og18 := Lib.hid (show w.heap.size ≤ g18 ∧ g15 < g18 from ⟨Nat.le_trans hb0.size (Nat.le_of_eq hg.symm), Nat.lt_of_lt_of_le lg15 (Nat.le_of_eq hg.symm)⟩)
     clear hg
     replace bg15 := bg15.below hb lg15
     replace hb0 := hb0.trans (hb.mono hb0.size)
     replace lg15 := bg15.lt
     clear hb
     have lg18 := bg18.lt
     try simp only [Act.put, List.setIfInBounds_toArray, List.set_cons_zero, List.set_cons_succ]
     refine wpList_new_blk rfl 22 rfl (zero32.map B8) zeroB32 ?_
     intro g19 w67 hg bg19 hb
     have og19 := Lib.hid (show w.heap.size ≤ g19 ∧ g15 < g19 ∧ g18 < g19 from ⟨Nat.le_trans hb0.size (Nat.le_of_eq hg.symm), Nat.lt_of_lt_of_le lg15 (Nat.le_of_eq hg.symm), Nat.lt_of_lt_of_le lg18 (Nat.le_of_eq hg.symm)⟩)
     clear hg
     replace bg15 := bg15.below hb lg15
     replace bg18 := bg18.below hb lg18
     replace hb0 := hb0.trans (hb.mono hb0.size)
     replace lg15 := bg15.lt
     replace lg18 := bg18.lt
     clear hb
     have lg19 := bg19.lt
     try simp only [Act.put, List.setIfInBounds_toArray, List.set_cons_zero, List.set_cons_succ]
     go_upto_region 19 with (fail)
     apply wp_plain_once (m := 1) (J := [[]]) (Je := [0]) (Rs := [Is _])
     ·
      kernel_rfl
     ·
      kernel_rfl
     ·
      intro u
      simp only [List.take_succ_cons, List.take_zero, List.map_cons, List.map_nil, fillU, List.setIfInBounds_toArray, List.set_cons_zero, List.set_cons_succ]
      exact rfl
     ·
      simp only [List.take_succ_cons, List.take_zero]
      refine ⟨fun u W hb hd K hK => ?_, ?_⟩
      ·
       clear hd
       go_simp
       apply hK
       ·
        simp only [Act.put, List.setIfInBounds_toArray, List.set_cons_zero, List.set_cons_succ]
        exact rfl
       ·
        exact Below.refl _ _
       ·
        exact IsOut
      exact trivial
     ·
      exact (.is .nil)
     intro u w68 hb hd
     simp only [List.drop_succ_cons, List.drop_zero]
     simp only [Facts, nthR, Is, and_true] at hd
     have h0 := hd
     clear hd
     simp only [h0]
     clear h0
     replace bg15 := bg15.below hb lg15
     replace bg18 := bg18.below hb lg18
     replace bg19 := bg19.below hb lg19
     replace hb0 := hb0.trans (hb.mono hb0.size)
     replace lg15 := bg15.lt
     replace lg18 := bg18.lt
     replace lg19 := bg19.lt
     clear hb
     go_upto_region 22 with (fail)
     apply wp_region_once_tail (m := 13) (Z := []) (D := [[], [0], [0, 1], [0, 1, 2], [0, 1, 2, 3], [0, 1, 2, 3, 4], [0, 1, 2, 3, 4, 5], [0, 1, 2, 3, 4], [0, 1, 2, 3, 4, 5, 6, 7], [0, 1, 2, 3, 4, 5, 6, 7, 8], [0, 1, 2, 3, 4, 5, 6, 7, 8, 9], [0, 1, 2, 3, 4, 5, 6, 7, 8, 9, 10], [0, 1, 2, 3, 4, 5, 6, 7, 8, 9, 10, 11], [0, 1, 2, 3, 4, 5, 6, 7, 8, 9, 10, 11, 12]]) (J := [[], [0], [1], [2], [2, 3], [4], [4, 5], [4], [4, 7], [4, 6, 8], [2, 4, 9], [2, 10], [2, 11]]) (Je := [12]) (Rs := [Is _, Is _, Is _, Is _, Is _, Is _, Is _, Is _, Is _, Is _, Is _, Is _, Is _])
     ·
      kernel_rfl
     ·
      kernel_rfl
     ·
      kernel_rfl
     ·
      kernel_rfl
     ·
      kernel_rfl
     ·
      kernel_rfl
     ·
      kernel_rfl
     ·
      exact fun h => absurd rfl h
     ·
      intro u
      simp only [List.take_succ_cons, List.take_zero, List.map_cons, List.map_nil, fillU, List.setIfInBounds_toArray, List.set_cons_zero, List.set_cons_succ, Nat.reduceAdd]
      exact rfl
     ·
      simp only [List.take_succ_cons, List.take_zero]
      refine ⟨fun u W hb hd K hK => ?_, ?_⟩
      ·
       clear hd
       go_simp
       apply hK
       ·
        simp only [Act.put, List.setIfInBounds_toArray, List.set_cons_zero, List.set_cons_succ]
        exact rfl
       ·
        exact Below.refl _ _
       ·
        exact IsOut
      refine ⟨fun u W hb hd K hK => ?_, ?_⟩
      ·
       simp only [Facts, nthR, Is, and_true] at hd
       simp only [hd] at hK ⊢
       clear hd
       go_simp
       apply hK
       ·
        simp only [Act.put, List.setIfInBounds_toArray, List.set_cons_zero, List.set_cons_succ]
        exact rfl
       ·
        exact Below.refl _ _
       ·
        exact IsOut
      refine ⟨fun u W hb hd K hK => ?_, ?_⟩
      ·
       simp only [Facts, nthR, Is, and_true] at hd
       simp only [hd] at hK ⊢
       clear hd
       go_simp
       apply hK
       ·
        simp only [Act.put, List.setIfInBounds_toArray, List.set_cons_zero, List.set_cons_succ]
        exact rfl
       ·
        exact Below.refl _ _
       ·
        exact IsOut
      refine ⟨fun u W hb hd K hK => ?_, ?_⟩
      ·
       simp only [Facts, nthR, Is, and_true] at hd
       simp only [hd] at hK ⊢
       clear hd
       go_simp
       apply hK
       ·
        simp only [Act.put, List.setIfInBounds_toArray, List.set_cons_zero, List.set_cons_succ]
        exact rfl
       ·
        exact Below.refl _ _
       ·
        exact IsOut
      refine ⟨fun u W hb hd K hK => ?_, ?_⟩
      ·
       simp only [Facts, nthR, Is, and_true] at hd
       simp only [hd] at hK ⊢
       clear hd
       go_simp
       apply hK
       ·
        simp only [Act.put, List.setIfInBounds_toArray, List.set_cons_zero, List.set_cons_succ]
        exact rfl
       ·
        exact Below.refl _ _
       ·
        exact IsOut
      refine ⟨fun u W hb hd K hK => ?_, ?_⟩
      ·
       simp only [Facts, nthR, Is, and_true] at hd
       simp only [hd] at hK ⊢
       clear hd
       go_simp
       apply hK
       ·
        simp only [Act.put, List.setIfInBounds_toArray, List.set_cons_zero, List.set_cons_succ]
        exact rfl
       ·
        exact Below.refl _ _
       ·
        exact IsOut
      refine ⟨fun u W hb hd K hK => ?_, ?_⟩
      ·
       simp only [Facts, nthR, Is, and_true] at hd
       simp only [hd] at hK ⊢
       clear hd
       go_simp
       apply hK
       ·
        simp only [Act.put, List.setIfInBounds_toArray, List.set_cons_zero, List.set_cons_succ]
        exact rfl
       ·
        exact Below.refl _ _
       ·
        exact IsOut
      refine ⟨fun u W hb hd K hK => ?_, ?_⟩
      ·
       simp only [Facts, nthR, Is, and_true] at hd
       simp only [hd] at hK ⊢
       clear hd
       go_simp
       apply hK
       ·
        simp only [Act.put, List.setIfInBounds_toArray, List.set_cons_zero, List.set_cons_succ]
        exact rfl
       ·
        exact Below.refl _ _
       ·
        exact IsOut
      refine ⟨fun u W hb hd K hK => ?_, ?_⟩
      ·
       simp only [Facts, nthR, Is, and_true] at hd
       simp only [hd] at hK ⊢
       clear hd
       go_simp
       apply hK
       ·
        simp only [Act.put, List.setIfInBounds_toArray, List.set_cons_zero, List.set_cons_succ]
        exact rfl
       ·
        exact Below.refl _ _
       ·
        exact IsOut
      refine ⟨fun u W hb hd K hK => ?_, ?_⟩
      ·
       simp only [Facts, nthR, Is, and_true] at hd
       simp only [hd] at hK ⊢
       clear hd
       go_simp
       apply hK
       ·
        simp only [Act.put, List.setIfInBounds_toArray, List.set_cons_zero, List.set_cons_succ]
        exact rfl
       ·
        exact Below.refl _ _
       ·
        exact IsOut
      refine ⟨fun u W hb hd K hK => ?_, ?_⟩
      ·
       simp only [Facts, nthR, Is, and_true] at hd
       simp only [hd] at hK ⊢
       clear hd
       go_simp
       apply hK
       ·
        simp only [Act.put, List.setIfInBounds_toArray, List.set_cons_zero, List.set_cons_succ]
        exact rfl
       ·
        exact Below.refl _ _
       ·
        exact IsOut
      refine ⟨fun u W hb hd K hK => ?_, ?_⟩
      ·
       simp only [Facts, nthR, Is, and_true] at hd
       simp only [hd] at hK ⊢
       clear hd
       go_simp
       apply hK
       ·
        simp only [Act.put, List.setIfInBounds_toArray, List.set_cons_zero, List.set_cons_succ]
        exact rfl
       ·
        exact Below.refl _ _
       ·
        exact IsOut
      refine ⟨fun u W hb hd K hK => ?_, ?_⟩
      ·
       simp only [Facts, nthR, Is, and_true] at hd
       simp only [hd] at hK ⊢
       clear hd
       go_simp
       apply hK
       ·
        simp only [Act.put, List.setIfInBounds_toArray, List.set_cons_zero, List.set_cons_succ]
        exact rfl
       ·
        exact Below.refl _ _
       ·
        exact IsOut
      exact trivial
     ·
      skip
      exact trivial
     ·
      exact (.is (.is (.is (.is (.is (.is (.is (.is (.is (.is (.is (.is (.is .nil)))))))))))))
     intro u w69 hb hd
     simp only [List.drop_succ_cons, List.drop_zero]
     simp only [Facts, nthR, Is, and_true] at hd
     have h12 := hd
     clear hd
     simp only [h12]
     clear h12
     replace bg15 := bg15.below hb lg15
     replace bg18 := bg18.below hb lg18
     replace bg19 := bg19.below hb lg19
     replace hb0 := hb0.trans (hb.mono hb0.size)
     replace lg15 := bg15.lt
     replace lg18 := bg18.lt
     replace lg19 := bg19.lt
     clear hb
     go_upto_region 23 with (fail)
     refine bodyPost_ret (results_tmp Tryd.results7 _ _ _) rfl ?_
     exact ⟨rfl, hb0⟩
    | true =>
     rw [hb4, Bool.true_and] at hok
     have hno := Lib.hid hok
     replace hb4 := Lib.hid hb4
     clear hok
     apply wp_plain_once (m := 5) (J := [[], [0], [1], [2], [2]]) (Je := [3, 4]) (Rs := [Is _, Is _, Is _, Is _, Is _])
     ·
      kernel_rfl
     ·
      kernel_rfl
     ·
      intro u
      simp only [List.take_succ_cons, List.take_zero, List.map_cons, List.map_nil, fillU, List.setIfInBounds_toArray, List.set_cons_zero, List.set_cons_succ, Nat.reduceAdd]
      exact rfl
     ·
      simp only [List.take_succ_cons, List.take_zero]
      refine ⟨fun u W hb hd K hK => ?_, ?_⟩
      ·
       clear hd
       go_simp
       apply hK
       ·
        simp only [Act.put, List.setIfInBounds_toArray, List.set_cons_zero, List.set_cons_succ]
        exact rfl
       ·
        exact Below.refl _ _
       ·
        exact IsOut
      refine ⟨fun u W hb hd K hK => ?_, ?_⟩
      ·
       simp only [Facts, nthR, Is, and_true] at hd
       simp only [hd] at hK ⊢
       clear hd
       go_simp
       refine (ReadH hX3 hY3 hE3 hl3.out ((hI.up (hb0.trans (hb.mono hb0.size))).take 65) (hT.up hb0 hb)).mono ?_
       rintro e wy ⟨rfl, hby⟩
       exact hK _ _ _ rfl hby IsOut
      refine ⟨fun u W hb hd K hK => ?_, ?_⟩
      ·
       simp only [Facts, nthR, Is, and_true] at hd
       simp only [hd] at hK ⊢
       clear hd
       go_simp
       apply hK
       ·
        simp only [Act.put, List.setIfInBounds_toArray, List.set_cons_zero, List.set_cons_succ]
        exact rfl
       ·
        exact Below.refl _ _
       ·
        exact IsOut
      refine ⟨fun u W hb hd K hK => ?_, ?_⟩
      ·
       simp only [Facts, nthR, Is, and_true] at hd
       simp only [hd] at hK ⊢
       clear hd
       go_simp
       apply hK
       ·
        simp only [Act.put, List.setIfInBounds_toArray, List.set_cons_zero, List.set_cons_succ]
        exact rfl
       ·
        exact Below.refl _ _
       ·
        exact IsOut
      refine ⟨fun u W hb hd K hK => ?_, ?_⟩
      ·
       simp only [Facts, nthR, Is, and_true] at hd
       simp only [hd] at hK ⊢
       clear hd
       go_simp
       apply hK
       ·
        simp only [Act.put, List.setIfInBounds_toArray, List.set_cons_zero, List.set_cons_succ]
        exact rfl
       ·
        exact Below.refl _ _
       ·
        exact IsOut
      exact trivial
     ·
      exact (.is (.is (.is (.is (.is .nil)))))
     intro u w62 hb hd
     simp only [List.drop_succ_cons, List.drop_zero]
     simp only [Facts, nthR, Is, and_true] at hd
     obtain ⟨h3, h4⟩ := hd
     simp only [h3, h4]
     clear h3 h4
     replace hb0 := hb0.trans (hb.mono hb0.size)
     clear hb
     refine wpList_new_store rfl 24 rfl rfl (ptV none) zeroPt rfl rfl rfl (ptC X3 Y3) (fun _ => rfl) (fun _ => rfl) (infoPt.trans (by rw [ptC_length (hX3l).out (hY3l).out])) (by first | with_reducible rfl | rw [ptV_length, ptC_length (hX3l).out (hY3l).out] | rw [ptV_length]) (onePt _ _) ?_
     intro g15 w63 hg bg15 hb
     have og15 := Lib.hid (show w.heap.size ≤ g15 from Nat.le_trans hb0.size (Nat.le_of_eq hg.symm))
     clear hg
     replace hb0 := hb0.trans (hb.mono hb0.size)
     clear hb
     have lg15 := bg15.lt
     try simp only [Act.put, List.setIfInBounds_toArray, List.set_cons_zero, List.set_cons_succ]
     go_upto_region 16 with (fail)
     apply wp_plain_once (m := 2) (J := [[], [0]]) (Je := [1]) (Rs := [Is _, Is _])
     ·
      kernel_rfl
     ·
      kernel_rfl
     ·
      intro u
      simp only [List.take_succ_cons, List.take_zero, List.map_cons, List.map_nil, fillU, List.setIfInBounds_toArray, List.set_cons_zero, List.set_cons_succ, Nat.reduceAdd]
      exact rfl
     ·
      simp only [List.take_succ_cons, List.take_zero]
      refine ⟨fun u W hb hd K hK => ?_, ?_⟩
      ·
       clear hd
       go_simp
       apply hK
       ·
        simp only [Act.put, List.setIfInBounds_toArray, List.set_cons_zero, List.set_cons_succ]
        exact rfl
       ·
        exact Below.refl _ _
       ·
        exact IsOut
      refine ⟨fun u W hb hd K hK => ?_, ?_⟩
      ·
       simp only [Facts, nthR, Is, and_true] at hd
       simp only [hd] at hK ⊢
       clear hd
       go_simp
       apply hK
       ·
        simp only [Act.put, List.setIfInBounds_toArray, List.set_cons_zero, List.set_cons_succ]
        exact rfl
       ·
        exact Below.refl _ _
       ·
        exact IsOut
      exact trivial
     ·
      exact (.is (.is .nil))
     intro u w64 hb hd
     simp only [List.drop_succ_cons, List.drop_zero]
     simp only [Facts, nthR, Is, and_true] at hd
     have h1 := hd
     clear hd
     simp only [h1]
     clear h1
     replace bg15 := bg15.below hb lg15
     replace hb0 := hb0.trans (hb.mono hb0.size)
     replace lg15 := bg15.lt
     clear hb
     go_upto_region 17 with (fail)
     apply wp_plain_once (m := 9) (J := [[], [0], [1], [2], [3], [3, 4], [3, 5], [3, 6], [3, 7]]) (Je := [8]) (Rs := [Is _, Is _, Is _, Is _, Is _, Is _, Is _, Is _, Is _])
     ·
      kernel_rfl
     ·
      kernel_rfl
     ·
      intro u
      simp only [List.take_succ_cons, List.take_zero, List.map_cons, List.map_nil, fillU, List.setIfInBounds_toArray, List.set_cons_zero, List.set_cons_succ, Nat.reduceAdd]
      exact rfl
     ·
      simp only [List.take_succ_cons, List.take_zero]
      refine ⟨fun u W hb hd K hK => ?_, ?_⟩
      ·
       clear hd
       go_simp
       apply hK
       ·
        simp only [Act.put, List.setIfInBounds_toArray, List.set_cons_zero, List.set_cons_succ]
        exact rfl
       ·
        exact Below.refl _ _
       ·
        exact IsOut
      refine ⟨fun u W hb hd K hK => ?_, ?_⟩
      ·
       simp only [Facts, nthR, Is, and_true] at hd
       simp only [hd] at hK ⊢
       clear hd
       go_simp
       apply hK
       ·
        simp only [Act.put, List.setIfInBounds_toArray, List.set_cons_zero, List.set_cons_succ]
        exact rfl
       ·
        exact Below.refl _ _
       ·
        exact IsOut
      refine ⟨fun u W hb hd K hK => ?_, ?_⟩
      ·
       simp only [Facts, nthR, Is, and_true] at hd
       simp only [hd] at hK ⊢
       clear hd
       go_simp
       apply hK
       ·
        simp only [Act.put, List.setIfInBounds_toArray, List.set_cons_zero, List.set_cons_succ]
        exact rfl
       ·
        exact Below.refl _ _
       ·
        exact IsOut
      refine ⟨fun u W hb hd K hK => ?_, ?_⟩
      ·
       simp only [Facts, nthR, Is, and_true] at hd
       simp only [hd] at hK ⊢
       clear hd
       go_simp
       apply hK
       ·
        simp only [Act.put, List.setIfInBounds_toArray, List.set_cons_zero, List.set_cons_succ]
        exact rfl
       ·
        exact Below.refl _ _
       ·
        exact IsOut
      refine ⟨fun u W hb hd K hK => ?_, ?_⟩
      ·
       simp only [Facts, nthR, Is, and_true] at hd
       simp only [hd] at hK ⊢
       clear hd
       go_simp
       apply hK
       ·
        simp only [Act.put, List.setIfInBounds_toArray, List.set_cons_zero, List.set_cons_succ]
        exact rfl
       ·
        exact Below.refl _ _
       ·
        exact IsOut
      refine ⟨fun u W hb hd K hK => ?_, ?_⟩
      ·
       simp only [Facts, nthR, Is, and_true] at hd
       simp only [hd] at hK ⊢
       clear hd
       go_simp
       apply hK
       ·
        simp only [Act.put, List.setIfInBounds_toArray, List.set_cons_zero, List.set_cons_succ]
        exact rfl
       ·
        exact Below.refl _ _
       ·
        exact IsOut
      refine ⟨fun u W hb hd K hK => ?_, ?_⟩
      ·
       simp only [Facts, nthR, Is, and_true] at hd
       simp only [hd] at hK ⊢
       clear hd
       have hc := (hR3.up (hb0.trans (hb.mono hb0.size))).first (by rw [hl65]; decide)
       rw [hy0.out] at hc
       go_simp
       apply hK
       ·
        simp only [Act.put, List.setIfInBounds_toArray, List.set_cons_zero, List.set_cons_succ]
        exact rfl
       ·
        exact Below.refl _ _
       ·
        exact IsOut
      refine ⟨fun u W hb hd K hK => ?_, ?_⟩
      ·
       simp only [Facts, nthR, Is, and_true] at hd
       simp only [hd] at hK ⊢
       clear hd
       have hh := hb4.out
       go_simp
       apply hK
       ·
        simp only [Act.put, List.setIfInBounds_toArray, List.set_cons_zero, List.set_cons_succ]
        exact rfl
       ·
        exact Below.refl _ _
       ·
        exact IsOut
      refine ⟨fun u W hb hd K hK => ?_, ?_⟩
      ·
       simp only [Facts, nthR, Is, and_true] at hd
       simp only [hd] at hK ⊢
       clear hd
       go_simp
       apply hK
       ·
        simp only [Act.put, List.setIfInBounds_toArray, List.set_cons_zero, List.set_cons_succ]
        exact rfl
       ·
        exact Below.refl _ _
       ·
        exact IsOut
      exact trivial
     ·
      exact (.is (.is (.is (.is (.is (.is (.is (.is (.is .nil)))))))))
     intro u w65 hb hd
     simp only [List.drop_succ_cons, List.drop_zero]
     simp only [Facts, nthR, Is, and_true] at hd
     have h8 := hd
     clear hd
     simp only [h8]
     clear h8
     replace bg15 := bg15.below hb lg15
     replace hb0 := hb0.trans (hb.mono hb0.size)
     replace lg15 := bg15.lt
     clear hb
     go_upto_region 18 with (fail)
     refine wp_region_lit ?_
     refine wpList_new_blk rfl 22 rfl (zero32.map B8) zeroB32 ?_
     intro g18 w66 hg bg18 hb
     have og18 := Lib.hid (show w.heap.size ≤ g18 ∧ g15 < g18 from ⟨Nat.le_trans hb0.size (Nat.le_of_eq hg.symm), Nat.lt_of_lt_of_le lg15 (Nat.le_of_eq hg.symm)⟩)
     clear hg
     replace bg15 := bg15.below hb lg15
     replace hb0 := hb0.trans (hb.mono hb0.size)
     replace lg15 := bg15.lt
     clear hb
     have lg18 := bg18.lt
     try simp only [Act.put, List.setIfInBounds_toArray, List.set_cons_zero, List.set_cons_succ]
     refine wpList_new_blk rfl 22 rfl (zero32.map B8) zeroB32 ?_
     intro g19 w67 hg bg19 hb
     have og19 := Lib.hid (show w.heap.size ≤ g19 ∧ g15 < g19 ∧ g18 < g19 from ⟨Nat.le_trans hb0.size (Nat.le_of_eq hg.symm), Nat.lt_of_lt_of_le lg15 (Nat.le_of_eq hg.symm), Nat.lt_of_lt_of_le lg18 (Nat.le_of_eq hg.symm)⟩)
     clear hg
     replace bg15 := bg15.below hb lg15
     replace bg18 := bg18.below hb lg18
     replace hb0 := hb0.trans (hb.mono hb0.size)
     replace lg15 := bg15.lt
     replace lg18 := bg18.lt
     clear hb
     have lg19 := bg19.lt
     try simp only [Act.put, List.setIfInBounds_toArray, List.set_cons_zero, List.set_cons_succ]
     go_upto_region 19 with (fail)
     apply wp_plain_once (m := 1) (J := [[]]) (Je := [0]) (Rs := [Is _])
     ·
      kernel_rfl
     ·
      kernel_rfl
     ·
      intro u
      simp only [List.take_succ_cons, List.take_zero, List.map_cons, List.map_nil, fillU, List.setIfInBounds_toArray, List.set_cons_zero, List.set_cons_succ]
      exact rfl
     ·
      simp only [List.take_succ_cons, List.take_zero]
      refine ⟨fun u W hb hd K hK => ?_, ?_⟩
      ·
       clear hd
       go_simp
       apply hK
       ·
        simp only [Act.put, List.setIfInBounds_toArray, List.set_cons_zero, List.set_cons_succ]
        exact rfl
       ·
        exact Below.refl _ _
       ·
        exact IsOut
      exact trivial
     ·
      exact (.is .nil)
     intro u w68 hb hd
     simp only [List.drop_succ_cons, List.drop_zero]
     simp only [Facts, nthR, Is, and_true] at hd
     have h0 := hd
     clear hd
     simp only [h0]
     clear h0
     replace bg15 := bg15.below hb lg15
     replace bg18 := bg18.below hb lg18
     replace bg19 := bg19.below hb lg19
     replace hb0 := hb0.trans (hb.mono hb0.size)
     replace lg15 := bg15.lt
     replace lg18 := bg18.lt
     replace lg19 := bg19.lt
     clear hb
     go_upto_region 20 with (fail)
     apply wp_region_once_tail (m := 3) (Z := []) (D := [[], [], [1], [0, 1, 2]]) (J := [[], [], [1]]) (Je := [0, 2]) (Rs := [Is _, Is _, Is _])
     ·
      kernel_rfl
     ·
      kernel_rfl
     ·
      kernel_rfl
     ·
      kernel_rfl
     ·
      kernel_rfl
     ·
      kernel_rfl
     ·
      kernel_rfl
     ·
      exact fun h => absurd rfl h
     ·
      intro u
      simp only [List.take_succ_cons, List.take_zero, List.map_cons, List.map_nil, fillU, List.setIfInBounds_toArray, List.set_cons_zero, List.set_cons_succ, Nat.reduceAdd]
      exact rfl
     ·
      simp only [List.take_succ_cons, List.take_zero]
      refine ⟨fun u W hb hd K hK => ?_, ?_⟩
      ·
       clear hd
       rw [if_pos (by rfl)]
       refine wp_rowOf rfl Tryd.underlying22 (fun w => size8 w) rfl ?_
       exact hK _ _ _ rfl (Below.refl _ _) IsOut
      refine ⟨fun u W hb hd K hK => ?_, ?_⟩
      ·
       clear hd
       go_simp
       apply hK
       ·
        simp only [Act.put, List.setIfInBounds_toArray, List.set_cons_zero, List.set_cons_succ]
        exact rfl
       ·
        exact Below.refl _ _
       ·
        exact IsOut
      refine ⟨fun u W hb hd K hK => ?_, ?_⟩
      ·
       simp only [Facts, nthR, Is, and_true] at hd
       simp only [hd] at hK ⊢
       clear hd
       rw [if_pos (by rfl)]
       refine wp_piece rfl rfl (lo := 1) (hi := 33) rfl rfl (by decide) (by have h := h65c.out; omega) (by have h := h65c.out; omega) ?_
       exact hK _ _ _ rfl (Below.refl _ _) IsOut
      exact trivial
     ·
      skip
      exact trivial
     ·
      exact (.is (.is (.is .nil)))
     intro u w69 hb hd
     simp only [List.drop_succ_cons, List.drop_zero]
     simp only [Facts, nthR, Is, and_true] at hd
     obtain ⟨h0, h2⟩ := hd
     simp only [h0, h2]
     clear h0 h2
     replace bg15 := bg15.below hb lg15
     replace bg18 := bg18.below hb lg18
     replace bg19 := bg19.below hb lg19
     replace hb0 := hb0.trans (hb.mono hb0.size)
     replace lg15 := bg15.lt
     replace lg18 := bg18.lt
     replace lg19 := bg19.lt
     clear hb
     refine wpList_copy32 rfl (.tmp 123) (.tmp 125) rfl (X := X4) (Z := zero32) rfl rfl bg18 ((Lib.hid (by decide) : Hid (zero32.length = 32))).out (hX4l).out ((hR3.up hb0).piece (k := 1) (n := 32) eX4.out (by rw [hl65]; decide)) ?_
     intro w70 bn hgs
     replace bg15 := bg15.grown hgs (fun e => Nat.ne_of_lt og18.out.2 (Option.some.inj e))
     replace bg19 := bg19.grown hgs (fun e => Nat.ne_of_gt og19.out.2.2 (Option.some.inj e))
     replace hb0 := below_new hb0 hgs og18.out.1 hb0.size
     clear hgs bg18
     have bg18 := bn
     clear bn
     replace lg15 := bg15.lt
     replace lg18 := bg18.lt
     replace lg19 := bg19.lt
     try simp only [Act.put, List.setIfInBounds_toArray, List.set_cons_zero, List.set_cons_succ]
     go_upto_region 21 with (fail)
     apply wp_region_once_tail (m := 3) (Z := []) (D := [[], [], [1], [0, 1, 2]]) (J := [[], [], [1]]) (Je := [0, 2]) (Rs := [Is _, Is _, Is _])
     ·
      kernel_rfl
     ·
      kernel_rfl
     ·
      kernel_rfl
     ·
      kernel_rfl
     ·
      kernel_rfl
     ·
      kernel_rfl
     ·
      kernel_rfl
     ·
      exact fun h => absurd rfl h
     ·
      intro u
      simp only [List.take_succ_cons, List.take_zero, List.map_cons, List.map_nil, fillU, List.setIfInBounds_toArray, List.set_cons_zero, List.set_cons_succ, Nat.reduceAdd]
      exact rfl
     ·
      simp only [List.take_succ_cons, List.take_zero]
      refine ⟨fun u W hb hd K hK => ?_, ?_⟩
      ·
       clear hd
       rw [if_pos (by rfl)]
       refine wp_rowOf rfl Tryd.underlying22 (fun w => size8 w) rfl ?_
       exact hK _ _ _ rfl (Below.refl _ _) IsOut
      refine ⟨fun u W hb hd K hK => ?_, ?_⟩
      ·
       clear hd
       go_simp
       apply hK
       ·
        simp only [Act.put, List.setIfInBounds_toArray, List.set_cons_zero, List.set_cons_succ]
        exact rfl
       ·
        exact Below.refl _ _
       ·
        exact IsOut
      refine ⟨fun u W hb hd K hK => ?_, ?_⟩
      ·
       simp only [Facts, nthR, Is, and_true] at hd
       simp only [hd] at hK ⊢
       clear hd
       rw [if_pos (by rfl)]
       refine wp_behind rfl rfl (lo := 33) rfl (by decide) (by have h := h65c.out; omega) ?_
       exact hK _ _ _ rfl (Below.refl _ _) IsOut
      exact trivial
     ·
      skip
      exact trivial
     ·
      exact (.is (.is (.is .nil)))
     intro u w71 hb hd
     simp only [List.drop_succ_cons, List.drop_zero]
     simp only [Facts, nthR, Is, and_true] at hd
     obtain ⟨h0, h2⟩ := hd
     simp only [h0, h2]
     clear h0 h2
     replace bg15 := bg15.below hb lg15
     replace bg18 := bg18.below hb lg18
     replace bg19 := bg19.below hb lg19
     replace hb0 := hb0.trans (hb.mono hb0.size)
     replace lg15 := bg15.lt
     replace lg18 := bg18.lt
     replace lg19 := bg19.lt
     clear hb
     refine wpList_copy32 rfl (.tmp 127) (.tmp 129) rfl (X := Y4) (Z := zero32) rfl rfl bg19 ((Lib.hid (by decide) : Hid (zero32.length = 32))).out (hY4l).out ((hR3.up hb0).piece (k := 33) (n := 32) eY4.out (by rw [hl65]; decide)) ?_
     intro w72 bn hgs
     replace bg15 := bg15.grown hgs (fun e => Nat.ne_of_lt og19.out.2.1 (Option.some.inj e))
     replace bg18 := bg18.grown hgs (fun e => Nat.ne_of_lt og19.out.2.2 (Option.some.inj e))
     replace hb0 := below_new hb0 hgs og19.out.1 hb0.size
     clear hgs bg19
     have bg19 := bn
     clear bn
     replace lg15 := bg15.lt
     replace lg18 := bg18.lt
     replace lg19 := bg19.lt
     try simp only [Act.put, List.setIfInBounds_toArray, List.set_cons_zero, List.set_cons_succ]
     go_upto_region 22 with (fail)
     obtain ⟨n137, hn137⟩ : ∃ s : P4, Hid (ofTo X4 32 = s) := ⟨_, Lib.hid rfl⟩
     obtain ⟨n139, hn139⟩ : ∃ s : P4, Hid (ofTo Y4 32 = s) := ⟨_, Lib.hid rfl⟩
     have hbO : Hid (onN n137 n139 = false) := Lib.hid (by rw [← hn137.out, ← hn139.out]; exact hno.out)
     apply wp_region_once_tail (m := 13) (Z := []) (D := [[], [0], [0, 1], [0, 1, 2], [0, 1, 2, 3], [0, 1, 2, 3, 4], [0, 1, 2, 3, 4, 5], [0, 1, 2, 3, 4], [0, 1, 2, 3, 4, 5, 6, 7], [0, 1, 2, 3, 4, 5, 6, 7, 8], [0, 1, 2, 3, 4, 5, 6, 7, 8, 9], [0, 1, 2, 3, 4, 5, 6, 7, 8, 9, 10], [0, 1, 2, 3, 4, 5, 6, 7, 8, 9, 10, 11], [0, 1, 2, 3, 4, 5, 6, 7, 8, 9, 10, 11, 12]]) (J := [[], [0], [1], [2], [2, 3], [4], [4, 5], [4], [4, 7], [4, 6, 8], [2, 4, 9], [2, 10], [2, 11]]) (Je := [12]) (Rs := [Is _, Is _, Is _, Is _, Is _, Is _, Is _, Is _, Is _, Is _, Is _, Is _, Is _])
     ·
      kernel_rfl
     ·
      kernel_rfl
     ·
      kernel_rfl
     ·
      kernel_rfl
     ·
      kernel_rfl
     ·
      kernel_rfl
     ·
      kernel_rfl
     ·
      exact fun h => absurd rfl h
     ·
      intro u
      simp only [List.take_succ_cons, List.take_zero, List.map_cons, List.map_nil, fillU, List.setIfInBounds_toArray, List.set_cons_zero, List.set_cons_succ, Nat.reduceAdd]
      exact rfl
     ·
      simp only [List.take_succ_cons, List.take_zero]
      refine ⟨fun u W hb hd K hK => ?_, ?_⟩
      ·
       clear hd
       go_simp
       apply hK
       ·
        simp only [Act.put, List.setIfInBounds_toArray, List.set_cons_zero, List.set_cons_succ]
        exact rfl
       ·
        exact Below.refl _ _
       ·
        exact IsOut
      refine ⟨fun u W hb hd K hK => ?_, ?_⟩
      ·
       simp only [Facts, nthR, Is, and_true] at hd
       simp only [hd] at hK ⊢
       clear hd
       go_simp
       apply hK
       ·
        simp only [Act.put, List.setIfInBounds_toArray, List.set_cons_zero, List.set_cons_succ]
        exact rfl
       ·
        exact Below.refl _ _
       ·
        exact IsOut
      refine ⟨fun u W hb hd K hK => ?_, ?_⟩
      ·
       simp only [Facts, nthR, Is, and_true] at hd
       simp only [hd] at hK ⊢
       clear hd
       go_simp
       apply hK
       ·
        simp only [Act.put, List.setIfInBounds_toArray, List.set_cons_zero, List.set_cons_succ]
        exact rfl
       ·
        exact Below.refl _ _
       ·
        exact IsOut
      refine ⟨fun u W hb hd K hK => ?_, ?_⟩
      ·
       simp only [Facts, nthR, Is, and_true] at hd
       simp only [hd] at hK ⊢
       clear hd
       go_simp
       apply hK
       ·
        simp only [Act.put, List.setIfInBounds_toArray, List.set_cons_zero, List.set_cons_succ]
        exact rfl
       ·
        exact Below.refl _ _
       ·
        exact IsOut
      refine ⟨fun u W hb hd K hK => ?_, ?_⟩
      ·
       simp only [Facts, nthR, Is, and_true] at hd
       simp only [hd] at hK ⊢
       clear hd
       go_simp
       apply hK
       ·
        simp only [Act.put, List.setIfInBounds_toArray, List.set_cons_zero, List.set_cons_succ]
        exact rfl
       ·
        exact Below.refl _ _
       ·
        exact IsOut
      refine ⟨fun u W hb hd K hK => ?_, ?_⟩
      ·
       simp only [Facts, nthR, Is, and_true] at hd
       simp only [hd] at hK ⊢
       clear hd
       rw [if_pos (by rfl)]
       refine wp_load_mid 22 (.tmp 18) rfl g18 0 rfl (X4.map B8) _ (rangeAt_of_blk (bg18.below hb lg18)) Tryd.underlying22 rfl (info40.trans (by rw [List.length_map, (hX4l).out])) ?_
       exact hK _ _ _ rfl (Below.refl _ _) IsOut
      refine ⟨fun u W hb hd K hK => ?_, ?_⟩
      ·
       simp only [Facts, nthR, Is, and_true] at hd
       simp only [hd] at hK ⊢
       clear hd
       go_simp
       refine (ROf hn137 (hX4l) _).mono ?_
       rintro e wy ⟨rfl, hby⟩
       exact hK _ _ _ rfl hby IsOut
      refine ⟨fun u W hb hd K hK => ?_, ?_⟩
      ·
       simp only [Facts, nthR, Is, and_true] at hd
       simp only [hd] at hK ⊢
       clear hd
       rw [if_pos (by rfl)]
       refine wp_load_mid 22 (.tmp 19) rfl g19 0 rfl (Y4.map B8) _ (rangeAt_of_blk (bg19.below hb lg19)) Tryd.underlying22 rfl (info40.trans (by rw [List.length_map, (hY4l).out])) ?_
       exact hK _ _ _ rfl (Below.refl _ _) IsOut
      refine ⟨fun u W hb hd K hK => ?_, ?_⟩
      ·
       simp only [Facts, nthR, Is, and_true] at hd
       simp only [hd] at hK ⊢
       clear hd
       go_simp
       refine (ROf hn139 (hY4l) _).mono ?_
       rintro e wy ⟨rfl, hby⟩
       exact hK _ _ _ rfl hby IsOut
      refine ⟨fun u W hb hd K hK => ?_, ?_⟩
      ·
       simp only [Facts, nthR, Is, and_true] at hd
       simp only [hd] at hK ⊢
       clear hd
       go_simp
       refine (ROn (ok_of hn137) (ok_of hn139) hbO _).mono ?_
       rintro e wy ⟨rfl, hby⟩
       exact hK _ _ _ rfl hby IsOut
      refine ⟨fun u W hb hd K hK => ?_, ?_⟩
      ·
       simp only [Facts, nthR, Is, and_true] at hd
       simp only [hd] at hK ⊢
       clear hd
       go_simp
       apply hK
       ·
        simp only [Act.put, List.setIfInBounds_toArray, List.set_cons_zero, List.set_cons_succ]
        exact rfl
       ·
        exact Below.refl _ _
       ·
        exact IsOut
      refine ⟨fun u W hb hd K hK => ?_, ?_⟩
      ·
       simp only [Facts, nthR, Is, and_true] at hd
       simp only [hd] at hK ⊢
       clear hd
       go_simp
       apply hK
       ·
        simp only [Act.put, List.setIfInBounds_toArray, List.set_cons_zero, List.set_cons_succ]
        exact rfl
       ·
        exact Below.refl _ _
       ·
        exact IsOut
      refine ⟨fun u W hb hd K hK => ?_, ?_⟩
      ·
       simp only [Facts, nthR, Is, and_true] at hd
       simp only [hd] at hK ⊢
       clear hd
       go_simp
       apply hK
       ·
        simp only [Act.put, List.setIfInBounds_toArray, List.set_cons_zero, List.set_cons_succ]
        exact rfl
       ·
        exact Below.refl _ _
       ·
        exact IsOut
      exact trivial
     ·
      skip
      exact trivial
     ·
      exact (.is (.is (.is (.is (.is (.is (.is (.is (.is (.is (.is (.is (.is .nil)))))))))))))
     intro u w73 hb hd
     simp only [List.drop_succ_cons, List.drop_zero]
     simp only [Facts, nthR, Is, and_true] at hd
     have h12 := hd
     clear hd
     simp only [h12]
     clear h12
     replace bg15 := bg15.below hb lg15
     replace bg18 := bg18.below hb lg18
     replace bg19 := bg19.below hb lg19
     replace hb0 := hb0.trans (hb.mono hb0.size)
     replace lg15 := bg15.lt
     replace lg18 := bg18.lt
     replace lg19 := bg19.lt
     clear hb
     go_upto_region 23 with (fail)
     refine bodyPost_ret (results_tmp Tryd.results7 _ _ _) rfl ?_
     exact ⟨rfl, hb0⟩
   ·
    have h65 : Hid (((m3 : Int) == 65) = false) := Lib.hid (by rw [beq_eq_false_iff_ne]; omega)
    apply wp_plain_once (m := 5) (J := [[], [0], [1], [2], [2]]) (Je := [3, 4]) (Rs := [Is _, Is _, Is _, Is _, Is _])
    ·
     kernel_rfl
    ·
     kernel_rfl
    ·
     intro u
     simp only [List.take_succ_cons, List.take_zero, List.map_cons, List.map_nil, fillU, List.setIfInBounds_toArray, List.set_cons_zero, List.set_cons_succ, Nat.reduceAdd]
     exact rfl
    ·
     simp only [List.take_succ_cons, List.take_zero]
     refine ⟨fun u W hb hd K hK => ?_, ?_⟩
     ·
      clear hd
      go_simp
      apply hK
      ·
       simp only [Act.put, List.setIfInBounds_toArray, List.set_cons_zero, List.set_cons_succ]
       exact rfl
      ·
       exact Below.refl _ _
      ·
       exact IsOut
     refine ⟨fun u W hb hd K hK => ?_, ?_⟩
     ·
      simp only [Facts, nthR, Is, and_true] at hd
      simp only [hd] at hK ⊢
      clear hd
      go_simp
      refine (ReadH hX3 hY3 hE3 hl3.out ((hI.up (hb0.trans (hb.mono hb0.size))).take m3) (hT.up hb0 hb)).mono ?_
      rintro e wy ⟨rfl, hby⟩
      exact hK _ _ _ rfl hby IsOut
     refine ⟨fun u W hb hd K hK => ?_, ?_⟩
     ·
      simp only [Facts, nthR, Is, and_true] at hd
      simp only [hd] at hK ⊢
      clear hd
      go_simp
      apply hK
      ·
       simp only [Act.put, List.setIfInBounds_toArray, List.set_cons_zero, List.set_cons_succ]
       exact rfl
      ·
       exact Below.refl _ _
      ·
       exact IsOut
     refine ⟨fun u W hb hd K hK => ?_, ?_⟩
     ·
      simp only [Facts, nthR, Is, and_true] at hd
      simp only [hd] at hK ⊢
      clear hd
      go_simp
      apply hK
      ·
       simp only [Act.put, List.setIfInBounds_toArray, List.set_cons_zero, List.set_cons_succ]
       exact rfl
      ·
       exact Below.refl _ _
      ·
       exact IsOut
     refine ⟨fun u W hb hd K hK => ?_, ?_⟩
     ·
      simp only [Facts, nthR, Is, and_true] at hd
      simp only [hd] at hK ⊢
      clear hd
      go_simp
      apply hK
      ·
       simp only [Act.put, List.setIfInBounds_toArray, List.set_cons_zero, List.set_cons_succ]
       exact rfl
      ·
       exact Below.refl _ _
      ·
       exact IsOut
     exact trivial
    ·
     exact (.is (.is (.is (.is (.is .nil)))))
    intro u w62 hb hd
    simp only [List.drop_succ_cons, List.drop_zero]
    simp only [Facts, nthR, Is, and_true] at hd
    obtain ⟨h3, h4⟩ := hd
    simp only [h3, h4]
    clear h3 h4
    replace hb0 := hb0.trans (hb.mono hb0.size)
    clear hb
    refine wpList_new_store rfl 24 rfl rfl (ptV none) zeroPt rfl rfl rfl (ptC X3 Y3) (fun _ => rfl) (fun _ => rfl) (infoPt.trans (by rw [ptC_length (hX3l).out (hY3l).out])) (by first | with_reducible rfl | rw [ptV_length, ptC_length (hX3l).out (hY3l).out] | rw [ptV_length]) (onePt _ _) ?_
    intro g15 w63 hg bg15 hb
    have og15 := Lib.hid (show w.heap.size ≤ g15 from Nat.le_trans hb0.size (Nat.le_of_eq hg.symm))
    clear hg
    replace hb0 := hb0.trans (hb.mono hb0.size)
    clear hb
    have lg15 := bg15.lt
    try simp only [Act.put, List.setIfInBounds_toArray, List.set_cons_zero, List.set_cons_succ]
    go_upto_region 16 with (fail)
    apply wp_plain_once (m := 2) (J := [[], [0]]) (Je := [1]) (Rs := [Is _, Is _])
    ·
     kernel_rfl
    ·
     kernel_rfl
    ·
     intro u
     simp only [List.take_succ_cons, List.take_zero, List.map_cons, List.map_nil, fillU, List.setIfInBounds_toArray, List.set_cons_zero, List.set_cons_succ, Nat.reduceAdd]
     exact rfl
    ·
     simp only [List.take_succ_cons, List.take_zero]
     refine ⟨fun u W hb hd K hK => ?_, ?_⟩
     ·
      clear hd
      go_simp
      apply hK
      ·
       simp only [Act.put, List.setIfInBounds_toArray, List.set_cons_zero, List.set_cons_succ]
       exact rfl
      ·
       exact Below.refl _ _
      ·
       exact IsOut
     refine ⟨fun u W hb hd K hK => ?_, ?_⟩
     ·
      simp only [Facts, nthR, Is, and_true] at hd
      simp only [hd] at hK ⊢
      clear hd
      go_simp
      apply hK
      ·
       simp only [Act.put, List.setIfInBounds_toArray, List.set_cons_zero, List.set_cons_succ]
       exact rfl
      ·
       exact Below.refl _ _
      ·
       exact IsOut
     exact trivial
    ·
     exact (.is (.is .nil))
    intro u w64 hb hd
    simp only [List.drop_succ_cons, List.drop_zero]
    simp only [Facts, nthR, Is, and_true] at hd
    have h1 := hd
    clear hd
    simp only [h1]
    clear h1
    replace bg15 := bg15.below hb lg15
    replace hb0 := hb0.trans (hb.mono hb0.size)
    replace lg15 := bg15.lt
    clear hb
    go_upto_region 17 with (fail)
    apply wp_plain_once (m := 9) (J := [[], [0], [1], [2], [3], [3, 4], [3, 5], [3, 6], [3, 7]]) (Je := [8]) (Rs := [Is _, Is _, Is _, Is _, Is _, Is _, Is _, Is _, Is _])
    ·
     kernel_rfl
    ·
     kernel_rfl
    ·
     intro u
     simp only [List.take_succ_cons, List.take_zero, List.map_cons, List.map_nil, fillU, List.setIfInBounds_toArray, List.set_cons_zero, List.set_cons_succ, Nat.reduceAdd]
     exact rfl
    ·
     simp only [List.take_succ_cons, List.take_zero]
     refine ⟨fun u W hb hd K hK => ?_, ?_⟩
     ·
      clear hd
      go_simp
      apply hK
      ·
       simp only [Act.put, List.setIfInBounds_toArray, List.set_cons_zero, List.set_cons_succ]
       exact rfl
      ·
       exact Below.refl _ _
      ·
       exact IsOut
     refine ⟨fun u W hb hd K hK => ?_, ?_⟩
     ·
      simp only [Facts, nthR, Is, and_true] at hd
      simp only [hd] at hK ⊢
      clear hd
      go_simp
      apply hK
      ·
       simp only [Act.put, List.setIfInBounds_toArray, List.set_cons_zero, List.set_cons_succ]
       exact rfl
      ·
       exact Below.refl _ _
      ·
       exact IsOut
     refine ⟨fun u W hb hd K hK => ?_, ?_⟩
     ·
      simp only [Facts, nthR, Is, and_true] at hd
      simp only [hd] at hK ⊢
      clear hd
      have hh := h65.out
      go_simp
      apply hK
      ·
       simp only [Act.put, List.setIfInBounds_toArray, List.set_cons_zero, List.set_cons_succ]
       exact rfl
      ·
       exact Below.refl _ _
      ·
       exact IsOut
     refine ⟨fun u W hb hd K hK => ?_, ?_⟩
     ·
      simp only [Facts, nthR, Is, and_true] at hd
      simp only [hd] at hK ⊢
      clear hd
      go_simp
      apply hK
      ·
       simp only [Act.put, List.setIfInBounds_toArray, List.set_cons_zero, List.set_cons_succ]
       exact rfl
      ·
       exact Below.refl _ _
      ·
       exact IsOut
     refine ⟨fun u W hb hd K hK => ?_, ?_⟩
     ·
      simp only [Facts, nthR, Is, and_true] at hd
      simp only [hd] at hK ⊢
      clear hd
      go_simp
      apply hK
      ·
       simp only [Act.put, List.setIfInBounds_toArray, List.set_cons_zero, List.set_cons_succ]
       exact rfl
      ·
       exact Below.refl _ _
      ·
       exact IsOut
     refine ⟨fun u W hb hd K hK => ?_, ?_⟩
     ·
      simp only [Facts, nthR, Is, and_true] at hd
      simp only [hd] at hK ⊢
      clear hd
      go_simp
      apply hK
      ·
       simp only [Act.put, List.setIfInBounds_toArray, List.set_cons_zero, List.set_cons_succ]
       exact rfl
      ·
       exact Below.refl _ _
      ·
       exact IsOut
     refine ⟨fun u W hb hd K hK => ?_, ?_⟩
     ·
      simp only [Facts, nthR, Is, and_true] at hd
      simp only [hd] at hK ⊢
      clear hd
      go_simp
      apply hK
      ·
       simp only [Act.put, List.setIfInBounds_toArray, List.set_cons_zero, List.set_cons_succ]
       exact rfl
      ·
       exact Below.refl _ _
      ·
       exact IsOut
     refine ⟨fun u W hb hd K hK => ?_, ?_⟩
     ·
      simp only [Facts, nthR, Is, and_true] at hd
      simp only [hd] at hK ⊢
      clear hd
      go_simp
      apply hK
      ·
       simp only [Act.put, List.setIfInBounds_toArray, List.set_cons_zero, List.set_cons_succ]
       exact rfl
      ·
       exact Below.refl _ _
      ·
       exact IsOut
     refine ⟨fun u W hb hd K hK => ?_, ?_⟩
     ·
      simp only [Facts, nthR, Is, and_true] at hd
      simp only [hd] at hK ⊢
      clear hd
      go_simp
      apply hK
      ·
       simp only [Act.put, List.setIfInBounds_toArray, List.set_cons_zero, List.set_cons_succ]
       exact rfl
      ·
       exact Below.refl _ _
      ·
       exact IsOut
     exact trivial
    ·
     exact (.is (.is (.is (.is (.is (.is (.is (.is (.is .nil)))))))))
    intro u w65 hb hd
    simp only [List.drop_succ_cons, List.drop_zero]
    simp only [Facts, nthR, Is, and_true] at hd
    have h8 := hd
    clear hd
    simp only [h8]
    clear h8
    replace bg15 := bg15.below hb lg15
    replace hb0 := hb0.trans (hb.mono hb0.size)
    replace lg15 := bg15.lt
    clear hb
    go_upto_region 18 with (fail)
    refine wp_region_lit ?_
    refine wpList_new_blk rfl 22 rfl (zero32.map B8) zeroB32 ?_
    intro g18 w66 hg bg18 hb
    have og18 := Lib.hid (show w.heap.size ≤ g18 ∧ g15 < g18 from ⟨Nat.le_trans hb0.size (Nat.le_of_eq hg.symm), Nat.lt_of_lt_of_le lg15 (Nat.le_of_eq hg.symm)⟩)
    clear hg
    replace bg15 := bg15.below hb lg15
    replace hb0 := hb0.trans (hb.mono hb0.size)
    replace lg15 := bg15.lt
    clear hb
    have lg18 := bg18.lt
    try simp only [Act.put, List.setIfInBounds_toArray, List.set_cons_zero, List.set_cons_succ]
    refine wpList_new_blk rfl 22 rfl (zero32.map B8) zeroB32 ?_
    intro g19 w67 hg bg19 hb
    have og19 := Lib.hid (show w.heap.size ≤ g19 ∧ g15 < g19 ∧ g18 < g19 from ⟨Nat.le_trans hb0.size (Nat.le_of_eq hg.symm), Nat.lt_of_lt_of_le lg15 (Nat.le_of_eq hg.symm), Nat.lt_of_lt_of_le lg18 (Nat.le_of_eq hg.symm)⟩)
    clear hg
    replace bg15 := bg15.below hb lg15
    replace bg18 := bg18.below hb lg18
    replace hb0 := hb0.trans (hb.mono hb0.size)
    replace lg15 := bg15.lt
    replace lg18 := bg18.lt
    clear hb
    have lg19 := bg19.lt
    try simp only [Act.put, List.setIfInBounds_toArray, List.set_cons_zero, List.set_cons_succ]
    go_upto_region 19 with (fail)
    apply wp_plain_once (m := 1) (J := [[]]) (Je := [0]) (Rs := [Is _])
    ·
     kernel_rfl
    ·
     kernel_rfl
    ·
     intro u
     simp only [List.take_succ_cons, List.take_zero, List.map_cons, List.map_nil, fillU, List.setIfInBounds_toArray, List.set_cons_zero, List.set_cons_succ]
     exact rfl
    ·
     simp only [List.take_succ_cons, List.take_zero]
     refine ⟨fun u W hb hd K hK => ?_, ?_⟩
     ·
      clear hd
      go_simp
      apply hK
      ·
       simp only [Act.put, List.setIfInBounds_toArray, List.set_cons_zero, List.set_cons_succ]
       exact rfl
      ·
       exact Below.refl _ _
      ·
       exact IsOut
     exact trivial
    ·
     exact (.is .nil)
    intro u w68 hb hd
    simp only [List.drop_succ_cons, List.drop_zero]
    simp only [Facts, nthR, Is, and_true] at hd
    have h0 := hd
    clear hd
    simp only [h0]
    clear h0
    replace bg15 := bg15.below hb lg15
    replace bg18 := bg18.below hb lg18
    replace bg19 := bg19.below hb lg19
    replace hb0 := hb0.trans (hb.mono hb0.size)
    replace lg15 := bg15.lt
    replace lg18 := bg18.lt
    replace lg19 := bg19.lt
    clear hb
    go_upto_region 22 with (fail)
    apply wp_region_once_tail (m := 13) (Z := []) (D := [[], [0], [0, 1], [0, 1, 2], [0, 1, 2, 3], [0, 1, 2, 3, 4], [0, 1, 2, 3, 4, 5], [0, 1, 2, 3, 4], [0, 1, 2, 3, 4, 5, 6, 7], [0, 1, 2, 3, 4, 5, 6, 7, 8], [0, 1, 2, 3, 4, 5, 6, 7, 8, 9], [0, 1, 2, 3, 4, 5, 6, 7, 8, 9, 10], [0, 1, 2, 3, 4, 5, 6, 7, 8, 9, 10, 11], [0, 1, 2, 3, 4, 5, 6, 7, 8, 9, 10, 11, 12]]) (J := [[], [0], [1], [2], [2, 3], [4], [4, 5], [4], [4, 7], [4, 6, 8], [2, 4, 9], [2, 10], [2, 11]]) (Je := [12]) (Rs := [Is _, Is _, Is _, Is _, Is _, Is _, Is _, Is _, Is _, Is _, Is _, Is _, Is _])
    ·
     kernel_rfl
    ·
     kernel_rfl
    ·
     kernel_rfl
    ·
     kernel_rfl
    ·
     kernel_rfl
    ·
     kernel_rfl
    ·
     kernel_rfl
    ·
     exact fun h => absurd rfl h
    ·
     intro u
     simp only [List.take_succ_cons, List.take_zero, List.map_cons, List.map_nil, fillU, List.setIfInBounds_toArray, List.set_cons_zero, List.set_cons_succ, Nat.reduceAdd]
     exact rfl
    ·
     simp only [List.take_succ_cons, List.take_zero]
     refine ⟨fun u W hb hd K hK => ?_, ?_⟩
     ·
      clear hd
      go_simp
      apply hK
      ·
       simp only [Act.put, List.setIfInBounds_toArray, List.set_cons_zero, List.set_cons_succ]
       exact rfl
      ·
       exact Below.refl _ _
      ·
       exact IsOut
     refine ⟨fun u W hb hd K hK => ?_, ?_⟩
     ·
      simp only [Facts, nthR, Is, and_true] at hd
      simp only [hd] at hK ⊢
      clear hd
      go_simp
      apply hK
      ·
       simp only [Act.put, List.setIfInBounds_toArray, List.set_cons_zero, List.set_cons_succ]
       exact rfl
      ·
       exact Below.refl _ _
      ·
       exact IsOut
     refine ⟨fun u W hb hd K hK => ?_, ?_⟩
     ·
      simp only [Facts, nthR, Is, and_true] at hd
      simp only [hd] at hK ⊢
      clear hd
      go_simp
      apply hK
      ·
       simp only [Act.put, List.setIfInBounds_toArray, List.set_cons_zero, List.set_cons_succ]
       exact rfl
      ·
       exact Below.refl _ _
      ·
       exact IsOut
     refine ⟨fun u W hb hd K hK => ?_, ?_⟩
     ·
      simp only [Facts, nthR, Is, and_true] at hd
      simp only [hd] at hK ⊢
      clear hd
      go_simp
      apply hK
      ·
       simp only [Act.put, List.setIfInBounds_toArray, List.set_cons_zero, List.set_cons_succ]
       exact rfl
      ·
       exact Below.refl _ _
      ·
       exact IsOut
     refine ⟨fun u W hb hd K hK => ?_, ?_⟩
     ·
      simp only [Facts, nthR, Is, and_true] at hd
      simp only [hd] at hK ⊢
      clear hd
      go_simp
      apply hK
      ·
       simp only [Act.put, List.setIfInBounds_toArray, List.set_cons_zero, List.set_cons_succ]
       exact rfl
      ·
       exact Below.refl _ _
      ·
       exact IsOut
     refine ⟨fun u W hb hd K hK => ?_, ?_⟩
     ·
      simp only [Facts, nthR, Is, and_true] at hd
      simp only [hd] at hK ⊢
      clear hd
      go_simp
      apply hK
      ·
       simp only [Act.put, List.setIfInBounds_toArray, List.set_cons_zero, List.set_cons_succ]
       exact rfl
      ·
       exact Below.refl _ _
      ·
       exact IsOut
     refine ⟨fun u W hb hd K hK => ?_, ?_⟩
     ·
      simp only [Facts, nthR, Is, and_true] at hd
      simp only [hd] at hK ⊢
      clear hd
      go_simp
      apply hK
      ·
       simp only [Act.put, List.setIfInBounds_toArray, List.set_cons_zero, List.set_cons_succ]
       exact rfl
      ·
       exact Below.refl _ _
      ·
       exact IsOut
     refine ⟨fun u W hb hd K hK => ?_, ?_⟩
     ·
      simp only [Facts, nthR, Is, and_true] at hd
      simp only [hd] at hK ⊢
      clear hd
      go_simp
      apply hK
      ·
       simp only [Act.put, List.setIfInBounds_toArray, List.set_cons_zero, List.set_cons_succ]
       exact rfl
      ·
       exact Below.refl _ _
      ·
       exact IsOut
     refine ⟨fun u W hb hd K hK => ?_, ?_⟩
     ·
      simp only [Facts, nthR, Is, and_true] at hd
      simp only [hd] at hK ⊢
      clear hd
      go_simp
      apply hK
      ·
       simp only [Act.put, List.setIfInBounds_toArray, List.set_cons_zero, List.set_cons_succ]
       exact rfl
      ·
       exact Below.refl _ _
      ·
       exact IsOut
     refine ⟨fun u W hb hd K hK => ?_, ?_⟩
     ·
      simp only [Facts, nthR, Is, and_true] at hd
      simp only [hd] at hK ⊢
      clear hd
      go_simp
      apply hK
      ·
       simp only [Act.put, List.setIfInBounds_toArray, List.set_cons_zero, List.set_cons_succ]
       exact rfl
      ·
       exact Below.refl _ _
      ·
       exact IsOut
     refine ⟨fun u W hb hd K hK => ?_, ?_⟩
     ·
      simp only [Facts, nthR, Is, and_true] at hd
      simp only [hd] at hK ⊢
      clear hd
      go_simp
      apply hK
      ·
       simp only [Act.put, List.setIfInBounds_toArray, List.set_cons_zero, List.set_cons_succ]
       exact rfl
      ·
       exact Below.refl _ _
      ·
       exact IsOut
     refine ⟨fun u W hb hd K hK => ?_, ?_⟩
     ·
      simp only [Facts, nthR, Is, and_true] at hd
      simp only [hd] at hK ⊢
      clear hd
      go_simp
      apply hK
      ·
       simp only [Act.put, List.setIfInBounds_toArray, List.set_cons_zero, List.set_cons_succ]
       exact rfl
      ·
       exact Below.refl _ _
      ·
       exact IsOut
     refine ⟨fun u W hb hd K hK => ?_, ?_⟩
     ·
      simp only [Facts, nthR, Is, and_true] at hd
      simp only [hd] at hK ⊢
      clear hd
      go_simp
      apply hK
      ·
       simp only [Act.put, List.setIfInBounds_toArray, List.set_cons_zero, List.set_cons_succ]
       exact rfl
      ·
       exact Below.refl _ _
      ·
       exact IsOut
     exact trivial
    ·
     skip
     exact trivial
    ·
     exact (.is (.is (.is (.is (.is (.is (.is (.is (.is (.is (.is (.is (.is .nil)))))))))))))
    intro u w69 hb hd
    simp only [List.drop_succ_cons, List.drop_zero]
    simp only [Facts, nthR, Is, and_true] at hd
    have h12 := hd
    clear hd
    simp only [h12]
    clear h12
    replace bg15 := bg15.below hb lg15
    replace bg18 := bg18.below hb lg18
    replace bg19 := bg19.below hb lg19
    replace hb0 := hb0.trans (hb.mono hb0.size)
    replace lg15 := bg15.lt
    replace lg18 := bg18.lt
    replace lg19 := bg19.lt
    clear hb
    go_upto_region 23 with (fail)
    refine bodyPost_ret (results_tmp Tryd.results7 _ _ _) rfl ?_
    exact ⟨rfl, hb0⟩
 )
end Go.Proofs.YtnkikhnllnbhfaaDoor
