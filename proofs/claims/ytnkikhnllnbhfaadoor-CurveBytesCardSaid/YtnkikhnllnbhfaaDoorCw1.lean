/-
  The field's numbers as package mont's; the contracts of crossed and thrice.
-/
import Derived.Test.YtnkikhnllnbhfaaDoorMp
import Derived.Test.YtnkikhnllnbhfaaDoorCM
namespace Go.Proofs.YtnkikhnllnbhfaaDoor
open Go.RowKit
open CurveMath

theorem blk_allocs : ∀ (L : List Obj) (w : World) (i : Nat) (t : TypeId) (cs : List Value), L[i]? = some (.cells cs.toArray t) → Blk (L.foldl World.alloc w) (w.heap.size + i) t cs
  | [], w, i, t, cs, h => by simp at h
  | A :: L, w, 0, t, cs, h => by
    rw [List.getElem?_cons_zero] at h
    have e : A = .cells cs.toArray t := Option.some.inj h
    subst e
    have h1 := Blk.new_of w t cs.toArray cs rfl
    show Blk (L.foldl World.alloc (w.alloc (.cells cs.toArray t))) (w.heap.size + 0) t cs
    rw [Nat.add_zero]
    generalize w.alloc (.cells cs.toArray t) = v at *
    clear h
    induction L generalizing v with
    | nil => exact h1
    | cons B L ih => exact ih _ (h1.alloc B)
  | A :: L, w, i + 1, t, cs, h => by
    rw [List.getElem?_cons_succ] at h
    have := blk_allocs L (w.alloc A) i t cs h
    rwa [show (w.alloc A).heap.size = w.heap.size + 1 by simp, Nat.add_assoc, Nat.add_comm 1 i] at this
theorem below_allocs : ∀ (L : List Obj) (w : World), Below w.heap.size w (L.foldl World.alloc w)
  | [], w => Below.refl _ _
  | A :: L, w => by
    have h1 : Below w.heap.size w (w.alloc A) := (Below.refl _ _).alloc (Nat.le_refl _) _
    exact h1.trans ((below_allocs L (w.alloc A)).mono h1.size)
/-- A number's four parts. -/
def nC (x : P4) : List Value := [.int .u64 (x.a : Int), .int .u64 (x.b : Int), .int .u64 (x.c : Int), .int .u64 (x.d : Int)]
theorem nC_length (x : P4) : (nC x).length = 4 := rfl
theorem infoN : (Tryd.prog.info? 59).map (·.size) = some 4 := by kernel_rfl
theorem infoS : (Tryd.prog.info? 67).map (·.size) = some 12 := by kernel_rfl
theorem infoG : (Tryd.prog.info? 62).map (·.size) = some 1 := by kernel_rfl
def primeP : P4 := ⟨18446744073709551615, 4294967295, 0, 18446744069414584321⟩
theorem primeP_ok : primeP.ok := ⟨by decide, by decide, by decide, by decide⟩
theorem primeP_val : primeP.val = pN := by decide
/-- A number of the field, as package mont has it. -/
def pK (a : K) : P4 := redP primeP a.val
def kC (a : K) : List Value := nC (pK a)
theorem pK_ok (a : K) : (pK a).ok := redP_ok _ _
theorem pK_val (a : K) : (pK a).val = a.val := by
  unfold pK
  rw [redP_val primeP_ok (by decide), primeP_val]
  exact Nat.mod_eq_of_lt a.isLt
theorem redP_pK (v : Nat) : redP primeP v = pK (Fin.ofNat pN v) := by
  unfold pK
  refine redP_congr ?_
  rw [primeP_val]
  show v % pN = (v % pN) % pN
  rw [Nat.mod_mod]
theorem pK_mul (a b : K) : redP primeP ((pK a).val * (pK b).val) = pK (a * b) := by rw [pK_val, pK_val, redP_pK, ofNat_mul, ofNat_val, ofNat_val]
theorem pK_add (a b : K) : redP primeP ((pK a).val + (pK b).val) = pK (a + b) := by rw [pK_val, pK_val, redP_pK, ofNat_add, ofNat_val, ofNat_val]
theorem pK_sub (a b : K) : redP primeP ((pK a).val % primeP.val + primeP.val - (pK b).val % primeP.val) = pK (a - b) := by
  rw [pK_val, pK_val, redP_pK, primeP_val, Nat.mod_eq_of_lt a.isLt, Nat.mod_eq_of_lt b.isLt]
  congr 1
  apply Fin.ext
  show (a.val + pN - b.val) % pN = _
  rw [Fin.sub_def]
  show _ = (pN - b.val + a.val) % pN
  congr 1
  have := b.isLt
  omega
theorem pK_inj {a b : K} (h : pK a = pK b) : a = b := by
  apply Fin.ext
  rw [← pK_val a, ← pK_val b, h]
/-- The modulus of the field, somewhere in memory. -/
def GrpAt (w : World) (g : Nat) : Prop := ∃ sq f, Blk w g 89 (modCells primeP sq f) ∧ Md primeP sq f
theorem GrpAt.lt {w : World} {g : Nat} (h : GrpAt w g) : g < w.heap.size := by obtain ⟨_, _, h, _⟩ := h; exact h.lt
theorem GrpAt.below {w w' : World} {g B : Nat} (h : GrpAt w g) (hb : Below B w w') (hg : g < B) : GrpAt w' g := by
  obtain ⟨sq, f, h, hm⟩ := h
  exact ⟨sq, f, h.below hb hg, hm⟩
theorem GrpAt.up {w w' : World} {g : Nat} (h : GrpAt w g) (hb : Below w.heap.size w w') : GrpAt w' g := h.below hb h.lt
theorem GrpAt.grown {w w' : World} {g k : Nat} (h : GrpAt w g) (hg : w.grownBy w' (some k)) (hne : g ≠ k) : GrpAt w' g := by
  obtain ⟨sq, f, h, hm⟩ := h
  exact ⟨sq, f, h.grown hg (fun e => hne (by injection e)), hm⟩
theorem MulK (g : Nat) (a b : K) (w : World) (h : GrpAt w g) : Calls Tryd.prog 53 #[.pointer (some ⟨g, 0, none⟩), .agg (kC a).toArray, .agg (kC b).toArray] w fun e w' => e = .returned (.agg (kC (a * b)).toArray) ∧ Below w.heap.size w w' := by
  obtain ⟨sq, f, h, hm⟩ := h
  have := Mul_v g primeP sq (pK a) (pK b) f w h hm (pK_ok a) (pK_ok b)
  rw [pK_mul] at this
  exact this
theorem AddK (g : Nat) (a b : K) (w : World) (h : GrpAt w g) : Calls Tryd.prog 52 #[.pointer (some ⟨g, 0, none⟩), .agg (kC a).toArray, .agg (kC b).toArray] w fun e w' => e = .returned (.agg (kC (a + b)).toArray) ∧ Below w.heap.size w w' := by
  obtain ⟨sq, f, h, hm⟩ := h
  have := Add_v g primeP sq (pK a) (pK b) f w h hm (pK_ok a) (pK_ok b)
  rw [pK_add] at this
  exact this
theorem SubK (g : Nat) (a b : K) (w : World) (h : GrpAt w g) : Calls Tryd.prog 54 #[.pointer (some ⟨g, 0, none⟩), .agg (kC a).toArray, .agg (kC b).toArray] w fun e w' => e = .returned (.agg (kC (a - b)).toArray) ∧ Below w.heap.size w w' := by
  obtain ⟨sq, f, h, hm⟩ := h
  have := Sub_v g primeP sq (pK a) (pK b) f w h hm (pK_ok a) (pK_ok b)
  rw [pK_sub] at this
  exact this
theorem kC_length (a : K) : (kC a).length = 4 := rfl
theorem one4 (x : P4) : (nC x).toArray.all (·.oneCell') = true := by simp [nC, Value.oneCell']
theorem oneK4 (a : K) : (kC a).toArray.all (·.oneCell') = true := one4 _
set_option maxRecDepth 100000 in
set_option maxHeartbeats 1000000 in
theorem crossed_k (g : Nat) (a b c d : K) (w : World) (h : GrpAt w g) : Calls Tryd.prog 58 #[.agg #[.pointer (some ⟨g, 0, none⟩)], .agg (kC a).toArray, .agg (kC b).toArray, .agg (kC c).toArray, .agg (kC d).toArray] w fun e w' => e = .returned (.agg (kC (a * d + b * c)).toArray) ∧ Below w.heap.size w w' := by
  go_enter Tryd.func58, Tryd.ntmps58
  go_upto_region 1 with (fail)
  obtain ⟨g5, hg5⟩ : ∃ g5, g5 = w.heap.size + 1 + 1 + 1 + 1 + 1 := ⟨_, rfl⟩
  obtain ⟨g4, hg4⟩ : ∃ g4, g4 = w.heap.size + 1 + 1 + 1 + 1 := ⟨_, rfl⟩
  obtain ⟨g3, hg3⟩ : ∃ g3, g3 = w.heap.size + 1 + 1 + 1 := ⟨_, rfl⟩
  obtain ⟨g2, hg2⟩ : ∃ g2, g2 = w.heap.size + 1 + 1 := ⟨_, rfl⟩
  obtain ⟨g1, hg1⟩ : ∃ g1, g1 = w.heap.size + 1 := ⟨_, rfl⟩
  obtain ⟨g0, hg0⟩ : ∃ g0, g0 = w.heap.size := ⟨_, rfl⟩
  have bg0 : Blk ((((((w.alloc (.cells #[.pointer (some ⟨g, 0, none⟩)] 62)).alloc (.cells (kC a).toArray 59)).alloc (.cells (kC b).toArray 59)).alloc (.cells (kC c).toArray 59)).alloc (.cells (kC d).toArray 59)).alloc (.cells #[.int .u64 0, .int .u64 0, .int .u64 0, .int .u64 0] 59)) g0 62 ([.pointer (some ⟨g, 0, none⟩)]) := by rw [hg0]; exact blk_allocs [.cells #[.pointer (some ⟨g, 0, none⟩)] 62, .cells (kC a).toArray 59, .cells (kC b).toArray 59, .cells (kC c).toArray 59, .cells (kC d).toArray 59, .cells #[.int .u64 0, .int .u64 0, .int .u64 0, .int .u64 0] 59] w 0 62 ([.pointer (some ⟨g, 0, none⟩)]) rfl
  have bg1 : Blk ((((((w.alloc (.cells #[.pointer (some ⟨g, 0, none⟩)] 62)).alloc (.cells (kC a).toArray 59)).alloc (.cells (kC b).toArray 59)).alloc (.cells (kC c).toArray 59)).alloc (.cells (kC d).toArray 59)).alloc (.cells #[.int .u64 0, .int .u64 0, .int .u64 0, .int .u64 0] 59)) g1 59 (kC a) := by rw [hg1]; exact blk_allocs [.cells #[.pointer (some ⟨g, 0, none⟩)] 62, .cells (kC a).toArray 59, .cells (kC b).toArray 59, .cells (kC c).toArray 59, .cells (kC d).toArray 59, .cells #[.int .u64 0, .int .u64 0, .int .u64 0, .int .u64 0] 59] w 1 59 (kC a) rfl
  have bg2 : Blk ((((((w.alloc (.cells #[.pointer (some ⟨g, 0, none⟩)] 62)).alloc (.cells (kC a).toArray 59)).alloc (.cells (kC b).toArray 59)).alloc (.cells (kC c).toArray 59)).alloc (.cells (kC d).toArray 59)).alloc (.cells #[.int .u64 0, .int .u64 0, .int .u64 0, .int .u64 0] 59)) g2 59 (kC b) := by rw [hg2]; exact blk_allocs [.cells #[.pointer (some ⟨g, 0, none⟩)] 62, .cells (kC a).toArray 59, .cells (kC b).toArray 59, .cells (kC c).toArray 59, .cells (kC d).toArray 59, .cells #[.int .u64 0, .int .u64 0, .int .u64 0, .int .u64 0] 59] w 2 59 (kC b) rfl
  have bg3 : Blk ((((((w.alloc (.cells #[.pointer (some ⟨g, 0, none⟩)] 62)).alloc (.cells (kC a).toArray 59)).alloc (.cells (kC b).toArray 59)).alloc (.cells (kC c).toArray 59)).alloc (.cells (kC d).toArray 59)).alloc (.cells #[.int .u64 0, .int .u64 0, .int .u64 0, .int .u64 0] 59)) g3 59 (kC c) := by rw [hg3]; exact blk_allocs [.cells #[.pointer (some ⟨g, 0, none⟩)] 62, .cells (kC a).toArray 59, .cells (kC b).toArray 59, .cells (kC c).toArray 59, .cells (kC d).toArray 59, .cells #[.int .u64 0, .int .u64 0, .int .u64 0, .int .u64 0] 59] w 3 59 (kC c) rfl
  have bg4 : Blk ((((((w.alloc (.cells #[.pointer (some ⟨g, 0, none⟩)] 62)).alloc (.cells (kC a).toArray 59)).alloc (.cells (kC b).toArray 59)).alloc (.cells (kC c).toArray 59)).alloc (.cells (kC d).toArray 59)).alloc (.cells #[.int .u64 0, .int .u64 0, .int .u64 0, .int .u64 0] 59)) g4 59 (kC d) := by rw [hg4]; exact blk_allocs [.cells #[.pointer (some ⟨g, 0, none⟩)] 62, .cells (kC a).toArray 59, .cells (kC b).toArray 59, .cells (kC c).toArray 59, .cells (kC d).toArray 59, .cells #[.int .u64 0, .int .u64 0, .int .u64 0, .int .u64 0] 59] w 4 59 (kC d) rfl
  have bg5 : Blk ((((((w.alloc (.cells #[.pointer (some ⟨g, 0, none⟩)] 62)).alloc (.cells (kC a).toArray 59)).alloc (.cells (kC b).toArray 59)).alloc (.cells (kC c).toArray 59)).alloc (.cells (kC d).toArray 59)).alloc (.cells #[.int .u64 0, .int .u64 0, .int .u64 0, .int .u64 0] 59)) g5 59 (nC zeroP) := by rw [hg5]; exact blk_allocs [.cells #[.pointer (some ⟨g, 0, none⟩)] 62, .cells (kC a).toArray 59, .cells (kC b).toArray 59, .cells (kC c).toArray 59, .cells (kC d).toArray 59, .cells #[.int .u64 0, .int .u64 0, .int .u64 0, .int .u64 0] 59] w 5 59 (nC zeroP) rfl
  have hb0 : Below w.heap.size w (((((((w.alloc (.cells #[.pointer (some ⟨g, 0, none⟩)] 62)).alloc (.cells (kC a).toArray 59)).alloc (.cells (kC b).toArray 59)).alloc (.cells (kC c).toArray 59)).alloc (.cells (kC d).toArray 59)).alloc (.cells #[.int .u64 0, .int .u64 0, .int .u64 0, .int .u64 0] 59))) := below_allocs [.cells #[.pointer (some ⟨g, 0, none⟩)] 62, .cells (kC a).toArray 59, .cells (kC b).toArray 59, .cells (kC c).toArray 59, .cells (kC d).toArray 59, .cells #[.int .u64 0, .int .u64 0, .int .u64 0, .int .u64 0] 59] w
  have HG := Lib.hid (show w.heap.size ≤ g0 ∧ g0 < g1 ∧ g1 < g2 ∧ g2 < g3 ∧ g3 < g4 ∧ g4 < g5 by omega)
  simp only [← hg5]
  simp only [← hg4]
  simp only [← hg3]
  simp only [← hg2]
  simp only [← hg1]
  simp only [← hg0]
  clear hg5
  clear hg4
  clear hg3
  clear hg2
  clear hg1
  clear hg0
  generalize (((((w.alloc (.cells #[.pointer (some ⟨g, 0, none⟩)] 62)).alloc (.cells (kC a).toArray 59)).alloc (.cells (kC b).toArray 59)).alloc (.cells (kC c).toArray 59)).alloc (.cells (kC d).toArray 59)).alloc (.cells #[.int .u64 0, .int .u64 0, .int .u64 0, .int .u64 0] 59) = w1 at *
  have lg0 := bg0.lt
  have lg1 := bg1.lt
  have lg2 := bg2.lt
  have lg3 := bg3.lt
  have lg4 := bg4.lt
  have lg5 := bg5.lt
  have hM := h.up hb0
  apply wp_region_once_tail (m := 13) (Z := []) (D := [[], [0], [], [2], [], [], [2, 3, 4, 5], [], [7], [], [], [2, 3, 4, 5, 6, 7, 8, 9, 10], [0, 1, 2, 3, 4, 5, 6, 7, 8, 9, 10, 11], [0, 1, 2, 3, 4, 5, 6, 7, 8, 9, 10, 11, 12]]) (J := [[], [0], [], [2], [], [], [3, 4, 5], [], [7], [], [], [8, 9, 10], [1, 6, 11]]) (Je := [12]) (Rs := [Is _, Is _, Is _, Is _, Is _, Is _, Is _, Is _, Is _, Is _, Is _, Is _, Is _])
  · kernel_rfl
  · kernel_rfl
  · kernel_rfl
  · kernel_rfl
  · kernel_rfl
  · kernel_rfl
  · kernel_rfl
  · exact fun h => absurd rfl h
  · intro u
    simp only [List.take_succ_cons, List.take_zero, List.map_cons, List.map_nil, fillU, List.setIfInBounds_toArray, List.set_cons_zero, List.set_cons_succ, Nat.zero_add, Nat.reduceAdd]
    exact rfl
  · simp only [List.take_succ_cons, List.take_zero]
    refine ⟨fun u W hb hd K hK => ?_, ?_⟩
    · clear hd
      go_simp
      apply hK
      · simp only [Act.put, List.setIfInBounds_toArray, List.set_cons_zero, List.set_cons_succ]
        exact rfl
      · exact Below.refl _ _
      · exact IsOut
    refine ⟨fun u W hb hd K hK => ?_, ?_⟩
    · simp only [Facts, nthR, Is, and_true] at hd
      simp only [hd] at hK ⊢
      clear hd
      have hc := (bg0.below hb lg0).cell 0
      go_simp
      apply hK
      · simp only [Act.put, List.setIfInBounds_toArray, List.set_cons_zero, List.set_cons_succ]
        exact rfl
      · exact Below.refl _ _
      · exact IsOut
    refine ⟨fun u W hb hd K hK => ?_, ?_⟩
    · clear hd
      go_simp
      apply hK
      · simp only [Act.put, List.setIfInBounds_toArray, List.set_cons_zero, List.set_cons_succ]
        exact rfl
      · exact Below.refl _ _
      · exact IsOut
    refine ⟨fun u W hb hd K hK => ?_, ?_⟩
    · simp only [Facts, nthR, Is, and_true] at hd
      simp only [hd] at hK ⊢
      clear hd
      have hc := (bg0.below hb lg0).cell 0
      go_simp
      apply hK
      · simp only [Act.put, List.setIfInBounds_toArray, List.set_cons_zero, List.set_cons_succ]
        exact rfl
      · exact Below.refl _ _
      · exact IsOut
    refine ⟨fun u W hb hd K hK => ?_, ?_⟩
    · clear hd
      rw [if_pos (by rfl)]
      refine wp_load_mid 59 (.tmp 6) rfl g1 0 rfl (kC a) _ (rangeAt_of_blk (bg1.below hb lg1)) Tryd.underlying59 rfl (infoN.trans (by rw [kC_length _])) ?_
      exact hK _ _ _ rfl (Below.refl _ _) IsOut
    refine ⟨fun u W hb hd K hK => ?_, ?_⟩
    · clear hd
      rw [if_pos (by rfl)]
      refine wp_load_mid 59 (.tmp 9) rfl g4 0 rfl (kC d) _ (rangeAt_of_blk (bg4.below hb lg4)) Tryd.underlying59 rfl (infoN.trans (by rw [kC_length _])) ?_
      exact hK _ _ _ rfl (Below.refl _ _) IsOut
    refine ⟨fun u W hb hd K hK => ?_, ?_⟩
    · simp only [Facts, nthR, Is, and_true] at hd
      simp only [hd] at hK ⊢
      clear hd
      go_simp
      refine (MulK g a d W (hM.up hb)).mono ?_
      rintro e wy ⟨rfl, hby⟩
      exact hK _ _ _ rfl hby IsOut
    refine ⟨fun u W hb hd K hK => ?_, ?_⟩
    · clear hd
      go_simp
      apply hK
      · simp only [Act.put, List.setIfInBounds_toArray, List.set_cons_zero, List.set_cons_succ]
        exact rfl
      · exact Below.refl _ _
      · exact IsOut
    refine ⟨fun u W hb hd K hK => ?_, ?_⟩
    · simp only [Facts, nthR, Is, and_true] at hd
      simp only [hd] at hK ⊢
      clear hd
      have hc := (bg0.below hb lg0).cell 0
      go_simp
      apply hK
      · simp only [Act.put, List.setIfInBounds_toArray, List.set_cons_zero, List.set_cons_succ]
        exact rfl
      · exact Below.refl _ _
      · exact IsOut
    refine ⟨fun u W hb hd K hK => ?_, ?_⟩
    · clear hd
      rw [if_pos (by rfl)]
      refine wp_load_mid 59 (.tmp 7) rfl g2 0 rfl (kC b) _ (rangeAt_of_blk (bg2.below hb lg2)) Tryd.underlying59 rfl (infoN.trans (by rw [kC_length _])) ?_
      exact hK _ _ _ rfl (Below.refl _ _) IsOut
    refine ⟨fun u W hb hd K hK => ?_, ?_⟩
    · clear hd
      rw [if_pos (by rfl)]
      refine wp_load_mid 59 (.tmp 8) rfl g3 0 rfl (kC c) _ (rangeAt_of_blk (bg3.below hb lg3)) Tryd.underlying59 rfl (infoN.trans (by rw [kC_length _])) ?_
      exact hK _ _ _ rfl (Below.refl _ _) IsOut
    refine ⟨fun u W hb hd K hK => ?_, ?_⟩
    · simp only [Facts, nthR, Is, and_true] at hd
      simp only [hd] at hK ⊢
      clear hd
      go_simp
      refine (MulK g b c W (hM.up hb)).mono ?_
      rintro e wy ⟨rfl, hby⟩
      exact hK _ _ _ rfl hby IsOut
    refine ⟨fun u W hb hd K hK => ?_, ?_⟩
    · simp only [Facts, nthR, Is, and_true] at hd
      simp only [hd] at hK ⊢
      clear hd
      go_simp
      refine (AddK g (a * d) (b * c) W (hM.up hb)).mono ?_
      rintro e wy ⟨rfl, hby⟩
      exact hK _ _ _ rfl hby IsOut
    exact trivial
  · skip
    exact trivial
  · exact (.is (.is (.is (.is (.is (.is (.is (.is (.is (.is (.is (.is (.is .nil)))))))))))))
  · intro u W hb hd
    simp only [List.drop_succ_cons, List.drop_zero]
    simp only [Facts, nthR, Is, and_true] at hd
    simp only [hd]
    clear hd
    have bZ := bg5.below hb lg5
    go_wp2_with ((with_reducible refine (?_ : wpList _ _ _ (Oper.mk none _ _ _ _ _ :: _) _ _)); go_loud (refine wpList_store_blk rfl 59 (.tmp 10) (.tmp 23) rfl rfl g5 (kC (a * d + b * c)) rfl rfl _ _ (bZ) (infoN.trans (by rw [kC_length])) (by rw [kC_length, nC_length]) (oneK4 _) ?_); intro wz hPz hgz)
    refine bodyPost_ret (v := .agg _) (results_cell_row rfl _ _ g5 59 _ (0, 0) _ rfl hPz.raw Tryd.underlying59 rfl (infoN.trans (by rw [List.size_toArray, kC_length]))) rfl ?_
    have hx := hb0.trans (hb.mono hb0.size)
    exact ⟨rfl, below_new hx hgz (by have := HG.out; omega) hx.size⟩
set_option maxRecDepth 100000 in
set_option maxHeartbeats 1000000 in
theorem thrice_k (g : Nat) (a : K) (w : World) (h : GrpAt w g) : Calls Tryd.prog 59 #[.agg #[.pointer (some ⟨g, 0, none⟩)], .agg (kC a).toArray] w fun e w' => e = .returned (.agg (kC (3 * a)).toArray) ∧ Below w.heap.size w w' := by
  rw [show 3 * a = a + a + a by grind]
  go_enter Tryd.func59, Tryd.ntmps59
  go_upto_region 1 with (fail)
  obtain ⟨g5, hg5⟩ : ∃ g5, g5 = w.heap.size + 1 + 1 := ⟨_, rfl⟩
  obtain ⟨g1, hg1⟩ : ∃ g1, g1 = w.heap.size + 1 := ⟨_, rfl⟩
  obtain ⟨g0, hg0⟩ : ∃ g0, g0 = w.heap.size := ⟨_, rfl⟩
  have bg0 : Blk (((w.alloc (.cells #[.pointer (some ⟨g, 0, none⟩)] 62)).alloc (.cells (kC a).toArray 59)).alloc (.cells #[.int .u64 0, .int .u64 0, .int .u64 0, .int .u64 0] 59)) g0 62 ([.pointer (some ⟨g, 0, none⟩)]) := by rw [hg0]; exact blk_allocs [.cells #[.pointer (some ⟨g, 0, none⟩)] 62, .cells (kC a).toArray 59, .cells #[.int .u64 0, .int .u64 0, .int .u64 0, .int .u64 0] 59] w 0 62 ([.pointer (some ⟨g, 0, none⟩)]) rfl
  have bg1 : Blk (((w.alloc (.cells #[.pointer (some ⟨g, 0, none⟩)] 62)).alloc (.cells (kC a).toArray 59)).alloc (.cells #[.int .u64 0, .int .u64 0, .int .u64 0, .int .u64 0] 59)) g1 59 (kC a) := by rw [hg1]; exact blk_allocs [.cells #[.pointer (some ⟨g, 0, none⟩)] 62, .cells (kC a).toArray 59, .cells #[.int .u64 0, .int .u64 0, .int .u64 0, .int .u64 0] 59] w 1 59 (kC a) rfl
  have bg5 : Blk (((w.alloc (.cells #[.pointer (some ⟨g, 0, none⟩)] 62)).alloc (.cells (kC a).toArray 59)).alloc (.cells #[.int .u64 0, .int .u64 0, .int .u64 0, .int .u64 0] 59)) g5 59 (nC zeroP) := by rw [hg5]; exact blk_allocs [.cells #[.pointer (some ⟨g, 0, none⟩)] 62, .cells (kC a).toArray 59, .cells #[.int .u64 0, .int .u64 0, .int .u64 0, .int .u64 0] 59] w 2 59 (nC zeroP) rfl
  have hb0 : Below w.heap.size w ((((w.alloc (.cells #[.pointer (some ⟨g, 0, none⟩)] 62)).alloc (.cells (kC a).toArray 59)).alloc (.cells #[.int .u64 0, .int .u64 0, .int .u64 0, .int .u64 0] 59))) := below_allocs [.cells #[.pointer (some ⟨g, 0, none⟩)] 62, .cells (kC a).toArray 59, .cells #[.int .u64 0, .int .u64 0, .int .u64 0, .int .u64 0] 59] w
  have HG := Lib.hid (show w.heap.size ≤ g0 ∧ g0 < g1 ∧ g1 < g5 by omega)
  simp only [← hg5]
  simp only [← hg1]
  simp only [← hg0]
  clear hg5
  clear hg1
  clear hg0
  generalize ((w.alloc (.cells #[.pointer (some ⟨g, 0, none⟩)] 62)).alloc (.cells (kC a).toArray 59)).alloc (.cells #[.int .u64 0, .int .u64 0, .int .u64 0, .int .u64 0] 59) = w1 at *
  have lg0 := bg0.lt
  have lg1 := bg1.lt
  have lg5 := bg5.lt
  have hM := h.up hb0
  apply wp_region_once_tail (m := 9) (Z := []) (D := [[], [0], [], [2], [], [], [2, 3, 4, 5], [], [0, 1, 2, 3, 4, 5, 6, 7], [0, 1, 2, 3, 4, 5, 6, 7, 8]]) (J := [[], [0], [], [2], [], [], [3, 4, 5], [], [1, 6, 7]]) (Je := [8]) (Rs := [Is _, Is _, Is _, Is _, Is _, Is _, Is _, Is _, Is _])
  · kernel_rfl
  · kernel_rfl
  · kernel_rfl
  · kernel_rfl
  · kernel_rfl
  · kernel_rfl
  · kernel_rfl
  · exact fun h => absurd rfl h
  · intro u
    simp only [List.take_succ_cons, List.take_zero, List.map_cons, List.map_nil, fillU, List.setIfInBounds_toArray, List.set_cons_zero, List.set_cons_succ, Nat.zero_add, Nat.reduceAdd]
    exact rfl
  · simp only [List.take_succ_cons, List.take_zero]
    refine ⟨fun u W hb hd K hK => ?_, ?_⟩
    · clear hd
      go_simp
      apply hK
      · simp only [Act.put, List.setIfInBounds_toArray, List.set_cons_zero, List.set_cons_succ]
        exact rfl
      · exact Below.refl _ _
      · exact IsOut
    refine ⟨fun u W hb hd K hK => ?_, ?_⟩
    · simp only [Facts, nthR, Is, and_true] at hd
      simp only [hd] at hK ⊢
      clear hd
      have hc := (bg0.below hb lg0).cell 0
      go_simp
      apply hK
      · simp only [Act.put, List.setIfInBounds_toArray, List.set_cons_zero, List.set_cons_succ]
        exact rfl
      · exact Below.refl _ _
      · exact IsOut
    refine ⟨fun u W hb hd K hK => ?_, ?_⟩
    · clear hd
      go_simp
      apply hK
      · simp only [Act.put, List.setIfInBounds_toArray, List.set_cons_zero, List.set_cons_succ]
        exact rfl
      · exact Below.refl _ _
      · exact IsOut
    refine ⟨fun u W hb hd K hK => ?_, ?_⟩
    · simp only [Facts, nthR, Is, and_true] at hd
      simp only [hd] at hK ⊢
      clear hd
      have hc := (bg0.below hb lg0).cell 0
      go_simp
      apply hK
      · simp only [Act.put, List.setIfInBounds_toArray, List.set_cons_zero, List.set_cons_succ]
        exact rfl
      · exact Below.refl _ _
      · exact IsOut
    refine ⟨fun u W hb hd K hK => ?_, ?_⟩
    · clear hd
      rw [if_pos (by rfl)]
      refine wp_load_mid 59 (.tmp 3) rfl g1 0 rfl (kC a) _ (rangeAt_of_blk (bg1.below hb lg1)) Tryd.underlying59 rfl (infoN.trans (by rw [kC_length _])) ?_
      exact hK _ _ _ rfl (Below.refl _ _) IsOut
    refine ⟨fun u W hb hd K hK => ?_, ?_⟩
    · clear hd
      rw [if_pos (by rfl)]
      refine wp_load_mid 59 (.tmp 3) rfl g1 0 rfl (kC a) _ (rangeAt_of_blk (bg1.below hb lg1)) Tryd.underlying59 rfl (infoN.trans (by rw [kC_length _])) ?_
      exact hK _ _ _ rfl (Below.refl _ _) IsOut
    refine ⟨fun u W hb hd K hK => ?_, ?_⟩
    · simp only [Facts, nthR, Is, and_true] at hd
      simp only [hd] at hK ⊢
      clear hd
      go_simp
      refine (AddK g a a W (hM.up hb)).mono ?_
      rintro e wy ⟨rfl, hby⟩
      exact hK _ _ _ rfl hby IsOut
    refine ⟨fun u W hb hd K hK => ?_, ?_⟩
    · clear hd
      rw [if_pos (by rfl)]
      refine wp_load_mid 59 (.tmp 3) rfl g1 0 rfl (kC a) _ (rangeAt_of_blk (bg1.below hb lg1)) Tryd.underlying59 rfl (infoN.trans (by rw [kC_length _])) ?_
      exact hK _ _ _ rfl (Below.refl _ _) IsOut
    refine ⟨fun u W hb hd K hK => ?_, ?_⟩
    · simp only [Facts, nthR, Is, and_true] at hd
      simp only [hd] at hK ⊢
      clear hd
      go_simp
      refine (AddK g (a + a) a W (hM.up hb)).mono ?_
      rintro e wy ⟨rfl, hby⟩
      exact hK _ _ _ rfl hby IsOut
    exact trivial
  · skip
    exact trivial
  · exact (.is (.is (.is (.is (.is (.is (.is (.is (.is .nil)))))))))
  · intro u W hb hd
    simp only [List.drop_succ_cons, List.drop_zero]
    simp only [Facts, nthR, Is, and_true] at hd
    simp only [hd]
    clear hd
    have bZ := bg5.below hb lg5
    go_wp2_with ((with_reducible refine (?_ : wpList _ _ _ (Oper.mk none _ _ _ _ _ :: _) _ _)); go_loud (refine wpList_store_blk rfl 59 (.tmp 4) (.tmp 13) rfl rfl g5 (kC (a + a + a)) rfl rfl _ _ (bZ) (infoN.trans (by rw [kC_length])) (by rw [kC_length, nC_length]) (oneK4 _) ?_); intro wz hPz hgz)
    refine bodyPost_ret (v := .agg _) (results_cell_row rfl _ _ g5 59 _ (0, 0) _ rfl hPz.raw Tryd.underlying59 rfl (infoN.trans (by rw [List.size_toArray, kC_length]))) rfl ?_
    have hx := hb0.trans (hb.mono hb0.size)
    exact ⟨rfl, below_new hx hgz (by have := HG.out; omega) hx.size⟩
end Go.Proofs.YtnkikhnllnbhfaaDoor
