/-
  The contract of the group's holds.
-/
import Derived.Test.YtnkikhnllnbhfaaDoorCw4
namespace Go.Proofs.YtnkikhnllnbhfaaDoor
open Go.RowKit
open CurveMath

/-- A point's bytes in memory. -/
def ptC (X Y : List UInt8) : List Value := X.map B8 ++ Y.map B8
theorem ptC_length {X Y : List UInt8} (hX : X.length = 32) (hY : Y.length = 32) : (ptC X Y).length = 64 := by unfold ptC; rw [List.length_append, List.length_map, List.length_map, hX, hY]
theorem onePt (X Y : List UInt8) : (ptC X Y).toArray.all (·.oneCell') = true := by unfold ptC; rw [← List.map_append]; exact one8 _
theorem pt_range0 {w : World} {g : Nat} {t : TypeId} {X Y : List UInt8} (_hX : X.length = 32) (h : Blk w g t (ptC X Y)) : w.rangeAt g 0 (X.map B8) := fun j v hv => by
  rw [Nat.zero_add, h.cell]
  unfold ptC
  rw [List.getElem?_append_left (List.getElem?_eq_some_iff.1 hv).1, hv]
theorem pt_range1 {w : World} {g : Nat} {t : TypeId} {X Y : List UInt8} (hX : X.length = 32) (h : Blk w g t (ptC X Y)) : w.rangeAt g 32 (Y.map B8) := fun j v hv => by
  rw [h.cell]
  unfold ptC
  rw [List.getElem?_append_right (by rw [List.length_map, hX]; omega), List.length_map, hX, Nat.add_sub_cancel_left, hv]
theorem infoPt : (Tryd.prog.info? 24).map (·.size) = some 64 := by kernel_rfl
def kOf (bs : List UInt8) : K := Fin.ofNat pN (ofTo bs 32).val
def inF (bs : List UInt8) : Bool := lessP (ofTo bs 32) primeP
theorem pK_of {bs : List UInt8} (h : inF bs = true) : ofTo bs 32 = pK (kOf bs) := by
  unfold inF at h
  rw [lessP_eq (ofTo_ok _ _) primeP_ok, decide_eq_true_iff, primeP_val] at h
  refine P4.ext_val (ofTo_ok _ _) (pK_ok _) ?_
  rw [pK_val]
  exact (Nat.mod_eq_of_lt h).symm
def holdsB (X Y : List UInt8) : Bool := inF X && inF Y && decide (kOf Y * kOf Y = kOf X * (kOf X * kOf X - 3) + bK)
theorem OfN {bs : List UInt8} {n : P4} (hn : Hid (ofTo bs 32 = n)) (hl : Hid (bs.length = 32)) (w : World) : Calls Tryd.prog 42 #[.agg (bs.map B8).toArray] w fun e w' => e = .returned (.agg (nC n).toArray) ∧ Below w.heap.size w w' := by rw [← hn.out]; exact Of_any bs w hl.out
theorem LesN {x y : P4} {b : Bool} (h : lessP x y = b) (w : World) : Calls Tryd.prog 51 #[.agg (nC x).toArray, .agg (nC y).toArray] w fun e w' => e = .returned (.bool b) ∧ Below w.heap.size w w' := by subst h; exact Less_any x y w
theorem eqN_run (x y : P4) (w : World) : (Op.equalIn 10000 59 (.agg (nC x).toArray) (.agg (nC y).toArray)).run Tryd.prog w = .ok (eqP x y) w := eq24 x y w
theorem eqK_run (a b : K) (w : World) : (Op.equalIn 10000 59 (.agg (kC a).toArray) (.agg (kC b).toArray)).run Tryd.prog w = .ok (decide (a = b)) w := by
  have h := eqN_run (pK a) (pK b) w
  have e : eqP (pK a) (pK b) = decide (a = b) := by
    rw [Bool.eq_iff_iff, eqP_eq, decide_eq_true_iff]
    exact ⟨pK_inj, fun h => by rw [h]⟩
  rw [e] at h
  exact h
theorem wp_built1 {o : Oper} {a : Act} {w : World} {K : Act → World → Prop} {Q : Exit → Act → World → Prop} (t : TypeId) (x : Operand) (ho : o.op = .build t #[(0, x)]) (v0 : Value) (h0 : a.eval x = v0) (cells : Array Value) (hc : Tryd.prog.built t [(0, v0)] = some cells) (h : K (a.put o.dst (.agg cells)) w) : o.wp Tryd.prog a w K Q := by
  subst h0
  have e : ((#[(0, x)] : Array (Nat × Operand)).map fun (i, x) => (i, a.eval x)).toList = [(0, a.eval x)] := by simp
  have hc' : Tryd.prog.built t ((#[(0, x)] : Array (Nat × Operand)).map fun (i, x) => (i, a.eval x)).toList = some cells := by rw [e]; exact hc
  exact wp_build t _ ho (by rw [hc']; rfl) (by rw [hc']; exact h)
theorem built3 : Tryd.prog.built 59 [(0, .int .u64 3)] = some (kC 3).toArray := by kernel_rfl
theorem built1 : Tryd.prog.built 59 [(0, .int .u64 1)] = some (kC 1).toArray := by kernel_rfl
set_option maxRecDepth 100000 in
set_option maxHeartbeats 2000000 in
theorem holds_k (g : Nat) (X Y : List UInt8) (w : World) (h : GrpAt w g) (hT : TabsC w) (hX : Hid (X.length = 32)) (hY : Hid (Y.length = 32)) : Calls Tryd.prog 36 #[.agg #[.pointer (some ⟨g, 0, none⟩)], .agg (ptC X Y).toArray] w fun e w' => e = .returned (.bool (holdsB X Y)) ∧ Below w.heap.size w w' := by
  obtain ⟨bx, hbX⟩ : ∃ b, Hid (inF X = b) := ⟨_, Lib.hid rfl⟩
  obtain ⟨by_, hbY⟩ : ∃ b, Hid (inF Y = b) := ⟨_, Lib.hid rfl⟩
  obtain ⟨bz, HZ⟩ : ∃ b, Hid (holdsB X Y = b) := ⟨_, Lib.hid rfl⟩
  rw [HZ.out]
  obtain ⟨nX, hnX⟩ : ∃ n, Hid (ofTo X 32 = n) := ⟨_, Lib.hid rfl⟩
  obtain ⟨nY, hnY⟩ : ∃ n, Hid (ofTo Y 32 = n) := ⟨_, Lib.hid rfl⟩
  have hlX := Lib.hid (show lessP nX primeP = bx by rw [← hnX.out]; exact hbX.out)
  have hlY := Lib.hid (show lessP nY primeP = by_ by rw [← hnY.out]; exact hbY.out)
  go_enter Tryd.func36, Tryd.ntmps36
  go_upto_region 1 with (fail)
  obtain ⟨g1, hg1⟩ : ∃ g1, g1 = w.heap.size + 1 := ⟨_, rfl⟩
  obtain ⟨g0, hg0⟩ : ∃ g0, g0 = w.heap.size := ⟨_, rfl⟩
  have bg0 : Blk ((w.alloc (.cells #[.pointer (some ⟨g, 0, none⟩)] 62)).alloc (.cells (ptC X Y).toArray 24)) g0 62 ([.pointer (some ⟨g, 0, none⟩)]) := by rw [hg0]; exact blk_allocs [.cells #[.pointer (some ⟨g, 0, none⟩)] 62, .cells (ptC X Y).toArray 24] w 0 62 ([.pointer (some ⟨g, 0, none⟩)]) rfl
  have bg1 : Blk ((w.alloc (.cells #[.pointer (some ⟨g, 0, none⟩)] 62)).alloc (.cells (ptC X Y).toArray 24)) g1 24 (ptC X Y) := by rw [hg1]; exact blk_allocs [.cells #[.pointer (some ⟨g, 0, none⟩)] 62, .cells (ptC X Y).toArray 24] w 1 24 (ptC X Y) rfl
  have hb0 : Below w.heap.size w (((w.alloc (.cells #[.pointer (some ⟨g, 0, none⟩)] 62)).alloc (.cells (ptC X Y).toArray 24))) := below_allocs [.cells #[.pointer (some ⟨g, 0, none⟩)] 62, .cells (ptC X Y).toArray 24] w
  have HG := Lib.hid (show w.heap.size ≤ g0 ∧ g0 < g1 by omega)
  simp only [← hg1]
  simp only [← hg0]
  clear hg1
  clear hg0
  generalize (w.alloc (.cells #[.pointer (some ⟨g, 0, none⟩)] 62)).alloc (.cells (ptC X Y).toArray 24) = w1 at *
  have lg0 := bg0.lt
  have lg1 := bg1.lt
  have hM := h.up hb0
  apply wp_region_fresh (m := 8) (Z := []) (Fl := [false, false, false, false, false, false, true, true]) (D := [[], [0], [0, 1], [], [3], [0, 1, 2, 3, 4], [], [], [0, 1, 2, 3, 4, 5, 6, 7], [0, 1, 2, 3, 4, 5, 6, 7, 8]]) (J := [[], [0], [1], [], [3], [4], [], []]) (Je := [2, 5, 6, 7]) (Rs := [Is _, Is _, Is _, Is _, Is _, Is _, fun v V => ∃ g', v = .pointer (some ⟨g', 0, none⟩) ∧ w1.heap.size ≤ g' ∧ Blk V g' 59 (nC zeroP), fun v V => ∃ g', v = .pointer (some ⟨g', 0, none⟩) ∧ w1.heap.size ≤ g' ∧ Blk V g' 59 (nC zeroP)])
  · kernel_rfl
  · kernel_rfl
  · kernel_rfl
  · kernel_rfl
  · kernel_rfl
  · kernel_rfl
  · kernel_rfl
  · kernel_rfl
  · exact fun h => absurd rfl h
  · intro u
    simp only [List.take_succ_cons, List.take_zero, List.map_cons, List.map_nil, fillU, List.setIfInBounds_toArray, List.set_cons_zero, List.set_cons_succ, Nat.zero_add, Nat.reduceAdd]
    exact rfl
  · simp only [List.take_succ_cons, List.take_zero]
    refine ⟨fun u W hb hd K hK => ?_, ?_⟩
    · clear hd
      go_simp
      apply hK
      · simp only [Act.put, List.setIfInBounds_toArray, List.set_cons_zero, List.set_cons_succ]
        exact rfl
      · exact Below.refl _ _
      · exact IsOut
    refine ⟨fun u W hb hd K hK => ?_, ?_⟩
    · simp only [Facts, nthR, Is, and_true] at hd
      simp only [hd] at hK ⊢
      clear hd
      rw [if_pos (by rfl)]
      refine wp_load_mid 22 (.tmp 8) rfl g1 0 rfl (X.map B8) _ (pt_range0 hX.out (bg1.below hb lg1)) Tryd.underlying22 rfl (info40.trans (by rw [List.length_map, hX.out])) ?_
      exact hK _ _ _ rfl (Below.refl _ _) IsOut
    refine ⟨fun u W hb hd K hK => ?_, ?_⟩
    · simp only [Facts, nthR, Is, and_true] at hd
      simp only [hd] at hK ⊢
      clear hd
      go_simp
      refine (OfN hnX hX _).mono ?_
      rintro e wy ⟨rfl, hby⟩
      exact hK _ _ _ rfl hby IsOut
    refine ⟨fun u W hb hd K hK => ?_, ?_⟩
    · clear hd
      go_simp
      apply hK
      · simp only [Act.put, List.setIfInBounds_toArray, List.set_cons_zero, List.set_cons_succ]
        exact rfl
      · exact Below.refl _ _
      · exact IsOut
    refine ⟨fun u W hb hd K hK => ?_, ?_⟩
    · simp only [Facts, nthR, Is, and_true] at hd
      simp only [hd] at hK ⊢
      clear hd
      rw [if_pos (by rfl)]
      refine wp_load_mid 22 (.tmp 11) rfl g1 32 rfl (Y.map B8) _ (pt_range1 hX.out (bg1.below hb lg1)) Tryd.underlying22 rfl (info40.trans (by rw [List.length_map, hY.out])) ?_
      exact hK _ _ _ rfl (Below.refl _ _) IsOut
    refine ⟨fun u W hb hd K hK => ?_, ?_⟩
    · simp only [Facts, nthR, Is, and_true] at hd
      simp only [hd] at hK ⊢
      clear hd
      go_simp
      refine (OfN hnY hY _).mono ?_
      rintro e wy ⟨rfl, hby⟩
      exact hK _ _ _ rfl hby IsOut
    refine ⟨fun u W hb hd K hK => ?_, ?_⟩
    · clear hd
      go_simp
      apply hK
      · simp only [Act.put, List.setIfInBounds_toArray, List.set_cons_zero, List.set_cons_succ]
        exact rfl
      · exact (Below.refl _ _).alloc (Nat.le_refl _) _
      · exact ⟨_, rfl, hb.size, Blk.new_of _ _ _ _ rfl⟩
      · exact ⟨_, rfl, Nat.le_refl _, by simp⟩
    refine ⟨fun u W hb hd K hK => ?_, ?_⟩
    · clear hd
      go_simp
      apply hK
      · simp only [Act.put, List.setIfInBounds_toArray, List.set_cons_zero, List.set_cons_succ]
        exact rfl
      · exact (Below.refl _ _).alloc (Nat.le_refl _) _
      · exact ⟨_, rfl, hb.size, Blk.new_of _ _ _ _ rfl⟩
      · exact ⟨_, rfl, Nat.le_refl _, by simp⟩
    exact trivial
  · skip
    exact trivial
  · exact (.is (.is (.is (.is (.is (.is (.cons (fun v V V' ⟨g', h1, h2, h3⟩ hb => ⟨g', h1, h2, h3.below hb h3.lt⟩) (.cons (fun v V V' ⟨g', h1, h2, h3⟩ hb => ⟨g', h1, h2, h3.below hb h3.lt⟩) .nil))))))))
  · intro u W hb hd hne
    simp only [List.drop_succ_cons, List.drop_zero]
    simp only [Facts, nthR, Is, and_true] at hd
    obtain ⟨h2, h5, ⟨g5, h6, hng5, bg5⟩, ⟨g6, h7, hng6, bg6⟩⟩ := hd
    have hne67 : g5 ≠ g6 := fun e => hne 6 7 rfl rfl (by decide) (by decide) (by decide) (by rw [h6, h7, e])
    simp only [h2, h5, h6, h7]
    clear h2 h5 h6 h7 hne
    have lM := hM.lt
    have lG := h.lt
    have hsz := hb0.size
    have hGo := HG.out
    replace bg0 := bg0.below hb lg0
    replace bg1 := bg1.below hb lg1
    replace hM := hM.up hb
    replace hb0 := hb0.trans (hb.mono hb0.size)
    clear hb
    go_upto_region 2 with (first
      | ((with_reducible refine (?_ : wpList _ _ _ (Oper.mk none _ _ _ _ _ :: _) _ _)); go_loud (refine wpList_store_blk rfl 59 (.tmp 5) (.tmp 10) rfl rfl g5 (nC (nX)) rfl rfl _ _ (bg5) (infoN.trans (by rw [nC_length])) (by first | rfl | rw [nC_length, nC_length]) (one4 _) ?_); intro w2a bn hgs; replace bg0 := bg0.grown hgs (fun e => by injection e with e; omega); replace bg1 := bg1.grown hgs (fun e => by injection e with e; omega); replace bg6 := bg6.grown hgs (fun e => by injection e with e; omega); replace hM := hM.grown hgs (fun e => by omega); replace hb0 := below_new hb0 hgs (by omega) hb0.size; clear hgs bg5; have bg5 := bn; clear bn)
      | ((with_reducible refine (?_ : wpList _ _ _ (Oper.mk none _ _ _ _ _ :: _) _ _)); go_loud (refine wpList_store_blk rfl 59 (.tmp 6) (.tmp 13) rfl rfl g6 (nC (nY)) rfl rfl _ _ (bg6) (infoN.trans (by rw [nC_length])) (by first | rfl | rw [nC_length, nC_length]) (one4 _) ?_); intro w2 bn hgs; replace bg0 := bg0.grown hgs (fun e => by injection e with e; omega); replace bg1 := bg1.grown hgs (fun e => by injection e with e; omega); replace bg5 := bg5.grown hgs (fun e => by injection e with e; omega); replace hM := hM.grown hgs (fun e => by omega); replace hb0 := below_new hb0 hgs (by omega) hb0.size; clear hgs bg6; have bg6 := bn; clear bn))
    clear lM lG hsz hGo lg0 lg1 hng5 hng6 hne67
    have lg0 := bg0.lt
    have lg1 := bg1.lt
    have lg5 := bg5.lt
    have lg6 := bg6.lt
    have bWg5 := bg5
    have hTW := hT.below hb0
    cases bx with
    | false =>
      have HB : holdsB X Y = false := by unfold holdsB; rw [hbX.out]; rfl
      go_wp2_with (first
        | ((with_reducible refine (?_ : wpList _ _ _ (Oper.mk (some 14) _ _ _ _ _ :: _) _ _)); go_loud (refine wpList_load_mid rfl 59 (.tmp 5) rfl g5 0 rfl (nC nX) _ (rangeAt_of_blk bWg5) Tryd.underlying59 rfl (infoN.trans (by rw [nC_length])) ?_))
        | ((with_reducible refine (?_ : wpList _ _ _ (Oper.mk (some 15) _ _ _ _ _ :: _) _ _)); go_loud (refine wpList_load_mid rfl 59 (.global 3) rfl 3 0 rfl (nC primeP) _ hTW.prime Tryd.underlying59 rfl (infoN.trans (by rw [nC_length])) ?_))
        | (go_at_call 51; refine (LesN hlX.out w2).mono ?_; rintro e w3 ⟨rfl, hbx⟩; have bWg6 := bg6.below hbx lg6; have hTW := (hT.up hb0 hbx)))
      refine bodyPost_ret (results_tmp Tryd.results36 _ _ _) rfl ?_
      exact ⟨by rw [← HZ.out, HB]; rfl, hb0.trans (hbx.mono hb0.size)⟩
    | true =>
    cases by_ with
    | false =>
      have HB : holdsB X Y = false := by unfold holdsB; rw [hbX.out, hbY.out]; rfl
      go_wp2_with (first
        | ((with_reducible refine (?_ : wpList _ _ _ (Oper.mk (some 14) _ _ _ _ _ :: _) _ _)); go_loud (refine wpList_load_mid rfl 59 (.tmp 5) rfl g5 0 rfl (nC nX) _ (rangeAt_of_blk bWg5) Tryd.underlying59 rfl (infoN.trans (by rw [nC_length])) ?_))
        | ((with_reducible refine (?_ : wpList _ _ _ (Oper.mk (some 15) _ _ _ _ _ :: _) _ _)); go_loud (refine wpList_load_mid rfl 59 (.global 3) rfl 3 0 rfl (nC primeP) _ hTW.prime Tryd.underlying59 rfl (infoN.trans (by rw [nC_length])) ?_))
        | ((with_reducible refine (?_ : wpList _ _ _ (Oper.mk (some 19) _ _ _ _ _ :: _) _ _)); go_loud (refine BigFrame.wpList_want (by rfl) (fun K hK => wp_load_mid 59 (.tmp 6) rfl g6 0 rfl (nC nY) _ (rangeAt_of_blk bWg6) Tryd.underlying59 rfl (infoN.trans (by rw [nC_length])) (hK _ _ ?_))))
        | ((with_reducible refine (?_ : wpList _ _ _ (Oper.mk (some 20) _ _ _ _ _ :: _) _ _)); go_loud (refine BigFrame.wpList_want (by rfl) (fun K hK => wp_load_mid 59 (.global 3) rfl 3 0 rfl (nC primeP) _ hTW.prime Tryd.underlying59 rfl (infoN.trans (by rw [nC_length])) (hK _ _ ?_))))
        | (go_at_call 51; refine (LesN hlX.out w2).mono ?_; rintro e w3 ⟨rfl, hbx⟩; have bWg6 := bg6.below hbx lg6; have hTW := (hT.up hb0 hbx))
        | (go_at_call 51; refine (LesN hlY.out w3).mono ?_; rintro e w4 ⟨rfl, hby⟩))
      refine bodyPost_ret (results_tmp Tryd.results36 _ _ _) rfl ?_
      exact ⟨by rw [← HZ.out, HB]; rfl, (hb0.trans (hbx.mono hb0.size)).trans (hby.mono (Nat.le_trans hb0.size hbx.size))⟩
    | true =>
    go_upto_region 4 with (first
      | ((with_reducible refine (?_ : wpList _ _ _ (Oper.mk (some 14) _ _ _ _ _ :: _) _ _)); go_loud (refine wpList_load_mid rfl 59 (.tmp 5) rfl g5 0 rfl (nC nX) _ (rangeAt_of_blk bWg5) Tryd.underlying59 rfl (infoN.trans (by rw [nC_length])) ?_))
      | ((with_reducible refine (?_ : wpList _ _ _ (Oper.mk (some 15) _ _ _ _ _ :: _) _ _)); go_loud (refine wpList_load_mid rfl 59 (.global 3) rfl 3 0 rfl (nC primeP) _ hTW.prime Tryd.underlying59 rfl (infoN.trans (by rw [nC_length])) ?_))
      | ((with_reducible refine (?_ : wpList _ _ _ (Oper.mk (some 19) _ _ _ _ _ :: _) _ _)); go_loud (refine BigFrame.wpList_want (by rfl) (fun K hK => wp_load_mid 59 (.tmp 6) rfl g6 0 rfl (nC nY) _ (rangeAt_of_blk bWg6) Tryd.underlying59 rfl (infoN.trans (by rw [nC_length])) (hK _ _ ?_))))
      | ((with_reducible refine (?_ : wpList _ _ _ (Oper.mk (some 20) _ _ _ _ _ :: _) _ _)); go_loud (refine BigFrame.wpList_want (by rfl) (fun K hK => wp_load_mid 59 (.global 3) rfl 3 0 rfl (nC primeP) _ hTW.prime Tryd.underlying59 rfl (infoN.trans (by rw [nC_length])) (hK _ _ ?_))))
      | (go_at_call 51; refine (LesN hlX.out w2).mono ?_; rintro e w3 ⟨rfl, hbx⟩; have bWg6 := bg6.below hbx lg6; have hTW := (hT.up hb0 hbx))
      | (go_at_call 51; refine (LesN hlY.out w3).mono ?_; rintro e w4 ⟨rfl, hby⟩))
    clear bWg5 hTW
    have hbz := hbx.trans (hby.mono hbx.size)
    clear hbx hby
    replace bg0 := bg0.below hbz lg0
    replace bg1 := bg1.below hbz lg1
    replace bg5 := bg5.below hbz lg5
    replace bg6 := bg6.below hbz lg6
    replace hM := hM.up hbz
    replace hb0 := hb0.trans (hbz.mono hb0.size)
    clear hbz
    clear bWg6 lg0 lg1 lg5 lg6
    have lg0 := bg0.lt
    have lg1 := bg1.lt
    have lg5 := bg5.lt
    have lg6 := bg6.lt
    obtain ⟨x, hx⟩ : ∃ x, x = kOf X := ⟨_, rfl⟩
    obtain ⟨y, hy⟩ : ∃ y, y = kOf Y := ⟨_, rfl⟩
    rw [← hnX.out, pK_of hbX.out, ← hx] at bg5
    rw [← hnY.out, pK_of hbY.out, ← hy] at bg6
    change Blk _ _ _ (kC x) at bg5
    change Blk _ _ _ (kC y) at bg6
    have HB : holdsB X Y = decide (y * y = x * (x * x - 3) + bK) := by unfold holdsB; rw [hbX.out, hbY.out, hx, hy]; rfl
    clear hx hy hbX hbY
    obtain ⟨xx, hxx⟩ : ∃ xx, Hid (xx = x * x) := ⟨_, Lib.hid rfl⟩
    obtain ⟨x3, hx3⟩ : ∃ x3, Hid (x3 = xx - 3) := ⟨_, Lib.hid rfl⟩
    obtain ⟨xm, hxm⟩ : ∃ xm, Hid (xm = x * x3) := ⟨_, Lib.hid rfl⟩
    obtain ⟨rr, hrr⟩ : ∃ rr, Hid (rr = xm + bK) := ⟨_, Lib.hid rfl⟩
    obtain ⟨yy, hyy⟩ : ∃ yy, Hid (yy = y * y) := ⟨_, Lib.hid rfl⟩
    have HB2 := Lib.hid (show decide (yy = rr) = bz by rw [← HZ.out, HB, hyy.out, hrr.out, hxm.out, hx3.out, hxx.out])
    clear HB
    apply wp_region_fresh (m := 18) (Z := []) (Fl := [false, false, false, false, false, false, false, false, false, false, false, false, false, false, false, false, false, true]) (D := [[], [0], [], [2], [], [], [5], [], [7], [], [], [7, 8, 9, 10], [], [5, 6, 7, 8, 9, 10, 11, 12], [2, 3, 4, 5, 6, 7, 8, 9, 10, 11, 12, 13], [], [0, 1, 2, 3, 4, 5, 6, 7, 8, 9, 10, 11, 12, 13, 14, 15], [], [0, 1, 2, 3, 4, 5, 6, 7, 8, 9, 10, 11, 12, 13, 14, 15, 16, 17]]) (J := [[], [0], [], [2], [], [], [5], [], [7], [], [], [8, 9, 10], [], [6, 11, 12], [3, 4, 13], [], [1, 14, 15], []]) (Je := [16, 17]) (Rs := [Is _, Is _, Is _, Is _, Is _, Is _, Is _, Is _, Is _, Is _, Is _, Is _, Is _, Is _, Is _, Is _, Is _, fun v V => ∃ g', v = .pointer (some ⟨g', 0, none⟩) ∧ w4.heap.size ≤ g' ∧ Blk V g' 59 (nC zeroP)])
    · kernel_rfl
    · kernel_rfl
    · kernel_rfl
    · kernel_rfl
    · kernel_rfl
    · kernel_rfl
    · kernel_rfl
    · kernel_rfl
    · exact fun h => absurd rfl h
    · intro u
      simp only [List.take_succ_cons, List.take_zero, List.map_cons, List.map_nil, fillU, List.setIfInBounds_toArray, List.set_cons_zero, List.set_cons_succ, Nat.zero_add, Nat.reduceAdd]
      exact rfl
    · simp only [List.take_succ_cons, List.take_zero]
      refine ⟨fun u W hb hd K hK => ?_, ?_⟩
      · clear hd
        go_simp
        apply hK
        · simp only [Act.put, List.setIfInBounds_toArray, List.set_cons_zero, List.set_cons_succ]
          exact rfl
        · exact Below.refl _ _
        · exact IsOut
      refine ⟨fun u W hb hd K hK => ?_, ?_⟩
      · simp only [Facts, nthR, Is, and_true] at hd
        simp only [hd] at hK ⊢
        clear hd
        have hc := ((bg0.below hb lg0)).cell 0
        go_simp
        apply hK
        · simp only [Act.put, List.setIfInBounds_toArray, List.set_cons_zero, List.set_cons_succ]
          exact rfl
        · exact Below.refl _ _
        · exact IsOut
      refine ⟨fun u W hb hd K hK => ?_, ?_⟩
      · clear hd
        go_simp
        apply hK
        · simp only [Act.put, List.setIfInBounds_toArray, List.set_cons_zero, List.set_cons_succ]
          exact rfl
        · exact Below.refl _ _
        · exact IsOut
      refine ⟨fun u W hb hd K hK => ?_, ?_⟩
      · simp only [Facts, nthR, Is, and_true] at hd
        simp only [hd] at hK ⊢
        clear hd
        have hc := ((bg0.below hb lg0)).cell 0
        go_simp
        apply hK
        · simp only [Act.put, List.setIfInBounds_toArray, List.set_cons_zero, List.set_cons_succ]
          exact rfl
        · exact Below.refl _ _
        · exact IsOut
      refine ⟨fun u W hb hd K hK => ?_, ?_⟩
      · clear hd
        rw [if_pos (by rfl)]
        refine wp_load_mid 59 (.tmp 5) rfl g5 0 rfl (kC (x)) _ (rangeAt_of_blk (bg5.below hb lg5)) Tryd.underlying59 rfl (infoN.trans (by rw [kC_length])) ?_
        exact hK _ _ _ rfl (Below.refl _ _) IsOut
      refine ⟨fun u W hb hd K hK => ?_, ?_⟩
      · clear hd
        go_simp
        apply hK
        · simp only [Act.put, List.setIfInBounds_toArray, List.set_cons_zero, List.set_cons_succ]
          exact rfl
        · exact Below.refl _ _
        · exact IsOut
      refine ⟨fun u W hb hd K hK => ?_, ?_⟩
      · simp only [Facts, nthR, Is, and_true] at hd
        simp only [hd] at hK ⊢
        clear hd
        have hc := ((bg0.below hb lg0)).cell 0
        go_simp
        apply hK
        · simp only [Act.put, List.setIfInBounds_toArray, List.set_cons_zero, List.set_cons_succ]
          exact rfl
        · exact Below.refl _ _
        · exact IsOut
      refine ⟨fun u W hb hd K hK => ?_, ?_⟩
      · clear hd
        go_simp
        apply hK
        · simp only [Act.put, List.setIfInBounds_toArray, List.set_cons_zero, List.set_cons_succ]
          exact rfl
        · exact Below.refl _ _
        · exact IsOut
      refine ⟨fun u W hb hd K hK => ?_, ?_⟩
      · simp only [Facts, nthR, Is, and_true] at hd
        simp only [hd] at hK ⊢
        clear hd
        have hc := ((bg0.below hb lg0)).cell 0
        go_simp
        apply hK
        · simp only [Act.put, List.setIfInBounds_toArray, List.set_cons_zero, List.set_cons_succ]
          exact rfl
        · exact Below.refl _ _
        · exact IsOut
      refine ⟨fun u W hb hd K hK => ?_, ?_⟩
      · clear hd
        rw [if_pos (by rfl)]
        refine wp_load_mid 59 (.tmp 5) rfl g5 0 rfl (kC (x)) _ (rangeAt_of_blk (bg5.below hb lg5)) Tryd.underlying59 rfl (infoN.trans (by rw [kC_length])) ?_
        exact hK _ _ _ rfl (Below.refl _ _) IsOut
      refine ⟨fun u W hb hd K hK => ?_, ?_⟩
      · clear hd
        rw [if_pos (by rfl)]
        refine wp_load_mid 59 (.tmp 5) rfl g5 0 rfl (kC (x)) _ (rangeAt_of_blk (bg5.below hb lg5)) Tryd.underlying59 rfl (infoN.trans (by rw [kC_length])) ?_
        exact hK _ _ _ rfl (Below.refl _ _) IsOut
      refine ⟨fun u W hb hd K hK => ?_, ?_⟩
      · simp only [Facts, nthR, Is, and_true] at hd
        simp only [hd] at hK ⊢
        clear hd
        go_simp
        refine (MulE hxx (hM.up hb)).mono ?_
        rintro e wy ⟨rfl, hby⟩
        exact hK _ _ _ rfl hby IsOut
      refine ⟨fun u W hb hd K hK => ?_, ?_⟩
      · clear hd
        rw [if_pos (by rfl)]
        refine wp_built1 59 (.const (.int .u64 3)) rfl (.int .u64 3) rfl (kC 3).toArray built3 ?_
        exact hK _ _ _ rfl (Below.refl _ _) IsOut
      refine ⟨fun u W hb hd K hK => ?_, ?_⟩
      · simp only [Facts, nthR, Is, and_true] at hd
        simp only [hd] at hK ⊢
        clear hd
        go_simp
        refine (SubE hx3 (hM.up hb)).mono ?_
        rintro e wy ⟨rfl, hby⟩
        exact hK _ _ _ rfl hby IsOut
      refine ⟨fun u W hb hd K hK => ?_, ?_⟩
      · simp only [Facts, nthR, Is, and_true] at hd
        simp only [hd] at hK ⊢
        clear hd
        go_simp
        refine (MulE hxm (hM.up hb)).mono ?_
        rintro e wy ⟨rfl, hby⟩
        exact hK _ _ _ rfl hby IsOut
      refine ⟨fun u W hb hd K hK => ?_, ?_⟩
      · clear hd
        rw [if_pos (by rfl)]
        refine wp_load_mid 59 (.global 4) rfl 4 0 rfl (kC (bK)) _ ((hT.up hb0 hb).constant) Tryd.underlying59 rfl (infoN.trans (by rw [kC_length])) ?_
        exact hK _ _ _ rfl (Below.refl _ _) IsOut
      refine ⟨fun u W hb hd K hK => ?_, ?_⟩
      · simp only [Facts, nthR, Is, and_true] at hd
        simp only [hd] at hK ⊢
        clear hd
        go_simp
        refine (AddE hrr (hM.up hb)).mono ?_
        rintro e wy ⟨rfl, hby⟩
        exact hK _ _ _ rfl hby IsOut
      refine ⟨fun u W hb hd K hK => ?_, ?_⟩
      · clear hd
        go_simp
        apply hK
        · simp only [Act.put, List.setIfInBounds_toArray, List.set_cons_zero, List.set_cons_succ]
          exact rfl
        · exact (Below.refl _ _).alloc (Nat.le_refl _) _
        · exact ⟨_, rfl, hb.size, Blk.new_of _ _ _ _ rfl⟩
        · exact ⟨_, rfl, Nat.le_refl _, by simp⟩
      exact trivial
    · skip
      exact trivial
    · exact (.is (.is (.is (.is (.is (.is (.is (.is (.is (.is (.is (.is (.is (.is (.is (.is (.is (.cons (fun v V V' ⟨g', h1, h2, h3⟩ hb => ⟨g', h1, h2, h3.below hb h3.lt⟩) .nil))))))))))))))))))
    · intro u W hb hd hne
      simp only [List.drop_succ_cons, List.drop_zero]
      simp only [Facts, nthR, Is, and_true] at hd
      obtain ⟨h16, ⟨g7, h17, hng7, bg7⟩⟩ := hd
      simp only [h16, h17]
      clear h16 h17 hne
      have lM := hM.lt
      have lG := h.lt
      have hsz := hb0.size
      have hGo := HG.out
      replace bg0 := bg0.below hb lg0
      replace bg1 := bg1.below hb lg1
      replace bg5 := bg5.below hb lg5
      replace bg6 := bg6.below hb lg6
      replace hM := hM.up hb
      replace hb0 := hb0.trans (hb.mono hb0.size)
      clear hb
      go_upto_region 5 with (first
        | ((with_reducible refine (?_ : wpList _ _ _ (Oper.mk none _ _ _ _ _ :: _) _ _)); go_loud (refine wpList_store_blk rfl 59 (.tmp 7) (.tmp 40) rfl rfl g7 (kC (rr)) rfl rfl _ _ (bg7) (infoN.trans (by rw [kC_length])) (by first | rfl | rw [kC_length, nC_length]) (oneK4 _) ?_); intro w5 bn hgs; replace bg0 := bg0.grown hgs (fun e => by injection e with e; omega); replace bg1 := bg1.grown hgs (fun e => by injection e with e; omega); replace bg5 := bg5.grown hgs (fun e => by injection e with e; omega); replace bg6 := bg6.grown hgs (fun e => by injection e with e; omega); replace hM := hM.grown hgs (fun e => by omega); replace hb0 := below_new hb0 hgs (by omega) hb0.size; clear hgs bg7; have bg7 := bn; clear bn))
      clear lM lG hsz hGo lg0 lg1 lg5 lg6 hng7
      have lg0 := bg0.lt
      have lg1 := bg1.lt
      have lg5 := bg5.lt
      have lg6 := bg6.lt
      have lg7 := bg7.lt
      apply wp_region_once_tail (m := 7) (Z := []) (D := [[], [0], [], [], [0, 1, 2, 3], [], [0, 1, 2, 3, 4, 5], [0, 1, 2, 3, 4, 5, 6]]) (J := [[], [0], [], [], [1, 2, 3], [], [4, 5]]) (Je := [6]) (Rs := [Is _, Is _, Is _, Is _, Is _, Is _, Is _])
      · kernel_rfl
      · kernel_rfl
      · kernel_rfl
      · kernel_rfl
      · kernel_rfl
      · kernel_rfl
      · kernel_rfl
      · exact fun h => absurd rfl h
      · intro u
        simp only [List.take_succ_cons, List.take_zero, List.map_cons, List.map_nil, fillU, List.setIfInBounds_toArray, List.set_cons_zero, List.set_cons_succ, Nat.zero_add, Nat.reduceAdd]
        exact rfl
      · simp only [List.take_succ_cons, List.take_zero]
        refine ⟨fun u W hb hd K hK => ?_, ?_⟩
        · clear hd
          go_simp
          apply hK
          · simp only [Act.put, List.setIfInBounds_toArray, List.set_cons_zero, List.set_cons_succ]
            exact rfl
          · exact Below.refl _ _
          · exact IsOut
        refine ⟨fun u W hb hd K hK => ?_, ?_⟩
        · simp only [Facts, nthR, Is, and_true] at hd
          simp only [hd] at hK ⊢
          clear hd
          have hc := ((bg0.below hb lg0)).cell 0
          go_simp
          apply hK
          · simp only [Act.put, List.setIfInBounds_toArray, List.set_cons_zero, List.set_cons_succ]
            exact rfl
          · exact Below.refl _ _
          · exact IsOut
        refine ⟨fun u W hb hd K hK => ?_, ?_⟩
        · clear hd
          rw [if_pos (by rfl)]
          refine wp_load_mid 59 (.tmp 6) rfl g6 0 rfl (kC (y)) _ (rangeAt_of_blk (bg6.below hb lg6)) Tryd.underlying59 rfl (infoN.trans (by rw [kC_length])) ?_
          exact hK _ _ _ rfl (Below.refl _ _) IsOut
        refine ⟨fun u W hb hd K hK => ?_, ?_⟩
        · clear hd
          rw [if_pos (by rfl)]
          refine wp_load_mid 59 (.tmp 6) rfl g6 0 rfl (kC (y)) _ (rangeAt_of_blk (bg6.below hb lg6)) Tryd.underlying59 rfl (infoN.trans (by rw [kC_length])) ?_
          exact hK _ _ _ rfl (Below.refl _ _) IsOut
        refine ⟨fun u W hb hd K hK => ?_, ?_⟩
        · simp only [Facts, nthR, Is, and_true] at hd
          simp only [hd] at hK ⊢
          clear hd
          go_simp
          refine (MulE hyy (hM.up hb)).mono ?_
          rintro e wy ⟨rfl, hby⟩
          exact hK _ _ _ rfl hby IsOut
        refine ⟨fun u W hb hd K hK => ?_, ?_⟩
        · clear hd
          rw [if_pos (by rfl)]
          refine wp_load_mid 59 (.tmp 7) rfl g7 0 rfl (kC (rr)) _ (rangeAt_of_blk (bg7.below hb lg7)) Tryd.underlying59 rfl (infoN.trans (by rw [kC_length])) ?_
          exact hK _ _ _ rfl (Below.refl _ _) IsOut
        refine ⟨fun u W hb hd K hK => ?_, ?_⟩
        · simp only [Facts, nthR, Is, and_true] at hd
          simp only [hd] at hK ⊢
          clear hd
          have he := eqK_run yy rr W
          go_simp
          apply hK
          · simp only [Act.put, List.setIfInBounds_toArray, List.set_cons_zero, List.set_cons_succ]
            exact rfl
          · exact Below.refl _ _
          · exact IsOut
        exact trivial
      · skip
        exact trivial
      · exact (.is (.is (.is (.is (.is (.is (.is .nil)))))))
      · intro u W hb hd
        simp only [List.drop_succ_cons, List.drop_zero]
        simp only [Facts, nthR, Is, and_true] at hd
        have h6 := hd
        clear hd
        simp only [h6]
        clear h6
        clear bg0 lg0 bg1 lg1 bg5 lg5 bg6 lg6 bg7 lg7
        have lM := hM.lt
        have lG := h.lt
        have hsz := hb0.size
        have hGo := HG.out
        replace hM := hM.up hb
        replace hb0 := hb0.trans (hb.mono hb0.size)
        clear hb
        go_wp2
        refine bodyPost_ret (results_tmp Tryd.results36 _ _ _) rfl ?_
        exact ⟨by rw [← HB2.out]; rfl, hb0⟩
end Go.Proofs.YtnkikhnllnbhfaaDoor
