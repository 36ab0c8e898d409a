/-
 Rc2.
-/
import Derived.Test.YtnjpcbbdhimacaaDoorRc1
import Derived.BigQuiet
import Derived.Deep.DeepCutAuto
namespace Go.Proofs.YtnjpcbbdhimacaaDoor
open Go.RowKit
theorem i64_or_nat (a b : Nat) (ha : a < 2 ^ 62) (hb : b < 2 ^ 62) : bits .or .i64 (a : Int) (b : Int) = ((a ||| b : Nat) : Int) := by
 have hx : a ||| b < 2 ^ 62 := Nat.or_lt_two_pow ha hb
 show IntKind.i64.wrap ((BitVec.ofInt 64 (a : Int) ||| BitVec.ofInt 64 (b : Int)).toNat : Int) = _
 rw [BitVec.toNat_or, ofInt_u64 a (by omega), ofInt_u64 b (by omega), IntKind.wrap_i64]
 omega
theorem or_byte (x y : UInt8) : bits .or .i64 ((x.toNat : Int) * 256) (y.toNat : Int) = ((x.toNat * 256 + y.toNat : Nat) : Int) := by
 have hx := x.toNat_lt
 have hy := y.toNat_lt
 have e : x.toNat * 256 ||| y.toNat = x.toNat * 256 + y.toNat := by
  rw [show (256 : Nat) = 2 ^ 8 from rfl, ← Nat.shiftLeft_eq, Nat.shiftLeft_add_eq_or_of_lt hy]
 rw [show (x.toNat : Int) * 256 = ((x.toNat * 256 : Nat) : Int) by omega, i64_or_nat _ _ (by omega) (by omega), e]
theorem ix_byte (x : UInt8) : wrap64 (x.toNat : Int) = (x.toNat : Int) ∧ wrap64 ((x.toNat : Int) * 256) = (x.toNat : Int) * 256 ∧ IntKind.i64.wrap (x.toNat : Int) = (x.toNat : Int) ∧ IntKind.i64.wrap ((x.toNat : Int) * 256) = (x.toNat : Int) * 256 := by
 have hx := x.toNat_lt
 generalize x.toNat = a at *
 refine ⟨?_, ?_, ?_, ?_⟩
 ·
  unfold wrap64; omega
 ·
  unfold wrap64; omega
 ·
  rw [IntKind.wrap_i64]; omega
 ·
  rw [IntKind.wrap_i64]; omega
theorem ix_five (q : Nat) (h : q < 65536) : wrap64 (5 + (q : Int)) = 5 + (q : Int) := by unfold wrap64; omega
theorem two_bytes (x y : UInt8) : x.toNat * 256 + y.toNat < 65536 := by
 have hx := x.toNat_lt
 have hy := y.toNat_lt
 omega
/-- What the two bytes of the count say. -/
def cntB (b : List UInt8) : Nat := (b.getD 3 0).toNat * 256 + (b.getD 4 0).toNat
/-- How many bytes the first record has; what is wrong. -/
def sizeE (b : List UInt8) : Nat × Nat :=
 if beginsE b = false then (0, 2) else if b.length < 5 then (0, 3) else if 16640 < cntB b then (0, 4) else if b.length - 5 < cntB b then (0, 3) else (5 + cntB b, 0)
set_option maxRecDepth 100000 in
set_option maxHeartbeats 1000000 in
theorem sizeOf_e (A : Option Addr) (c n B : Nat) (b : List UInt8) (w : World) (hn : b.length = n) (iB : In w B A c b) (hB : B ≤ w.heap.size) :
  Calls Tryd.prog 65 #[.slice A n c] w fun e w' => e = .returned (.tuple #[.int .i64 ((sizeE b).1 : Int), .int .i64 ((sizeE b).2 : Int)]) ∧ Below w.heap.size w w' := by
 have kb := fun (W : World) (i : In W B A c b) => beginsOne_e A c n B b W hn i
 have HB := Lib.hid kb
 have hc2 := iB.2.1
 have hc1 := iB.1
 have IB := Lib.hid iB
 clear kb iB
 go_enter Tryd.func65, Tryd.ntmps65
 have hib := IB.out
 by_cases hbe : beginsE b = true
 ·
  by_cases h5 : n < 5
  ·
   have HZ := Lib.hid (show sizeE b = (0, 3) by unfold sizeE; rw [if_neg (by rw [hbe]; decide), if_pos (by omega)])
   have hd : (n : Int) < 5 := by omega
   clear h5
   go_wp2_with (go_at_call 84; refine (HB.out _ hib).mono ?_; rintro e w' ⟨rfl, rfl⟩)
   go_ret2
   exact ⟨by rw [HZ.out]; rfl, Below.refl _ _⟩
  ·
   have hd : ¬ (n : Int) < 5 := by omega
   obtain ⟨gb, ob, rfl, hgb, hby⟩ := hib.2.2 (by omega)
   obtain ⟨x, hx⟩ : ∃ x, x = b.getD 3 0 := ⟨_, rfl⟩
   obtain ⟨y, hy⟩ : ∃ y, y = b.getD 4 0 := ⟨_, rfl⟩
   have c3 := fun (W : World) (h : Below w.heap.size w W) => (World.cell?_of_block (w := w) (w' := W) (a := ⟨gb, ob + 3, none⟩) (h.block gb (by omega))).trans (hby 3 (by omega))
   have c4 := fun (W : World) (h : Below w.heap.size w W) => (World.cell?_of_block (w := w) (w' := W) (a := ⟨gb, ob + 4, none⟩) (h.block gb (by omega))).trans (hby 4 (by omega))
   rw [← hx] at c3
   rw [← hy] at c4
   obtain ⟨q, hq⟩ : ∃ q, q = cntB b := ⟨_, rfl⟩
   have hqq : q = x.toNat * 256 + y.toNat := by rw [hq, hx, hy]; rfl
   have hor : bits .or .i64 ((x.toNat : Int) * 256) (y.toNat : Int) = (q : Int) := by rw [or_byte, hqq]
   have HQ6 := Lib.hid (show q < 65536 by rw [hqq]; exact two_bytes x y)
   obtain ⟨hx1, hx2, hx3, hx4⟩ := ix_byte x
   obtain ⟨hy1, hy2, hy3, hy4⟩ := ix_byte y
   have HC3 := Lib.hid c3
   have HC4 := Lib.hid c4
   have HQ := Lib.hid hq
   have h3n : (3 : Int) < (n : Int) := by omega
   have h4n : (4 : Int) < (n : Int) := by omega
   clear c3 c4 hx hy hq hqq hby
   go_upto_region 5 with (go_at_call 84; refine (HB.out _ IB.out).mono ?_; rintro e w' ⟨rfl, rfl⟩)
   apply wp_region_once (D := [[], [0], [0, 1], [0, 1, 2], [0, 1, 2, 3], [], [5], [5, 6], [5, 6, 7], [0, 1, 2, 3, 4, 5, 6, 7, 8], [0, 1, 2, 3, 4, 5, 6, 7, 8, 9]]) (J := [[], [0], [1], [2], [3], [], [5], [6], [7], [4, 8], [9]]) (Je := [10]) (Rs := [Is _, Is _, Is _, Is _, Is _, Is _, Is _, Is _, Is _, Is _, Is _])
   ·
    kernel_rfl
   ·
    kernel_rfl
   ·
    kernel_rfl
   ·
    kernel_rfl
   ·
    kernel_rfl
   ·
    kernel_rfl
   ·
    intro u
    simp only [List.map_cons, List.map_nil, fillU, List.setIfInBounds_toArray, List.set_cons_zero, List.set_cons_succ, Nat.zero_add, Nat.reduceAdd]
    exact rfl
   ·
    skip
    refine ⟨fun u W hb hd K hK => ?_, ?_⟩
    ·
     clear hd
     go_simp
     apply hK
     ·
      simp only [Act.put, List.setIfInBounds_toArray, List.set_cons_zero, List.set_cons_succ]
      exact rfl
     ·
      exact Below.refl _ _
     ·
      exact IsOut
    refine ⟨fun u W hb hd K hK => ?_, ?_⟩
    ·
     simp only [Facts, nthR, Is, and_true] at hd
     simp only [hd] at hK ⊢
     clear hd
     go_simp
     apply hK
     ·
      simp only [Act.put, List.setIfInBounds_toArray, List.set_cons_zero, List.set_cons_succ]
      exact rfl
     ·
      exact Below.refl _ _
     ·
      exact IsOut
    refine ⟨fun u W hb hd K hK => ?_, ?_⟩
    ·
     simp only [Facts, nthR, Is, and_true] at hd
     simp only [hd] at hK ⊢
     clear hd
     have hcc := HC3.out W hb
     go_simp
     apply hK
     ·
      simp only [Act.put, List.setIfInBounds_toArray, List.set_cons_zero, List.set_cons_succ]
      exact rfl
     ·
      exact Below.refl _ _
     ·
      exact IsOut
    refine ⟨fun u W hb hd K hK => ?_, ?_⟩
    ·
     simp only [Facts, nthR, Is, and_true] at hd
     simp only [hd] at hK ⊢
     clear hd
     go_simp
     apply hK
     ·
      simp only [Act.put, List.setIfInBounds_toArray, List.set_cons_zero, List.set_cons_succ]
      exact rfl
     ·
      exact Below.refl _ _
     ·
      exact IsOut
    refine ⟨fun u W hb hd K hK => ?_, ?_⟩
    ·
     simp only [Facts, nthR, Is, and_true] at hd
     simp only [hd] at hK ⊢
     clear hd
     go_simp
     apply hK
     ·
      simp only [Act.put, List.setIfInBounds_toArray, List.set_cons_zero, List.set_cons_succ]
      exact rfl
     ·
      exact Below.refl _ _
     ·
      exact IsOut
    refine ⟨fun u W hb hd K hK => ?_, ?_⟩
    ·
     clear hd
     go_simp
     apply hK
     ·
      simp only [Act.put, List.setIfInBounds_toArray, List.set_cons_zero, List.set_cons_succ]
      exact rfl
     ·
      exact Below.refl _ _
     ·
      exact IsOut
    refine ⟨fun u W hb hd K hK => ?_, ?_⟩
    ·
     simp only [Facts, nthR, Is, and_true] at hd
     simp only [hd] at hK ⊢
     clear hd
     go_simp
     apply hK
     ·
      simp only [Act.put, List.setIfInBounds_toArray, List.set_cons_zero, List.set_cons_succ]
      exact rfl
     ·
      exact Below.refl _ _
     ·
      exact IsOut
    refine ⟨fun u W hb hd K hK => ?_, ?_⟩
    ·
     simp only [Facts, nthR, Is, and_true] at hd
     simp only [hd] at hK ⊢
     clear hd
     have hcc := HC4.out W hb
     go_simp
     apply hK
     ·
      simp only [Act.put, List.setIfInBounds_toArray, List.set_cons_zero, List.set_cons_succ]
      exact rfl
     ·
      exact Below.refl _ _
     ·
      exact IsOut
    refine ⟨fun u W hb hd K hK => ?_, ?_⟩
    ·
     simp only [Facts, nthR, Is, and_true] at hd
     simp only [hd] at hK ⊢
     clear hd
     go_simp
     apply hK
     ·
      simp only [Act.put, List.setIfInBounds_toArray, List.set_cons_zero, List.set_cons_succ]
      exact rfl
     ·
      exact Below.refl _ _
     ·
      exact IsOut
    refine ⟨fun u W hb hd K hK => ?_, ?_⟩
    ·
     simp only [Facts, nthR, Is, and_true] at hd
     simp only [hd] at hK ⊢
     clear hd
     go_simp
     apply hK
     ·
      simp only [Act.put, List.setIfInBounds_toArray, List.set_cons_zero, List.set_cons_succ]
      exact rfl
     ·
      exact Below.refl _ _
     ·
      exact IsOut
    refine ⟨fun u W hb hd K hK => ?_, ?_⟩
    ·
     simp only [Facts, nthR, Is, and_true] at hd
     simp only [hd] at hK ⊢
     clear hd
     go_simp
     apply hK
     ·
      simp only [Act.put, List.setIfInBounds_toArray, List.set_cons_zero, List.set_cons_succ]
      exact rfl
     ·
      exact Below.refl _ _
     ·
      exact IsOut
    exact trivial
   ·
    exact (.is (.is (.is (.is (.is (.is (.is (.is (.is (.is (.is .nil)))))))))))
   ·
    intro u W hb hd
    simp only [Facts, nthR, Is, and_true] at hd
    simp only [hd]
    have HN := Lib.hid hn
    by_cases hbig : 16640 < q
    ·
     have HZ := Lib.hid (show sizeE b = (0, 4) by unfold sizeE; rw [if_neg (by rw [hbe]; decide), if_neg (by rw [hn]; omega), if_pos (by rw [← HQ.out]; exact hbig)])
     have hd2 : (16640 : Int) < (q : Int) := by omega
     go_wp2
     go_ret2
     exact ⟨by rw [HZ.out]; rfl, hb⟩
    ·
     have hd2 : ¬ (16640 : Int) < (q : Int) := by omega
     by_cases hsh : n - 5 < q
     ·
      have HZ := Lib.hid (show sizeE b = (0, 3) by unfold sizeE; rw [if_neg (by rw [hbe]; decide), if_neg (by rw [hn]; omega), if_neg (by rw [← HQ.out]; exact hbig), if_pos (by rw [← HQ.out, hn]; exact hsh)])
      have hd3 : (n : Int) - 5 < (q : Int) := by omega
      go_wp2
      go_ret2
      exact ⟨by rw [HZ.out]; rfl, hb⟩
     ·
      have HZ := Lib.hid (show sizeE b = (5 + q, 0) by unfold sizeE; rw [if_neg (by rw [hbe]; decide), if_neg (by rw [hn]; omega), if_neg (by rw [← HQ.out]; exact hbig), if_neg (by rw [← HQ.out, hn]; exact hsh), ← HQ.out])
      have hd3 : ¬ (n : Int) - 5 < (q : Int) := by omega
      have hq7 := ix_five q HQ6.out
      go_wp2
      go_ret2
      exact ⟨by rw [HZ.out]; simp, hb⟩
 ·
  have hbf : beginsE b = false := by simpa using hbe
  have HZ := Lib.hid (show sizeE b = (0, 2) by unfold sizeE; rw [if_pos hbf])
  clear hbe
  go_wp2_with (go_at_call 84; refine (HB.out _ hib).mono ?_; rintro e w' ⟨rfl, rfl⟩)
  go_ret2
  exact ⟨by rw [HZ.out]; rfl, Below.refl _ _⟩

end Go.Proofs.YtnjpcbbdhimacaaDoor
