/-
 Joined: Grf, Gr8, Grc.
-/
import Derived.Test.YtnjpcbbdhimacaaDoorKh
import Derived.Test.YtnjpcbbdhimacaaDoorKg
namespace Go.Proofs.YtnjpcbbdhimacaaDoor
section
open Go.RowKit
/-- Texts that came in, below block B. -/
def SIn (w : World) (B : Nat) (A : Option Addr) (c : Nat) (ts : List (List UInt8)) : Prop := ts.length ≤ c ∧ c ≤ 9223372036854775807 ∧ (0 < ts.length → ∃ gp op, A = some ⟨gp, op, none⟩ ∧ gp < B ∧
 ∀ j, j < ts.length → w.cell? ⟨gp, op + j, none⟩ = some (.string ⟨(ts.getD j []).toArray⟩))
theorem SIn.below {w w' : World} {B : Nat} {A : Option Addr} {c : Nat} {ts : List (List UInt8)} (h : SIn w B A c ts) (hb : Below B w w') : SIn w' B A c ts :=
 ⟨h.1, h.2.1, fun h0 => by
  obtain ⟨gp, op, e, hl, hj⟩ := h.2.2 h0
  exact ⟨gp, op, e, hl, fun j hjl => (hb.cell (p := ⟨gp, op + j, none⟩) hl).trans (hj j hjl)⟩⟩
theorem padE_get (r : List UInt8) (i : Nat) (hi : i < 16) : (padE r).getD i 0 = if i < r.length then r.getD i 0 else 0 := by
 unfold padE
 have hz : ∀ k, zero16.getD k 0 = 0 := fun k => by
  by_cases hk : k < 16
  ·
   have : k = 0 ∨ k = 1 ∨ k = 2 ∨ k = 3 ∨ k = 4 ∨ k = 5 ∨ k = 6 ∨ k = 7 ∨ k = 8 ∨ k = 9 ∨ k = 10 ∨ k = 11 ∨ k = 12 ∨ k = 13 ∨ k = 14 ∨ k = 15 := by omega
   rcases this with rfl | rfl | rfl | rfl | rfl | rfl | rfl | rfl | rfl | rfl | rfl | rfl | rfl | rfl | rfl | rfl <;> rfl
  ·
   rw [List.getD_eq_getElem?_getD, List.getElem?_eq_none (by show 16 ≤ k; omega)]; rfl
 have hl : (r.take 16).length = min 16 r.length := List.length_take
 by_cases h : i < r.length
 ·
  rw [if_pos h, List.getD_eq_getElem?_getD, List.getElem?_append_left (by omega), List.getElem?_take, if_pos hi, ← List.getD_eq_getElem?_getD]
 ·
  rw [if_neg h, List.getD_eq_getElem?_getD, List.getElem?_append_right (by omega), List.getElem?_drop, ← List.getD_eq_getElem?_getD, hz]
theorem put_pad {Y r : List UInt8} (hY : Y.length = 16) (l : Nat) (hl : l = min 16 r.length) : (putE Y (padE r)).take l ++ Y.drop l = putE Y (padE r) := by
 have hX := putE_length hY (padE_length r)
 conv => rhs; rw [← List.take_append_drop l (putE Y (padE r))]
 congr 1
 apply List.ext_getElem?
 intro i
 rw [List.getElem?_drop, List.getElem?_drop]
 by_cases hi : l + i < 16
 ·
  have h1 := putE_get hY (padE_length r) (l + i) hi
  rw [padE_get r (l + i) hi, if_neg (by omega), UInt8.xor_zero, List.getD_eq_getElem?_getD, List.getD_eq_getElem?_getD, List.getElem?_eq_getElem (by omega), List.getElem?_eq_getElem (by omega)] at h1
  rw [List.getElem?_eq_getElem (by omega), List.getElem?_eq_getElem (by omega)]
  exact congrArg some h1.symm
 ·
  rw [List.getElem?_eq_none (by omega), List.getElem?_eq_none (by omega)]
theorem ix_w (q : Nat) (h : q < 1000000000) : IntKind.i64.wrap (q : Int) = (q : Int) := by rw [IntKind.wrap_i64]; omega
structure RFr (w : World) (g0 go : Nat) (F Z : List UInt8) (wr : World) : Prop where
 f : Blk wr g0 56 (F.map B8)
 r : Blk wr go 56 (Z.map B8)
 bw : Below w.heap.size w wr
theorem RFr.below {w wr W : World} {g0 go : Nat} {F Z : List UInt8} (h : RFr w g0 go F Z wr) (hb : Below wr.heap.size wr W) : RFr w g0 go F Z W :=
 ⟨h.f.below hb h.f.lt, h.r.below hb h.r.lt, h.bw.trans (hb.mono h.bw.size)⟩
theorem RFr.far {w wr : World} {g0 go : Nat} {F Z : List UInt8} (h : RFr w g0 go F Z wr) {p : Addr} (hp : g0 ≠ p.block ∧ go ≠ p.block ∧ w.heap.size ≤ p.block) (u : Value) : RFr w g0 go F Z (wr.setCell p u) :=
 ⟨h.f.far hp.1 u, h.r.far hp.2.1 u, h.bw.setCell hp.2.2 u⟩
theorem RFr.grown {w wr W : World} {g0 go gy : Nat} {F Z : List UInt8} (h : RFr w g0 go F Z wr) (hg : wr.grownBy W (some gy)) (hp : g0 ≠ gy ∧ go ≠ gy ∧ w.heap.size ≤ gy) : RFr w g0 go F Z W :=
 ⟨h.f.grown hg (by simpa using hp.1), h.r.grown hg (by simpa using hp.2.1), below_new h.bw hg hp.2.2 h.bw.size⟩

set_option maxRecDepth 100000 in
set_option maxHeartbeats 1000000 in
theorem refFold_e (F : List UInt8) (A : Option Addr) (c : Nat) (ps : List (List UInt8)) (w : World) (hF16 : F.length = 16) (hA : SIn w w.heap.size A c ps) (hl : ∀ k, k < ps.length → (ps.getD k []).length < 1000000000) :
  Calls Tryd.prog 71 #[BV F, .slice A ps.length c] w fun e w' => e = .returned (BV (gFold F ps)) ∧ Below w.heap.size w w' := by
 have hz : ∀ W : World, (zeroValue 56).run Tryd.prog W = .ok (BV zero16) W := fun W => by kernel_rfl
 obtain ⟨Z, hZ⟩ : ∃ Z, Z = zero16 := ⟨_, rfl⟩
 have HZL := Lib.hid (show Z.length = 16 by rw [hZ]; rfl)
 rw [← hZ] at hz
 have HZE := Lib.hid hZ
 have HF16 := Lib.hid hF16
 have HPS := Lib.hid hA
 have HLL := Lib.hid hl
 have HPR : Hid (∀ (Y : List UInt8) (W : World), Y.length = 16 → Calls Tryd.prog 90 #[BV Y, BV F] W fun e w' => e = .returned (BV (prodE Y F)) ∧ Below W.heap.size W w') := (fun Y W hY => by
  have := refProduct_e Y F hY hF16 W
  rw [zE_prod Y F hF16] at this
  exact this)
 clear hZ hF16 hA hl
 go_enter Tryd.func71, Tryd.ntmps71
 have hA0 : Blk (((w.alloc (.cells (F.map B8).toArray 56)).alloc (.cells (Z.map B8).toArray 56)).alloc (.cells (Z.map B8).toArray 56)) w.heap.size 56 (F.map B8) := ((Blk.new_of w 56 _ (F.map B8) rfl).alloc _).alloc _
 have hR0 := (Blk.new2_of w (.cells (F.map B8).toArray 56) 56 (Z.map B8).toArray (Z.map B8) rfl).alloc (.cells (Z.map B8).toArray 56)
 have hY0 := Blk.new3_of w (.cells (F.map B8).toArray 56) (.cells (Z.map B8).toArray 56) 56 (Z.map B8).toArray (Z.map B8) rfl
 have hbw := (((Below.refl w.heap.size w).alloc (Nat.le_refl _) (.cells (F.map B8).toArray 56)).alloc (by simp) (.cells (Z.map B8).toArray 56)).alloc (by simp; omega) (.cells (Z.map B8).toArray 56)
 have hF0 : RFr w w.heap.size (w.heap.size + 1) F Z _ := ⟨hA0, hR0, hbw⟩
 have hne : w.heap.size ≠ w.heap.size + 1 + 1 ∧ w.heap.size + 1 ≠ w.heap.size + 1 + 1 ∧ w.heap.size ≤ w.heap.size + 1 + 1 := by omega
 have hle : w.heap.size ≤ w.heap.size + 1 := by omega
 go_wp2
 clear hz hA0 hR0 hbw
 generalize w.heap.size + 1 + 1 = gy at *
 generalize w.heap.size + 1 = go at *
 generalize ((w.alloc (.cells (F.map B8).toArray 56)).alloc (.cells (Z.map B8).toArray 56)).alloc (.cells (Z.map B8).toArray 56) = w1 at *
 go_loopw [6, 7, 8, 9] (fun i _ _ _ wr => ∃ (k : Nat) (Y : List UInt8), k ≤ ps.length ∧ i = .int .i64 (k : Int) ∧ Hid (Y = gFold F (ps.take k)) ∧ Blk wr gy 56 (Y.map B8) ∧ RFr w w.heap.size go F Z wr) (fun i _ _ _ _ => ps.length - (intOf i).toNat)
 case atStart => exact ⟨0, Z, by omega, rfl, by rw [HZE.out]; show _ = _; rfl, hY0, hF0⟩
 case round =>
  clear hF0 hY0
  obtain ⟨k, Y, hk, rfl, HY, hY, hF⟩ := hrel
  by_cases hlt : k < ps.length
  ·
   have hd1 : decide ((k : Int) < (ps.length : Int)) = true := by simp; omega
   have hk0 : (0 : Int) ≤ (k : Int) := by omega
   have hkl : (k : Int) < (ps.length : Int) := by omega
   obtain ⟨hpc, hpm, hpe⟩ := HPS.out.below hF.bw
   obtain ⟨gp, op, rfl, hgp, hj⟩ := hpe (by omega)
   have hc := hj k hlt
   have hn := HLL.out k hlt
   have HN := Lib.hid (gFold_snoc F ps k hlt)
   obtain ⟨P, hP⟩ : ∃ P, P = ps.getD k [] := ⟨_, rfl⟩
   rw [← hP, ← HY.out] at HN
   rw [← hP] at hc hn
   have HYL := Lib.hid (show Y.length = 16 by rw [HY.out]; exact gFold_length _ _)
   obtain ⟨Y0, hY0⟩ : ∃ Y0, Y0 = Y := ⟨_, rfl⟩
   rw [← hY0] at HN
   have HY0 := Lib.hid hY0
   clear hP hj hpe HY hY0
   have HFF := Lib.hid hF
   have HYB := Lib.hid hY
   clear hF hY
   obtain ⟨n, hnn⟩ : ∃ n, n = P.length := ⟨_, rfl⟩
   have HNN := Lib.hid hnn
   rw [← hnn] at hn
   clear hnn
   have hlen : (P.length : Int) = (n : Int) := by have := HNN.out; omega
   go_wp2
   obtain ⟨wo, rfl⟩ : ∃ wo : World, wo = wr := ⟨_, rfl⟩
   have hF := HFF.out
   have hY := HYB.out
   clear hc HFF HYB
   go_loopw [8, 9] (fun at' _ wr => ∃ (m p : Nat) (Y : List UInt8), Hid (p = 16 * m ∧ p < n + 16 ∧ Y = fStep F Y0 P m ∧ Y.length = 16) ∧ at' = .int .i64 (p : Int) ∧ Blk wr gy 56 (Y.map B8) ∧ RFr w w.heap.size go F Z wr) (fun at' _ _ => n + 16 - (intOf at').toNat)
   case atStart => exact ⟨0, 0, Y, ⟨rfl, by omega, HY0.out.symm, HYL.out⟩, rfl, hY, hF⟩
   case round =>
    clear hF hY HYL HY0
    obtain ⟨m, p, Y, HR, rfl, hY, hF⟩ := hrel
    have HYL := Lib.hid HR.out.2.2.2
    by_cases hpn : p < n
    ·
     have hd2 : decide ((p : Int) < (n : Int)) = true := by simp; omega
     obtain ⟨r, hr⟩ : ∃ r, r = P.drop p := ⟨_, rfl⟩
     have hrl : r.length = n - p := by rw [hr, List.length_drop, HNN.out]
     obtain ⟨l, hl⟩ : ∃ l, l = min 16 r.length := ⟨_, rfl⟩
     have HXP := Lib.hid (put_pad (r := r) HYL.out l hl)
     have HXG := Lib.hid (fun i (hi : i < 16) => putE_get HYL.out (padE_length r) i hi)
     have HPG := Lib.hid (fun i (hi : i < 16) => padE_get r i hi)
     have HXL := Lib.hid (putE_length HYL.out (padE_length r))
     have HNX := Lib.hid (show fStep F Y0 P (m + 1) = prodE (putE Y (padE r)) F by rw [HR.out.2.2.1, hr, HR.out.1]; rfl)
     have HRR := Lib.hid hr
     have HRL := Lib.hid hrl
     have HL := Lib.hid hl
     clear hr hrl hl
     generalize putE Y (padE r) = X at *
     go_wp2
     obtain ⟨wq, rfl⟩ : ∃ wq : World, wq = wr := ⟨_, rfl⟩
     go_loopw [9] (fun i wr => ∃ j : Nat, j ≤ l ∧ i = .int .i64 (j : Int) ∧ Blk wr gy 56 ((X.take j ++ Y.drop j).map B8) ∧ RFr w w.heap.size go F Z wr) (fun i _ => l - (intOf i).toNat)
     case atStart => exact ⟨0, by omega, rfl, hY, hF⟩
     case round =>
      clear hY hF
      obtain ⟨j, hj, rfl, hY, hF⟩ := hrel
      by_cases hjl : j < l
      ·
       have hj16 : j < 16 := by have := HL.out; omega
       obtain ⟨q, hq⟩ : ∃ q, q = p + j := ⟨_, rfl⟩
       have hqn : q < n := by have := HL.out; have := HRL.out; omega
       have hqP : q < P.length := by have := HNN.out; omega
       have hx := HXG.out j hj16
       rw [HPG.out j hj16, if_pos (by have := HL.out; omega), HRR.out, show (P.drop p).getD j 0 = P.getD q 0 from by rw [List.getD_eq_getElem?_getD, List.getElem?_drop, ← hq, ← List.getD_eq_getElem?_getD]] at hx
       have hkx : (⟨P.toArray⟩ : ByteArray)[q]'(show q < P.length from hqP) = P.getD q 0 := by
        show P.toArray[q] = _
        simp [List.getD_eq_getElem?_getD, List.getElem?_eq_getElem hqP]
       have hlen2 := mid_len X Y j (by rw [HXL.out]; omega) (by rw [HYL.out]; omega)
       have hst := set_up X Y j (by rw [HXL.out]; omega) (by rw [HYL.out]; omega)
       have hgt := mid_get X Y j (by rw [HXL.out]; omega)
       have hxx := b_xor (Y.getD j 0) (P.getD q 0)
       rw [← hx] at hxx
       have HCY : Hid (∀ W, Below wr.heap.size wr W → W.cell? ⟨gy, j, none⟩ = some (.int .u8 ((Y.getD j 0).toNat : Int))) := (fun W hb => by
        have := (hY.below hb hY.lt).at8 j (by rw [hlen2, HYL.out]; omega)
        rw [hgt] at this
        exact this)
       have HGG := Lib.hid (And.intro hst hgt)
       have HLN := Lib.hid hlen2
       have hd3 : decide ((j : Int) < 16) = true := by simp; omega
       have hd4 : decide ((q : Int) < (n : Int)) = true := by simp; omega
       have hj0 : (0 : Int) ≤ (j : Int) := by omega
       have hj1 : (j : Int) < 16 := by omega
       have hq0 : (0 : Int) ≤ (q : Int) := by omega
       have hq1 : (q : Int) < (n : Int) := by omega
       have hw0 : (p : Int) + (j : Int) = (q : Int) := by omega
       have hwq : IntKind.i64.wrap (q : Int) = (q : Int) := ix_w q (by omega)
       generalize Y.getD j 0 = y1 at *
       generalize P.getD q 0 = p1 at *
       generalize X.getD j 0 = x1 at *
       clear hx hlen2 hst hgt hq hj16 hqn
       go_wp2
       apply wp_region_once_tail (m := 11) (Z := []) (D := [[], [], [1], [1, 2], [], [], [], [5, 6], [4, 5, 6, 7], [1, 2, 3, 4, 5, 6, 7, 8], [0, 1, 2, 3, 4, 5, 6, 7, 8, 9], [0, 1, 2, 3, 4, 5, 6, 7, 8, 9, 10]]) (J := [[], [], [1], [2], [], [], [], [5, 6], [4, 7], [3, 8], [0]]) (Je := [9, 10]) (Rs := [Is _, Is _, Is _, Is _, Is _, Is _, Is _, Is _, Is _, Is _, Is _])
       ·
        kernel_rfl
       ·
        kernel_rfl
       ·
        kernel_rfl
       ·
        kernel_rfl
       ·
        kernel_rfl
       ·
        kernel_rfl
       ·
        kernel_rfl
       ·
        exact fun h => absurd rfl h
       ·
        intro u
        simp only [List.take_succ_cons, List.take_zero, List.map_cons, List.map_nil, fillU, List.setIfInBounds_toArray, List.set_cons_zero, List.set_cons_succ, Nat.zero_add, Nat.reduceAdd]
        exact rfl
       ·
        simp only [List.take_succ_cons, List.take_zero]
        refine ⟨fun u W hb hd K hK => ?_, ?_⟩
        ·
         clear hd
         go_simp
         apply hK
         ·
          simp only [Act.put, List.setIfInBounds_toArray, List.set_cons_zero, List.set_cons_succ]
          exact rfl
         ·
          exact Below.refl _ _
         ·
          exact IsOut
        refine ⟨fun u W hb hd K hK => ?_, ?_⟩
        ·
         clear hd
         go_simp
         apply hK
         ·
          simp only [Act.put, List.setIfInBounds_toArray, List.set_cons_zero, List.set_cons_succ]
          exact rfl
         ·
          exact Below.refl _ _
         ·
          exact IsOut
        refine ⟨fun u W hb hd K hK => ?_, ?_⟩
        ·
         simp only [Facts, nthR, Is, and_true] at hd
         simp only [hd] at hK ⊢
         clear hd
         go_simp
         apply hK
         ·
          simp only [Act.put, List.setIfInBounds_toArray, List.set_cons_zero, List.set_cons_succ]
          exact rfl
         ·
          exact Below.refl _ _
         ·
          exact IsOut
        refine ⟨fun u W hb hd K hK => ?_, ?_⟩
        ·
         simp only [Facts, nthR, Is, and_true] at hd
         simp only [hd] at hK ⊢
         clear hd
         have hcc := HCY.out W hb
         go_simp
         apply hK
         ·
          simp only [Act.put, List.setIfInBounds_toArray, List.set_cons_zero, List.set_cons_succ]
          exact rfl
         ·
          exact Below.refl _ _
         ·
          exact IsOut
        refine ⟨fun u W hb hd K hK => ?_, ?_⟩
        ·
         clear hd
         go_simp
         apply hK
         ·
          simp only [Act.put, List.setIfInBounds_toArray, List.set_cons_zero, List.set_cons_succ]
          exact rfl
         ·
          exact Below.refl _ _
         ·
          exact IsOut
        refine ⟨fun u W hb hd K hK => ?_, ?_⟩
        ·
         clear hd
         go_simp
         apply hK
         ·
          simp only [Act.put, List.setIfInBounds_toArray, List.set_cons_zero, List.set_cons_succ]
          exact rfl
         ·
          exact Below.refl _ _
         ·
          exact IsOut
        refine ⟨fun u W hb hd K hK => ?_, ?_⟩
        ·
         clear hd
         go_simp
         apply hK
         ·
          simp only [Act.put, List.setIfInBounds_toArray, List.set_cons_zero, List.set_cons_succ]
          exact rfl
         ·
          exact Below.refl _ _
         ·
          exact IsOut
        refine ⟨fun u W hb hd K hK => ?_, ?_⟩
        ·
         simp only [Facts, nthR, Is, and_true] at hd
         simp only [hd] at hK ⊢
         clear hd
         go_simp
         apply hK
         ·
          simp only [Act.put, List.setIfInBounds_toArray, List.set_cons_zero, List.set_cons_succ]
          exact rfl
         ·
          exact Below.refl _ _
         ·
          exact IsOut
        refine ⟨fun u W hb hd K hK => ?_, ?_⟩
        ·
         simp only [Facts, nthR, Is, and_true] at hd
         simp only [hd] at hK ⊢
         clear hd
         go_simp
         apply hK
         ·
          simp only [Act.put, List.setIfInBounds_toArray, List.set_cons_zero, List.set_cons_succ]
          exact rfl
         ·
          exact Below.refl _ _
         ·
          exact IsOut
        refine ⟨fun u W hb hd K hK => ?_, ?_⟩
        ·
         simp only [Facts, nthR, Is, and_true] at hd
         simp only [hd] at hK ⊢
         clear hd
         go_simp
         apply hK
         ·
          simp only [Act.put, List.setIfInBounds_toArray, List.set_cons_zero, List.set_cons_succ]
          exact rfl
         ·
          exact Below.refl _ _
         ·
          exact IsOut
        refine ⟨fun u W hb hd K hK => ?_, ?_⟩
        ·
         simp only [Facts, nthR, Is, and_true] at hd
         simp only [hd] at hK ⊢
         clear hd
         go_simp
         apply hK
         ·
          simp only [Act.put, List.setIfInBounds_toArray, List.set_cons_zero, List.set_cons_succ]
          exact rfl
         ·
          exact Below.refl _ _
         ·
          exact IsOut
        exact trivial
       ·
        skip
        exact trivial
       ·
        exact (.is (.is (.is (.is (.is (.is (.is (.is (.is (.is (.is .nil)))))))))))
       ·
        intro u W hb hd
        simp only [List.drop_succ_cons, List.drop_zero]
        simp only [Facts, nthR, Is, and_true] at hd
        simp only [hd]
        clear hd
        replace hY := hY.below hb hY.lt
        replace hF := hF.below hb
        have hcc := HCY.out W hb
        have hf := hY.frozen j
        have hY2 := hY.set_ j (B8 x1)
        rw [map_set8, HGG.out.1] at hY2
        have hF2 := hF.far (p := ⟨gy, j, none⟩) hne (B8 x1)
        have HY2 := Lib.hid hY2
        have HF2 := Lib.hid hF2
        clear hb hY2 hF2 hY hF
        go_wp2
        go_roundw
        case rel => exact ⟨j + 1, by omega, by go_num, HY2.out, HF2.out⟩
        case measure => simp [intOf]; omega
      ·
       have hjl2 : j = l := by omega
       rw [hjl2, HXP.out] at hY
       have hcond : (j < 16 ∧ ¬ (p + j < n)) ∨ ¬ (j < 16) := by
        by_cases h16 : j < 16
        ·
         left; exact ⟨h16, by have := HL.out; have := HRL.out; omega⟩
        ·
         right; exact h16
       have hj17 : j ≤ 16 := by have := HL.out; omega
       have HYX := Lib.hid hY
       have HFX := Lib.hid hF
       have HP1 := Lib.hid (show p + 16 = 16 * (m + 1) ∧ p + 16 < n + 16 by have := HR.out.1; omega)
       have HNS : Hid (prodE X F = fStep F Y0 P (m + 1)) := HNX.out.symm
       clear hY hF hj hjl hjl2 hd2 HNX HXG HPG HRR HRL HL
       obtain ⟨p16, hp6⟩ : ∃ p16, p16 = p + 16 := ⟨_, rfl⟩
       have ha8 : (p : Int) + 16 = (p16 : Int) := by omega
       rw [← hp6] at HP1
       clear hp6
       have hY := HYX.out
       have hF := HFX.out
       have hFf := hF.f
       rcases hcond with ⟨h1, h2⟩ | h1
       case' inl =>
        have h3 : decide ((j : Int) < 16) = true := by simp; omega
        have h4 : decide ((p : Int) + (j : Int) < (n : Int)) = false := by simp; omega
        have h5 : ¬ ((p : Int) + (j : Int) < (n : Int)) := by omega
       case' inr =>
        have h3 : decide ((j : Int) < 16) = false := by simp; omega
       all_goals
        go_wp2_with (first
         | ((with_reducible refine (?_ : wpList _ _ _ (Oper.mk (some 49) _ _ _ _ _ :: _) _ _)); go_loud (refine wpList_load_blk rfl 56 (.tmp 5) rfl (gy) rfl 56 _ _ hY Tryd.underlying56 rfl (infoBk.trans (by rw [List.length_map, HXL.out])) ?_))
         | ((with_reducible refine (?_ : wpList _ _ _ (Oper.mk (some 50) _ _ _ _ _ :: _) _ _)); go_loud (refine wpList_load_blk rfl 56 (.tmp 2) rfl (w.heap.size) rfl 56 _ _ hFf Tryd.underlying56 rfl (infoBk.trans (by rw [List.length_map, HF16.out])) ?_))
         | (go_at_call 90; refine (HPR.out X _ HXL.out).mono ?_; rintro e w5 ⟨rfl, hb5⟩; replace hY := hY.below hb5 hY.lt; replace hF := hF.below hb5; clear hb5)
         | ((with_reducible refine (?_ : wpList _ _ _ (Oper.mk none (.store 56 (.tmp 5) _) _ _ _ _ :: _) _ _)); go_loud (refine wpList_store_blk rfl 56 (.tmp 5) (.tmp 51) rfl rfl (gy) _ rfl rfl 56 _ hY (infoBk.trans (by rw [List.length_map, prodE_length _ _])) (by rw [List.length_map, List.length_map, prodE_length _ _, HXL.out]) (one8 _) ?_); intro w6 hY6 hg6; replace hF := hF.grown hg6 hne; have HY6 := Lib.hid hY6; have HF6 := Lib.hid hF; clear hY hF hg6 hY6 hFf))
        go_roundw
        case rel => exact ⟨m + 1, p16, prodE X F, ⟨HP1.out.1, HP1.out.2, HNS.out, prodE_length _ _⟩, rfl, HY6.out, HF6.out⟩
        case measure => have := HP1.out; simp [intOf]; omega
    ·
     have hd2 : decide ((p : Int) < (n : Int)) = false := by simp; omega
     have HY2 : Hid (Y = gFold F (ps.take (k + 1))) := (show _ = _ by
      have h2 : m = (P.length + 15) / 16 := by have := HR.out; have := HNN.out; omega
      rw [HN.out, HR.out.2.2.1, h2]
      rfl)
     have HYX := Lib.hid hY
     have HFX := Lib.hid hF
     clear HN HR hY hF
     go_wp2
     go_roundw
     case rel => exact ⟨k + 1, Y, by omega, by go_num, HY2, HYX.out, HFX.out⟩
     case measure => simp [intOf]; omega
  ·
   have hd1 : decide ((k : Int) < (ps.length : Int)) = false := by simp; omega
   rw [List.take_of_length_le (by omega)] at HY
   have HYL := Lib.hid (show Y.length = 16 by rw [HY.out]; exact gFold_length _ _)
   have hFr := hF.r
   have hFw := hF.bw
   clear hF
   go_wp2_with (first
    | ((with_reducible refine (?_ : wpList _ _ _ (Oper.mk (some 52) _ _ _ _ _ :: _) _ _)); go_loud (refine wpList_load_blk rfl 56 (.tmp 5) rfl (gy) rfl 56 _ _ hY Tryd.underlying56 rfl (infoBk.trans (by rw [List.length_map, HYL.out])) ?_))
    | ((with_reducible refine (?_ : wpList _ _ _ (Oper.mk none (.store 56 (.tmp 4) _) _ _ _ _ :: _) _ _)); go_loud (refine wpList_store_blk rfl 56 (.tmp 4) (.tmp 52) rfl rfl (go) _ rfl rfl 56 _ hFr (infoBk.trans (by rw [List.length_map, HYL.out])) (by rw [List.length_map, List.length_map, HYL.out, HZL.out]) (one8 _) ?_); intro w7 hR7 hg7))
   refine bodyPost_ret (v := .agg _) (results_cell_row rfl _ _ (go) 56 _ (0, 0) _ rfl hR7.raw Tryd.underlying56 rfl (infoBk.trans (by rw [List.size_toArray, List.length_map, HYL.out]))) rfl ⟨by rw [HY.out], below_new hFw hg7 hle hFw.size⟩

end
section
open Go.RowKit
set_option maxRecDepth 100000 in
set_option maxHeartbeats 1000000 in
theorem eight_e (n : Nat) (w : World) (hn : n < 1000000) : Calls Tryd.prog 72 #[.int .i64 (n : Int)] w fun e w' => e = .returned (.string ⟨(be8 (n * 8)).toArray⟩) ∧ Below w.heap.size w w' := by
 obtain ⟨N, hN⟩ : ∃ N, N = n * 8 := ⟨_, rfl⟩
 rw [← hN]
 have hl0 : IntKind.u64.wrap (n : Int) = (n : Int) := by rw [IntKind.wrap_u64]; omega
 have hl1 : (n : Int) % 18446744073709551616 = (n : Int) := by omega
 have hl8 : (((n : Int) * 8)) % 18446744073709551616 = (N : Int) := by omega
 have hl8' : IntKind.u64.wrap ((n : Int) * 8) = (N : Int) := by rw [IntKind.wrap_u64]; omega
 have HN8 := Lib.hid (And.intro hl0 (And.intro hl1 (And.intro hl8 hl8')))
 clear hN hn hl0 hl1 hl8 hl8'
 go_enter Tryd.func72, Tryd.ntmps72
 go_wp2
 go_loopw [3, 4] (fun v i wr => ∃ (j : Nat) (A : Option Addr) (c : Nat) (q : Int), j ≤ 8 ∧ Hid (q = 56 - 8 * (j : Int)) ∧ i = .int .i64 q ∧ v = .slice A j c ∧ Buf wr w.heap.size A j c ((be8 N).take j) ∧ Below w.heap.size w wr) (fun v _ _ => 8 - lenOf v)
 case atStart => exact ⟨0, none, 0, 56, by omega, by show _ = _; omega, rfl, rfl, by simpa using Buf.nil w w.heap.size, Below.refl _ _⟩
 case round =>
  obtain ⟨j, A, c, q, hj, HQ, rfl, rfl, hB, hb⟩ := hrel
  have hbs := hb.size
  by_cases hlt2 : j < 8
  ·
   obtain ⟨p, rfl⟩ : ∃ p : Nat, q = (p : Int) := ⟨(56 - 8 * j), by have := HQ.out; omega⟩
   have hp : p ≤ 56 := by have := HQ.out; omega
   have hd : decide ((p : Int) ≥ 0) = true := by simp
   have h0 : ¬ ((p : Int) < 0) := by omega
   have h1 : (0 : Int) ≤ (p : Int) := by omega
   have e1 : min p 64 = p := by omega
   have HT := Lib.hid (be8_take N j p hlt2 (by have := HQ.out; omega))
   have HLL := Lib.hid (show j + 1 ≤ 1099511627776 by omega)
   obtain ⟨hl0, hl1, hl8, hl8'⟩ := HN8.out
   go_wp2_with ((with_reducible refine (?_ : wpList _ _ _ (Oper.mk (some 17) _ _ _ _ _ :: _) _ _)); go_loud (refine wpList_append_buf rfl (.tmp 9) (.tmp 16) 24 rfl _ _ _ _ _ [UInt8.ofNat (N / 2 ^ p)] _ rfl (hB.alloc _) rfl (src_byte ((new_cell _ _ _).trans (congrArg some (byte_sh _ _)))) HLL.out (by simp <;> omega) ?_); intro A' c' w' hB' hg')
   go_roundw
   case rel =>
    refine ⟨j + 1, A', c', (p : Int) - 8, by omega, by show _ = _; have := HQ.out; omega, rfl, rfl, ?_, below_own (hb.alloc hbs _) (hB.alloc _) hg' (Nat.le_refl _) (by simp <;> omega)⟩
    rw [HT.out]
    exact hB'
   case measure => simp [lenOf]; omega
  ·
   have hj8 : j = 8 := by omega
   have hd : decide (q ≥ 0) = false := by have := HQ.out; simp; omega
   rw [hj8, be8_all] at hB
   rw [hj8]
   have hcv := conv_in (n := 8) rfl (hB.toIn (Nat.le_refl _))
   clear hj8 hj hlt2
   go_wp2
   go_ret
   exact ⟨rfl, hb⟩

end
section
open Go.RowKit
theorem ctr_start (N : List UInt8) (n : Nat) (hN : N.length = 12) : N.take 12 ++ zero16.drop 12 = ctrTo N n 0 := by
 rw [List.take_of_length_le (by omega)]
 apply List.ext_getElem?
 intro i
 by_cases hi : i < 16
 ·
  simp only [ctrTo, List.getElem?_map, List.getElem?_range hi, Option.map_some]
  by_cases h12 : i < 12
  ·
   rw [List.getElem?_append_left (by omega), if_pos h12, List.getD_eq_getElem?_getD, List.getElem?_eq_getElem (by omega)]; rfl
  ·
   rw [List.getElem?_append_right (by omega), if_neg h12, if_neg (by omega), hN]
   have : i = 12 ∨ i = 13 ∨ i = 14 ∨ i = 15 := by omega
   rcases this with rfl | rfl | rfl | rfl <;> rfl
 ·
  rw [List.getElem?_eq_none (by simp [hN, zero16]; omega), List.getElem?_eq_none (by simp [ctrTo]; omega)]
theorem q_low (n p : Nat) : IntKind.u8.wrap ((n : Int) / 2 ^ p) = ((UInt8.ofNat (n / 2 ^ p)).toNat : Int) ∧ (n : Int) / 2 ^ p % 256 = ((UInt8.ofNat (n / 2 ^ p)).toNat : Int) := by
 rw [IntKind.wrap_u8]; simp

set_option maxRecDepth 100000 in
set_option maxHeartbeats 1000000 in
theorem counter_e (n : Nat) (N : List UInt8) (w : World) (hN : N.length = 12) (hn : n < 4294967296) : Calls Tryd.prog 70 #[BV N, .int .i64 (n : Int)] w fun e w' => e = .returned (BV (ctrE N n)) ∧ Below w.heap.size w w' := by
 have hst := ctr_start N n hN
 have hcl := ctrTo_length N n 4
 have s0 := ctrTo_step N n 0 (by decide)
 have s1 := ctrTo_step N n 1 (by decide)
 have s2 := ctrTo_step N n 2 (by decide)
 have s3 := ctrTo_step N n 3 (by decide)
 have k0 := ctrTo_length N n 0
 have k1 := ctrTo_length N n 1
 have k2 := ctrTo_length N n 2
 have k3 := ctrTo_length N n 3
 have q0 := q_low n 24
 have q1 := q_low n 16
 have q2 := q_low n 8
 have q3 := q_low n 0
 simp only [Nat.reducePow, Int.reducePow, Nat.pow_zero, Int.pow_zero, Nat.div_one, Int.ediv_one] at q0 q1 q2 q3
 simp only [numB, Nat.reduceMul, Nat.reduceSub, Nat.reduceAdd, Nat.reducePow, Nat.pow_zero, Nat.div_one, Nat.mul_zero, Nat.sub_zero, Nat.add_zero, Nat.mul_one] at s0 s1 s2 s3
 rw [show ctrE N n = ctrTo N n 4 from rfl]
 generalize ctrTo N n 0 = C0 at *
 generalize ctrTo N n 1 = C1 at *
 generalize ctrTo N n 2 = C2 at *
 generalize ctrTo N n 3 = C3 at *
 generalize ctrTo N n 4 = C4 at *
 generalize UInt8.ofNat (n / 16777216) = y0 at *
 generalize UInt8.ofNat (n / 65536) = y1 at *
 generalize UInt8.ofNat (n / 256) = y2 at *
 generalize UInt8.ofNat n = y3 at *
 have hz : ∀ W : World, (zeroValue 56).run Tryd.prog W = .ok (BV zero16) W := fun W => by kernel_rfl
 obtain ⟨Z, hZ⟩ : ∃ Z, Z = zero16 := ⟨_, rfl⟩
 have HZL := Lib.hid (show Z.length = 16 by rw [hZ]; rfl)
 rw [← hZ] at hz hst
 have HST := Lib.hid hst
 have HS := Lib.hid (And.intro s0 (And.intro s1 (And.intro s2 s3)))
 have HKL := Lib.hid (And.intro k0 (And.intro k1 (And.intro k2 k3)))
 have HCL := Lib.hid hcl
 have HQ := Lib.hid (And.intro q0 (And.intro q1 (And.intro q2 q3)))
 have HN := Lib.hid hN
 have HNN := Lib.hid hn
 clear hst s0 s1 s2 s3 k0 k1 k2 k3 hcl q0 q1 q2 q3 hN hZ hn
 go_enter Tryd.func70, Tryd.ntmps70
 go_wp2
 clear hz
 have hA : Blk (((w.alloc (.cells (N.map B8).toArray 48)).alloc (.cells (Z.map B8).toArray 56)).alloc (.cells (Z.map B8).toArray 56)) w.heap.size 48 (N.map B8) := ((Blk.new_of w 48 _ (N.map B8) rfl).alloc _).alloc _
 have hR := (Blk.new2_of w (.cells (N.map B8).toArray 48) 56 (Z.map B8).toArray (Z.map B8) rfl).alloc (.cells (Z.map B8).toArray 56)
 have hC := Blk.new3_of w (.cells (N.map B8).toArray 48) (.cells (Z.map B8).toArray 56) 56 (Z.map B8).toArray (Z.map B8) rfl
 have hbw := (((Below.refl w.heap.size w).alloc (Nat.le_refl _) (.cells (N.map B8).toArray 48)).alloc (by simp) (.cells (Z.map B8).toArray 56)).alloc (by simp; omega) (.cells (Z.map B8).toArray 56)
 have hne := (show w.heap.size ≠ w.heap.size + 1 + 1 ∧ w.heap.size + 1 ≠ w.heap.size + 1 + 1 ∧ w.heap.size ≤ w.heap.size + 1 + 1 by omega)
 have hle := (show w.heap.size ≤ w.heap.size + 1 by omega)
 generalize w.heap.size + 1 + 1 = gb at *
 generalize w.heap.size + 1 = go at *
 generalize ((w.alloc (.cells (N.map B8).toArray 48)).alloc (.cells (Z.map B8).toArray 56)).alloc (.cells (Z.map B8).toArray 56) = w1 at *
 go_loopw [6] (fun i wr => ∃ k : Nat, k ≤ 12 ∧ i = .int .i64 (k : Int) ∧ Blk wr gb 56 ((N.take k ++ Z.drop k).map B8) ∧ Blk wr w.heap.size 48 (N.map B8) ∧ Blk wr go 56 (Z.map B8) ∧ Below w.heap.size w wr) (fun i _ => 12 - (intOf i).toNat)
 case atStart => exact ⟨0, by omega, rfl, by simpa using hC, hA, hR, hbw⟩
 case round =>
  clear hC hA hR hbw
  obtain ⟨k, hk, rfl, hC, hA, hR, hbw⟩ := hrel
  by_cases hlt : k < 12
  ·
   have hd : decide ((k : Int) < 12) = true := by simp; omega
   have hl2 := mid_len N Z k (by rw [HN.out]; omega) (by rw [HZL.out]; omega)
   have hs2 := set_up N Z k (by rw [HN.out]; omega) (by rw [HZL.out]; omega)
   have ha := hA.at8 k (by rw [HN.out]; omega)
   have hc0 := hC.at8 k (by rw [hl2, HZL.out]; omega)
   have hf0 := hC.frozen k
   have hC2 := hC.set_ k (B8 (N.getD k 0))
   rw [map_set8, hs2] at hC2
   have hR2 := hR.far (p := ⟨gb, k, none⟩) (by simp; exact hne.2.1) (B8 (N.getD k 0))
   have hA2 := hA.far (p := ⟨gb, k, none⟩) (by simp; exact hne.1) (B8 (N.getD k 0))
   have hb2 := hbw.setCell (p := ⟨gb, k, none⟩) (by simp; exact hne.2.2) (B8 (N.getD k 0))
   have g1 : (0 : Int) ≤ (k : Int) := by omega
   have g2 : (k : Int) < 16 := by omega
   have g3 : (k : Int) < 12 := by omega
   clear hC hR hA hbw hl2 hs2
   replace hC2 := Lib.hid hC2
   replace hR2 := Lib.hid hR2
   replace hA2 := Lib.hid hA2
   replace hb2 := Lib.hid hb2
   generalize N.getD k 0 = y at *
   go_wp2
   go_roundw
   case rel => exact ⟨k + 1, by omega, by go_num, hC2.out, hA2.out, hR2.out, hb2.out⟩
   case measure => simp [intOf]; omega
  ·
   have hd : decide ((k : Int) < 12) = false := by simp; omega
   rw [show k = 12 by omega, HST.out] at hC
   clear hA hk hlt
   go_upto_region 6 with (fail)
   obtain ⟨⟨q0, q0'⟩, ⟨q1, q1'⟩, ⟨q2, q2'⟩, ⟨q3, q3'⟩⟩ := HQ.out
   obtain ⟨s0, s1, s2, s3⟩ := HS.out
   obtain ⟨k0, k1, k2, k3⟩ := HKL.out
   have c0 := hC.at8 12 (by omega)
   have f0 := hC.frozen 12
   have hC1 := hC.set_ 12 (B8 y0)
   rw [map_set8, s0] at hC1
   have c1 := hC1.at8 13 (by omega)
   have f1 := hC1.frozen 13
   have hC2 := hC1.set_ 13 (B8 y1)
   rw [map_set8, s1] at hC2
   have c2 := hC2.at8 14 (by omega)
   have f2 := hC2.frozen 14
   have hC3 := hC2.set_ 14 (B8 y2)
   rw [map_set8, s2] at hC3
   have c3 := hC3.at8 15 (by omega)
   have f3 := hC3.frozen 15
   have hC4 := hC3.set_ 15 (B8 y3)
   rw [map_set8, s3] at hC4
   have hR4 := (((hR.far (p := ⟨gb, 12, none⟩) (by simp; exact hne.2.1) (B8 y0)).far (p := ⟨gb, 13, none⟩) (by simp; exact hne.2.1) (B8 y1)).far (p := ⟨gb, 14, none⟩) (by simp; exact hne.2.1) (B8 y2)).far (p := ⟨gb, 15, none⟩) (by simp; exact hne.2.1) (B8 y3)
   have hb4 := (((hbw.setCell (p := ⟨gb, 12, none⟩) (by simp; exact hne.2.2) (B8 y0)).setCell (p := ⟨gb, 13, none⟩) (by simp; exact hne.2.2) (B8 y1)).setCell (p := ⟨gb, 14, none⟩) (by simp; exact hne.2.2) (B8 y2)).setCell (p := ⟨gb, 15, none⟩) (by simp; exact hne.2.2) (B8 y3)
   clear hC hC1 hC2 hC3 hR hbw s0 s1 s2 s3 k0 k1 k2 k3
   replace hC4 := Lib.hid hC4
   replace hR4 := Lib.hid hR4
   replace hb4 := Lib.hid hb4
   go_upto_region 7 with (fail)
   replace hC4 := hC4.out
   replace hR4 := hR4.out
   replace hb4 := hb4.out
   clear c0 c1 c2 c3 f0 f1 f2 f3
   go_wp2_with (first
    | ((with_reducible refine (?_ : wpList _ _ _ (Oper.mk (some 31) _ _ _ _ _ :: _) _ _)); go_loud (refine wpList_load_blk rfl 56 (.tmp 5) rfl (gb) rfl 56 _ _ hC4 Tryd.underlying56 rfl (infoBk.trans (by rw [List.length_map, HCL.out])) ?_))
    | ((with_reducible refine (?_ : wpList _ _ _ (Oper.mk none (.store 56 (.tmp 4) _) _ _ _ _ :: _) _ _)); go_loud (refine wpList_store_blk rfl 56 (.tmp 4) (.tmp 31) rfl rfl (go) _ rfl rfl 56 _ hR4 (infoBk.trans (by rw [List.length_map, HCL.out])) (by rw [List.length_map, List.length_map, HCL.out, HZL.out]) (one8 _) ?_); intro w7 hR7 hg7))
   refine bodyPost_ret (v := .agg _) (results_cell_row rfl _ _ (go) 56 _ (0, 0) _ rfl hR7.raw Tryd.underlying56 rfl (infoBk.trans (by rw [List.size_toArray, List.length_map, HCL.out]))) rfl ⟨rfl, below_new hb4 hg7 hle hb4.size⟩

end
end Go.Proofs.YtnjpcbbdhimacaaDoor
