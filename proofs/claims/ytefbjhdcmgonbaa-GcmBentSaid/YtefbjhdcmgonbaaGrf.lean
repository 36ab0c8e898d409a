/-
  The contract of the document's own Fold.
-/
import Derived.Test.YtefbjhdcmgonbaaGseal
namespace Go.Proofs.Ytefbjhdcmgonbaa
open Go.RowKit

/-- Texts that came in, below block B. -/
def SIn (w : World) (B : Nat) (A : Option Addr) (c : Nat) (ts : List (List UInt8)) : Prop := ts.length ≤ c ∧ c ≤ 9223372036854775807 ∧ (0 < ts.length → ∃ gp op, A = some ⟨gp, op, none⟩ ∧ gp < B ∧
  ∀ j, j < ts.length → w.cell? ⟨gp, op + j, none⟩ = some (.string ⟨(ts.getD j []).toArray⟩))
theorem SIn.below {w w' : World} {B : Nat} {A : Option Addr} {c : Nat} {ts : List (List UInt8)} (h : SIn w B A c ts) (hb : Below B w w') : SIn w' B A c ts :=
  ⟨h.1, h.2.1, fun h0 => by
    obtain ⟨gp, op, e, hl, hj⟩ := h.2.2 h0
    exact ⟨gp, op, e, hl, fun j hjl => (hb.cell (p := ⟨gp, op + j, none⟩) hl).trans (hj j hjl)⟩⟩
theorem padE_get (r : List UInt8) (i : Nat) (hi : i < 16) : (padE r).getD i 0 = if i < r.length then r.getD i 0 else 0 := by
  unfold padE
  have hz : ∀ k, zero16.getD k 0 = 0 := fun k => by
    by_cases hk : k < 16
    · have : k = 0 ∨ k = 1 ∨ k = 2 ∨ k = 3 ∨ k = 4 ∨ k = 5 ∨ k = 6 ∨ k = 7 ∨ k = 8 ∨ k = 9 ∨ k = 10 ∨ k = 11 ∨ k = 12 ∨ k = 13 ∨ k = 14 ∨ k = 15 := by omega
      rcases this with rfl | rfl | rfl | rfl | rfl | rfl | rfl | rfl | rfl | rfl | rfl | rfl | rfl | rfl | rfl | rfl <;> rfl
    · rw [List.getD_eq_getElem?_getD, List.getElem?_eq_none (by show 16 ≤ k; omega)]; rfl
  have hl : (r.take 16).length = min 16 r.length := List.length_take
  by_cases h : i < r.length
  · rw [if_pos h, List.getD_eq_getElem?_getD, List.getElem?_append_left (by omega), List.getElem?_take, if_pos hi, ← List.getD_eq_getElem?_getD]
  · rw [if_neg h, List.getD_eq_getElem?_getD, List.getElem?_append_right (by omega), List.getElem?_drop, ← List.getD_eq_getElem?_getD, hz]
theorem put_pad {Y r : List UInt8} (hY : Y.length = 16) (l : Nat) (hl : l = min 16 r.length) : (putE Y (padE r)).take l ++ Y.drop l = putE Y (padE r) := by
  have hX := putE_length hY (padE_length r)
  conv => rhs; rw [← List.take_append_drop l (putE Y (padE r))]
  congr 1
  apply List.ext_getElem?
  intro i
  rw [List.getElem?_drop, List.getElem?_drop]
  by_cases hi : l + i < 16
  · have h1 := putE_get hY (padE_length r) (l + i) hi
    rw [padE_get r (l + i) hi, if_neg (by omega), UInt8.xor_zero, List.getD_eq_getElem?_getD, List.getD_eq_getElem?_getD, List.getElem?_eq_getElem (by omega), List.getElem?_eq_getElem (by omega)] at h1
    rw [List.getElem?_eq_getElem (by omega), List.getElem?_eq_getElem (by omega)]
    exact congrArg some h1.symm
  · rw [List.getElem?_eq_none (by omega), List.getElem?_eq_none (by omega)]
theorem ix_w (q : Nat) (h : q < 1000000000) : IntKind.i64.wrap (q : Int) = (q : Int) := by rw [IntKind.wrap_i64]; omega
structure RFr (w : World) (g0 go : Nat) (F Z : List UInt8) (wr : World) : Prop where
  f : Blk wr g0 42 (F.map B8)
  r : Blk wr go 42 (Z.map B8)
  bw : Below w.heap.size w wr
theorem RFr.below {w wr W : World} {g0 go : Nat} {F Z : List UInt8} (h : RFr w g0 go F Z wr) (hb : Below wr.heap.size wr W) : RFr w g0 go F Z W :=
  ⟨h.f.below hb h.f.lt, h.r.below hb h.r.lt, h.bw.trans (hb.mono h.bw.size)⟩
theorem RFr.far {w wr : World} {g0 go : Nat} {F Z : List UInt8} (h : RFr w g0 go F Z wr) {p : Addr} (hp : g0 ≠ p.block ∧ go ≠ p.block ∧ w.heap.size ≤ p.block) (u : Value) : RFr w g0 go F Z (wr.setCell p u) :=
  ⟨h.f.far hp.1 u, h.r.far hp.2.1 u, h.bw.setCell hp.2.2 u⟩
theorem RFr.grown {w wr W : World} {g0 go gy : Nat} {F Z : List UInt8} (h : RFr w g0 go F Z wr) (hg : wr.grownBy W (some gy)) (hp : g0 ≠ gy ∧ go ≠ gy ∧ w.heap.size ≤ gy) : RFr w g0 go F Z W :=
  ⟨h.f.grown hg (by simpa using hp.1), h.r.grown hg (by simpa using hp.2.1), below_new h.bw hg hp.2.2 h.bw.size⟩

set_option maxRecDepth 100000 in
set_option maxHeartbeats 1000000 in
theorem refFold_e (F : List UInt8) (A : Option Addr) (c : Nat) (ps : List (List UInt8)) (w : World) (hF16 : F.length = 16) (hA : SIn w w.heap.size A c ps) (hl : ∀ k, k < ps.length → (ps.getD k []).length < 1000000000) :
    Calls Try.prog 27 #[BV F, .slice A ps.length c] w fun e w' => e = .returned (BV (gFold F ps)) ∧ Below w.heap.size w w' := by
  have hz : ∀ W : World, (zeroValue 42).run Try.prog W = .ok (BV zero16) W := fun W => by kernel_rfl
  obtain ⟨Z, hZ⟩ : ∃ Z, Z = zero16 := ⟨_, rfl⟩
  have HZL := Lib.hid (show Z.length = 16 by rw [hZ]; rfl)
  rw [← hZ] at hz
  have HZE := Lib.hid hZ
  have HF16 := Lib.hid hF16
  have HPS := Lib.hid hA
  have HLL := Lib.hid hl
  have HPR : Hid (∀ (Y : List UInt8) (W : World), Y.length = 16 → Calls Try.prog 50 #[BV Y, BV F] W fun e w' => e = .returned (BV (prodE Y F)) ∧ Below W.heap.size W w') := (fun Y W hY => by
    have := refProduct_e Y F hY hF16 W
    rw [zE_prod Y F hF16] at this
    exact this)
  clear hZ hF16 hA hl
  go_enter Try.func27, Try.ntmps27
  have hA0 : Blk (((w.alloc (.cells (F.map B8).toArray 42)).alloc (.cells (Z.map B8).toArray 42)).alloc (.cells (Z.map B8).toArray 42)) w.heap.size 42 (F.map B8) := ((Blk.new_of w 42 _ (F.map B8) rfl).alloc _).alloc _
  have hR0 := (Blk.new2_of w (.cells (F.map B8).toArray 42) 42 (Z.map B8).toArray (Z.map B8) rfl).alloc (.cells (Z.map B8).toArray 42)
  have hY0 := Blk.new3_of w (.cells (F.map B8).toArray 42) (.cells (Z.map B8).toArray 42) 42 (Z.map B8).toArray (Z.map B8) rfl
  have hbw := (((Below.refl w.heap.size w).alloc (Nat.le_refl _) (.cells (F.map B8).toArray 42)).alloc (by simp) (.cells (Z.map B8).toArray 42)).alloc (by simp; omega) (.cells (Z.map B8).toArray 42)
  have hF0 : RFr w w.heap.size (w.heap.size + 1) F Z _ := ⟨hA0, hR0, hbw⟩
  have hne : w.heap.size ≠ w.heap.size + 1 + 1 ∧ w.heap.size + 1 ≠ w.heap.size + 1 + 1 ∧ w.heap.size ≤ w.heap.size + 1 + 1 := by omega
  have hle : w.heap.size ≤ w.heap.size + 1 := by omega
  go_wp2
  clear hz hA0 hR0 hbw
  generalize w.heap.size + 1 + 1 = gy at *
  generalize w.heap.size + 1 = go at *
  generalize ((w.alloc (.cells (F.map B8).toArray 42)).alloc (.cells (Z.map B8).toArray 42)).alloc (.cells (Z.map B8).toArray 42) = w1 at *
  go_loopw [6, 7, 8, 9] (fun i _ _ _ wr => ∃ (k : Nat) (Y : List UInt8), k ≤ ps.length ∧ i = .int .i64 (k : Int) ∧ Hid (Y = gFold F (ps.take k)) ∧ Blk wr gy 42 (Y.map B8) ∧ RFr w w.heap.size go F Z wr) (fun i _ _ _ _ => ps.length - (intOf i).toNat)
  case atStart => exact ⟨0, Z, by omega, rfl, by rw [HZE.out]; show _ = _; rfl, hY0, hF0⟩
  case round =>
    clear hF0 hY0
    obtain ⟨k, Y, hk, rfl, HY, hY, hF⟩ := hrel
    by_cases hlt : k < ps.length
    · have hd1 : decide ((k : Int) < (ps.length : Int)) = true := by simp; omega
      have hk0 : (0 : Int) ≤ (k : Int) := by omega
      have hkl : (k : Int) < (ps.length : Int) := by omega
      obtain ⟨hpc, hpm, hpe⟩ := HPS.out.below hF.bw
      obtain ⟨gp, op, rfl, hgp, hj⟩ := hpe (by omega)
      have hc := hj k hlt
      have hn := HLL.out k hlt
      have HN := Lib.hid (gFold_snoc F ps k hlt)
      obtain ⟨P, hP⟩ : ∃ P, P = ps.getD k [] := ⟨_, rfl⟩
      rw [← hP, ← HY.out] at HN
      rw [← hP] at hc hn
      have HYL := Lib.hid (show Y.length = 16 by rw [HY.out]; exact gFold_length _ _)
      obtain ⟨Y0, hY0⟩ : ∃ Y0, Y0 = Y := ⟨_, rfl⟩
      rw [← hY0] at HN
      have HY0 := Lib.hid hY0
      clear hP hj hpe HY hY0
      have HFF := Lib.hid hF
      have HYB := Lib.hid hY
      clear hF hY
      obtain ⟨n, hnn⟩ : ∃ n, n = P.length := ⟨_, rfl⟩
      have HNN := Lib.hid hnn
      rw [← hnn] at hn
      clear hnn
      have hlen : (P.length : Int) = (n : Int) := by have := HNN.out; omega
      go_wp2
      obtain ⟨wo, rfl⟩ : ∃ wo : World, wo = wr := ⟨_, rfl⟩
      have hF := HFF.out
      have hY := HYB.out
      clear hc HFF HYB
      go_loopw [8, 9] (fun at' _ wr => ∃ (m p : Nat) (Y : List UInt8), Hid (p = 16 * m ∧ p < n + 16 ∧ Y = fStep F Y0 P m ∧ Y.length = 16) ∧ at' = .int .i64 (p : Int) ∧ Blk wr gy 42 (Y.map B8) ∧ RFr w w.heap.size go F Z wr) (fun at' _ _ => n + 16 - (intOf at').toNat)
      case atStart => exact ⟨0, 0, Y, ⟨rfl, by omega, HY0.out.symm, HYL.out⟩, rfl, hY, hF⟩
      case round =>
        clear hF hY HYL HY0
        obtain ⟨m, p, Y, HR, rfl, hY, hF⟩ := hrel
        have HYL := Lib.hid HR.out.2.2.2
        by_cases hpn : p < n
        · have hd2 : decide ((p : Int) < (n : Int)) = true := by simp; omega
          obtain ⟨r, hr⟩ : ∃ r, r = P.drop p := ⟨_, rfl⟩
          have hrl : r.length = n - p := by rw [hr, List.length_drop, HNN.out]
          obtain ⟨l, hl⟩ : ∃ l, l = min 16 r.length := ⟨_, rfl⟩
          have HXP := Lib.hid (put_pad (r := r) HYL.out l hl)
          have HXG := Lib.hid (fun i (hi : i < 16) => putE_get HYL.out (padE_length r) i hi)
          have HPG := Lib.hid (fun i (hi : i < 16) => padE_get r i hi)
          have HXL := Lib.hid (putE_length HYL.out (padE_length r))
          have HNX := Lib.hid (show fStep F Y0 P (m + 1) = prodE (putE Y (padE r)) F by rw [HR.out.2.2.1, hr, HR.out.1]; rfl)
          have HRR := Lib.hid hr
          have HRL := Lib.hid hrl
          have HL := Lib.hid hl
          clear hr hrl hl
          generalize putE Y (padE r) = X at *
          go_wp2
          obtain ⟨wq, rfl⟩ : ∃ wq : World, wq = wr := ⟨_, rfl⟩
          go_loopw [9] (fun i wr => ∃ j : Nat, j ≤ l ∧ i = .int .i64 (j : Int) ∧ Blk wr gy 42 ((X.take j ++ Y.drop j).map B8) ∧ RFr w w.heap.size go F Z wr) (fun i _ => l - (intOf i).toNat)
          case atStart => exact ⟨0, by omega, rfl, hY, hF⟩
          case round =>
            clear hY hF
            obtain ⟨j, hj, rfl, hY, hF⟩ := hrel
            by_cases hjl : j < l
            · have hj16 : j < 16 := by have := HL.out; omega
              obtain ⟨q, hq⟩ : ∃ q, q = p + j := ⟨_, rfl⟩
              have hqn : q < n := by have := HL.out; have := HRL.out; omega
              have hqP : q < P.length := by have := HNN.out; omega
              have hx := HXG.out j hj16
              rw [HPG.out j hj16, if_pos (by have := HL.out; omega), HRR.out, show (P.drop p).getD j 0 = P.getD q 0 from by rw [List.getD_eq_getElem?_getD, List.getElem?_drop, ← hq, ← List.getD_eq_getElem?_getD]] at hx
              have hkx : (⟨P.toArray⟩ : ByteArray)[q]'(show q < P.length from hqP) = P.getD q 0 := by
                show P.toArray[q] = _
                simp [List.getD_eq_getElem?_getD, List.getElem?_eq_getElem hqP]
              have hlen2 := mid_len X Y j (by rw [HXL.out]; omega) (by rw [HYL.out]; omega)
              have hst := set_up X Y j (by rw [HXL.out]; omega) (by rw [HYL.out]; omega)
              have hgt := mid_get X Y j (by rw [HXL.out]; omega)
              have hxx := b_xor (Y.getD j 0) (P.getD q 0)
              rw [← hx] at hxx
              have HCY : Hid (∀ W, Below wr.heap.size wr W → W.cell? ⟨gy, j, none⟩ = some (.int .u8 ((Y.getD j 0).toNat : Int))) := (fun W hb => by
                have := (hY.below hb hY.lt).at8 j (by rw [hlen2, HYL.out]; omega)
                rw [hgt] at this
                exact this)
              have HGG := Lib.hid (And.intro hst hgt)
              have HLN := Lib.hid hlen2
              have hd3 : decide ((j : Int) < 16) = true := by simp; omega
              have hd4 : decide ((q : Int) < (n : Int)) = true := by simp; omega
              have hj0 : (0 : Int) ≤ (j : Int) := by omega
              have hj1 : (j : Int) < 16 := by omega
              have hq0 : (0 : Int) ≤ (q : Int) := by omega
              have hq1 : (q : Int) < (n : Int) := by omega
              have hw0 : (p : Int) + (j : Int) = (q : Int) := by omega
              have hwq : IntKind.i64.wrap (q : Int) = (q : Int) := ix_w q (by omega)
              generalize Y.getD j 0 = y1 at *
              generalize P.getD q 0 = p1 at *
              generalize X.getD j 0 = x1 at *
              clear hx hlen2 hst hgt hq hj16 hqn
              go_wp2
              apply wp_region_once_tail (m := 11) (Z := []) (D := [[], [], [1], [1, 2], [], [], [], [5, 6], [4, 5, 6, 7], [1, 2, 3, 4, 5, 6, 7, 8], [0, 1, 2, 3, 4, 5, 6, 7, 8, 9], [0, 1, 2, 3, 4, 5, 6, 7, 8, 9, 10]]) (J := [[], [], [1], [2], [], [], [], [5, 6], [4, 7], [3, 8], [0]]) (Je := [9, 10]) (Rs := [Is _, Is _, Is _, Is _, Is _, Is _, Is _, Is _, Is _, Is _, Is _])
              · kernel_rfl
              · kernel_rfl
              · kernel_rfl
              · kernel_rfl
              · kernel_rfl
              · kernel_rfl
              · kernel_rfl
              · exact fun h => absurd rfl h
              · intro u
                simp only [List.take_succ_cons, List.take_zero, List.map_cons, List.map_nil, fillU, List.setIfInBounds_toArray, List.set_cons_zero, List.set_cons_succ, Nat.zero_add, Nat.reduceAdd]
                exact rfl
              · simp only [List.take_succ_cons, List.take_zero]
                refine ⟨fun u W hb hd K hK => ?_, ?_⟩
                · clear hd
                  go_simp
                  apply hK
                  · simp only [Act.put, List.setIfInBounds_toArray, List.set_cons_zero, List.set_cons_succ]
                    exact rfl
                  · exact Below.refl _ _
                  · exact IsOut
                refine ⟨fun u W hb hd K hK => ?_, ?_⟩
                · clear hd
                  go_simp
                  apply hK
                  · simp only [Act.put, List.setIfInBounds_toArray, List.set_cons_zero, List.set_cons_succ]
                    exact rfl
                  · exact Below.refl _ _
                  · exact IsOut
                refine ⟨fun u W hb hd K hK => ?_, ?_⟩
                · simp only [Facts, nthR, Is, and_true] at hd
                  simp only [hd] at hK ⊢
                  clear hd
                  go_simp
                  apply hK
                  · simp only [Act.put, List.setIfInBounds_toArray, List.set_cons_zero, List.set_cons_succ]
                    exact rfl
                  · exact Below.refl _ _
                  · exact IsOut
                refine ⟨fun u W hb hd K hK => ?_, ?_⟩
                · simp only [Facts, nthR, Is, and_true] at hd
                  simp only [hd] at hK ⊢
                  clear hd
                  have hcc := HCY.out W hb
                  go_simp
                  apply hK
                  · simp only [Act.put, List.setIfInBounds_toArray, List.set_cons_zero, List.set_cons_succ]
                    exact rfl
                  · exact Below.refl _ _
                  · exact IsOut
                refine ⟨fun u W hb hd K hK => ?_, ?_⟩
                · clear hd
                  go_simp
                  apply hK
                  · simp only [Act.put, List.setIfInBounds_toArray, List.set_cons_zero, List.set_cons_succ]
                    exact rfl
                  · exact Below.refl _ _
                  · exact IsOut
                refine ⟨fun u W hb hd K hK => ?_, ?_⟩
                · clear hd
                  go_simp
                  apply hK
                  · simp only [Act.put, List.setIfInBounds_toArray, List.set_cons_zero, List.set_cons_succ]
                    exact rfl
                  · exact Below.refl _ _
                  · exact IsOut
                refine ⟨fun u W hb hd K hK => ?_, ?_⟩
                · clear hd
                  go_simp
                  apply hK
                  · simp only [Act.put, List.setIfInBounds_toArray, List.set_cons_zero, List.set_cons_succ]
                    exact rfl
                  · exact Below.refl _ _
                  · exact IsOut
                refine ⟨fun u W hb hd K hK => ?_, ?_⟩
                · simp only [Facts, nthR, Is, and_true] at hd
                  simp only [hd] at hK ⊢
                  clear hd
                  go_simp
                  apply hK
                  · simp only [Act.put, List.setIfInBounds_toArray, List.set_cons_zero, List.set_cons_succ]
                    exact rfl
                  · exact Below.refl _ _
                  · exact IsOut
                refine ⟨fun u W hb hd K hK => ?_, ?_⟩
                · simp only [Facts, nthR, Is, and_true] at hd
                  simp only [hd] at hK ⊢
                  clear hd
                  go_simp
                  apply hK
                  · simp only [Act.put, List.setIfInBounds_toArray, List.set_cons_zero, List.set_cons_succ]
                    exact rfl
                  · exact Below.refl _ _
                  · exact IsOut
                refine ⟨fun u W hb hd K hK => ?_, ?_⟩
                · simp only [Facts, nthR, Is, and_true] at hd
                  simp only [hd] at hK ⊢
                  clear hd
                  go_simp
                  apply hK
                  · simp only [Act.put, List.setIfInBounds_toArray, List.set_cons_zero, List.set_cons_succ]
                    exact rfl
                  · exact Below.refl _ _
                  · exact IsOut
                refine ⟨fun u W hb hd K hK => ?_, ?_⟩
                · simp only [Facts, nthR, Is, and_true] at hd
                  simp only [hd] at hK ⊢
                  clear hd
                  go_simp
                  apply hK
                  · simp only [Act.put, List.setIfInBounds_toArray, List.set_cons_zero, List.set_cons_succ]
                    exact rfl
                  · exact Below.refl _ _
                  · exact IsOut
                exact trivial
              · skip
                exact trivial
              · exact (.is (.is (.is (.is (.is (.is (.is (.is (.is (.is (.is .nil)))))))))))
              · intro u W hb hd
                simp only [List.drop_succ_cons, List.drop_zero]
                simp only [Facts, nthR, Is, and_true] at hd
                simp only [hd]
                clear hd
                replace hY := hY.below hb hY.lt
                replace hF := hF.below hb
                have hcc := HCY.out W hb
                have hf := hY.frozen j
                have hY2 := hY.set_ j (B8 x1)
                rw [map_set8, HGG.out.1] at hY2
                have hF2 := hF.far (p := ⟨gy, j, none⟩) hne (B8 x1)
                have HY2 := Lib.hid hY2
                have HF2 := Lib.hid hF2
                clear hb hY2 hF2 hY hF
                go_wp2
                go_roundw
                case rel => exact ⟨j + 1, by omega, by go_num, HY2.out, HF2.out⟩
                case measure => simp [intOf]; omega
            · have hjl2 : j = l := by omega
              rw [hjl2, HXP.out] at hY
              have hcond : (j < 16 ∧ ¬ (p + j < n)) ∨ ¬ (j < 16) := by
                by_cases h16 : j < 16
                · left; exact ⟨h16, by have := HL.out; have := HRL.out; omega⟩
                · right; exact h16
              have hj17 : j ≤ 16 := by have := HL.out; omega
              have HYX := Lib.hid hY
              have HFX := Lib.hid hF
              have HP1 := Lib.hid (show p + 16 = 16 * (m + 1) ∧ p + 16 < n + 16 by have := HR.out.1; omega)
              have HNS : Hid (prodE X F = fStep F Y0 P (m + 1)) := HNX.out.symm
              clear hY hF hj hjl hjl2 hd2 HNX HXG HPG HRR HRL HL
              obtain ⟨p16, hp6⟩ : ∃ p16, p16 = p + 16 := ⟨_, rfl⟩
              have ha8 : (p : Int) + 16 = (p16 : Int) := by omega
              rw [← hp6] at HP1
              clear hp6
              have hY := HYX.out
              have hF := HFX.out
              have hFf := hF.f
              rcases hcond with ⟨h1, h2⟩ | h1
              case' inl =>
                have h3 : decide ((j : Int) < 16) = true := by simp; omega
                have h4 : decide ((p : Int) + (j : Int) < (n : Int)) = false := by simp; omega
                have h5 : ¬ ((p : Int) + (j : Int) < (n : Int)) := by omega
              case' inr =>
                have h3 : decide ((j : Int) < 16) = false := by simp; omega
              all_goals
                go_wp2_with (first
                  | ((with_reducible refine (?_ : wpList _ _ _ (Oper.mk (some 49) _ _ _ _ _ :: _) _ _)); go_loud (refine wpList_load_blk rfl 42 (.tmp 5) rfl (gy) rfl 42 _ _ hY Try.underlying42 rfl (infoBk.trans (by rw [List.length_map, HXL.out])) ?_))
                  | ((with_reducible refine (?_ : wpList _ _ _ (Oper.mk (some 50) _ _ _ _ _ :: _) _ _)); go_loud (refine wpList_load_blk rfl 42 (.tmp 2) rfl (w.heap.size) rfl 42 _ _ hFf Try.underlying42 rfl (infoBk.trans (by rw [List.length_map, HF16.out])) ?_))
                  | (go_at_call 50; refine (HPR.out X _ HXL.out).mono ?_; rintro e w5 ⟨rfl, hb5⟩; replace hY := hY.below hb5 hY.lt; replace hF := hF.below hb5; clear hb5)
                  | ((with_reducible refine (?_ : wpList _ _ _ (Oper.mk none (.store 42 (.tmp 5) _) _ _ _ _ :: _) _ _)); go_loud (refine wpList_store_blk rfl 42 (.tmp 5) (.tmp 51) rfl rfl (gy) _ rfl rfl 42 _ hY (infoBk.trans (by rw [List.length_map, prodE_length _ _])) (by rw [List.length_map, List.length_map, prodE_length _ _, HXL.out]) (one8 _) ?_); intro w6 hY6 hg6; replace hF := hF.grown hg6 hne; have HY6 := Lib.hid hY6; have HF6 := Lib.hid hF; clear hY hF hg6 hY6 hFf))
                go_roundw
                case rel => exact ⟨m + 1, p16, prodE X F, ⟨HP1.out.1, HP1.out.2, HNS.out, prodE_length _ _⟩, rfl, HY6.out, HF6.out⟩
                case measure => have := HP1.out; simp [intOf]; omega
        · have hd2 : decide ((p : Int) < (n : Int)) = false := by simp; omega
          have HY2 : Hid (Y = gFold F (ps.take (k + 1))) := (show _ = _ by
            have h2 : m = (P.length + 15) / 16 := by have := HR.out; have := HNN.out; omega
            rw [HN.out, HR.out.2.2.1, h2]
            rfl)
          have HYX := Lib.hid hY
          have HFX := Lib.hid hF
          clear HN HR hY hF
          go_wp2
          go_roundw
          case rel => exact ⟨k + 1, Y, by omega, by go_num, HY2, HYX.out, HFX.out⟩
          case measure => simp [intOf]; omega
    · have hd1 : decide ((k : Int) < (ps.length : Int)) = false := by simp; omega
      rw [List.take_of_length_le (by omega)] at HY
      have HYL := Lib.hid (show Y.length = 16 by rw [HY.out]; exact gFold_length _ _)
      have hFr := hF.r
      have hFw := hF.bw
      clear hF
      go_wp2_with (first
        | ((with_reducible refine (?_ : wpList _ _ _ (Oper.mk (some 52) _ _ _ _ _ :: _) _ _)); go_loud (refine wpList_load_blk rfl 42 (.tmp 5) rfl (gy) rfl 42 _ _ hY Try.underlying42 rfl (infoBk.trans (by rw [List.length_map, HYL.out])) ?_))
        | ((with_reducible refine (?_ : wpList _ _ _ (Oper.mk none (.store 42 (.tmp 4) _) _ _ _ _ :: _) _ _)); go_loud (refine wpList_store_blk rfl 42 (.tmp 4) (.tmp 52) rfl rfl (go) _ rfl rfl 42 _ hFr (infoBk.trans (by rw [List.length_map, HYL.out])) (by rw [List.length_map, List.length_map, HYL.out, HZL.out]) (one8 _) ?_); intro w7 hR7 hg7))
      refine bodyPost_ret (v := .agg _) (results_cell_row rfl _ _ (go) 42 _ (0, 0) _ rfl hR7.raw Try.underlying42 rfl (infoBk.trans (by rw [List.size_toArray, List.length_map, HYL.out]))) rfl ⟨by rw [HY.out], below_new hFw hg7 hle hFw.size⟩
end Go.Proofs.Ytefbjhdcmgonbaa
