/-
  The contracts of the old sum's beginning, its end, and its whole.
-/
import Derived.Test.YtkiogpnjkmdmgaaDoorQPut
import Derived.Test.YtkiogpnjkmdmgaaDoorState
namespace Go.Proofs.YtkiogpnjkmdmgaaDoor
open Go.RowKit

theorem infoH : (Tryd.prog.info? 41).map (·.size) = some 16 := by kernel_rfl
theorem indexQ (s : Qd) (k : Nat) (h : k < 4) (W : World) : (Instr.index 69 (.agg #[.int .u32 s.a.toNat, .int .u32 s.b.toNat, .int .u32 s.c.toNat, .int .u32 s.d.toNat]) (.int .i64 (k : Int))).run Tryd.prog W = .ok (.int .u32 (([s.a, s.b, s.c, s.d] : List UInt32).getD k 0).toNat) W := by
  obtain rfl | rfl | rfl | rfl : k = 0 ∨ k = 1 ∨ k = 2 ∨ k = 3 := by omega
  · kernel_rfl
  · kernel_rfl
  · kernel_rfl
  · kernel_rfl
/-- The bytes of the words, the lowest first, after k of them. -/
def bytesQTo (ws : List UInt32) : Nat → List UInt8
  | 0 => List.replicate 16 0
  | k + 1 => ((((bytesQTo ws k).set (4 * k) (ws.getD k 0).toUInt8).set (4 * k + 1) ((ws.getD k 0) >>> 8).toUInt8).set (4 * k + 2) ((ws.getD k 0) >>> 16).toUInt8).set (4 * k + 3) ((ws.getD k 0) >>> 24).toUInt8
theorem bytesQTo_length (ws : List UInt32) (k : Nat) : (bytesQTo ws k).length = 16 := by
  induction k with
  | zero => simp [bytesQTo]
  | succ k ih => simp [bytesQTo, ih]
theorem bytesQTo_all (s : Qd) : bytesQTo [s.a, s.b, s.c, s.d] 4 = bytesQ s := by
  simp [bytesQTo, bytesQ, leBytes4, List.replicate]
/-- A count's bytes, the lowest first, so many. -/
def leTo (c : Nat) : Nat → List UInt8
  | 0 => []
  | k + 1 => leTo c k ++ [UInt8.ofNat (c / 2 ^ (8 * k))]
theorem leTo_length (c : Nat) : ∀ k, (leTo c k).length = k
  | 0 => rfl
  | k + 1 => by rw [leTo, List.length_append, leTo_length c k]; rfl
theorem leTo_eight (c : Nat) : leTo c 8 = le8 c := by
  simp only [leTo, le8, be8, List.nil_append, List.cons_append, List.reverse_cons, List.reverse_nil, Nat.mul_zero, Nat.reduceMul, Nat.reducePow, Nat.div_one]
theorem w_shr8k (c k : Nat) : (Value.int .u8 (((c : Int) / 2 ^ (8 * k)) % 256)) = B8 (UInt8.ofNat (c / 2 ^ (8 * k))) := by
  show Value.int .u8 _ = Value.int .u8 _
  congr 1
theorem begun_any (w : World) : Calls Tryd.prog 34 #[] w fun e w' => e = .returned (.pointer (some ⟨w.heap.size, 0, none⟩)) ∧ HeldQ w' w.heap.size 72 [] ∧ Below w.heap.size w w' := by
  have hz : ∀ W : World, (zeroValue 72).run Tryd.prog W = .ok (.agg (sqCells ⟨0, 0, 0, 0⟩ (List.replicate 64 0) 0).toArray) W := fun W => by kernel_rfl
  go_enter Tryd.func34, Tryd.ntmps34
  go_wp2
  go_ret
  exact ⟨rfl, ⟨List.replicate 64 0, by simp, rfl, Blk.new_of w _ _ _ (by rfl)⟩, (Below.refl _ _).alloc (Nat.le_refl _) _⟩
theorem padQ_length (n : Nat) : (padQ n).length = 9 + (119 - n % 64) % 64 := by
  simp [padQ, le8, be8]; omega
theorem fresh_pair (w : World) (X Y : Obj) : Below w.heap.size w ((w.alloc X).alloc Y) := ((Below.refl _ _).alloc (Nat.le_refl _) _).alloc (by simp) _
set_option maxRecDepth 100000 in
set_option maxHeartbeats 2000000 in
theorem qend_any (g : Nat) (t : TypeId) (m : List UInt8) (w : World) (hn : m.length < 549755813888) (hh : HeldQ w g t m) (ht : TabsQ w) (hg0 : g ≠ 2) (hg1 : g ≠ 3) :
    Calls Tryd.prog 36 #[.pointer (some ⟨g, 0, none⟩)] w fun e w' => e = .returned (.agg ((md5 m).map B8).toArray) ∧ w.grownBy w' (some g) := by
  obtain ⟨R, hR, hL, hs⟩ := hh
  have hlt := hs.lt
  have HR := Lib.hid hR
  obtain ⟨n, hnn⟩ : ∃ n, n = m.length := ⟨_, rfl⟩
  rw [← hnn] at hn hs hL
  have HNN := Lib.hid hnn
  clear hnn
  have c68 : w.cell? ⟨g, 68, none⟩ = some (.int .u64 (n : Int)) := (hs.cell 68).trans (sqCells_68 _ R n hR)
  obtain ⟨z, hz⟩ : ∃ z, z = (119 - n % 64) % 64 := ⟨_, rfl⟩
  have HPAD : Hid (padQ n = 128 :: List.replicate z 0 ++ leTo (n * 8) 8) := Lib.hid (by rw [leTo_eight, hz]; rfl)
  have z1 : ((119 : Int) - (n : Int) % 64) % 64 = (z : Int) := by omega
  have z2 : ((119 : Int) - (n : Int)) % 64 = (z : Int) := by omega
  have hz64 : z < 64 := by omega
  have hmk : ∀ W, (Instr.makeSlice 27 (.int .u64 (1 + (z : Int))) (.int .u64 (1 + (z : Int) + 8))).run Tryd.prog W = .ok (.slice (some ⟨W.heap.size, 0, none⟩) (1 + z) (1 + z + 8)) (W.alloc (.cells ((List.replicate (1 + z + 8) (0 : UInt8)).map B8).toArray 5)) := fun W => by
    have h := run_make_bytes .u64 .u64 (1 + z) (1 + z + 8) (by omega) (by omega) W
    rw [← one_plus8, ← one_plus] at h
    exact h
  have hown : ∀ W : World, Own (W.alloc (.cells ((Array.replicate (1 + z + 8) (B8 0)).setIfInBounds 0 (.int .u8 128)) 5)) W.heap.size (.slice (some ⟨W.heap.size, 0, none⟩) (1 + z) (1 + z + 8)) (128 :: List.replicate z 0) := fun W => by
    refine Own.made _ W.heap.size (1 + z) (1 + z + 8) _ (List.replicate 8 0) (Blk.new_of W _ _ _ ?_) (by simp; omega) (by simp; omega) (by simp only [maxLen]; omega) _ (Nat.le_refl _)
    apply Array.toList_inj.1
    have e : List.replicate (z + 8) (B8 0) = List.replicate z (B8 0) ++ List.replicate 8 (B8 0) := (List.replicate_append_replicate).symm
    rw [show 1 + z + 8 = (z + 8) + 1 by omega]
    simp only [Array.toList_setIfInBounds, Array.toList_replicate, List.replicate_succ (n := z + 8), List.set_cons_zero, e, List.map_append, List.map_cons, List.map_replicate, List.cons_append]
    rfl
  have hbsl : (128 :: List.replicate z (0 : UInt8)).length < 100 := by simp; omega
  clear hz
  go_enter Tryd.func36, Tryd.ntmps36
  go_wp2
  clear hmk
  simp only [z1]
  clear z1 z2
  obtain ⟨c, hc⟩ : ∃ c : Nat, c = n * 8 := ⟨_, rfl⟩
  rw [← hc] at HPAD
  have hci : (n : Int) * 8 = (c : Int) := by omega
  simp only [hci]
  clear hci hc c68
  have hown1 := hown (w.alloc (.cells ((List.replicate 16 (0 : UInt8)).map B8).toArray 41))
  clear hown
  rw [show (w.alloc (.cells ((List.replicate 16 (0 : UInt8)).map B8).toArray 41)).heap.size = w.heap.size + 1 by simp] at hown1
  have hw1 : (w.alloc (.cells ((List.replicate 16 (0 : UInt8)).map B8).toArray 41)) = w.alloc (.cells #[.int .u8 0, .int .u8 0, .int .u8 0, .int .u8 0, .int .u8 0, .int .u8 0, .int .u8 0, .int .u8 0, .int .u8 0, .int .u8 0, .int .u8 0, .int .u8 0, .int .u8 0, .int .u8 0, .int .u8 0, .int .u8 0] 41) := by rfl
  have hA0 := (Blk.new_of w 41 _ ((List.replicate 16 (0 : UInt8)).map B8) rfl).alloc (.cells ((Array.replicate (1 + z + 8) (B8 0)).setIfInBounds 0 (.int .u8 128)) 5)
  have hs0 := (hs.alloc (.cells ((List.replicate 16 (0 : UInt8)).map B8).toArray 41)).alloc (.cells ((Array.replicate (1 + z + 8) (B8 0)).setIfInBounds 0 (.int .u8 128)) 5)
  have hb0 := fresh_pair w (.cells ((List.replicate 16 (0 : UInt8)).map B8).toArray 41) (.cells ((Array.replicate (1 + z + 8) (B8 0)).setIfInBounds 0 (.int .u8 128)) 5)
  rw [hw1] at hA0 hs0 hown1 hb0
  clear hw1 hs
  generalize (w.alloc (.cells #[.int .u8 0, .int .u8 0, .int .u8 0, .int .u8 0, .int .u8 0, .int .u8 0, .int .u8 0, .int .u8 0, .int .u8 0, .int .u8 0, .int .u8 0, .int .u8 0, .int .u8 0, .int .u8 0, .int .u8 0, .int .u8 0] 41)).alloc (.cells ((Array.replicate (1 + z + 8) (B8 0)).setIfInBounds 0 (.int .u8 128)) 5) = w1 at *
  generalize hb1e : (128 :: List.replicate z (0 : UInt8)) = b0 at *
  have HB0 := Lib.hid hb1e
  clear hb1e
  generalize hcs : sqCells (blocksQ firstQ m) R n = cs at *
  have HCS := Lib.hid hcs
  clear hcs
  go_loopw [5, 6] (fun v i wr => ∃ k : Nat, k ≤ 8 ∧ i = .int .i64 (8 * (k : Int)) ∧ Own wr (w.heap.size + 1) v (b0 ++ leTo c k) ∧ Blk wr w.heap.size 41 ((List.replicate 16 (0 : UInt8)).map B8) ∧ Blk wr g t cs ∧ Below w.heap.size w wr) (fun _ i _ => 64 - (intOf i).toNat)
  case atStart => exact ⟨0, by omega, rfl, by rw [show leTo c 0 = [] from rfl, List.append_nil]; exact hown1, hA0, hs0, hb0⟩
  case round =>
    obtain ⟨k, hk, rfl, hown, hA, hs, hb⟩ := hrel
    clear hown1 hA0 hs0 hb0
    have lA := hA.lt
    by_cases hlt : k < 8
    · have hd : decide (8 * (k : Int) < 64) = true := by simp; omega
      have HL : Hid (leTo c (k + 1) = leTo c k ++ [UInt8.ofNat (c / 2 ^ (8 * k))]) := Lib.hid rfl
      have hll := leTo_length c k
      have HD := Lib.hid (show (b0 ++ leTo c k).length ≤ 1099511627776 by rw [List.length_append]; omega)
      have HW := Lib.hid (w_shr8k c k)
      have h8 : 0 ≤ 8 * (k : Int) := by omega
      have h9 : 8 * (k : Int) < 64 := by omega
      have h10 : (8 * (k : Int)).toNat = 8 * k := by omega
      clear hll
      go_wp2_with (at_builtin; refine wpList_append_byte rfl (.tmp 34) (.tmp 39) rfl (w.heap.size + 1) _ _ rfl (hown.alloc _) _ (UInt8.ofNat (c / 2 ^ (8 * k))) rfl (by refine (new_cell _ _ _).trans ?_; exact congrArg some HW.out) HD.out (le_alloc (by omega) _) ?_; intro v1 w' hown' hb' _)
      go_roundw
      case rel =>
        exact ⟨k + 1, by omega, by go_num, by rw [HL.out, ← List.append_assoc]; exact hown', (hA.alloc _).below hb' (by omega), (hs.alloc _).below hb' (by omega), (hb.alloc hb.size _).trans (hb'.mono (by omega))⟩
      case measure => simp [intOf]; omega
    · have hd : decide (8 * (k : Int) < 64) = false := by simp; omega
      obtain rfl : k = 8 := by omega
      clear hd hlt hk
      obtain ⟨A, ca, rfl, hAc, hcm, hsrc⟩ := hown.slice
      have hsz := hb.size
      have hsr := hsrc g (by omega)
      rw [← HPAD.out] at hsr hAc ⊢
      clear hsrc hown
      have hh : HeldQ wr g t m := ⟨R, HR.out, by rw [← HNN.out]; exact hL, by rw [← HNN.out, HCS.out]; exact hs⟩
      have hpl := padQ_length n
      have hmn := HNN.out
      have P := qput_any g ca A t m (padQ n) wr (by omega) hAc hcm hsr hh (ht.below hb) hg0 hg1
      clear hpl hmn hh hsr hs hL
      generalize hpd : padQ n = pd at *
      have HPD := Lib.hid hpd
      clear hpd
      go_wp2_with fail
      refine P.mono ?_
      rintro e w2 ⟨rfl, hg2, hh2⟩
      replace hA := hA.grown hg2 (fun h => by have := Option.some.inj h; omega)
      have hgw := grown_trans (grown_of_below hb (some g)) hg2
      clear P hg2 hb
      obtain ⟨R2, _, _, hs2⟩ := hh2
      have HQ := Lib.hid (show blocksQ firstQ (m ++ pd) = blocksQ firstQ (m ++ pd) from rfl)
      clear HQ
      generalize hq : blocksQ firstQ (m ++ pd) = q at *
      have HQ := Lib.hid hq
      clear hq
      have c0 : ∀ ob : Obj, (w2.alloc ob).cell? ⟨g, 0, none⟩ = some (.int .u32 q.a.toNat) := fun ob => (hs2.alloc ob).cell 0
      have c1 : ∀ ob : Obj, (w2.alloc ob).cell? ⟨g, 1, none⟩ = some (.int .u32 q.b.toNat) := fun ob => (hs2.alloc ob).cell 1
      have c2 : ∀ ob : Obj, (w2.alloc ob).cell? ⟨g, 2, none⟩ = some (.int .u32 q.c.toNat) := fun ob => (hs2.alloc ob).cell 2
      have c3 : ∀ ob : Obj, (w2.alloc ob).cell? ⟨g, 3, none⟩ = some (.int .u32 q.d.toNat) := fun ob => (hs2.alloc ob).cell 3
      have l2 := hA.lt
      have lg2 := hs2.lt
      go_wp2
      have hB0 := Blk.new_of w2 41 #[.int .u8 0, .int .u8 0, .int .u8 0, .int .u8 0, .int .u8 0, .int .u8 0, .int .u8 0, .int .u8 0, .int .u8 0, .int .u8 0, .int .u8 0, .int .u8 0, .int .u8 0, .int .u8 0, .int .u8 0, .int .u8 0] ((List.replicate 16 (0 : UInt8)).map B8) rfl
      replace hA := hA.alloc (.cells #[.int .u8 0, .int .u8 0, .int .u8 0, .int .u8 0, .int .u8 0, .int .u8 0, .int .u8 0, .int .u8 0, .int .u8 0, .int .u8 0, .int .u8 0, .int .u8 0, .int .u8 0, .int .u8 0, .int .u8 0, .int .u8 0] 41)
      replace hgw := grown_alloc hgw (.cells #[.int .u8 0, .int .u8 0, .int .u8 0, .int .u8 0, .int .u8 0, .int .u8 0, .int .u8 0, .int .u8 0, .int .u8 0, .int .u8 0, .int .u8 0, .int .u8 0, .int .u8 0, .int .u8 0, .int .u8 0, .int .u8 0] 41)
      have hsz2 : w.heap.size < w2.heap.size := l2
      clear c0 c1 c2 c3 hs2 lg2 l2
      generalize w2.alloc (.cells #[.int .u8 0, .int .u8 0, .int .u8 0, .int .u8 0, .int .u8 0, .int .u8 0, .int .u8 0, .int .u8 0, .int .u8 0, .int .u8 0, .int .u8 0, .int .u8 0, .int .u8 0, .int .u8 0, .int .u8 0, .int .u8 0] 41) = w3 at *
      generalize w2.heap.size = gB at *
      clear wr lA hsz
      go_loopw [48] (fun i wr => ∃ k : Nat, k ≤ 4 ∧ i = .int .i64 k ∧ Blk wr gB 41 ((bytesQTo [q.a, q.b, q.c, q.d] k).map B8) ∧ Blk wr w.heap.size 41 ((List.replicate 16 (0 : UInt8)).map B8) ∧ w.grownBy wr (some g)) (fun i _ => 4 - (intOf i).toNat)
      case atStart => exact ⟨0, by omega, rfl, hB0, hA, hgw⟩
      case round =>
        obtain ⟨k, hk, rfl, hB, hA, hgw⟩ := hrel
        by_cases hlt : k < 4
        · have hd : decide ((k : Int) < 4) = true := by simp; omega
          have hix := indexQ q k hlt
          obtain ⟨x, hx⟩ : ∃ x, x = ([q.a, q.b, q.c, q.d] : List UInt32).getD k 0 := ⟨_, rfl⟩
          rw [← hx] at hix
          have HX := Lib.hid hx
          clear hx
          have hl := bytesQTo_length [q.a, q.b, q.c, q.d] k
          have c0 := hB.at8 (4 * k) (by omega)
          have c1 := fun X => (cell_past wr gB (4 * k) (4 * k + 1) (by omega) X).trans (hB.at8 (4 * k + 1) (by omega))
          have c2 := fun X Y => (cell_past (wr.setCell ⟨gB, 4 * k, none⟩ X) gB (4 * k + 1) (4 * k + 2) (by omega) Y).trans ((cell_past wr _ (4 * k) (4 * k + 2) (by omega) X).trans (hB.at8 (4 * k + 2) (by omega)))
          have c3 := fun X Y Z => (cell_past ((wr.setCell ⟨gB, 4 * k, none⟩ X).setCell ⟨gB, 4 * k + 1, none⟩ Y) gB (4 * k + 2) (4 * k + 3) (by omega) Z).trans ((cell_past (wr.setCell ⟨gB, 4 * k, none⟩ X) _ (4 * k + 1) (4 * k + 3) (by omega) Y).trans ((cell_past wr _ (4 * k) (4 * k + 3) (by omega) X).trans (hB.at8 (4 * k + 3) (by omega))))
          have f0 := hB.frozen (4 * k)
          have f1 := hB.frozen (4 * k + 1)
          have f2 := hB.frozen (4 * k + 2)
          have f3 := hB.frozen (4 * k + 3)
          clear hl
          go_wp2
          go_roundw
          case rel =>
            have e : bytesQTo [q.a, q.b, q.c, q.d] (k + 1) = ((((bytesQTo [q.a, q.b, q.c, q.d] k).set (4 * k) x.toUInt8).set (4 * k + 1) (x >>> 8).toUInt8).set (4 * k + 2) (x >>> 16).toUInt8).set (4 * k + 3) (x >>> 24).toUInt8 := by rw [HX.out]; rfl
            refine ⟨k + 1, by omega, by go_num, ?_, ?_, ?_⟩
            · rw [e, w_byte24, w_byte16, w_byte8, w_byte0, ← map_set8, ← map_set8, ← map_set8, ← map_set8]
              exact (((hB.set_ _ _).set_ _ _).set_ _ _).set_ _ _
            · exact (((hA.far (by simp; omega) _).far (by simp; omega) _).far (by simp; omega) _).far (by simp; omega) _
            · exact grown_setCell (grown_setCell (grown_setCell (grown_setCell hgw (.inr (by simp; omega)) _) (.inr (by simp; omega)) _) (.inr (by simp; omega)) _) (.inr (by simp; omega)) _
          case measure => simp [intOf]; omega
        · have hd : decide ((k : Int) < 4) = false := by simp; omega
          obtain rfl : k = 4 := by omega
          rw [bytesQTo_all] at hB
          have hfin : bytesQ q = md5 m := by
            rw [← HQ.out, ← HPD.out, HNN.out]; rfl
          have hb16 : (bytesQ q).length = 16 := rfl
          rw [hfin] at hB
          have hl16 := md5_length m
          obtain ⟨dm, hdm⟩ : ∃ dm, dm = md5 m := ⟨_, rfl⟩
          rw [← hdm] at hB hl16
          have HDM := Lib.hid hdm
          clear hdm hfin hb16
          go_wp2_with (first
            | (refine wpList_load_blk rfl 41 (.tmp 7) rfl gB rfl 41 _ _ hB Tryd.underlying41 rfl (infoH.trans (by simp [hl16])) ?_)
            | (refine wpList_store_blk rfl 41 (.tmp 2) (.tmp 79) rfl rfl w.heap.size _ rfl rfl 41 _ hA (infoH.trans (by simp [hl16])) (by simp [hl16]) (one8 _) ?_; intro w5 hA5 hg5))
          refine bodyPost_ret (v := .agg _) (results_cell_row rfl _ _ w.heap.size 41 _ (0, 0) _ rfl hA5.raw Tryd.underlying41 rfl (infoH.trans (by simp [hl16]))) rfl ⟨by rw [← HDM.out], grown_new hgw hg5 (Nat.le_refl _)⟩
end Go.Proofs.YtkiogpnjkmdmgaaDoor
