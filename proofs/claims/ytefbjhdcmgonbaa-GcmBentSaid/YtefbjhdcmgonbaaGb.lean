/-
  The contracts of package gcm's elements: into bytes; Product.
-/
import Derived.Test.YtefbjhdcmgonbaaGf
import Derived.Deep.DeepCutAuto
namespace Go.Proofs.Ytefbjhdcmgonbaa
open Go.RowKit

def byteE (v : BitVec 64) (k : Nat) : UInt8 := UInt8.ofBitVec ((v >>> (56 - 8 * k)).setWidth 8)
/-- The bytes of two words. -/
def bytesE (h l : BitVec 64) : List UInt8 := (List.range 16).map fun i => if i < 8 then byteE h i else byteE l (i - 8)
theorem bytesE_length (h l : BitVec 64) : (bytesE h l).length = 16 := by simp [bytesE]
theorem bytesE_get (h l : BitVec 64) (i : Nat) (hi : i < 16) : (bytesE h l).getD i 0 = if i < 8 then byteE h i else byteE l (i - 8) := by
  simp [bytesE, List.getD_eq_getElem?_getD, hi]
def halfTo (X : List UInt8) (k : Nat) : List UInt8 := (List.range 16).map fun i => if i % 8 < k then X.getD i 0 else 0
theorem halfTo_length (X : List UInt8) (k : Nat) : (halfTo X k).length = 16 := by simp [halfTo]
theorem halfTo_step (X : List UInt8) (k : Nat) (hk : k < 8) : ((halfTo X k).set k (X.getD k 0)).set (8 + k) (X.getD (8 + k) 0) = halfTo X (k + 1) := by
  have h : k = 0 ∨ k = 1 ∨ k = 2 ∨ k = 3 ∨ k = 4 ∨ k = 5 ∨ k = 6 ∨ k = 7 := by omega
  rcases h with rfl | rfl | rfl | rfl | rfl | rfl | rfl | rfl <;> rfl
theorem halfTo_all (X : List UInt8) (h : X.length = 16) : halfTo X 8 = X := by
  match X, h with
  | [a0, a1, a2, a3, a4, a5, a6, a7, a8, a9, a10, a11, a12, a13, a14, a15], _ => rfl
theorem ix_e (k c : Nat) (hk : k < 8) (hc : c = 56 - 8 * k) : IntKind.i64.wrap (8 * (k : Int)) = 8 * (k : Int) ∧ wrap64 (8 * (k : Int)) = 8 * (k : Int) ∧ wrap64 (56 - 8 * (k : Int)) = (c : Int) ∧ wrap64 (8 + (k : Int)) = 8 + (k : Int) ∧ (8 + (k : Int)).toNat = 8 + k ∧ (0 : Int) ≤ 8 + (k : Int) ∧ 8 + (k : Int) < 16 ∧ (0 : Int) ≤ (k : Int) ∧ (k : Int) < 16 ∧ (0 : Int) ≤ (c : Int) ∧ (c : Int) < 64 := by
  refine ⟨by rw [IntKind.wrap_i64]; omega, by unfold wrap64; omega, by unfold wrap64; omega, by unfold wrap64; omega, by omega, by omega, by omega, by omega, by omega, by omega, by omega⟩
theorem q_shrn (a : BitVec 64) (n : Nat) : (a.toNat : Int) / 2 ^ n = ((a >>> n).toNat : Int) := by
  have := q_shr a n
  rw [Int.natCast_pow] at this
  exact this
theorem q_low8 (a : BitVec 64) : IntKind.u8.wrap (a.toNat : Int) = ((UInt8.ofBitVec (a.setWidth 8)).toNat : Int) := by
  rw [IntKind.wrap_u8]
  show _ = (((a.setWidth 8).toNat : Nat) : Int)
  rw [BitVec.toNat_setWidth]
  omega
set_option maxRecDepth 100000 in
set_option maxHeartbeats 1000000 in
theorem bytes_e (h l : BitVec 64) (w : World) : Calls Try.prog 60 #[.agg #[.int .u64 (h.toNat : Int), .int .u64 (l.toNat : Int)]] w fun e w' => e = .returned (BV (bytesE h l)) ∧ Below w.heap.size w w' := by
  have hz : ∀ W : World, (zeroValue 42).run Try.prog W = .ok (BV zero16) W := fun W => by kernel_rfl
  obtain ⟨X, hX⟩ : ∃ X, X = bytesE h l := ⟨_, rfl⟩
  have HXL := Lib.hid (show X.length = 16 by rw [hX]; exact bytesE_length h l)
  have HX0 := Lib.hid (show ∀ k, k < 8 → X.getD k 0 = byteE h k by intro k hk; rw [hX, bytesE_get h l k (by omega), if_pos hk])
  have HX1 := Lib.hid (show ∀ k, k < 8 → X.getD (8 + k) 0 = byteE l k by intro k hk; rw [hX, bytesE_get h l (8 + k) (by omega), if_neg (by omega), show 8 + k - 8 = k by omega])
  rw [← hX]
  clear hX
  obtain ⟨Z6, hZ6⟩ : ∃ Z6, Z6 = zero16 := ⟨_, rfl⟩
  have HZ0 := Lib.hid (show halfTo X 0 = Z6 by rw [hZ6]; rfl)
  have HZL := Lib.hid (show Z6.length = 16 by rw [hZ6]; rfl)
  rw [← hZ6] at hz
  clear hZ6
  go_enter Try.func60, Try.ntmps60
  go_wp2
  clear hz
  have hA : Blk (((w.alloc (.cells #[.int .u64 (h.toNat : Int), .int .u64 (l.toNat : Int)] 94)).alloc (.cells (Z6.map B8).toArray 42)).alloc (.cells (Z6.map B8).toArray 42)) w.heap.size 94 [.int .u64 (h.toNat : Int), .int .u64 (l.toNat : Int)] := ((Blk.new_of w 94 #[.int .u64 (h.toNat : Int), .int .u64 (l.toNat : Int)] [.int .u64 (h.toNat : Int), .int .u64 (l.toNat : Int)] rfl).alloc _).alloc _
  have hR := (Blk.new2_of w (.cells #[.int .u64 (h.toNat : Int), .int .u64 (l.toNat : Int)] 94) 42 (Z6.map B8).toArray (Z6.map B8) rfl).alloc (.cells (Z6.map B8).toArray 42)
  have hB := Blk.new3_of w (.cells #[.int .u64 (h.toNat : Int), .int .u64 (l.toNat : Int)] 94) (.cells (Z6.map B8).toArray 42) 42 (Z6.map B8).toArray (Z6.map B8) rfl
  have hbw := (((Below.refl w.heap.size w).alloc (Nat.le_refl _) (.cells #[.int .u64 (h.toNat : Int), .int .u64 (l.toNat : Int)] 94)).alloc (by simp) (.cells (Z6.map B8).toArray 42)).alloc (by simp; omega) (.cells (Z6.map B8).toArray 42)
  have hne := (show w.heap.size ≠ w.heap.size + 1 + 1 ∧ w.heap.size + 1 ≠ w.heap.size + 1 + 1 ∧ w.heap.size ≤ w.heap.size + 1 + 1 by omega)
  have hle := (show w.heap.size ≤ w.heap.size + 1 by omega)
  generalize w.heap.size + 1 + 1 = gb at *
  generalize w.heap.size + 1 = gr at *
  go_loopw [4, 5] (fun _ i wr => ∃ k : Nat, k ≤ 8 ∧ i = .int .i64 (k : Int) ∧ Blk wr w.heap.size 94 [.int .u64 (h.toNat : Int), .int .u64 (l.toNat : Int)] ∧ Blk wr gb 42 ((halfTo X k).map B8) ∧ Blk wr gr 42 (Z6.map B8) ∧ Below w.heap.size w wr) (fun _ i _ => 8 - (intOf i).toNat)
  case atStart => exact ⟨0, by omega, rfl, hA, by rw [HZ0.out]; exact hB, hR, hbw⟩
  case round =>
    clear hA hB hR hbw
    obtain ⟨k, hk, rfl, hA, hB, hR, hbw⟩ := hrel
    by_cases hlt : k < 8
    · have hd : decide ((k : Int) < 8) = true := by simp; omega
      have HST := Lib.hid (halfTo_step X k hlt)
      have hx0 := HX0.out k hlt
      have hx1 := HX1.out k hlt
      unfold byteE at hx0 hx1
      have e0 := q_shrn h (56 - 8 * k)
      have e1 := q_shrn l (56 - 8 * k)
      generalize h >>> (56 - 8 * k) = h1 at *
      generalize l >>> (56 - 8 * k) = l1 at *
      have f0 := q_low8 h1
      have f1 := q_low8 l1
      rw [← hx0] at f0
      rw [← hx1] at f1
      have f2 : (h1.toNat : Int) % 256 = ((X.getD k 0).toNat : Int) := by rw [← f0, IntKind.wrap_u8]
      have f3 : (l1.toNat : Int) % 256 = ((X.getD (8 + k) 0).toNat : Int) := by rw [← f1, IntKind.wrap_u8]
      have hl16 := halfTo_length X k
      have hc0 := hB.at8 k (by rw [hl16]; omega)
      have hf0 := hB.frozen k
      have hB1 := hB.set_ k (B8 (X.getD k 0))
      rw [map_set8] at hB1
      have hc1 := hB1.at8 (8 + k) (by rw [List.length_set, hl16]; omega)
      have hf1 := hB1.frozen (8 + k)
      generalize X.getD k 0 = x0 at *
      generalize X.getD (8 + k) 0 = x1 at *
      have k0 := (show Blk _ _ _ [.int .u64 (h.toNat : Int), .int .u64 (l.toNat : Int)] from hA).cell 0
      have k1 := (show Blk _ _ _ [.int .u64 (h.toNat : Int), .int .u64 (l.toNat : Int)] from (hA.far (p := ⟨gb, k, none⟩) (by simp; exact hne.1) (B8 x0))).cell 1
      simp only [List.getElem?_cons_zero, List.getElem?_cons_succ] at k0 k1
      obtain ⟨g1, g2, g3, g4, g5, g6, g7, g8, g9, g10, g11⟩ := ix_e k (56 - 8 * k) hlt rfl
      have hA1 := hA.far (p := ⟨gb, k, none⟩) (by simp; exact hne.1) (.int .u8 (x0.toNat : Int))
      have hR1 := hR.far (p := ⟨gb, k, none⟩) (by simp; exact hne.2.1) (.int .u8 (x0.toNat : Int))
      have hbw1 := hbw.setCell (p := ⟨gb, k, none⟩) (by simp; exact hne.2.2) (.int .u8 (x0.toNat : Int))
      change Blk (wr.setCell ⟨gb, k, none⟩ (.int .u8 (x0.toNat : Int))) gb 42 _ at hB1
      change (wr.setCell ⟨gb, k, none⟩ (.int .u8 (x0.toNat : Int))).cell? _ = _ at hc1
      change (wr.setCell ⟨gb, k, none⟩ (.int .u8 (x0.toNat : Int))).frozen? _ = _ at hf1
      change (wr.setCell ⟨gb, k, none⟩ (.int .u8 (x0.toNat : Int))).cell? _ = _ at k1
      replace hc1 := Lib.hid hc1
      replace hf1 := Lib.hid hf1
      replace k1 := Lib.hid k1
      clear hx0 hx1 hl16 hA hR hbw hB
      replace g4 := Lib.hid g4
      replace g5 := Lib.hid g5
      replace g6 := Lib.hid g6
      replace g7 := Lib.hid g7
      replace e1 := Lib.hid e1
      replace f1 := Lib.hid f1
      replace f3 := Lib.hid f3
      clear g1 g3 g10 g11
      go_upto_region 6 with fail
      clear hc0 hf0 k0 e0 f0 f2 g9
      generalize wr.setCell ⟨gb, k, none⟩ (.int .u8 (x0.toNat : Int)) = w6 at *
      replace hc1 := hc1.out
      replace hf1 := hf1.out
      replace k1 := k1.out
      replace g4 := g4.out
      replace g5 := g5.out
      replace g6 := g6.out
      replace g7 := g7.out
      replace e1 := e1.out
      replace f1 := f1.out
      replace f3 := f3.out
      go_wp2
      go_roundw
      case rel =>
        refine ⟨k + 1, by omega, by go_num, hA1.far (by simp; exact hne.1) _, ?_, hR1.far (by simp; exact hne.2.1) _, hbw1.setCell (by simp; exact hne.2.2) _⟩
        rw [← HST.out, ← map_set8]
        exact hB1.set_ (8 + k) _
      case measure => simp [intOf]; omega
    · have hd : decide ((k : Int) < 8) = false := by simp; omega
      obtain rfl : k = 8 := by omega
      rw [halfTo_all X HXL.out] at hB
      clear hA
      go_wp2_with (first
        | (refine wpList_load_blk rfl 42 (.tmp 3) rfl gb rfl 42 _ _ hB Try.underlying42 rfl (infoBk.trans (by rw [List.length_map, HXL.out])) ?_)
        | (refine wpList_store_blk rfl 42 (.tmp 2) (.tmp 28) rfl rfl gr _ rfl rfl 42 _ hR (infoBk.trans (by rw [List.length_map, HXL.out])) (by rw [List.length_map, List.length_map, HXL.out, HZL.out]) (one8 _) ?_; intro w7 hA7 hg7))
      refine bodyPost_ret (v := .agg _) (results_cell_row rfl _ _ gr 42 _ (0, 0) _ rfl hA7.raw Try.underlying42 rfl (infoBk.trans (by rw [List.size_toArray, List.length_map, HXL.out]))) rfl ⟨rfl, below_new hbw hg7 hle hbw.size⟩
end Go.Proofs.Ytefbjhdcmgonbaa
