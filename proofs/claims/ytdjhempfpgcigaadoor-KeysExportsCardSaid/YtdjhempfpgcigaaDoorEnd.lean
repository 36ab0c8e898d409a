/-
  The contracts of what stands behind the bytes of a sum, and of the words as bytes.
-/
import Derived.Test.YtdjhempfpgcigaaDoorTurn
import Derived.Test.YtdjhempfpgcigaaDoorOwn
namespace Go.Proofs.YtdjhempfpgcigaaDoor
open Go.RowKit

theorem info32 : (Tryd.prog.info? 22).map (·.size) = some 32 := by kernel_rfl

/-- The bytes of the words, after k of them. -/
def bytesTo (ws : List UInt32) : Nat → List UInt8
  | 0 => List.replicate 32 0
  | k + 1 => ((((bytesTo ws k).set (4 * k) ((ws.getD k 0) >>> 24).toUInt8).set (4 * k + 1) ((ws.getD k 0) >>> 16).toUInt8).set (4 * k + 2) ((ws.getD k 0) >>> 8).toUInt8).set (4 * k + 3) (ws.getD k 0).toUInt8
theorem bytesTo_length (ws : List UInt32) (k : Nat) : (bytesTo ws k).length = 32 := by
  induction k with
  | zero => simp [bytesTo]
  | succ k ih => simp [bytesTo, ih]
theorem bytesTo_all (s : St) : bytesTo s.words 8 = bytesOf s := by
  simp [bytesTo, bytesOf, word4, St.words, List.replicate]
theorem w_byte24 (x : UInt32) : (x.toNat : Int) / (16777216 : Int) % (256 : Int) = (((x >>> 24).toUInt8).toNat : Int) := w_byte x 24 (by decide)
theorem w_byte16 (x : UInt32) : (x.toNat : Int) / (65536 : Int) % (256 : Int) = (((x >>> 16).toUInt8).toNat : Int) := w_byte x 16 (by decide)
theorem w_byte8 (x : UInt32) : (x.toNat : Int) / (256 : Int) % (256 : Int) = (((x >>> 8).toUInt8).toNat : Int) := w_byte x 8 (by decide)
theorem w_byte0 (x : UInt32) : (x.toNat : Int) % (256 : Int) = ((x.toUInt8).toNat : Int) := by simp
theorem cell_past (w : World) (g i j : Nat) (h : i ≠ j) (x : Value) : (w.setCell ⟨g, i, none⟩ x).cell? ⟨g, j, none⟩ = w.cell? ⟨g, j, none⟩ :=
  World.cell?_setCell_other w ⟨g, i, none⟩ ⟨g, j, none⟩ x (fun e => by injection e; omega)
theorem frozen_past (w : World) (p q : Addr) (x : Value) : (w.setCell p x).frozen? q = w.frozen? q := by simp

theorem index8_0 (s : St) (W : World) : (Instr.index 59 (.agg #[.int .u32 s.a.toNat, .int .u32 s.b.toNat, .int .u32 s.c.toNat, .int .u32 s.d.toNat, .int .u32 s.e.toNat, .int .u32 s.f.toNat, .int .u32 s.g.toNat, .int .u32 s.h.toNat]) (.int .i64 0)).run Tryd.prog W = .ok (.int .u32 s.a.toNat) W := by kernel_rfl
theorem index8_1 (s : St) (W : World) : (Instr.index 59 (.agg #[.int .u32 s.a.toNat, .int .u32 s.b.toNat, .int .u32 s.c.toNat, .int .u32 s.d.toNat, .int .u32 s.e.toNat, .int .u32 s.f.toNat, .int .u32 s.g.toNat, .int .u32 s.h.toNat]) (.int .i64 1)).run Tryd.prog W = .ok (.int .u32 s.b.toNat) W := by kernel_rfl
theorem index8_2 (s : St) (W : World) : (Instr.index 59 (.agg #[.int .u32 s.a.toNat, .int .u32 s.b.toNat, .int .u32 s.c.toNat, .int .u32 s.d.toNat, .int .u32 s.e.toNat, .int .u32 s.f.toNat, .int .u32 s.g.toNat, .int .u32 s.h.toNat]) (.int .i64 2)).run Tryd.prog W = .ok (.int .u32 s.c.toNat) W := by kernel_rfl
theorem index8_3 (s : St) (W : World) : (Instr.index 59 (.agg #[.int .u32 s.a.toNat, .int .u32 s.b.toNat, .int .u32 s.c.toNat, .int .u32 s.d.toNat, .int .u32 s.e.toNat, .int .u32 s.f.toNat, .int .u32 s.g.toNat, .int .u32 s.h.toNat]) (.int .i64 3)).run Tryd.prog W = .ok (.int .u32 s.d.toNat) W := by kernel_rfl
theorem index8_4 (s : St) (W : World) : (Instr.index 59 (.agg #[.int .u32 s.a.toNat, .int .u32 s.b.toNat, .int .u32 s.c.toNat, .int .u32 s.d.toNat, .int .u32 s.e.toNat, .int .u32 s.f.toNat, .int .u32 s.g.toNat, .int .u32 s.h.toNat]) (.int .i64 4)).run Tryd.prog W = .ok (.int .u32 s.e.toNat) W := by kernel_rfl
theorem index8_5 (s : St) (W : World) : (Instr.index 59 (.agg #[.int .u32 s.a.toNat, .int .u32 s.b.toNat, .int .u32 s.c.toNat, .int .u32 s.d.toNat, .int .u32 s.e.toNat, .int .u32 s.f.toNat, .int .u32 s.g.toNat, .int .u32 s.h.toNat]) (.int .i64 5)).run Tryd.prog W = .ok (.int .u32 s.f.toNat) W := by kernel_rfl
theorem index8_6 (s : St) (W : World) : (Instr.index 59 (.agg #[.int .u32 s.a.toNat, .int .u32 s.b.toNat, .int .u32 s.c.toNat, .int .u32 s.d.toNat, .int .u32 s.e.toNat, .int .u32 s.f.toNat, .int .u32 s.g.toNat, .int .u32 s.h.toNat]) (.int .i64 6)).run Tryd.prog W = .ok (.int .u32 s.g.toNat) W := by kernel_rfl
theorem index8_7 (s : St) (W : World) : (Instr.index 59 (.agg #[.int .u32 s.a.toNat, .int .u32 s.b.toNat, .int .u32 s.c.toNat, .int .u32 s.d.toNat, .int .u32 s.e.toNat, .int .u32 s.f.toNat, .int .u32 s.g.toNat, .int .u32 s.h.toNat]) (.int .i64 7)).run Tryd.prog W = .ok (.int .u32 s.h.toNat) W := by kernel_rfl
theorem index8 (s : St) (k : Nat) (h : k < 8) (W : World) : (Instr.index 59 (.agg #[.int .u32 s.a.toNat, .int .u32 s.b.toNat, .int .u32 s.c.toNat, .int .u32 s.d.toNat, .int .u32 s.e.toNat, .int .u32 s.f.toNat, .int .u32 s.g.toNat, .int .u32 s.h.toNat]) (.int .i64 (k : Int))).run Tryd.prog W = .ok (.int .u32 (s.words.getD k 0).toNat) W := by
  obtain rfl | rfl | rfl | rfl | rfl | rfl | rfl | rfl : k = 0 ∨ k = 1 ∨ k = 2 ∨ k = 3 ∨ k = 4 ∨ k = 5 ∨ k = 6 ∨ k = 7 := by omega
  · exact index8_0 s W
  · exact index8_1 s W
  · exact index8_2 s W
  · exact index8_3 s W
  · exact index8_4 s W
  · exact index8_5 s W
  · exact index8_6 s W
  · exact index8_7 s W
theorem Blk.new3_of (w : World) (A B : Obj) (t : TypeId) (arr : Array Value) (cs : List Value) (h : arr = cs.toArray) : Blk (((w.alloc A).alloc B).alloc (.cells arr t)) (w.heap.size + 1 + 1) t cs := by
  have h1 := Blk.new2_of (w.alloc A) B t arr cs h
  have e : (w.alloc A).heap.size + 1 = w.heap.size + 1 + 1 := by simp
  rw [e] at h1; exact h1

set_option maxRecDepth 100000 in
set_option maxHeartbeats 600000 in
theorem bytesOf_any (s : St) (w : World) :
    Calls Tryd.prog 54 #[.agg #[.int .u32 s.a.toNat, .int .u32 s.b.toNat, .int .u32 s.c.toNat, .int .u32 s.d.toNat, .int .u32 s.e.toNat, .int .u32 s.f.toNat, .int .u32 s.g.toNat, .int .u32 s.h.toNat]] w fun e w' => e = .returned (.agg ((bytesOf s).map B8).toArray) ∧ Below w.heap.size w w' := by
  go_enter Tryd.func54, Tryd.ntmps54
  go_wp2
  go_loopw [7] (fun i wr => ∃ k : Nat, k ≤ 8 ∧ i = .int .i64 k ∧ Blk wr (w.heap.size + 1 + 1) 22 ((bytesTo s.words k).map B8) ∧ Blk wr (w.heap.size + 1) 22 ((bytesTo s.words 0).map B8) ∧ Below w.heap.size w wr) (fun i _ => 8 - (intOf i).toNat)
  case atStart => exact ⟨0, by omega, rfl, Blk.new3_of w _ _ _ _ _ (by rfl), (Blk.new2_of w _ _ _ _ (by rfl)).alloc _, (((Below.refl _ _).alloc (Nat.le_refl _) _).alloc (by simp) _).alloc (by simp; omega) _⟩
  case round =>
    obtain ⟨k, hk, rfl, hB, hA, hbl⟩ := hrel
    by_cases hlt : k < 8
    · have hd : decide ((k : Int) < 8) = true := by simp; omega
      have hix := index8 s k hlt
      obtain ⟨x, hx⟩ : ∃ x, x = s.words.getD k 0 := ⟨_, rfl⟩
      rw [← hx] at hix
      have HX := Lib.hid hx
      clear hx
      have hl := bytesTo_length s.words k
      have c0 := hB.at8 (4 * k) (by omega)
      have c1 := fun X => (cell_past wr (w.heap.size + 1 + 1) (4 * k) (4 * k + 1) (by omega) X).trans (hB.at8 (4 * k + 1) (by omega))
      have c2 := fun X Y => (cell_past (wr.setCell ⟨w.heap.size + 1 + 1, 4 * k, none⟩ X) (w.heap.size + 1 + 1) (4 * k + 1) (4 * k + 2) (by omega) Y).trans ((cell_past wr _ (4 * k) (4 * k + 2) (by omega) X).trans (hB.at8 (4 * k + 2) (by omega)))
      have c3 := fun X Y Z => (cell_past ((wr.setCell ⟨w.heap.size + 1 + 1, 4 * k, none⟩ X).setCell ⟨w.heap.size + 1 + 1, 4 * k + 1, none⟩ Y) (w.heap.size + 1 + 1) (4 * k + 2) (4 * k + 3) (by omega) Z).trans ((cell_past (wr.setCell ⟨w.heap.size + 1 + 1, 4 * k, none⟩ X) _ (4 * k + 1) (4 * k + 3) (by omega) Y).trans ((cell_past wr _ (4 * k) (4 * k + 3) (by omega) X).trans (hB.at8 (4 * k + 3) (by omega))))
      have f0 := hB.frozen (4 * k)
      have f1 := hB.frozen (4 * k + 1)
      have f2 := hB.frozen (4 * k + 2)
      have f3 := hB.frozen (4 * k + 3)
      clear hl
      go_wp2
      go_roundw
      case rel =>
        have e : bytesTo s.words (k + 1) = ((((bytesTo s.words k).set (4 * k) (x >>> 24).toUInt8).set (4 * k + 1) (x >>> 16).toUInt8).set (4 * k + 2) (x >>> 8).toUInt8).set (4 * k + 3) x.toUInt8 := by rw [HX.out]; rfl
        refine ⟨k + 1, by omega, by go_num, ?_, ?_, ?_⟩
        · rw [e, w_byte24, w_byte16, w_byte8, w_byte0, ← map_set8, ← map_set8, ← map_set8, ← map_set8]
          exact (((hB.set_ _ _).set_ _ _).set_ _ _).set_ _ _
        · exact (((hA.far (by simp) _).far (by simp) _).far (by simp) _).far (by simp) _
        · exact (((hbl.setCell (by simp; omega) _).setCell (by simp; omega) _).setCell (by simp; omega) _).setCell (by simp; omega) _
      case measure => simp [intOf]; omega
    · have hd : decide ((k : Int) < 8) = false := by simp; omega
      obtain rfl : k = 8 := by omega
      rw [bytesTo_all] at hB
      have hbl32 : (bytesOf s).length = 32 := rfl
      go_wp2_with (first
        | (refine wpList_load_blk rfl 22 (.tmp 3) rfl (w.heap.size + 1 + 1) rfl 22 _ _ hB Tryd.underlying22 rfl (info32.trans (by simp [hbl32])) ?_)
        | (refine wpList_store_blk rfl 22 (.tmp 2) (.tmp 38) rfl rfl (w.heap.size + 1) _ rfl rfl 22 _ hA (info32.trans (by simp [hbl32])) (by simp [bytesTo_length, hbl32]) (one8 _) ?_; intro w2 hA2 hg2))
      refine bodyPost_ret (v := .agg _) (results_cell_row rfl _ _ (w.heap.size + 1) 22 _ (0, 0) _ rfl hA2.raw Tryd.underlying22 rfl (info32.trans (by simp [hbl32]))) rfl ⟨rfl, below_new hbl hg2 (by omega) hbl.size⟩

theorem one_plus (z : Nat) : (1 : Int) + (z : Int) = ((1 + z : Nat) : Int) := by omega
theorem one_plus8 (z : Nat) : (((1 + z : Nat) : Int)) + 8 = ((1 + z + 8 : Nat) : Int) := by omega
set_option maxRecDepth 100000 in
set_option maxHeartbeats 1000000 in
theorem ending_any (n z : Nat) (hn : n < 1099511627776) (w : World) (hz : z = (119 - n % 64) % 64) :
    Calls Tryd.prog 53 #[.int .u64 (n : Int)] w fun e w' => ∃ v, e = .returned v ∧ Own w' w.heap.size v (padB n) ∧ Below w.heap.size w w' := by
  have hpad : padB n = ((((((((128 :: List.replicate z 0) ++ [UInt8.ofNat (n * 8 / 72057594037927936)]) ++ [UInt8.ofNat (n * 8 / 281474976710656)]) ++ [UInt8.ofNat (n * 8 / 1099511627776)]) ++ [UInt8.ofNat (n * 8 / 4294967296)]) ++ [UInt8.ofNat (n * 8 / 16777216)]) ++ [UInt8.ofNat (n * 8 / 65536)]) ++ [UInt8.ofNat (n * 8 / 256)]) ++ [UInt8.ofNat (n * 8)] := by
    unfold padB be8; rw [← hz]; simp
  have HP := Lib.hid hpad
  clear hpad
  have z1 : ((119 : Int) - (n : Int) % 64) % 64 = (z : Int) := by omega
  have z2 : ((119 : Int) - (n : Int)) % 64 = (z : Int) := by omega
  have hz64 : z < 64 := by omega
  have hmk : ∀ W, (Instr.makeSlice 26 (.int .u64 (1 + (z : Int))) (.int .u64 (1 + (z : Int) + 8))).run Tryd.prog W = .ok (.slice (some ⟨W.heap.size, 0, none⟩) (1 + z) (1 + z + 8)) (W.alloc (.cells ((List.replicate (1 + z + 8) (0 : UInt8)).map B8).toArray 5)) := fun W => by
    have h := run_make_bytes .u64 .u64 (1 + z) (1 + z + 8) (by omega) (by omega) W
    rw [← one_plus8, ← one_plus] at h
    exact h
  clear hz
  have hown : Own (w.alloc (.cells ((Array.replicate (1 + z + 8) (B8 0)).setIfInBounds 0 (.int .u8 128)) 5)) w.heap.size (.slice (some ⟨w.heap.size, 0, none⟩) (1 + z) (1 + z + 8)) (128 :: List.replicate z 0) := by
    refine Own.made _ w.heap.size (1 + z) (1 + z + 8) _ (List.replicate 8 0) (Blk.new_of w _ _ _ ?_) (by simp; omega) (by simp; omega) (by simp only [maxLen]; omega) _ (Nat.le_refl _)
    apply Array.toList_inj.1
    have e : List.replicate (z + 8) (B8 0) = List.replicate z (B8 0) ++ List.replicate 8 (B8 0) := (List.replicate_append_replicate).symm
    rw [show 1 + z + 8 = (z + 8) + 1 by omega]
    simp only [Array.toList_setIfInBounds, Array.toList_replicate, List.replicate_succ (n := z + 8), List.set_cons_zero, e, List.map_append, List.map_cons, List.map_replicate, List.cons_append]
    rfl
  have hbl : Below w.heap.size w (w.alloc (.cells ((Array.replicate (1 + z + 8) (B8 0)).setIfInBounds 0 (.int .u8 128)) 5)) := (Below.refl _ _).alloc (Nat.le_refl _) _
  have hbsl : (128 :: List.replicate z (0 : UInt8)).length < 100 := by simp; omega
  go_enter Tryd.func53, Tryd.ntmps53
  go_wp2
  clear hmk z1 z2
  generalize w.alloc (.cells ((Array.replicate (1 + z + 8) (B8 0)).setIfInBounds 0 (.int .u8 128)) 5) = w1 at *
  generalize (128 :: List.replicate z (0 : UInt8)) = b0 at *
  refine wp_loop_rounds 9 ?_
  have HD := Lib.hid (show b0.length ≤ 1099511627776 by omega)
  rw [rounds_succ]
  go_wp2_with (at_builtin; refine wpList_append_byte rfl (.tmp 25) (.tmp 30) rfl w.heap.size _ _ rfl (hown.alloc _) _ (UInt8.ofNat (n * 8 / 72057594037927936)) rfl (by refine (new_cell _ _ _).trans ?_; first | (simp; done) | (simp; omega)) HD.out (le_alloc hbl.size _) ?_; intro v0 w' hown' hb' _)
  replace hbl := (hbl.alloc hbl.size _).trans hb'
  replace hown := hown'
  clear hown' hb' HD
  have hl : (b0 ++ [(UInt8.ofNat (n * 8 / 72057594037927936))]).length < 101 := by rw [List.length_append, List.length_singleton]; omega
  clear hbsl
  have hbsl := hl
  clear hl
  obtain ⟨b1, E1⟩ : ∃ b, b = b0 ++ [(UInt8.ofNat (n * 8 / 72057594037927936))] := ⟨_, rfl⟩
  rw [← E1] at hown hbsl
  replace E1 := Lib.hid E1
  generalize w' = w1 at *
  have HD := Lib.hid (show b1.length ≤ 1099511627776 by omega)
  rw [rounds_succ]
  go_wp2_with (at_builtin; refine wpList_append_byte rfl (.tmp 25) (.tmp 30) rfl w.heap.size _ _ rfl (hown.alloc _) _ (UInt8.ofNat (n * 8 / 281474976710656)) rfl (by refine (new_cell _ _ _).trans ?_; first | (simp; done) | (simp; omega)) HD.out (le_alloc hbl.size _) ?_; intro v1 w' hown' hb' _)
  replace hbl := (hbl.alloc hbl.size _).trans hb'
  replace hown := hown'
  clear hown' hb' HD
  have hl : (b1 ++ [(UInt8.ofNat (n * 8 / 281474976710656))]).length < 102 := by rw [List.length_append, List.length_singleton]; omega
  clear hbsl
  have hbsl := hl
  clear hl
  obtain ⟨b2, E2⟩ : ∃ b, b = b1 ++ [(UInt8.ofNat (n * 8 / 281474976710656))] := ⟨_, rfl⟩
  rw [← E2] at hown hbsl
  replace E2 := Lib.hid E2
  generalize w' = w1 at *
  have HD := Lib.hid (show b2.length ≤ 1099511627776 by omega)
  rw [rounds_succ]
  go_wp2_with (at_builtin; refine wpList_append_byte rfl (.tmp 25) (.tmp 30) rfl w.heap.size _ _ rfl (hown.alloc _) _ (UInt8.ofNat (n * 8 / 1099511627776)) rfl (by refine (new_cell _ _ _).trans ?_; first | (simp; done) | (simp; omega)) HD.out (le_alloc hbl.size _) ?_; intro v2 w' hown' hb' _)
  replace hbl := (hbl.alloc hbl.size _).trans hb'
  replace hown := hown'
  clear hown' hb' HD
  have hl : (b2 ++ [(UInt8.ofNat (n * 8 / 1099511627776))]).length < 103 := by rw [List.length_append, List.length_singleton]; omega
  clear hbsl
  have hbsl := hl
  clear hl
  obtain ⟨b3, E3⟩ : ∃ b, b = b2 ++ [(UInt8.ofNat (n * 8 / 1099511627776))] := ⟨_, rfl⟩
  rw [← E3] at hown hbsl
  replace E3 := Lib.hid E3
  generalize w' = w1 at *
  have HD := Lib.hid (show b3.length ≤ 1099511627776 by omega)
  rw [rounds_succ]
  go_wp2_with (at_builtin; refine wpList_append_byte rfl (.tmp 25) (.tmp 30) rfl w.heap.size _ _ rfl (hown.alloc _) _ (UInt8.ofNat (n * 8 / 4294967296)) rfl (by refine (new_cell _ _ _).trans ?_; first | (simp; done) | (simp; omega)) HD.out (le_alloc hbl.size _) ?_; intro v3 w' hown' hb' _)
  replace hbl := (hbl.alloc hbl.size _).trans hb'
  replace hown := hown'
  clear hown' hb' HD
  have hl : (b3 ++ [(UInt8.ofNat (n * 8 / 4294967296))]).length < 104 := by rw [List.length_append, List.length_singleton]; omega
  clear hbsl
  have hbsl := hl
  clear hl
  obtain ⟨b4, E4⟩ : ∃ b, b = b3 ++ [(UInt8.ofNat (n * 8 / 4294967296))] := ⟨_, rfl⟩
  rw [← E4] at hown hbsl
  replace E4 := Lib.hid E4
  generalize w' = w1 at *
  have HD := Lib.hid (show b4.length ≤ 1099511627776 by omega)
  rw [rounds_succ]
  go_wp2_with (at_builtin; refine wpList_append_byte rfl (.tmp 25) (.tmp 30) rfl w.heap.size _ _ rfl (hown.alloc _) _ (UInt8.ofNat (n * 8 / 16777216)) rfl (by refine (new_cell _ _ _).trans ?_; first | (simp; done) | (simp; omega)) HD.out (le_alloc hbl.size _) ?_; intro v4 w' hown' hb' _)
  replace hbl := (hbl.alloc hbl.size _).trans hb'
  replace hown := hown'
  clear hown' hb' HD
  have hl : (b4 ++ [(UInt8.ofNat (n * 8 / 16777216))]).length < 105 := by rw [List.length_append, List.length_singleton]; omega
  clear hbsl
  have hbsl := hl
  clear hl
  obtain ⟨b5, E5⟩ : ∃ b, b = b4 ++ [(UInt8.ofNat (n * 8 / 16777216))] := ⟨_, rfl⟩
  rw [← E5] at hown hbsl
  replace E5 := Lib.hid E5
  generalize w' = w1 at *
  have HD := Lib.hid (show b5.length ≤ 1099511627776 by omega)
  rw [rounds_succ]
  go_wp2_with (at_builtin; refine wpList_append_byte rfl (.tmp 25) (.tmp 30) rfl w.heap.size _ _ rfl (hown.alloc _) _ (UInt8.ofNat (n * 8 / 65536)) rfl (by refine (new_cell _ _ _).trans ?_; first | (simp; done) | (simp; omega)) HD.out (le_alloc hbl.size _) ?_; intro v5 w' hown' hb' _)
  replace hbl := (hbl.alloc hbl.size _).trans hb'
  replace hown := hown'
  clear hown' hb' HD
  have hl : (b5 ++ [(UInt8.ofNat (n * 8 / 65536))]).length < 106 := by rw [List.length_append, List.length_singleton]; omega
  clear hbsl
  have hbsl := hl
  clear hl
  obtain ⟨b6, E6⟩ : ∃ b, b = b5 ++ [(UInt8.ofNat (n * 8 / 65536))] := ⟨_, rfl⟩
  rw [← E6] at hown hbsl
  replace E6 := Lib.hid E6
  generalize w' = w1 at *
  have HD := Lib.hid (show b6.length ≤ 1099511627776 by omega)
  rw [rounds_succ]
  go_wp2_with (at_builtin; refine wpList_append_byte rfl (.tmp 25) (.tmp 30) rfl w.heap.size _ _ rfl (hown.alloc _) _ (UInt8.ofNat (n * 8 / 256)) rfl (by refine (new_cell _ _ _).trans ?_; first | (simp; done) | (simp; omega)) HD.out (le_alloc hbl.size _) ?_; intro v6 w' hown' hb' _)
  replace hbl := (hbl.alloc hbl.size _).trans hb'
  replace hown := hown'
  clear hown' hb' HD
  have hl : (b6 ++ [(UInt8.ofNat (n * 8 / 256))]).length < 107 := by rw [List.length_append, List.length_singleton]; omega
  clear hbsl
  have hbsl := hl
  clear hl
  obtain ⟨b7, E7⟩ : ∃ b, b = b6 ++ [(UInt8.ofNat (n * 8 / 256))] := ⟨_, rfl⟩
  rw [← E7] at hown hbsl
  replace E7 := Lib.hid E7
  generalize w' = w1 at *
  have HD := Lib.hid (show b7.length ≤ 1099511627776 by omega)
  rw [rounds_succ]
  go_wp2_with (at_builtin; refine wpList_append_byte rfl (.tmp 25) (.tmp 30) rfl w.heap.size _ _ rfl (hown.alloc _) _ (UInt8.ofNat (n * 8)) rfl (by refine (new_cell _ _ _).trans ?_; first | (simp; done) | (simp; omega)) HD.out (le_alloc hbl.size _) ?_; intro v7 w' hown' hb' _)
  replace hbl := (hbl.alloc hbl.size _).trans hb'
  replace hown := hown'
  clear hown' hb' HD
  have hl : (b7 ++ [(UInt8.ofNat (n * 8))]).length < 108 := by rw [List.length_append, List.length_singleton]; omega
  clear hbsl
  have hbsl := hl
  clear hl
  obtain ⟨b8, E8⟩ : ∃ b, b = b7 ++ [(UInt8.ofNat (n * 8))] := ⟨_, rfl⟩
  rw [← E8] at hown hbsl
  replace E8 := Lib.hid E8
  generalize w' = w1 at *
  rw [rounds_succ]
  go_wp2
  go_ret
  exact ⟨_, rfl, by rw [HP.out, ← E1.out, ← E2.out, ← E3.out, ← E4.out, ← E5.out, ← E6.out, ← E7.out, ← E8.out]; exact hown, hbl⟩
end Go.Proofs.YtdjhempfpgcigaaDoor
