/-
  The contract of the bytes from nought on; two blocks held against each other.
-/
import Derived.Test.YtpieepaggfiajaaBufB
import Derived.Test.YtpieepaggfiajaaEqs
namespace Go.Proofs.Ytpieepaggfiajaa
open Go.RowKit

theorem count_get : ∀ k : Fin 16, (key16.getD k.val 0).toNat = k.val ∧ key16.take (k.val + 1) = key16.take k.val ++ [key16.getD k.val 0] := by decide
theorem count_wrap {k : Nat} (h : k < 16) : IntKind.u8.wrap (k : Int) = ((key16.getD k 0).toNat : Int) := by
  have h1 : (key16.getD k 0).toNat = k := (count_get ⟨k, h⟩).1
  rw [IntKind.wrap_u8, h1]
  omega
theorem le_alloc {B : Nat} {w : World} (h : B ≤ w.heap.size) (o : Obj) : B ≤ (w.alloc o).heap.size := by simp; omega
set_option maxRecDepth 100000 in
set_option maxHeartbeats 1000000 in
theorem count_any (w : World) :
    Calls Try.prog 15 #[.int .i64 16] w fun e w' => ∃ A' c', e = .returned (.slice A' 16 c') ∧ Buf w' w.heap.size A' 16 c' key16 ∧ Below w.heap.size w w' := by
  go_enter Try.func15, Try.ntmps15
  go_wp2
  go_loopw [3, 4] (fun v i wr => ∃ (k c' : Nat) (A' : Option Addr), k ≤ 16 ∧ i = .int .i64 k ∧ v = .slice A' k c' ∧ Buf wr w.heap.size A' k c' (key16.take k) ∧ Below w.heap.size w wr) (fun _ i _ => 16 - (intOf i).toNat)
  case atStart => exact ⟨0, 0, none, by omega, rfl, rfl, by simpa using Buf.nil _ _, Below.refl _ _⟩
  case round =>
    obtain ⟨k, c', A', hk16, rfl, rfl, hB', hb⟩ := hrel
    have hbs := hb.size
    by_cases hlt : k < 16
    · have hd1 : decide ((k : Int) < 16) = true := by simp; omega
      have HE1 := Lib.hid (count_get ⟨k, hlt⟩).2
      have hxx := count_wrap hlt
      have hk0 : (0 : Int) ≤ (k : Int) := by omega
      dsimp only at HE1
      generalize key16.take k = P at *
      generalize key16.getD k 0 = y at *
      go_wp2_with ((with_reducible refine (?_ : wpList _ _ _ (Oper.mk (some 14) _ _ _ _ _ :: _) _ _)); go_loud (refine wpList_append_buf rfl (.tmp 10) (.tmp 13) 24 rfl w.heap.size A' k c' P [y] _ rfl (hB'.alloc _) rfl (src_byte (new_cell _ _ _)) (by simp only [List.length_cons, List.length_nil]; omega) (le_alloc hbs _) ?_); intro A1 c1 w1 hB1 hg1; have hb1 := below_own (hb.alloc hbs _) (hB'.alloc _) hg1 (Nat.le_refl _) (le_alloc hbs _); clear hg1)
      go_roundw
      case rel => exact ⟨k + 1, c1, A1, by omega, by go_num, rfl, by rw [HE1.out]; exact hB1, hb1⟩
      case measure => simp [intOf]; omega
    · have hd1 : decide ((k : Int) < 16) = false := by simp; omega
      obtain rfl : k = 16 := by omega
      rw [show key16.take 16 = key16 by rfl] at hB'
      go_wp2
      go_ret
      exact ⟨A', c', rfl, hB', hb⟩

theorem map_u8 (a : List UInt8) : (a.map B8).toArray = ((a.map fun b => (b.toNat : Int)).map (Value.int .u8)).toArray := by rw [List.map_map]; rfl
theorem map_u8_inj (a b : List UInt8) : (a.map (fun b => (b.toNat : Int)) == b.map (fun b => (b.toNat : Int))) = (a == b) := by
  rw [Bool.eq_iff_iff, beq_iff_eq, beq_iff_eq]
  refine ⟨fun h => ?_, fun h => by rw [h]⟩
  exact (List.map_inj_right (fun x y (h : (x.toNat : Int) = y.toNat) => UInt8.toNat_inj.1 (Int.ofNat.inj h))).1 h
theorem equal_blocks (a b : List UInt8) (ha : a.length = 16) (hb : b.length = 16) (w : World) : (Op.equalIn 10000 23 (.agg (a.map B8).toArray) (.agg (b.map B8).toArray)).run Try.prog w = .ok (a == b) w := by
  rw [map_u8, map_u8, equal_ints Try.underlying23 Try.underlying5 rfl (by kernel_rfl) _ _ (by rw [List.length_map, ha]) (by rw [List.length_map, hb]) w, map_u8_inj]
end Go.Proofs.Ytpieepaggfiajaa
