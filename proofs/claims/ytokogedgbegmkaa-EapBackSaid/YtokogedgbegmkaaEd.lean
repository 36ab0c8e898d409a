/-
  The statements' own turns of a packet: to and from.
-/
import Derived.Test.YtokogedgbegmkaaEb
namespace Go.Proofs.Ytokogedgbegmkaa
open Go.RowKit

set_option maxRecDepth 100000 in
set_option maxHeartbeats 1000000 in
theorem to_e (c i t : Int) (s : List UInt8) (n : Nat) (w : World) (hn : s.length = n) (hm : n < 1000000) :
    Calls Try.prog 9 #[.agg #[.int .i64 c, .int .i64 i, .int .i64 t, .string ⟨s.toArray⟩]] w fun e w' => ∃ A' c', e = .returned (.agg #[.int .i64 c, .int .i64 i, .int .i64 t, .slice A' n c']) ∧ Buf w' w.heap.size A' n c' s ∧ Below w.heap.size w w' := by
  have HN := Lib.hid hn
  clear hn
  go_enter Try.func9, Try.ntmps9
  go_upto_region 1 with (fail)
  have hC := Blk.new2_of w (.cells #[.int .i64 c, .int .i64 i, .int .i64 t, .string ⟨s.toArray⟩] 23) 29 #[.int .i64 0, .int .i64 0, .int .i64 0, .slice none 0 0] _ rfl
  have hbw : Below w.heap.size w ((w.alloc (.cells #[.int .i64 c, .int .i64 i, .int .i64 t, .string ⟨s.toArray⟩] 23)).alloc (.cells #[.int .i64 0, .int .i64 0, .int .i64 0, .slice none 0 0] 29)) := ((Below.refl _ _).alloc (Nat.le_refl _) _).alloc (by simp) _
  have hP := (Blk.new_of w 23 #[.int .i64 c, .int .i64 i, .int .i64 t, .string ⟨s.toArray⟩] _ rfl).alloc (.cells #[.int .i64 0, .int .i64 0, .int .i64 0, .slice none 0 0] 29)
  have hz2 : ((w.alloc (.cells #[.int .i64 c, .int .i64 i, .int .i64 t, .string ⟨s.toArray⟩] 23)).alloc (.cells #[.int .i64 0, .int .i64 0, .int .i64 0, .slice none 0 0] 29)).heap.size = w.heap.size + 2 := by simp
  generalize (w.alloc (.cells #[.int .i64 c, .int .i64 i, .int .i64 t, .string ⟨s.toArray⟩] 23)).alloc (.cells #[.int .i64 0, .int .i64 0, .int .i64 0, .slice none 0 0] 29) = w2 at *
  have c0 : w2.cell? ⟨w.heap.size, 0, none⟩ = some (.int .i64 c) := hP.cell 0
  have c1 : w2.cell? ⟨w.heap.size, 1, none⟩ = some (.int .i64 i) := hP.cell 1
  have c2 : w2.cell? ⟨w.heap.size, 2, none⟩ = some (.int .i64 t) := hP.cell 2
  have c3 : w2.cell? ⟨w.heap.size, 3, none⟩ = some (.string ⟨s.toArray⟩) := hP.cell 3
  have hz := hbw.size
  have HZ2 := Lib.hid hz2
  clear hP hz2
  go_wp2_with (first
    | ((with_reducible refine (?_ : wpList _ _ _ (Oper.mk (some 11) _ _ _ _ _ :: _) _ _)); go_loud (refine wpList_bytes_of rfl (.tmp 10) rfl s rfl (by rw [HN.out]; omega) ?_); intro c5 w5 hB5 hb5; rw [HN.out] at hB5 ⊢; have hC5 := hC.below hb5 hC.lt; have hz5 := hb5.size; clear hC)
    | ((with_reducible refine (?_ : wpList _ _ _ (Oper.mk none _ _ _ _ _ :: _) _ _)); go_loud (refine wpList_store_blk rfl 29 (.tmp 2) (.tmp 12) rfl rfl (w.heap.size + 1) [.int .i64 c, .int .i64 i, .int .i64 t, .slice (some ⟨w2.heap.size, 0, none⟩) n c5] rfl rfl _ _ hC5 (by kernel_rfl) rfl (by simp [Value.oneCell']) ?_); intro w6 hC6 hg6))
  have d0 : w6.cell? ⟨w.heap.size + 1, 0, none⟩ = some (.int .i64 c) := hC6.cell 0
  have d1 : w6.cell? ⟨w.heap.size + 1, 1, none⟩ = some (.int .i64 i) := hC6.cell 1
  have d2 : w6.cell? ⟨w.heap.size + 1, 2, none⟩ = some (.int .i64 t) := hC6.cell 2
  have d3 : w6.cell? ⟨w.heap.size + 1, 3, none⟩ = some (.slice (some ⟨w2.heap.size, 0, none⟩) n c5) := hC6.cell 3
  refine bodyPost_ret (v := .agg #[.int .i64 c, .int .i64 i, .int .i64 t, .slice (some ⟨w2.heap.size, 0, none⟩) n c5]) (by simp [results, Try.results9, go_sem, d0, d1, d2, d3]) rfl ⟨_, _, rfl, ?_, ?_⟩
  · exact (hB5.base hz).kept hg6 (fun g e h => by have h2 := HZ2.out; injection e with e; injection e with e; injection h with h; omega)
  · exact below_new (hbw.trans (hb5.mono hz)) hg6 (Nat.le_succ _) (Nat.le_trans hz hz5)
set_option maxRecDepth 100000 in
set_option maxHeartbeats 1000000 in
theorem from_e (c i t : Int) (A : Option Addr) (n cp : Nat) (s : List UInt8) (w : World) (hn : s.length = n) (iB : In w w.heap.size A cp s) :
    Calls Try.prog 12 #[.agg #[.int .i64 c, .int .i64 i, .int .i64 t, .slice A n cp]] w fun e w' => e = .returned (.agg #[.int .i64 c, .int .i64 i, .int .i64 t, .string ⟨s.toArray⟩]) ∧ Below w.heap.size w w' := by
  have HN := Lib.hid hn
  have IB := Lib.hid iB
  clear hn iB
  go_enter Try.func12, Try.ntmps12
  go_upto_region 1 with (fail)
  have hC := Blk.new2_of w (.cells #[.int .i64 c, .int .i64 i, .int .i64 t, .slice A n cp] 29) 23 #[.int .i64 0, .int .i64 0, .int .i64 0, .string ⟨#[]⟩] _ rfl
  have hbw : Below w.heap.size w ((w.alloc (.cells #[.int .i64 c, .int .i64 i, .int .i64 t, .slice A n cp] 29)).alloc (.cells #[.int .i64 0, .int .i64 0, .int .i64 0, .string ⟨#[]⟩] 23)) := ((Below.refl _ _).alloc (Nat.le_refl _) _).alloc (by simp) _
  have hP := (Blk.new_of w 29 #[.int .i64 c, .int .i64 i, .int .i64 t, .slice A n cp] _ rfl).alloc (.cells #[.int .i64 0, .int .i64 0, .int .i64 0, .string ⟨#[]⟩] 23)
  generalize (w.alloc (.cells #[.int .i64 c, .int .i64 i, .int .i64 t, .slice A n cp] 29)).alloc (.cells #[.int .i64 0, .int .i64 0, .int .i64 0, .string ⟨#[]⟩] 23) = w2 at *
  have c0 : w2.cell? ⟨w.heap.size, 0, none⟩ = some (.int .i64 c) := hP.cell 0
  have c1 : w2.cell? ⟨w.heap.size, 1, none⟩ = some (.int .i64 i) := hP.cell 1
  have c2 : w2.cell? ⟨w.heap.size, 2, none⟩ = some (.int .i64 t) := hP.cell 2
  have c3 : w2.cell? ⟨w.heap.size, 3, none⟩ = some (.slice A n cp) := hP.cell 3
  have hz := hbw.size
  have hcx := conv_in HN.out (in_up IB.out hbw)
  clear hP
  go_wp2_with ((with_reducible refine (?_ : wpList _ _ _ (Oper.mk none _ _ _ _ _ :: _) _ _)); go_loud (refine wpList_store_blk rfl 23 (.tmp 2) (.tmp 12) rfl rfl (w.heap.size + 1) [.int .i64 c, .int .i64 i, .int .i64 t, .string ⟨s.toArray⟩] rfl rfl _ _ hC (by kernel_rfl) rfl (by simp [Value.oneCell']) ?_); intro w6 hC6 hg6)
  have d0 : w6.cell? ⟨w.heap.size + 1, 0, none⟩ = some (.int .i64 c) := hC6.cell 0
  have d1 : w6.cell? ⟨w.heap.size + 1, 1, none⟩ = some (.int .i64 i) := hC6.cell 1
  have d2 : w6.cell? ⟨w.heap.size + 1, 2, none⟩ = some (.int .i64 t) := hC6.cell 2
  have d3 : w6.cell? ⟨w.heap.size + 1, 3, none⟩ = some (.string ⟨s.toArray⟩) := hC6.cell 3
  refine bodyPost_ret (v := .agg #[.int .i64 c, .int .i64 i, .int .i64 t, .string ⟨s.toArray⟩]) (by simp [results, Try.results12, go_sem, d0, d1, d2, d3]) rfl ⟨rfl, ?_⟩
  exact below_new hbw hg6 (Nat.le_succ _) hz
end Go.Proofs.Ytokogedgbegmkaa
