/-
  The contracts of package block's states: four rows of four bytes.
-/
import Derived.Test.YtefbjhdcmgonbaaBf
import Derived.Test.YtefbjhdcmgonbaaMem
namespace Go.Proofs.Ytefbjhdcmgonbaa
open Go.RowKit

/-- One place more of a row that is being made. -/
theorem set_to {α : Type} (X L : List α) (k : Nat) (d : α) (hX : k < X.length) (hL : k < L.length) : (X.take k ++ L.drop k).set k (X.getD k d) = X.take (k + 1) ++ L.drop (k + 1) := by
  have h1 : (X.take k).length = k := by rw [List.length_take]; omega
  rw [List.set_append_right _ _ (by omega), h1, Nat.sub_self, List.drop_eq_getElem_cons hL, List.set_cons_zero]
  have e : List.take (k + 1) X = List.take k X ++ [X.getD k d] := by
    rw [List.take_succ_eq_append_getElem hX]; simp [List.getD_eq_getElem?_getD, List.getElem?_eq_getElem hX]
  rw [e]; simp
theorem get_to {α : Type} (X L : List α) (k : Nat) (d : α) (hX : k ≤ X.length) : (X.take k ++ L.drop k).getD k d = L.getD k d := by
  have h1 : (X.take k).length = k := by rw [List.length_take]; omega
  rw [List.getD_eq_getElem?_getD, List.getElem?_append_right (by omega), h1, Nat.sub_self, List.getElem?_drop, Nat.add_zero, ← List.getD_eq_getElem?_getD]
theorem len_to {α : Type} (X L : List α) (k : Nat) (hX : k ≤ X.length) (hl : X.length = L.length) : (X.take k ++ L.drop k).length = L.length := by
  simp; omega

theorem index_words (n : Nat) (t : TypeId) (L : List UInt32) (hL : L.length = n) (ht : Try.prog.underlying t = some (.array n 71)) (k : Nat) (hk : k < n) (W : World) :
    (Instr.index t (.agg (L.map U32).toArray) (.int .i64 (k : Int))).run Try.prog W = .ok (.int .u32 (L.getD k 0).toNat) W := by
  simp [Instr.index, asIntOf, run_underlying ht, part, isAgg, run_underlying Try.underlying71, List.getD_eq_getElem?_getD, List.getElem?_eq_getElem (show k < L.length by omega)]
  intro h
  omega
theorem index_bytes (n : Nat) (t : TypeId) (L : List UInt8) (hL : L.length = n) (ht : Try.prog.underlying t = some (.array n 5)) (k : Nat) (hk : k < n) (W : World) :
    (Instr.index t (.agg (L.map B8).toArray) (.int .i64 (k : Int))).run Try.prog W = .ok (.int .u8 (L.getD k 0).toNat) W := by
  simp [Instr.index, asIntOf, run_underlying ht, part, isAgg, run_underlying Try.underlying5, List.getD_eq_getElem?_getD, List.getElem?_eq_getElem (show k < L.length by omega)]
  intro h
  omega
theorem infoSt : (Try.prog.info? 73).map (·.size) = some 4 := by kernel_rfl
theorem infoBk : (Try.prog.info? 42).map (·.size) = some 16 := by kernel_rfl
theorem Blk.new3_of (w : World) (A B : Obj) (t : TypeId) (arr : Array Value) (cs : List Value) (h : arr = cs.toArray) : Blk (((w.alloc A).alloc B).alloc (.cells arr t)) (w.heap.size + 1 + 1) t cs := by
  have := Blk.new_of ((w.alloc A).alloc B) t arr cs h
  simpa using this
abbrev SV (s : List UInt32) : Value := .agg (s.map U32).toArray
abbrev BV (b : List UInt8) : Value := .agg (b.map B8).toArray
def zero4 : List UInt32 := [0, 0, 0, 0]

/-- Two states put together. -/
def plusS (s t : List UInt32) : List UInt32 := List.zipWith (· ^^^ ·) s t
theorem plusS_length {s t : List UInt32} (hs : s.length = 4) (ht : t.length = 4) : (plusS s t).length = 4 := by simp [plusS, hs, ht]
theorem plusS_get {s t : List UInt32} (hs : s.length = 4) (ht : t.length = 4) (k : Nat) (hk : k < 4) : (plusS s t).getD k 0 = s.getD k 0 ^^^ t.getD k 0 := by
  simp [plusS, List.getD_eq_getElem?_getD, List.getElem?_eq_getElem (show k < s.length by omega), List.getElem?_eq_getElem (show k < t.length by omega), List.getElem?_eq_getElem (show k < (List.zipWith (· ^^^ ·) s t).length by simp; omega)]
set_option maxRecDepth 100000 in
set_option maxHeartbeats 1000000 in
theorem plus_any (s t : List UInt32) (hs : s.length = 4) (ht : t.length = 4) (w : World) :
    Calls Try.prog 38 #[SV s, SV t] w fun e w' => e = .returned (SV (plusS s t)) ∧ Below w.heap.size w w' := by
  have HS := Lib.hid hs
  have HT := Lib.hid ht
  have hpl := plusS_length hs ht
  have hpg := plusS_get hs ht
  obtain ⟨X, hX⟩ : ∃ X, X = plusS s t := ⟨_, rfl⟩
  rw [← hX] at hpl hpg ⊢
  have HPL := Lib.hid hpl
  have HPG := Lib.hid hpg
  clear hs ht hpl hpg hX
  have hz : ∀ W : World, (zeroValue 73).run Try.prog W = .ok (SV zero4) W := fun W => by kernel_rfl
  go_enter Try.func38, Try.ntmps38
  go_wp2_with (refine wpList_load_blk rfl 73 (.tmp 3) rfl (w.heap.size + 1) rfl 73 _ _ ((Blk.new2_of w _ 73 _ (t.map U32) (by rfl)).alloc _) Try.underlying73 rfl (infoSt.trans (by rw [List.length_map, HT.out])) ?_)
  go_loopw [8] (fun i wr => ∃ k : Nat, k ≤ 4 ∧ i = .int .i64 (k : Int) ∧ Blk wr w.heap.size 73 ((X.take k ++ s.drop k).map U32) ∧ Blk wr (w.heap.size + 1 + 1) 73 (zero4.map U32) ∧ Below w.heap.size w wr) (fun i _ => 4 - (intOf i).toNat)
  case atStart => exact ⟨0, by omega, rfl, ((Blk.new_of w 73 _ (s.map U32) (by rfl)).alloc _).alloc _, Blk.new3_of w _ _ _ _ _ (by rfl), (((Below.refl _ _).alloc (Nat.le_refl _) _).alloc (by simp) _).alloc (by simp; omega) _⟩
  case round =>
    obtain ⟨k, hk, rfl, hB, hZ, hbl⟩ := hrel
    by_cases hlt : k < 4
    · have hd : decide ((k : Int) < 4) = true := by simp; omega
      have hix := index_words 4 73 t HT.out Try.underlying73 k hlt
      have hlen := len_to X s k (by rw [HPL.out]; omega) (by rw [HPL.out, HS.out])
      have hc := hB.at32 k (by rw [hlen, HS.out]; omega)
      rw [get_to X s k 0 (by rw [HPL.out]; omega)] at hc
      have hf := hB.frozen k
      have hx : bits .xor .u32 ((s.getD k 0).toNat : Int) ((t.getD k 0).toNat : Int) = ((X.getD k 0).toNat : Int) := by rw [w_xor, HPG.out k hlt]
      have hst := set_to X s k 0 (by rw [HPL.out]; omega) (by rw [HS.out]; omega)
      generalize s.getD k 0 = x1 at *
      generalize t.getD k 0 = x2 at *
      generalize X.getD k 0 = x3 at *
      have HST := Lib.hid hst
      clear hst hlen
      generalize X.take k ++ s.drop k = L at *
      go_wp2
      go_roundw
      case rel =>
        refine ⟨k + 1, by omega, by go_num, ?_, hZ.far (show w.heap.size + 1 + 1 ≠ w.heap.size by omega) _, hbl.setCell (by simp) _⟩
        rw [← HST.out, ← map_set32]
        exact hB.set_ k _
      case measure => simp [intOf]; omega
    · have hd : decide ((k : Int) < 4) = false := by simp; omega
      obtain rfl : k = 4 := by omega
      rw [List.take_of_length_le (by rw [HPL.out]; omega), List.drop_eq_nil_of_le (by rw [HS.out]; omega), List.append_nil] at hB
      go_wp2_with (first
        | (refine wpList_load_blk rfl 73 (.tmp 2) rfl w.heap.size rfl 73 _ _ hB Try.underlying73 rfl (infoSt.trans (by rw [List.length_map, HPL.out])) ?_)
        | (refine wpList_store_blk rfl 73 (.tmp 4) (.tmp 19) rfl rfl (w.heap.size + 1 + 1) _ rfl rfl 73 _ hZ (infoSt.trans (by rw [List.length_map, HPL.out])) (by rw [List.length_map, List.length_map, HPL.out]; rfl) (one32 _) ?_; intro w2 hA2 hg2))
      refine bodyPost_ret (v := .agg _) (results_cell_row rfl _ _ (w.heap.size + 1 + 1) 73 _ (0, 0) _ rfl hA2.raw Try.underlying73 rfl (infoSt.trans (by rw [List.size_toArray, List.length_map, HPL.out]))) rfl ⟨rfl, below_new hbl hg2 (by omega) hbl.size⟩
end Go.Proofs.Ytefbjhdcmgonbaa
