/-
  The contract of a key filled up to a block and put together with a byte.
-/
import Derived.Test.YtkiogpnjkmdmgaaDoorKeep
import Derived.Test.YtkiogpnjkmdmgaaDoorPads
namespace Go.Proofs.YtkiogpnjkmdmgaaDoor
open Go.RowKit

theorem map_take_snoc1 (c : UInt8) (pk : List UInt8) (k : Nat) (hk : k < pk.length) : (pk.take (k + 1)).map (· ^^^ c) = (pk.take k).map (· ^^^ c) ++ [pk.getD k 0 ^^^ c] := by
  rw [List.take_succ_eq_append_getElem hk, List.map_append]
  simp [List.getD_eq_getElem?_getD, List.getElem?_eq_getElem hk]

set_option maxRecDepth 100000 in
set_option maxHeartbeats 1000000 in
theorem func1_any (A : Option Addr) (c B : Nat) (key pk : List UInt8) (x : UInt8) (w : World) (hB : B ≤ w.heap.size) (ik : In w B A c key) (hk : key.length ≤ 64) (hp : key ++ List.replicate (64 - key.length) 0 = pk) :
    Calls Tryd.prog 20 #[.slice A key.length c, .int .u8 x.toNat] w fun e w' => ∃ A' c', e = .returned (.slice A' 64 c') ∧ Buf w' w.heap.size A' 64 c' (pk.map (· ^^^ x)) ∧ Below w.heap.size w w' := by
  have hpl : pk.length = 64 := by rw [← hp]; simp; omega
  have hget : ∀ i, i < key.length → pk.getD i 0 = key.getD i 0 := fun i hi => by
    rw [← hp, List.getD_eq_getElem?_getD, List.getElem?_append_left hi, ← List.getD_eq_getElem?_getD]
  have hget0 : ∀ i, ¬ i < key.length → i < 64 → pk.getD i 0 = 0 := fun i hi h64 => by
    rw [← hp, List.getD_eq_getElem?_getD, List.getElem?_append_right (by omega), List.getElem?_replicate]
    split <;> rfl
  have HG := Lib.hid hget
  have HG0 := Lib.hid hget0
  have HPL := Lib.hid hpl
  clear hget hget0 hpl hp
  go_enter Tryd.func20, Tryd.ntmps20
  go_wp2
  go_loopw [5, 6] (fun v i wr => ∃ (k c' : Nat) (A' : Option Addr), k ≤ 64 ∧ i = .int .i64 k ∧ v = .slice A' k c' ∧ Buf wr w.heap.size A' k c' ((pk.take k).map (· ^^^ x)) ∧ Below w.heap.size w wr) (fun _ i _ => 64 - (intOf i).toNat)
  case atStart => exact ⟨0, 0, none, by omega, rfl, rfl, by simpa using Buf.nil _ _, Below.refl _ _⟩
  case round =>
    obtain ⟨k, c', A', hk64, rfl, rfl, hB', hb⟩ := hrel
    have hbs := hb.size
    by_cases hlt : k < 64
    · have hd1 : decide ((k : Int) < 64) = true := by simp; omega
      have HE1 := Lib.hid (map_take_snoc1 x pk k (by rw [HPL.out]; exact hlt))
      have hk0 : (0 : Int) ≤ (k : Int) := by omega
      obtain ⟨P, hP⟩ : ∃ P, P = (pk.take k).map (· ^^^ x) := ⟨_, rfl⟩
      rw [← hP] at hB' HE1
      clear hP
      obtain ⟨y, hy⟩ : ∃ y, y = pk.getD k 0 ^^^ x := ⟨_, rfl⟩
      rw [← hy] at HE1
      by_cases hik : k < key.length
      · have hd2 : decide ((k : Int) < (key.length : Int)) = true := by simp; omega
        have hik2 : (k : Int) < (key.length : Int) := by omega
        obtain ⟨gb, ob, rfl, hgb, hby⟩ := ik.2.2 (by omega)
        have hc0 := (hb.cell (p := ⟨gb, ob + k, none⟩) (by show gb < _; omega)).trans (hby k hik)
        rw [HG.out k hik] at hy
        have hxx : bits .xor .u8 (x.toNat : Int) ((key.getD k 0).toNat : Int) = (y.toNat : Int) := by rw [b_xor, hy, UInt8.xor_comm]
        generalize key.getD k 0 = q at *
        clear hy hby
        go_wp2_with ((with_reducible refine (?_ : wpList _ _ _ (Oper.mk (some 26) _ _ _ _ _ :: _) _ _)); go_loud (refine wpList_append_buf rfl (.tmp 23) (.tmp 25) 27 rfl w.heap.size A' k c' P [y] _ rfl (hB'.alloc _) rfl (src_byte (new_cell _ _ _)) (by simp only [List.length_cons, List.length_nil]; omega) (le_alloc hbs _) ?_); intro A1 c1 w1 hB1 hg1; have hb1 := below_own (hb.alloc hbs _) (hB'.alloc _) hg1 (Nat.le_refl _) (le_alloc hbs _); clear hg1)
        go_roundw
        case rel => exact ⟨k + 1, c1, A1, by omega, by go_num, rfl, by rw [HE1.out]; exact hB1, hb1⟩
        case measure => simp [intOf]; omega
      · have hd2 : decide ((k : Int) < (key.length : Int)) = false := by simp; omega
        have hx0 : y = x := by rw [hy, HG0.out k hik hlt]; simp
        clear hy
        subst hx0
        go_wp2_with ((with_reducible refine (?_ : wpList _ _ _ (Oper.mk (some 26) _ _ _ _ _ :: _) _ _)); go_loud (refine wpList_append_buf rfl (.tmp 23) (.tmp 25) 27 rfl w.heap.size A' k c' P [y] _ rfl (hB'.alloc _) rfl (src_byte (new_cell _ _ _)) (by simp only [List.length_cons, List.length_nil]; omega) (le_alloc hbs _) ?_); intro A1 c1 w1 hB1 hg1; have hb1 := below_own (hb.alloc hbs _) (hB'.alloc _) hg1 (Nat.le_refl _) (le_alloc hbs _); clear hg1)
        go_roundw
        case rel => exact ⟨k + 1, c1, A1, by omega, by go_num, rfl, by rw [HE1.out]; exact hB1, hb1⟩
        case measure => simp [intOf]; omega
    · have hd1 : decide ((k : Int) < 64) = false := by simp; omega
      obtain rfl : k = 64 := by omega
      rw [List.take_of_length_le (by rw [HPL.out]; omega)] at hB'
      go_wp2
      go_ret
      exact ⟨A', c', rfl, hB', hb⟩
end Go.Proofs.YtkiogpnjkmdmgaaDoor
