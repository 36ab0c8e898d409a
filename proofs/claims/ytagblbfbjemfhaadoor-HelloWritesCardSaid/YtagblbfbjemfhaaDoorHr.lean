/-
  Package hello's cursor: pass, number.
-/
import Derived.Test.YtagblbfbjemfhaaDoorHq
namespace Go.Proofs.YtagblbfbjemfhaaDoor
open Go.RowKit
open HelloMath (numB numB_length vecB vecB_length Msg getN getN_snoc pad32 cnt)

theorem or_i64b (a b : Nat) (ha : a < 4611686018427387904) (hb : b < 256) : bits .or .i64 ((a * 256 : Nat) : Int) (b : Int) = ((a * 256 + b : Nat) : Int) ∨ 18014398509481984 ≤ a := by
  by_cases h : 18014398509481984 ≤ a
  · exact .inr h
  · left
    have e : a * 256 + b = a * 256 ||| b := by
      have := Nat.two_pow_add_eq_or_of_lt (i := 8) hb a
      rwa [show 2 ^ 8 * a = a * 256 by omega] at this
    have h1 : (BitVec.ofInt 64 ((a * 256 : Nat) : Int)).toNat = a * 256 := by rw [BitVec.ofInt_natCast, BitVec.toNat_ofNat]; exact Nat.mod_eq_of_lt (by omega)
    have h2 : (BitVec.ofInt 64 (b : Int)).toNat = b := by rw [BitVec.ofInt_natCast, BitVec.toNat_ofNat]; exact Nat.mod_eq_of_lt (by omega)
    show IntKind.i64.wrap ((BitVec.ofInt 64 ((a * 256 : Nat) : Int) ||| BitVec.ofInt 64 (b : Int)).toNat : Int) = _
    rw [BitVec.toNat_or, h1, h2, ← e, IntKind.wrap_i64]
    omega
theorem byte_wrap (b : UInt8) : wrap64 (b.toNat : Int) = (b.toNat : Int) := by
  have := b.toNat_lt
  unfold wrap64; omega
theorem getN_lt : ∀ (n : Nat) (x : List UInt8), x.length = n → getN x < 256 ^ n
  | 0, x, h => by obtain rfl := List.eq_nil_of_length_eq_zero h; decide
  | n + 1, x, h => by
    have hx : x = x.take n ++ [x.getD n 0] := by
      have e := List.take_succ_eq_append_getElem (l := x) (i := n) (by omega)
      rw [List.take_of_length_le (by omega)] at e
      rw [List.getD_eq_getElem?_getD, List.getElem?_eq_getElem (by omega)]
      exact e
    rw [hx, getN_snoc]
    have := getN_lt n (x.take n) (by rw [List.length_take]; omega)
    have h2 := (x.getD n 0).toNat_lt
    rw [Nat.pow_succ]
    omega
theorem getN_take {x : List UInt8} {j : Nat} (h : j < x.length) : getN (x.take (j + 1)) = getN (x.take j) * 256 + (x.getD j 0).toNat := by
  rw [List.take_succ_eq_append_getElem h, getN_snoc, List.getD_eq_getElem?_getD, List.getElem?_eq_getElem h]
  rfl
theorem getN_le4 {x : List UInt8} (h : x.length ≤ 4) : getN x < 4294967296 := by
  have := getN_lt x.length x rfl
  have h2 : 256 ^ x.length ≤ 256 ^ 4 := Nat.pow_le_pow_right (by decide) h
  omega
theorem num_step (a b : Nat) (ha : a < 4294967296) (hb : b < 256) : bits .or .i64 ((a : Int) * 256) (b : Int) = ((a * 256 + b : Nat) : Int) ∧ wrap64 ((a : Int) * 256) = (a : Int) * 256 := by
  have h := (or_i64b a b (by omega) hb).resolve_right (by omega)
  refine ⟨by rw [show (a : Int) * 256 = ((a * 256 : Nat) : Int) by omega]; exact h, by unfold wrap64; omega⟩
set_option maxRecDepth 100000 in
set_option maxHeartbeats 1000000 in
theorem number_c (B g : Nat) (r : List UInt8) (k : Nat) (w : World) (hC : CAt w B g r) (hk : Hid (k ≤ 4)) :
    Calls Tryd.prog 42 #[.pointer (some ⟨g, 0, none⟩), .int .i64 (k : Int)] w fun e w' => e = .returned (.int .i64 ((getN (r.take k) : Nat) : Int)) ∧ CAt w' B g (r.drop k) ∧ w.grownBy w' (some g) := by
  have HC := Lib.hid hC
  obtain ⟨x, hx⟩ : ∃ x, r.take k = x := ⟨_, rfl⟩
  have HX4 := Lib.hid (show x.length ≤ 4 by rw [← hx, List.length_take]; have := hk.out; omega)
  rw [hx]
  obtain ⟨l, hl⟩ : ∃ l, x.length = l := ⟨_, rfl⟩
  have HL := Lib.hid hl
  have HX := Lib.hid hx
  clear hC hl hx
  go_enter Tryd.func42, Tryd.ntmps42
  go_upto_region 3 with (go_at_call 65; refine (take_e B g r k _ _ HC.out (Lib.hid rfl)).mono ?_; rintro e w1 ⟨v, rfl, hv, hC1, hg⟩; obtain ⟨A, c, rfl, hi⟩ := hv; rw [HX.out] at hi ⊢; rw [HL.out])
  have HI := Lib.hid hi
  have HC1 := Lib.hid hC1
  have HG := Lib.hid hg
  clear hi hC1 hg
  go_loopw [12, 5] (fun i n wl => w1 = wl ∧ ∃ j : Nat, i = .int .i64 (j : Int) ∧ j ≤ l ∧ n = .int .i64 ((getN (x.take j) : Nat) : Int)) (fun i _ _ => l - (intOf i).toNat)
  case atStart => exact ⟨rfl, 0, rfl, Nat.zero_le _, rfl⟩
  case round =>
    obtain ⟨hww, j, rfl, hj, rfl⟩ := hrel
    subst hww
    by_cases hlt : j < l
    · have hjx : j < x.length := by rw [HL.out]; exact hlt
      obtain ⟨gb, ob, rfl, hgb, hby⟩ := HI.out.2.2 (by omega)
      have hc := hby j hjx
      obtain ⟨b, hb⟩ : ∃ b, x.getD j 0 = b := ⟨_, rfl⟩
      rw [hb] at hc
      obtain ⟨N, hN⟩ : ∃ N, getN (x.take j) = N := ⟨_, rfl⟩
      have hN4 : N < 4294967296 := by rw [← hN]; exact getN_le4 (by rw [List.length_take]; have := HX4.out; omega)
      obtain ⟨hor, hsh⟩ := num_step N b.toNat hN4 b.toNat_lt
      have hnx := Lib.hid (show getN (x.take (j + 1)) = N * 256 + b.toNat by rw [getN_take hjx, hN, hb])
      obtain ⟨_, hw2, hlt', _, hj0, hjn⟩ := cat_ix j 0 0 l hlt (by rw [← HL.out]; have := HX4.out; omega) (by decide)
      have hwb := byte_wrap b
      rw [hN]
      have HLT := Lib.hid hlt
      clear hlt hj hjx hby hgb hb hN hN4
      go_wp2
      go_roundw
      case rel => exact ⟨trivial, j + 1, by first | rfl | rw [hw2], HLT.out, by rw [hnx.out]; simp⟩
      case measure => first | exact loop_less2 HLT.out | exact loop_less HLT.out (Nat.le_trans (Nat.le_of_eq HL.out.symm) (Nat.le_trans HX4.out (by decide)))
    · obtain rfl : j = l := by omega
      have hlt' : ¬ (j : Int) < (j : Int) := by omega
      have hjl := Lib.hid (show x.take j = x by rw [← HL.out, List.take_length])
      clear hlt hj
      go_wp2
      go_ret
      exact ⟨by rw [hjl.out]; rfl, HC1.out, HG.out⟩

end Go.Proofs.YtagblbfbjemfhaaDoor
