/-
 Rd1.
-/
import Derived.Test.YtnjpcbbdhimacaaDoorRc4
import Derived.Test.YtnjpcbbdhimacaaDoorJd
namespace Go.Proofs.YtnjpcbbdhimacaaDoor
open Go.RowKit
theorem rkind_e (k : Int) (w : World) : Calls Tryd.prog 39 #[.int .i64 k] w fun e w' => e = .returned (.bool (kindB k)) ∧ w' = w := by
 have HK := Lib.hid (show kindB k = (decide (21 ≤ k) && decide (k ≤ 23)) by
  unfold kindB
  rw [Bool.eq_iff_iff]
  simp
  omega)
 go_enter Tryd.func39, Tryd.ntmps39
 by_cases h1 : 21 ≤ k
 ·
  go_wp2
  go_ret
  exact ⟨by rw [HK.out]; simp [h1], rfl⟩
 ·
  go_wp2
  go_ret
  exact ⟨by rw [HK.out, decide_eq_false (show ¬ 21 ≤ k by omega)]; rfl, rfl⟩
set_option maxRecDepth 100000 in
set_option maxHeartbeats 1000000 in
theorem rhead_e (k n : Nat) (_hk : k < 1000) (_hn : n < 65536) (w : World) : Calls Tryd.prog 18 #[.int .i64 (k : Int), .int .i64 (n : Int)] w fun e w' => e = .returned (.string ⟨(headE k n).toArray⟩) ∧ Below w.heap.size w w' := by
 have c1 := wrap_ofNat k
 have c2 := wrap_ofNat n
 have c3 : IntKind.u8.wrap ((n : Int) / 256) = ((UInt8.ofNat (n / 256)).toNat : Int) := by rw [← wrap_ofNat]; rfl
 generalize hx : UInt8.ofNat k = x at *
 generalize hy : UInt8.ofNat n = y at *
 generalize hz : UInt8.ofNat (n / 256) = z at *
 have HE := Lib.hid (show headE k n = [x, 3, 3, z, y] by unfold headE; rw [hx, hy, hz])
 clear hx hy hz
 have hsr := (buf_lit w [x, 3, 3, z, y] 5 5 rfl (by decide)).src (g := w.heap.size + 1) (fun k e => by cases e; omega)
 go_enter Tryd.func18, Tryd.ntmps18
 go_wp2_with ((with_reducible refine (?_ : wpList _ _ _ (Oper.mk (some 13) _ _ _ _ _ :: _) _ _)); go_loud (refine wpList_string_of rfl (.tmp 12) rfl [x, 3, 3, z, y] _ 5 _ rfl hsr ?_))
 go_ret
 exact ⟨by rw [HE.out]; rfl, (Below.refl _ _).alloc (Nat.le_refl _) _⟩
theorem str_at (b : List UInt8) (k : Nat) (h : k < b.length) : (⟨b.toArray⟩ : ByteArray)[k]? = some (b.getD k 0) := by
 rw [getElem?_pos (⟨b.toArray⟩ : ByteArray) k h, List.getD_eq_getElem?_getD, List.getElem?_eq_getElem h]
 rfl
theorem str_get (P : List UInt8) (i : Nat) (h : i < P.length) : (⟨P.toArray⟩ : ByteArray)[i]'(show i < P.length from h) = P.getD i 0 := by
 rw [List.getD_eq_getElem?_getD, List.getElem?_eq_getElem h]; rfl
theorem begins_3 (b : List UInt8) : beginsE b = ((decide (b.length < 1) || kindB ((b.getD 0 0).toNat : Int)) && (decide (b.length < 2) || b.getD 1 0 == 3) && (decide (b.length < 3) || b.getD 2 0 == 3)) := by
 unfold beginsE
 rcases Nat.lt_or_ge b.length 1 with h | h
 ·
  rw [show min b.length 3 = 0 by omega]
  simp [begTo, h, show b.length < 2 by omega, show b.length < 3 by omega]
 ·
  rcases Nat.lt_or_ge b.length 2 with h2 | h2
  ·
   rw [show min b.length 3 = 1 by omega]
   simp [begTo, show ¬ b.length < 1 by omega, h2, show b.length < 3 by omega]
  ·
   rcases Nat.lt_or_ge b.length 3 with h3 | h3
   ·
    rw [show min b.length 3 = 2 by omega]
    simp [begTo, show ¬ b.length < 1 by omega, show ¬ b.length < 2 by omega, h3]
   ·
    rw [show min b.length 3 = 3 by omega]
    simp [begTo, show ¬ b.length < 1 by omega, show ¬ b.length < 2 by omega, show ¬ b.length < 3 by omega]
theorem ix_sum (x y : UInt8) (q : Nat) (h : q = x.toNat * 256 + y.toNat) : wrap64 ((x.toNat : Int) * 256 + (y.toNat : Int)) = (q : Int) ∧ (x.toNat : Int) * 256 + (y.toNat : Int) = (q : Int) := by
 have hx := x.toNat_lt
 have hy := y.toNat_lt
 generalize x.toNat = a at *
 generalize y.toNat = c at *
 subst h
 unfold wrap64; omega
theorem ix_wrap (q : Nat) (h : q < 100000) : wrap64 (q : Int) = (q : Int) ∧ IntKind.i64.wrap (q : Int) = (q : Int) := by
 rw [IntKind.wrap_i64]; unfold wrap64; omega
theorem ix_cut (p q n : Nat) (hp : p = 5 + q) (h : ¬ n - 5 < q) (h5 : ¬ n < 5) (hq : q < 65536) : (5 : Int) + (q : Int) = (p : Int) ∧ (p : Int) ≤ (n : Int) ∧ (0 : Int) ≤ (p : Int) ∧ p < 100000 := by omega
theorem ix_big (q : Nat) (h : ¬ 16640 < q) : ¬ (16640 : Int) < (q : Int) := by omega
theorem ix_big' (q : Nat) (h : 16640 < q) : (16640 : Int) < (q : Int) := by omega
theorem ix_sh (n q : Nat) (h : ¬ n - 5 < q) (h5 : ¬ n < 5) : ¬ (n : Int) - 5 < (q : Int) := by omega
theorem ix_sh' (n q : Nat) (h : n - 5 < q) (h5 : ¬ n < 5) : (n : Int) - 5 < (q : Int) := by omega
theorem ix_qtwo (x y : UInt8) (q : Nat) (h : q = x.toNat * 256 + y.toNat) : q < 100000 := by rw [h]; have := two_bytes x y; omega
theorem extract_from (b : List UInt8) (s m : Nat) (hm : b.length ≤ m) : (⟨b.toArray⟩ : ByteArray).extract s m = ⟨(b.drop s).toArray⟩ := by
 apply ByteArray.ext
 rw [ByteArray.data_extract]
 simp
 rw [List.take_of_length_le (by rw [List.length_drop]; omega)]

end Go.Proofs.YtnjpcbbdhimacaaDoor
