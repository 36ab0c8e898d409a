/-
 Rx1.
-/
import Derived.Test.YtnjpcbbdhimacaaDoorRh5
namespace Go.Proofs.YtnjpcbbdhimacaaDoor
open Go.RowKit
theorem maskE_twice (L : List UInt32) (R : Nat) (N P : List UInt8) : maskE L R N (maskE L R N P) = P := by
 refine List.ext_getElem (by rw [maskE_length, maskE_length]) fun i h1 h2 => ?_
 have e := maskE_get L R N (maskE L R N P) i (by rw [maskE_length]; exact h2)
 rw [maskE_get L R N P i h2, UInt8.xor_assoc, UInt8.xor_self, UInt8.xor_zero] at e
 rw [List.getD_eq_getElem?_getD, List.getD_eq_getElem?_getD, List.getElem?_eq_getElem h1, List.getElem?_eq_getElem h2] at e
 exact e
theorem kind_byte (k : Nat) (h : kindB (k : Int) = true) : (UInt8.ofNat k).toNat = k := by
 rcases kindB_three h with h | h | h
 ·
  obtain rfl : k = 21 := by omega
  rfl
 ·
  obtain rfl : k = 22 := by omega
  rfl
 ·
  obtain rfl : k = 23 := by omega
  rfl
theorem head_begins (k n : Nat) (X : List UInt8) (hk : kindB (k : Int) = true) : beginsE (headE k n ++ X) = true := by
 unfold beginsE
 have hl : min (headE k n ++ X).length 3 = 3 := by rw [List.length_append]; show min (5 + X.length) 3 = 3; omega
 rw [hl]
 simp [begTo, headE, kind_byte k hk, hk]
theorem head_count (k n : Nat) (X : List UInt8) (hn : n < 65536) : cntB (headE k n ++ X) = n := by
 unfold cntB headE
 simp
 omega
theorem size_rec (k n : Nat) (X : List UInt8) (hk : kindB (k : Int) = true) (hn : X.length = n) (hm : n ≤ 16640) : sizeE (headE k n ++ X) = (5 + n, 0) := by
 have hl : (headE k n ++ X).length = 5 + n := by rw [List.length_append, hn]; rfl
 unfold sizeE
 rw [head_begins k n X hk, head_count k n X (by omega), hl, if_neg (by decide), if_neg (by omega), if_neg (by omega), if_neg (by omega)]
theorem parts_rec (k n : Nat) (X : List UInt8) (hk : kindB (k : Int) = true) (hn : X.length = n) (hm : n ≤ 16640) : partsE (headE k n ++ X) = (k, X, 0) := by
 have hl : (headE k n ++ X).length = 5 + n := by rw [List.length_append, hn]; rfl
 unfold partsE
 rw [size_rec k n X hk hn hm, hl, if_neg (by simp), if_neg (by show ¬ 5 + n < 5 + n; omega)]
 have e0 : (headE k n ++ X).getD 0 0 = UInt8.ofNat k := rfl
 have e5 : (headE k n ++ X).drop 5 = X := rfl
 rw [e0, e5, kind_byte k hk]
theorem strip_pad (b : List UInt8) (x : UInt8) (hx : x ≠ 0) (pad : Nat) : ∀ j, j ≤ pad → stripTo (b ++ x :: List.replicate pad 0) (b.length + 1 + j) = b.length + 1 := by
 intro j hj
 induction j with
 | zero =>
  rw [Nat.add_zero, stripTo, if_neg]
  simp [List.getD_eq_getElem?_getD]
  exact hx
 | succ j ih =>
  rw [show b.length + 1 + (j + 1) = b.length + 1 + j + 1 by omega, stripTo, if_pos]
  ·
   exact ih (by omega)
  ·
   rw [List.getD_eq_getElem?_getD, List.getElem?_append_right (by omega), show b.length + 1 + j - b.length = j + 1 by omega, List.getElem?_cons_succ]
   simp [show j < pad by omega]
theorem within_inner (k : Nat) (b : List UInt8) (pad : Nat) (hk : kindB (k : Int) = true) (hb : b.length ≤ 16384) : withinE (innerE k b pad) = (k, b, 0) := by
 have hx : UInt8.ofNat k ≠ 0 := fun h => by
  have := congrArg UInt8.toNat h
  rw [kind_byte k hk] at this
  rcases kindB_three hk with h | h | h <;> (have : k = 0 := this; omega)
 have hs : stripTo (innerE k b pad) (innerE k b pad).length = b.length + 1 := by
  rw [innerE_length]
  exact strip_pad b _ hx pad pad (Nat.le_refl _)
 unfold withinE
 rw [hs, Nat.add_sub_cancel]
 have e1 : (innerE k b pad).getD b.length 0 = UInt8.ofNat k := by
  unfold innerE
  rw [List.getD_eq_getElem?_getD, List.getElem?_append_right (Nat.le_refl _), Nat.sub_self]
  rfl
 have e2 : (innerE k b pad).take b.length = b := by
  unfold innerE
  rw [List.take_append_of_le_length (Nat.le_refl _), List.take_length]
 rw [e1, e2, kind_byte k hk, if_neg (by omega), if_neg (by rw [hk]; decide), if_neg (by omega)]

set_option maxRecDepth 100000 in
set_option maxHeartbeats 1000000 in
theorem opened_e {w : World} {gh gx gk gr R u0 : Nat} {L : List UInt32} {iv : List UInt8} (h : HalfAt w gh gx gk gr R L iv u0) (k n pad c : Nat) (A : Option Addr) (b : List UInt8) (hk : kindB (k : Int) = true) (hn : b.length = n) (hp : n + pad ≤ 16384) (hu : u0 < 1000) (iB : In w w.heap.size A c (recE L R iv u0 k b pad)) :
  Calls Tryd.prog 11 #[.pointer (some ⟨gh, 0, none⟩), .slice A (5 + (n + 1 + pad + 16)) c] w fun e w' => ∃ A' c', e = .returned (.tuple #[.int .i64 (k : Int), .slice A' n c', .int .i64 0]) ∧ In w' w'.heap.size A' c' b ∧ HalfAt w' gh gx gk gr R L iv (u0 + 1) ∧ w.grownBy w' (some gh) := by
 have hil := innerE_length k b pad
 rw [hn] at hil
 have hbx := boxE_length L R (nonceH iv u0) (innerE k b pad) (headE 23 (n + 1 + pad + 16))
 rw [hil] at hbx
 have hre : recE L R iv u0 k b pad = headE 23 (n + 1 + pad + 16) ++ boxE L R (nonceH iv u0) (innerE k b pad) (headE 23 (n + 1 + pad + 16)) := by unfold recE; rw [hil]
 rw [hre] at iB
 have hpa := parts_rec 23 (n + 1 + pad + 16) (boxE L R (nonceH iv u0) (innerE k b pad) (headE 23 (n + 1 + pad + 16))) rfl hbx (by omega)
 have hlen : (headE 23 (n + 1 + pad + 16) ++ boxE L R (nonceH iv u0) (innerE k b pad) (headE 23 (n + 1 + pad + 16))).length = 5 + (n + 1 + pad + 16) := by rw [List.length_append, hbx]; rfl
 have h1 := hopen_ok h (5 + (n + 1 + pad + 16)) (n + 1 + pad) c A _ (maskE L R (nonceH iv u0) (innerE k b pad)) (tagE L R (nonceH iv u0) (maskE L R (nonceH iv u0) (innerE k b pad)) (headE 23 (n + 1 + pad + 16))) hlen iB hpa (by rw [maskE_length, hil]) (tagE_length _ _ _ _ _) rfl (by omega) (by omega) hu
 rw [maskE_twice, within_inner k b pad hk (by omega)] at h1
 refine h1.mono (fun e w' ⟨A', n', c', he, hl, hi, hh, hg⟩ => ?_)
 have hl2 : n' = n := by rw [← hl]; exact hn
 subst hl2
 exact ⟨A', c', he, hi, hh, hg⟩

end Go.Proofs.YtnjpcbbdhimacaaDoor
