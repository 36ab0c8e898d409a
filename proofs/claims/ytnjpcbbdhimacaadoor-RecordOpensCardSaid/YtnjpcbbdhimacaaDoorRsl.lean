/-
 What Seal tells, in all its ways: the code's and the reference's.
-/
import Derived.Test.YtnjpcbbdhimacaaDoorRln
import Derived.Test.YtnjpcbbdhimacaaDoorRrs
namespace Go.Proofs.YtnjpcbbdhimacaaDoor
open Go.RowKit

def sealOut (L : List UInt32) (V : List UInt8) (u : Nat) (k : Int) (b : List UInt8) (p : Int) : List UInt8 × Nat :=
 if kindB k = false ∨ p < 0 then ([], 1) else if 16384 - (b.length : Int) < p then ([], 4) else (recE L 11 V u k.toNat b p.toNat, 0)
def usedOut (o : List UInt8 × Nat) (u : Nat) : Nat := if o.2 = 0 then u + 1 else u
theorem sealOut_ok {L : List UInt32} {V : List UInt8} {u : Nat} {k : Int} {b : List UInt8} {p : Int} (h : (sealOut L V u k b p).2 = 0) : ∃ k' p' : Nat, k = (k' : Int) ∧ p = (p' : Int) ∧ kindB (k' : Int) = true ∧ b.length + p' ≤ 16384 ∧ sealOut L V u k b p = (recE L 11 V u k' b p', 0) := by
 unfold sealOut at *
 split at h
 ·
  simp at h
 ·
  split at h
  ·
   simp at h
  ·
   rename_i h1 h2
   have hk : kindB k = true := by
    cases hh : kindB k with
    | true => rfl
    | false => exact absurd (.inl hh) h1
   have hp : ¬ p < 0 := fun hh => h1 (.inr hh)
   obtain ⟨k', rfl⟩ : ∃ k' : Nat, k = (k' : Int) := ⟨k.toNat, by rcases kindB_three hk with h | h | h <;> omega⟩
   obtain ⟨p', rfl⟩ : ∃ p' : Nat, p = (p' : Int) := ⟨p.toNat, by omega⟩
   exact ⟨k', p', rfl, rfl, hk, by omega, by rw [if_neg h1, if_neg h2, Int.toNat_natCast, Int.toNat_natCast]⟩
theorem hseal_all {w : World} {gh gx gk gr u0 : Nat} {L : List UInt32} {iv : List UInt8} (h : HalfAt w gh gx gk gr 11 L iv u0) (k p : Int) (n c : Nat) (A : Option Addr) (b : List UInt8) (hn : b.length = n) (iB : In w w.heap.size A c b) (_hm : n ≤ 200) (hu : u0 < 1000) :
  Calls Tryd.prog 10 #[.pointer (some ⟨gh, 0, none⟩), .int .i64 k, .slice A n c, .int .i64 p] w fun e w' => ∃ A' n' c', e = .returned (.tuple #[.slice A' n' c', .int .i64 ((sealOut L iv u0 k b p).2 : Int)]) ∧ Buf w' w.heap.size A' n' c' (sealOut L iv u0 k b p).1 ∧ HalfAt w' gh gx gk gr 11 L iv (usedOut (sealOut L iv u0 k b p) u0) ∧ w.grownBy w' (some gh) := by
 unfold sealOut usedOut
 by_cases h1 : kindB k = false ∨ p < 0
 ·
  rw [if_pos h1]
  refine (hseal_arg h k p n c A h1).mono fun e w' ⟨he, hw⟩ => ?_
  subst hw
  exact ⟨none, 0, 0, he, Buf.nil _ _, h, grown_refl _ _⟩
 ·
  rw [if_neg h1]
  have hk : kindB k = true := by
   cases hh : kindB k with
   | true => rfl
   | false => exact absurd (.inl hh) h1
  have hp : ¬ p < 0 := fun hh => h1 (.inr hh)
  by_cases h2 : 16384 - (b.length : Int) < p
  ·
   rw [if_pos h2]
   refine (hseal_big h k p n c A hk hp (.inr (by rw [← hn]; exact h2))).mono fun e w' ⟨he, hw⟩ => ?_
   subst hw
   exact ⟨none, 0, 0, he, Buf.nil _ _, h, grown_refl _ _⟩
  ·
   rw [if_neg h2]
   obtain ⟨k', rfl⟩ : ∃ k' : Nat, k = (k' : Int) := ⟨k.toNat, by rcases kindB_three hk with h | h | h <;> omega⟩
   obtain ⟨p', rfl⟩ : ∃ p' : Nat, p = (p' : Int) := ⟨p.toNat, by omega⟩
   rw [Int.toNat_natCast, Int.toNat_natCast]
   exact (hseal_ok h k' n p' c A b hk hn iB (by omega) hu).mono fun e w' ⟨A', c', he, hB, hH, hg⟩ => ⟨A', _, c', he, hB, hH, hg⟩
theorem rhseal_all {w : World} {gm u0 : Nat} {S : List UInt8} (h : RHalf w gm u0 S) (hS : S.length = 32) (k p : Int) (n : Nat) (b : List UInt8) (hn : b.length = n) (hm : n ≤ 200) (hu : u0 < 1000) :
  Calls Tryd.prog 16 #[.pointer (some ⟨gm, 0, none⟩), .int .i64 k, .string ⟨b.toArray⟩, .int .i64 p] w fun e w' => e = .returned (.tuple #[.string ⟨(sealOut (keyL 4 (keyH S)) (ivH S) u0 k b p).1.toArray⟩, .int .i64 ((sealOut (keyL 4 (keyH S)) (ivH S) u0 k b p).2 : Int)]) ∧ RHalf w' gm (usedOut (sealOut (keyL 4 (keyH S)) (ivH S) u0 k b p) u0) S ∧ w.grownBy w' (some gm) := by
 unfold sealOut usedOut
 by_cases h1 : kindB k = false ∨ p < 0
 ·
  rw [if_pos h1]
  refine (rhseal_arg gm b k p w h1).mono fun e w' ⟨he, hw⟩ => ?_
  subst hw
  exact ⟨he, h, grown_refl _ _⟩
 ·
  rw [if_neg h1]
  have hk : kindB k = true := by
   cases hh : kindB k with
   | true => rfl
   | false => exact absurd (.inl hh) h1
  have hp : ¬ p < 0 := fun hh => h1 (.inr hh)
  by_cases h2 : 16384 - (b.length : Int) < p
  ·
   rw [if_pos h2]
   refine (rhseal_big gm n b k p w hk hp hn (by omega) (.inr (by rw [← hn]; exact h2))).mono fun e w' ⟨he, hw⟩ => ?_
   subst hw
   exact ⟨he, h, grown_refl _ _⟩
  ·
   rw [if_neg h2]
   obtain ⟨k', rfl⟩ : ∃ k' : Nat, k = (k' : Int) := ⟨k.toNat, by rcases kindB_three hk with h | h | h <;> omega⟩
   obtain ⟨p', rfl⟩ : ∃ p' : Nat, p = (p' : Int) := ⟨p.toNat, by omega⟩
   rw [Int.toNat_natCast, Int.toNat_natCast]
   exact (rhseal_ok h hS k' n p' b hk hn (by omega) hu).mono fun e w' ⟨he, hH, hg⟩ => ⟨he, hH, hg⟩
end Go.Proofs.YtnjpcbbdhimacaaDoor
