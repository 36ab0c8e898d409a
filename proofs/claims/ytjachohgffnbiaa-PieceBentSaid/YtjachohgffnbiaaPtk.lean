/-
  The contracts of the reference's take and Take of layer 17: every piece.
-/
import Derived.Test.YtjachohgffnbiaaPk
import Derived.Test.YtjachohgffnbiaaPk1
import Derived.Test.YtjachohgffnbiaaPk2
import Derived.Test.YtjachohgffnbiaaPk3
import Derived.Test.YtjachohgffnbiaaPk4
namespace Go.Proofs.Ytjachohgffnbiaa
open Go.RowKit

theorem rtake_e (g : Nat) (F b : List UInt8) (C n : Nat) (w : World) (hJ : RJoin w g F C) (hn : b.length = n) (hm : n < 900000) (hF : Fine F C) :
    Calls Try.prog 25 #[.pointer (some ⟨g, 0, none⟩), .string ⟨b.toArray⟩] w (RPost (takeE F C b) g w) := by
  by_cases h0 : b.length = 0
  · exact rtake_bad g F b C n w hJ hn hm hF (.inl h0)
  by_cases h1 : hL (b.getD 0 0) = true ∧ b.length < 5
  · exact rtake_bad g F b C n w hJ hn hm hF (.inr (.inl h1))
  cases hmy : mayB F.length (b.getD 0 0)
  · exact rtake_bad g F b C n w hJ hn hm hF (.inr (.inr hmy))
  by_cases hF0 : F = []
  · cases hl : hL (b.getD 0 0)
    · cases hm2 : hM (b.getD 0 0)
      · exact rtake_one g F b C n w hJ hn hm hF h0 h1 hmy hF0 hl hm2
      · exfalso
        unfold mayB at hmy
        rw [hl, hm2, hF0] at hmy
        cases hx : hX (b.getD 0 0) <;> rw [hx] at hmy <;> simp at hmy
    · cases hm2 : hM (b.getD 0 0)
      · exact rtake_long_false g F b C n w hJ hn hm hF h0 h1 hmy hF0 hl hm2
      · exact rtake_long_true g F b C n w hJ hn hm hF h0 h1 hmy hF0 hl hm2
  · cases hm2 : hM (b.getD 0 0)
    · exact rtake_go_false g F b C n w hJ hn hm hF h0 h1 hmy hF0 hm2
    · exact rtake_go_true g F b C n w hJ hn hm hF h0 h1 hmy hF0 hm2
theorem take_shape (F : List UInt8) (C : Nat) (b : List UInt8) :
    ((takeE F C b).2.1 = true ∧ (takeE F C b).2.2.1 = 0 ∧ (takeE F C b).2.2.2 = ([], 0)) ∨
    ((takeE F C b).2.1 = false ∧ (takeE F C b).2.2.1 ≠ 0 ∧ (takeE F C b).2.2.1 < 10 ∧ (takeE F C b).1 = [] ∧ (takeE F C b).2.2.2 = ([], 0)) ∨
    ((takeE F C b).2.1 = false ∧ (takeE F C b).2.2.1 = 0 ∧ (takeE F C b).1 = [] ∧ Fine (takeE F C b).2.2.2.1 (takeE F C b).2.2.2.2) := by
  have hp : (partsE b).2.2.2 < 10 := by unfold partsE; (repeat' split) <;> simp
  unfold takeE
  generalize partsE b = pe at *
  obtain ⟨f, q, h, pr⟩ := pe
  simp only at hp ⊢
  by_cases h1 : pr = 0
  · rw [if_neg (by simpa using h1)]
    have hj : (joinE F C f q h).1 < 10 ∧ ((joinE F C f q h).1 = 0 → hM f = true → Fine (joinE F C f q h).2.1 (joinE F C f q h).2.2) := by
      unfold joinE
      generalize (if F.length = 0 then q else C) = T
      by_cases c1 : mayB F.length f = false
      · rw [if_pos c1]; exact ⟨by simp, fun h => by cases h⟩
      rw [if_neg c1]
      by_cases c2 : 32768 < T
      · rw [if_pos c2]; exact ⟨by simp, fun h => by cases h⟩
      rw [if_neg c2]
      by_cases c3 : T < F.length + h.length ∨ (F.length + h.length < T ∧ hM f = false) ∨ (h.length = 0 ∧ hM f = true)
      · rw [if_pos c3]; exact ⟨by simp, fun h => by cases h⟩
      · rw [if_neg c3]
        refine ⟨by simp, fun _ hm => ⟨?_, ?_, fun e => ?_⟩⟩
        · simp only [List.length_append]; omega
        · simp only; omega
        · exfalso; apply c3; refine .inr (.inr ⟨?_, hm⟩)
          simp only at e
          have := List.append_eq_nil_iff.1 e
          rw [this.2]; rfl
    generalize joinE F C f q h = je at *
    obtain ⟨jr, F2, C2⟩ := je
    simp only at hj ⊢
    by_cases h2 : jr = 0
    · rw [if_neg (by simpa using h2)]
      cases hm : hM f
      · rw [if_neg (by decide)]; exact .inl ⟨rfl, rfl, rfl⟩
      · rw [if_pos rfl]; exact .inr (.inr ⟨rfl, rfl, rfl, hj.2 h2 hm⟩)
    · rw [if_pos h2]; exact .inr (.inl ⟨rfl, h2, hj.1, rfl, rfl⟩)
  · rw [if_pos h1]; exact .inr (.inl ⟨rfl, h1, hp, rfl, rfl⟩)
theorem fine_nil : Fine [] 0 := ⟨by simp, by omega, fun _ => rfl⟩
theorem fine_take (F : List UInt8) (C : Nat) (b : List UInt8) : Fine (takeE F C b).2.2.2.1 (takeE F C b).2.2.2.2 := by
  rcases take_shape F C b with ⟨_, _, h⟩ | ⟨_, _, _, _, h⟩ | ⟨_, _, _, h⟩
  · rw [h]; exact fine_nil
  · rw [h]; exact fine_nil
  · exact h
set_option maxRecDepth 100000 in
set_option maxHeartbeats 1000000 in
theorem rTake_e (g : Nat) (F b : List UInt8) (C n : Nat) (w : World) (hJ : RJoin w g F C) (hn : b.length = n) (hm : n < 900000) (hF : Fine F C) :
    Calls Try.prog 17 #[.pointer (some ⟨g, 0, none⟩), .string ⟨b.toArray⟩] w fun e w' => e = .returned (.tuple #[.string ⟨(rtold (takeE F C b)).toArray⟩, .bool (takeE F C b).2.1, .int .i64 ((takeE F C b).2.2.1 : Int)]) ∧ RJoin w' g (takeE F C b).2.2.2.1 (takeE F C b).2.2.2.2 ∧ Chg (fun k => k = g) w w' := by
  have hT := rtake_e g F b C n w hJ hn hm hF
  have hS := take_shape F C b
  generalize takeE F C b = E at *
  obtain ⟨rt, hrt⟩ : ∃ rt, rtold E = rt := ⟨_, rfl⟩
  unfold RPost at hT
  rw [hrt] at hT ⊢
  clear hrt
  obtain ⟨E1, d, er, F2, C2⟩ := E
  simp only at hT hS ⊢
  have HT := Lib.hid hT
  clear hT hJ hn hF
  go_enter Try.func17, Try.ntmps17
  go_upto_region 2 with (go_at_call 25; refine HT.out.mono ?_; rintro e w1 ⟨rfl, hB, hR, hC⟩)
  obtain ⟨v0, v1, v2, hB⟩ := hB
  have HB := Lib.hid hB
  have HR := Lib.hid hR
  have HC := Lib.hid hC
  clear hB hR hC
  rcases hS with ⟨hd, he, hz⟩ | ⟨hd, he, he9, _, hz⟩ | ⟨hd, he, _, _⟩
  · subst hd he
    obtain ⟨rfl, rfl⟩ : F2 = [] ∧ C2 = 0 := by injection hz with h1 h2; exact ⟨h1, h2⟩
    clear hz
    go_wp2_with ((with_reducible refine (?_ : wpList _ _ _ (Oper.mk none _ _ _ _ _ :: _) _ _)); go_loud (refine wpList_store_blk rfl 41 (.tmp 24) (.tmp 23) rfl rfl g [.bool false, .int .i64 0, .string ⟨#[]⟩] rfl rfl _ _ HB.out (by kernel_rfl) rfl (by simp [Value.oneCell']) ?_); intro w2 hG hg)
    go_ret3
    exact ⟨rfl, hG, HC.out.trans (chg_of_grown (S := fun k => k = g) hg (fun k e => by injection e with e; exact e.symm)) (fun _ _ h => h)⟩
  · subst hd
    obtain ⟨rfl, rfl⟩ : F2 = [] ∧ C2 = 0 := by injection hz with h1 h2; exact ⟨h1, h2⟩
    have hne : ¬ (er : Int) = 0 := by omega
    clear hz he he9
    go_wp2_with ((with_reducible refine (?_ : wpList _ _ _ (Oper.mk none _ _ _ _ _ :: _) _ _)); go_loud (refine wpList_store_blk rfl 41 (.tmp 24) (.tmp 23) rfl rfl g [.bool false, .int .i64 0, .string ⟨#[]⟩] rfl rfl _ _ HB.out (by kernel_rfl) rfl (by simp [Value.oneCell']) ?_); intro w2 hG hg)
    go_ret3
    exact ⟨rfl, hG, HC.out.trans (chg_of_grown (S := fun k => k = g) hg (fun k e => by injection e with e; exact e.symm)) (fun _ _ h => h)⟩
  · subst hd he
    go_wp2
    go_ret3
    exact ⟨rfl, HR.out (by trivial) (by trivial), HC.out⟩
end Go.Proofs.Ytjachohgffnbiaa
