/-
  The pieces of a flight, taken one by one, make it whole with the last.
-/
import Derived.Test.YtjachohgffnbiaaPBigW
namespace Go.Proofs.Ytjachohgffnbiaa
open Go.RowKit

/-- Taken one by one from a state on, the pieces make the flight L with the last of them, and not earlier. -/
def Runs (L : List UInt8) : List UInt8 → Nat → List (List UInt8) → Prop
  | F, C, [] => F = [] ∧ C = 0
  | F, C, p :: r => F.length < 100000 ∧ ∃ out F' C', takeE F C p = (out, r.isEmpty, 0, F', C') ∧ (out = if r.isEmpty then L else []) ∧ Runs L F' C' r
theorem parts_flag (f : UInt8) (X : List UInt8) (h : hL f = false) : partsE (f :: X) = (f, X.length, X, 0) := by
  unfold partsE
  rw [if_neg (by simp), if_pos (by exact h)]
  rfl
theorem parts_first (m : Nat) (X : List UInt8) (h : m < 65536) : partsE (192 :: (be4 m ++ X)) = (192, m, X, 0) := by
  unfold partsE
  rw [if_neg (by simp), if_neg (by show ¬ hL 192 = false; decide), if_neg (by simp [be4])]
  have e : cntTo (be4 m ++ X) 4 = cntTo (be4 m ++ [1]) 4 := rfl
  show ((192 : UInt8), cntTo (be4 m ++ X) 4, X, 0) = _
  rw [e, cnt_be m h]
theorem join_on {F X : List UInt8} {n q : Nat} {f : UInt8} (hf : hX f = false) (hl : hL f = false) (hF : F.length ≠ 0) (hn : n ≤ 32768) (h1 : F.length + X.length ≤ n) (h2 : hM f = true → X.length ≠ 0) (h3 : hM f = false → F.length + X.length = n) :
    joinE F n f q X = (0, F ++ X, n) := by
  have e : (if F.length = 0 then q else n) = n := if_neg hF
  have hm : mayB F.length f = true := by unfold mayB; rw [hf, if_neg (by decide), if_neg hF, hl]; rfl
  unfold joinE
  rw [e, hm, if_neg (by decide), if_neg (by omega), if_neg]
  rintro (h | ⟨h, h'⟩ | ⟨h, h'⟩)
  · omega
  · have := h3 h'; omega
  · exact h2 h' h
theorem join_new {X : List UInt8} {q : Nat} {f : UInt8} (hm : mayB 0 f = true) (hn : q ≤ 32768) (h1 : X.length ≤ q) (h2 : hM f = true → X.length ≠ 0) (h3 : hM f = false → X.length = q) :
    joinE [] 0 f q X = (0, X, q) := by
  have e : (if ([] : List UInt8).length = 0 then q else 0) = q := if_pos rfl
  unfold joinE
  rw [e, if_neg (by rw [show mayB ([] : List UInt8).length f = true from hm]; decide), if_neg (by omega), if_neg]
  · rfl
  · rintro (h | ⟨h, h'⟩ | ⟨h, h'⟩)
    · simp at h; omega
    · simp at h; have := h3 h'; omega
    · exact h2 h' h
theorem runs_rest {room n : Nat} (h0 : 0 < room) (hn : n ≤ 32768) : ∀ (k : Nat) (R : List UInt8), R.length = k → ∀ F : List UInt8, F.length ≠ 0 → F.length + R.length = n → Runs (F ++ R) F n (restE room R) := by
  intro k
  induction k using Nat.strongRecOn with
  | ind k ih =>
    intro R hR F hF hs
    by_cases h : room < R.length
    · have hne : (restE room (R.drop room)).isEmpty = false := by
        have := restE_pos room (R.drop room)
        cases hh : restE room (R.drop room) with
        | nil => rw [hh] at this; simp at this
        | cons a b => rfl
      have hlt : (R.take room).length = room := by rw [List.length_take]; omega
      rw [restE_more h0 h]
      refine ⟨by omega, [], F ++ R.take room, n, ?_, by rw [hne]; rfl, ?_⟩
      · rw [hne]
        unfold takeE
        rw [parts_flag 64 _ (by decide)]
        simp only
        rw [join_on (by decide) (by decide) hF hn (by omega) (fun _ => by omega) (fun h => by simp [hM] at h)]
        rw [if_neg (by simp), if_neg (by simp), if_pos (by decide)]
      · have e : F ++ R = (F ++ R.take room) ++ R.drop room := by rw [List.append_assoc, List.take_append_drop]
        rw [e]
        exact ih (k - room) (by omega) (R.drop room) (by rw [List.length_drop, hR]) (F ++ R.take room) (by rw [List.length_append]; omega) (by rw [List.length_append, List.length_drop]; omega)
    · rw [restE_last h]
      refine ⟨by omega, F ++ R, [], 0, ?_, rfl, rfl, rfl⟩
      unfold takeE
      rw [parts_flag 0 _ (by decide)]
      simp only
      rw [join_on (by decide) (by decide) hF hn (by omega) (fun h => by simp [hM] at h) (fun _ => hs)]
      rw [if_neg (by simp), if_neg (by simp), if_neg (by decide)]
      rfl
theorem runs_split {b : List UInt8} {size : Int} (h : (splitE b size).2 = 0) : Runs b [] 0 (splitE b size).1 := by
  unfold splitE at *
  by_cases h1 : size < 16 ∨ 4000 < size
  · rw [if_pos h1] at h; cases h
  rw [if_neg h1] at h ⊢
  by_cases h2 : 32768 < b.length
  · rw [if_pos h2] at h; cases h
  rw [if_neg h2] at h ⊢
  by_cases h3 : b.length ≤ size.toNat - 1
  · rw [if_pos h3]
    refine ⟨by simp, b, [], 0, ?_, rfl, rfl, rfl⟩
    unfold takeE
    rw [parts_flag 0 _ (by decide)]
    simp only
    rw [join_new (by decide) (by omega) (Nat.le_refl _) (fun h => by simp [hM] at h) (fun _ => rfl)]
    rw [if_neg (by simp), if_neg (by simp), if_neg (by decide)]
    rfl
  · rw [if_neg h3]
    have hlt : (b.take (size.toNat - 5)).length = size.toNat - 5 := by rw [List.length_take]; omega
    have hne : (restE (size.toNat - 1) (b.drop (size.toNat - 5))).isEmpty = false := by
      have := restE_pos (size.toNat - 1) (b.drop (size.toNat - 5))
      cases hh : restE (size.toNat - 1) (b.drop (size.toNat - 5)) with
      | nil => rw [hh] at this; simp at this
      | cons a b => rfl
    refine ⟨by simp, [], b.take (size.toNat - 5), b.length, ?_, by rw [hne]; rfl, ?_⟩
    · rw [hne]
      unfold takeE
      rw [parts_first _ _ (by omega)]
      simp only
      rw [join_new (by decide) (by omega) (by omega) (fun _ => by omega) (fun h => by simp [hM] at h)]
      rw [if_neg (by simp), if_neg (by simp), if_pos (by decide)]
    · have e : b = b.take (size.toNat - 5) ++ b.drop (size.toNat - 5) := (List.take_append_drop _ _).symm
      have := runs_rest (room := size.toNat - 1) (n := b.length) (by omega) (by omega) _ (b.drop (size.toNat - 5)) rfl (b.take (size.toNat - 5)) (by omega) (by rw [hlt, List.length_drop]; omega)
      rw [← e] at this
      exact this
theorem split_most {b : List UInt8} {z : Nat} {p : List UInt8} (hp : p ∈ (splitE b (z : Int)).1) : p.length ≤ z := by
  have key : ∀ (room : Nat), 0 < room → ∀ (k : Nat) (R : List UInt8), R.length = k → ∀ p ∈ restE room R, p.length ≤ room + 1 := by
    intro room h0 k
    induction k using Nat.strongRecOn with
    | ind k ih =>
      intro R hR p hp
      by_cases h : room < R.length
      · rw [restE_more h0 h] at hp
        rcases List.mem_cons.1 hp with rfl | hp
        · rw [List.length_cons, List.length_take]; omega
        · exact ih (k - room) (by omega) (R.drop room) (by rw [List.length_drop, hR]) p hp
      · rw [restE_last h] at hp
        simp at hp
        subst hp
        rw [List.length_cons]; omega
  unfold splitE at hp
  by_cases h1 : (z : Int) < 16 ∨ 4000 < (z : Int)
  · rw [if_pos h1] at hp; cases hp
  rw [if_neg h1] at hp
  by_cases h2 : 32768 < b.length
  · rw [if_pos h2] at hp; cases hp
  rw [if_neg h2, Int.toNat_natCast] at hp
  by_cases h3 : b.length ≤ z - 1
  · rw [if_pos h3] at hp
    simp at hp
    subst hp
    rw [List.length_cons]; omega
  · rw [if_neg h3] at hp
    rcases List.mem_cons.1 hp with rfl | hp
    · rw [List.length_cons, List.length_append, List.length_take]; show 4 + _ + 1 ≤ z; omega
    · have := key (z - 1) (by omega) _ _ rfl p hp; omega
end Go.Proofs.Ytjachohgffnbiaa
