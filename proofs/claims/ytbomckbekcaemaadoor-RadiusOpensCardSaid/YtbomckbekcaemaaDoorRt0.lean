/-
  Small laws of this law's walks.
-/
import Derived.Test.YtbomckbekcaemaaDoorRse
import Derived.Test.YtbomckbekcaemaaDoorRdm
namespace Go.Proofs.YtbomckbekcaemaaDoor
open Go.RowKit

theorem pks_len {code id : Int} {Q : List UInt8} {la : Attrs} {m : Nat} {w w' : World} {e : Ending} (h : PkS code id Q la w e w') (hm : la.length = m) : ∃ A c, e = .returned (.agg (pkC code id Q A m c).toArray) ∧ SIn w' w'.heap.size A c la ∧ Below w.heap.size w w' := by
  subst hm
  obtain ⟨A, m', c, rfl, hS, hb⟩ := h
  obtain ⟨A', c', hv, hI⟩ := hS.slice
  cases hv
  exact ⟨A, c, rfl, hI, hb⟩
theorem pks_row {code id : Int} {Q : List UInt8} {la : Attrs} {m : Nat} {w w' : World} {e : Ending} (h : PkS code id Q la w e w') (hm : la.length = m) : ∃ A c, e = .returned (.agg (pkC code id Q A m c).toArray) ∧ SRow w' w.heap.size (.slice A m c) la ∧ Below w.heap.size w w' := by
  subst hm
  obtain ⟨A, m', c, rfl, hS, hb⟩ := h
  obtain ⟨A', c', hv, hI⟩ := hS.slice
  cases hv
  exact ⟨A, c, rfl, hS, hb⟩
theorem pka_len {code id : Int} {Q : List UInt8} {la : Attrs} {m : Nat} {w w' : World} {e : Ending} (h : PkA code id Q la w e w') (hm : la.length = m) : ∃ A c, e = .returned (.agg (pkC code id Q A m c).toArray) ∧ AIn w' w'.heap.size A c la ∧ Below w.heap.size w w' := by
  subst hm
  obtain ⟨A, m', c, rfl, hS, hb⟩ := h
  obtain ⟨h1, h2⟩ := hS.ain
  subst h1
  exact ⟨A, c, rfl, h2, hb⟩
theorem pkp_len {code id : Int} {Q : List UInt8} {la : Attrs} {m er : Nat} {w w' : World} {e : Ending} (h : PkPost ((code, id, Q, la), er) w e w') (hm : la.length = m) : ∃ A c, e = .returned (.tuple #[.agg (pkC code id Q A m c).toArray, .int .i64 (er : Int)]) ∧ ARow w' w.heap.size (.slice A m c) la ∧ Below w.heap.size w w' := by
  subst hm
  obtain ⟨A, m', c, rfl, hS, _, hb⟩ := h
  obtain ⟨h1, _⟩ := hS.ain
  simp only at h1
  subst h1
  exact ⟨A, c, rfl, hS, hb⟩
theorem SRow.sin {w : World} {base m c : Nat} {A : Option Addr} {la : Attrs} (h : SRow w base (.slice A m c) la) : SIn w w.heap.size A c la := by
  obtain ⟨A', c', hv, hI⟩ := h.slice
  cases hv
  exact hI
theorem readE_len (b : List UInt8) : (readE b).1.2.2.1.length = 16 := by
  unfold readE
  split
  · next h => rw [List.length_take, List.length_drop]; omega
  · rfl
theorem saidA_len (b : List UInt8) : (saidA b).length ≤ b.length := by
  generalize hn : b.length = n
  induction n using Nat.strongRecOn generalizing b with
  | _ n ih =>
    by_cases h : 2 ≤ b.length ∧ 2 ≤ (b.getD 1 0).toNat ∧ (b.getD 1 0).toNat ≤ b.length
    · rw [saidA_more h, List.length_cons]
      have := ih (b.drop (b.getD 1 0).toNat).length (by rw [List.length_drop]; omega) (b.drop (b.getD 1 0).toNat) rfl
      rw [List.length_drop] at this
      omega
    · rw [saidA_none h]; simp
theorem readE_few (b : List UInt8) : (readE b).1.2.2.2.length ≤ b.length := by
  unfold readE
  split
  · have := saidA_len (b.drop 20); rw [List.length_drop] at this; show (saidA (b.drop 20)).length ≤ _; omega
  · simp
theorem own_pick {w : World} {base n c : Nat} {A : Option Addr} {bs : List UInt8} (h : Buf w base A n c bs) (hlt : base < w.heap.size) : ∃ gb, base ≤ gb ∧ gb < w.heap.size ∧ (∀ k, A = some ⟨k, 0, none⟩ → k = gb) := by
  rcases h.2 with ⟨rfl, _⟩ | ⟨q, rfl, h1, h2, _⟩
  · exact ⟨base, Nat.le_refl _, hlt, fun k e => by cases e⟩
  · exact ⟨q, h1, h2, fun k e => by cases e; rfl⟩
theorem ix_cutW {n c most q : Nat} (hq : q = min n most) (hc : n ≤ c) : min (n : Int) (most : Int) = (q : Int) ∧ (q : Int) ≤ (c : Int) ∧ (0 : Int) ≤ (q : Int) := by omega
theorem ix_measW {k n : Nat} (h : k < n) (hm : n ≤ 5000) : n - (intOf (.int .i64 (wrap64 ((k : Int) + 1)))).toNat < n - (intOf (.int .i64 (k : Int))).toNat := by
  have : wrap64 ((k : Int) + 1) = ((k + 1 : Nat) : Int) := by unfold wrap64; omega
  rw [this]; simp only [intOf]; omega
end Go.Proofs.YtbomckbekcaemaaDoor
