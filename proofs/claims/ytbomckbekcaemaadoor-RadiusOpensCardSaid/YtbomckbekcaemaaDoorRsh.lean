/-
  What the document's Read tells: lists alone.
-/
import Derived.Test.YtbomckbekcaemaaDoorRsg
namespace Go.Proofs.YtbomckbekcaemaaDoor
open Go.RowKit

theorem pk_parts {code id : Int} {Q : List UInt8} {la : Attrs} {b : List UInt8} (h : writeE code id Q la = (b, 0)) : pkOK code id la = true ∧ pkB code id Q la = b := by
  unfold writeE at h
  by_cases hk : pkOK code id la = true
  · rw [if_pos hk] at h
    injection h with h1 h2
    exact ⟨hk, h1⟩
  · rw [if_neg hk] at h
    injection h with h1 h2
    exact absurd h2 (by decide)
abbrev c0 (b : List UInt8) : Int := ((b.getD 0 0).toNat : Int)
abbrev c1 (b : List UInt8) : Int := ((b.getD 1 0).toNat : Int)
abbrev aQ (b : List UInt8) : List UInt8 := (b.drop 4).take 16
theorem read_no {b : List UInt8} (h : 20 ≤ b.length → b.length ≤ 4096 → pkOK (c0 b) (c1 b) (saidA (b.drop 20)) = true → pkB (c0 b) (c1 b) (aQ b) (saidA (b.drop 20)) = b → False) : readE b = ((0, 0, zQ, []), 2) := by
  unfold readE
  rw [if_neg]
  rintro ⟨h1, h2, h3⟩
  obtain ⟨h4, h5⟩ := pk_parts h3
  exact h h1 h2 h4 h5
theorem read_code {b : List UInt8} (h : codeOK (c0 b) = false) : readE b = ((0, 0, zQ, []), 2) := read_no fun _ _ h3 _ => by
  rw [pk_code h] at h3; cases h3
theorem by8_lo {x : Nat} (h : x ≤ 255) : (by8 (x : Int)).toNat = x := by
  unfold by8; rw [ofNat_toNat _ (by omega)]; omega
theorem by8_byte (x : UInt8) : by8 (x.toNat : Int) = x := by
  unfold by8; simp
theorem read_len {b : List UInt8} (h : ¬ (b.getD 2 0).toNat * 256 + (b.getD 3 0).toNat = b.length) : readE b = ((0, 0, zQ, []), 2) := read_no fun h1 h2 h3 h4 => by
  apply h
  have hQ : (aQ b).length = 16 := by rw [List.length_take, List.length_drop]; omega
  have hl := pkB_length (c0 b) (c1 b) (aQ b) (saidA (b.drop 20)) hQ
  rw [h4] at hl
  have h5 : b.getD 2 0 = by8 ((20 + sizeA (saidA (b.drop 20))) / 256 : Nat) := by
    have : (pkB (c0 b) (c1 b) (aQ b) (saidA (b.drop 20))).getD 2 0 = by8 ((20 + sizeA (saidA (b.drop 20))) / 256 : Nat) := rfl
    rwa [h4] at this
  have h6 : b.getD 3 0 = by8 ((20 + sizeA (saidA (b.drop 20))) % 256 : Nat) := by
    have : (pkB (c0 b) (c1 b) (aQ b) (saidA (b.drop 20))).getD 3 0 = by8 ((20 + sizeA (saidA (b.drop 20))) % 256 : Nat) := rfl
    rwa [h4] at this
  rw [h5, h6, ← hl, by8_lo (by omega), by8_lo (by omega)]
  omega
theorem flatA_append (la lb : Attrs) : flatA (la ++ lb) = flatA la ++ flatA lb := by unfold flatA; simp
theorem pkB_drop (code id : Int) (Q : List UInt8) (la : Attrs) (hQ : Q.length = 16) : (pkB code id Q la).drop 20 = flatA la := by
  unfold pkB
  rw [List.drop_append_of_le_length (by simp [hQ]), List.drop_eq_nil_of_le (by simp [hQ]), List.nil_append]
/-- What stands while the attributes are read: those that were, and what is left. -/
def Reads (b : List UInt8) (la : Attrs) (r : List UInt8) : Prop := saidA (b.drop 20) = la ++ saidA r ∧ b.drop 20 = flatA la ++ r ∧ la.all attrOK = true
def stepOK (r : List UInt8) : Prop := 2 ≤ r.length ∧ ¬ (r.getD 0 0).toNat = 0 ∧ 2 ≤ (r.getD 1 0).toNat ∧ (r.getD 1 0).toNat ≤ r.length
theorem Reads.begin (b : List UInt8) : Reads b [] (b.drop 20) := ⟨rfl, rfl, rfl⟩
theorem Reads.bad {b r : List UInt8} {la : Attrs} (h : Reads b la r) (hr : r ≠ []) (hs : ¬ stepOK r) : readE b = ((0, 0, zQ, []), 2) := read_no fun h1 h2 h3 h4 => by
  obtain ⟨e1, e2, _⟩ := h
  have hQ : (aQ b).length = 16 := by rw [List.length_take, List.length_drop]; omega
  have h5 := pkB_drop (c0 b) (c1 b) (aQ b) (saidA (b.drop 20)) hQ
  rw [h4, e1, flatA_append, e2] at h5
  have h6 := List.append_cancel_left h5
  have h7 := (pk_ranges h3).2.2
  unfold attrsOK at h7
  rw [Bool.and_eq_true, e1, List.all_append, Bool.and_eq_true] at h7
  have h8 := h7.1.2
  by_cases hc : 2 ≤ r.length ∧ 2 ≤ (r.getD 1 0).toNat ∧ (r.getD 1 0).toNat ≤ r.length
  · rw [saidA_more hc, List.all_cons, Bool.and_eq_true] at h8
    have h9 := h8.1
    by_cases h0 : (r.getD 0 0).toNat = 0
    · rw [h0] at h9
      simp [attrOK] at h9
    · exact hs ⟨hc.1, h0, hc.2.1, hc.2.2⟩
  · rw [saidA_none hc] at h6
    exact hr h6
theorem two_drop {r : List UInt8} (h : 2 ≤ r.length) : r = [r.getD 0 0, r.getD 1 0] ++ r.drop 2 := by
  match r, h with
  | a :: b :: t, _ => rfl
theorem four_drop {r : List UInt8} (h : 4 ≤ r.length) : r = [r.getD 0 0, r.getD 1 0, r.getD 2 0, r.getD 3 0] ++ r.drop 4 := by
  match r, h with
  | a :: b :: c :: d :: t, _ => rfl
theorem attrB_step {r : List UInt8} (h : stepOK r) : attrB (((r.getD 0 0).toNat : Int), (r.drop 2).take ((r.getD 1 0).toNat - 2)) ++ r.drop (r.getD 1 0).toNat = r := by
  obtain ⟨h1, _, h2, h3⟩ := h
  unfold attrB
  have hl : ((r.drop 2).take ((r.getD 1 0).toNat - 2)).length = (r.getD 1 0).toNat - 2 := by rw [List.length_take, List.length_drop]; omega
  show [by8 ((r.getD 0 0).toNat : Int), by8 (2 + (((r.drop 2).take ((r.getD 1 0).toNat - 2)).length : Int))] ++ (r.drop 2).take ((r.getD 1 0).toNat - 2) ++ r.drop (r.getD 1 0).toNat = r
  rw [hl, show (2 : Int) + (((r.getD 1 0).toNat - 2 : Nat) : Int) = ((r.getD 1 0).toNat : Int) by omega, by8_byte, by8_byte, List.append_assoc]
  have : (r.drop 2).take ((r.getD 1 0).toNat - 2) ++ r.drop (r.getD 1 0).toNat = r.drop 2 := by
    have h4 : r.drop (r.getD 1 0).toNat = (r.drop 2).drop ((r.getD 1 0).toNat - 2) := by rw [List.drop_drop]; congr 1; omega
    rw [h4, List.take_append_drop]
  rw [this]
  exact (two_drop h1).symm
theorem Reads.step {b r : List UInt8} {la : Attrs} (h : Reads b la r) (hs : stepOK r) : Reads b (la ++ [(((r.getD 0 0).toNat : Int), (r.drop 2).take ((r.getD 1 0).toNat - 2))]) (r.drop (r.getD 1 0).toNat) := by
  obtain ⟨e1, e2, e3⟩ := h
  refine ⟨?_, ?_, ?_⟩
  · rw [e1, saidA_more ⟨hs.1, hs.2.2.1, hs.2.2.2⟩, List.append_assoc]; rfl
  · rw [e2, flatA_snoc, List.append_assoc, attrB_step hs]
  · rw [List.all_append, e3]
    have h0 := hs.2.1
    have h5 : ((r.drop 2).take ((r.getD 1 0).toNat - 2)).length ≤ 253 := by rw [List.length_take]; have := (r.getD 1 0).toNat_lt; omega
    have h6 := (r.getD 0 0).toNat_lt
    simp only [List.all_cons, List.all_nil, Bool.and_true, Bool.true_and]
    exact attr_ok (by omega) (by omega) (by omega)
theorem Reads.done {b : List UInt8} {la : Attrs} (h : Reads b la []) (h1 : 20 ≤ b.length) (h2 : b.length ≤ 4096) (hc : codeOK (c0 b) = true) (hl : (b.getD 2 0).toNat * 256 + (b.getD 3 0).toNat = b.length) : readE b = ((c0 b, c1 b, aQ b, la), 0) := by
  obtain ⟨e1, e2, e3⟩ := h
  rw [saidA_none (b := []) (by simp), List.append_nil] at e1
  rw [List.append_nil] at e2
  have hs : 20 + sizeA la = b.length := by rw [← flatA_length, ← e2, List.length_drop]; omega
  unfold readE
  rw [if_pos, e1]
  refine ⟨h1, h2, ?_⟩
  have hid := (b.getD 1 0).toNat_lt
  rw [e1]
  unfold writeE
  rw [if_pos (by rw [pk_attrs hc (by omega)]; exact attrs_all (by rw [List.take_length]; exact e3) (by rw [List.take_length]; omega))]
  congr 1
  unfold pkB
  rw [hs, ← e2, by8_byte, by8_byte]
  have h3 := (b.getD 3 0).toNat_lt
  rw [show b.length / 256 = (b.getD 2 0).toNat by omega, show b.length % 256 = (b.getD 3 0).toNat by omega, by8_byte, by8_byte]
  rw [List.append_assoc, show (b.drop 4).take 16 ++ b.drop 20 = b.drop 4 by
    rw [show b.drop 20 = (b.drop 4).drop 16 by rw [List.drop_drop], List.take_append_drop]]
  exact (four_drop (by omega)).symm
end Go.Proofs.YtbomckbekcaemaaDoor
