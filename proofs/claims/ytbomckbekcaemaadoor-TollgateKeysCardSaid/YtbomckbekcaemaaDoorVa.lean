/-
  A key's value: what wrapping and unwrapping tell, in lists of bytes.
-/
import Derived.Test.YtbomckbekcaemaaDoorVx
namespace Go.Proofs.YtbomckbekcaemaaDoor
open Go.RowKit

def padX (b : List UInt8) : List UInt8 := b ++ List.replicate (16 * ((b.length + 15) / 16) - b.length) 0
/-- What bytes are hidden as. -/
def hideE (sec beg b : List UInt8) : List UInt8 := hDone false sec beg (padX b) ((b.length + 15) / 16)
theorem padX_length (b : List UInt8) : (padX b).length = 16 * ((b.length + 15) / 16) := by
  unfold padX; rw [List.length_append, List.length_replicate]; omega
theorem hideE_length (sec beg b : List UInt8) : (hideE sec beg b).length = 16 * ((b.length + 15) / 16) :=
  hDone_length (by rw [padX_length]; omega)
theorem shown_hidden (sec beg b : List UInt8) : shownAs sec beg (hideE sec beg b) = padX b := by
  unfold shownAs
  have hl := hideE_length sec beg b
  rw [if_pos (by omega), hl, Nat.mul_div_cancel_left _ (by decide : 0 < 16)]
  unfold hideE
  rw [(hidden_shown (P := padX b) (n := (b.length + 15) / 16) (by rw [padX_length]; omega) ((b.length + 15) / 16) (Nat.le_refl _)).2]
  exact List.take_of_length_le (by rw [padX_length]; omega)
theorem shownAs_length (sec beg b : List UInt8) : (shownAs sec beg b).length = if b.length % 16 = 0 then b.length else 0 := by
  unfold shownAs
  by_cases h : b.length % 16 = 0
  · rw [if_pos h, if_pos h, hDone_length (by omega)]; omega
  · rw [if_neg h, if_neg h]; rfl
/-- The value for a key that may be wrapped. -/
def wrapB (k s0 s1 : UInt8) (key asked sec : List UInt8) : List UInt8 :=
  [0, 0, 1, 55, k, UInt8.ofNat (4 + (hideE sec (asked ++ [s0, s1]) (UInt8.ofNat key.length :: key)).length), s0, s1] ++ hideE sec (asked ++ [s0, s1]) (UInt8.ofNat key.length :: key)
def mayW (kind : Int) (n : Nat) (s0 : UInt8) : Bool := (decide (kind = 16) || decide (kind = 17)) && decide (0 < n) && decide (n ≤ 200) && decide (128 ≤ s0.toNat)
def wrapE (kind : Int) (s0 s1 : UInt8) (key asked sec : List UInt8) : List UInt8 × Nat :=
  if mayW kind key.length s0 = true then (wrapB (UInt8.ofNat kind.toNat) s0 s1 key asked sec, 0) else ([], 1)
/-- What a value is the Wrap of, if it is one of anything. -/
def saidW (v asked sec : List UInt8) : Int × List UInt8 × UInt8 × UInt8 :=
  if v.length < 8 ∨ 216 < v.length then (0, [], 0, 0)
  else if (shownAs sec (asked ++ [v.getD 6 0, v.getD 7 0]) (v.drop 8)).length ≤ ((shownAs sec (asked ++ [v.getD 6 0, v.getD 7 0]) (v.drop 8)).getD 0 0).toNat then (0, [], v.getD 6 0, v.getD 7 0)
  else (((v.getD 4 0).toNat : Int), ((shownAs sec (asked ++ [v.getD 6 0, v.getD 7 0]) (v.drop 8)).drop 1).take ((shownAs sec (asked ++ [v.getD 6 0, v.getD 7 0]) (v.drop 8)).getD 0 0).toNat, v.getD 6 0, v.getD 7 0)
def unwrapE (v asked sec : List UInt8) : Int × List UInt8 × Nat :=
  if wrapE (saidW v asked sec).1 (saidW v asked sec).2.2.1 (saidW v asked sec).2.2.2 (saidW v asked sec).2.1 asked sec = (v, 0) then ((saidW v asked sec).1, (saidW v asked sec).2.1, 0) else (0, [], 2)
theorem wrapB_length (k s0 s1 : UInt8) (key asked sec : List UInt8) : (wrapB k s0 s1 key asked sec).length = 8 + 16 * ((key.length + 16) / 16) := by
  unfold wrapB; rw [List.length_append, hideE_length, List.length_cons, show key.length + 1 + 15 = key.length + 16 from rfl]; rfl
theorem wrap_ok {kind : Int} {s0 s1 : UInt8} {key asked sec v : List UInt8} (h : wrapE kind s0 s1 key asked sec = (v, 0)) :
    mayW kind key.length s0 = true ∧ v = wrapB (UInt8.ofNat kind.toNat) s0 s1 key asked sec := by
  unfold wrapE at h
  by_cases hm : mayW kind key.length s0 = true
  · rw [if_pos hm] at h; exact ⟨hm, (congrArg Prod.fst h).symm⟩
  · rw [if_neg hm] at h; simp at h
theorem mayW_spec {kind : Int} {n : Nat} {s0 : UInt8} (h : mayW kind n s0 = true) : (kind = 16 ∨ kind = 17) ∧ 0 < n ∧ n ≤ 200 ∧ 128 ≤ s0.toNat := by
  unfold mayW at h; simp at h; exact ⟨h.1.1.1, h.1.1.2, h.1.2, h.2⟩
theorem wrap_len {kind : Int} {s0 s1 : UInt8} {key asked sec v : List UInt8} (h : wrapE kind s0 s1 key asked sec = (v, 0)) : 24 ≤ v.length ∧ v.length ≤ 216 ∧ (v.length - 8) % 16 = 0 := by
  obtain ⟨hm, rfl⟩ := wrap_ok h
  obtain ⟨_, h1, h2, _⟩ := mayW_spec hm
  rw [wrapB_length]; omega
theorem unwrap_none {v asked sec : List UInt8} (h : ¬ (24 ≤ v.length ∧ v.length ≤ 216 ∧ (v.length - 8) % 16 = 0)) : unwrapE v asked sec = (0, [], 2) := by
  unfold unwrapE; rw [if_neg (fun h2 => h (wrap_len h2))]
theorem unwrap_zero {v asked sec : List UInt8} {s0 s1 : UInt8} (h : saidW v asked sec = (0, [], s0, s1)) : unwrapE v asked sec = (0, [], 2) := by
  unfold unwrapE
  rw [h, if_neg]
  intro h2
  obtain ⟨hm, _⟩ := wrap_ok h2
  have := (mayW_spec hm).2.1
  simp at this
theorem wrapB_get (k s0 s1 : UInt8) (key asked sec : List UInt8) : (wrapB k s0 s1 key asked sec).getD 4 0 = k ∧ (wrapB k s0 s1 key asked sec).getD 6 0 = s0 ∧ (wrapB k s0 s1 key asked sec).getD 7 0 = s1 ∧ (wrapB k s0 s1 key asked sec).drop 8 = hideE sec (asked ++ [s0, s1]) (UInt8.ofNat key.length :: key) := ⟨rfl, rfl, rfl, rfl⟩
/-- What is wrapped is unwrapped. -/
theorem unwrap_wrap {kind : Int} {s0 s1 : UInt8} {key asked sec v : List UInt8} (h : wrapE kind s0 s1 key asked sec = (v, 0)) : unwrapE v asked sec = (kind, key, 0) := by
  obtain ⟨h24, h216, _⟩ := wrap_len h
  obtain ⟨hm, hv⟩ := wrap_ok h
  obtain ⟨hk, h1, h2, _⟩ := mayW_spec hm
  obtain ⟨g4, g6, g7, g8⟩ := wrapB_get (UInt8.ofNat kind.toNat) s0 s1 key asked sec
  rw [← hv] at g4 g6 g7 g8
  have hsh : shownAs sec (asked ++ [s0, s1]) (v.drop 8) = padX (UInt8.ofNat key.length :: key) := by rw [g8, shown_hidden]
  have hpl := padX_length (UInt8.ofNat key.length :: key)
  rw [List.length_cons] at hpl
  have hp0 : (padX (UInt8.ofNat key.length :: key)).getD 0 0 = UInt8.ofNat key.length := rfl
  have hpt : ((padX (UInt8.ofNat key.length :: key)).drop 1).take key.length = key := by
    unfold padX
    rw [List.cons_append, List.drop_succ_cons, List.drop_zero, List.take_append_of_le_length (Nat.le_refl _), List.take_length]
  have hs : saidW v asked sec = (kind, key, s0, s1) := by
    unfold saidW
    rw [if_neg (by omega), g6, g7, hsh, hp0, ofNat_toNat _ (by omega), if_neg (by omega), hpt, g4, ofNat_toNat _ (by omega)]
    congr 1
    omega
  unfold unwrapE
  rw [hs, if_pos h]
/-- As the chapter has it: by parts. -/
theorem unwrap_parts {v asked sec : List UInt8} (h24 : 24 ≤ v.length) (S : List UInt8) (hS : S = shownAs sec (asked ++ [v.getD 6 0, v.getD 7 0]) (v.drop 8)) :
    (S.length ≤ (S.getD 0 0).toNat → unwrapE v asked sec = (0, [], 2)) ∧
    (¬ S.length ≤ (S.getD 0 0).toNat → unwrapE v asked sec = if wrapE ((v.getD 4 0).toNat : Int) (v.getD 6 0) (v.getD 7 0) ((S.drop 1).take (S.getD 0 0).toNat) asked sec = (v, 0) then (((v.getD 4 0).toNat : Int), (S.drop 1).take (S.getD 0 0).toNat, 0) else (0, [], 2)) := by
  by_cases hb : v.length ≤ 216
  · refine ⟨fun h => ?_, fun h => ?_⟩
    · refine unwrap_zero (s0 := v.getD 6 0) (s1 := v.getD 7 0) ?_
      unfold saidW
      rw [if_neg (by omega), ← hS, if_pos h]
    · have hs : saidW v asked sec = (((v.getD 4 0).toNat : Int), (S.drop 1).take (S.getD 0 0).toNat, v.getD 6 0, v.getD 7 0) := by
        unfold saidW
        rw [if_neg (by omega), ← hS, if_neg h]
      unfold unwrapE
      rw [hs]
  · have hn : unwrapE v asked sec = (0, [], 2) := unwrap_none (fun h => hb h.2.1)
    refine ⟨fun _ => hn, fun _ => ?_⟩
    rw [hn, if_neg (fun h => hb (wrap_len h).2.1)]
end Go.Proofs.YtbomckbekcaemaaDoor
