/-
  The law's func1: certificates, cut.
-/
import Derived.Test.YtagblbfbjemfhaaDoorJa
namespace Go.Proofs.YtagblbfbjemfhaaDoor
open Go.RowKit
open HelloMath (Msg)

def cutP (ps : List (List UInt8)) : List (List UInt8) := (ps.take 6).map (·.take 2100)
theorem cutP_len (ps : List (List UInt8)) : (cutP ps).length ≤ 6 := by unfold cutP; rw [List.length_map, List.length_take]; omega
theorem cutP_sz {ps : List (List UInt8)} {p : List UInt8} (h : p ∈ cutP ps) : p.length ≤ 2100 := by
  unfold cutP at h
  obtain ⟨q, _, rfl⟩ := List.mem_map.1 h
  rw [List.length_take]; omega
theorem cut_snoc {ps : List (List UInt8)} {k : Nat} (h : k < ps.length) : (ps.take (k + 1)).map (·.take 2100) = (ps.take k).map (·.take 2100) ++ [(ps.getD k []).take 2100] := by
  rw [List.take_succ_eq_append_getElem h, List.map_append, List.getD_eq_getElem?_getD, List.getElem?_eq_getElem h]; rfl
theorem cut_end {ps : List (List UInt8)} {k : Nat} (_h : k ≤ ps.length) (h6 : k ≤ 6) (he : k = ps.length ∨ k = 6) : (ps.take k).map (·.take 2100) = cutP ps := by
  unfold cutP
  congr 1
  rcases he with e | e
  · rw [e, List.take_of_length_le (Nat.le_refl _), List.take_of_length_le (by omega)]
  · rw [e]
theorem ix_cut {k n : Nat} (h : k < n) (hn : n ≤ 9223372036854775807) : (0 : Int) ≤ (k : Int) ∧ (k : Int) < (n : Int) ∧ wrap64 ((k : Int) + 1) = ((k + 1 : Nat) : Int) := by
  refine ⟨by omega, by omega, ?_⟩
  unfold wrap64; omega
set_option maxRecDepth 100000 in
set_option maxHeartbeats 1000000 in
theorem func1_e (v : Value) (ps : List (List UInt8)) (w : World) (h : StrR w v ps) : Calls Tryd.prog 20 #[v] w fun e w' => ∃ v', e = .returned v' ∧ Strs w' w.heap.size v' (cutP ps) ∧ Below w.heap.size w w' := by
  obtain ⟨A, c, rfl, hl, hrow⟩ := h
  obtain ⟨n, hn⟩ : ∃ n, ps.length = n := ⟨_, rfl⟩
  rw [hn] at hl hrow ⊢
  have HN := Lib.hid hn
  have HL := Lib.hid hl
  have HR := Lib.hid hrow
  clear hn hl hrow
  go_enter Tryd.func20, Tryd.ntmps20
  go_wp2
  go_loopw [4, 3] (fun i lv wr => ∃ k : Nat, k ≤ n ∧ k ≤ 6 ∧ i = .int .i64 (k : Int) ∧ Strs wr w.heap.size lv ((ps.take k).map (·.take 2100)) ∧ Below w.heap.size w wr) (fun i _ _ => n - (intOf i).toNat)
  case atStart => exact ⟨0, Nat.zero_le _, Nat.zero_le _, rfl, Strs.nil _ _, Below.refl _ _⟩
  case round =>
    obtain ⟨k, hk, hk2, rfl, hS, hbr⟩ := hrel
    by_cases hlt : k < n
    · have hd : (k : Int) < (n : Int) := by omega
      by_cases h6 : k < 6
      · have hd2 : (k : Int) < 6 := by omega
        have hkr : k < ps.length := by rw [HN.out]; exact hlt
        obtain ⟨gp, op, hAe, hgp, hcs⟩ := HR.out (Nat.lt_of_le_of_lt (Nat.zero_le _) hlt)
        obtain ⟨p, hp⟩ : ∃ p, ps.getD k [] = p := ⟨_, rfl⟩
        have hc1 := (hbr.cell (p := ⟨gp, op + k, none⟩) hgp).trans (hcs k hlt)
        rw [hp] at hc1
        have HTK := Lib.hid (show (ps.take (k + 1)).map (·.take 2100) = (ps.take k).map (·.take 2100) ++ [p.take 2100] by rw [cut_snoc hkr, hp])
        have HSS := Lib.hid hS
        have HB := Lib.hid hbr
        have HLL := Lib.hid (show ((ps.take k).map (·.take 2100)).length ≤ 1000000 by rw [List.length_map, List.length_take]; omega)
        have HK := Lib.hid (And.intro hlt h6)
        obtain ⟨hk0, hkn, hkw⟩ := ix_cut hlt (by have := HL.out; omega)
        have HKW := Lib.hid hkw
        subst hAe
        clear hcs hbr hgp hkw hk hk2 hlt h6 hkr hS hp
        go_wp2_with (first
          | ((with_reducible refine (?_ : wpList _ _ _ (Oper.mk (some 22) _ _ _ _ _ :: _) _ _)); go_loud (refine wpList_append_str rfl (.tmp 15) (.tmp 21) rfl w.heap.size _ _ rfl HSS.out ((Below.refl wr.heap.size wr).alloc (Nat.le_refl _) (.cells #[.string ⟨(p.take 2100).toArray⟩] 9)) HB.out.size wr.heap.size rfl (p.take 2100) ((Blk.new_of wr 9 #[.string ⟨(p.take 2100).toArray⟩] _ rfl).cell 0) HLL.out ?_); intro v6 w6 hR6 hb6; have hkw := HKW.out)
          | (go_at_call 21; refine (short_e p _).mono ?_; rintro e w5 ⟨rfl, he5⟩; obtain rfl := he5.symm))
        have hbz := HB.out.trans ((((Below.refl wr.heap.size wr).alloc (Nat.le_refl _) (.cells #[.string ⟨(p.take 2100).toArray⟩] 9)).mono HB.out.size).trans hb6)
        rw [← HTK.out] at hR6
        have HKK := Lib.hid (show k + 1 ≤ n ∧ k + 1 ≤ 6 ∧ n - (k + 1) < n - k by have := HK.out; omega)
        go_roundw
        case rel => exact ⟨k + 1, HKK.out.1, HKK.out.2.1, rfl, hR6, hbz⟩
        case measure => simpa [intOf] using HKK.out.2.2
      · have hd2 : ¬ (k : Int) < 6 := by omega
        have HE := Lib.hid (cut_end (ps := ps) (k := k) (by rw [HN.out]; exact hk) hk2 (.inr (by omega)))
        have HSS := Lib.hid hS
        clear hk hk2 hlt h6 hS
        go_wp2
        go_ret
        exact ⟨_, rfl, by rw [← HE.out]; exact HSS.out, hbr⟩
    · have hd : ¬ (k : Int) < (n : Int) := by omega
      have HE := Lib.hid (cut_end (ps := ps) (k := k) (by rw [HN.out]; exact hk) hk2 (.inl (by have := HN.out; omega)))
      have HSS := Lib.hid hS
      clear hk hk2 hlt hS
      go_wp2
      go_ret
      exact ⟨_, rfl, by rw [← HE.out]; exact HSS.out, hbr⟩
end Go.Proofs.YtagblbfbjemfhaaDoor
