/-
  Joined: QRefMac, QRefMacO.
-/
import Derived.Test.YtbomckbekcaemaaDoorWb
import Derived.Test.YtbomckbekcaemaaDoorWd
import Derived.Test.YtbomckbekcaemaaDoorWa
import Derived.Test.YtbomckbekcaemaaDoorWh
import Derived.Test.YtbomckbekcaemaaDoorWc
namespace Go.Proofs.YtbomckbekcaemaaDoor
section
open Go.RowKit
theorem xorTo_map (c : UInt8) (pk : List UInt8) (hl : pk.length = 64) (k : Nat) (hk : k ≤ 64) : xorTo c pk k = (pk.take k).map (· ^^^ c) ++ List.replicate (64 - k) 0 := by
  induction k with
  | zero => simp [xorTo]
  | succ k ih =>
    rw [xorTo, ih (by omega), List.take_succ_eq_append_getElem (by omega), List.map_append, List.set_append_right _ _ (by simp; omega)]
    have e : k - ((pk.take k).map (· ^^^ c)).length = 0 := by simp; omega
    rw [e, show 64 - k = (64 - (k + 1)) + 1 by omega, List.replicate_succ, List.set_cons_zero]
    simp [List.getD_eq_getElem?_getD, List.getElem?_eq_getElem (show k < pk.length by omega)]
theorem xorTo_all (c : UInt8) (pk : List UInt8) (hl : pk.length = 64) : xorTo c pk 64 = pk.map (· ^^^ c) := by
  rw [xorTo_map c pk hl 64 (Nat.le_refl _), List.take_of_length_le (by omega)]; simp
theorem map_take_snoc (c : UInt8) (pk : List UInt8) (k : Nat) (hk : k < pk.length) : (pk.take (k + 1)).map (· ^^^ c) = (pk.take k).map (· ^^^ c) ++ [pk.getD k 0 ^^^ c] := by
  rw [List.take_succ_eq_append_getElem hk, List.map_append]
  simp [List.getD_eq_getElem?_getD, List.getElem?_eq_getElem hk]

/-- What holds while the two sums are made. -/
def MacS (w : World) (A A' : Option Addr) (c c' : Nat) (p q : List UInt8) (W : World) : Prop := Below w.heap.size w W ∧ Buf W w.heap.size A 64 c p ∧ Buf W w.heap.size A' 64 c' q
section
variable {w W W' : World} {c c' : Nat} {A A' : Option Addr} {p q : List UInt8}
theorem MacS.step (h : MacS w A A' c c' p q W) (hb : Below W.heap.size W W') : MacS w A A' c c' p q W' := ⟨h.1.trans (hb.mono h.1.size), h.2.1.below hb, h.2.2.below hb⟩
theorem MacS.drewN (h : MacS w A A' c c' p q W) (k : Nat) : MacS w A A' c c' p q (W.drewN k) := h.step (below_drewN (Below.refl _ _) k)
end
set_option maxRecDepth 100000 in
set_option maxHeartbeats 4000000 in
theorem refMacQ_any (key s : List UInt8) (w : World) (hk : key.length < 549755813888) (hn : s.length < 549755813000) :
    Calls Tryd.prog 71 #[.string ⟨key.toArray⟩, .string ⟨s.toArray⟩] w fun e w' => e = .returned (.string ⟨(hmacQ key s).toArray⟩) ∧ Below w.heap.size w w' := by
  have hpl := padKeyQ_length key
  have HM : Hid (hmacQ key s = md5 ((padKeyQ key).map (· ^^^ 92) ++ md5 ((padKeyQ key).map (· ^^^ 54) ++ s))) := (show _ = _ by unfold hmacQ; rw [xorTo_all _ _ hpl, xorTo_all _ _ hpl])
  obtain ⟨R, hR⟩ : ∃ R, R = hmacQ key s := ⟨_, rfl⟩
  rw [← hR] at HM ⊢
  clear hR
  have hcases : ∃ kk : List UInt8, kk.length ≤ 64 ∧ padKeyQ key = kk ++ List.replicate (64 - kk.length) 0 ∧ ((64 < key.length ∧ kk = md5 key) ∨ (¬ 64 < key.length ∧ kk = key)) := by
    by_cases h : 64 < key.length
    · exact ⟨md5 key, by rw [md5_length]; omega, (padKeyQ_long key h).symm, .inl ⟨h, rfl⟩⟩
    · exact ⟨key, by omega, (padKeyQ_short key (by omega)).symm, .inr ⟨h, rfl⟩⟩
  obtain ⟨kk, hkl, hpk, hor⟩ := hcases
  obtain ⟨pk, hpkd⟩ : ∃ pk, pk = padKeyQ key := ⟨_, rfl⟩
  rw [← hpkd] at hpl HM hpk
  clear hpkd
  have hget : ∀ i, i < kk.length → pk.getD i 0 = kk.getD i 0 := fun i hi => by
    rw [hpk, List.getD_eq_getElem?_getD, List.getElem?_append_left hi, ← List.getD_eq_getElem?_getD]
  have hget0 : ∀ i, ¬ i < kk.length → i < 64 → pk.getD i 0 = 0 := fun i hi h64 => by
    rw [hpk, List.getD_eq_getElem?_getD, List.getElem?_append_right (by omega), List.getElem?_replicate]
    split <;> rfl
  have HG := Lib.hid hget
  have HG0 := Lib.hid hget0
  have HPL := Lib.hid hpl
  have HPK := Lib.hid hpk
  clear hget hget0 hpl hpk
  go_enter Tryd.func71, Tryd.ntmps71
  rcases hor with ⟨hlong, rfl⟩ | ⟨hshort, rfl⟩
  case' inl =>
    have hd : decide ((64 : Int) < (key.length : Int)) = true := by simp; omega
    have hq := Lib.hid (fun W => refSumQ_any key W hk)
    go_wp2_with (go_at_call 53; ((with_reducible refine (hq.out _).mono ?_); rintro e w1 ⟨rfl, hb1⟩))
    clear hq hd hlong
    generalize md5 key = kk at *
  case' inr =>
    have hd : decide ((64 : Int) < (kk.length : Int)) = false := by simp; omega
    go_wp2
    have hb1 : Below w.heap.size w w := Below.refl _ _
    clear hd hshort
  all_goals
    go_loopw [5, 6, 7] (fun v v' i wr => ∃ (k c c' : Nat) (A A' : Option Addr), k ≤ 64 ∧ i = .int .i64 k ∧ v = .slice A k c ∧ v' = .slice A' k c' ∧ Buf wr w.heap.size A k c ((pk.take k).map (· ^^^ 54)) ∧ Buf wr w.heap.size A' k c' ((pk.take k).map (· ^^^ 92)) ∧ Apart A A' ∧ Below w.heap.size w wr) (fun _ _ i _ => 64 - (intOf i).toNat)
    case atStart => exact ⟨0, 0, 0, none, none, by omega, rfl, rfl, rfl, by simpa using Buf.nil _ _, by simpa using Buf.nil _ _, (fun a b e1 => by cases e1), hb1⟩
    case round =>
      clear hb1
      obtain ⟨k, c, c', A, A', hk64, rfl, rfl, rfl, hB, hB', hap, hb⟩ := hrel
      have hbs := hb.size
      by_cases hlt : k < 64
      · have hd1 : decide ((k : Int) < 64) = true := by simp; omega
        have HE1 := Lib.hid (map_take_snoc 54 pk k (by rw [HPL.out]; exact hlt))
        have HE2 := Lib.hid (map_take_snoc 92 pk k (by rw [HPL.out]; exact hlt))
        have hk0 : (0 : Int) ≤ (k : Int) := by omega
        obtain ⟨P, hP⟩ : ∃ P, P = (pk.take k).map (· ^^^ 54) := ⟨_, rfl⟩
        obtain ⟨P', hP'⟩ : ∃ P', P' = (pk.take k).map (· ^^^ 92) := ⟨_, rfl⟩
        rw [← hP] at hB HE1
        rw [← hP'] at hB' HE2
        clear hP hP'
        obtain ⟨x, hx⟩ : ∃ x, x = pk.getD k 0 := ⟨_, rfl⟩
        rw [← hx] at HE1 HE2
        by_cases hik : k < kk.length
        · have hd2 : decide ((k : Int) < (kk.length : Int)) = true := by simp; omega
          have hik2 : (k : Int) < (kk.length : Int) := by omega
          have hkx : (⟨kk.toArray⟩ : ByteArray)[k]'(show k < kk.length from hik) = x := by
            rw [hx, HG.out k hik]
            show kk.toArray[k] = _
            simp [List.getD_eq_getElem?_getD, List.getElem?_eq_getElem hik]
          clear hx
          go_wp2_with (first
            | ((with_reducible refine (?_ : wpList _ _ _ (Oper.mk (some 29) _ _ _ _ _ :: _) _ _)); go_loud (refine wpList_append_far rfl (.tmp 25) (.tmp 28) 26 rfl w.heap.size A k c P [x ^^^ 54] _ rfl (hB.alloc _) rfl (src_byte ((new_cell _ _ _).trans (by rw [b_xor54]))) (by simp only [List.length_cons, List.length_nil]; omega) (le_alloc hbs _) (k + 1) (by simp) ?_); intro A1 c1 w1 hB1 hg1 hf1;
               have hB2 := (hB'.alloc _).apart hg1 hap; have hap1 := hap.fresh (hB'.alloc _) hf1; have hb1 := below_own (hb.alloc hbs _) (hB.alloc _) hg1 (Nat.le_refl _) (le_alloc hbs _); have hbs1 := hb1.size; clear hg1 hf1)
            | ((with_reducible refine (?_ : wpList _ _ _ (Oper.mk (some 34) _ _ _ _ _ :: _) _ _)); go_loud (refine wpList_append_far rfl (.tmp 30) (.tmp 33) 26 rfl w.heap.size A' k c' P' [x ^^^ 92] _ rfl (hB2.alloc _) rfl (src_byte ((new_cell _ _ _).trans (by rw [b_xor92]))) (by simp only [List.length_cons, List.length_nil]; omega) (le_alloc hbs1 _) (k + 1) (by simp) ?_); intro A2 c2 w2 hB3 hg2 hf2;
               have hB4 := (hB1.alloc _).apart hg2 hap1.symm; have hap2 := (hap1.symm.fresh (hB1.alloc _) hf2).symm; have hb2 := below_own (hb1.alloc hbs1 _) (hB2.alloc _) hg2 (Nat.le_refl _) (le_alloc hbs1 _); clear hg2 hf2))
          go_roundw
          case rel => exact ⟨k + 1, c1, c2, A1, A2, by omega, by go_num, rfl, rfl, by rw [HE1.out]; exact hB4, by rw [HE2.out]; exact hB3, hap2, hb2⟩
          case measure => simp [intOf]; omega
        · have hd2 : decide ((k : Int) < (kk.length : Int)) = false := by simp; omega
          have hx0 : x = 0 := by rw [hx, HG0.out k hik hlt]
          clear hx
          subst hx0
          go_wp2_with (first
            | ((with_reducible refine (?_ : wpList _ _ _ (Oper.mk (some 29) _ _ _ _ _ :: _) _ _)); go_loud (refine wpList_append_far rfl (.tmp 25) (.tmp 28) 26 rfl w.heap.size A k c P [0 ^^^ 54] _ rfl (hB.alloc _) rfl (src_byte ((new_cell _ _ _).trans (congrArg (fun z => some (Value.int .u8 z)) (show bits .xor .u8 0 54 = ((0 ^^^ 54 : UInt8).toNat : Int) from by decide +kernel)))) (by simp only [List.length_cons, List.length_nil]; omega) (le_alloc hbs _) (k + 1) (by simp) ?_); intro A1 c1 w1 hB1 hg1 hf1;
               have hB2 := (hB'.alloc _).apart hg1 hap; have hap1 := hap.fresh (hB'.alloc _) hf1; have hb1 := below_own (hb.alloc hbs _) (hB.alloc _) hg1 (Nat.le_refl _) (le_alloc hbs _); have hbs1 := hb1.size; clear hg1 hf1)
            | ((with_reducible refine (?_ : wpList _ _ _ (Oper.mk (some 34) _ _ _ _ _ :: _) _ _)); go_loud (refine wpList_append_far rfl (.tmp 30) (.tmp 33) 26 rfl w.heap.size A' k c' P' [0 ^^^ 92] _ rfl (hB2.alloc _) rfl (src_byte ((new_cell _ _ _).trans (congrArg (fun z => some (Value.int .u8 z)) (show bits .xor .u8 0 92 = ((0 ^^^ 92 : UInt8).toNat : Int) from by decide +kernel)))) (by simp only [List.length_cons, List.length_nil]; omega) (le_alloc hbs1 _) (k + 1) (by simp) ?_); intro A2 c2 w2 hB3 hg2 hf2;
               have hB4 := (hB1.alloc _).apart hg2 hap1.symm; have hap2 := (hap1.symm.fresh (hB1.alloc _) hf2).symm; have hb2 := below_own (hb1.alloc hbs1 _) (hB2.alloc _) hg2 (Nat.le_refl _) (le_alloc hbs1 _); clear hg2 hf2))
          go_roundw
          case rel => exact ⟨k + 1, c1, c2, A1, A2, by omega, by go_num, rfl, rfl, by rw [HE1.out]; exact hB4, by rw [HE2.out]; exact hB3, hap2, hb2⟩
          case measure => simp [intOf]; omega
      · have hd1 : decide ((k : Int) < 64) = false := by simp; omega
        obtain rfl : k = 64 := by omega
        rw [List.take_of_length_le (by rw [HPL.out]; omega)] at hB hB'
        have hp1 : (pk.map (· ^^^ 54)).length = 64 := by rw [List.length_map]; exact HPL.out
        have hp2 : (pk.map (· ^^^ 92)).length = 64 := by rw [List.length_map]; exact HPL.out
        generalize pk.map (· ^^^ 54) = p at *
        generalize pk.map (· ^^^ 92) = q at *
        obtain ⟨y, hy⟩ : ∃ y, y = md5 (p ++ s) := ⟨_, rfl⟩
        rw [← hy] at HM
        have hyl : y.length = 16 := by rw [hy]; exact md5_length _
        have hcl1 : ¬ 9223372036854775807 < p.length + s.length := by omega
        have hcl2 : ¬ 9223372036854775807 < q.length + y.length := by omega
        have HR1 := Lib.hid (fun W => by
          have := refSumQ_any (p ++ s) W (by rw [List.length_append]; omega)
          rw [← hy] at this
          exact this)
        have HR2 := Lib.hid (fun W => by
          have := refSumQ_any (q ++ y) W (by rw [List.length_append]; omega)
          rw [← HM.out] at this
          exact this)
        have HS0 := Lib.hid (show MacS w A A' c c' p q wr.drew from ⟨below_drewN hb 1, hB.drew, hB'.drew⟩)
        have hcv1 := fun (W : World) (h : MacS w A A' c c' p q W) => conv_in hp1 (h.2.1.toIn (Nat.le_refl _))
        have hcv2 := fun (W : World) (h : MacS w A A' c c' p q W) => conv_in hp2 (h.2.2.toIn (Nat.le_refl _))
        clear hy hyl hp1 hp2 hB hB' hb hap hlt hd1
        go_wp2
        go_region_held3 (MacS w A A' c c' p q)
          (first
            | exact HS0.out
            | assumption
            | exact MacS.step (by assumption) (by assumption))
          (first
            | (go_at_call 53; rw [bytes_append]; ((with_reducible refine (HR1.out _).mono ?_); rintro e w7 ⟨rfl, hb7⟩))
            | (go_at_call 53; rw [bytes_append]; ((with_reducible refine (HR2.out _).mono ?_); rintro e w7 ⟨rfl, hb7⟩)))
        all_goals
          have hS := (by assumption : MacS w A A' c c' p q _)
          go_wp2
          go_ret
          exact ⟨rfl, hS.1⟩

end
section
open Go.RowKit
end
end Go.Proofs.YtbomckbekcaemaaDoor
