/-
  Joined: QRefHide.
-/
import Derived.Test.YtbomckbekcaemaaDoorWi
import Derived.Test.YtbomckbekcaemaaDoorWb
import Derived.Test.YtbomckbekcaemaaDoorWf
import Derived.Test.YtbomckbekcaemaaDoorWh
import Derived.Test.YtbomckbekcaemaaDoorWa
import Derived.Test.YtbomckbekcaemaaDoorWc
namespace Go.Proofs.YtbomckbekcaemaaDoor
section
open Go.RowKit
def strLen : Value → Nat
  | .string b => b.size
  | _ => 0
theorem str_get (P : List UInt8) (i : Nat) (h : i < P.length) : (⟨P.toArray⟩ : ByteArray)[i]'(show i < P.length from h) = P.getD i 0 := by
  show P.toArray[i] = _
  simp [List.getD_eq_getElem?_getD, List.getElem?_eq_getElem h]
theorem index_str (P : List UInt8) (k : Nat) (hk : k < P.length) (W : World) :
    (Instr.index 9 (.string ⟨P.toArray⟩) (.int .i64 (k : Int))).run Tryd.prog W = .ok (.int .u8 (P.getD k 0).toNat) W := by
  have h := str_get P k hk
  have h' : (⟨P.toArray⟩ : ByteArray)[k]? = some (P.getD k 0) := by rw [← h]; exact getElem?_pos (⟨P.toArray⟩ : ByteArray) k hk
  simp [Instr.index, asIntOf, run_underlying Tryd.underlying9, h']
theorem i64_sum (a b : Nat) (h : a + b < 9223372036854775808) : IntKind.i64.wrap ((a : Int) + (b : Int)) = ((a + b : Nat) : Int) := by
  simp [IntKind.wrap, IntKind.signed, IntKind.bits]
  omega
theorem str_part (P : List UInt8) (k : Nat) : (⟨P.toArray⟩ : ByteArray).extract (16 * k) (16 * k + 16) = ⟨(sl P k).toArray⟩ := by
  apply ByteArray.ext
  simp [sl, List.take_drop, Nat.add_comm]

set_option maxRecDepth 100000 in
set_option maxHeartbeats 4000000 in
theorem refHide_false (sec beg s P : List UInt8) (n : Nat) (w : World) (hs : sec.length ≤ 1000000) (hbg : beg.length ≤ 1000000) (hb : s.length ≤ 1000000) (hn : n = (s.length + 15) / 16) (hP : P = s ++ List.replicate (16 * n - s.length) 0) :
    Calls Tryd.prog 59 #[.string ⟨sec.toArray⟩, .string ⟨beg.toArray⟩, .string ⟨s.toArray⟩, .bool false] w fun e w' => e = .returned (.string ⟨(hDone false sec beg P n).toArray⟩) ∧ Below w.heap.size w w' := by
  have hpl : P.length = 16 * n := by rw [hP, List.length_append, List.length_replicate]; omega
  have HP := Lib.hid hP
  have HN := Lib.hid hn
  have HPL := Lib.hid hpl
  have hnb : n ≤ 100000 := by omega
  have hm0 : ∀ m : Nat, m ≤ 1600000 → (m : Int).tmod 16 = ((m % 16 : Nat) : Int) := fun m _ => by rw [Int.tmod_eq_emod_of_nonneg (by omega)]; omega
  have HM := Lib.hid hm0
  clear hP hn hm0 hpl
  go_enter Tryd.func59, Tryd.ntmps59
  have d1 := HM.out s.length (by omega)
  obtain ⟨r, hr⟩ : ∃ r, r = s.length % 16 := ⟨_, rfl⟩
  rw [← hr] at d1
  clear hr
  go_wp2
  all_goals
    clear d1
    go_loopw [2] (fun sv wr => ∃ z, sv = .string ⟨(s ++ List.replicate z 0).toArray⟩ ∧ s.length + z ≤ 16 * n ∧ Below w.heap.size w wr) (fun sv _ => 16 * n - strLen sv)
    case atStart => exact ⟨0, by simp, by have := HN.out; omega, Below.refl _ _⟩
    case round =>
      obtain ⟨z, rfl, hz, hbl⟩ := hrel
      have hsl : (s ++ List.replicate z 0).length = s.length + z := by simp
      by_cases hmz : (s.length + z) % 16 = 0
      · have hzN : s.length + z = 16 * n := by have := HN.out; omega
        have hsP : s ++ List.replicate z 0 = P := by rw [HP.out]; congr 2; omega
        have d3 : (P.length : Int).tmod 16 = 0 := by have hpl : P.length = 16 * n := HPL.out; rw [HM.out _ (by omega)]; omega
        rw [hsP]
        clear hsP hsl hmz hz hzN
        have hplb : P.length ≤ 1600000 := by have := HPL.out; omega
        go_wp2
        go_loopw [1, 9, 10] (fun bv ov iv wr => ∃ (k p co : Nat) (Ao : Option Addr), k ≤ n ∧ Hid (p = 16 * k) ∧ iv = .int .i64 (p : Int) ∧ bv = .string ⟨(hAh false sec beg P k).toArray⟩ ∧ ov = .slice Ao p co ∧ Buf wr w.heap.size Ao p co (hDone false sec beg P k) ∧ Below w.heap.size w wr) (fun _ _ i _ => 16 * n - (intOf i).toNat)
        case atStart => exact ⟨0, 0, 0, none, Nat.zero_le _, (show _ = _ from rfl), rfl, rfl, rfl, Buf.nil _ _, hbl⟩
        case round =>
          clear hbl
          obtain ⟨k, p, co, Ao, hk, HPK, rfl, rfl, rfl, hO, hbl⟩ := hrel
          have hpk : p = 16 * k := HPK.out
          have hpl : P.length = 16 * n := HPL.out
          by_cases hlt : p < P.length
          · have hkn : k < n := by omega
            have hd : decide ((p : Int) < (P.length : Int)) = true := by simp; omega
            have hla : (hAh false sec beg P k).length ≤ beg.length + 16 := hAh_length (by omega)
            have hX := hOb_length (back := false) (sec := sec) (beg := beg) (P := P) (k := k) (by omega)
            have hXg := fun i (hi : i < 16) => hOb_get (back := false) (sec := sec) (beg := beg) (P := P) (k := k) (i := i) (by omega) hi
            have hXs : hAh false sec beg P (k + 1) = hOb false sec beg P k := hAh_false k
            have hDs : hDone false sec beg P (k + 1) = hDone false sec beg P k ++ hOb false sec beg P k := rfl
            have hsp : (⟨P.toArray⟩ : ByteArray).extract p (p + 16) = ⟨(sl P k).toArray⟩ := by rw [hpk]; exact str_part P k
            generalize hDone false sec beg P k = D at hO hDs
            generalize hAh false sec beg P k = a at hla hXg
            generalize hOb false sec beg P k = X at hX hXg hDs hXs
            generalize sl P k = Y0 at hsp
            rw [← hpk] at hXg
            have hcl : ¬ 9223372036854775807 < sec.length + a.length := by omega
            have hRef := fun W => refSumQ_any (sec ++ a) W (by rw [List.length_append]; omega)
            have hml := md5_length (sec ++ a)
            generalize md5 (sec ++ a) = m at hRef hml hXg
            have HML := Lib.hid hml
            have HXG := Lib.hid hXg
            have HX := Lib.hid hX
            have HXS := Lib.hid hXs
            have HDS := Lib.hid hDs
            have HSP := Lib.hid hsp
            have HREF := Lib.hid hRef
            clear hml hXg hX hXs hDs hsp hRef hpk hpl
            go_wp2_with (go_at_call 53; rw [bytes_append]; ((with_reducible refine (HREF.out _).mono ?_); rintro e w2 ⟨rfl, hb2⟩))
            have hO2 := hO.below hb2
            have hbl2 := hbl.trans (hb2.mono hbl.size)
            clear hO hb2 hbl HREF
            go_loopw [12, 13] (fun pv iv wr => ∃ (i cp : Nat) (Ap : Option Addr), i ≤ 16 ∧ iv = .int .i64 (i : Int) ∧ pv = .slice Ap i cp ∧ Buf wr w2.heap.size Ap i cp (X.take i) ∧ Below w2.heap.size w2 wr) (fun _ i _ => 16 - (intOf i).toNat)
            case atStart => exact ⟨0, 0, none, Nat.zero_le _, rfl, rfl, by simpa using Buf.nil _ _, Below.refl _ _⟩
            case round =>
              obtain ⟨i, cp, Ap, hi, rfl, rfl, hP, hbl3⟩ := hrel
              by_cases hil : i < 16
              · have hd2 : decide ((i : Int) < 16) = true := by simp; omega
                have hpN : p + i < P.length := by have := HPK.out; have := HPL.out; omega
                have hx : bits .xor .u8 ((P.getD (p + i) 0).toNat : Int) ((m.getD i 0).toNat : Int) = ((X.getD i 0).toNat : Int) := by rw [b_xor, HXG.out i hil]
                have hg1 := index_str P (p + i) hpN
                have hml : m.length = 16 := HML.out
                have hg2 := index_str m i (by omega)
                have hY : X.take (i + 1) = X.take i ++ [X.getD i 0] := by
                  rw [List.take_succ_eq_append_getElem (by rw [HX.out]; exact hil)]
                  simp [List.getD_eq_getElem?_getD, List.getElem?_eq_getElem (show i < X.length by rw [HX.out]; exact hil)]
                have HY := Lib.hid hY
                clear hY
                generalize P.getD (p + i) 0 = x1 at *
                generalize m.getD i 0 = x2 at *
                generalize X.getD i 0 = x3 at *
                generalize X.take i = Y at *
                have hw0 := i64_sum p i (by have := HPL.out; omega)
                generalize p + i = q at hg1 hw0
                clear hpN hml
                go_wp2
                refine wp_region_noPanic ?_
                apply wp_region_once_tail (m := 10) (Z := [0]) (D := [[], [], [], [], [2, 3], [1, 2, 3, 4], [], [], [6, 7], [1, 2, 3, 4, 5, 6, 7, 8], [1, 2, 3, 4, 5, 6, 7, 8, 9], [0, 1, 2, 3, 4, 5, 6, 7, 8, 9, 10], [0, 1, 2, 3, 4, 5, 6, 7, 8, 9, 10, 11]]) (J := [[], [], [], [], [2, 3], [1, 4], [], [], [6, 7], [5, 8]]) (Je := [0, 9]) (Rs := [Is _, Is _, Is _, Is _, Is _, Is _, Is _, Is _, Is _, Is _])
                · kernel_rfl
                · kernel_rfl
                · kernel_rfl
                · kernel_rfl
                · kernel_rfl
                · kernel_rfl
                · kernel_rfl
                · exact fun _ _ _ _ _ _ h => h
                · intro u
                  simp only [List.take_succ_cons, List.take_zero, List.map_cons, List.map_nil, fillU, List.setIfInBounds_toArray, List.set_cons_zero, List.set_cons_succ, Nat.zero_add, Nat.reduceAdd]
                  exact rfl
                · simp only [List.take_succ_cons, List.take_zero]
                  refine ⟨fun u W hb hd K hK => ?_, ?_⟩
                  · clear hd
                    go_simp
                    apply hK
                    · simp only [Act.put, List.setIfInBounds_toArray, List.set_cons_zero, List.set_cons_succ]
                      exact rfl
                    · exact Below.refl _ _
                    · exact IsOut
                  refine ⟨fun u W hb hd K hK => ?_, ?_⟩
                  · clear hd
                    go_simp
                    apply hK
                    · simp only [Act.put, List.setIfInBounds_toArray, List.set_cons_zero, List.set_cons_succ]
                      exact rfl
                    · exact Below.refl _ _
                    · exact IsOut
                  refine ⟨fun u W hb hd K hK => ?_, ?_⟩
                  · clear hd
                    go_simp
                    apply hK
                    · simp only [Act.put, List.setIfInBounds_toArray, List.set_cons_zero, List.set_cons_succ]
                      exact rfl
                    · exact Below.refl _ _
                    · exact IsOut
                  refine ⟨fun u W hb hd K hK => ?_, ?_⟩
                  · clear hd
                    go_simp
                    apply hK
                    · simp only [Act.put, List.setIfInBounds_toArray, List.set_cons_zero, List.set_cons_succ]
                      exact rfl
                    · exact Below.refl _ _
                    · exact IsOut
                  refine ⟨fun u W hb hd K hK => ?_, ?_⟩
                  · simp only [Facts, nthR, Is, and_true] at hd
                    simp only [hd] at hK ⊢
                    clear hd
                    go_simp
                    apply hK
                    · simp only [Act.put, List.setIfInBounds_toArray, List.set_cons_zero, List.set_cons_succ]
                      exact rfl
                    · exact Below.refl _ _
                    · exact IsOut
                  refine ⟨fun u W hb hd K hK => ?_, ?_⟩
                  · simp only [Facts, nthR, Is, and_true] at hd
                    simp only [hd] at hK ⊢
                    clear hd
                    go_simp
                    apply hK
                    · simp only [Act.put, List.setIfInBounds_toArray, List.set_cons_zero, List.set_cons_succ]
                      exact rfl
                    · exact Below.refl _ _
                    · exact IsOut
                  refine ⟨fun u W hb hd K hK => ?_, ?_⟩
                  · clear hd
                    go_simp
                    apply hK
                    · simp only [Act.put, List.setIfInBounds_toArray, List.set_cons_zero, List.set_cons_succ]
                      exact rfl
                    · exact Below.refl _ _
                    · exact IsOut
                  refine ⟨fun u W hb hd K hK => ?_, ?_⟩
                  · clear hd
                    go_simp
                    apply hK
                    · simp only [Act.put, List.setIfInBounds_toArray, List.set_cons_zero, List.set_cons_succ]
                      exact rfl
                    · exact Below.refl _ _
                    · exact IsOut
                  refine ⟨fun u W hb hd K hK => ?_, ?_⟩
                  · simp only [Facts, nthR, Is, and_true] at hd
                    simp only [hd] at hK ⊢
                    clear hd
                    go_simp
                    apply hK
                    · simp only [Act.put, List.setIfInBounds_toArray, List.set_cons_zero, List.set_cons_succ]
                      exact rfl
                    · exact Below.refl _ _
                    · exact IsOut
                  refine ⟨fun u W hb hd K hK => ?_, ?_⟩
                  · simp only [Facts, nthR, Is, and_true] at hd
                    simp only [hd] at hK ⊢
                    clear hd
                    go_simp
                    apply hK
                    · simp only [Act.put, List.setIfInBounds_toArray, List.set_cons_zero, List.set_cons_succ]
                      exact rfl
                    · exact Below.refl _ _
                    · exact IsOut
                  exact trivial
                · skip
                  refine ⟨fun o ho u W hb hd => ?_, ?_⟩
                  · obtain rfl := Option.some.inj ho
                    simp only [Facts, List.getD_cons_zero] at hd
                    exact ⟨_, .inl ⟨by rfl, fun w' => by go_simp⟩, IsOut (w := W)⟩
                  exact trivial
                · exact (.is (.is (.is (.is (.is (.is (.is (.is (.is (.is .nil))))))))))
                · intro u W hb hd
                  simp only [List.drop_succ_cons, List.drop_zero]
                  simp only [Facts, nthR, Is, and_true] at hd
                  simp only [hd]
                  clear hd
                  replace hP := hP.below hb
                  replace hbl3 := hbl3.trans (hb.mono hbl3.size)
                  clear hb
                  go_wp2_with ((with_reducible refine (?_ : wpList _ _ _ (Oper.mk (some 52) _ _ _ _ _ :: _) _ _)); go_loud (refine wpList_append_buf rfl (.tmp 41) (.tmp 51) 26 rfl w2.heap.size Ap i cp Y [x3] _ rfl (hP.alloc _) rfl (src_byte (new_cell _ _ _)) (by simp only [List.length_cons, List.length_nil]; omega) (le_alloc hbl3.size _) ?_); intro A5 c5 w5 hB5 hg5; have hb5 := below_own (hbl3.alloc hbl3.size _) (hP.alloc _) hg5 (Nat.le_refl _) (le_alloc hbl3.size _); clear hg5)
                  refine NoPanic.normal ?_
                  go_wp2
                  go_roundw
                  case rel =>
                    refine ⟨i + 1, c5, A5, by omega, by go_num, rfl, ?_, hb5⟩
                    rw [HY.out]
                    exact hB5
                  case measure => simp [intOf]; omega
              · have hd2 : decide ((i : Int) < 16) = false := by simp; omega
                obtain rfl : i = 16 := by omega
                rw [List.take_of_length_le (by rw [HX.out]; omega)] at hP
                have hO3 := hO2.below hbl3
                have hbl4 := hbl2.trans (hbl3.mono hbl2.size)
                have hp16 : p + 16 ≤ P.length := by have := HPK.out; have := HPL.out; omega
                have hw0 := i64_sum p 16 (by have := HPL.out; omega)
                have hXl : X.length = 16 := HX.out
                have hIP := hP.toIn (Nat.le_refl _)
                have hne : ∀ g, Ap = some ⟨g, 0, none⟩ → some g ≠ ownOf Ao := fun g e1 e2 => by
                  have h1 := hP.lt e1
                  cases Ao with
                  | none => simp [ownOf] at e2
                  | some a =>
                    simp only [ownOf, Option.some.injEq] at e2
                    rcases hO2.2 with ⟨e3, _⟩ | ⟨g2, e3, _, h3, _⟩
                    · cases e3
                    · cases e3; simp at e2; omega
                have hsrc : _root_.Go.Src Tryd.prog 1 26 (.slice Ap 16 cp) X.length (X.map B8) wr := by
                  have := src_in' (c := cp) (hIP.src (Nat.le_refl _))
                  rw [hXl] at this ⊢
                  exact this
                clear hO2 hbl2 hbl3 hIP
                go_wp2_with (first
                  | ((with_reducible refine (?_ : wpList _ _ _ (Oper.mk (some 55) _ _ _ _ _ :: _) _ _)); go_loud (refine wpList_append_far rfl (.tmp 53) (.tmp 54) 26 rfl w.heap.size Ao p co D X _ rfl hO3 rfl hsrc (by omega) hbl4.size (p + 16) (by omega) ?_); intro A6 c6 w6 hB6 hg6 _; have hP6 := hP.kept hg6 hne; have hb6 := below_own hbl4 hO3 hg6 (Nat.le_refl _) hbl4.size; have hI6 := hP6.toIn (Nat.le_refl _); clear hg6)
                  | ((with_reducible refine (?_ : wpList _ _ _ (Oper.mk (some 57) _ _ _ _ _ :: _) _ _)); go_loud (refine wpList_string_of rfl (.tmp 56) rfl X Ap cp w6.heap.size (by rw [hXl]; rfl) (hI6.src (Nat.le_refl _)) ?_)))
                go_roundw
                case rel =>
                  refine ⟨k + 1, p + 16, c6, A6, by omega, ?_, by go_num, by rw [HXS.out], rfl, by rw [HDS.out]; exact hB6, hb6⟩
                  show _ = _
                  have := HPK.out; omega
                case measure => have := HPL.out; simp [intOf]; omega
          · have hd : decide ((p : Int) < (P.length : Int)) = false := by simp; omega
            obtain rfl : k = n := by omega
            have hIO := hO.toIn (Nat.le_refl _)
            have hDl := hDone_length (back := false) (sec := sec) (beg := beg) (P := P) (k := k) (by omega)
            rw [← hpk] at hDl
            obtain ⟨D, hDd⟩ : ∃ D, D = hDone false sec beg P k := ⟨_, rfl⟩
            rw [← hDd] at hIO hDl
            have HDD := Lib.hid hDd
            subst hDl
            clear hpk hpl HPK hDd
            go_wp2_with (refine wpList_string_of rfl (.tmp 64) rfl D Ao co wr.heap.size rfl (hIO.src (Nat.le_refl _)) ?_)
            go_ret
            exact ⟨by rw [← HDD.out]; rfl, hbl⟩
      · have d3 : ((s ++ List.replicate z 0).length : Int).tmod 16 = (((s.length + z) % 16 : Nat) : Int) := by rw [hsl, HM.out _ (by omega)]
        obtain ⟨t, ht⟩ : ∃ t, t = (s.length + z) % 16 := ⟨_, rfl⟩
        rw [← ht] at d3 hmz
        have ht0 : ¬ ((t : Int) = 0) := by omega
        have hap : (⟨(s ++ List.replicate z 0).toArray⟩ : ByteArray) ++ ⟨#[0]⟩ = ⟨(s ++ List.replicate (z + 1) 0).toArray⟩ := by
          rw [show (⟨#[0]⟩ : ByteArray) = ⟨([0] : List UInt8).toArray⟩ from rfl, bytes_append, List.append_assoc, ← List.replicate_succ']
        have hz1 : s.length + (z + 1) ≤ 16 * n := by have := HN.out; omega
        have hcl0 : ¬ 9223372036854775807 < (s ++ List.replicate z 0).length + 1 := by omega
        have HSL := Lib.hid hsl
        clear ht hmz
        generalize hS : s ++ List.replicate z 0 = S at *
        clear hsl
        go_wp2
        refine ⟨⟨z + 1, rfl, hz1, hbl⟩, ?_⟩
        have hl1 : (s ++ List.replicate (z + 1) 0).length = s.length + (z + 1) := by simp
        show 16 * n - (s ++ List.replicate (z + 1) 0).length < 16 * n - S.length
        rw [HSL.out, hl1]
        omega

set_option maxRecDepth 100000 in
set_option maxHeartbeats 4000000 in
theorem refHide_true (sec beg s P : List UInt8) (n : Nat) (w : World) (hs : sec.length ≤ 1000000) (hbg : beg.length ≤ 1000000) (hb : s.length ≤ 1000000) (hn : n = (s.length + 15) / 16) (hP : P = s ++ List.replicate (16 * n - s.length) 0) (hk : s.length % 16 = 0) :
    Calls Tryd.prog 59 #[.string ⟨sec.toArray⟩, .string ⟨beg.toArray⟩, .string ⟨s.toArray⟩, .bool true] w fun e w' => e = .returned (.string ⟨(hDone true sec beg P n).toArray⟩) ∧ Below w.heap.size w w' := by
  have hpl : P.length = 16 * n := by rw [hP, List.length_append, List.length_replicate]; omega
  have HP := Lib.hid hP
  have HN := Lib.hid hn
  have HPL := Lib.hid hpl
  have hnb : n ≤ 100000 := by omega
  have hm0 : ∀ m : Nat, m ≤ 1600000 → (m : Int).tmod 16 = ((m % 16 : Nat) : Int) := fun m _ => by rw [Int.tmod_eq_emod_of_nonneg (by omega)]; omega
  have HM := Lib.hid hm0
  clear hP hn hm0 hpl
  go_enter Tryd.func59, Tryd.ntmps59
  have d1 : (s.length : Int).tmod 16 = 0 := by rw [HM.out _ (by omega), hk]; rfl
  go_wp2
  go_loopw [2] (fun sv wr => ∃ z, sv = .string ⟨(s ++ List.replicate z 0).toArray⟩ ∧ s.length + z ≤ 16 * n ∧ Below w.heap.size w wr) (fun sv _ => 16 * n - strLen sv)
  case atStart => exact ⟨0, by simp, by have := HN.out; omega, Below.refl _ _⟩
  case round =>
    obtain ⟨z, rfl, hz, hbl⟩ := hrel
    have hsl : (s ++ List.replicate z 0).length = s.length + z := by simp
    by_cases hmz : (s.length + z) % 16 = 0
    · have hzN : s.length + z = 16 * n := by have := HN.out; omega
      have hsP : s ++ List.replicate z 0 = P := by rw [HP.out]; congr 2; omega
      have d3 : (P.length : Int).tmod 16 = 0 := by have hpl : P.length = 16 * n := HPL.out; rw [HM.out _ (by omega)]; omega
      rw [hsP]
      clear hsP hsl hmz hz hzN
      have hplb : P.length ≤ 1600000 := by have := HPL.out; omega
      go_wp2
      go_loopw [1, 9, 10] (fun bv ov iv wr => ∃ (k p co : Nat) (Ao : Option Addr), k ≤ n ∧ Hid (p = 16 * k) ∧ iv = .int .i64 (p : Int) ∧ bv = .string ⟨(hAh true sec beg P k).toArray⟩ ∧ ov = .slice Ao p co ∧ Buf wr w.heap.size Ao p co (hDone true sec beg P k) ∧ Below w.heap.size w wr) (fun _ _ i _ => 16 * n - (intOf i).toNat)
      case atStart => exact ⟨0, 0, 0, none, Nat.zero_le _, (show _ = _ from rfl), rfl, rfl, rfl, Buf.nil _ _, hbl⟩
      case round =>
        clear hbl
        obtain ⟨k, p, co, Ao, hk, HPK, rfl, rfl, rfl, hO, hbl⟩ := hrel
        have hpk : p = 16 * k := HPK.out
        have hpl : P.length = 16 * n := HPL.out
        by_cases hlt : p < P.length
        · have hkn : k < n := by omega
          have hd : decide ((p : Int) < (P.length : Int)) = true := by simp; omega
          have hla : (hAh true sec beg P k).length ≤ beg.length + 16 := hAh_length (by omega)
          have hX := hOb_length (back := true) (sec := sec) (beg := beg) (P := P) (k := k) (by omega)
          have hXg := fun i (hi : i < 16) => hOb_get (back := true) (sec := sec) (beg := beg) (P := P) (k := k) (i := i) (by omega) hi
          have hXs : hAh true sec beg P (k + 1) = sl P k := hAh_true k
          have hDs : hDone true sec beg P (k + 1) = hDone true sec beg P k ++ hOb true sec beg P k := rfl
          have hsp : (⟨P.toArray⟩ : ByteArray).extract p (p + 16) = ⟨(sl P k).toArray⟩ := by rw [hpk]; exact str_part P k
          generalize hDone true sec beg P k = D at hO hDs
          generalize hAh true sec beg P k = a at hla hXg
          generalize hOb true sec beg P k = X at hX hXg hDs
          generalize sl P k = Y0 at hsp hXs
          rw [← hpk] at hXg
          have hcl : ¬ 9223372036854775807 < sec.length + a.length := by omega
          have hRef := fun W => refSumQ_any (sec ++ a) W (by rw [List.length_append]; omega)
          have hml := md5_length (sec ++ a)
          generalize md5 (sec ++ a) = m at hRef hml hXg
          have HML := Lib.hid hml
          have HXG := Lib.hid hXg
          have HX := Lib.hid hX
          have HXS := Lib.hid hXs
          have HDS := Lib.hid hDs
          have HSP := Lib.hid hsp
          have HREF := Lib.hid hRef
          clear hml hXg hX hXs hDs hsp hRef hpk hpl
          go_wp2_with (go_at_call 53; rw [bytes_append]; ((with_reducible refine (HREF.out _).mono ?_); rintro e w2 ⟨rfl, hb2⟩))
          have hO2 := hO.below hb2
          have hbl2 := hbl.trans (hb2.mono hbl.size)
          clear hO hb2 hbl HREF
          go_loopw [12, 13] (fun pv iv wr => ∃ (i cp : Nat) (Ap : Option Addr), i ≤ 16 ∧ iv = .int .i64 (i : Int) ∧ pv = .slice Ap i cp ∧ Buf wr w2.heap.size Ap i cp (X.take i) ∧ Below w2.heap.size w2 wr) (fun _ i _ => 16 - (intOf i).toNat)
          case atStart => exact ⟨0, 0, none, Nat.zero_le _, rfl, rfl, by simpa using Buf.nil _ _, Below.refl _ _⟩
          case round =>
            obtain ⟨i, cp, Ap, hi, rfl, rfl, hP, hbl3⟩ := hrel
            by_cases hil : i < 16
            · have hd2 : decide ((i : Int) < 16) = true := by simp; omega
              have hpN : p + i < P.length := by have := HPK.out; have := HPL.out; omega
              have hx : bits .xor .u8 ((P.getD (p + i) 0).toNat : Int) ((m.getD i 0).toNat : Int) = ((X.getD i 0).toNat : Int) := by rw [b_xor, HXG.out i hil]
              have hg1 := index_str P (p + i) hpN
              have hml : m.length = 16 := HML.out
              have hg2 := index_str m i (by omega)
              have hY : X.take (i + 1) = X.take i ++ [X.getD i 0] := by
                rw [List.take_succ_eq_append_getElem (by rw [HX.out]; exact hil)]
                simp [List.getD_eq_getElem?_getD, List.getElem?_eq_getElem (show i < X.length by rw [HX.out]; exact hil)]
              have HY := Lib.hid hY
              clear hY
              generalize P.getD (p + i) 0 = x1 at *
              generalize m.getD i 0 = x2 at *
              generalize X.getD i 0 = x3 at *
              generalize X.take i = Y at *
              have hw0 := i64_sum p i (by have := HPL.out; omega)
              generalize p + i = q at hg1 hw0
              clear hpN hml
              go_wp2
              refine wp_region_noPanic ?_
              apply wp_region_once_tail (m := 10) (Z := [0]) (D := [[], [], [], [], [2, 3], [1, 2, 3, 4], [], [], [6, 7], [1, 2, 3, 4, 5, 6, 7, 8], [1, 2, 3, 4, 5, 6, 7, 8, 9], [0, 1, 2, 3, 4, 5, 6, 7, 8, 9, 10], [0, 1, 2, 3, 4, 5, 6, 7, 8, 9, 10, 11]]) (J := [[], [], [], [], [2, 3], [1, 4], [], [], [6, 7], [5, 8]]) (Je := [0, 9]) (Rs := [Is _, Is _, Is _, Is _, Is _, Is _, Is _, Is _, Is _, Is _])
              · kernel_rfl
              · kernel_rfl
              · kernel_rfl
              · kernel_rfl
              · kernel_rfl
              · kernel_rfl
              · kernel_rfl
              · exact fun _ _ _ _ _ _ h => h
              · intro u
                simp only [List.take_succ_cons, List.take_zero, List.map_cons, List.map_nil, fillU, List.setIfInBounds_toArray, List.set_cons_zero, List.set_cons_succ, Nat.zero_add, Nat.reduceAdd]
                exact rfl
              · simp only [List.take_succ_cons, List.take_zero]
                refine ⟨fun u W hb hd K hK => ?_, ?_⟩
                · clear hd
                  go_simp
                  apply hK
                  · simp only [Act.put, List.setIfInBounds_toArray, List.set_cons_zero, List.set_cons_succ]
                    exact rfl
                  · exact Below.refl _ _
                  · exact IsOut
                refine ⟨fun u W hb hd K hK => ?_, ?_⟩
                · clear hd
                  go_simp
                  apply hK
                  · simp only [Act.put, List.setIfInBounds_toArray, List.set_cons_zero, List.set_cons_succ]
                    exact rfl
                  · exact Below.refl _ _
                  · exact IsOut
                refine ⟨fun u W hb hd K hK => ?_, ?_⟩
                · clear hd
                  go_simp
                  apply hK
                  · simp only [Act.put, List.setIfInBounds_toArray, List.set_cons_zero, List.set_cons_succ]
                    exact rfl
                  · exact Below.refl _ _
                  · exact IsOut
                refine ⟨fun u W hb hd K hK => ?_, ?_⟩
                · clear hd
                  go_simp
                  apply hK
                  · simp only [Act.put, List.setIfInBounds_toArray, List.set_cons_zero, List.set_cons_succ]
                    exact rfl
                  · exact Below.refl _ _
                  · exact IsOut
                refine ⟨fun u W hb hd K hK => ?_, ?_⟩
                · simp only [Facts, nthR, Is, and_true] at hd
                  simp only [hd] at hK ⊢
                  clear hd
                  go_simp
                  apply hK
                  · simp only [Act.put, List.setIfInBounds_toArray, List.set_cons_zero, List.set_cons_succ]
                    exact rfl
                  · exact Below.refl _ _
                  · exact IsOut
                refine ⟨fun u W hb hd K hK => ?_, ?_⟩
                · simp only [Facts, nthR, Is, and_true] at hd
                  simp only [hd] at hK ⊢
                  clear hd
                  go_simp
                  apply hK
                  · simp only [Act.put, List.setIfInBounds_toArray, List.set_cons_zero, List.set_cons_succ]
                    exact rfl
                  · exact Below.refl _ _
                  · exact IsOut
                refine ⟨fun u W hb hd K hK => ?_, ?_⟩
                · clear hd
                  go_simp
                  apply hK
                  · simp only [Act.put, List.setIfInBounds_toArray, List.set_cons_zero, List.set_cons_succ]
                    exact rfl
                  · exact Below.refl _ _
                  · exact IsOut
                refine ⟨fun u W hb hd K hK => ?_, ?_⟩
                · clear hd
                  go_simp
                  apply hK
                  · simp only [Act.put, List.setIfInBounds_toArray, List.set_cons_zero, List.set_cons_succ]
                    exact rfl
                  · exact Below.refl _ _
                  · exact IsOut
                refine ⟨fun u W hb hd K hK => ?_, ?_⟩
                · simp only [Facts, nthR, Is, and_true] at hd
                  simp only [hd] at hK ⊢
                  clear hd
                  go_simp
                  apply hK
                  · simp only [Act.put, List.setIfInBounds_toArray, List.set_cons_zero, List.set_cons_succ]
                    exact rfl
                  · exact Below.refl _ _
                  · exact IsOut
                refine ⟨fun u W hb hd K hK => ?_, ?_⟩
                · simp only [Facts, nthR, Is, and_true] at hd
                  simp only [hd] at hK ⊢
                  clear hd
                  go_simp
                  apply hK
                  · simp only [Act.put, List.setIfInBounds_toArray, List.set_cons_zero, List.set_cons_succ]
                    exact rfl
                  · exact Below.refl _ _
                  · exact IsOut
                exact trivial
              · skip
                refine ⟨fun o ho u W hb hd => ?_, ?_⟩
                · obtain rfl := Option.some.inj ho
                  simp only [Facts, List.getD_cons_zero] at hd
                  exact ⟨_, .inl ⟨by rfl, fun w' => by go_simp⟩, IsOut (w := W)⟩
                exact trivial
              · exact (.is (.is (.is (.is (.is (.is (.is (.is (.is (.is .nil))))))))))
              · intro u W hb hd
                simp only [List.drop_succ_cons, List.drop_zero]
                simp only [Facts, nthR, Is, and_true] at hd
                simp only [hd]
                clear hd
                replace hP := hP.below hb
                replace hbl3 := hbl3.trans (hb.mono hbl3.size)
                clear hb
                go_wp2_with ((with_reducible refine (?_ : wpList _ _ _ (Oper.mk (some 52) _ _ _ _ _ :: _) _ _)); go_loud (refine wpList_append_buf rfl (.tmp 41) (.tmp 51) 26 rfl w2.heap.size Ap i cp Y [x3] _ rfl (hP.alloc _) rfl (src_byte (new_cell _ _ _)) (by simp only [List.length_cons, List.length_nil]; omega) (le_alloc hbl3.size _) ?_); intro A5 c5 w5 hB5 hg5; have hb5 := below_own (hbl3.alloc hbl3.size _) (hP.alloc _) hg5 (Nat.le_refl _) (le_alloc hbl3.size _); clear hg5)
                refine NoPanic.normal ?_
                go_wp2
                go_roundw
                case rel =>
                  refine ⟨i + 1, c5, A5, by omega, by go_num, rfl, ?_, hb5⟩
                  rw [HY.out]
                  exact hB5
                case measure => simp [intOf]; omega
            · have hd2 : decide ((i : Int) < 16) = false := by simp; omega
              obtain rfl : i = 16 := by omega
              rw [List.take_of_length_le (by rw [HX.out]; omega)] at hP
              have hO3 := hO2.below hbl3
              have hbl4 := hbl2.trans (hbl3.mono hbl2.size)
              have hp16 : p + 16 ≤ P.length := by have := HPK.out; have := HPL.out; omega
              have hw0 := i64_sum p 16 (by have := HPL.out; omega)
              have hXl : X.length = 16 := HX.out
              have hIP := hP.toIn (Nat.le_refl _)
              have hne : ∀ g, Ap = some ⟨g, 0, none⟩ → some g ≠ ownOf Ao := fun g e1 e2 => by
                have h1 := hP.lt e1
                cases Ao with
                | none => simp [ownOf] at e2
                | some a =>
                  simp only [ownOf, Option.some.injEq] at e2
                  rcases hO2.2 with ⟨e3, _⟩ | ⟨g2, e3, _, h3, _⟩
                  · cases e3
                  · cases e3; simp at e2; omega
              have hsrc : _root_.Go.Src Tryd.prog 1 26 (.slice Ap 16 cp) X.length (X.map B8) wr := by
                have := src_in' (c := cp) (hIP.src (Nat.le_refl _))
                rw [hXl] at this ⊢
                exact this
              clear hO2 hbl2 hbl3 hIP
              go_wp2_with (first
                | ((with_reducible refine (?_ : wpList _ _ _ (Oper.mk (some 55) _ _ _ _ _ :: _) _ _)); go_loud (refine wpList_append_far rfl (.tmp 53) (.tmp 54) 26 rfl w.heap.size Ao p co D X _ rfl hO3 rfl hsrc (by omega) hbl4.size (p + 16) (by omega) ?_); intro A6 c6 w6 hB6 hg6 _; have hP6 := hP.kept hg6 hne; have hb6 := below_own hbl4 hO3 hg6 (Nat.le_refl _) hbl4.size; have hI6 := hP6.toIn (Nat.le_refl _); clear hg6)
                | ((with_reducible refine (?_ : wpList _ _ _ (Oper.mk (some 57) _ _ _ _ _ :: _) _ _)); go_loud (refine wpList_string_of rfl (.tmp 56) rfl X Ap cp w6.heap.size (by rw [hXl]; rfl) (hI6.src (Nat.le_refl _)) ?_)))
              go_roundw
              case rel =>
                refine ⟨k + 1, p + 16, c6, A6, by omega, ?_, by go_num, by rw [HXS.out, HSP.out], rfl, by rw [HDS.out]; exact hB6, hb6⟩
                show _ = _
                have := HPK.out; omega
              case measure => have := HPL.out; simp [intOf]; omega
        · have hd : decide ((p : Int) < (P.length : Int)) = false := by simp; omega
          obtain rfl : k = n := by omega
          have hIO := hO.toIn (Nat.le_refl _)
          have hDl := hDone_length (back := true) (sec := sec) (beg := beg) (P := P) (k := k) (by omega)
          rw [← hpk] at hDl
          obtain ⟨D, hDd⟩ : ∃ D, D = hDone true sec beg P k := ⟨_, rfl⟩
          rw [← hDd] at hIO hDl
          have HDD := Lib.hid hDd
          subst hDl
          clear hpk hpl HPK hDd
          go_wp2_with (refine wpList_string_of rfl (.tmp 64) rfl D Ao co wr.heap.size rfl (hIO.src (Nat.le_refl _)) ?_)
          go_ret
          exact ⟨by rw [← HDD.out]; rfl, hbl⟩
    · have d3 : ((s ++ List.replicate z 0).length : Int).tmod 16 = (((s.length + z) % 16 : Nat) : Int) := by rw [hsl, HM.out _ (by omega)]
      obtain ⟨t, ht⟩ : ∃ t, t = (s.length + z) % 16 := ⟨_, rfl⟩
      rw [← ht] at d3 hmz
      have ht0 : ¬ ((t : Int) = 0) := by omega
      have hap : (⟨(s ++ List.replicate z 0).toArray⟩ : ByteArray) ++ ⟨#[0]⟩ = ⟨(s ++ List.replicate (z + 1) 0).toArray⟩ := by
        rw [show (⟨#[0]⟩ : ByteArray) = ⟨([0] : List UInt8).toArray⟩ from rfl, bytes_append, List.append_assoc, ← List.replicate_succ']
      have hz1 : s.length + (z + 1) ≤ 16 * n := by have := HN.out; omega
      have hcl0 : ¬ 9223372036854775807 < (s ++ List.replicate z 0).length + 1 := by omega
      have HSL := Lib.hid hsl
      clear ht hmz
      generalize hS : s ++ List.replicate z 0 = S at *
      clear hsl
      go_wp2
      refine ⟨⟨z + 1, rfl, hz1, hbl⟩, ?_⟩
      have hl1 : (s ++ List.replicate (z + 1) 0).length = s.length + (z + 1) := by simp
      show 16 * n - (s ++ List.replicate (z + 1) 0).length < 16 * n - S.length
      rw [HSL.out, hl1]
      omega

set_option maxRecDepth 100000 in
theorem refHide_bad (sec beg s : List UInt8) (w : World) (hb : s.length ≤ 1000000) (hk : s.length % 16 ≠ 0) :
    Calls Tryd.prog 59 #[.string ⟨sec.toArray⟩, .string ⟨beg.toArray⟩, .string ⟨s.toArray⟩, .bool true] w fun e w' => e = .returned (.string ⟨([] : List UInt8).toArray⟩) ∧ Below w.heap.size w w' := by
  have d1 : (s.length : Int).tmod 16 = ((s.length % 16 : Nat) : Int) := by rw [Int.tmod_eq_emod_of_nonneg (by omega)]; omega
  obtain ⟨r, hr⟩ : ∃ r, r = s.length % 16 := ⟨_, rfl⟩
  rw [← hr] at d1 hk
  have d2 : ¬ ((r : Int) = 0) := by omega
  clear hr
  go_enter Tryd.func59, Tryd.ntmps59
  go_wp2
  go_ret
  exact ⟨rfl, Below.refl _ _⟩

end
end Go.Proofs.YtbomckbekcaemaaDoor
