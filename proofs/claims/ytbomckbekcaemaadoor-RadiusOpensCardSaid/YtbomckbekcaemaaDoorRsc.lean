/-
  The contracts of the document's Split and Join, and of the law's tame.
-/
import Derived.Test.YtbomckbekcaemaaDoorRsb
namespace Go.Proofs.YtbomckbekcaemaaDoor
open Go.RowKit

theorem extract_toR (b : List UInt8) (m : Nat) : (⟨b.toArray⟩ : ByteArray).extract 0 m = ⟨(b.take m).toArray⟩ := by
  apply ByteArray.ext
  rw [ByteArray.data_extract]
  simp
theorem extract_fromR (b : List UInt8) (s m : Nat) (hm : b.length ≤ m) : (⟨b.toArray⟩ : ByteArray).extract s m = ⟨(b.drop s).toArray⟩ := by
  apply ByteArray.ext
  rw [ByteArray.data_extract]
  simp
  rw [List.take_of_length_le (by rw [List.length_drop]; omega)]
def sLen : Value → Nat
  | .string s => s.data.size
  | _ => 0
theorem ix_minS {r q : Nat} (hq : q = min r 253) (h0 : 0 < r) : min (r : Int) 253 = (q : Int) ∧ (q : Int) ≤ (r : Int) ∧ (0 : Int) ≤ (q : Int) ∧ q ≤ r ∧ 0 < q := by omega
set_option maxRecDepth 100000 in
set_option maxHeartbeats 1000000 in
theorem rsplit_e (b : List UInt8) (w : World) (hm : b.length ≤ 100000) :
    Calls Tryd.prog 33 #[.string ⟨b.toArray⟩] w fun e w' => ∃ v, e = .returned v ∧ SRow w' w.heap.size v (splitA b) ∧ Below w.heap.size w w' := by
  go_enter Tryd.func33, Tryd.ntmps33
  go_wp2
  go_loopw [0, 3] (fun sv lv wr => ∃ (r : List UInt8) (la : Attrs), sv = .string ⟨r.toArray⟩ ∧ SRow wr w.heap.size lv la ∧ splitA b = la ++ splitA r ∧ Below w.heap.size w wr ∧ la.length + r.length ≤ b.length) (fun sv _ _ => sLen sv)
  case atStart => exact ⟨b, [], rfl, SRow.nil _ _, rfl, Below.refl _ _, by simp⟩
  case round =>
    obtain ⟨r, la, rfl, hAR, hsa, hbr, hln⟩ := hrel
    by_cases h0 : r = []
    · subst h0
      have HFIN := Lib.hid (And.intro (show SRow wr w.heap.size u3 (splitA b) by rw [hsa, splitA_none (by simp), List.append_nil]; exact hAR) hbr)
      clear hAR hsa hbr hln
      go_wp2
      go_ret
      exact ⟨_, rfl, HFIN.out.1, HFIN.out.2⟩
    · have hl0 : 0 < r.length := List.length_pos_iff.2 h0
      have hie : r.isEmpty = false := by simpa using h0
      obtain ⟨q, hq⟩ : ∃ q, q = min r.length 253 := ⟨_, rfl⟩
      obtain ⟨hmin, hs1, hs2, hqn, hq0⟩ := ix_minS hq hl0
      have HSA := Lib.hid (show splitA b = (la ++ [((79 : Int), r.take q)]) ++ splitA (r.drop q) by
        rw [hsa, splitA_more hl0, take_min r 253, drop_min r 253, ← hq, List.append_assoc]; rfl)
      have HLN := Lib.hid (show (la ++ [((79 : Int), r.take q)]).length + (r.drop q).length ≤ b.length ∧ la.length + 1 ≤ 1000000 ∧ sLen (.string ⟨(r.drop q).toArray⟩) < sLen (.string ⟨r.toArray⟩) by
        rw [List.length_append, List.length_drop]; simp [sLen]; omega)
      have hx1 := extract_toR r q
      have hx2 := extract_fromR r q r.length (Nat.le_refl _)
      have HAR := Lib.hid hAR
      have HBR := Lib.hid hbr
      clear hsa hln hAR hbr hq hqn hl0 hq0
      go_upto_region 4 with (fail)
      clear hmin
      go_wp2_with ((with_reducible refine (?_ : wpList _ _ _ (Oper.mk (some 16) _ _ _ _ _ :: _) _ _)); go_loud (refine wpList_append_s rfl (.tmp 10) (.tmp 15) rfl w.heap.size u3 la 79 (r.take q) wr.heap.size rfl (HAR.out.below ((Below.refl wr.heap.size wr).alloc (Nat.le_refl _) (.cells #[.int .i64 79, .string ⟨(r.take q).toArray⟩] 62))) (Nat.le_trans HBR.out.size (by simp)) rfl (Blk.new_of wr 62 _ _ rfl) HLN.out.2.1 ?_); intro v6 w6 hS6 hg6)
      have HS6 := Lib.hid hS6
      have HB6 := Lib.hid (row_belowS (HBR.out.alloc HBR.out.size (.cells #[.int .i64 79, .string ⟨(r.take q).toArray⟩] 62)) (HAR.out.below ((Below.refl wr.heap.size wr).alloc (Nat.le_refl _) (.cells #[.int .i64 79, .string ⟨(r.take q).toArray⟩] 62))) hg6)
      clear hS6 hg6 HAR HBR
      go_roundw
      case rel => exact ⟨r.drop q, la ++ [((79 : Int), r.take q)], rfl, HS6.out, HSA.out, HB6.out, HLN.out.1⟩
      case measure => exact HLN.out.2.2
set_option maxRecDepth 100000 in
set_option maxHeartbeats 1000000 in
theorem rjoin_e (A : Option Addr) (c n : Nat) (la : Attrs) (w : World) (hn : la.length = n) (hA : SIn w w.heap.size A c la) (hv : (joinA la).length ≤ 1000000) :
    Calls Tryd.prog 35 #[.slice A n c] w fun e w' => e = .returned (.string ⟨(joinA la).toArray⟩) ∧ Below w.heap.size w w' := by
  have hmc : n ≤ c := by rw [← hn]; exact hA.1
  have HNM := Lib.hid (Nat.le_trans hmc hA.2.1)
  have hmc1 : (n : Int) ≤ (c : Int) := Int.ofNat_le.2 hmc
  have HN := Lib.hid hn
  have HA := Lib.hid hA
  clear hn hA hmc
  have HVL := Lib.hid hv
  clear hv
  go_enter Tryd.func35, Tryd.ntmps35
  go_wp2
  go_loopw [4, 3] (fun i r wr => ∃ k : Nat, k ≤ n ∧ i = .int .i64 (k : Int) ∧ r = .string ⟨(joinA (la.take k)).toArray⟩ ∧ Below w.heap.size w wr) (fun i _ _ => n - (intOf i).toNat)
  case atStart => exact ⟨0, Nat.zero_le _, rfl, rfl, Below.refl _ _⟩
  case round =>
    obtain ⟨k, hk, rfl, rfl, hbr⟩ := hrel
    by_cases hlt : k < n
    · skip
      have hd : (k : Int) < (n : Int) := by omega
      have hkr : k < la.length := by rw [HN.out]; exact hlt
      obtain ⟨gp, op, hAe, hgp, hrow⟩ := HA.out.2.2 (Nat.lt_of_le_of_lt (Nat.zero_le _) hkr)
      obtain ⟨h1, h2⟩ := hrow k hkr
      obtain ⟨kd, v, hkv⟩ : ∃ kd v, la.getD k (0, []) = (kd, v) := ⟨_, _, rfl⟩
      rw [hkv] at h1 h2
      have HC1 := Lib.hid (fun (W : World) (h : Below w.heap.size w W) => (show W.cell? ⟨gp, op + k * 2, none⟩ = some (.int .i64 kd) from (h.cell (p := ⟨gp, op + k * 2, none⟩) hgp).trans h1))
      have HC2 := Lib.hid (fun (W : World) (h : Below w.heap.size w W) => (show W.cell? ⟨gp, op + k * 2 + 1, none⟩ = some (.string ⟨v.toArray⟩) from (h.cell (p := ⟨gp, op + k * 2 + 1, none⟩) hgp).trans h2))
      obtain ⟨hk0, hkn, hkw⟩ := ix_at hlt HNM.out
      have HB := Lib.hid hbr
      have HK := Lib.hid (And.intro hkr hkv)
      have HW := Lib.hid hkw
      subst hAe
      have hsn := take_snocA la k hkr
      rw [hkv] at hsn
      have HSN := Lib.hid (show joinA (la.take (k + 1)) = joinA (la.take k) ++ (if kd = 79 then v else []) by rw [hsn, joinA_snoc])
      have HLE := Lib.hid (show (joinA (la.take (k + 1))).length ≤ 1000000 from Nat.le_trans (joinA_take la (k + 1)) HVL.out)
      have hc1' := HC1.out wr hbr
      have hc2' := HC2.out wr hbr
      clear hrow h1 h2 hkv hbr hgp hkw hk hlt hkr hsn
      obtain ⟨BS, hBS⟩ : ∃ BS, BS = joinA (la.take k) := ⟨_, rfl⟩
      rw [← hBS] at HSN ⊢
      clear hBS
      by_cases h79 : kd = 79
      · subst h79
        rw [if_pos rfl] at HSN
        have hap := bytes_append BS v
        have hov : ¬ 9223372036854775807 < BS.length + v.length := by have := HLE.out; rw [HSN.out, List.length_append] at this; omega
        go_wp2
        go_roundw
        case rel => exact ⟨k + 1, (by have := HK.out.1; have := HN.out; omega), by rw [HW.out], by rw [HSN.out], HB.out⟩
        case measure => exact ix_meas2 HK.out.1 HN.out HNM.out
      · rw [if_neg h79, List.append_nil] at HSN
        go_wp2
        go_roundw
        case rel => exact ⟨k + 1, (by have := HK.out.1; have := HN.out; omega), by rw [HW.out], by rw [HSN.out], HB.out⟩
        case measure => exact ix_meas2 HK.out.1 HN.out HNM.out
    · have hd : ¬ (k : Int) < (n : Int) := by omega
      have hkn : k = la.length := by have := HN.out; omega
      rw [show joinA (la.take k) = joinA la by rw [hkn, List.take_length]]
      have HFIN := Lib.hid hbr
      clear hbr hk hlt hkn
      go_wp2
      go_ret
      exact ⟨rfl, HFIN.out⟩
end Go.Proofs.YtbomckbekcaemaaDoor
