/-
  The contract of the document's own answer for layer 1: of all texts the same sum.
-/
import Derived.Test.YtdjhempfpgcigaaDoorRefOut
import Derived.StillTailTactics
import Derived.BigRegion
import Derived.IntWalk
namespace Go.Proofs.YtdjhempfpgcigaaDoor
open Go.RowKit

theorem be8_take (c j p : Nat) (hj : j < 8) (hp : p = 56 - 8 * j) : (be8 c).take (j + 1) = (be8 c).take j ++ [UInt8.ofNat (c / 2 ^ p)] := by
  subst hp
  obtain rfl | rfl | rfl | rfl | rfl | rfl | rfl | rfl : j = 0 ∨ j = 1 ∨ j = 2 ∨ j = 3 ∨ j = 4 ∨ j = 5 ∨ j = 6 ∨ j = 7 := by omega
  all_goals simp [be8]
theorem byte_of (n p : Nat) : Value.int .u8 ((n : Int) * 8 / 2 ^ p % 256) = B8 (UInt8.ofNat (n * 8 / 2 ^ p)) := by
  have h : ((n : Int) * 8 / 2 ^ p % 256) = ((UInt8.ofNat (n * 8 / 2 ^ p)).toNat : Int) := by simp
  rw [h]
theorem be8_all (c : Nat) : (be8 c).take 8 = be8 c := rfl
theorem be8_length (c : Nat) : (be8 c).length = 8 := rfl

set_option maxRecDepth 100000 in
set_option maxHeartbeats 4000000 in
theorem refSum_any (s : List UInt8) (w : World) (hn : s.length < 549755813888) :
    Calls Tryd.prog 35 #[.string ⟨s.toArray⟩] w fun e w' => e = .returned (.string ⟨(sha s).toArray⟩) ∧ Below w.heap.size w w' := by
  have HN := Lib.hid hn
  clear hn
  go_enter Tryd.func35, Tryd.ntmps35
  go_wp2_with fail
  refine (constants_any _).mono ?_
  rintro e w1 ⟨rfl, hb1⟩
  have hz1 : w.heap.size ≤ w1.heap.size := hb1.size
  obtain ⟨hv, hhv⟩ : ∃ hv, hv = first.vals := ⟨_, rfl⟩
  obtain ⟨kv, hkv⟩ : ∃ kv, kv = kTab.map U32 := ⟨_, rfl⟩
  rw [← hhv, ← hkv]
  replace hhv := Lib.hid hhv
  replace hkv := Lib.hid hkv
  go_wp2_with (first
    | ((with_reducible refine (?_ : wpList _ _ _ (Oper.mk none (.store 59 _ _) _ _ _ _ :: _) _ _)); go_loud (refine wpList_store_blk rfl 59 (.tmp 3) (.tmp 25) rfl rfl w1.heap.size hv rfl rfl 59 (List.replicate 8 (.int .u32 0)) ((Blk.new_of w1 _ _ _ (by rfl)).alloc _) (by rw [hhv.out]; exact info63r) (by rw [hhv.out]; rfl) (by rw [hhv.out]; exact one63r) ?_); intro w2 hH hg2; have hK1 := (Blk.new2_of w1 _ 60 _ (List.replicate 64 (.int .u32 0)) (by rfl)).grown hg2 (by simp); have hb2 := below_new ((hb1.alloc hz1 _).alloc (by simp <;> omega) _) hg2 (by omega) (by simp <;> omega); clear hg2)
    | ((with_reducible refine (?_ : wpList _ _ _ (Oper.mk none (.store 60 _ _) _ _ _ _ :: _) _ _)); go_loud (refine wpList_store_blk rfl 60 (.tmp 4) (.tmp 26) rfl rfl (w1.heap.size + 1) kv rfl rfl 60 _ hK1 (by rw [hkv.out]; exact info64s) (by rw [hkv.out]; rfl) (by rw [hkv.out]; exact one32 _) ?_); intro w3 hK hg3; have hH3 := hH.grown hg3 (by simp); have hb3 := below_new hb2 hg3 (by omega) hb2.size; have hz3 : w1.heap.size + 1 < w3.heap.size := hK.lt; clear hg3 hK1 hb2 hH)
    | ((with_reducible refine (?_ : wpList _ _ _ (Oper.mk (some 28) _ _ _ _ _ :: _) _ _)); go_loud (refine wpList_bytes_of rfl (.tmp 27) rfl s rfl (by have := HN.out; omega) ?_); intro c4 w4 hB4 hb4; have hH4 := hH3.below hb4 (by omega); have hK4 := hK.below hb4 (by omega); have hz4 : w3.heap.size ≤ w4.heap.size := hb4.size; replace hb4 := hb3.trans (hb4.mono hb3.size); clear hH3 hK hb3)
    | ((with_reducible refine (?_ : wpList _ _ _ (Oper.mk (some 30) _ _ _ _ _ :: _) _ _)); go_loud (refine wpList_append_buf rfl (.tmp 28) (.tmp 29) 26 rfl _ _ _ _ _ [128] _ rfl (hB4.alloc _) rfl (src_byte (by refine (new_cell _ _ _).trans ?_; rfl)) (by have := HN.out; simp only [List.length_cons, List.length_nil]; omega) (by simp <;> omega) ?_); intro A5 c5 w5 hB5 hg5; have hH5 := (hH4.alloc _).grown hg5 (ownOf_fresh hB4 (by omega)); have hK5 := (hK4.alloc _).grown hg5 (ownOf_fresh hB4 (by omega)); have hb5 := below_own (hb4.alloc hb4.size _) (hB4.alloc _) hg5 (by omega) (by simp <;> omega); have hz5 : w4.heap.size ≤ w5.heap.size := (by have := hg5.size; simp at this; omega); clear hg5 hB4 hH4 hK4 hb4))
  obtain ⟨z, hzz⟩ : ∃ z, z = (119 - s.length % 64) % 64 := ⟨_, rfl⟩
  have HZ := Lib.hid hzz
  clear hzz
  replace hz5 : w3.heap.size ≤ w5.heap.size := by omega
  clear hz4
  go_loopw [5] (fun v wr => ∃ (k : Nat) (A : Option Addr) (c : Nat), k ≤ z ∧ v = .slice A (s.length + 1 + k) c ∧ Buf wr w3.heap.size A (s.length + 1 + k) c ((s ++ [128]) ++ List.replicate k 0) ∧ Blk wr w1.heap.size 59 hv ∧ Blk wr (w1.heap.size + 1) 60 kv ∧ Below w.heap.size w wr ∧ w3.heap.size ≤ wr.heap.size) (fun v _ => s.length + 65 - lenOf v)
  case atStart => exact ⟨0, A5, c5, by omega, rfl, by simpa using hB5, hH5, hK5, hb5, hz5⟩
  case round =>
    clear hB5 hH5 hK5 hb5 hz5
    obtain ⟨k, A, c, hk, rfl, hB, hH, hK, hb, hz⟩ := hrel
    by_cases hlt : k < z
    · have hd : (((s.length : Int) + 1 + (k : Int)) % 64 != 56) = true := by have := HZ.out; simp; omega
      go_wp2_with ((with_reducible refine (?_ : wpList _ _ _ (Oper.mk (some 37) _ _ _ _ _ :: _) _ _)); go_loud (refine wpList_append_buf rfl (.tmp 35) (.tmp 36) 26 rfl _ _ _ _ _ [0] _ rfl (hB.alloc _) rfl (src_byte (by refine (new_cell _ _ _).trans ?_; rfl)) (by have := HN.out; have := HZ.out; simp only [List.length_cons, List.length_nil]; omega) (by simp <;> omega) ?_); intro A' c' w' hB' hg')
      go_roundw
      case rel =>
        refine ⟨k + 1, A', c', by omega, rfl, ?_, (hH.alloc _).grown hg' (ownOf_fresh hB (by omega)), (hK.alloc _).grown hg' (ownOf_fresh hB (by omega)), below_own (hb.alloc (by omega) _) (hB.alloc _) hg' (by omega) (by simp <;> omega), by have := hg'.size; simp at this; omega⟩
        have e : (s ++ [128] ++ List.replicate k 0) ++ [0] = s ++ [128] ++ List.replicate (k + 1) (0 : UInt8) := by rw [List.append_assoc, ← List.replicate_succ']
        rw [e] at hB'
        exact hB'
      case measure => have := HZ.out; simp [lenOf]; omega
    · have hd : (((s.length : Int) + 1 + (k : Int)) % 64 != 56) = false := by have := HZ.out; simp; omega
      obtain rfl : k = z := by omega
      clear hk hlt
      have hl8 : (((s.length : Int) * 8)) % 18446744073709551616 = ((s.length * 8 : Nat) : Int) := by have := HN.out; omega
      have hl8' : IntKind.u64.wrap ((s.length : Int) * 8) = ((s.length * 8 : Nat) : Int) := by have := HN.out; simp [IntKind.wrap, IntKind.signed, IntKind.bits]; omega
      go_wp2
      obtain ⟨M, hM⟩ : ∃ M, M = s ++ [128] ++ List.replicate k 0 := ⟨_, rfl⟩
      obtain ⟨L, hL⟩ : ∃ L, L = s.length + 1 + k := ⟨_, rfl⟩
      rw [← hM, ← hL] at hB
      have hLk : L = s.length + 1 + k := hL
      rw [← hL]
      clear hd hl8 hl8' hL
      have HL := Lib.hid hLk
      have HM := Lib.hid hM
      clear hLk hM
      obtain ⟨wo, rfl⟩ : ∃ wo : World, wo = wr := ⟨_, rfl⟩
      go_loopw [5, 7] (fun v i wr => ∃ (j : Nat) (A : Option Addr) (c : Nat) (q : Int), j ≤ 8 ∧ Hid (q = 56 - 8 * (j : Int)) ∧ i = .int .i64 q ∧ v = .slice A (L + j) c ∧ Buf wr w3.heap.size A (L + j) c (M ++ (be8 (s.length * 8)).take j) ∧ Blk wr w1.heap.size 59 hv ∧ Blk wr (w1.heap.size + 1) 60 kv ∧ Below w.heap.size w wr ∧ w3.heap.size ≤ wr.heap.size) (fun v _ _ => L + 8 - lenOf v)
      case atStart => exact ⟨0, A, c, 56, by omega, by show _ = _; omega, rfl, rfl, by simpa using hB, hH, hK, hb, hz⟩
      case round =>
        clear hB hH hK hb hz
        obtain ⟨j, A, c, q, hj, HQ, rfl, rfl, hB, hH, hK, hb, hz⟩ := hrel
        by_cases hlt : j < 8
        · obtain ⟨p, rfl⟩ : ∃ p : Nat, q = (p : Int) := ⟨(56 - 8 * j), by have := HQ.out; omega⟩
          have hp : p ≤ 56 := by have := HQ.out; omega
          have hd : decide ((p : Int) ≥ 0) = true := by simp
          have h0 : ¬ ((p : Int) < 0) := by omega
          have h1 : (0 : Int) ≤ (p : Int) := by omega
          have e1 : min p 64 = p := by omega
          have HT := Lib.hid (be8_take (s.length * 8) j p hlt (by have := HQ.out; omega))
          have HLL := Lib.hid (show L + j + 1 ≤ 1099511627776 by have := HN.out; have := HL.out; have := HZ.out; omega)
          go_wp2_with ((with_reducible refine (?_ : wpList _ _ _ (Oper.mk (some 52) _ _ _ _ _ :: _) _ _)); go_loud (refine wpList_append_buf rfl (.tmp 46) (.tmp 51) 26 rfl _ _ _ _ _ [UInt8.ofNat (s.length * 8 / 2 ^ p)] _ rfl (hB.alloc _) rfl (src_byte ((new_cell _ _ _).trans (congrArg some (byte_of _ _)))) HLL.out (by simp <;> omega) ?_); intro A' c' w' hB' hg')
          go_roundw
          case rel =>
            refine ⟨j + 1, A', c', (p : Int) - 8, by omega, by show _ = _; have := HQ.out; omega, rfl, rfl, ?_, (hH.alloc _).grown hg' (ownOf_fresh hB (by omega)), (hK.alloc _).grown hg' (ownOf_fresh hB (by omega)), below_own (hb.alloc (by omega) _) (hB.alloc _) hg' (by omega) (by simp <;> omega), by have := hg'.size; simp at this; omega⟩
            rw [HT.out, ← List.append_assoc]
            exact hB'
          case measure => simp [lenOf]; omega
        · have hj8 : j = 8 := by omega
          have HJ := Lib.hid hj8
          have hd : decide (q ≥ 0) = false := by have := HQ.out; simp; omega
          clear hj8 hj hlt
          go_wp2
          obtain ⟨T, hT⟩ : ∃ T, T = M ++ (be8 (s.length * 8)).take j := ⟨_, rfl⟩
          rw [← hT] at hB
          rw [HJ.out, be8_all, HM.out, pad_parts s k HZ.out] at hT
          have HT := Lib.hid hT
          obtain ⟨J, hJ⟩ : ∃ J, J = T.length / 64 := ⟨_, rfl⟩
          have hTJ : T.length = 64 * J := by rw [hJ, hT, pad_blocks]
          have HTJ := Lib.hid hTJ
          have HJJ := Lib.hid hJ
          have hnT := hB.len
          obtain ⟨n, hn⟩ : ∃ n, n = L + j := ⟨_, rfl⟩
          rw [← hn] at hB hnT ⊢
          have HN8 := Lib.hid (show n = 64 * J by omega)
          have hpos : 0 < n := by have := HL.out; omega
          have HNS := Lib.hid (show n < 1099511627776 by have := HN.out; have := HZ.out; have := HL.out; have := HJ.out; omega)
          obtain ⟨gb, rfl, hgb, hgl, hby⟩ := hB.at hpos
          have hTn : T.length = n := hnT
          clear hT hJ hTJ hn hnT hpos
          have hK2 : Blk wr (w1.heap.size + 1) 60 (kTab.map U32) := by rw [← hkv.out]; exact hK
          have hH2 : Blk wr w1.heap.size 59 ((foldB 0 first T).words.map U32) := by
            have e : hv = (foldB 0 first T).words.map U32 := hhv.out
            rw [← e]; exact hH
          clear hB hH hK
          refine blockLoop w1.heap.size (w1.heap.size + 1) gb n c J T _ _ HNS.out HN8 hTn hby (fun i hi => hK2.at32 i hi) hH2 (by omega) (by omega) (by omega) (by omega) ?_
          intro wz
          intros
          rename_i hH3 hgz
          have hbz := below_new hb hgz hz1 hb.size
          clear hH2 hK2 hby hgz hb
          go_wp2
          refine outLoop w1.heap.size (foldB J first T) _ _ hH3 ?_
          intro wy
          intros
          rename_i A9 c9 hv9 hB9 hb9
          subst hv9
          have hby := hbz.trans (hb9.mono hbz.size)
          have hs9 : Src wy wy.heap.size A9 (bytesOf (foldB J first T)) := hB9.src (fun k e => by have := (hB9.lt e).2; omega)
          have HF : Hid (bytesOf (foldB J first T) = sha s) := by
            show _ = _
            rw [HJJ.out, HT.out]; rfl
          clear hB9 hb9 hbz hH3
          go_wp2_with (with_reducible refine (?_ : wpList _ _ _ (Oper.mk (some 260) _ _ _ _ _ :: _) _ _); go_loud (refine wpList_string_of rfl (.tmp 259) rfl (bytesOf (foldB J first T)) A9 c9 _ rfl hs9 ?_); rw [HF.out])
          go_ret
          exact ⟨rfl, hby⟩
end Go.Proofs.YtdjhempfpgcigaaDoor
