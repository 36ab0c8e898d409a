/-
  The contract of the document's own answer for layer 2: of all texts the same sum.
-/
import Derived.Test.YtkiogpnjkmdmgaaDoorQOut
import Derived.Test.YtkiogpnjkmdmgaaDoorQEnd
import Derived.StillTailTactics
import Derived.BigRegion
import Derived.IntWalk
namespace Go.Proofs.YtkiogpnjkmdmgaaDoor
open Go.RowKit

theorem byte_ofQ (n p : Nat) : Value.int .u8 ((n : Int) * 8 / 2 ^ p % 256) = B8 (UInt8.ofNat (n * 8 / 2 ^ p)) := by
  have h : ((n : Int) * 8 / 2 ^ p % 256) = ((UInt8.ofNat (n * 8 / 2 ^ p)).toNat : Int) := by simp
  rw [h]
theorem pad_partsQ (s : List UInt8) (z : Nat) (hz : z = (119 - s.length % 64) % 64) : (s ++ [128] ++ List.replicate z 0) ++ leTo (s.length * 8) 8 = s ++ padQ s.length := by
  unfold padQ
  rw [← hz, leTo_eight]; simp
theorem pad_blocksQ (m : List UInt8) : 64 * ((m ++ padQ m.length).length / 64) = (m ++ padQ m.length).length := by
  rw [List.length_append, padQ_length]; omega

set_option maxRecDepth 1000000 in
set_option maxHeartbeats 4000000 in
theorem refSumQ_any (s : List UInt8) (w : World) (hn : s.length < 549755813888) :
    Calls Tryd.prog 33 #[.string ⟨s.toArray⟩] w fun e w' => e = .returned (.string ⟨(md5 s).toArray⟩) ∧ Below w.heap.size w w' := by
  have HN := Lib.hid hn
  clear hn
  go_enter Tryd.func33, Tryd.ntmps33
  go_wp2_with (first
    | ((with_reducible refine (?_ : wpList _ _ _ (Oper.mk (some 20) _ _ _ _ _ :: _) _ _)); go_loud (refine wpList_bytes_of rfl (.tmp 19) rfl s rfl (by have := HN.out; omega) ?_); intro c4 w4 hB4 hb4; have hz4 : w.heap.size ≤ w4.heap.size := hb4.size)
    | ((with_reducible refine (?_ : wpList _ _ _ (Oper.mk (some 22) _ _ _ _ _ :: _) _ _)); go_loud (refine wpList_append_buf rfl (.tmp 20) (.tmp 21) 27 rfl _ _ _ _ _ [128] _ rfl (hB4.alloc _) rfl (src_byte (by refine (new_cell _ _ _).trans ?_; rfl)) (by have := HN.out; simp only [List.length_cons, List.length_nil]; omega) (by simp <;> omega) ?_); intro A5 c5 w5 hB5 hg5; have hb5 := below_own (hb4.alloc hb4.size _) (hB4.alloc _) hg5 (by omega) (by simp <;> omega); clear hg5 hB4 hb4))
  obtain ⟨z, hzz⟩ : ∃ z, z = (119 - s.length % 64) % 64 := ⟨_, rfl⟩
  have HZ := Lib.hid hzz
  clear hzz
  go_loopw [3] (fun v wr => ∃ (k : Nat) (A : Option Addr) (c : Nat), k ≤ z ∧ v = .slice A (s.length + 1 + k) c ∧ Buf wr w.heap.size A (s.length + 1 + k) c ((s ++ [128]) ++ List.replicate k 0) ∧ Below w.heap.size w wr) (fun v _ => s.length + 65 - lenOf v)
  case atStart => exact ⟨0, A5, c5, by omega, rfl, by simpa using hB5, hb5⟩
  case round =>
    clear hB5 hb5
    obtain ⟨k, A, c, hk, rfl, hB, hb⟩ := hrel
    have hbz := hb.size
    by_cases hlt : k < z
    · have hd : (((s.length : Int) + 1 + (k : Int)) % 64 != 56) = true := by have := HZ.out; simp; omega
      go_wp2_with ((with_reducible refine (?_ : wpList _ _ _ (Oper.mk (some 29) _ _ _ _ _ :: _) _ _)); go_loud (refine wpList_append_buf rfl (.tmp 27) (.tmp 28) 27 rfl _ _ _ _ _ [0] _ rfl (hB.alloc _) rfl (src_byte (by refine (new_cell _ _ _).trans ?_; rfl)) (by have := HN.out; have := HZ.out; simp only [List.length_cons, List.length_nil]; omega) (by simp <;> omega) ?_); intro A' c' w' hB' hg')
      go_roundw
      case rel =>
        refine ⟨k + 1, A', c', by omega, rfl, ?_, below_own (hb.alloc hbz _) (hB.alloc _) hg' (by omega) (by simp <;> omega)⟩
        have e : (s ++ [128] ++ List.replicate k 0) ++ [0] = s ++ [128] ++ List.replicate (k + 1) (0 : UInt8) := by rw [List.append_assoc, ← List.replicate_succ']
        rw [e] at hB'
        exact hB'
      case measure => have := HZ.out; simp [lenOf]; omega
    · have hd : (((s.length : Int) + 1 + (k : Int)) % 64 != 56) = false := by have := HZ.out; simp; omega
      obtain rfl : k = z := by omega
      clear hk hlt
      have hl8 : (((s.length : Int) * 8)) % 18446744073709551616 = ((s.length * 8 : Nat) : Int) := by have := HN.out; omega
      have hl8' : IntKind.u64.wrap ((s.length : Int) * 8) = ((s.length * 8 : Nat) : Int) := by have := HN.out; simp [IntKind.wrap, IntKind.signed, IntKind.bits]; omega
      go_wp2
      obtain ⟨M, hM⟩ : ∃ M, M = s ++ [128] ++ List.replicate k 0 := ⟨_, rfl⟩
      obtain ⟨L, hL⟩ : ∃ L, L = s.length + 1 + k := ⟨_, rfl⟩
      rw [← hM, ← hL] at hB
      have hLk : L = s.length + 1 + k := hL
      rw [← hL]
      clear hd hl8 hl8' hL
      have HL := Lib.hid hLk
      have HM := Lib.hid hM
      clear hLk hM
      obtain ⟨wo, rfl⟩ : ∃ wo : World, wo = wr := ⟨_, rfl⟩
      go_loopw [3, 5] (fun v i wr => ∃ (j : Nat) (A : Option Addr) (c : Nat) (q : Nat), j ≤ 8 ∧ Hid (q = 8 * j) ∧ i = .int .i64 (q : Int) ∧ v = .slice A (L + j) c ∧ Buf wr w.heap.size A (L + j) c (M ++ leTo (s.length * 8) j) ∧ Below w.heap.size w wr) (fun _ i _ => 64 - (intOf i).toNat)
      case atStart => exact ⟨0, A, c, 0, by omega, (show _ = _ from rfl), rfl, rfl, by simpa [leTo] using hB, hb⟩
      case round =>
        clear hB hb hbz
        obtain ⟨j, A, c, q, hj, HQ, rfl, rfl, hB, hb⟩ := hrel
        have hbz := hb.size
        by_cases hlt : j < 8
        · have hp : q ≤ 56 := by have := HQ.out; omega
          have hd : decide ((q : Int) < 64) = true := by simp; omega
          have h0 : ¬ ((q : Int) < 0) := by omega
          have h1 : (0 : Int) ≤ (q : Int) := by omega
          have h2 : (q : Int) < 64 := by omega
          have e1 : min q 64 = q := by omega
          have HT : Hid (leTo (s.length * 8) (j + 1) = leTo (s.length * 8) j ++ [UInt8.ofNat (s.length * 8 / 2 ^ q)]) := Lib.hid (by rw [HQ.out]; rfl)
          have HLL := Lib.hid (show L + j + 1 ≤ 1099511627776 by have := HN.out; have := HL.out; have := HZ.out; omega)
          go_wp2_with ((with_reducible refine (?_ : wpList _ _ _ (Oper.mk (some 44) _ _ _ _ _ :: _) _ _)); go_loud (refine wpList_append_buf rfl (.tmp 38) (.tmp 43) 27 rfl _ _ _ _ _ [UInt8.ofNat (s.length * 8 / 2 ^ q)] _ rfl (hB.alloc _) rfl (src_byte ((new_cell _ _ _).trans (congrArg some (byte_ofQ _ _)))) HLL.out (by simp <;> omega) ?_); intro A' c' w' hB' hg')
          go_roundw
          case rel =>
            refine ⟨j + 1, A', c', q + 8, by omega, by show _ = _; have := HQ.out; omega, by go_num, rfl, ?_, below_own (hb.alloc hbz _) (hB.alloc _) hg' (by omega) (by simp <;> omega)⟩
            rw [HT.out, ← List.append_assoc]
            exact hB'
          case measure => simp [intOf]; omega
        · have hj8 : j = 8 := by omega
          have HJ := Lib.hid hj8
          have hd : decide ((q : Int) < 64) = false := by have := HQ.out; simp; omega
          clear hj8 hj hlt
          go_wp2_with fail
          obtain ⟨T, hT⟩ : ∃ T, T = M ++ leTo (s.length * 8) j := ⟨_, rfl⟩
          rw [← hT] at hB
          rw [HJ.out, HM.out, pad_partsQ s k HZ.out] at hT
          have HT := Lib.hid hT
          obtain ⟨J, hJ⟩ : ∃ J, J = T.length / 64 := ⟨_, rfl⟩
          have hTJ : T.length = 64 * J := by rw [hJ, hT, pad_blocksQ]
          have HJJ := Lib.hid hJ
          have hnT := hB.len
          obtain ⟨n, hn⟩ : ∃ n, n = L + j := ⟨_, rfl⟩
          rw [← hn] at hB hnT ⊢
          have HN8 := Lib.hid (show n = 64 * J by omega)
          have hpos : 0 < n := by have := HL.out; omega
          have HNS := Lib.hid (show n < 1099511627776 by have := HN.out; have := HZ.out; have := HL.out; have := HJ.out; omega)
          clear hT hJ hTJ hn hd HQ
          refine (sines_any _).mono ?_
          rintro e w6 ⟨rfl, hb6⟩
          obtain ⟨kv, hkv⟩ : ∃ kv, kv = sineTab.map U32 := ⟨_, rfl⟩
          rw [← hkv]
          replace hkv := Lib.hid hkv
          have hz6 := hb6.size
          go_wp2_with (first
            | ((with_reducible refine (?_ : wpList _ _ _ (Oper.mk none (.store 56 _ _) _ _ _ _ :: _) _ _)); go_loud (refine wpList_store_blk rfl 56 (.tmp 6) (.tmp 45) rfl rfl w6.heap.size kv rfl rfl 56 (List.replicate 64 (.int .u32 0)) (Blk.new_of w6 _ _ _ (by rfl)) (by rw [hkv.out]; exact info64r) (by rw [hkv.out]; rfl) (by rw [hkv.out]; exact one32 _) ?_); intro w7 hK hg7; have hz7 : w6.heap.size < w7.heap.size := hK.lt; have hb7 := below_new (hb6.alloc (by omega) _) hg7 (by omega) (by simp <;> omega); clear hg7)
            | ((with_reducible refine (?_ : wpList _ _ _ (Oper.mk none (.store 69 _ _) _ _ _ _ :: _) _ _)); go_loud (refine wpList_store_blk rfl 69 (.tmp 7) (.tmp 46) rfl rfl w7.heap.size firstQ.vals rfl (by kernel_rfl) 69 (List.replicate 4 (.int .u32 0)) (Blk.new_of w7 _ _ _ (by rfl)) (info43 _) (by rfl) (qd_one4 _) ?_); intro w8 hH hg8; have hz8 : w7.heap.size < w8.heap.size := hH.lt; have hK8 := (hK.alloc _).grown hg8 (by simp; omega); have hb8 := below_new (hb7.alloc (by omega) _) hg8 (by omega) (by simp <;> omega); clear hg8 hK hb7))
          have hgo := hB.at hpos
          replace hB := hB.below hb8
          replace hb := hb.trans (hb8.mono hb.size)
          obtain ⟨gb, rfl, hgb, hgl0, _⟩ := hgo
          obtain ⟨gb', he, _, hgl, hby⟩ := hB.at hpos
          obtain rfl : gb = gb' := by injection he with he; injection he
          have hTn : T.length = n := hnT
          have hK2 : Blk w8 w6.heap.size 56 (sineTab.map U32) := by rw [← hkv.out]; exact hK8
          clear hB hK8 hb8 hb6
          refine blockLoopQ w7.heap.size w6.heap.size gb n c J T _ _ HNS.out HN8 hTn hby (fun i hi => hK2.at32 i hi) hH (by omega) (by omega) (by omega) (by omega) ?_
          intro wz
          intros
          rename_i hH3 hgz
          have hbz2 := below_new hb hgz (by omega) hb.size
          clear hH hK2 hby hgz hb
          go_wp2
          refine outLoopQ w7.heap.size (foldQ J firstQ T) _ _ hH3 ?_
          intro wy
          intros
          rename_i A9 c9 hv9 hB9 hb9
          subst hv9
          have hby := hbz2.trans (hb9.mono hbz2.size)
          have hs9 : Src wy wy.heap.size A9 (bytesQ (foldQ J firstQ T)) := hB9.src (fun k e => by have := (hB9.lt e).2; omega)
          have HF : Hid (bytesQ (foldQ J firstQ T) = md5 s) := by
            show _ = _
            rw [HJJ.out, HT.out]; rfl
          clear hB9 hb9 hbz2 hH3
          go_wp2_with (with_reducible refine (?_ : wpList _ _ _ (Oper.mk (some 225) _ _ _ _ _ :: _) _ _); go_loud (refine wpList_string_of rfl (.tmp 224) rfl (bytesQ (foldQ J firstQ T)) A9 c9 _ rfl hs9 ?_); rw [HF.out])
          go_ret
          exact ⟨rfl, hby⟩
end Go.Proofs.YtkiogpnjkmdmgaaDoor
