/-
  The contract of package gcm's mask.
-/
import Derived.Test.YtefbjhdcmgonbaaGy
namespace Go.Proofs.Ytefbjhdcmgonbaa
open Go.RowKit

theorem b_xor (a b : UInt8) : bits .xor .u8 (a.toNat : Int) (b.toNat : Int) = ((a ^^^ b).toNat : Int) := by
  rw [u8_xor_nat _ _ (u8_lt a) (u8_lt b), UInt8.toNat_xor]
theorem madeCells_zeros (c : Nat) : madeCells #[.int .u8 0] c = ((List.replicate c (0 : UInt8)).map B8).toArray := by
  have h := toList_madeCells_one (.int .u8 0) c
  apply Array.toList_inj.1
  rw [h, List.map_replicate]; rfl

theorem run_make_bytes (kl kc : IntKind) (n c : Nat) (hnc : n ≤ c) (hc : c ≤ 1099511627776) (w : World) :
    (Instr.makeSlice 24 (.int kl (n : Int)) (.int kc (c : Int))).run Try.prog w = .ok (.slice (some ⟨w.heap.size, 0, none⟩) n c) (w.alloc (.cells ((List.replicate c (0 : UInt8)).map B8).toArray 5)) := by
  obtain ⟨i, hi, hz, hs, hb⟩ := info_parts infoB
  have h := run_make (P := Try.prog) w 24 5 i (.int .u8 0) Try.underlying24 hi hz kl kc n c (by omega) (by omega) (by rw [hb]; omega) (by omega)
  rw [h, hs]
  simp only [Int.toNat_natCast, Nat.mul_one]
  rw [show Value.cells (.int .u8 0) = #[.int .u8 0] from rfl, madeCells_zeros]
/-- What bytes become, hidden or plain. -/
def padAt (L : List UInt32) (R : Nat) (N : List UInt8) (i : Nat) : UInt8 := (sealS L R (ctrE N (2 + i / 16))).getD (i % 16) 0
def maskE (L : List UInt32) (R : Nat) (N P : List UInt8) : List UInt8 := (List.range P.length).map fun i => P.getD i 0 ^^^ padAt L R N i
theorem maskE_length (L : List UInt32) (R : Nat) (N P : List UInt8) : (maskE L R N P).length = P.length := by simp [maskE]
theorem maskE_get (L : List UInt32) (R : Nat) (N P : List UInt8) (i : Nat) (hi : i < P.length) : (maskE L R N P).getD i 0 = P.getD i 0 ^^^ padAt L R N i := by
  simp [maskE, List.getD_eq_getElem?_getD, hi]
theorem padAt_blk (L : List UInt32) (R : Nat) (N : List UInt8) (m j : Nat) (hj : j < 16) : padAt L R N (16 * m + j) = (sealS L R (ctrE N (2 + m))).getD j 0 := by
  unfold padAt
  rw [show (16 * m + j) / 16 = m by omega, show (16 * m + j) % 16 = j by omega]
theorem set_up (X Q : List UInt8) (k : Nat) (hX : k < X.length) (hQ : k < Q.length) : (X.take k ++ Q.drop k).set k (X.getD k 0) = X.take (k + 1) ++ Q.drop (k + 1) := by
  have hl : (X.take k).length = k := by rw [List.length_take]; omega
  rw [List.set_append_right _ _ (by omega), hl, Nat.sub_self, List.drop_eq_getElem_cons hQ, List.set_cons_zero, List.take_succ_eq_append_getElem hX, List.append_assoc]
  simp [List.getD_eq_getElem?_getD, List.getElem?_eq_getElem hX]
theorem mid_len (X Q : List UInt8) (k : Nat) (hX : k ≤ X.length) (hQ : k ≤ Q.length) : (X.take k ++ Q.drop k).length = Q.length := by
  rw [List.length_append, List.length_take, List.length_drop]; omega
theorem ix_m (p m n : Nat) (hp : p = 16 * m) (hn : p < n) (hn2 : n < 1000000000) : (p : Int) / 16 = (m : Int) ∧ (p : Int).tdiv 16 = (m : Int) ∧ wrap64 (2 + (m : Int)) = ((2 + m : Nat) : Int) ∧ (2 : Int) + (m : Int) = ((2 + m : Nat) : Int) ∧ IntKind.u32.wrap ((2 + m : Nat) : Int) = ((2 + m : Nat) : Int) ∧ ((2 + m : Nat) : Int) % 4294967296 = ((2 + m : Nat) : Int) ∧ wrap64 ((p : Int) + 16) = ((p + 16 : Nat) : Int) ∧ (p : Int) + 16 = ((p + 16 : Nat) : Int) := by
  subst hp
  have h0 : (((16 * m : Nat) : Int)) / 16 = (m : Int) := by omega
  refine ⟨h0, ?_, ?_, ?_, ?_, ?_, ?_, ?_⟩
  · rw [Int.tdiv_eq_ediv_of_nonneg (by omega)]; exact h0
  all_goals first | (unfold wrap64; omega) | (rw [IntKind.wrap_u32]; omega) | omega
theorem ix_q (p j q n : Nat) (h : q = p + j) (hn : q < n) (hn2 : n < 1000000000) : (p : Int) + (j : Int) = (q : Int) ∧ wrap64 ((p : Int) + (j : Int)) = (q : Int) ∧ (0 : Int) ≤ (q : Int) := by
  subst h
  refine ⟨by omega, by unfold wrap64; omega, by omega⟩
theorem ix_min (p n l : Nat) (hp : p < n) (hl : l = min 16 (n - p)) : min (((p + 16 : Nat) : Int)) (n : Int) = ((p + l : Nat) : Int) ∧ min (p + 16) n = p + l ∧ p + l - p = l ∧ (p : Int) ≤ ((p + l : Nat) : Int) ∧ ((p + l : Nat) : Int) ≤ (n : Int) ∧ p ≤ p + l ∧ p + l ≤ n ∧ (((p + l : Nat) : Int)).toNat = p + l := by
  subst hl
  refine ⟨?_, ?_, ?_, ?_, ?_, ?_, ?_, ?_⟩ <;> omega

set_option maxRecDepth 100000 in
set_option maxHeartbeats 1000000 in
theorem mask_e (gx gk gr R gt ct n B cA : Nat) (A : Option Addr) (L : List UInt32) (N P Q : List UInt8) (w : World) (hx : BoxAt w gx gk gr R L) (n1 : gx ≠ gt) (n2 : gk ≠ gt) (n3 : gr ≠ gt) (hN : N.length = 12) (hP : P.length = n)
    (iP : In w B A cA P) (hB : B ≤ gt) (hBw : B ≤ w.heap.size) (hT : Blk w gt 5 (Q.map B8)) (hQ : n ≤ Q.length) (_hQc : Q.length ≤ ct) (hn : n < 1000000000) :
    Calls Try.prog 24 #[.pointer (some ⟨gx, 0, none⟩), .slice (some ⟨gt, 0, none⟩) n ct, .slice A n cA, BV N] w fun e w' => e = .returned (.tuple #[]) ∧ Blk w' gt 5 ((maskE L R N P ++ Q.drop n).map B8) ∧ w.grownBy w' (some gt) := by
  have hXl := maskE_length L R N P
  have hXg := maskE_get L R N P
  obtain ⟨X, hX⟩ : ∃ X, X = maskE L R N P := ⟨_, rfl⟩
  rw [← hX] at hXl hXg ⊢
  rw [hP] at hXl
  have hX0 : X.take 0 ++ Q.drop (min 0 n) = Q := by simp
  have hz : ∀ W : World, (zeroValue 42).run Try.prog W = .ok (BV zero16) W := fun W => by kernel_rfl
  obtain ⟨Z, hZ⟩ : ∃ Z, Z = zero16 := ⟨_, rfl⟩
  have HZL := Lib.hid (show Z.length = 16 by rw [hZ]; rfl)
  rw [← hZ] at hz
  have HBX := Lib.hid hx
  have HXL := Lib.hid hXl
  have HXG := Lib.hid hXg
  have HPL := Lib.hid hP
  have HN := Lib.hid hN
  have HQL := Lib.hid hQ
  have HIP := Lib.hid iP
  have hgt := hT.lt
  clear hx hXl hXg hP hN hQ hX hZ iP
  go_enter Try.func24, Try.ntmps24
  have hNw := Blk.new_of w 23 _ (N.map B8) rfl
  have hg0 : w.grownBy (w.alloc (.cells (N.map B8).toArray 23)) (some gt) := grown_alloc (grown_refl _ _) _
  have hT0 := hT.alloc (.cells (N.map B8).toArray 23)
  rw [← hX0] at hT0
  have hngt : w.heap.size ≠ gt := by omega
  go_wp2
  clear hX0 hT
  obtain ⟨w1, hw1⟩ : ∃ w1, w1 = w.alloc (.cells (N.map B8).toArray 23) := ⟨_, rfl⟩
  rw [← hw1] at hNw hT0 hg0 ⊢
  have hg1 : w1.grownBy w1 (some gt) := grown_refl _ _
  have HG0 := Lib.hid hg0
  have HNW := Lib.hid hNw
  clear hw1 hg0 hNw
  go_loopw [8, 9, 10, 11] (fun i _ _ _ wr => ∃ (m p : Nat), Hid (p = 16 * m) ∧ Hid (p < n + 16) ∧ i = .int .i64 (p : Int) ∧ Blk wr gt 5 ((X.take p ++ Q.drop (min p n)).map B8) ∧ w1.grownBy wr (some gt)) (fun i _ _ _ _ => n + 16 - (intOf i).toNat)
  case atStart => exact ⟨0, 0, by show _ = _; rfl, by show _ < _; omega, rfl, hT0, hg1⟩
  case round =>
    clear hT0 hg1
    obtain ⟨m, p, HP, HPn, rfl, hT, hg⟩ := hrel
    by_cases hlt : p < n
    · have hd1 : decide ((p : Int) < (n : Int)) = true := by simp; omega
      have hgw := grown_trans HG0.out hg
      have hbx := HBX.out.grown hgw n1 n2 n3
      have hNr := HNW.out.grown hg (by simpa using hngt)
      have hin := HIP.out.below (grown_below hgw hB hBw)
      obtain ⟨gb, ob, rfl, hgb, hby⟩ := hin.2.2 (by rw [HPL.out]; omega)
      have hcA := hin.1
      rw [HPL.out] at hcA
      obtain ⟨l, hl⟩ : ∃ l, l = min 16 (n - p) := ⟨_, rfl⟩
      have HPT := Lib.hid (show p + 16 = 16 * (m + 1) by have := HP.out; omega)
      have hA8 := Lib.hid (ix_m p m n HP.out hlt hn)
      have hB8 := Lib.hid (ix_min p n l hlt hl)
      have hci := cipher_e gx gk gr R (2 + m) L N wr hbx HN.out (by have := HP.out; omega)
      have hcp : ¬ cA = p := by omega
      have hSl := sealS_length L R (ctrE N (2 + m))
      have hpd := padAt_blk L R N m
      rw [← HP.out] at hpd
      generalize sealS L R (ctrE N (2 + m)) = C at *
      have HCL := Lib.hid hSl
      have HPD := Lib.hid hpd
      have HL := Lib.hid hl
      have HIN := Lib.hid hin
      have HBY := Lib.hid hby
      rw [show min p n = p by omega] at hT
      have hpc : (p : Int) ≤ (cA : Int) := by omega
      have hp0 : (0 : Int) ≤ (p : Int) := by omega
      have hplc : ((p + l : Nat) : Int) ≤ (cA : Int) := by omega
      clear hSl hpd hl hin hby hbx hgw
      obtain ⟨a1, a2, a3, a4, a5, a6, a7, a8⟩ := hA8.out
      obtain ⟨b1, b2, b3, b4, b5, b6, b7, b8⟩ := hB8.out
      clear hA8 hB8
      generalize 2 + m = m2 at *
      generalize hpl : p + l = pl at *
      have B1 := Lib.hid (And.intro b1 (And.intro b2 (And.intro b4 (And.intro b5 b8))))
      have HPL2 := Lib.hid hpl
      have HB3 := Lib.hid (show pl - p = l from b3)
      have A7 := Lib.hid (And.intro a7 a8)
      clear b1 b2 b3 b4 b5 b6 b7 b8 hpl a7 a8
      go_upto_region 5 with (first
        | ((with_reducible refine (?_ : wpList _ _ _ (Oper.mk (some 19) _ _ _ _ _ :: _) _ _)); go_loud (refine wpList_load_blk rfl 23 (.tmp 7) rfl (w.heap.size) rfl 23 _ _ hNr Try.underlying23 rfl (info12.trans (by rw [List.length_map, HN.out])) ?_))
        | (go_at_call 47; refine hci.mono ?_; rintro e w2 ⟨rfl, hb2⟩; have hT2 := hT.below hb2 hT.lt; have hg2 := grown_trans hg (grown_of_below hb2 (some gt)); clear hb2 hci hT hg hNr)
        | ((with_reducible refine (?_ : wpList _ _ _ (Oper.mk none (.store 42 (.tmp 9) _) _ _ _ _ :: _) _ _)); go_loud (refine wpList_store_blk rfl 42 (.tmp 9) (.tmp 24) rfl rfl (w2.heap.size) _ rfl rfl 42 _ (Blk.new_of w2 42 _ _ rfl) (infoBk.trans (by rw [List.length_map, HCL.out])) (by rw [List.length_map, List.length_map, HCL.out, HZL.out]) (one8 _) ?_); intro w3 hC3 hg3))
      have hb3 := below_new ((Below.refl w2.heap.size w2).alloc (Nat.le_refl _) _) hg3 (Nat.le_refl _) (by simp)
      have hT3 := hT2.below hb3 hT2.lt
      have hgr := grown_trans hg2 (grown_of_below hb3 (some gt))
      have hngc : w2.heap.size ≠ gt := by have := hT2.lt; omega
      clear hT2 hg2 hb3 hg3 a1 a2 a3 a4 a5 a6 hz
      generalize w2.heap.size = gc at *
      obtain ⟨b1, b2, b4, b5, b8⟩ := B1.out
      obtain ⟨a7, a8⟩ := A7.out
      have b3 := HB3.out
      clear B1 A7
      generalize p + 16 = p16 at *
      go_wp2
      have B2 := Lib.hid b2
      have A7 := Lib.hid (And.intro a7 a8)
      clear b1 b2 b3 b4 b5 b8 a7 a8 hpc hplc hcp HB3 hcA
      go_loopw [10, 11, 34] (fun _ _ i wx => ∃ j : Nat, j ≤ l ∧ i = .int .i64 (j : Int) ∧ Blk wx gc 42 (C.map B8) ∧ Blk wx gt 5 ((X.take (p + j) ++ Q.drop (p + j)).map B8) ∧ w1.grownBy wx (some gt)) (fun _ _ i _ => l - (intOf i).toNat)
      case atStart => exact ⟨0, by omega, rfl, hC3, hT3, hgr⟩
      case round =>
        clear hC3 hT3 hgr
        obtain ⟨j, hj, rfl, hC, hT, hg⟩ := hrel
        have hll := HL.out
        by_cases hjl : j < l
        · have hd2 : decide ((j : Int) < (l : Int)) = true := by simp; omega
          have hj16 : j < 16 := by omega
          obtain ⟨q, hq⟩ : ∃ q, q = p + j := ⟨_, rfl⟩
          have hqn : q < n := by omega
          have hin := HIP.out.below (grown_below (grown_trans HG0.out hg) hB hBw)
          obtain ⟨gb', ob', e, _, hby⟩ := hin.2.2 (by rw [HPL.out]; omega)
          cases e
          have hc1 := hby q (by rw [HPL.out]; exact hqn)
          have hx := HXG.out q (by rw [HPL.out]; exact hqn)
          have hpd := HPD.out j hj16
          have hlen := mid_len X Q q (by rw [HXL.out]; omega) (by have := HQL.out; omega)
          have hst := set_up X Q q (by rw [HXL.out]; omega) (by have := HQL.out; omega)
          rw [← hq] at hT hpd
          have hct := hT.at8 q (by rw [hlen]; have := HQL.out; omega)
          have hf := hT.frozen q
          have hcC := hC.at8 j (by rw [HCL.out]; exact hj16)
          have hcS := hC.far (p := ⟨gt, q, none⟩) (by simpa using hngc) (B8 (X.getD q 0))
          have hT2 := hT.set_ q (B8 (X.getD q 0))
          rw [map_set8, hst] at hT2
          have hg2 := grown_setCell hg (p := ⟨gt, q, none⟩) (.inl rfl) (B8 (X.getD q 0))
          have hxx := b_xor (P.getD q 0) (C.getD j 0)
          rw [← hpd, ← hx, hpd] at hxx
          rw [hq, show p + j + 1 = p + (j + 1) from rfl, ← hq] at hT2
          rw [hq, ← Nat.add_assoc, ← hq] at hc1
          have hqi : (q : Int) < (n : Int) := by omega
          have hj0 : (0 : Int) ≤ (j : Int) := by omega
          have hji : (j : Int) < (l : Int) := by omega
          have hji16 : (j : Int) < 16 := by omega
          obtain ⟨hw0, -, hq0⟩ := ix_q p j q n hq hqn hn
          have HT2 := Lib.hid hT2
          have HCS := Lib.hid hcS
          have HG2 := Lib.hid hg2
          generalize P.getD q 0 = y1 at *
          generalize C.getD j 0 = y2 at *
          generalize X.getD q 0 = y3 at *
          clear hT2 hcS hg2 hpd hx hlen hst hby hin hT hC hg hll hq hj16 hqn
          go_wp2
          go_roundw
          case rel => exact ⟨j + 1, by omega, by go_num, HCS.out, HT2.out, HG2.out⟩
          case measure => simp [intOf]; omega
        · have hd2 : decide ((j : Int) < (l : Int)) = false := by simp; omega
          have hjl2 : p + j = pl := by have := HPL2.out; omega
          rw [hjl2] at hT
          have hTT : Hid (Blk wr gt 5 ((X.take p16 ++ Q.drop (min p16 n)).map B8)) := (by
            have hm := B2.out
            rw [show X.take p16 = X.take pl from (List.take_eq_take_iff.2 (by rw [HXL.out]; omega)), hm]
            exact hT)
          have HG := Lib.hid hg
          clear hT hC hg hll hjl2
          obtain ⟨-, a8⟩ := A7.out
          go_wp2
          go_roundw
          case rel => exact ⟨m + 1, p16, HPT.out, (show _ < _ by omega), rfl, hTT.out, HG.out⟩
          case measure => simp [intOf]; omega
    · have hd1 : decide ((p : Int) < (n : Int)) = false := by simp; omega
      rw [show min p n = n by omega, List.take_of_length_le (by rw [HXL.out]; omega)] at hT
      have hgg := grown_trans HG0.out hg
      go_wp2
      go_end0
      exact ⟨rfl, hT, hgg⟩

end Go.Proofs.Ytefbjhdcmgonbaa
