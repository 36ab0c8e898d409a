/-
  The contracts of old.Hide and old.Show, for all secrets, beginnings and bytes.
-/
import Derived.Test.YtkiogpnjkmdmgaaDoorHm
import Derived.Test.YtkiogpnjkmdmgaaDoorQOf
import Derived.Test.YtkiogpnjkmdmgaaDoorKeep
import Derived.Test.YtkiogpnjkmdmgaaDoorPads
namespace Go.Proofs.YtkiogpnjkmdmgaaDoor
open Go.RowKit

theorem In.weak {w : World} {B B' c : Nat} {A : Option Addr} {xs : List UInt8} (h : In w B A c xs) (hB : B ≤ B') : In w B' A c xs :=
  ⟨h.1, h.2.1, fun h0 => by
    obtain ⟨gb, ob, e, hb, hby⟩ := h.2.2 h0
    exact ⟨gb, ob, e, by omega, hby⟩⟩
theorem splice_pad (b : List UInt8) (n : Nat) (h : b.length ≤ n) : splice ((List.replicate n (0 : UInt8)).map B8) 0 (b.map B8) = (b ++ List.replicate (n - b.length) 0).map B8 := by
  have e : (List.replicate n (0 : UInt8)).map B8 = List.replicate n (B8 0) := List.map_replicate
  rw [splice_eq, e, Nat.zero_add, List.length_map, List.drop_replicate, List.take_zero, List.nil_append, List.map_append, List.map_replicate]
/-- A part of a row that is known reads as bytes. -/
theorem in_of_blk {w : World} {g o c n : Nat} {t : TypeId} {L xs : List UInt8} (h : Blk w g t (L.map B8)) (hx : xs = (L.drop o).take n) (hn : xs.length = n) (hc : n ≤ c) (hcm : c ≤ 9223372036854775807) : In w w.heap.size (some ⟨g, o, none⟩) c xs := by
  refine ⟨by omega, hcm, fun _ => ⟨g, o, rfl, h.lt, fun j hj => ?_⟩⟩
  have hl : o + j < L.length := by
    have := congrArg List.length hx
    rw [List.length_take, List.length_drop] at this
    omega
  rw [h.at8 (o + j) hl, hx]
  congr 3
  rw [getD_take _ _ _ (by omega), List.getD_eq_getElem?_getD, List.getD_eq_getElem?_getD, List.getElem?_drop]
theorem row_take {D X R : List UInt8} {o : Nat} (hD : D.length = o) : ((D ++ X ++ R).drop o).take X.length = X := by
  rw [List.append_assoc, List.drop_append, hD, Nat.sub_self, List.drop_eq_nil_of_le (by omega), List.nil_append, List.drop_zero, List.take_append_of_le_length (Nat.le_refl _), List.take_length]

set_option maxRecDepth 100000 in
set_option maxHeartbeats 2000000 in
theorem hide_any (As Ab A : Option Addr) (cs cb c B n N : Nat) (sec beg b P : List UInt8) (w : World) (hB : B ≤ w.heap.size) (is : In w B As cs sec) (ib : In w B Ab cb beg) (i0 : In w B A c b) (ht : TabsQ w)
    (hs : sec.length ≤ 1000000) (hbl : beg.length ≤ 1000000) (hb : b.length ≤ 1000000) (hn : n = (b.length + 15) / 16) (hN : N = 16 * n) (hP : P = b ++ List.replicate (N - b.length) 0) :
    Calls Tryd.prog 15 #[.slice As sec.length cs, .slice Ab beg.length cb, .slice A b.length c] w fun e w' => e = .returned (.slice (some ⟨w.heap.size, 0, none⟩) N N) ∧ Blk w' w.heap.size 5 ((hDone false sec beg P n).map B8) ∧ Below w.heap.size w w' := by
  have ht0 := ht.lt0
  have ht1 := ht.lt1
  have hpl : P.length = N := by rw [hP, List.length_append, List.length_replicate]; omega
  have d1 : ((b.length : Int) + 15).tdiv 16 = (n : Int) := by rw [Int.tdiv_eq_ediv_of_nonneg (by omega)]; omega
  have d2 : ((n : Int) * 16) = (N : Int) := by omega
  have hnb : n ≤ 100000 := by omega
  have hmk := run_make_bytes .i64 .i64 N N (Nat.le_refl _) (by omega) w
  have hsp := (splice_pad b N (by omega)).trans (by rw [← hP])
  have hzl : (List.replicate N (0 : UInt8)).length = N := List.length_replicate
  generalize List.replicate N (0 : UInt8) = Z at hmk hsp hzl
  have HSP := Lib.hid hsp
  have HZL := Lib.hid hzl
  have HC := Lib.hid (fun (X : Obj) (hp : 0 < (b.map B8).length) => (Src.cells (x := ⟨0, 0, none⟩) ((i0.src (show B ≤ w.heap.size from hB)).alloc X) hp).2)
  have HPL := Lib.hid hpl
  have HN := Lib.hid (show n = (b.length + 15) / 16 ∧ N = 16 * n from ⟨hn, hN⟩)
  have hNb : N ≤ 1600000 := by omega
  clear hP hn hpl hN hsp hzl
  go_enter Tryd.func15, Tryd.ntmps15
  go_wp2_with (first
    | ((with_reducible refine (?_ : wpList _ _ _ (Oper.mk (some 21) _ _ _ _ _ :: _) _ _)); go_loud (refine wpList_copy_blk rfl (.tmp 19) (.tmp 20) 27 27 rfl 5 Tryd.underlying27 info8 _ _ _ _ _ _ (by rfl) (by rfl) w.heap.size 0 (Z.map B8) 5 (Blk.new_of w _ _ _ (by rfl)) (b.map B8) (by rw [List.length_map]; exact (Nat.min_eq_left (by have := HN.out; omega)).symm) (fun hp => ⟨rfl, HC.out _ hp⟩) (by rw [List.length_map, List.length_map, HZL.out]; have := HN.out; omega) (oneB8 _) ?_); intro w1 hK hg1; rw [HSP.out] at hK))
  clear hmk d1 d2 HC HSP
  have hb1 : Below w.heap.size w w1 := below_new ((Below.refl _ _).alloc (Nat.le_refl _) _) hg1 (Nat.le_refl _) (by simp)
  have ib1 := (ib.weak hB).up hb1
  clear hg1
  go_loopw [8, 9] (fun ah i wr => ∃ (k p ca l : Nat) (Ah : Option Addr), k ≤ n ∧ Hid (p = 16 * k) ∧ i = .int .i64 (p : Int) ∧ ah = .slice Ah l ca ∧ Hid (l = (hAh false sec beg P k).length) ∧ In wr wr.heap.size Ah ca (hAh false sec beg P k) ∧ Blk wr w.heap.size 5 ((hDone false sec beg P k ++ P.drop p).map B8) ∧ Below w.heap.size w wr) (fun _ i _ => N - (intOf i).toNat)
  case atStart => exact ⟨0, 0, cb, _, Ab, Nat.zero_le _, (show _ = _ from rfl), rfl, rfl, (show _ = _ from rfl), ib1, hK, hb1⟩
  case round =>
    clear hK hb1 ib1
    obtain ⟨k, p, ca, l, Ah, hk, HPK, rfl, rfl, HL, iA, hK, hbw⟩ := hrel
    have hpk : p = 16 * k := HPK.out
    have hNN := HN.out
    have hpll : P.length = N := HPL.out
    by_cases hlt : p < N
    · have hkn : k < n := by omega
      have hd : decide ((p : Int) < (N : Int)) = true := by simp; omega
      have hll : l = (hAh false sec beg P k).length := HL.out
      have hla : (hAh false sec beg P k).length ≤ beg.length + 16 := hAh_length (by omega)
      have hX := hOb_length (back := false) (sec := sec) (beg := beg) (P := P) (k := k) (by omega)
      have hXg := fun i (hi : i < 16) => hOb_get (back := false) (sec := sec) (beg := beg) (P := P) (k := k) (i := i) (by omega) hi
      have hD := hDone_length (back := false) (sec := sec) (beg := beg) (P := P) (k := k) (by omega)
      have hXs := hAh_false (sec := sec) (beg := beg) (P := P) k
      have hDs : hDone false sec beg P (k + 1) = hDone false sec beg P k ++ hOb false sec beg P k := rfl
      have hbs := hbw.size
      have his : In wr wr.heap.size As cs sec := ((is.weak hB).below hbw).weak hbs
      obtain ⟨a, ha⟩ : ∃ a, a = hAh false sec beg P k := ⟨_, rfl⟩
      rw [← ha] at hll hla hXg iA
      subst hll
      obtain ⟨X, hXd⟩ : ∃ X, X = hOb false sec beg P k := ⟨_, rfl⟩
      rw [← hXd] at hX hXg hXs hDs
      obtain ⟨D, hDd⟩ : ∃ D, D = hDone false sec beg P k := ⟨_, rfl⟩
      rw [← hDd] at hD hDs hK
      rw [← hpk] at hD hXg
      clear ha hXd hDd HL
      have hof := qOf_any 2 (some ⟨wr.heap.size, 0, none⟩) [sec, a] (wr.alloc (.cells #[.slice As sec.length cs, .slice Ah a.length ca] 27)) (by simp only [List.flatten_cons, List.flatten_nil, List.append_nil, List.length_append]; omega) (by simp) (by omega) (fun g hg => parts2 27 his iA (by rw [size_alloc] at hg; omega) (by rw [size_alloc] at hg; omega)) ((ht.below hbw).below ((Below.refl _ _).alloc (Nat.le_refl _) _))
      simp only [List.flatten_cons, List.flatten_nil, List.append_nil] at hof
      have hml := md5_length (sec ++ a)
      generalize md5 (sec ++ a) = m at *
      have HML := Lib.hid hml
      have HXG := Lib.hid hXg
      have HX := Lib.hid hX
      have HXS := Lib.hid hXs
      have HDS := Lib.hid hDs
      have HD := Lib.hid hD
      clear hml hXg hX hXs hDs hD hpk hNN hpll hla
      go_wp2_with (first
        | (go_at_call 22; refine hof.mono ?_; rintro e w2 ⟨rfl, hb2⟩;
           have hK2 := (hK.alloc _).below hb2 (by simp; have := hK.lt; omega); have hb02 := (hbw.alloc hbs _).trans (hb2.mono (by simp; omega)); clear hof hb2)
        | (refine wpList_store_blk rfl 41 (.tmp 10) (.tmp 32) rfl rfl w2.heap.size _ rfl rfl 41 _ (Blk.new_of w2 41 _ ((List.replicate 16 (0 : UInt8)).map B8) (by rfl)) (infoH.trans (by rw [List.length_map, HML.out])) (by rw [List.length_map, List.length_map, HML.out]; rfl) (one8 _) ?_; intro w3 hM3 hg3)
        | (refine wpList_load_blk rfl 41 (.tmp 10) rfl w2.heap.size rfl 41 _ _ hM3 Tryd.underlying41 rfl (infoH.trans (by rw [List.length_map, HML.out])) ?_))
      have hK3 := (hK2.alloc _).grown hg3 (by have := hK2.lt; simp; omega)
      have hb3 := below_new (hb02.alloc hb02.size _) hg3 hb02.size (by have := hb02.size; simp; omega)
      clear hK hK2 hg3 hM3 hb02 hbw iA his
      go_loopw [34] (fun i wv => ∃ j : Nat, j ≤ 16 ∧ i = .int .i64 (j : Int) ∧ Blk wv w.heap.size 5 ((D ++ X.take j ++ P.drop (p + j)).map B8) ∧ Below w.heap.size w wv) (fun i _ => 16 - (intOf i).toNat)
      case atStart => exact ⟨0, Nat.zero_le _, rfl, by simpa using hK3, hb3⟩
      case round =>
        clear hK3 hb3
        obtain ⟨j, hj, rfl, hK, hbw⟩ := hrel
        by_cases hjl : j < 16
        · have hd2 : decide ((j : Int) < 16) = true := by simp; omega
          have hix := index_bytes 16 41 m HML.out Tryd.underlying41 j hjl
          have hlen : (D ++ X.take j ++ P.drop (p + j)).length = N := by rw [mid_length D X P p j HD.out (by rw [HX.out]; omega) (by rw [HPL.out]; have := HN.out; have := HPK.out; omega), HPL.out]
          have hpN : p + j < N := by have := HN.out; have := HPK.out; omega
          have hc := hK.at8 (p + j) (by omega)
          rw [get_mid D X P p j HD.out (by rw [HX.out]; omega) (by rw [HPL.out]; omega)] at hc
          have hf := hK.frozen (p + j)
          have hx : bits .xor .u8 ((P.getD (p + j) 0).toNat : Int) ((m.getD j 0).toNat : Int) = ((X.getD j 0).toNat : Int) := by rw [b_xor, HXG.out j hjl]
          have hst := set_mid D X P p j HD.out (by rw [HX.out]; omega) (by rw [HPL.out]; omega)
          generalize P.getD (p + j) 0 = x1 at *
          generalize m.getD j 0 = x2 at *
          generalize X.getD j 0 = x3 at *
          have hw0 : (p : Int) + (j : Int) = ((p + j : Nat) : Int) := by omega
          have hw1 : p + (j + 1) = p + j + 1 := rfl
          have hw2 : (p : Int) + (j : Int) < 9223372036854775808 := by omega
          clear hlen
          generalize D ++ X.take j ++ P.drop (p + j) = L at *
          obtain ⟨q, hq⟩ : ∃ q, q = p + j := ⟨_, rfl⟩
          rw [← hq] at hst hw0 hw1 hc hf hpN
          have HQ := Lib.hid hq
          have HST := Lib.hid hst
          have HW1 := Lib.hid hw1
          have hi1 : (q : Int) < (N : Int) := by omega
          have hi0 : 0 ≤ (q : Int) := by omega
          clear hst hq hw1
          go_wp2
          go_roundw
          case rel =>
            refine ⟨j + 1, by omega, by go_num, ?_, hbw.setCell (by simp) _⟩
            rw [HW1.out, ← HST.out, ← map_set8]
            exact hK.set_ q _
          case measure => simp [intOf]; omega
        · have hd2 : decide ((j : Int) < 16) = false := by simp; omega
          obtain rfl : j = 16 := by omega
          have hpN : p + 16 ≤ N := by have := HN.out; have := HPK.out; omega
          rw [List.take_of_length_le (by rw [HX.out]; omega)] at hK
          have hiX := in_of_blk (xs := X) (o := p) (n := 16) (c := N - p) hK (by rw [← HX.out]; exact (row_take HD.out).symm) HX.out (by omega) (by omega)
          have hs1 : (p : Int) + 16 ≤ (N : Int) := by omega
          have hs2 : (p : Int) + 16 < 9223372036854775808 := by omega
          go_wp2
          refine ⟨⟨k + 1, p + 16, N - p, 16, some ⟨w.heap.size, p, none⟩, by omega, ?_, by go_num, by rw [Nat.add_sub_cancel_left], ?_, ?_, ?_, hbw⟩, ?_⟩
          · show _ = _
            have := HPK.out; omega
          · show _ = _
            rw [HXS.out, HX.out]
          · rw [HXS.out]; exact hiX
          · rw [HDS.out]; exact hK
          · simp [intOf]; omega
    · have hd : decide ((p : Int) < (N : Int)) = false := by simp; omega
      obtain rfl : k = n := by omega
      rw [List.drop_eq_nil_of_le (by omega), List.append_nil] at hK
      go_wp2
      go_ret
      exact ⟨rfl, hK, hbw⟩
end Go.Proofs.YtkiogpnjkmdmgaaDoor
