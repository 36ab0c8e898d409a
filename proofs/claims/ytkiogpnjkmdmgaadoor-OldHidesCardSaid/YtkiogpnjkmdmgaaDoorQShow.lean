/-
  The contract of old.Show, for all secrets, beginnings and bytes.
-/
import Derived.Test.YtkiogpnjkmdmgaaDoorQHide
namespace Go.Proofs.YtkiogpnjkmdmgaaDoor
open Go.RowKit

theorem In.sub {w : World} {B gb ob c : Nat} {xs : List UInt8} (h : In w B (some ⟨gb, ob, none⟩) c xs) (h0 : 0 < xs.length) (o n : Nat) (hn : o + n ≤ xs.length) : In w B (some ⟨gb, ob + o, none⟩) (c - o) ((xs.drop o).take n) := by
  have hl : ((xs.drop o).take n).length = n := by rw [List.length_take, List.length_drop]; omega
  obtain ⟨h1, h2, h3⟩ := h
  obtain ⟨g, q, e, hg, hby⟩ := h3 h0
  cases e
  refine ⟨by omega, by omega, fun _ => ⟨gb, ob + o, rfl, hg, fun j hj => ?_⟩⟩
  rw [hl] at hj
  rw [Nat.add_assoc, hby (o + j) (by omega), getD_take _ _ _ hj]
  simp [List.getD_eq_getElem?_getD, List.getElem?_drop]

set_option maxRecDepth 100000 in
theorem show_bad (As Ab A : Option Addr) (ls lb cs cb c n : Nat) (w : World) (h : n % 16 ≠ 0) (hn : n ≤ 1000000) :
    Calls Tryd.prog 16 #[.slice As ls cs, .slice Ab lb cb, .slice A n c] w fun e w' => e = .returned (.slice none 0 0) ∧ Below w.heap.size w w' := by
  have d1 : (n : Int).tmod 16 = ((n % 16 : Nat) : Int) := by rw [Int.tmod_eq_emod_of_nonneg (by omega)]; omega
  obtain ⟨r, hr⟩ : ∃ r, r = n % 16 := ⟨_, rfl⟩
  rw [← hr] at d1 h
  have d2 : ¬ ((r : Int) = 0) := by omega
  clear hr
  go_enter Tryd.func16, Tryd.ntmps16
  go_wp2
  go_ret
  exact ⟨rfl, Below.refl _ _⟩

set_option maxRecDepth 100000 in
set_option maxHeartbeats 2000000 in
theorem show_any (As Ab A : Option Addr) (cs cb c B n N : Nat) (sec beg P : List UInt8) (w : World) (hB : B ≤ w.heap.size) (is : In w B As cs sec) (ib : In w B Ab cb beg) (i0 : In w B A c P) (ht : TabsQ w)
    (hs : sec.length ≤ 1000000) (hbl : beg.length ≤ 1000000) (hb : P.length ≤ 1000000) (hN : N = 16 * n) (hpl : P.length = N) :
    Calls Tryd.prog 16 #[.slice As sec.length cs, .slice Ab beg.length cb, .slice A N c] w fun e w' => e = .returned (.slice (some ⟨w.heap.size, 0, none⟩) N N) ∧ Blk w' w.heap.size 5 ((hDone true sec beg P n).map B8) ∧ Below w.heap.size w w' := by
  have ht0 := ht.lt0
  have ht1 := ht.lt1
  have d1 : (N : Int).tmod 16 = 0 := by rw [Int.tmod_eq_emod_of_nonneg (by omega)]; omega
  have hmk := run_make_bytes .i64 .i64 N N (Nat.le_refl _) (by omega) w
  have hzl : (List.replicate N (0 : UInt8)).length = N := List.length_replicate
  generalize List.replicate N (0 : UInt8) = Z at hmk hzl
  have HZL := Lib.hid hzl
  have HPL := Lib.hid hpl
  have HN := Lib.hid hN
  have hNb : N ≤ 1600000 := by omega
  have hnb : n ≤ 100000 := by omega
  obtain ⟨hc1, hc2, _⟩ := id i0
  rw [hpl] at hc1
  clear hpl hN hzl
  go_enter Tryd.func16, Tryd.ntmps16
  go_wp2
  have hK : Blk (w.alloc (.cells (Z.map B8).toArray 5)) w.heap.size 5 (Z.map B8) := Blk.new_of w _ _ _ (by rfl)
  have hb1 : Below w.heap.size w (w.alloc (.cells (Z.map B8).toArray 5)) := (Below.refl _ _).alloc (Nat.le_refl _) _
  have ib1 := (ib.weak hB).up hb1
  go_loopw [8, 9] (fun ah i wr => ∃ (k p ca l : Nat) (Ah : Option Addr), k ≤ n ∧ Hid (p = 16 * k) ∧ i = .int .i64 (p : Int) ∧ ah = .slice Ah l ca ∧ Hid (l = (hAh true sec beg P k).length) ∧ In wr wr.heap.size Ah ca (hAh true sec beg P k) ∧ Blk wr w.heap.size 5 ((hDone true sec beg P k ++ Z.drop p).map B8) ∧ Below w.heap.size w wr) (fun _ i _ => N - (intOf i).toNat)
  case atStart => exact ⟨0, 0, cb, _, Ab, Nat.zero_le _, (show _ = _ from rfl), rfl, rfl, (show _ = _ from rfl), ib1, hK, hb1⟩
  case round =>
    clear hK hb1 ib1
    obtain ⟨k, p, ca, l, Ah, hk, HPK, rfl, rfl, HL, iA, hK, hbw⟩ := hrel
    have hpk : p = 16 * k := HPK.out
    have hNN := HN.out
    have hpll : P.length = N := HPL.out
    by_cases hlt : p < N
    · have hkn : k < n := by omega
      have hd : decide ((p : Int) < (N : Int)) = true := by simp; omega
      have hll : l = (hAh true sec beg P k).length := HL.out
      have hla : (hAh true sec beg P k).length ≤ beg.length + 16 := hAh_length (by omega)
      have hX := hOb_length (back := true) (sec := sec) (beg := beg) (P := P) (k := k) (by omega)
      have hXg := fun i (hi : i < 16) => hOb_get (back := true) (sec := sec) (beg := beg) (P := P) (k := k) (i := i) (by omega) hi
      have hD := hDone_length (back := true) (sec := sec) (beg := beg) (P := P) (k := k) (by omega)
      have hXs := hAh_true (sec := sec) (beg := beg) (P := P) k
      obtain ⟨gb, ob, rfl, hgb, hby⟩ := i0.2.2 (by omega)
      have hsub := i0.sub (by omega) p 16 (by omega)
      have hsl : sl P k = (P.drop p).take 16 := by rw [hpk]; rfl
      rw [← hsl] at hsub
      have hsll := sl_length (P := P) (k := k) (by omega)
      clear hsl
      generalize sl P k = Y at hsub hXs hsll
      have HSL := Lib.hid hsll
      have hDs : hDone true sec beg P (k + 1) = hDone true sec beg P k ++ hOb true sec beg P k := rfl
      have hbs := hbw.size
      have his : In wr wr.heap.size As cs sec := ((is.weak hB).below hbw).weak hbs
      obtain ⟨a, ha⟩ : ∃ a, a = hAh true sec beg P k := ⟨_, rfl⟩
      rw [← ha] at hll hla hXg iA
      subst hll
      obtain ⟨X, hXd⟩ : ∃ X, X = hOb true sec beg P k := ⟨_, rfl⟩
      rw [← hXd] at hX hXg hDs
      obtain ⟨D, hDd⟩ : ∃ D, D = hDone true sec beg P k := ⟨_, rfl⟩
      rw [← hDd] at hD hDs hK
      rw [← hpk] at hD hXg
      clear ha hXd hDd HL
      have hof := qOf_any 2 (some ⟨wr.heap.size, 0, none⟩) [sec, a] (wr.alloc (.cells #[.slice As sec.length cs, .slice Ah a.length ca] 27)) (by simp only [List.flatten_cons, List.flatten_nil, List.append_nil, List.length_append]; omega) (by simp) (by omega) (fun g hg => parts2 27 his iA (by rw [size_alloc] at hg; omega) (by rw [size_alloc] at hg; omega)) ((ht.below hbw).below ((Below.refl _ _).alloc (Nat.le_refl _) _))
      simp only [List.flatten_cons, List.flatten_nil, List.append_nil] at hof
      have hml := md5_length (sec ++ a)
      generalize md5 (sec ++ a) = m at *
      have HML := Lib.hid hml
      have HXG := Lib.hid hXg
      have HX := Lib.hid hX
      have HXS := Lib.hid hXs
      have HDS := Lib.hid hDs
      have HD := Lib.hid hD
      clear hml hXg hX hXs hDs hD hpk hNN hpll hla hsll
      go_wp2_with (first
        | (go_at_call 22; refine hof.mono ?_; rintro e w2 ⟨rfl, hb2⟩;
           have hK2 := (hK.alloc _).below hb2 (by simp; have := hK.lt; omega); have hb02 := (hbw.alloc hbs _).trans (hb2.mono (by simp; omega)); clear hof hb2)
        | (refine wpList_store_blk rfl 41 (.tmp 10) (.tmp 30) rfl rfl w2.heap.size _ rfl rfl 41 _ (Blk.new_of w2 41 _ ((List.replicate 16 (0 : UInt8)).map B8) (by rfl)) (infoH.trans (by rw [List.length_map, HML.out])) (by rw [List.length_map, List.length_map, HML.out]; rfl) (one8 _) ?_; intro w3 hM3 hg3)
        | (refine wpList_load_blk rfl 41 (.tmp 10) rfl w2.heap.size rfl 41 _ _ hM3 Tryd.underlying41 rfl (infoH.trans (by rw [List.length_map, HML.out])) ?_))
      have hK3 := (hK2.alloc _).grown hg3 (by have := hK2.lt; simp; omega)
      have hb3 := below_new (hb02.alloc hb02.size _) hg3 hb02.size (by have := hb02.size; simp; omega)
      clear hK hK2 hg3 hM3 hb02 hbw iA his
      go_loopw [32] (fun i wv => ∃ j : Nat, j ≤ 16 ∧ i = .int .i64 (j : Int) ∧ Blk wv w.heap.size 5 ((D ++ X.take j ++ Z.drop (p + j)).map B8) ∧ Below w.heap.size w wv) (fun i _ => 16 - (intOf i).toNat)
      case atStart => exact ⟨0, Nat.zero_le _, rfl, by simpa using hK3, hb3⟩
      case round =>
        clear hK3 hb3
        obtain ⟨j, hj, rfl, hK, hbw⟩ := hrel
        by_cases hjl : j < 16
        · have hd2 : decide ((j : Int) < 16) = true := by simp; omega
          have hix := index_bytes 16 41 m HML.out Tryd.underlying41 j hjl
          have hlen : (D ++ X.take j ++ Z.drop (p + j)).length = N := by rw [mid_length D X Z p j HD.out (by rw [HX.out]; omega) (by rw [HZL.out]; have := HN.out; have := HPK.out; omega), HZL.out]
          have hpN : p + j < N := by have := HN.out; have := HPK.out; omega
          have hc := hK.at8 (p + j) (by omega)
          have hpc := (hbw.cell (p := ⟨gb, ob + (p + j), none⟩) (by show gb < _; omega)).trans (hby (p + j) (by rw [HPL.out]; exact hpN))
          have hf := hK.frozen (p + j)
          have hx : bits .xor .u8 ((P.getD (p + j) 0).toNat : Int) ((m.getD j 0).toNat : Int) = ((X.getD j 0).toNat : Int) := by rw [b_xor, HXG.out j hjl]
          have hst := set_mid D X Z p j HD.out (by rw [HX.out]; omega) (by rw [HZL.out]; omega)
          generalize P.getD (p + j) 0 = x1 at *
          generalize m.getD j 0 = x2 at *
          generalize X.getD j 0 = x3 at *
          have hw0 : (p : Int) + (j : Int) = ((p + j : Nat) : Int) := by omega
          have hw1 : p + (j + 1) = p + j + 1 := rfl
          have hw2 : (p : Int) + (j : Int) < 9223372036854775808 := by omega
          clear hlen
          generalize D ++ X.take j ++ Z.drop (p + j) = L at *
          obtain ⟨q, hq⟩ : ∃ q, q = p + j := ⟨_, rfl⟩
          rw [← hq] at hst hw0 hw1 hc hf hpN hpc
          have HQ := Lib.hid hq
          have HST := Lib.hid hst
          have HW1 := Lib.hid hw1
          have hi1 : (q : Int) < (N : Int) := by omega
          have hi0 : 0 ≤ (q : Int) := by omega
          clear hst hq hw1
          go_wp2
          go_roundw
          case rel =>
            refine ⟨j + 1, by omega, by go_num, ?_, hbw.setCell (by simp) _⟩
            rw [HW1.out, ← HST.out, ← map_set8]
            exact hK.set_ q _
          case measure => simp [intOf]; omega
        · have hd2 : decide ((j : Int) < 16) = false := by simp; omega
          obtain rfl : j = 16 := by omega
          have hpN : p + 16 ≤ N := by have := HN.out; have := HPK.out; omega
          rw [List.take_of_length_le (by rw [HX.out]; omega)] at hK
          have hiX := ((hsub.weak hB).below hbw).weak hbw.size
          have hs1 : (p : Int) + 16 ≤ (c : Int) := by omega
          have hs2 : (p : Int) + 16 < 9223372036854775808 := by omega
          go_wp2
          refine ⟨⟨k + 1, p + 16, c - p, 16, some ⟨gb, ob + p, none⟩, by omega, ?_, by go_num, by rw [Nat.add_sub_cancel_left], ?_, ?_, ?_, hbw⟩, ?_⟩
          · show _ = _
            have := HPK.out; omega
          · show _ = _
            rw [HXS.out, HSL.out]
          · rw [HXS.out]; exact hiX
          · rw [HDS.out]; exact hK
          · simp [intOf]; omega
    · have hd : decide ((p : Int) < (N : Int)) = false := by simp; omega
      obtain rfl : k = n := by omega
      rw [List.drop_eq_nil_of_le (by rw [HZL.out]; omega), List.append_nil] at hK
      go_wp2
      go_ret
      exact ⟨rfl, hK, hbw⟩
end Go.Proofs.YtkiogpnjkmdmgaaDoor
