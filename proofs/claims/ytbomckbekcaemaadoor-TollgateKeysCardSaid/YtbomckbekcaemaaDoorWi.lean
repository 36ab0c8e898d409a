/-
  Joined: Hm, QHide, QShow.
-/
import Derived.Test.YtbomckbekcaemaaDoorWc
import Derived.Test.YtbomckbekcaemaaDoorWb
import Derived.Test.YtbomckbekcaemaaDoorWa
namespace Go.Proofs.YtbomckbekcaemaaDoor
section
/-- The k-th block of sixteen bytes. -/
def sl (P : List UInt8) (k : Nat) : List UInt8 := (P.drop (16 * k)).take 16
def x16 (a m : List UInt8) : List UInt8 := List.zipWith (· ^^^ ·) a m
/-- What stands ahead of the k-th block. -/
def hAh (back : Bool) (sec beg P : List UInt8) : Nat → List UInt8
  | 0 => beg
  | k + 1 => if back then sl P k else x16 (sl P k) (md5 (sec ++ hAh back sec beg P k))
/-- What becomes of the k-th block. -/
def hOb (back : Bool) (sec beg P : List UInt8) (k : Nat) : List UInt8 := x16 (sl P k) (md5 (sec ++ hAh back sec beg P k))
def hDone (back : Bool) (sec beg P : List UInt8) : Nat → List UInt8
  | 0 => []
  | k + 1 => hDone back sec beg P k ++ hOb back sec beg P k

section
variable {back : Bool} {sec beg P : List UInt8} {k n : Nat}
theorem sl_length (h : 16 * (k + 1) ≤ P.length) : (sl P k).length = 16 := by simp [sl]; omega
theorem hOb_length (h : 16 * (k + 1) ≤ P.length) : (hOb back sec beg P k).length = 16 := by
  simp [hOb, x16, sl_length h, md5_length]
theorem hDone_length (h : 16 * k ≤ P.length) : (hDone back sec beg P k).length = 16 * k := by
  induction k with
  | zero => rfl
  | succ k ih => rw [hDone, List.length_append, ih (by omega), hOb_length h]; omega
theorem hAh_true (k : Nat) : hAh true sec beg P (k + 1) = sl P k := by simp [hAh]
theorem hAh_false (k : Nat) : hAh false sec beg P (k + 1) = hOb false sec beg P k := by simp [hAh, hOb]
theorem hAh_length (h : 16 * k ≤ P.length) : (hAh back sec beg P k).length ≤ beg.length + 16 := by
  cases k with
  | zero => simp [hAh]
  | succ k =>
    cases back with
    | true => rw [hAh_true, sl_length h]; omega
    | false => rw [hAh_false, hOb_length h]; omega
theorem getD_take (L : List UInt8) (m i : Nat) (h : i < m) : (L.take m).getD i 0 = L.getD i 0 := by
  simp [List.getD_eq_getElem?_getD, h]
theorem sl_get {i : Nat} (hi : i < 16) : (sl P k).getD i 0 = P.getD (16 * k + i) 0 := by
  rw [sl, getD_take _ _ _ hi, List.getD_eq_getElem?_getD, List.getElem?_drop, ← List.getD_eq_getElem?_getD]
theorem hOb_get {i : Nat} (h : 16 * (k + 1) ≤ P.length) (hi : i < 16) : (hOb back sec beg P k).getD i 0 = P.getD (16 * k + i) 0 ^^^ (md5 (sec ++ hAh back sec beg P k)).getD i 0 := by
  rw [← sl_get hi, hOb]
  have h1 := sl_length h
  have h2 := md5_length (sec ++ hAh back sec beg P k)
  generalize md5 (sec ++ hAh back sec beg P k) = m at *
  simp [x16, List.getD_eq_getElem?_getD, List.getElem?_eq_getElem (show i < (sl P k).length by omega), List.getElem?_eq_getElem (show i < m.length by omega), List.getElem?_eq_getElem (show i < (List.zipWith (· ^^^ ·) (sl P k) m).length by simp; omega)]
end
/-- One place more of a row that is being made. -/
theorem set_mid (D X R : List UInt8) (o i : Nat) (hD : D.length = o) (hi : i < X.length) (hR : o + i < R.length) :
    (D ++ X.take i ++ R.drop (o + i)).set (o + i) (X.getD i 0) = D ++ X.take (i + 1) ++ R.drop (o + i + 1) := by
  have h1 : (D ++ X.take i).length = o + i := by rw [List.length_append, List.length_take, hD]; omega
  rw [List.set_append_right _ _ (by omega), h1, Nat.sub_self, List.drop_eq_getElem_cons hR, List.set_cons_zero]
  have e : List.take (i + 1) X = List.take i X ++ [X.getD i 0] := by
    rw [List.take_succ_eq_append_getElem hi]; simp [List.getD_eq_getElem?_getD, List.getElem?_eq_getElem hi]
  rw [e]; simp
theorem get_mid (D X R : List UInt8) (o i : Nat) (hD : D.length = o) (hi : i < X.length) (_hR : o + i < R.length) :
    (D ++ X.take i ++ R.drop (o + i)).getD (o + i) 0 = R.getD (o + i) 0 := by
  have h1 : (D ++ X.take i).length = o + i := by rw [List.length_append, List.length_take, hD]; omega
  rw [List.getD_eq_getElem?_getD, List.getElem?_append_right (by omega), h1, Nat.sub_self, List.getElem?_drop, Nat.add_zero, ← List.getD_eq_getElem?_getD]
theorem mid_length (D X R : List UInt8) (o i : Nat) (hD : D.length = o) (hi : i ≤ X.length) (hR : o + i ≤ R.length) :
    (D ++ X.take i ++ R.drop (o + i)).length = R.length := by
  simp; omega
theorem x16_x16 (a m : List UInt8) (h : a.length ≤ m.length) : x16 (x16 a m) m = a := by
  induction a generalizing m with
  | nil => simp [x16]
  | cons y a ih =>
    cases m with
    | nil => simp at h
    | cons z m =>
      have := ih m (by simpa using h)
      simp only [x16] at this
      simp [x16, this, UInt8.xor_assoc]
section
variable {sec beg P : List UInt8}
theorem sl_hDone {back : Bool} {n k : Nat} (h : 16 * n ≤ P.length) (hk : k < n) : sl (hDone back sec beg P n) k = hOb back sec beg P k := by
  induction n with
  | zero => omega
  | succ n ih =>
    have hl := hDone_length (back := back) (sec := sec) (beg := beg) (P := P) (k := n) (by omega)
    have hl2 := hOb_length (back := back) (sec := sec) (beg := beg) (P := P) (k := n) (by omega)
    rw [hDone, sl]
    rcases Nat.lt_or_ge k n with hlt | hge
    · rw [List.drop_append_of_le_length (by omega), List.take_append_of_le_length (by rw [List.length_drop]; omega)]
      exact ih (by omega) hlt
    · obtain rfl : k = n := by omega
      rw [List.drop_append, hl, Nat.sub_self, List.drop_eq_nil_of_le (by omega), List.nil_append, List.drop_zero, List.take_of_length_le (by omega)]
/-- What is hidden is shown again. -/
theorem hidden_shown {n : Nat} (h : 16 * n ≤ P.length) (k : Nat) (hk : k ≤ n) :
    hAh true sec beg (hDone false sec beg P n) k = hAh false sec beg P k ∧ hDone true sec beg (hDone false sec beg P n) k = P.take (16 * k) := by
  induction k with
  | zero => simp [hAh, hDone]
  | succ k ih =>
    obtain ⟨h1, h2⟩ := ih (by omega)
    have hs := sl_hDone (back := false) (sec := sec) (beg := beg) h (show k < n by omega)
    refine ⟨by rw [hAh_true, hAh_false, hs], ?_⟩
    rw [hDone, h2, hOb, hs, h1, hOb, x16_x16 _ _ (by rw [sl_length (by omega), md5_length]; omega), sl]
    rw [show 16 * (k + 1) = 16 * k + 16 by omega, List.take_add]
end
end
section
open Go.RowKit
theorem In.weak {w : World} {B B' c : Nat} {A : Option Addr} {xs : List UInt8} (h : In w B A c xs) (hB : B ≤ B') : In w B' A c xs :=
  ⟨h.1, h.2.1, fun h0 => by
    obtain ⟨gb, ob, e, hb, hby⟩ := h.2.2 h0
    exact ⟨gb, ob, e, by omega, hby⟩⟩
theorem splice_pad (b : List UInt8) (n : Nat) (_h : b.length ≤ n) : splice ((List.replicate n (0 : UInt8)).map B8) 0 (b.map B8) = (b ++ List.replicate (n - b.length) 0).map B8 := by
  have e : (List.replicate n (0 : UInt8)).map B8 = List.replicate n (B8 0) := List.map_replicate
  rw [splice_eq, e, Nat.zero_add, List.length_map, List.drop_replicate, List.take_zero, List.nil_append, List.map_append, List.map_replicate]
/-- A part of a row that is known reads as bytes. -/
theorem in_of_blk {w : World} {g o c n : Nat} {t : TypeId} {L xs : List UInt8} (h : Blk w g t (L.map B8)) (hx : xs = (L.drop o).take n) (hn : xs.length = n) (hc : n ≤ c) (hcm : c ≤ 9223372036854775807) : In w w.heap.size (some ⟨g, o, none⟩) c xs := by
  refine ⟨by omega, hcm, fun _ => ⟨g, o, rfl, h.lt, fun j hj => ?_⟩⟩
  have hl : o + j < L.length := by
    have := congrArg List.length hx
    rw [List.length_take, List.length_drop] at this
    omega
  rw [h.at8 (o + j) hl, hx]
  congr 3
  rw [getD_take _ _ _ (by omega), List.getD_eq_getElem?_getD, List.getD_eq_getElem?_getD, List.getElem?_drop]
theorem row_take {D X R : List UInt8} {o : Nat} (hD : D.length = o) : ((D ++ X ++ R).drop o).take X.length = X := by
  rw [List.append_assoc, List.drop_append, hD, Nat.sub_self, List.drop_eq_nil_of_le (by omega), List.nil_append, List.drop_zero, List.take_append_of_le_length (Nat.le_refl _), List.take_length]

set_option maxRecDepth 100000 in
set_option maxHeartbeats 2000000 in
theorem hide_any (As Ab A : Option Addr) (cs cb c B n N : Nat) (sec beg b P : List UInt8) (w : World) (hB : B ≤ w.heap.size) (is : In w B As cs sec) (ib : In w B Ab cb beg) (i0 : In w B A c b) (ht : TabsQ w)
    (hs : sec.length ≤ 1000000) (hbl : beg.length ≤ 1000000) (hb : b.length ≤ 1000000) (hn : n = (b.length + 15) / 16) (hN : N = 16 * n) (hP : P = b ++ List.replicate (N - b.length) 0) :
    Calls Tryd.prog 78 #[.slice As sec.length cs, .slice Ab beg.length cb, .slice A b.length c] w fun e w' => e = .returned (.slice (some ⟨w.heap.size, 0, none⟩) N N) ∧ Blk w' w.heap.size 5 ((hDone false sec beg P n).map B8) ∧ Below w.heap.size w w' := by
  have ht0 := ht.lt0
  have ht1 := ht.lt1
  have hpl : P.length = N := by rw [hP, List.length_append, List.length_replicate]; omega
  have d1 : ((b.length : Int) + 15).tdiv 16 = (n : Int) := by rw [Int.tdiv_eq_ediv_of_nonneg (by omega)]; omega
  have d2 : ((n : Int) * 16) = (N : Int) := by omega
  have hnb : n ≤ 100000 := by omega
  have hmk := run_make_bytes .i64 .i64 N N (Nat.le_refl _) (by omega) w
  have hsp := (splice_pad b N (by omega)).trans (by rw [← hP])
  have hzl : (List.replicate N (0 : UInt8)).length = N := List.length_replicate
  generalize List.replicate N (0 : UInt8) = Z at hmk hsp hzl
  have HSP := Lib.hid hsp
  have HZL := Lib.hid hzl
  have HC := Lib.hid (fun (X : Obj) (hp : 0 < (b.map B8).length) => (Src.cells (x := ⟨0, 0, none⟩) ((i0.src (show B ≤ w.heap.size from hB)).alloc X) hp).2)
  have HPL := Lib.hid hpl
  have HN := Lib.hid (show n = (b.length + 15) / 16 ∧ N = 16 * n from ⟨hn, hN⟩)
  have hNb : N ≤ 1600000 := by omega
  clear hP hn hpl hN hsp hzl
  go_enter Tryd.func78, Tryd.ntmps78
  go_wp2_with (first
    | ((with_reducible refine (?_ : wpList _ _ _ (Oper.mk (some 21) _ _ _ _ _ :: _) _ _)); go_loud (refine wpList_copy_blk rfl (.tmp 19) (.tmp 20) 26 26 rfl 5 Tryd.underlying26 info8 _ _ _ _ _ _ (by rfl) (by rfl) w.heap.size 0 (Z.map B8) 5 (Blk.new_of w _ _ _ (by rfl)) (b.map B8) (by rw [List.length_map]; exact (Nat.min_eq_left (by have := HN.out; omega)).symm) (fun hp => ⟨rfl, HC.out _ hp⟩) (by rw [List.length_map, List.length_map, HZL.out]; have := HN.out; omega) (oneB8 _) ?_); intro w1 hK hg1; rw [HSP.out] at hK))
  clear hmk d1 d2 HC HSP
  have hb1 : Below w.heap.size w w1 := below_new ((Below.refl _ _).alloc (Nat.le_refl _) _) hg1 (Nat.le_refl _) (by simp)
  have ib1 := (ib.weak hB).up hb1
  clear hg1
  go_loopw [8, 9] (fun ah i wr => ∃ (k p ca l : Nat) (Ah : Option Addr), k ≤ n ∧ Hid (p = 16 * k) ∧ i = .int .i64 (p : Int) ∧ ah = .slice Ah l ca ∧ Hid (l = (hAh false sec beg P k).length) ∧ In wr wr.heap.size Ah ca (hAh false sec beg P k) ∧ Blk wr w.heap.size 5 ((hDone false sec beg P k ++ P.drop p).map B8) ∧ Below w.heap.size w wr) (fun _ i _ => N - (intOf i).toNat)
  case atStart => exact ⟨0, 0, cb, _, Ab, Nat.zero_le _, (show _ = _ from rfl), rfl, rfl, (show _ = _ from rfl), ib1, hK, hb1⟩
  case round =>
    clear hK hb1 ib1
    obtain ⟨k, p, ca, l, Ah, hk, HPK, rfl, rfl, HL, iA, hK, hbw⟩ := hrel
    have hpk : p = 16 * k := HPK.out
    have hNN := HN.out
    have hpll : P.length = N := HPL.out
    by_cases hlt : p < N
    · have hkn : k < n := by omega
      have hd : decide ((p : Int) < (N : Int)) = true := by simp; omega
      have hll : l = (hAh false sec beg P k).length := HL.out
      have hla : (hAh false sec beg P k).length ≤ beg.length + 16 := hAh_length (by omega)
      have hX := hOb_length (back := false) (sec := sec) (beg := beg) (P := P) (k := k) (by omega)
      have hXg := fun i (hi : i < 16) => hOb_get (back := false) (sec := sec) (beg := beg) (P := P) (k := k) (i := i) (by omega) hi
      have hD := hDone_length (back := false) (sec := sec) (beg := beg) (P := P) (k := k) (by omega)
      have hXs := hAh_false (sec := sec) (beg := beg) (P := P) k
      have hDs : hDone false sec beg P (k + 1) = hDone false sec beg P k ++ hOb false sec beg P k := rfl
      have hbs := hbw.size
      have his : In wr wr.heap.size As cs sec := ((is.weak hB).below hbw).weak hbs
      obtain ⟨a, ha⟩ : ∃ a, a = hAh false sec beg P k := ⟨_, rfl⟩
      rw [← ha] at hll hla hXg iA
      subst hll
      obtain ⟨X, hXd⟩ : ∃ X, X = hOb false sec beg P k := ⟨_, rfl⟩
      rw [← hXd] at hX hXg hXs hDs
      obtain ⟨D, hDd⟩ : ∃ D, D = hDone false sec beg P k := ⟨_, rfl⟩
      rw [← hDd] at hD hDs hK
      rw [← hpk] at hD hXg
      clear ha hXd hDd HL
      have hof := qOf_any 2 (some ⟨wr.heap.size, 0, none⟩) [sec, a] (wr.alloc (.cells #[.slice As sec.length cs, .slice Ah a.length ca] 26)) (by simp only [List.flatten_cons, List.flatten_nil, List.append_nil, List.length_append]; omega) (by simp) (by omega) (fun g hg => parts2 26 his iA (by rw [size_alloc] at hg; omega) (by rw [size_alloc] at hg; omega)) ((ht.below hbw).below ((Below.refl _ _).alloc (Nat.le_refl _) _))
      simp only [List.flatten_cons, List.flatten_nil, List.append_nil] at hof
      have hml := md5_length (sec ++ a)
      generalize md5 (sec ++ a) = m at *
      have HML := Lib.hid hml
      have HXG := Lib.hid hXg
      have HX := Lib.hid hX
      have HXS := Lib.hid hXs
      have HDS := Lib.hid hDs
      have HD := Lib.hid hD
      clear hml hXg hX hXs hDs hD hpk hNN hpll hla
      go_wp2_with (first
        | (go_at_call 52; refine hof.mono ?_; rintro e w2 ⟨rfl, hb2⟩;
           have hK2 := (hK.alloc _).below hb2 (by simp; have := hK.lt; omega); have hb02 := (hbw.alloc hbs _).trans (hb2.mono (by simp; omega)); clear hof hb2)
        | (refine wpList_store_blk rfl 22 (.tmp 10) (.tmp 32) rfl rfl w2.heap.size _ rfl rfl 22 _ (Blk.new_of w2 22 _ ((List.replicate 16 (0 : UInt8)).map B8) (by rfl)) (infoH.trans (by rw [List.length_map, HML.out])) (by rw [List.length_map, List.length_map, HML.out]; rfl) (one8 _) ?_; intro w3 hM3 hg3)
        | (refine wpList_load_blk rfl 22 (.tmp 10) rfl w2.heap.size rfl 22 _ _ hM3 Tryd.underlying22 rfl (infoH.trans (by rw [List.length_map, HML.out])) ?_))
      have hK3 := (hK2.alloc _).grown hg3 (by have := hK2.lt; simp; omega)
      have hb3 := below_new (hb02.alloc hb02.size _) hg3 hb02.size (by have := hb02.size; simp; omega)
      clear hK hK2 hg3 hM3 hb02 hbw iA his
      go_loopw [34] (fun i wv => ∃ j : Nat, j ≤ 16 ∧ i = .int .i64 (j : Int) ∧ Blk wv w.heap.size 5 ((D ++ X.take j ++ P.drop (p + j)).map B8) ∧ Below w.heap.size w wv) (fun i _ => 16 - (intOf i).toNat)
      case atStart => exact ⟨0, Nat.zero_le _, rfl, by simpa using hK3, hb3⟩
      case round =>
        clear hK3 hb3
        obtain ⟨j, hj, rfl, hK, hbw⟩ := hrel
        by_cases hjl : j < 16
        · have hd2 : decide ((j : Int) < 16) = true := by simp; omega
          have hix := index_bytes 16 22 m HML.out Tryd.underlying22 j hjl
          have hlen : (D ++ X.take j ++ P.drop (p + j)).length = N := by rw [mid_length D X P p j HD.out (by rw [HX.out]; omega) (by rw [HPL.out]; have := HN.out; have := HPK.out; omega), HPL.out]
          have hpN : p + j < N := by have := HN.out; have := HPK.out; omega
          have hc := hK.at8 (p + j) (by omega)
          rw [get_mid D X P p j HD.out (by rw [HX.out]; omega) (by rw [HPL.out]; omega)] at hc
          have hf := hK.frozen (p + j)
          have hx : bits .xor .u8 ((P.getD (p + j) 0).toNat : Int) ((m.getD j 0).toNat : Int) = ((X.getD j 0).toNat : Int) := by rw [b_xor, HXG.out j hjl]
          have hst := set_mid D X P p j HD.out (by rw [HX.out]; omega) (by rw [HPL.out]; omega)
          generalize P.getD (p + j) 0 = x1 at *
          generalize m.getD j 0 = x2 at *
          generalize X.getD j 0 = x3 at *
          have hw0 : (p : Int) + (j : Int) = ((p + j : Nat) : Int) := by omega
          have hw1 : p + (j + 1) = p + j + 1 := rfl
          have hw2 : (p : Int) + (j : Int) < 9223372036854775808 := by omega
          clear hlen
          generalize D ++ X.take j ++ P.drop (p + j) = L at *
          obtain ⟨q, hq⟩ : ∃ q, q = p + j := ⟨_, rfl⟩
          rw [← hq] at hst hw0 hw1 hc hf hpN
          have HQ := Lib.hid hq
          have HST := Lib.hid hst
          have HW1 := Lib.hid hw1
          have hi1 : (q : Int) < (N : Int) := by omega
          have hi0 : 0 ≤ (q : Int) := by omega
          clear hst hq hw1
          go_wp2
          go_roundw
          case rel =>
            refine ⟨j + 1, by omega, by go_num, ?_, hbw.setCell (by simp) _⟩
            rw [HW1.out, ← HST.out, ← map_set8]
            exact hK.set_ q _
          case measure => simp [intOf]; omega
        · have hd2 : decide ((j : Int) < 16) = false := by simp; omega
          obtain rfl : j = 16 := by omega
          have hpN : p + 16 ≤ N := by have := HN.out; have := HPK.out; omega
          rw [List.take_of_length_le (by rw [HX.out]; omega)] at hK
          have hiX := in_of_blk (xs := X) (o := p) (n := 16) (c := N - p) hK (by rw [← HX.out]; exact (row_take HD.out).symm) HX.out (by omega) (by omega)
          have hs1 : (p : Int) + 16 ≤ (N : Int) := by omega
          have hs2 : (p : Int) + 16 < 9223372036854775808 := by omega
          go_wp2
          refine ⟨⟨k + 1, p + 16, N - p, 16, some ⟨w.heap.size, p, none⟩, by omega, ?_, by go_num, by rw [Nat.add_sub_cancel_left], ?_, ?_, ?_, hbw⟩, ?_⟩
          · show _ = _
            have := HPK.out; omega
          · show _ = _
            rw [HXS.out, HX.out]
          · rw [HXS.out]; exact hiX
          · rw [HDS.out]; exact hK
          · simp [intOf]; omega
    · have hd : decide ((p : Int) < (N : Int)) = false := by simp; omega
      obtain rfl : k = n := by omega
      rw [List.drop_eq_nil_of_le (by omega), List.append_nil] at hK
      go_wp2
      go_ret
      exact ⟨rfl, hK, hbw⟩

end
section
open Go.RowKit
theorem In.sub {w : World} {B gb ob c : Nat} {xs : List UInt8} (h : In w B (some ⟨gb, ob, none⟩) c xs) (h0 : 0 < xs.length) (o n : Nat) (hn : o + n ≤ xs.length) : In w B (some ⟨gb, ob + o, none⟩) (c - o) ((xs.drop o).take n) := by
  have hl : ((xs.drop o).take n).length = n := by rw [List.length_take, List.length_drop]; omega
  obtain ⟨h1, h2, h3⟩ := h
  obtain ⟨g, q, e, hg, hby⟩ := h3 h0
  cases e
  refine ⟨by omega, by omega, fun _ => ⟨gb, ob + o, rfl, hg, fun j hj => ?_⟩⟩
  rw [hl] at hj
  rw [Nat.add_assoc, hby (o + j) (by omega), getD_take _ _ _ hj]
  simp [List.getD_eq_getElem?_getD, List.getElem?_drop]

set_option maxRecDepth 100000 in
theorem show_bad (As Ab A : Option Addr) (ls lb cs cb c n : Nat) (w : World) (h : n % 16 ≠ 0) (hn : n ≤ 1000000) :
    Calls Tryd.prog 80 #[.slice As ls cs, .slice Ab lb cb, .slice A n c] w fun e w' => e = .returned (.slice none 0 0) ∧ Below w.heap.size w w' := by
  have d1 : (n : Int).tmod 16 = ((n % 16 : Nat) : Int) := by rw [Int.tmod_eq_emod_of_nonneg (by omega)]; omega
  obtain ⟨r, hr⟩ : ∃ r, r = n % 16 := ⟨_, rfl⟩
  rw [← hr] at d1 h
  have d2 : ¬ ((r : Int) = 0) := by omega
  clear hr
  go_enter Tryd.func80, Tryd.ntmps80
  go_wp2
  go_ret
  exact ⟨rfl, Below.refl _ _⟩

set_option maxRecDepth 100000 in
set_option maxHeartbeats 2000000 in
theorem show_any (As Ab A : Option Addr) (cs cb c B n N : Nat) (sec beg P : List UInt8) (w : World) (hB : B ≤ w.heap.size) (is : In w B As cs sec) (ib : In w B Ab cb beg) (i0 : In w B A c P) (ht : TabsQ w)
    (hs : sec.length ≤ 1000000) (hbl : beg.length ≤ 1000000) (hb : P.length ≤ 1000000) (hN : N = 16 * n) (hpl : P.length = N) :
    Calls Tryd.prog 80 #[.slice As sec.length cs, .slice Ab beg.length cb, .slice A N c] w fun e w' => e = .returned (.slice (some ⟨w.heap.size, 0, none⟩) N N) ∧ Blk w' w.heap.size 5 ((hDone true sec beg P n).map B8) ∧ Below w.heap.size w w' := by
  have ht0 := ht.lt0
  have ht1 := ht.lt1
  have d1 : (N : Int).tmod 16 = 0 := by rw [Int.tmod_eq_emod_of_nonneg (by omega)]; omega
  have hmk := run_make_bytes .i64 .i64 N N (Nat.le_refl _) (by omega) w
  have hzl : (List.replicate N (0 : UInt8)).length = N := List.length_replicate
  generalize List.replicate N (0 : UInt8) = Z at hmk hzl
  have HZL := Lib.hid hzl
  have HPL := Lib.hid hpl
  have HN := Lib.hid hN
  have hNb : N ≤ 1600000 := by omega
  have hnb : n ≤ 100000 := by omega
  obtain ⟨hc1, hc2, _⟩ := id i0
  rw [hpl] at hc1
  clear hpl hN hzl
  go_enter Tryd.func80, Tryd.ntmps80
  go_wp2
  have hK : Blk (w.alloc (.cells (Z.map B8).toArray 5)) w.heap.size 5 (Z.map B8) := Blk.new_of w _ _ _ (by rfl)
  have hb1 : Below w.heap.size w (w.alloc (.cells (Z.map B8).toArray 5)) := (Below.refl _ _).alloc (Nat.le_refl _) _
  have ib1 := (ib.weak hB).up hb1
  go_loopw [8, 9] (fun ah i wr => ∃ (k p ca l : Nat) (Ah : Option Addr), k ≤ n ∧ Hid (p = 16 * k) ∧ i = .int .i64 (p : Int) ∧ ah = .slice Ah l ca ∧ Hid (l = (hAh true sec beg P k).length) ∧ In wr wr.heap.size Ah ca (hAh true sec beg P k) ∧ Blk wr w.heap.size 5 ((hDone true sec beg P k ++ Z.drop p).map B8) ∧ Below w.heap.size w wr) (fun _ i _ => N - (intOf i).toNat)
  case atStart => exact ⟨0, 0, cb, _, Ab, Nat.zero_le _, (show _ = _ from rfl), rfl, rfl, (show _ = _ from rfl), ib1, hK, hb1⟩
  case round =>
    clear hK hb1 ib1
    obtain ⟨k, p, ca, l, Ah, hk, HPK, rfl, rfl, HL, iA, hK, hbw⟩ := hrel
    have hpk : p = 16 * k := HPK.out
    have hNN := HN.out
    have hpll : P.length = N := HPL.out
    by_cases hlt : p < N
    · have hkn : k < n := by omega
      have hd : decide ((p : Int) < (N : Int)) = true := by simp; omega
      have hll : l = (hAh true sec beg P k).length := HL.out
      have hla : (hAh true sec beg P k).length ≤ beg.length + 16 := hAh_length (by omega)
      have hX := hOb_length (back := true) (sec := sec) (beg := beg) (P := P) (k := k) (by omega)
      have hXg := fun i (hi : i < 16) => hOb_get (back := true) (sec := sec) (beg := beg) (P := P) (k := k) (i := i) (by omega) hi
      have hD := hDone_length (back := true) (sec := sec) (beg := beg) (P := P) (k := k) (by omega)
      have hXs := hAh_true (sec := sec) (beg := beg) (P := P) k
      obtain ⟨gb, ob, rfl, hgb, hby⟩ := i0.2.2 (by omega)
      have hsub := i0.sub (by omega) p 16 (by omega)
      have hsl : sl P k = (P.drop p).take 16 := by rw [hpk]; rfl
      rw [← hsl] at hsub
      have hsll := sl_length (P := P) (k := k) (by omega)
      clear hsl
      generalize sl P k = Y at hsub hXs hsll
      have HSL := Lib.hid hsll
      have hDs : hDone true sec beg P (k + 1) = hDone true sec beg P k ++ hOb true sec beg P k := rfl
      have hbs := hbw.size
      have his : In wr wr.heap.size As cs sec := ((is.weak hB).below hbw).weak hbs
      obtain ⟨a, ha⟩ : ∃ a, a = hAh true sec beg P k := ⟨_, rfl⟩
      rw [← ha] at hll hla hXg iA
      subst hll
      obtain ⟨X, hXd⟩ : ∃ X, X = hOb true sec beg P k := ⟨_, rfl⟩
      rw [← hXd] at hX hXg hDs
      obtain ⟨D, hDd⟩ : ∃ D, D = hDone true sec beg P k := ⟨_, rfl⟩
      rw [← hDd] at hD hDs hK
      rw [← hpk] at hD hXg
      clear ha hXd hDd HL
      have hof := qOf_any 2 (some ⟨wr.heap.size, 0, none⟩) [sec, a] (wr.alloc (.cells #[.slice As sec.length cs, .slice Ah a.length ca] 26)) (by simp only [List.flatten_cons, List.flatten_nil, List.append_nil, List.length_append]; omega) (by simp) (by omega) (fun g hg => parts2 26 his iA (by rw [size_alloc] at hg; omega) (by rw [size_alloc] at hg; omega)) ((ht.below hbw).below ((Below.refl _ _).alloc (Nat.le_refl _) _))
      simp only [List.flatten_cons, List.flatten_nil, List.append_nil] at hof
      have hml := md5_length (sec ++ a)
      generalize md5 (sec ++ a) = m at *
      have HML := Lib.hid hml
      have HXG := Lib.hid hXg
      have HX := Lib.hid hX
      have HXS := Lib.hid hXs
      have HDS := Lib.hid hDs
      have HD := Lib.hid hD
      clear hml hXg hX hXs hDs hD hpk hNN hpll hla hsll
      go_wp2_with (first
        | (go_at_call 52; refine hof.mono ?_; rintro e w2 ⟨rfl, hb2⟩;
           have hK2 := (hK.alloc _).below hb2 (by simp; have := hK.lt; omega); have hb02 := (hbw.alloc hbs _).trans (hb2.mono (by simp; omega)); clear hof hb2)
        | (refine wpList_store_blk rfl 22 (.tmp 10) (.tmp 30) rfl rfl w2.heap.size _ rfl rfl 22 _ (Blk.new_of w2 22 _ ((List.replicate 16 (0 : UInt8)).map B8) (by rfl)) (infoH.trans (by rw [List.length_map, HML.out])) (by rw [List.length_map, List.length_map, HML.out]; rfl) (one8 _) ?_; intro w3 hM3 hg3)
        | (refine wpList_load_blk rfl 22 (.tmp 10) rfl w2.heap.size rfl 22 _ _ hM3 Tryd.underlying22 rfl (infoH.trans (by rw [List.length_map, HML.out])) ?_))
      have hK3 := (hK2.alloc _).grown hg3 (by have := hK2.lt; simp; omega)
      have hb3 := below_new (hb02.alloc hb02.size _) hg3 hb02.size (by have := hb02.size; simp; omega)
      clear hK hK2 hg3 hM3 hb02 hbw iA his
      go_loopw [32] (fun i wv => ∃ j : Nat, j ≤ 16 ∧ i = .int .i64 (j : Int) ∧ Blk wv w.heap.size 5 ((D ++ X.take j ++ Z.drop (p + j)).map B8) ∧ Below w.heap.size w wv) (fun i _ => 16 - (intOf i).toNat)
      case atStart => exact ⟨0, Nat.zero_le _, rfl, by simpa using hK3, hb3⟩
      case round =>
        clear hK3 hb3
        obtain ⟨j, hj, rfl, hK, hbw⟩ := hrel
        by_cases hjl : j < 16
        · have hd2 : decide ((j : Int) < 16) = true := by simp; omega
          have hix := index_bytes 16 22 m HML.out Tryd.underlying22 j hjl
          have hlen : (D ++ X.take j ++ Z.drop (p + j)).length = N := by rw [mid_length D X Z p j HD.out (by rw [HX.out]; omega) (by rw [HZL.out]; have := HN.out; have := HPK.out; omega), HZL.out]
          have hpN : p + j < N := by have := HN.out; have := HPK.out; omega
          have hc := hK.at8 (p + j) (by omega)
          have hpc := (hbw.cell (p := ⟨gb, ob + (p + j), none⟩) (by show gb < _; omega)).trans (hby (p + j) (by rw [HPL.out]; exact hpN))
          have hf := hK.frozen (p + j)
          have hx : bits .xor .u8 ((P.getD (p + j) 0).toNat : Int) ((m.getD j 0).toNat : Int) = ((X.getD j 0).toNat : Int) := by rw [b_xor, HXG.out j hjl]
          have hst := set_mid D X Z p j HD.out (by rw [HX.out]; omega) (by rw [HZL.out]; omega)
          generalize P.getD (p + j) 0 = x1 at *
          generalize m.getD j 0 = x2 at *
          generalize X.getD j 0 = x3 at *
          have hw0 : (p : Int) + (j : Int) = ((p + j : Nat) : Int) := by omega
          have hw1 : p + (j + 1) = p + j + 1 := rfl
          have hw2 : (p : Int) + (j : Int) < 9223372036854775808 := by omega
          clear hlen
          generalize D ++ X.take j ++ Z.drop (p + j) = L at *
          obtain ⟨q, hq⟩ : ∃ q, q = p + j := ⟨_, rfl⟩
          rw [← hq] at hst hw0 hw1 hc hf hpN hpc
          have HQ := Lib.hid hq
          have HST := Lib.hid hst
          have HW1 := Lib.hid hw1
          have hi1 : (q : Int) < (N : Int) := by omega
          have hi0 : 0 ≤ (q : Int) := by omega
          clear hst hq hw1
          go_wp2
          go_roundw
          case rel =>
            refine ⟨j + 1, by omega, by go_num, ?_, hbw.setCell (by simp) _⟩
            rw [HW1.out, ← HST.out, ← map_set8]
            exact hK.set_ q _
          case measure => simp [intOf]; omega
        · have hd2 : decide ((j : Int) < 16) = false := by simp; omega
          obtain rfl : j = 16 := by omega
          have hpN : p + 16 ≤ N := by have := HN.out; have := HPK.out; omega
          rw [List.take_of_length_le (by rw [HX.out]; omega)] at hK
          have hiX := ((hsub.weak hB).below hbw).weak hbw.size
          have hs1 : (p : Int) + 16 ≤ (c : Int) := by omega
          have hs2 : (p : Int) + 16 < 9223372036854775808 := by omega
          go_wp2
          refine ⟨⟨k + 1, p + 16, c - p, 16, some ⟨gb, ob + p, none⟩, by omega, ?_, by go_num, by rw [Nat.add_sub_cancel_left], ?_, ?_, ?_, hbw⟩, ?_⟩
          · show _ = _
            have := HPK.out; omega
          · show _ = _
            rw [HXS.out, HSL.out]
          · rw [HXS.out]; exact hiX
          · rw [HDS.out]; exact hK
          · simp [intOf]; omega
    · have hd : decide ((p : Int) < (N : Int)) = false := by simp; omega
      obtain rfl : k = n := by omega
      rw [List.drop_eq_nil_of_le (by rw [HZL.out]; omega), List.append_nil] at hK
      go_wp2
      go_ret
      exact ⟨rfl, hK, hbw⟩

end
end Go.Proofs.YtbomckbekcaemaaDoor
