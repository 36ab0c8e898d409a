/-
  Joined: RefMacO, Macs, Expand, Label, Derive, Derives0, RefExp, Same.
-/
import Derived.Test.YtnjpcbbdhimacaaDoorJb
import Derived.Test.YtnjpcbbdhimacaaDoorJc
import Derived.Lib.SlBytesConst
import Derived.Lib.SmallJoins
import Derived.BigQuiet
namespace Go.Proofs.YtnjpcbbdhimacaaDoor
section
open Go.RowKit
theorem xorTo_map (c : UInt8) (pk : List UInt8) (hl : pk.length = 64) (k : Nat) (hk : k ≤ 64) : xorTo c pk k = (pk.take k).map (· ^^^ c) ++ List.replicate (64 - k) 0 := by
  induction k with
  | zero => simp [xorTo]
  | succ k ih =>
    rw [xorTo, ih (by omega), List.take_succ_eq_append_getElem (by omega), List.map_append, List.set_append_right _ _ (by simp; omega)]
    have e : k - ((pk.take k).map (· ^^^ c)).length = 0 := by simp; omega
    rw [e, show 64 - k = (64 - (k + 1)) + 1 by omega, List.replicate_succ, List.set_cons_zero]
    simp [List.getD_eq_getElem?_getD, List.getElem?_eq_getElem (show k < pk.length by omega)]
theorem xorTo_all (c : UInt8) (pk : List UInt8) (hl : pk.length = 64) : xorTo c pk 64 = pk.map (· ^^^ c) := by
  rw [xorTo_map c pk hl 64 (Nat.le_refl _), List.take_of_length_le (by omega)]; simp
theorem map_take_snoc (c : UInt8) (pk : List UInt8) (k : Nat) (hk : k < pk.length) : (pk.take (k + 1)).map (· ^^^ c) = (pk.take k).map (· ^^^ c) ++ [pk.getD k 0 ^^^ c] := by
  rw [List.take_succ_eq_append_getElem hk, List.map_append]
  simp [List.getD_eq_getElem?_getD, List.getElem?_eq_getElem hk]

/-- What holds while the two sums are made. -/
def MacS (w : World) (A A' : Option Addr) (c c' : Nat) (p q : List UInt8) (W : World) : Prop := Below w.heap.size w W ∧ Buf W w.heap.size A 64 c p ∧ Buf W w.heap.size A' 64 c' q
section
variable {w W W' : World} {c c' : Nat} {A A' : Option Addr} {p q : List UInt8}
theorem MacS.step (h : MacS w A A' c c' p q W) (hb : Below W.heap.size W W') : MacS w A A' c c' p q W' := ⟨h.1.trans (hb.mono h.1.size), h.2.1.below hb, h.2.2.below hb⟩
theorem MacS.drewN (h : MacS w A A' c c' p q W) (k : Nat) : MacS w A A' c c' p q (W.drewN k) := h.step (below_drewN (Below.refl _ _) k)
end
set_option maxRecDepth 100000 in
set_option maxHeartbeats 4000000 in
theorem refMac_any (key s : List UInt8) (w : World) (hk : key.length < 549755813888) (hn : s.length < 549755813000) :
    Calls Tryd.prog 68 #[.string ⟨key.toArray⟩, .string ⟨s.toArray⟩] w fun e w' => e = .returned (.string ⟨(hmac key s).toArray⟩) ∧ Below w.heap.size w w' := by
  have hpl := padKey_length key
  have HM : Hid (hmac key s = sha ((padKey key).map (· ^^^ 92) ++ sha ((padKey key).map (· ^^^ 54) ++ s))) := (show _ = _ by unfold hmac; rw [xorTo_all _ _ hpl, xorTo_all _ _ hpl])
  obtain ⟨R, hR⟩ : ∃ R, R = hmac key s := ⟨_, rfl⟩
  rw [← hR] at HM ⊢
  clear hR
  have hcases : ∃ kk : List UInt8, kk.length ≤ 64 ∧ padKey key = kk ++ List.replicate (64 - kk.length) 0 ∧ ((64 < key.length ∧ kk = sha key) ∨ (¬ 64 < key.length ∧ kk = key)) := by
    by_cases h : 64 < key.length
    · exact ⟨sha key, by rw [sha_length]; omega, (padKey_long key h).symm, .inl ⟨h, rfl⟩⟩
    · exact ⟨key, by omega, (padKey_short key (by omega)).symm, .inr ⟨h, rfl⟩⟩
  obtain ⟨kk, hkl, hpk, hor⟩ := hcases
  obtain ⟨pk, hpkd⟩ : ∃ pk, pk = padKey key := ⟨_, rfl⟩
  rw [← hpkd] at hpl HM hpk
  clear hpkd
  have hget : ∀ i, i < kk.length → pk.getD i 0 = kk.getD i 0 := fun i hi => by
    rw [hpk, List.getD_eq_getElem?_getD, List.getElem?_append_left hi, ← List.getD_eq_getElem?_getD]
  have hget0 : ∀ i, ¬ i < kk.length → i < 64 → pk.getD i 0 = 0 := fun i hi h64 => by
    rw [hpk, List.getD_eq_getElem?_getD, List.getElem?_append_right (by omega), List.getElem?_replicate]
    split <;> rfl
  have HG := Lib.hid hget
  have HG0 := Lib.hid hget0
  have HPL := Lib.hid hpl
  have HPK := Lib.hid hpk
  clear hget hget0 hpl hpk
  go_enter Tryd.func68, Tryd.ntmps68
  rcases hor with ⟨hlong, rfl⟩ | ⟨hshort, rfl⟩
  case' inl =>
    have hd : decide ((64 : Int) < (key.length : Int)) = true := by simp; omega
    have hq := Lib.hid (fun W => refSum_any key W hk)
    go_wp2_with (go_at_call 86; ((with_reducible refine (hq.out _).mono ?_); rintro e w1 ⟨rfl, hb1⟩))
    clear hq hd hlong
    generalize sha key = kk at *
  case' inr =>
    have hd : decide ((64 : Int) < (kk.length : Int)) = false := by simp; omega
    go_wp2
    have hb1 : Below w.heap.size w w := Below.refl _ _
    clear hd hshort
  all_goals
    go_loopw [5, 6, 7] (fun v v' i wr => ∃ (k c c' : Nat) (A A' : Option Addr), k ≤ 64 ∧ i = .int .i64 k ∧ v = .slice A k c ∧ v' = .slice A' k c' ∧ Buf wr w.heap.size A k c ((pk.take k).map (· ^^^ 54)) ∧ Buf wr w.heap.size A' k c' ((pk.take k).map (· ^^^ 92)) ∧ Apart A A' ∧ Below w.heap.size w wr) (fun _ _ i _ => 64 - (intOf i).toNat)
    case atStart => exact ⟨0, 0, 0, none, none, by omega, rfl, rfl, rfl, by simpa using Buf.nil _ _, by simpa using Buf.nil _ _, (fun a b e1 => by cases e1), hb1⟩
    case round =>
      clear hb1
      obtain ⟨k, c, c', A, A', hk64, rfl, rfl, rfl, hB, hB', hap, hb⟩ := hrel
      have hbs := hb.size
      by_cases hlt : k < 64
      · have hd1 : decide ((k : Int) < 64) = true := by simp; omega
        have HE1 := Lib.hid (map_take_snoc 54 pk k (by rw [HPL.out]; exact hlt))
        have HE2 := Lib.hid (map_take_snoc 92 pk k (by rw [HPL.out]; exact hlt))
        have hk0 : (0 : Int) ≤ (k : Int) := by omega
        obtain ⟨P, hP⟩ : ∃ P, P = (pk.take k).map (· ^^^ 54) := ⟨_, rfl⟩
        obtain ⟨P', hP'⟩ : ∃ P', P' = (pk.take k).map (· ^^^ 92) := ⟨_, rfl⟩
        rw [← hP] at hB HE1
        rw [← hP'] at hB' HE2
        clear hP hP'
        obtain ⟨x, hx⟩ : ∃ x, x = pk.getD k 0 := ⟨_, rfl⟩
        rw [← hx] at HE1 HE2
        by_cases hik : k < kk.length
        · have hd2 : decide ((k : Int) < (kk.length : Int)) = true := by simp; omega
          have hik2 : (k : Int) < (kk.length : Int) := by omega
          have hkx : (⟨kk.toArray⟩ : ByteArray)[k]'(show k < kk.length from hik) = x := by
            rw [hx, HG.out k hik]
            show kk.toArray[k] = _
            simp [List.getD_eq_getElem?_getD, List.getElem?_eq_getElem hik]
          clear hx
          go_wp2_with (first
            | ((with_reducible refine (?_ : wpList _ _ _ (Oper.mk (some 29) _ _ _ _ _ :: _) _ _)); go_loud (refine wpList_append_far rfl (.tmp 25) (.tmp 28) 24 rfl w.heap.size A k c P [x ^^^ 54] _ rfl (hB.alloc _) rfl (src_byte ((new_cell _ _ _).trans (by rw [b_xor54]))) (by simp only [List.length_cons, List.length_nil]; omega) (le_alloc hbs _) (k + 1) (by simp) ?_); intro A1 c1 w1 hB1 hg1 hf1;
               have hB2 := (hB'.alloc _).apart hg1 hap; have hap1 := hap.fresh (hB'.alloc _) hf1; have hb1 := below_own (hb.alloc hbs _) (hB.alloc _) hg1 (Nat.le_refl _) (le_alloc hbs _); have hbs1 := hb1.size; clear hg1 hf1)
            | ((with_reducible refine (?_ : wpList _ _ _ (Oper.mk (some 34) _ _ _ _ _ :: _) _ _)); go_loud (refine wpList_append_far rfl (.tmp 30) (.tmp 33) 24 rfl w.heap.size A' k c' P' [x ^^^ 92] _ rfl (hB2.alloc _) rfl (src_byte ((new_cell _ _ _).trans (by rw [b_xor92]))) (by simp only [List.length_cons, List.length_nil]; omega) (le_alloc hbs1 _) (k + 1) (by simp) ?_); intro A2 c2 w2 hB3 hg2 hf2;
               have hB4 := (hB1.alloc _).apart hg2 hap1.symm; have hap2 := (hap1.symm.fresh (hB1.alloc _) hf2).symm; have hb2 := below_own (hb1.alloc hbs1 _) (hB2.alloc _) hg2 (Nat.le_refl _) (le_alloc hbs1 _); clear hg2 hf2))
          go_roundw
          case rel => exact ⟨k + 1, c1, c2, A1, A2, by omega, by go_num, rfl, rfl, by rw [HE1.out]; exact hB4, by rw [HE2.out]; exact hB3, hap2, hb2⟩
          case measure => simp [intOf]; omega
        · have hd2 : decide ((k : Int) < (kk.length : Int)) = false := by simp; omega
          have hx0 : x = 0 := by rw [hx, HG0.out k hik hlt]
          clear hx
          subst hx0
          go_wp2_with (first
            | ((with_reducible refine (?_ : wpList _ _ _ (Oper.mk (some 29) _ _ _ _ _ :: _) _ _)); go_loud (refine wpList_append_far rfl (.tmp 25) (.tmp 28) 24 rfl w.heap.size A k c P [0 ^^^ 54] _ rfl (hB.alloc _) rfl (src_byte ((new_cell _ _ _).trans (congrArg (fun z => some (Value.int .u8 z)) (show bits .xor .u8 0 54 = ((0 ^^^ 54 : UInt8).toNat : Int) from by decide +kernel)))) (by simp only [List.length_cons, List.length_nil]; omega) (le_alloc hbs _) (k + 1) (by simp) ?_); intro A1 c1 w1 hB1 hg1 hf1;
               have hB2 := (hB'.alloc _).apart hg1 hap; have hap1 := hap.fresh (hB'.alloc _) hf1; have hb1 := below_own (hb.alloc hbs _) (hB.alloc _) hg1 (Nat.le_refl _) (le_alloc hbs _); have hbs1 := hb1.size; clear hg1 hf1)
            | ((with_reducible refine (?_ : wpList _ _ _ (Oper.mk (some 34) _ _ _ _ _ :: _) _ _)); go_loud (refine wpList_append_far rfl (.tmp 30) (.tmp 33) 24 rfl w.heap.size A' k c' P' [0 ^^^ 92] _ rfl (hB2.alloc _) rfl (src_byte ((new_cell _ _ _).trans (congrArg (fun z => some (Value.int .u8 z)) (show bits .xor .u8 0 92 = ((0 ^^^ 92 : UInt8).toNat : Int) from by decide +kernel)))) (by simp only [List.length_cons, List.length_nil]; omega) (le_alloc hbs1 _) (k + 1) (by simp) ?_); intro A2 c2 w2 hB3 hg2 hf2;
               have hB4 := (hB1.alloc _).apart hg2 hap1.symm; have hap2 := (hap1.symm.fresh (hB1.alloc _) hf2).symm; have hb2 := below_own (hb1.alloc hbs1 _) (hB2.alloc _) hg2 (Nat.le_refl _) (le_alloc hbs1 _); clear hg2 hf2))
          go_roundw
          case rel => exact ⟨k + 1, c1, c2, A1, A2, by omega, by go_num, rfl, rfl, by rw [HE1.out]; exact hB4, by rw [HE2.out]; exact hB3, hap2, hb2⟩
          case measure => simp [intOf]; omega
      · have hd1 : decide ((k : Int) < 64) = false := by simp; omega
        obtain rfl : k = 64 := by omega
        rw [List.take_of_length_le (by rw [HPL.out]; omega)] at hB hB'
        have hp1 : (pk.map (· ^^^ 54)).length = 64 := by rw [List.length_map]; exact HPL.out
        have hp2 : (pk.map (· ^^^ 92)).length = 64 := by rw [List.length_map]; exact HPL.out
        generalize pk.map (· ^^^ 54) = p at *
        generalize pk.map (· ^^^ 92) = q at *
        obtain ⟨y, hy⟩ : ∃ y, y = sha (p ++ s) := ⟨_, rfl⟩
        rw [← hy] at HM
        have hyl : y.length = 32 := by rw [hy]; exact sha_length _
        have hcl1 : ¬ 9223372036854775807 < p.length + s.length := by omega
        have hcl2 : ¬ 9223372036854775807 < q.length + y.length := by omega
        have HR1 := Lib.hid (fun W => by
          have := refSum_any (p ++ s) W (by rw [List.length_append]; omega)
          rw [← hy] at this
          exact this)
        have HR2 := Lib.hid (fun W => by
          have := refSum_any (q ++ y) W (by rw [List.length_append]; omega)
          rw [← HM.out] at this
          exact this)
        have HS0 := Lib.hid (show MacS w A A' c c' p q wr.drew from ⟨below_drewN hb 1, hB.drew, hB'.drew⟩)
        have hcv1 := fun (W : World) (h : MacS w A A' c c' p q W) => conv_in hp1 (h.2.1.toIn (Nat.le_refl _))
        have hcv2 := fun (W : World) (h : MacS w A A' c c' p q W) => conv_in hp2 (h.2.2.toIn (Nat.le_refl _))
        clear hy hyl hp1 hp2 hB hB' hb hap hlt hd1
        go_wp2
        go_region_held3 (MacS w A A' c c' p q)
          (first
            | exact HS0.out
            | assumption
            | exact MacS.step (by assumption) (by assumption))
          (first
            | (go_at_call 86; rw [bytes_append]; ((with_reducible refine (HR1.out _).mono ?_); rintro e w7 ⟨rfl, hb7⟩))
            | (go_at_call 86; rw [bytes_append]; ((with_reducible refine (HR2.out _).mono ?_); rintro e w7 ⟨rfl, hb7⟩)))
        all_goals
          have hS := (by assumption : MacS w A A' c c' p q _)
          go_wp2
          go_ret
          exact ⟨rfl, hS.1⟩

end
section
open Go.RowKit
def jefe : List UInt8 := [74, 101, 102, 101]
def whatDo : List UInt8 := [119, 104, 97, 116, 32, 100, 111, 32, 121, 97, 32, 119, 97, 110, 116, 32]
def forNothing : List UInt8 := [102, 111, 114, 32, 110, 111, 116, 104, 105, 110, 103, 63]
theorem hmac_jefe : ((hmac jefe (whatDo ++ forNothing)).getD 0 0, (hmac jefe (whatDo ++ forNothing)).getD 1 0, (hmac jefe (whatDo ++ forNothing)).getD 31 0) = (0x5B, 0xDC, 0x43) := by decide +kernel

theorem bytes_row {w : World} {g : Nat} {k : List UInt8} {t : TypeId} {f : Nat × Nat} (h : w.heap[g]? = some (.cells (k.map B8).toArray t f)) : Bytes w g 0 k := fun j hj => by
  rw [Nat.zero_add, cell_of_row w g j _ t f h]
  simpa using getD_map8 k j hj
theorem heap3 (w : World) (X Y Z : Obj) : (((w.alloc X).alloc Y).alloc Z).heap[w.heap.size]? = some X ∧ (((w.alloc X).alloc Y).alloc Z).heap[w.heap.size + 1]? = some Y ∧ (((w.alloc X).alloc Y).alloc Z).heap[w.heap.size + 1 + 1]? = some Z := by
  have h1 := heap_alloc_new w X
  have h2 := heap_alloc_new (w.alloc X) Y
  have h3 := heap_alloc_new ((w.alloc X).alloc Y) Z
  rw [size_alloc] at h2
  rw [size_alloc, size_alloc] at h3
  refine ⟨?_, ?_, h3⟩
  · rw [heap_alloc_old _ _ (show w.heap.size < _ by simp; omega), heap_alloc_old _ _ (show w.heap.size < _ by simp), h1]
  · rw [heap_alloc_old _ _ (show w.heap.size + 1 < _ by simp), h2]

end
section
open Go.RowKit
/-- The k-th mark of the row that a key and an info make (T0: nothing). -/
def tAt (key info : List UInt8) : Nat → List UInt8
  | 0 => []
  | k + 1 => hmac key (tAt key info k ++ info ++ [UInt8.ofNat (k + 1)])
/-- The first k marks of it, one behind the other. -/
def tTo (key info : List UInt8) : Nat → List UInt8
  | 0 => []
  | k + 1 => tTo key info k ++ tAt key info (k + 1)
theorem tAt_length (key info : List UInt8) (k : Nat) : (tAt key info (k + 1)).length = 32 := hmac_length _ _
theorem tTo_length (key info : List UInt8) (k : Nat) : (tTo key info k).length = 32 * k := by
  induction k with
  | zero => rfl
  | succ k ih => rw [tTo, List.length_append, ih, tAt_length]; omega
/-- The first n bytes. -/
def expand (key info : List UInt8) (n : Nat) : List UInt8 := (tTo key info ((n + 31) / 32)).take n
theorem expand_length (key info : List UInt8) (n : Nat) : (expand key info n).length = n := by
  unfold expand; rw [List.length_take, tTo_length]; omega

set_option maxRecDepth 100000 in
set_option maxHeartbeats 4000000 in
theorem expand_bad (ks : List Value) (A : Option Addr) (c : Nat) (info : List UInt8) (n : Int) (w : World) (hn : n < 0 ∨ 8160 < n) :
    Calls Tryd.prog 67 #[.agg ks.toArray, .slice A info.length c, .int .i64 n] w fun e w' => e = .returned (.tuple #[.slice none 0 0, .int .i64 1]) ∧ Below w.heap.size w w' := by
  go_enter Tryd.func67, Tryd.ntmps67
  rcases hn with hn | hn
  · have hd : decide (n < 0) = true := by simp; omega
    go_wp2
    go_ret2
    exact ⟨rfl, (Below.refl _ _).alloc (Nat.le_refl _) _⟩
  · have hd : decide (n < 0) = false := by simp; omega
    have hd2 : decide (8160 < n) = true := by simp; omega
    go_wp2
    go_ret2
    exact ⟨rfl, (Below.refl _ _).alloc (Nat.le_refl _) _⟩
/-- What is made after k marks. -/
def madeTo (key info : List UInt8) (n k : Nat) : List UInt8 := (tTo key info k ++ List.replicate n 0).take n
theorem madeTo_length (key info : List UInt8) (n k : Nat) : (madeTo key info n k).length = n := by
  unfold madeTo; rw [List.length_take, List.length_append, List.length_replicate]; omega
theorem madeTo_zero (key info : List UInt8) (n : Nat) : madeTo key info n 0 = List.replicate n 0 := by
  unfold madeTo tTo; rw [List.nil_append, List.take_of_length_le (by simp)]
theorem madeTo_all (key info : List UInt8) (n k : Nat) (h1 : n ≤ 32 * k) (h2 : k = 0 ∨ 32 * (k - 1) < n) : madeTo key info n k = expand key info n := by
  have hk : k = (n + 31) / 32 := by omega
  unfold madeTo expand
  rw [List.take_append_of_le_length (by rw [tTo_length]; omega), hk]
theorem splice_step (T U : List UInt8) (n a : Nat) (hT : T.length = a) (hU : U.length = 32) (ha : a < n) :
    T ++ (U.take (n - a) ++ ((T ++ List.replicate n 0).take n).drop (a + (U.take (n - a)).length)) = ((T ++ U) ++ List.replicate n 0).take n := by
  have e1 : (T ++ List.replicate n (0 : UInt8)).take n = T ++ List.replicate (n - a) 0 := by
    rw [List.take_append, List.take_of_length_le (by omega), List.take_replicate, hT, Nat.min_eq_left (by omega)]
  have e2 : ((T ++ U) ++ List.replicate n (0 : UInt8)).take n = T ++ (U.take (n - a) ++ List.replicate (n - a - 32) 0) := by
    rw [List.append_assoc, List.take_append, List.take_of_length_le (by omega), hT, List.take_append, hU, List.take_replicate, Nat.min_eq_left (by omega)]
  rw [e1, e2, List.drop_append, hT, List.drop_eq_nil_of_le (by omega), List.nil_append, List.drop_replicate, List.length_take, hU]
  rw [show n - a - (a + min (n - a) 32 - a) = n - a - 32 by omega]
theorem madeTo_step (key info : List UInt8) (n k : Nat) (h : 32 * k < n) :
    splice ((madeTo key info n k).map B8) (32 * k) (((tAt key info (k + 1)).take (n - 32 * k)).map B8) = (madeTo key info n (k + 1)).map B8 := by
  have h1 : (madeTo key info n k).take (32 * k) = tTo key info k := by
    unfold madeTo; rw [List.take_take, List.take_append_of_le_length (by rw [tTo_length]; omega), List.take_of_length_le (by rw [tTo_length]; omega)]
  rw [splice_eq, List.length_map, ← List.map_take, ← List.map_drop, ← List.map_append, ← List.map_append, h1]
  exact congrArg (List.map B8) (splice_step (tTo key info k) (tAt key info (k + 1)) n (32 * k) (tTo_length _ _ _) (tAt_length _ _ _) h)
theorem key_next (k : Nat) : (((UInt8.ofNat (k + 1)).toNat : Int) + 1) % 256 = ((UInt8.ofNat (k + 1 + 1)).toNat : Int) := by
  simp

set_option maxRecDepth 100000 in
set_option maxHeartbeats 4000000 in
theorem expand_any (A : Option Addr) (c n : Nat) (key info : List UInt8) (w : World) (hk : key.length = 32) (hi : In w w.heap.size A c info) (hl : info.length < 100000) (hn : n ≤ 8160) (ht : Tabs w) :
    Calls Tryd.prog 67 #[.agg (key.map B8).toArray, .slice A info.length c, .int .i64 (n : Int)] w fun e w' => ∃ g, e = .returned (.tuple #[.slice (some ⟨g, 0, none⟩) n n, .int .i64 0]) ∧ w.heap.size ≤ g ∧ Blk w' g 5 ((expand key info n).map B8) ∧ Below w.heap.size w w' := by
  have hd : decide ((n : Int) < 0) = false := by simp
  have hd2 : decide ((8160 : Int) < (n : Int)) = false := by simp; omega
  have hmk := fun W => run_make_bytes .i64 .i64 n n (Nat.le_refl _) (by omega) W
  have HK := Lib.hid hk
  clear hk
  go_enter Tryd.func67, Tryd.ntmps67
  go_wp2
  clear hmk hd hd2
  have hK0 : Blk ((w.alloc (.cells (key.map B8).toArray 22)).alloc (.cells (Array.replicate n (B8 0)) 5)) w.heap.size 22 (key.map B8) := (Blk.new_of w _ _ _ rfl).alloc _
  have hM0 : Blk ((w.alloc (.cells (key.map B8).toArray 22)).alloc (.cells (Array.replicate n (B8 0)) 5)) (w.heap.size + 1) 5 ((madeTo key info n 0).map B8) := Blk.new2_of w _ _ _ _ (by rw [madeTo_zero, List.map_replicate]; simp)
  have hb0 : Below w.heap.size w ((w.alloc (.cells (key.map B8).toArray 22)).alloc (.cells (Array.replicate n (B8 0)) 5)) := ((Below.refl _ _).alloc (Nat.le_refl _) _).alloc (by simp) _
  go_loopw [9, 10, 11] (fun l i b wr => ∃ (k cl : Nat) (Al : Option Addr), i = .int .i64 ((32 * k : Nat) : Int) ∧ b = .int .u8 ((UInt8.ofNat (k + 1)).toNat : Int) ∧ l = .slice Al (tAt key info k).length cl ∧ (k = 0 ∨ 32 * (k - 1) < n) ∧ In wr wr.heap.size Al cl (tAt key info k) ∧
      Blk wr w.heap.size 22 (key.map B8) ∧ Blk wr (w.heap.size + 1) 5 ((madeTo key info n k).map B8) ∧ Below w.heap.size w wr) (fun _ i _ _ => n + 32 - (intOf i).toNat)
  case atStart => exact ⟨0, 0, none, rfl, rfl, rfl, .inl rfl, ⟨by simp [tAt], by omega, fun h => absurd h (by simp [tAt])⟩, hK0, hM0, hb0⟩
  case round =>
    clear hK0 hM0 hb0
    obtain ⟨k, cl, Al, rfl, rfl, rfl, hkn, hIl, hK, hM, hb⟩ := hrel
    obtain ⟨a, ha⟩ : ∃ a, 32 * k = a := ⟨_, rfl⟩
    rw [ha]
    by_cases hlt : a < n
    · have hd1 : decide ((a : Int) < (n : Int)) = true := by simp; omega
      have hkm := hK.lt
      have hmm := hM.lt
      have hbs := hb.size
      have hII : In wr wr.heap.size A c info := hi.up hb
      have HS := Lib.hid (madeTo_step key info n k (by omega))
      have HT1 := Lib.hid (tAt_length key info k)
      have htl : (tAt key info k).length ≤ 32 := by cases k with | zero => simp [tAt] | succ k => rw [tAt_length]; omega
      have HN : Hid (hmac key (tAt key info k ++ info ++ [UInt8.ofNat (k + 1)]) = tAt key info (k + 1)) := (show _ = _ from rfl)
      have hkey : In wr wr.heap.size (some ⟨w.heap.size, 0, none⟩) 32 key := ⟨by rw [HK.out]; exact Nat.le_refl _, by omega, fun _ => ⟨_, 0, rfl, hkm, fun j hj => by rw [Nat.zero_add]; exact hK.at8 j hj⟩⟩
      have HML := Lib.hid (madeTo_length key info n k)
      obtain ⟨x, hx⟩ : ∃ x, x = UInt8.ofNat (k + 1) := ⟨_, rfl⟩
      have HNX : Hid ((((x.toNat : Int) + 1) % 256) = ((UInt8.ofNat (k + 1 + 1)).toNat : Int)) := (show _ = _ by rw [hx]; exact key_next k)
      rw [← hx] at HN ⊢
      clear hx
      obtain ⟨l, hl'⟩ : ∃ l, l = tAt key info k := ⟨_, rfl⟩
      rw [← hl'] at HN hIl htl ⊢
      clear hl'
      have hW1 : ∀ X Y : Obj, Below wr.heap.size wr ((wr.alloc X).alloc Y) := fun X Y => ((Below.refl _ _).alloc (Nat.le_refl _) _).alloc (by simp) _
      have hpar : ∀ g, wr.heap.size + 1 + 1 ≤ g → Parts ((wr.alloc (.cells #[.int .u8 x.toNat] 5)).alloc (.cells #[.slice Al l.length cl, .slice A info.length c, .slice (some ⟨wr.heap.size, 0, none⟩) 1 1] 24)) g (some ⟨wr.heap.size + 1, 0, none⟩) [l, info, [x]] := fun g hg => by
        have hb1 : Below wr.heap.size wr (wr.alloc (.cells #[.int .u8 x.toNat] 5)) := (Below.refl _ _).alloc (Nat.le_refl _) _
        have h := parts3 (w := wr.alloc (.cells #[.int .u8 x.toNat] 5)) (B := wr.heap.size + 1) (g := g) 24 ((hIl.below hb1).weaken (by omega)) ((hII.below hb1).weaken (by omega)) (A'' := some ⟨wr.heap.size, 0, none⟩) (c'' := 1) (b'' := [x])
          ⟨by simp, by omega, fun _ => ⟨wr.heap.size, 0, rfl, by omega, fun j hj => by
            obtain rfl : j = 0 := by simpa using hj
            exact new_cell _ _ _⟩⟩ (by rw [size_alloc]; omega) (by omega)
        rw [size_alloc] at h
        exact h
      have hm := macOf_any (some ⟨w.heap.size, 0, none⟩) (some ⟨wr.heap.size + 1, 0, none⟩) 32 3 wr.heap.size key [l, info, [x]] ((wr.alloc (.cells #[.int .u8 x.toNat] 5)).alloc (.cells #[.slice Al l.length cl, .slice A info.length c, .slice (some ⟨wr.heap.size, 0, none⟩) 1 1] 24))
        (hW1 _ _).size (hkey.below (hW1 _ _)) (by rw [HK.out]; omega) ((ht.below hb).below (hW1 _ _)) (by simp; omega) (by simp) (by omega) (fun g hg => hpar g (by rw [size_alloc, size_alloc] at hg; exact hg))
      rw [HK.out] at hm
      go_wp2_with fail
      refine hm.mono ?_
      rintro e w1 ⟨rfl, hb1⟩
      have e3 : ([l, info, [x]] : List (List UInt8)).flatten = l ++ info ++ [x] := by simp
      rw [e3, HN.out]
      have hb01 : Below wr.heap.size wr w1 := (hW1 _ _).trans (hb1.mono (hW1 _ _).size)
      clear hm hpar hW1 hb1 e3 hkey hII hIl
      replace hK := hK.below hb01 hkm
      replace hM := hM.below hb01 hmm
      replace hb := hb.trans (hb01.mono hbs)
      have hbs1 := hb.size
      have hmm1 := hM.lt
      obtain ⟨u, hu⟩ : ∃ u, u = tAt key info (k + 1) := ⟨_, rfl⟩
      rw [← hu] at HS HT1 ⊢
      have HU := Lib.hid hu
      clear hu hb01
      go_wp2_with (refine wpList_store_blk rfl 22 (.tmp 12) (.tmp 34) rfl rfl w1.heap.size _ rfl rfl 22 _ (Blk.new_of w1 22 _ ((List.replicate 32 (0 : UInt8)).map B8) (by rfl)) (info32.trans (by rw [List.length_map, HT1.out])) (by rw [List.length_map, List.length_map, HT1.out]; rfl) (one8 _) ?_; intro w2 hU2 hg2)
      have hb12 : Below w1.heap.size w1 w2 := below_new ((Below.refl _ _).alloc (Nat.le_refl _) _) hg2 (Nat.le_refl _) (by simp)
      replace hK := hK.below hb12 hK.lt
      replace hM := hM.below hb12 hM.lt
      replace hb := hb.trans (hb12.mono hbs1)
      have hlt2 := hU2.lt
      clear hg2 hb12
      have ha0 : (0 : Int) ≤ (a : Int) := by omega
      have han : (a : Int) ≤ (n : Int) := by omega
      have hcl : ((n : Int) - (a : Int)).toNat = n - a := by omega
      have hne : ¬ a = n := by omega
      have hne2 : ¬ n = a := by omega
      have hcs : ((u.take (n - a)).map B8).length = Nat.min 32 (n - a) := by rw [List.length_map, List.length_take, HT1.out]; exact Nat.min_comm _ _
      have hUu : ∀ j v, ((u.take (n - a)).map B8)[j]? = some v → w2.drew.cell? ⟨w1.heap.size, 0 + j, none⟩ = some v := fun j v hv => by
        have hj : j < (u.take (n - a)).length := by have := (List.getElem?_eq_some_iff.1 hv).1; simpa using this
        rw [getD_map8 _ j hj] at hv
        have hj2 : j < n - a ∧ j < u.length := by rw [List.length_take] at hj; omega
        rw [← Option.some.inj hv, Nat.zero_add]
        refine (hU2.at8 j hj2.2).trans ?_
        simp [List.getD_eq_getElem?_getD, hj2.1]
      have HUu := Lib.hid hUu
      have HCS := Lib.hid hcs
      rw [ha] at HS
      go_still_tail 4, (by kernel_rfl)
      change wpList _ _ _ _ _ w2.drew
      clear hUu hcs
      go_wp2_with (refine wpList_copy_blk rfl (.tmp 37) (.tmp 38) 24 24 rfl 5 Tryd.underlying24 info8 _ _ _ _ _ _ (by rfl) (by rfl) (w.heap.size + 1) a _ 5 hM.drew ((u.take (n - a)).map B8) HCS.out (fun _ => ⟨rfl, w1.heap.size, 0, rfl, HUu.out⟩) (by rw [HCS.out, List.length_map, HML.out]; have : Nat.min 32 (n - a) ≤ n - a := Nat.min_le_right _ _; omega) (oneB8 _) ?_; intro w3 hM3 hg3)
      rw [HS.out] at hM3
      replace hK := hK.drew.grown hg3 (by simp)
      have hU3 := hU2.drew.grown hg3 (by simp; omega)
      have hb3 := below_new (below_drewN hb 1) hg3 (by omega) (show w.heap.size ≤ w2.heap.size by omega)
      clear hg3 hM hU2 hb
      have hl3 := hU3.lt
      go_wp2
      go_roundw
      case rel =>
        refine ⟨k + 1, 32, some ⟨w1.heap.size, 0, none⟩, by rw [show 32 * (k + 1) = a + 32 by omega]; go_num, by rw [HNX.out], by rw [← HU.out, HT1.out], .inr (by omega), ?_, hK, hM3, hb3⟩
        rw [← HU.out]
        exact ⟨by rw [HT1.out]; exact Nat.le_refl _, by omega, fun _ => ⟨_, 0, rfl, hl3, fun j hj => by rw [Nat.zero_add]; exact hU3.at8 j hj⟩⟩
      case measure => simp [intOf]; omega
    · have hd1 : decide ((a : Int) < (n : Int)) = false := by simp; omega
      have hM' := madeTo_all key info n k (by omega) (by omega)
      rw [hM'] at hM
      go_wp2
      go_ret2
      exact ⟨_, rfl, by omega, hM, hb⟩

end
section
open Go.RowKit
def tls13 : List UInt8 := [116, 108, 115, 49, 51, 32]
/-- What Label expands by. -/
def labelInfo (label context : List UInt8) (n : Nat) : List UInt8 :=
  [UInt8.ofNat (n / 256), UInt8.ofNat n, UInt8.ofNat (6 + label.length)] ++ tls13 ++ label ++ [UInt8.ofNat context.length] ++ context

set_option maxRecDepth 100000 in
set_option maxHeartbeats 4000000 in
theorem label_bad (ks : List Value) (A : Option Addr) (c : Nat) (label context : List UInt8) (n : Int) (w : World) (h : 249 < label.length ∨ 255 < context.length) :
    Calls Tryd.prog 38 #[.agg ks.toArray, .string ⟨label.toArray⟩, .slice A context.length c, .int .i64 n] w fun e w' => e = .returned (.tuple #[.slice none 0 0, .int .i64 1]) ∧ Below w.heap.size w w' := by
  go_enter Tryd.func38, Tryd.ntmps38
  by_cases h1 : 249 < label.length
  · have hd : decide ((249 : Int) < (label.length : Int)) = true := by simp; omega
    go_wp2
    go_ret2
    exact ⟨rfl, (Below.refl _ _).alloc (Nat.le_refl _) _⟩
  · have hd : decide ((249 : Int) < (label.length : Int)) = false := by simp; omega
    have hd2 : decide ((255 : Int) < (context.length : Int)) = true := by simp; omega
    go_wp2
    go_ret2
    exact ⟨rfl, (Below.refl _ _).alloc (Nat.le_refl _) _⟩

set_option maxRecDepth 100000 in
set_option maxHeartbeats 4000000 in
theorem label_any (A : Option Addr) (c n : Nat) (key label context : List UInt8) (w : World) (hk : key.length = 32) (hi : In w w.heap.size A c context) (hl : label.length ≤ 249) (hc : context.length ≤ 255) (hn : n ≤ 8160) (ht : Tabs w) :
    Calls Tryd.prog 38 #[.agg (key.map B8).toArray, .string ⟨label.toArray⟩, .slice A context.length c, .int .i64 (n : Int)] w fun e w' => ∃ g, e = .returned (.tuple #[.slice (some ⟨g, 0, none⟩) n n, .int .i64 0]) ∧ w.heap.size ≤ g ∧ Blk w' g 5 ((expand key (labelInfo label context n) n).map B8) ∧ Below w.heap.size w w' := by
  have hd : decide ((249 : Int) < (label.length : Int)) = false := by simp; omega
  have hd2 : decide ((255 : Int) < (context.length : Int)) = false := by simp; omega
  have HK := Lib.hid hk
  clear hk
  go_enter Tryd.func38, Tryd.ntmps38
  obtain ⟨h3, hh3⟩ : ∃ h3 : List UInt8, h3 = [UInt8.ofNat (n / 256), UInt8.ofNat n, UInt8.ofNat (6 + label.length)] := ⟨_, rfl⟩
  have hl3 : h3.length = 3 := by rw [hh3]; rfl
  have hb00 : ∀ X Y : Obj, Below w.heap.size w ((w.alloc X).alloc Y) := fun X Y => ((Below.refl _ _).alloc (Nat.le_refl _) _).alloc (by simp) _
  have hB0 : Buf ((w.alloc (.cells (key.map B8).toArray 22)).alloc (.cells #[.int .u8 ((n : Int) / 256), .int .u8 ((n : Int) % 256), .int .u8 (6 + (label.length : Int))] 5)) (w.heap.size + 1) (some ⟨w.heap.size + 1, 0, none⟩) 3 3 h3 := by
    have := Buf.made (w := w.alloc (.cells (key.map B8).toArray 22)) (base := w.heap.size + 1) (n := 3) (c := 3) (bs := h3) #[.int .u8 ((n : Int) / 256), .int .u8 ((n : Int) % 256), .int .u8 (6 + (label.length : Int))] 5 0 0 (by simp) hl3 (Nat.le_refl _) (by decide) rfl (.inr rfl) (fun j hj => by
      obtain rfl | rfl | rfl : j = 0 ∨ j = 1 ∨ j = 2 := by omega
      · rw [hh3]; simp; omega
      · rw [hh3]; simp
      · rw [hh3]; simp; omega)
    rw [size_alloc] at this
    exact this
  have HH3 := Lib.hid hh3
  clear hh3 hl3
  have hcn : (context.length : Int) = ((UInt8.ofNat context.length).toNat : Int) := by simp; omega
  have HCN := Lib.hid hcn
  clear hcn
  have hz0 : ∀ X Y : Obj, w.heap.size + 1 ≤ ((w.alloc X).alloc Y).heap.size := fun X Y => by rw [size_alloc, size_alloc]; omega
  go_wp2_with (first
    | ((with_reducible refine (?_ : wpList _ _ _ (Oper.mk (some 30) _ _ _ _ _ :: _) _ _)); go_loud (refine wpList_append_far rfl (.tmp 29) _ 9 rfl (w.heap.size + 1) _ 3 3 h3 tls13 _ rfl hB0 rfl (src_string _ tls13) (by decide) (hz0 _ _) 9 (by decide) ?_); intro A1 c1 w1 hB1 hg1 _;
       have hb1 := below_own (hb00 _ _) hB0 hg1 (Nat.le_succ _) (hb00 _ _).size; have hz1 := Nat.le_trans (hz0 _ _) hg1.size; have hK1 := ((Blk.new_of w 22 _ (key.map B8) rfl).alloc (.cells #[.int .u8 ((n : Int) / 256), .int .u8 ((n : Int) % 256), .int .u8 (6 + (label.length : Int))] 5)).grown hg1 (ownOf_fresh hB0 (Nat.lt_succ_self _)); clear hg1 hB0 hb00 hz0)
    | ((with_reducible refine (?_ : wpList _ _ _ (Oper.mk (some 33) _ _ _ _ _ :: _) _ _)); go_loud (refine wpList_append_far rfl (.tmp 31) (.tmp 32) 9 rfl (w.heap.size + 1) _ 9 _ (h3 ++ tls13) label _ rfl hB1 rfl (src_string _ label) (by omega) hz1 (9 + label.length) rfl ?_); intro A2 c2 w2 hB2 hg2 _;
       have hb2 := below_own hb1 hB1 hg2 (Nat.le_succ _) hb1.size; have hz2 := Nat.le_trans hz1 hg2.size; have hK2 := hK1.grown hg2 (ownOf_fresh hB1 (Nat.lt_succ_self _)); clear hg2 hB1 hb1 hz1 hK1)
    | ((with_reducible refine (?_ : wpList _ _ _ (Oper.mk (some 39) _ _ _ _ _ :: _) _ _)); go_loud (refine wpList_append_far rfl (.tmp 34) (.tmp 38) 24 rfl (w.heap.size + 1) _ (9 + label.length) _ (h3 ++ tls13 ++ label) [UInt8.ofNat context.length] _ rfl (hB2.alloc _) rfl (src_byte ((new_cell _ _ _).trans (congrArg (fun z => some (Value.int .u8 z)) HCN.out))) (by simp only [List.length_cons, List.length_nil]; omega) (le_alloc hz2 _) (9 + label.length + 1) rfl ?_); intro A3 c3 w3 hB3 hg3 _;
       have hb3 := below_own (hb2.alloc hb2.size _) (hB2.alloc _) hg3 (Nat.le_succ _) (le_alloc hb2.size _); have hz3 := Nat.le_trans (le_alloc hz2 _) hg3.size; have hK3 := (hK2.alloc _).grown hg3 (ownOf_fresh hB2 (Nat.lt_succ_self _)); clear hg3 hB2 hb2 hz2 hK2)
    | ((with_reducible refine (?_ : wpList _ _ _ (Oper.mk (some 42) _ _ _ _ _ :: _) _ _)); go_loud (refine wpList_append_far rfl (.tmp 40) (.tmp 41) 24 rfl (w.heap.size + 1) _ (9 + label.length + 1) _ (h3 ++ tls13 ++ label ++ [UInt8.ofNat context.length]) context _ rfl hB3 rfl (src_in' ((hi.up hb3).src (Nat.le_refl _))) (by omega) hz3 (9 + label.length + 1 + context.length) rfl ?_); intro A4 c4 w4 hB4 hg4 _;
       have hb4 := below_own hb3 hB3 hg4 (Nat.le_succ _) hb3.size; have hz4 := Nat.le_trans hz3 hg4.size; have hK4 := hK3.grown hg4 (ownOf_fresh hB3 (Nat.lt_succ_self _)); clear hg4 hB3 hb3 hz3 hK3)
    | ((with_reducible refine (?_ : wpList _ _ _ (Oper.mk (some 43) _ _ _ _ _ :: _) _ _)); go_loud (refine wpList_load_blk rfl 22 (.tmp 4) rfl w.heap.size rfl 22 _ _ hK4 Tryd.underlying22 rfl (info32.trans (by rw [List.length_map, HK.out])) ?_)))
  have hin : h3 ++ tls13 ++ label ++ [UInt8.ofNat context.length] ++ context = labelInfo label context n := by rw [HH3.out]; rfl
  rw [hin] at hB4
  have hil : (labelInfo label context n).length = 9 + label.length + 1 + context.length := hB4.1
  have he := expand_any A4 c4 n key (labelInfo label context n) w4 HK.out (hB4.toIn (Nat.le_refl _)) (by omega) hn (ht.below hb4)
  rw [hil] at he
  refine he.mono ?_
  rintro e w5 ⟨g, rfl, hg, hR, hb5⟩
  go_wp2
  go_ret2
  exact ⟨g, rfl, by have := hb4.size; omega, hR, hb4.trans (hb5.mono hb4.size)⟩

end
section
open Go.RowKit
/-- Label of 32 bytes, by a context of 32. -/
theorem label_32 (A : Option Addr) (key label context x : List UInt8) (w : World) (hk : key.length = 32) (hi : In w w.heap.size A 32 context) (hl : label.length ≤ 249) (hc : context.length = 32) (hx : x = expand key (labelInfo label context 32) 32) (ht : Tabs w) :
    Calls Tryd.prog 38 #[.agg (key.map B8).toArray, .string ⟨label.toArray⟩, .slice A 32 32, .int .i64 32] w fun e w' => ∃ g, e = .returned (.tuple #[.slice (some ⟨g, 0, none⟩) 32 32, .int .i64 0]) ∧ w.heap.size ≤ g ∧ Blk w' g 5 (x.map B8) ∧ Below w.heap.size w w' := by
  have := label_any A 32 32 key label context w hk hi hl (by omega) (by omega) ht
  rw [hc, ← hx] at this
  exact this

set_option maxRecDepth 100000 in
set_option maxHeartbeats 4000000 in
theorem derive_any (key label sum : List UInt8) (w : World) (hk : key.length = 32) (hs : sum.length = 32) (hl : label.length ≤ 249) (ht : Tabs w) :
    Calls Tryd.prog 28 #[.agg (key.map B8).toArray, .string ⟨label.toArray⟩, .agg (sum.map B8).toArray] w fun e w' => e = .returned (.agg ((expand key (labelInfo label sum 32) 32).map B8).toArray) ∧ Below w.heap.size w w' := by
  have HK := Lib.hid hk
  have HSS := Lib.hid hs
  have hxl := expand_length key (labelInfo label sum 32) 32
  obtain ⟨x, hx⟩ : ∃ x, x = expand key (labelInfo label sum 32) 32 := ⟨_, rfl⟩
  rw [← hx] at hxl ⊢
  have HXL := Lib.hid hxl
  have HX := Lib.hid hx
  clear hk hs hx hxl
  go_enter Tryd.func28, Tryd.ntmps28
  go_wp2
  have hK3 : Blk (((w.alloc (.cells (key.map B8).toArray 22)).alloc (.cells (sum.map B8).toArray 22)).alloc (.cells #[.int .u8 0, .int .u8 0, .int .u8 0, .int .u8 0, .int .u8 0, .int .u8 0, .int .u8 0, .int .u8 0, .int .u8 0, .int .u8 0, .int .u8 0, .int .u8 0, .int .u8 0, .int .u8 0, .int .u8 0, .int .u8 0, .int .u8 0, .int .u8 0, .int .u8 0, .int .u8 0, .int .u8 0, .int .u8 0, .int .u8 0, .int .u8 0, .int .u8 0, .int .u8 0, .int .u8 0, .int .u8 0, .int .u8 0, .int .u8 0, .int .u8 0, .int .u8 0] 22)) w.heap.size 22 (key.map B8) := ((Blk.new_of w _ _ _ rfl).alloc _).alloc _
  have hS3 : Blk (((w.alloc (.cells (key.map B8).toArray 22)).alloc (.cells (sum.map B8).toArray 22)).alloc (.cells #[.int .u8 0, .int .u8 0, .int .u8 0, .int .u8 0, .int .u8 0, .int .u8 0, .int .u8 0, .int .u8 0, .int .u8 0, .int .u8 0, .int .u8 0, .int .u8 0, .int .u8 0, .int .u8 0, .int .u8 0, .int .u8 0, .int .u8 0, .int .u8 0, .int .u8 0, .int .u8 0, .int .u8 0, .int .u8 0, .int .u8 0, .int .u8 0, .int .u8 0, .int .u8 0, .int .u8 0, .int .u8 0, .int .u8 0, .int .u8 0, .int .u8 0, .int .u8 0] 22)) (w.heap.size + 1) 22 (sum.map B8) := (Blk.new2_of w _ _ _ _ rfl).alloc _
  have hR3 : Blk (((w.alloc (.cells (key.map B8).toArray 22)).alloc (.cells (sum.map B8).toArray 22)).alloc (.cells #[.int .u8 0, .int .u8 0, .int .u8 0, .int .u8 0, .int .u8 0, .int .u8 0, .int .u8 0, .int .u8 0, .int .u8 0, .int .u8 0, .int .u8 0, .int .u8 0, .int .u8 0, .int .u8 0, .int .u8 0, .int .u8 0, .int .u8 0, .int .u8 0, .int .u8 0, .int .u8 0, .int .u8 0, .int .u8 0, .int .u8 0, .int .u8 0, .int .u8 0, .int .u8 0, .int .u8 0, .int .u8 0, .int .u8 0, .int .u8 0, .int .u8 0, .int .u8 0] 22)) (w.heap.size + 1 + 1) 22 ((List.replicate 32 (0 : UInt8)).map B8) := Blk.new3_of w _ _ _ _ _ (by rfl)
  have hb3 : Below w.heap.size w (((w.alloc (.cells (key.map B8).toArray 22)).alloc (.cells (sum.map B8).toArray 22)).alloc (.cells #[.int .u8 0, .int .u8 0, .int .u8 0, .int .u8 0, .int .u8 0, .int .u8 0, .int .u8 0, .int .u8 0, .int .u8 0, .int .u8 0, .int .u8 0, .int .u8 0, .int .u8 0, .int .u8 0, .int .u8 0, .int .u8 0, .int .u8 0, .int .u8 0, .int .u8 0, .int .u8 0, .int .u8 0, .int .u8 0, .int .u8 0, .int .u8 0, .int .u8 0, .int .u8 0, .int .u8 0, .int .u8 0, .int .u8 0, .int .u8 0, .int .u8 0, .int .u8 0] 22)) := (((Below.refl _ _).alloc (Nat.le_refl _) _).alloc (by simp) _).alloc (by simp; omega) _
  generalize (((w.alloc (.cells (key.map B8).toArray 22)).alloc (.cells (sum.map B8).toArray 22)).alloc (.cells #[.int .u8 0, .int .u8 0, .int .u8 0, .int .u8 0, .int .u8 0, .int .u8 0, .int .u8 0, .int .u8 0, .int .u8 0, .int .u8 0, .int .u8 0, .int .u8 0, .int .u8 0, .int .u8 0, .int .u8 0, .int .u8 0, .int .u8 0, .int .u8 0, .int .u8 0, .int .u8 0, .int .u8 0, .int .u8 0, .int .u8 0, .int .u8 0, .int .u8 0, .int .u8 0, .int .u8 0, .int .u8 0, .int .u8 0, .int .u8 0, .int .u8 0, .int .u8 0] 22)) = w3 at *
  have hlK := hK3.lt
  have hlS := hS3.lt
  have hlR := hR3.lt
  have HS0 := Lib.hid (show w3.drew.rangeAt w.heap.size 0 (key.map B8) ∧ Below w3.heap.size w3 w3.drew from ⟨rangeAt_of_blk hK3.drew, below_drewN (Below.refl _ _) 1⟩)
  have hin : In w3 w3.heap.size (some ⟨w.heap.size + 1, 0, none⟩) 32 sum := ⟨by rw [HSS.out]; exact Nat.le_refl _, by omega, fun _ => ⟨_, 0, rfl, hlS, fun j hj => by rw [Nat.zero_add]; exact hS3.at8 j hj⟩⟩
  have HL := Lib.hid (fun (W : World) (h : W.rangeAt w.heap.size 0 (key.map B8) ∧ Below w3.heap.size w3 W) => label_32 (some ⟨w.heap.size + 1, 0, none⟩) key label sum x W HK.out (hin.up h.2) hl HSS.out HX.out ((ht.below hb3).below h.2))
  have hu := Tryd.underlying22
  have hi32 : (Tryd.prog.info? 22).map (·.size) = some (key.map B8).length := info32.trans (by rw [List.length_map, HK.out])
  clear hK3 hS3 hin hl
  go_region_held3 (fun W => W.rangeAt w.heap.size 0 (key.map B8) ∧ Below w3.heap.size w3 W)
    (first
      | exact HS0.out
      | assumption
      | exact held_step hlK (by assumption) (by assumption))
    (first
      | (go_at_call 38; ((with_reducible refine (HL.out _ (by assumption)).mono ?_); rintro e w5 ⟨g, rfl, hg, hX, hb5⟩)))
  have hS := (by assumption : World.rangeAt w5 w.heap.size 0 (key.map B8) ∧ Below w3.heap.size w3 w5)
  have hR5 := hR3.below hS.2 hlR
  have hbw := hb3.trans (hS.2.mono hb3.size)
  clear hS
  have harr : ∀ W : World, (Instr.arrayAt 22 (.slice (some ⟨g, 0, none⟩) 32 32)).run Tryd.prog W = .ok (.pointer (some ⟨g, 0, none⟩)) W := fun W => by kernel_rfl
  go_wp2_with (first
    | ((with_reducible refine (?_ : wpList _ _ _ (Oper.mk (some 21) _ _ _ _ _ :: _) _ _)); go_loud (refine wpList_load_blk rfl 22 (.tmp 20) rfl g rfl 5 _ _ hX Tryd.underlying22 rfl (info32.trans (by rw [List.length_map, HXL.out])) ?_))
    | ((with_reducible refine (?_ : wpList _ _ _ (Oper.mk none (.store 22 _ _) _ _ _ _ :: _) _ _)); go_loud (refine wpList_store_blk rfl 22 (.tmp 6) (.tmp 21) rfl rfl (w.heap.size + 1 + 1) _ rfl rfl 22 _ hR5 (info32.trans (by rw [List.length_map, HXL.out])) (by rw [List.length_map, List.length_map, HXL.out]; rfl) (one8 _) ?_); intro w6 hR6 hg6))
  refine bodyPost_ret (v := .agg _) (results_cell_row rfl _ _ (w.heap.size + 1 + 1) 22 _ (0, 0) _ rfl hR6.raw Tryd.underlying22 rfl (info32.trans (by simp [HXL.out]))) rfl ⟨rfl, below_new hbw hg6 (by omega) hbw.size⟩

end
section
open Go.RowKit
theorem padKey_sha (k : List UInt8) (h : 64 < k.length) : padKey (sha k) = padKey k := by
  rw [← padKey_long k h, ← padKey_short (sha k) (by rw [sha_length]; omega)]
theorem hmac_sha (k m : List UInt8) (h : 64 < k.length) : hmac (sha k) m = hmac k m := by
  unfold hmac; rw [padKey_sha k h]
theorem cell_past_alloc {w : World} {u : Value} {g : Nat} (h : w.cell? ⟨g, 0, none⟩ = some u) (o : Obj) : (w.alloc o).cell? ⟨g, 0, none⟩ = some u :=
  (((Below.refl w.heap.size w).alloc (Nat.le_refl _) o).cell (p := ⟨g, 0, none⟩) (block_lt_of_cell (a := ⟨g, 0, none⟩) h)).trans h
theorem cell_through {w w' : World} {u : Value} {g : Nat} (h : w.cell? ⟨g, 0, none⟩ = some u) (hb : Below w.heap.size w w') : w'.cell? ⟨g, 0, none⟩ = some u :=
  (hb.cell (p := ⟨g, 0, none⟩) (block_lt_of_cell (a := ⟨g, 0, none⟩) h)).trans h
theorem cell2 (w : World) (X : Obj) (t : TypeId) (u : Value) : ((w.alloc X).alloc (.cells #[u] t)).cell? ⟨w.heap.size + 1, 0, none⟩ = some u := by
  have := new_cell (w.alloc X) t u
  rwa [size_alloc] at this
theorem mac_one {W : World} {A A' : Option Addr} {c c' n n' gp : Nat} {key m x : List UInt8} (ik : In W W.heap.size A c key) (hn : key.length = n) (im : In W W.heap.size A' c' m) (hn' : m.length = n') (hc : W.cell? ⟨gp, 0, none⟩ = some (.slice A' n' c')) (hk : n < 1000) (hm : n' < 1000) (hx : x = hmac key m) (ht : Tabs W) :
    Calls Tryd.prog 85 #[.slice A n c, .slice (some ⟨gp, 0, none⟩) 1 1] W fun e w' => e = .returned (.agg (x.map B8).toArray) ∧ Below W.heap.size W w' := by
  subst hn hx
  have := macOf_any A (some ⟨gp, 0, none⟩) c 1 W.heap.size key [m] W (Nat.le_refl _) ik (by omega) ht (by simp; omega) (by simp) (by omega) (fun g hg => parts_in hn' hc im hg hg)
  simpa using this

theorem in_blk {w : World} {g n : Nat} {t : TypeId} {xs : List UInt8} (h : Blk w g t (xs.map B8)) (hn : xs.length = n) (hm : n < 1000) : In w w.heap.size (some ⟨g, 0, none⟩) n xs :=
  ⟨by omega, by omega, fun _ => ⟨g, 0, rfl, h.lt, fun j hj => by rw [Nat.zero_add]; exact h.at8 j hj⟩⟩
end
section
open Go.RowKit
set_option maxRecDepth 100000 in
set_option maxHeartbeats 4000000 in
theorem refExpand_bad (key info : List UInt8) (n : Int) (w : World) (hn : n < 0 ∨ 8160 < n) :
    Calls Tryd.prog 41 #[.string ⟨key.toArray⟩, .string ⟨info.toArray⟩, .int .i64 n] w fun e w' => e = .returned (.tuple #[.string ⟨#[]⟩, .int .i64 1]) ∧ Below w.heap.size w w' := by
  go_enter Tryd.func41, Tryd.ntmps41
  rcases hn with hn | hn
  · have hd : decide (n < 0) = true := by simp; omega
    go_wp2
    go_ret2
    exact ⟨rfl, Below.refl _ _⟩
  · have hd : decide (n < 0) = false := by simp; omega
    have hd2 : decide (8160 < n) = true := by simp; omega
    go_wp2
    go_ret2
    exact ⟨rfl, Below.refl _ _⟩

theorem take_all_exp (key info : List UInt8) (n k : Nat) (h1 : n ≤ 32 * k) (h2 : k = 0 ∨ 32 * (k - 1) < n) : (tTo key info k).take n = expand key info n := by
  have hk : k = (n + 31) / 32 := by omega
  unfold expand
  rw [hk]
theorem extract_str (T : List UInt8) (n : Nat) : (⟨T.toArray⟩ : ByteArray).extract 0 n = ⟨(T.take n).toArray⟩ := by
  apply ByteArray.ext
  rw [ByteArray.data_extract]
  simp

set_option maxRecDepth 100000 in
set_option maxHeartbeats 4000000 in
theorem refExpand_any (n : Nat) (key info : List UInt8) (w : World) (hk : key.length < 100000) (hl : info.length < 100000) (hn : n ≤ 8160) :
    Calls Tryd.prog 41 #[.string ⟨key.toArray⟩, .string ⟨info.toArray⟩, .int .i64 (n : Int)] w fun e w' => e = .returned (.tuple #[.string ⟨(expand key info n).toArray⟩, .int .i64 0]) ∧ Below w.heap.size w w' := by
  have hd : decide ((n : Int) < 0) = false := by simp
  have hd2 : decide ((8160 : Int) < (n : Int)) = false := by simp; omega
  go_enter Tryd.func41, Tryd.ntmps41
  go_wp2
  clear hd hd2
  go_loopw [8, 9, 10] (fun al t i wr => ∃ k : Nat, i = .int .i64 ((k + 1 : Nat) : Int) ∧ al = .string ⟨(tTo key info k).toArray⟩ ∧ t = .string ⟨(tAt key info k).toArray⟩ ∧ (k = 0 ∨ 32 * (k - 1) < n) ∧ Below w.heap.size w wr) (fun _ _ i _ => n + 64 - 32 * (intOf i).toNat)
  case atStart => exact ⟨0, rfl, rfl, rfl, .inl rfl, Below.refl _ _⟩
  case round =>
    obtain ⟨k, rfl, rfl, rfl, hkn, hb⟩ := hrel
    have hTl := tTo_length key info k
    have htl : (tAt key info k).length ≤ 32 := by cases k with | zero => simp [tAt] | succ k => rw [tAt_length]; omega
    have HS : Hid (tTo key info (k + 1) = tTo key info k ++ hmac key (tAt key info k ++ info ++ [UInt8.ofNat (k + 1)])) := (show _ = _ from rfl)
    have HA : Hid (tAt key info (k + 1) = hmac key (tAt key info k ++ info ++ [UInt8.ofNat (k + 1)])) := (show _ = _ from rfl)
    have HE := Lib.hid (fun h1 => take_all_exp key info n k h1 hkn)
    generalize tTo key info k = T at *
    generalize tAt key info k = l at *
    by_cases hlt : 32 * k < n
    · have hd1 : decide (T.length < n) = true := by simp; omega
      have hTl2 : T.length < 9000 := by omega
      have HTL := Lib.hid hTl
      clear hTl
      have hx : (k : Int) + 1 = ((UInt8.ofNat (k + 1)).toNat : Int) := by simp; omega
      obtain ⟨x, hxx⟩ : ∃ x, x = UInt8.ofNat (k + 1) := ⟨_, rfl⟩
      rw [← hxx] at HS HA hx
      have HX := Lib.hid hx
      clear hx hxx
      have hbs := hb.size
      have hcl1 : ¬ 9223372036854775807 < l.length + info.length := by omega
      have hcl2 : ¬ 9223372036854775807 < l.length + info.length + 1 := by omega
      obtain ⟨h, hh⟩ : ∃ h, h = hmac key (l ++ info ++ [x]) := ⟨_, rfl⟩
      have hhl : h.length = 32 := by rw [hh]; exact hmac_length _ _
      rw [← hh] at HS HA
      have hcl3 : ¬ 9223372036854775807 < T.length + h.length := by omega
      have hm := refMac_any key (l ++ info ++ [x]) (wr.alloc (.cells #[.int .u8 ((k : Int) + 1)] 5)) (by omega) (by simp; omega)
      rw [← hh] at hm
      have HM := Lib.hid hm
      have HHL := Lib.hid hhl
      clear hh hm hhl
      have hs1 : Src (wr.alloc (.cells #[.int .u8 ((k : Int) + 1)] 5)) (wr.heap.size + 1) (some ⟨wr.heap.size, 0, none⟩) [x] := fun _ => ⟨wr.heap.size, 0, rfl, by omega, fun j hj => by
        obtain rfl : j = 0 := by simpa using hj
        rw [HX.out]
        exact new_cell _ _ _⟩
      have HS1 := Lib.hid hs1
      clear hs1
      go_wp2_with (first
        | ((with_reducible refine (?_ : wpList _ _ _ (Oper.mk (some 30) _ _ _ _ _ :: _) _ _)); go_loud (refine wpList_string_of rfl (.tmp 29) rfl [x] (some ⟨wr.heap.size, 0, none⟩) 1 (wr.heap.size + 1) rfl HS1.out ?_))
        | (rw [bytes_append, bytes_append]; refine HM.out.mono ?_; rintro e w1 ⟨rfl, hb1⟩))
      go_roundw
      case rel =>
        have hb2 : Below wr.heap.size wr w1 := ((Below.refl _ _).alloc (Nat.le_refl _) _).trans (hb1.mono (by simp))
        exact ⟨k + 1, by go_num, by rw [bytes_append, HS.out], by rw [HA.out], .inr (by omega), hb.trans (hb2.mono hbs)⟩
      case measure => simp [intOf]; omega
    · have hd1 : decide (T.length < n) = false := by simp; omega
      have hTe := HE.out (by omega)
      have hnT : (n : Int) ≤ (T.length : Int) := by omega
      have hxs := extract_str T n
      rw [hTe] at hxs
      clear hTe
      go_wp2
      go_ret2
      exact ⟨rfl, hb⟩

/-- What is put ahead of a label. -/
def nBytes (n : Nat) : List UInt8 := [UInt8.ofNat (n / 256), UInt8.ofNat n]

set_option maxRecDepth 100000 in
set_option maxHeartbeats 4000000 in
theorem refLabel_bad (key label context : List UInt8) (n : Int) (w : World) (h : n < 0 ∨ 8160 < n ∨ 249 < label.length ∨ 255 < context.length) (hl : label.length < 549755813888) :
    Calls Tryd.prog 17 #[.string ⟨key.toArray⟩, .string ⟨label.toArray⟩, .string ⟨context.toArray⟩, .int .i64 n] w fun e w' => e = .returned (.tuple #[.string ⟨#[]⟩, .int .i64 1]) ∧ Below w.heap.size w w' := by
  have hcl : ¬ 9223372036854775807 < 6 + label.length := by omega
  go_enter Tryd.func17, Tryd.ntmps17
  by_cases h1 : n < 0
  · have hd : decide (n < 0) = true := by simp; omega
    go_wp2
    go_ret2
    exact ⟨rfl, Below.refl _ _⟩
  have hd : decide (n < 0) = false := by simp; omega
  by_cases h2 : 8160 < n
  · have hd2 : decide (8160 < n) = true := by simp; omega
    go_wp2
    go_ret2
    exact ⟨rfl, Below.refl _ _⟩
  have hd2 : decide (8160 < n) = false := by simp; omega
  by_cases h3 : 249 < label.length
  · have hd3 : decide ((255 : Int) < 6 + (label.length : Int)) = true := by simp; omega
    go_wp2
    go_ret2
    exact ⟨rfl, Below.refl _ _⟩
  have hd3 : decide ((255 : Int) < 6 + (label.length : Int)) = false := by simp; omega
  have hd4 : decide ((255 : Int) < (context.length : Int)) = true := by simp; omega
  go_wp2
  go_ret2
  exact ⟨rfl, Below.refl _ _⟩

theorem label_str (n : Nat) (label context : List UInt8) : (({ data := #[UInt8.ofNat (n / 256), UInt8.ofNat n, 6 + UInt8.ofNat label.length] } ++ ({ data := #[116, 108, 115, 49, 51, 32] } ++ { data := label.toArray }) ++ { data := #[UInt8.ofNat context.length] } ++ { data := context.toArray }) : ByteArray) = ⟨(labelInfo label context n).toArray⟩ := by
  apply ByteArray.ext
  simp [labelInfo, tls13]
set_option maxRecDepth 100000 in
set_option maxHeartbeats 4000000 in
theorem refLabel_any (n : Nat) (key label context : List UInt8) (w : World) (hk : key.length < 100000) (hn : n ≤ 8160) (hl : label.length ≤ 249) (hc : context.length ≤ 255) :
    Calls Tryd.prog 17 #[.string ⟨key.toArray⟩, .string ⟨label.toArray⟩, .string ⟨context.toArray⟩, .int .i64 (n : Int)] w fun e w' => e = .returned (.tuple #[.string ⟨(expand key (labelInfo label context n) n).toArray⟩, .int .i64 0]) ∧ Below w.heap.size w w' := by
  have hcl : ¬ 9223372036854775807 < 6 + label.length := by omega
  have hcl2 : ¬ 9223372036854775807 < 3 + (6 + label.length) := by omega
  have hcl3 : ¬ 9223372036854775807 < 3 + (6 + label.length) + 1 := by omega
  have hcl4 : ¬ 9223372036854775807 < 3 + (6 + label.length) + 1 + context.length := by omega
  have hd : decide ((n : Int) < 0) = false := by simp
  have hd2 : decide ((8160 : Int) < (n : Int)) = false := by simp; omega
  have hd3 : decide ((255 : Int) < 6 + (label.length : Int)) = false := by simp; omega
  have hd4 : decide ((255 : Int) < (context.length : Int)) = false := by simp; omega
  have hs3 : Src (w.alloc (.cells #[.int .u8 ((n : Int) / 256), .int .u8 ((n : Int) % 256), .int .u8 (6 + (label.length : Int))] 5)) (w.heap.size + 1) (some ⟨w.heap.size, 0, none⟩) [UInt8.ofNat (n / 256), UInt8.ofNat n, UInt8.ofNat (6 + label.length)] := fun _ => ⟨w.heap.size, 0, rfl, by omega, fun j hj => by
    have hj' : j < 3 := hj
    obtain rfl | rfl | rfl : j = 0 ∨ j = 1 ∨ j = 2 := by omega
    · simp; omega
    · simp
    · simp; omega⟩
  have HS3 := Lib.hid hs3
  clear hs3
  have hcx : (context.length : Int) = ((UInt8.ofNat context.length).toNat : Int) := by simp; omega
  have hs1 : ∀ X, Src ((w.alloc X).alloc (.cells #[.int .u8 (context.length : Int)] 5)) (w.heap.size + 2) (some ⟨w.heap.size + 1, 0, none⟩) [UInt8.ofNat context.length] := fun X _ => ⟨w.heap.size + 1, 0, rfl, by omega, fun j hj => by
    obtain rfl : j = 0 := by simpa using hj
    refine (cell2 _ _ _ _).trans ?_
    rw [hcx]
    rfl⟩
  have HS1 := Lib.hid hs1
  clear hs1 hcx
  have hlen : (labelInfo label context n).length < 100000 := by simp [labelInfo, tls13]; omega
  have HX := Lib.hid (fun W => refExpand_any n key (labelInfo label context n) W hk hlen hn)
  obtain ⟨y, hy⟩ : ∃ y, y = expand key (labelInfo label context n) n := ⟨_, rfl⟩
  rw [← hy] at HX
  rw [← hy]
  clear hy hlen
  go_enter Tryd.func17, Tryd.ntmps17
  go_wp2_with (first
    | ((with_reducible refine (?_ : wpList _ _ _ (Oper.mk (some 38) _ _ _ _ _ :: _) _ _)); go_loud (refine wpList_string_of rfl (.tmp 37) rfl [UInt8.ofNat (n / 256), UInt8.ofNat n, UInt8.ofNat (6 + label.length)] (some ⟨w.heap.size, 0, none⟩) 3 (w.heap.size + 1) rfl HS3.out ?_))
    | ((with_reducible refine (?_ : wpList _ _ _ (Oper.mk (some 45) _ _ _ _ _ :: _) _ _)); go_loud (refine wpList_string_of rfl (.tmp 44) rfl [UInt8.ofNat context.length] (some ⟨w.heap.size + 1, 0, none⟩) 1 (w.heap.size + 2) rfl (HS1.out _) ?_)))
  rw [label_str]
  refine (HX.out _).mono ?_
  rintro e w1 ⟨rfl, hb1⟩
  go_wp2
  go_ret2
  exact ⟨rfl, (((Below.refl _ _).alloc (Nat.le_refl _) _).alloc (by simp) _).trans (hb1.mono (by simp; omega))⟩

end
section
open Go.RowKit
/-- All differences of the first k places, put together. -/
def diffTo (a b : List UInt8) : Nat → UInt8
  | 0 => 0
  | k + 1 => diffTo a b k ||| (a.getD k 0 ^^^ b.getD k 0)
theorem u8_or_zero (x y : UInt8) : x ||| y = 0 ↔ x = 0 ∧ y = 0 := by
  constructor
  · intro h
    have h2 := congrArg UInt8.toBitVec h
    simp only [UInt8.toBitVec_or] at h2
    have h3 : x.toBitVec = 0 ∧ y.toBitVec = 0 := by
      generalize x.toBitVec = p at *
      generalize y.toBitVec = q at *
      have h4 : p ||| q = 0#8 := h2
      exact ⟨by have := BitVec.or_eq_zero_iff.1 h4; exact this.1, by have := BitVec.or_eq_zero_iff.1 h4; exact this.2⟩
    exact ⟨UInt8.toBitVec_inj.1 h3.1, UInt8.toBitVec_inj.1 h3.2⟩
  · rintro ⟨rfl, rfl⟩; rfl
theorem u8_xor_zero (x y : UInt8) : x ^^^ y = 0 ↔ x = y := by
  constructor
  · intro h
    have h2 := congrArg UInt8.toBitVec h
    simp only [UInt8.toBitVec_xor] at h2
    have h4 : x.toBitVec ^^^ y.toBitVec = 0#8 := h2
    exact UInt8.toBitVec_inj.1 (BitVec.xor_eq_zero_iff.1 h4)
  · rintro rfl; simp
theorem diffTo_zero (a b : List UInt8) (k : Nat) : diffTo a b k = 0 ↔ ∀ i, i < k → a.getD i 0 = b.getD i 0 := by
  induction k with
  | zero => simp [diffTo]
  | succ k ih =>
    rw [diffTo, u8_or_zero, u8_xor_zero, ih]
    constructor
    · rintro ⟨h1, h2⟩ i hi
      by_cases e : i = k
      · rw [e]; exact h2
      · exact h1 i (by omega)
    · intro h
      exact ⟨fun i hi => h i (by omega), h k (by omega)⟩
theorem diffTo_same (a b : List UInt8) (hl : a.length = b.length) : diffTo a b a.length = 0 ↔ a = b := by
  rw [diffTo_zero]
  constructor
  · intro h
    apply List.ext_getElem hl
    intro i h1 h2
    have := h i h1
    simpa [List.getD_eq_getElem?_getD, List.getElem?_eq_getElem h1, List.getElem?_eq_getElem h2] using this
  · rintro rfl i _; rfl
theorem b_or (a b : UInt8) : bits .or .u8 (a.toNat : Int) (b.toNat : Int) = ((a ||| b).toNat : Int) := by
  rw [u8_or_nat _ _ (u8_lt a) (u8_lt b), UInt8.toNat_or]
theorem nat_zero (d : UInt8) : ((d.toNat : Int) == 0) = decide (d = 0) := by
  by_cases h : d = 0
  · subst h; rfl
  · have : d.toNat ≠ 0 := fun e => h (UInt8.toNat_inj.1 e)
    simp [h]; omega

set_option maxRecDepth 100000 in
set_option maxHeartbeats 1000000 in
theorem same_other (A A' : Option Addr) (c c' : Nat) (a b : List UInt8) (w : World) (hl : a.length ≠ b.length) :
    Calls Tryd.prog 66 #[.slice A a.length c, .slice A' b.length c'] w fun e w' => e = .returned (.bool false) ∧ ∃ k, w' = w.drewN k := by
  have h1 : ((a.length : Int) != (b.length : Int)) = true := by simp; omega
  go_enter Tryd.func66, Tryd.ntmps66
  go_wp2
  go_ret
  exact ⟨rfl, 0, rfl⟩
set_option maxRecDepth 100000 in
set_option maxHeartbeats 1000000 in
theorem same_none (A A' : Option Addr) (c c' : Nat) (w : World) :
    Calls Tryd.prog 66 #[.slice A 0 c, .slice A' 0 c'] w fun e w' => e = .returned (.bool true) ∧ ∃ k, w' = w.drewN k := by
  go_enter Tryd.func66, Tryd.ntmps66
  go_wp2
  refine wp_loop_rounds 1 ?_
  rw [rounds_succ]
  go_wp2
  go_ret
  exact ⟨rfl, 0, rfl⟩
set_option maxRecDepth 100000 in
set_option maxHeartbeats 1000000 in
theorem same_long (ga oa gb ob n c c' : Nat) (a b : List UInt8) (w : World) (hn : a.length = n) (hl : b.length = n) (hnc : n ≤ 9223372036854775807) (ha : Bytes w ga oa a) (hb : Bytes w gb ob b) :
    Calls Tryd.prog 66 #[.slice (some ⟨ga, oa, none⟩) n c, .slice (some ⟨gb, ob, none⟩) n c'] w fun e w' => e = .returned (.bool (decide (a = b))) ∧ ∃ k, w' = w.drewN k := by
  have HN := Lib.hid hn
  have HL := Lib.hid hl
  clear hn hl
  go_enter Tryd.func66, Tryd.ntmps66
  go_wp2
  go_loopw [5, 14] (fun d i wr => ∃ k q : Nat, k ≤ n ∧ i = .int .i64 (k : Int) ∧ d = .int .u8 ((diffTo a b k).toNat : Int) ∧ wr = w.drewN q) (fun _ i _ => n - (intOf i).toNat)
  case atStart => exact ⟨0, 0, by omega, rfl, rfl, rfl⟩
  case round =>
    obtain ⟨k, q, hk, rfl, rfl, rfl⟩ := hrel
    by_cases hlt : k < n
    · have h1 : (k : Int) < (n : Int) := by omega
      have c1 := ha k (by rw [HN.out]; exact hlt)
      have c2 := hb k (by rw [HL.out]; exact hlt)
      have HD := Lib.hid (show diffTo a b (k + 1) = diffTo a b k ||| (a.getD k 0 ^^^ b.getD k 0) from rfl)
      obtain ⟨x, hx⟩ : ∃ x, x = a.getD k 0 := ⟨_, rfl⟩
      obtain ⟨y, hy⟩ : ∃ y, y = b.getD k 0 := ⟨_, rfl⟩
      obtain ⟨d, hd⟩ : ∃ d, d = diffTo a b k := ⟨_, rfl⟩
      rw [← hx] at c1 HD
      rw [← hy] at c2 HD
      rw [← hd] at HD ⊢
      clear hx hy hd
      go_wp2
      go_quiet (fail)
      go_wp2
      go_roundw
      case rel =>
        refine ⟨k + 1, q + nq, by omega, by go_num, ?_, rfl⟩
        rw [HD.out, b_xor, b_or]
      case measure => simp [intOf]; omega
    · have h1 : ¬ (k : Int) < (n : Int) := by omega
      obtain rfl : k = n := by omega
      have HE := Lib.hid (diffTo_same a b (by rw [HN.out, HL.out]))
      obtain ⟨d, hd⟩ : ∃ d, d = diffTo a b k := ⟨_, rfl⟩
      rw [← hd]
      have HD := Lib.hid hd
      clear hd
      go_wp2
      go_ret
      refine ⟨?_, q, rfl⟩
      rw [nat_zero]
      have e : decide (d = 0) = decide (a = b) := by
        rw [decide_eq_decide, HD.out, ← HE.out, HN.out]
      rw [e]
      rfl
theorem same_any (A A' : Option Addr) (c c' B : Nat) (a b : List UInt8) (w : World) (ha : In w B A c a) (hb : In w B A' c' b) :
    Calls Tryd.prog 66 #[.slice A a.length c, .slice A' b.length c'] w fun e w' => e = .returned (.bool (decide (a = b))) ∧ ∃ k, w' = w.drewN k := by
  by_cases hl : a.length = b.length
  · rcases Nat.eq_zero_or_pos a.length with h0 | h0
    · have ea : a = [] := List.eq_nil_of_length_eq_zero h0
      have eb : b = [] := List.eq_nil_of_length_eq_zero (by omega)
      subst ea eb
      exact same_none A A' c c' w
    · obtain ⟨ga, oa, rfl, _, h1⟩ := ha.2.2 h0
      obtain ⟨gb, ob, rfl, _, h2⟩ := hb.2.2 (by omega)
      have := same_long ga oa gb ob a.length c c' a b w rfl hl.symm (by have := ha.1; have := ha.2.1; omega) h1 h2
      rw [← hl]
      exact this
  · have := same_other A A' c c' a b w hl
    rw [decide_eq_false (fun e => hl (by rw [e]))]
    exact this

end
end Go.Proofs.YtnjpcbbdhimacaaDoor
