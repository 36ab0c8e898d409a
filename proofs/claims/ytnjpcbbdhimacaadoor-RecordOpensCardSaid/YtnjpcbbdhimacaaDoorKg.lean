/-
 Joined: Gv, Gy, Gx.
-/
import Derived.Test.YtnjpcbbdhimacaaDoorKf
import Derived.Test.YtnjpcbbdhimacaaDoorJc
import Derived.Test.YtnjpcbbdhimacaaDoorJb
import Derived.Test.YtnjpcbbdhimacaaDoorJa
namespace Go.Proofs.YtnjpcbbdhimacaaDoor
section
open Go.RowKit
theorem byte_sh (n p : Nat) : Value.int .u8 ((n : Int) / 2 ^ p % 256) = B8 (UInt8.ofNat (n / 2 ^ p)) := by
 have h : ((n : Int) / 2 ^ p % 256) = ((UInt8.ofNat (n / 2 ^ p)).toNat : Int) := by simp
 rw [h]
/-- How many bits each part has. -/
def cntE (ps : List (List UInt8)) : List UInt8 := (ps.map fun p => be8 (p.length * 8)).flatten
theorem cntE_length (ps : List (List UInt8)) : (cntE ps).length = 8 * ps.length := by
 unfold cntE
 induction ps with
 | nil => rfl
 | cons p r ih => simp only [List.map_cons, List.flatten_cons, List.length_append, ih, be8_length, List.length_cons]; omega
theorem cntE_snoc (ps : List (List UInt8)) (k : Nat) (hk : k < ps.length) : cntE (ps.take (k + 1)) = cntE (ps.take k) ++ be8 ((ps.getD k []).length * 8) := by
 unfold cntE
 rw [List.take_succ_eq_append_getElem hk, List.map_append, List.flatten_append]
 simp [List.getD_eq_getElem?_getD, List.getElem?_eq_getElem hk]

set_option maxRecDepth 100000 in
set_option maxHeartbeats 1000000 in
theorem counts_e (A : Option Addr) (c : Nat) (ps : List (List UInt8)) (w : World) (hA : PIn w w.heap.size A c ps) (hl : ∀ k, k < ps.length → (ps.getD k []).length < 549755813888) (h9 : ps.length ≤ 9) :
  Calls Tryd.prog 80 #[.slice A ps.length c] w fun e w' => ∃ A' n' c', e = .returned (.slice A' n' c') ∧ n' = 8 * ps.length ∧ In w' w'.heap.size A' c' (cntE ps) ∧ Below w.heap.size w w' := by
 have HPS := Lib.hid hA
 have HLL := Lib.hid hl
 clear hA hl
 go_enter Tryd.func80, Tryd.ntmps80
 go_wp2
 go_loopw [3, 5, 6, 7, 10] (fun v _ _ _ i wr => ∃ (k m : Nat) (A' : Option Addr) (c' : Nat), k ≤ ps.length ∧ Hid (m = 8 * k) ∧ i = .int .i64 (k : Int) ∧ v = .slice A' m c' ∧ Buf wr w.heap.size A' m c' (cntE (ps.take k)) ∧ Below w.heap.size w wr) (fun _ _ _ _ i _ => ps.length - (intOf i).toNat)
 case atStart => exact ⟨0, 0, none, 0, by omega, by show _ = _; omega, rfl, rfl, by simpa [cntE] using Buf.nil w w.heap.size, Below.refl _ _⟩
 case round =>
  obtain ⟨k, m, A', c', hk, HM, rfl, rfl, hB, hb⟩ := hrel
  by_cases hlt : k < ps.length
  ·
   have hd1 : decide ((k : Int) < (ps.length : Int)) = true := by simp; omega
   have hk0 : (0 : Int) ≤ (k : Int) := by omega
   have hkl : (k : Int) < (ps.length : Int) := by omega
   obtain ⟨hpc, hpm, hpe⟩ := HPS.out.below hb
   obtain ⟨gp, op, rfl, hgp, hj⟩ := hpe (by omega)
   obtain ⟨Aj, cj, hc, hi⟩ := hj k hlt
   have hyl := HLL.out k hlt
   have HS := Lib.hid (cntE_snoc ps k hlt)
   obtain ⟨y, hy⟩ : ∃ y, y = ps.getD k [] := ⟨_, rfl⟩
   rw [← hy] at hc hyl HS
   clear hy hj hpe hi
   obtain ⟨N, hN⟩ : ∃ N, N = y.length * 8 := ⟨_, rfl⟩
   have hl8 : (((y.length : Int) * 8)) % 18446744073709551616 = (N : Int) := by omega
   have hl8' : IntKind.u64.wrap ((y.length : Int) * 8) = (N : Int) := by rw [IntKind.wrap_u64]; omega
   rw [← hN] at HS
   have HN := Lib.hid (show N < 4398046511104 by omega)
   clear hN
   obtain ⟨M, hM⟩ : ∃ M, M = cntE (ps.take k) := ⟨_, rfl⟩
   rw [← hM] at hB HS
   clear hM
   go_wp2
   have hbs := hb.size
   obtain ⟨wo, rfl⟩ : ∃ wo : World, wo = wr := ⟨_, rfl⟩
   clear hc hl8 hl8' hyl
   go_loopw [3, 7] (fun v i wr => ∃ (j : Nat) (A : Option Addr) (c : Nat) (q : Int), j ≤ 8 ∧ Hid (q = 56 - 8 * (j : Int)) ∧ i = .int .i64 q ∧ v = .slice A (m + j) c ∧ Buf wr w.heap.size A (m + j) c (M ++ (be8 N).take j) ∧ Below w.heap.size w wr) (fun v _ _ => m + 8 - lenOf v)
   case atStart => exact ⟨0, A', c', 56, by omega, by show _ = _; omega, rfl, rfl, by simpa using hB, hb⟩
   case round =>
    clear hB hb hbs
    obtain ⟨j, A, c, q, hj, HQ, rfl, rfl, hB, hb⟩ := hrel
    have hbs := hb.size
    by_cases hlt2 : j < 8
    ·
     obtain ⟨p, rfl⟩ : ∃ p : Nat, q = (p : Int) := ⟨(56 - 8 * j), by have := HQ.out; omega⟩
     have hp : p ≤ 56 := by have := HQ.out; omega
     have hd : decide ((p : Int) ≥ 0) = true := by simp
     have h0 : ¬ ((p : Int) < 0) := by omega
     have h1 : (0 : Int) ≤ (p : Int) := by omega
     have e1 : min p 64 = p := by omega
     have HT := Lib.hid (be8_take N j p hlt2 (by have := HQ.out; omega))
     have HLL := Lib.hid (show m + j + 1 ≤ 1099511627776 by have := HM.out; omega)
     go_wp2_with ((with_reducible refine (?_ : wpList _ _ _ (Oper.mk (some 28) _ _ _ _ _ :: _) _ _)); go_loud (refine wpList_append_buf rfl (.tmp 22) (.tmp 27) 24 rfl _ _ _ _ _ [UInt8.ofNat (N / 2 ^ p)] _ rfl (hB.alloc _) rfl (src_byte ((new_cell _ _ _).trans (congrArg some (byte_sh _ _)))) HLL.out (by simp <;> omega) ?_); intro A' c' w' hB' hg')
     go_roundw
     case rel =>
      refine ⟨j + 1, A', c', (p : Int) - 8, by omega, by show _ = _; have := HQ.out; omega, rfl, rfl, ?_, below_own (hb.alloc hbs _) (hB.alloc _) hg' (Nat.le_refl _) (by simp <;> omega)⟩
      rw [HT.out, ← List.append_assoc]
      exact hB'
     case measure => simp [lenOf]; omega
    ·
     have hj8 : j = 8 := by omega
     have hd : decide (q ≥ 0) = false := by have := HQ.out; simp; omega
     rw [hj8, be8_all, ← HS.out] at hB
     have HJ := Lib.hid hj8
     clear hj8 hj hlt2
     go_wp2
     go_roundw
     case rel => exact ⟨k + 1, m + j, A, c, by omega, (show _ = _ by have := HM.out; have := HJ.out; omega), by go_num, rfl, by rw [HJ.out]; exact hB, hb⟩
     case measure => simp [intOf]; omega
  ·
   have hd1 : decide ((k : Int) < (ps.length : Int)) = false := by simp; omega
   rw [List.take_of_length_le (by omega)] at hB
   have hin := hB.toIn (Nat.le_refl _)
   have HM2 := Lib.hid (show m = 8 * ps.length by have := HM.out; omega)
   clear hB HM
   go_wp2
   go_ret
   exact ⟨A', m, c', rfl, HM2.out, hin, hb⟩

end
section
open Go.RowKit
/-- The two words of an element that is sixteen bytes. -/
def elC (y : List UInt8) : List Value := [.int .u64 ((wordTo y 0 8).toNat : Int), .int .u64 ((wordTo y 8 8).toNat : Int)]
theorem elC_length (y : List UInt8) : (elC y).length = 2 := rfl
theorem elC_one (y : List UInt8) : (elC y).toArray.all (·.oneCell') = true := by simp [elC, Value.oneCell']
theorem elementOf_y (b : List UInt8) (hb : b.length = 16) (w : World) : Calls Tryd.prog 55 #[BV b] w fun e w' => e = .returned (.agg (elC b).toArray) ∧ Below w.heap.size w w' := elementOf_e b hb w
theorem plus_y (a b : List UInt8) (ha : a.length = 16) (hb : b.length = 16) (w : World) : Calls Tryd.prog 56 #[.agg (elC a).toArray, .agg (elC b).toArray] w fun e w' => e = .returned (.agg (elC (putE a b)).toArray) ∧ Below w.heap.size w w' := by
 have := plus_e (wordTo a 0 8) (wordTo a 8 8) (wordTo b 0 8) (wordTo b 8 8) w
 rw [← wordTo_put ha hb 0 (by decide), ← wordTo_put ha hb 8 (by decide)] at this
 exact this
theorem times_y (a b : List UInt8) (w : World) : Calls Tryd.prog 57 #[.agg (elC a).toArray, .agg (elC b).toArray] w fun e w' => e = .returned (.agg (elC (prodE a b)).toArray) ∧ Below w.heap.size w w' := by
 have := times_e (wordTo a 0 8) (wordTo a 8 8) (wordTo b 0 8) (wordTo b 8 8) w
 have e : elC (prodE a b) = [.int .u64 ((prodG a b).s0.toNat : Int), .int .u64 ((prodG a b).s1.toNat : Int)] := by unfold elC prodE; rw [word_hi, word_lo]
 rw [e]
 exact this
theorem bytes_y (y : List UInt8) (hy : y.length = 16) (w : World) : Calls Tryd.prog 58 #[.agg (elC y).toArray] w fun e w' => e = .returned (BV y) ∧ Below w.heap.size w w' := by
 have := bytes_e (wordTo y 0 8) (wordTo y 8 8) w
 rw [bytesE_words y hy] at this
 exact this

/-- A block that is filled up with noughts. -/
def padE (r : List UInt8) : List UInt8 := r.take 16 ++ zero16.drop (r.take 16).length
theorem padE_length (r : List UInt8) : (padE r).length = 16 := by
 unfold padE; rw [List.length_append, List.length_drop, List.length_take]; have : zero16.length = 16 := rfl; omega
theorem padE_splice (r : List UInt8) : splice (zero16.map B8) 0 ((r.take 16).map B8) = (padE r).map B8 := by
 rw [splice_eq, List.take_zero, List.nil_append, Nat.zero_add, List.length_map, ← List.map_drop, ← List.map_append]
 rfl
/-- What m blocks of a part make of an element. -/
def fStep (F y P : List UInt8) : Nat → List UInt8
 | 0 => y
 | m + 1 => prodE (putE (fStep F y P m) (padE (P.drop (16 * m)))) F
def gPart (F y P : List UInt8) : List UInt8 := fStep F y P ((P.length + 15) / 16)
def gFold (F : List UInt8) (ps : List (List UInt8)) : List UInt8 := ps.foldl (gPart F) zero16
theorem fStep_length {F y P : List UInt8} (hy : y.length = 16) (m : Nat) : (fStep F y P m).length = 16 := by
 cases m with
 | zero => exact hy
 | succ m => exact prodE_length _ _
theorem gPart_length {F y P : List UInt8} (hy : y.length = 16) : (gPart F y P).length = 16 := fStep_length hy _
theorem gFold_length (F : List UInt8) (ps : List (List UInt8)) : (gFold F ps).length = 16 := by
 unfold gFold
 have : ∀ (qs : List (List UInt8)) (y : List UInt8), y.length = 16 → (qs.foldl (gPart F) y).length = 16 := fun qs => by
  induction qs with
  | nil => exact fun y h => h
  | cons q r ih => exact fun y h => ih _ (gPart_length h)
 exact this ps zero16 rfl
theorem gFold_snoc (F : List UInt8) (ps : List (List UInt8)) (k : Nat) (hk : k < ps.length) : gFold F (ps.take (k + 1)) = gPart F (gFold F (ps.take k)) (ps.getD k []) := by
 unfold gFold
 rw [List.take_succ_eq_append_getElem hk, List.foldl_append]
 simp [List.getD_eq_getElem?_getD, List.getElem?_eq_getElem hk]

theorem In.copySrc {w : World} {B c : Nat} {A : Option Addr} {xs : List UInt8} (h : In w B A c xs) (k : Nat) (h0 : 0 < ((xs.take k).map B8).length) :
  ∃ gb ob, A = some ⟨gb, ob, none⟩ ∧ ∀ j v, ((xs.take k).map B8)[j]? = some v → w.cell? ⟨gb, ob + j, none⟩ = some v := by
 have hx : 0 < xs.length := by rw [List.length_map, List.length_take] at h0; omega
 obtain ⟨gb, ob, e, _, hby⟩ := h.2.2 hx
 refine ⟨gb, ob, e, fun j v hv => ?_⟩
 have hj : j < (xs.take k).length := by have := (List.getElem?_eq_some_iff.1 hv).1; simpa using this
 rw [getD_map8 _ j hj] at hv
 have hj2 : j < k ∧ j < xs.length := by rw [List.length_take] at hj; omega
 rw [← Option.some.inj hv]
 refine (hby j hj2.2).trans ?_
 simp [List.getD_eq_getElem?_getD, hj2.1, hj2.2]
theorem in_drop {w : World} {B gb ob c : Nat} {xs : List UInt8} (h : In w B (some ⟨gb, ob, none⟩) c xs) (k : Nat) (hk : k ≤ xs.length) :
  In w B (if c = k then some ⟨gb, ob, none⟩ else some ⟨gb, ob + k, none⟩) (c - k) (xs.drop k) :=
 ⟨by have := h.1; rw [List.length_drop]; omega, by have := h.2.1; omega, fun h0 => by
  rw [List.length_drop] at h0
  obtain ⟨g', o', e, hl, hby⟩ := h.2.2 (by omega)
  cases e
  have hc := h.1
  refine ⟨gb, ob + k, if_neg (by omega), hl, fun j hj => ?_⟩
  rw [List.length_drop] at hj
  have := hby (k + j) (by omega)
  rw [Nat.add_assoc, this]
  simp [List.getD_eq_getElem?_getD, List.getElem?_drop]⟩
theorem drop_block {P rest : List UInt8} {m n q : Nat} (h : rest = P.drop (16 * m)) (hn : rest.length = n) (hq : q = min 16 n) : rest.drop q = P.drop (16 * (m + 1)) := by
 have hl : rest.length = P.length - 16 * m := by rw [h, List.length_drop]
 rw [h, List.drop_drop]
 by_cases h16 : 16 ≤ n
 ·
  rw [show q = 16 by omega, show 16 * m + 16 = 16 * (m + 1) by omega]
 ·
  rw [List.drop_eq_nil_of_le (by omega), List.drop_eq_nil_of_le (by omega)]
/-- What stays while parts are folded. -/
structure FFr (w : World) (gf gy go : Nat) (F Y Z : List UInt8) (wr : World) : Prop where
 f : Blk wr gf 102 (elC F)
 y : Blk wr gy 102 (elC Y)
 r : Blk wr go 56 (Z.map B8)
 bw : Below w.heap.size w wr
theorem FFr.below {w wr W : World} {gf gy go : Nat} {F Y Z : List UInt8} (h : FFr w gf gy go F Y Z wr) (hb : Below wr.heap.size wr W) : FFr w gf gy go F Y Z W :=
 ⟨h.f.below hb h.f.lt, h.y.below hb h.y.lt, h.r.below hb h.r.lt, h.bw.trans (hb.mono h.bw.size)⟩
theorem FFr.set {w wr W : World} {gf gy go : Nat} {F Y Y' Z : List UInt8} (h : FFr w gf gy go F Y Z wr) (hg : wr.grownBy W (some gy)) (hy : Blk W gy 102 (elC Y')) (n1 : gf ≠ gy) (n2 : go ≠ gy) (n3 : w.heap.size ≤ gy) : FFr w gf gy go F Y' Z W :=
 ⟨h.f.grown hg (by simpa using n1), hy, h.r.grown hg (by simpa using n2), below_new h.bw hg n3 h.bw.size⟩

set_option maxRecDepth 100000 in
set_option maxHeartbeats 1000000 in
theorem fold_e (F : List UInt8) (A : Option Addr) (c : Nat) (ps : List (List UInt8)) (w : World) (hF16 : F.length = 16) (hA : PIn w w.heap.size A c ps) :
  Calls Tryd.prog 26 #[BV F, .slice A ps.length c] w fun e w' => e = .returned (BV (gFold F ps)) ∧ Below w.heap.size w w' := by
 have hz : ∀ W : World, (zeroValue 56).run Tryd.prog W = .ok (BV zero16) W := fun W => by kernel_rfl
 obtain ⟨Z, hZ⟩ : ∃ Z, Z = zero16 := ⟨_, rfl⟩
 have HZL := Lib.hid (show Z.length = 16 by rw [hZ]; rfl)
 rw [← hZ] at hz
 have hz2 : ∀ W : World, (zeroValue 102).run Tryd.prog W = .ok (.agg (elC zero16).toArray) W := fun W => by kernel_rfl
 obtain ⟨E0, hE0⟩ : ∃ E0, E0 = elC zero16 := ⟨_, rfl⟩
 have HEL := Lib.hid (show E0.length = 2 by rw [hE0]; rfl)
 rw [← hE0] at hz2
 have HE0 := Lib.hid hE0
 have HSP : Hid (∀ r : List UInt8, splice (Z.map B8) 0 ((r.take 16).map B8) = (padE r).map B8) := (fun r => by rw [hZ]; exact padE_splice r)
 have HF16 := Lib.hid hF16
 have HPS := Lib.hid hA
 clear hZ hE0 hF16 hA
 go_enter Tryd.func26, Tryd.ntmps26
 have hA0 : Blk ((w.alloc (.cells (F.map B8).toArray 56)).alloc (.cells (Z.map B8).toArray 56)) w.heap.size 56 (F.map B8) := (Blk.new_of w 56 _ (F.map B8) rfl).alloc _
 have hR0 := Blk.new2_of w (.cells (F.map B8).toArray 56) 56 (Z.map B8).toArray (Z.map B8) rfl
 have hbw := ((Below.refl w.heap.size w).alloc (Nat.le_refl _) (.cells (F.map B8).toArray 56)).alloc (by simp) (.cells (Z.map B8).toArray 56)
 go_wp2_with (first
  | ((with_reducible refine (?_ : wpList _ _ _ (Oper.mk (some 11) _ _ _ _ _ :: _) _ _)); go_loud (refine wpList_load_blk rfl 56 (.tmp 2) rfl (w.heap.size) rfl 56 _ _ hA0 Tryd.underlying56 rfl (infoBk.trans (by rw [List.length_map, HF16.out])) ?_))
  | (go_at_call 55; refine (elementOf_y F HF16.out _).mono ?_; rintro e w2 ⟨rfl, hb2⟩; have hR2 := hR0.below hb2 hR0.lt; have hbw2 := hbw.trans (hb2.mono hbw.size); clear hb2 hA0 hR0 hbw)
  | ((with_reducible refine (?_ : wpList _ _ _ (Oper.mk none (.store 102 (.tmp 5) _) _ _ _ _ :: _) _ _)); go_loud (refine wpList_store_blk rfl 102 (.tmp 5) (.tmp 12) rfl rfl (w2.heap.size) (elC F) rfl rfl 102 _ (Blk.new_of w2 102 _ E0 rfl) infoEl (by first | rfl | exact HEL.out) (elC_one _) ?_); intro w3 hf3 hg3))
 have hb3 := below_new ((Below.refl w2.heap.size w2).alloc (Nat.le_refl _) _) hg3 (Nat.le_refl _) (by simp)
 have hF0 : FFr w w2.heap.size w3.heap.size (w.heap.size + 1) F zero16 Z (w3.alloc (.cells E0.toArray 102)) := ⟨hf3.alloc _, Blk.new_of w3 102 _ _ (by rw [HE0.out]), (hR2.below hb3 hR2.lt).alloc _, (hbw2.trans (hb3.mono hbw2.size)).alloc (hbw2.trans (hb3.mono hbw2.size)).size _⟩
 have hne : w2.heap.size ≠ w3.heap.size ∧ w.heap.size + 1 ≠ w3.heap.size ∧ w.heap.size ≤ w3.heap.size := by
  have h1 := hf3.lt
  have h2 := hR2.lt
  have h3 := hb3.size
  omega
 clear hb3 hg3 hf3 hR2 hbw2 hz2
 generalize w3.alloc (.cells E0.toArray 102) = w4 at *
 generalize w2.heap.size = gf at *
 generalize w3.heap.size = gy at *
 have hle : w.heap.size ≤ w.heap.size + 1 := by omega
 generalize w.heap.size + 1 = go at *
 go_loopw [8, 9, 10, 15] (fun _ _ _ i wr => ∃ (k : Nat) (Y : List UInt8), k ≤ ps.length ∧ i = .int .i64 (k : Int) ∧ Hid (Y = gFold F (ps.take k)) ∧ FFr w gf gy go F Y Z wr) (fun _ _ _ i _ => ps.length - (intOf i).toNat)
 case atStart => exact ⟨0, zero16, by omega, rfl, by show _ = _; rfl, hF0⟩
 case round =>
  clear hF0
  obtain ⟨k, Y, hk, rfl, HY, hF⟩ := hrel
  by_cases hlt : k < ps.length
  ·
   have hd1 : decide ((k : Int) < (ps.length : Int)) = true := by simp; omega
   have hk0 : (0 : Int) ≤ (k : Int) := by omega
   have hkl : (k : Int) < (ps.length : Int) := by omega
   obtain ⟨hpc, hpm, hpe⟩ := HPS.out.below hF.bw
   obtain ⟨gp, op, rfl, hgp, hj⟩ := hpe (by omega)
   obtain ⟨Aj, cj, hc, hi⟩ := hj k hlt
   have HN := Lib.hid (gFold_snoc F ps k hlt)
   obtain ⟨P, hP⟩ : ∃ P, P = ps.getD k [] := ⟨_, rfl⟩
   rw [← hP, ← HY.out] at HN
   rw [← hP] at hc hi
   have HYL := Lib.hid (show Y.length = 16 by rw [HY.out]; exact gFold_length _ _)
   obtain ⟨Y0, hY0⟩ : ∃ Y0, Y0 = Y := ⟨_, rfl⟩
   rw [← hY0] at HN
   have HY0 := Lib.hid hY0
   clear hP hj hpe HY hY0
   have HI := Lib.hid hi
   have HFF := Lib.hid hF
   clear hi hF
   go_wp2
   obtain ⟨wo, rfl⟩ : ∃ wo : World, wo = wr := ⟨_, rfl⟩
   have hF := HFF.out
   have hi := HI.out
   clear hc HFF HI
   go_loopw [8, 9, 10] (fun v _ _ wr => ∃ (m n' c' : Nat) (rest Y : List UInt8) (A' : Option Addr), v = .slice A' n' c' ∧ rest.length = n' ∧ Hid (rest = P.drop (16 * m) ∧ m ≤ (P.length + 15) / 16 ∧ Y = fStep F Y0 P m ∧ Y.length = 16) ∧ In wr w.heap.size A' c' rest ∧ FFr w gf gy go F Y Z wr) (fun v _ _ _ => lenOf v)
   case atStart => exact ⟨0, P.length, cj, P, Y, Aj, rfl, rfl, by refine ⟨by simp, by omega, HY0.out.symm, HYL.out⟩, hi, hF⟩
   case round =>
    clear hF hi HYL HY0
    obtain ⟨m, n', c', rest, Y, A', rfl, hrl, HR, hI, hF⟩ := hrel
    by_cases hpos : 0 < n'
    ·
     have hd2 : decide ((n' : Int) > 0) = true := by simp; omega
     obtain ⟨gb, ob, rfl, hgb, hby⟩ := id (hI.2.2 (by omega))
     have HYL := Lib.hid HR.out.2.2.2
     have hFs := hF.bw.size
     have hIa := hI.below ((Below.refl w.heap.size wr).alloc hFs (.cells (Z.map B8).toArray 56))
     go_wp2_with ((with_reducible refine (?_ : wpList _ _ _ (Oper.mk (some 24) _ _ _ _ _ :: _) _ _)); go_loud (refine wpList_copy_blk rfl (.tmp 22) (.tmp 23) 24 24 rfl 5 Tryd.underlying24 info8 _ _ _ _ _ _ rfl rfl wr.heap.size 0 (Z.map B8) 56 (Blk.new_of wr 56 _ _ rfl) ((rest.take 16).map B8) (by rw [List.length_map, List.length_take, hrl]; exact Nat.min_comm _ _) (fun h0 => ⟨rfl, hIa.copySrc 16 h0⟩) (by rw [List.length_map, List.length_map, HZL.out, List.length_take]; omega) (oneB8 _) ?_); intro w5 hP5 hg5)
     rw [HSP.out] at hP5
     have hP := hP5
     clear hP5
     have hb5 := below_new ((Below.refl wr.heap.size wr).alloc (Nat.le_refl _) _) hg5 (Nat.le_refl _) (by simp)
     replace hF := hF.below hb5
     replace hI := hI.below (hb5.mono hFs)
     replace hFs := hF.bw.size
     obtain ⟨q, hq⟩ : ∃ q, q = min 16 n' := ⟨_, rfl⟩
     rw [← hq]
     have HQ := Lib.hid hq
     have hcn := hI.1
     have hq1 : (q : Int) ≤ (n' : Int) := by omega
     have hq3 : (n' : Int) ≤ (c' : Int) := by omega
     have hq4 : (0 : Int) ≤ (q : Int) := by omega
     generalize wr.heap.size = gz at *
     clear hq hcn hb5 hg5 hIa hby hgb hd2 hz
     apply wp_region_once_tail (m := 6) (Z := []) (D := [[], [], [1], [0, 1, 2], [], [0, 1, 2, 3, 4], [0, 1, 2, 3, 4, 5]]) (J := [[], [], [1], [0, 2], [], [3, 4]]) (Je := [5]) (Rs := [Is _, Is _, Is _, Is _, Is _, Is _])
     ·
      kernel_rfl
     ·
      kernel_rfl
     ·
      kernel_rfl
     ·
      kernel_rfl
     ·
      kernel_rfl
     ·
      kernel_rfl
     ·
      kernel_rfl
     ·
      exact fun h => absurd rfl h
     ·
      intro u
      simp only [List.take_succ_cons, List.take_zero, List.map_cons, List.map_nil, fillU, List.setIfInBounds_toArray, List.set_cons_zero, List.set_cons_succ, Nat.zero_add, Nat.reduceAdd]
      exact rfl
     ·
      simp only [List.take_succ_cons, List.take_zero]
      refine ⟨fun u W hb hd K hK => ?_, ?_⟩
      ·
       clear hd
       rw [if_pos (by rfl)]
       refine wp_load_mid 102 (.tmp 6) rfl (gy) 0 rfl (elC Y) _ (rangeAt_blk (hF.y.below hb hF.y.lt)) Tryd.underlying102 rfl infoEl ?_
       exact hK _ _ _ rfl (Below.refl _ _) IsOut
      refine ⟨fun u W hb hd K hK => ?_, ?_⟩
      ·
       clear hd
       rw [if_pos (by rfl)]
       refine wp_load_mid 56 (.tmp 9) rfl (gz) 0 rfl ((padE rest).map B8) _ (rangeAt_blk (hP.below hb hP.lt)) Tryd.underlying56 rfl (infoBk.trans (by rw [List.length_map, padE_length])) ?_
       exact hK _ _ _ rfl (Below.refl _ _) IsOut
      refine ⟨fun u W hb hd K hK => ?_, ?_⟩
      ·
       simp only [Facts, nthR, Is, and_true] at hd
       simp only [hd] at hK ⊢
       clear hd
       go_simp
       refine (elementOf_y _ (padE_length _) W).mono ?_
       rintro e wy ⟨rfl, hby⟩
       exact hK _ _ _ rfl hby IsOut
      refine ⟨fun u W hb hd K hK => ?_, ?_⟩
      ·
       simp only [Facts, nthR, Is, and_true] at hd
       simp only [hd] at hK ⊢
       clear hd
       go_simp
       refine (plus_y _ _ HYL.out (padE_length _) W).mono ?_
       rintro e wy ⟨rfl, hby⟩
       exact hK _ _ _ rfl hby IsOut
      refine ⟨fun u W hb hd K hK => ?_, ?_⟩
      ·
       clear hd
       rw [if_pos (by rfl)]
       refine wp_load_mid 102 (.tmp 5) rfl (gf) 0 rfl (elC F) _ (rangeAt_blk (hF.f.below hb hF.f.lt)) Tryd.underlying102 rfl infoEl ?_
       exact hK _ _ _ rfl (Below.refl _ _) IsOut
      refine ⟨fun u W hb hd K hK => ?_, ?_⟩
      ·
       simp only [Facts, nthR, Is, and_true] at hd
       simp only [hd] at hK ⊢
       clear hd
       go_simp
       refine (times_y _ _ W).mono ?_
       rintro e wy ⟨rfl, hby⟩
       exact hK _ _ _ rfl hby IsOut
      exact trivial
     ·
      skip
      exact trivial
     ·
      exact (.is (.is (.is (.is (.is (.is .nil))))))
     ·
      intro u W hb hd
      simp only [List.drop_succ_cons, List.drop_zero]
      simp only [Facts, nthR, Is, and_true] at hd
      simp only [hd]
      clear hd
      replace hF := hF.below hb
      replace hI := hI.below (hb.mono hFs)
      clear hb hP
      go_wp2_with ((with_reducible refine (?_ : wpList _ _ _ (Oper.mk none (.store 102 (.tmp 6) _) _ _ _ _ :: _) _ _)); go_loud (refine wpList_store_blk rfl 102 (.tmp 6) (.tmp 30) rfl rfl (gy) (elC (prodE (putE Y (padE rest)) F)) rfl rfl 102 _ hF.y infoEl (by first | rfl | exact HEL.out) (elC_one _) ?_); intro w7 hy7 hg7)
      have hF7 := hF.set hg7 hy7 hne.1 hne.2.1 hne.2.2
      replace hI := hI.below (grown_below hg7 hne.2.2 hF.bw.size)
      go_wp2
      go_roundw
      case rel =>
       refine ⟨m + 1, n' - q, c' - q, rest.drop q, prodE (putE Y (padE rest)) F, _, rfl, by rw [List.length_drop, hrl], ⟨drop_block HR.out.1 hrl HQ.out, ?_, by rw [HR.out.2.2.1, HR.out.1]; rfl, prodE_length _ _⟩, in_drop hI q (by rw [hrl]; have := HQ.out; omega), hF7⟩
       have := congrArg List.length HR.out.1
       rw [List.length_drop, hrl] at this
       omega
      case measure => have := HQ.out; simp [lenOf]; omega
    ·
     have hd2 : decide ((0 : Int) < (n' : Int)) = false := by simp; omega
     have HY2 : Hid (Y = gFold F (ps.take (k + 1))) := (show _ = _ by
      have h1 := congrArg List.length HR.out.1
      rw [List.length_drop, hrl] at h1
      have h2 : m = (P.length + 15) / 16 := by have := HR.out.2.1; omega
      rw [HN.out, HR.out.2.2.1, h2]
      rfl)
     obtain rfl : n' = 0 := by omega
     clear HN HR hI hrl hpos hd2
     go_wp2
     go_roundw
     case rel => exact ⟨k + 1, Y, by omega, by go_num, HY2, hF⟩
     case measure => simp [intOf]; omega
  ·
   have hd1 : decide ((k : Int) < (ps.length : Int)) = false := by simp; omega
   rw [List.take_of_length_le (by omega)] at HY
   have HYL := Lib.hid (show Y.length = 16 by rw [HY.out]; exact gFold_length _ _)
   have hFy := hF.y
   have hFr := hF.r
   have hFw := hF.bw
   clear hF
   go_wp2_with (first
    | ((with_reducible refine (?_ : wpList _ _ _ (Oper.mk (some 35) _ _ _ _ _ :: _) _ _)); go_loud (refine wpList_load_blk rfl 102 (.tmp 6) rfl gy rfl 102 _ _ hFy Tryd.underlying102 rfl infoEl ?_))
    | (go_at_call 58; refine (bytes_y Y HYL.out _).mono ?_; rintro e w9 ⟨rfl, hb9⟩; replace hFr := hFr.below hb9 hFr.lt; replace hFw := hFw.trans (hb9.mono hFw.size))
    | ((with_reducible refine (?_ : wpList _ _ _ (Oper.mk none (.store 56 (.tmp 4) _) _ _ _ _ :: _) _ _)); go_loud (refine wpList_store_blk rfl 56 (.tmp 4) (.tmp 36) rfl rfl (go) _ rfl rfl 56 _ hFr (infoBk.trans (by rw [List.length_map, HYL.out])) (by rw [List.length_map, List.length_map, HYL.out, HZL.out]) (one8 _) ?_); intro w7 hR7 hg7))
   refine bodyPost_ret (v := .agg _) (results_cell_row rfl _ _ (go) 56 _ (0, 0) _ rfl hR7.raw Tryd.underlying56 rfl (infoBk.trans (by rw [List.size_toArray, List.length_map, HYL.out]))) rfl ⟨by rw [HY.out], below_new hFw hg7 hle hFw.size⟩

end
section
open Go.RowKit
/-- What bytes become, hidden or plain. -/
def padAt (L : List UInt32) (R : Nat) (N : List UInt8) (i : Nat) : UInt8 := (sealS L R (ctrE N (2 + i / 16))).getD (i % 16) 0
def maskE (L : List UInt32) (R : Nat) (N P : List UInt8) : List UInt8 := (List.range P.length).map fun i => P.getD i 0 ^^^ padAt L R N i
theorem maskE_length (L : List UInt32) (R : Nat) (N P : List UInt8) : (maskE L R N P).length = P.length := by simp [maskE]
theorem maskE_get (L : List UInt32) (R : Nat) (N P : List UInt8) (i : Nat) (hi : i < P.length) : (maskE L R N P).getD i 0 = P.getD i 0 ^^^ padAt L R N i := by
 simp [maskE, List.getD_eq_getElem?_getD, hi]
theorem padAt_blk (L : List UInt32) (R : Nat) (N : List UInt8) (m j : Nat) (hj : j < 16) : padAt L R N (16 * m + j) = (sealS L R (ctrE N (2 + m))).getD j 0 := by
 unfold padAt
 rw [show (16 * m + j) / 16 = m by omega, show (16 * m + j) % 16 = j by omega]
theorem set_up (X Q : List UInt8) (k : Nat) (hX : k < X.length) (hQ : k < Q.length) : (X.take k ++ Q.drop k).set k (X.getD k 0) = X.take (k + 1) ++ Q.drop (k + 1) := by
 have hl : (X.take k).length = k := by rw [List.length_take]; omega
 rw [List.set_append_right _ _ (by omega), hl, Nat.sub_self, List.drop_eq_getElem_cons hQ, List.set_cons_zero, List.take_succ_eq_append_getElem hX, List.append_assoc]
 simp [List.getD_eq_getElem?_getD, List.getElem?_eq_getElem hX]
theorem mid_len (X Q : List UInt8) (k : Nat) (hX : k ≤ X.length) (hQ : k ≤ Q.length) : (X.take k ++ Q.drop k).length = Q.length := by
 rw [List.length_append, List.length_take, List.length_drop]; omega
theorem ix_m (p m n : Nat) (hp : p = 16 * m) (hn : p < n) (hn2 : n < 1000000000) : (p : Int) / 16 = (m : Int) ∧ (p : Int).tdiv 16 = (m : Int) ∧ wrap64 (2 + (m : Int)) = ((2 + m : Nat) : Int) ∧ (2 : Int) + (m : Int) = ((2 + m : Nat) : Int) ∧ IntKind.u32.wrap ((2 + m : Nat) : Int) = ((2 + m : Nat) : Int) ∧ ((2 + m : Nat) : Int) % 4294967296 = ((2 + m : Nat) : Int) ∧ wrap64 ((p : Int) + 16) = ((p + 16 : Nat) : Int) ∧ (p : Int) + 16 = ((p + 16 : Nat) : Int) := by
 subst hp
 have h0 : (((16 * m : Nat) : Int)) / 16 = (m : Int) := by omega
 refine ⟨h0, ?_, ?_, ?_, ?_, ?_, ?_, ?_⟩
 ·
  rw [Int.tdiv_eq_ediv_of_nonneg (by omega)]; exact h0
 all_goals first | (unfold wrap64; omega) | (rw [IntKind.wrap_u32]; omega) | omega
theorem ix_q (p j q n : Nat) (h : q = p + j) (hn : q < n) (hn2 : n < 1000000000) : (p : Int) + (j : Int) = (q : Int) ∧ wrap64 ((p : Int) + (j : Int)) = (q : Int) ∧ (0 : Int) ≤ (q : Int) := by
 subst h
 refine ⟨by omega, by unfold wrap64; omega, by omega⟩
theorem ix_min (p n l : Nat) (hp : p < n) (hl : l = min 16 (n - p)) : min (((p + 16 : Nat) : Int)) (n : Int) = ((p + l : Nat) : Int) ∧ min (p + 16) n = p + l ∧ p + l - p = l ∧ (p : Int) ≤ ((p + l : Nat) : Int) ∧ ((p + l : Nat) : Int) ≤ (n : Int) ∧ p ≤ p + l ∧ p + l ≤ n ∧ (((p + l : Nat) : Int)).toNat = p + l := by
 subst hl
 refine ⟨?_, ?_, ?_, ?_, ?_, ?_, ?_, ?_⟩ <;> omega

set_option maxRecDepth 100000 in
set_option maxHeartbeats 1000000 in
theorem mask_e (gx gk gr R gt ct n B cA : Nat) (A : Option Addr) (L : List UInt32) (N P Q : List UInt8) (w : World) (hx : BoxAt w gx gk gr R L) (n1 : gx ≠ gt) (n2 : gk ≠ gt) (n3 : gr ≠ gt) (hN : N.length = 12) (hP : P.length = n)
  (iP : In w B A cA P) (hB : B ≤ gt) (hBw : B ≤ w.heap.size) (hT : Blk w gt 5 (Q.map B8)) (hQ : n ≤ Q.length) (_hQc : Q.length ≤ ct) (hn : n < 1000000000) :
  Calls Tryd.prog 60 #[.pointer (some ⟨gx, 0, none⟩), .slice (some ⟨gt, 0, none⟩) n ct, .slice A n cA, BV N] w fun e w' => e = .returned (.tuple #[]) ∧ Blk w' gt 5 ((maskE L R N P ++ Q.drop n).map B8) ∧ w.grownBy w' (some gt) := by
 have hXl := maskE_length L R N P
 have hXg := maskE_get L R N P
 obtain ⟨X, hX⟩ : ∃ X, X = maskE L R N P := ⟨_, rfl⟩
 rw [← hX] at hXl hXg ⊢
 rw [hP] at hXl
 have hX0 : X.take 0 ++ Q.drop (min 0 n) = Q := by simp
 have hz : ∀ W : World, (zeroValue 56).run Tryd.prog W = .ok (BV zero16) W := fun W => by kernel_rfl
 obtain ⟨Z, hZ⟩ : ∃ Z, Z = zero16 := ⟨_, rfl⟩
 have HZL := Lib.hid (show Z.length = 16 by rw [hZ]; rfl)
 rw [← hZ] at hz
 have HBX := Lib.hid hx
 have HXL := Lib.hid hXl
 have HXG := Lib.hid hXg
 have HPL := Lib.hid hP
 have HN := Lib.hid hN
 have HQL := Lib.hid hQ
 have HIP := Lib.hid iP
 have hgt := hT.lt
 clear hx hXl hXg hP hN hQ hX hZ iP
 go_enter Tryd.func60, Tryd.ntmps60
 have hNw := Blk.new_of w 48 _ (N.map B8) rfl
 have hg0 : w.grownBy (w.alloc (.cells (N.map B8).toArray 48)) (some gt) := grown_alloc (grown_refl _ _) _
 have hT0 := hT.alloc (.cells (N.map B8).toArray 48)
 rw [← hX0] at hT0
 have hngt : w.heap.size ≠ gt := by omega
 go_wp2
 clear hX0 hT
 obtain ⟨w1, hw1⟩ : ∃ w1, w1 = w.alloc (.cells (N.map B8).toArray 48) := ⟨_, rfl⟩
 rw [← hw1] at hNw hT0 hg0 ⊢
 have hg1 : w1.grownBy w1 (some gt) := grown_refl _ _
 have HG0 := Lib.hid hg0
 have HNW := Lib.hid hNw
 clear hw1 hg0 hNw
 go_loopw [8, 9, 10, 11] (fun i _ _ _ wr => ∃ (m p : Nat), Hid (p = 16 * m) ∧ Hid (p < n + 16) ∧ i = .int .i64 (p : Int) ∧ Blk wr gt 5 ((X.take p ++ Q.drop (min p n)).map B8) ∧ w1.grownBy wr (some gt)) (fun i _ _ _ _ => n + 16 - (intOf i).toNat)
 case atStart => exact ⟨0, 0, by show _ = _; rfl, by show _ < _; omega, rfl, hT0, hg1⟩
 case round =>
  clear hT0 hg1
  obtain ⟨m, p, HP, HPn, rfl, hT, hg⟩ := hrel
  by_cases hlt : p < n
  ·
   have hd1 : decide ((p : Int) < (n : Int)) = true := by simp; omega
   have hgw := grown_trans HG0.out hg
   have hbx := HBX.out.grown hgw n1 n2 n3
   have hNr := HNW.out.grown hg (by simpa using hngt)
   have hin := HIP.out.below (grown_below hgw hB hBw)
   obtain ⟨gb, ob, rfl, hgb, hby⟩ := hin.2.2 (by rw [HPL.out]; omega)
   have hcA := hin.1
   rw [HPL.out] at hcA
   obtain ⟨l, hl⟩ : ∃ l, l = min 16 (n - p) := ⟨_, rfl⟩
   have HPT := Lib.hid (show p + 16 = 16 * (m + 1) by have := HP.out; omega)
   have hA8 := Lib.hid (ix_m p m n HP.out hlt hn)
   have hB8 := Lib.hid (ix_min p n l hlt hl)
   have hci := cipher_e gx gk gr R (2 + m) L N wr hbx HN.out (by have := HP.out; omega)
   have hcp : ¬ cA = p := by omega
   have hSl := sealS_length L R (ctrE N (2 + m))
   have hpd := padAt_blk L R N m
   rw [← HP.out] at hpd
   generalize sealS L R (ctrE N (2 + m)) = C at *
   have HCL := Lib.hid hSl
   have HPD := Lib.hid hpd
   have HL := Lib.hid hl
   have HIN := Lib.hid hin
   have HBY := Lib.hid hby
   rw [show min p n = p by omega] at hT
   have hpc : (p : Int) ≤ (cA : Int) := by omega
   have hp0 : (0 : Int) ≤ (p : Int) := by omega
   have hplc : ((p + l : Nat) : Int) ≤ (cA : Int) := by omega
   clear hSl hpd hl hin hby hbx hgw
   obtain ⟨a1, a2, a3, a4, a5, a6, a7, a8⟩ := hA8.out
   obtain ⟨b1, b2, b3, b4, b5, b6, b7, b8⟩ := hB8.out
   clear hA8 hB8
   generalize 2 + m = m2 at *
   generalize hpl : p + l = pl at *
   have B1 := Lib.hid (And.intro b1 (And.intro b2 (And.intro b4 (And.intro b5 b8))))
   have HPL2 := Lib.hid hpl
   have HB3 := Lib.hid (show pl - p = l from b3)
   have A7 := Lib.hid (And.intro a7 a8)
   clear b1 b2 b3 b4 b5 b6 b7 b8 hpl a7 a8
   go_upto_region 5 with (first
    | ((with_reducible refine (?_ : wpList _ _ _ (Oper.mk (some 19) _ _ _ _ _ :: _) _ _)); go_loud (refine wpList_load_blk rfl 48 (.tmp 7) rfl (w.heap.size) rfl 48 _ _ hNr Tryd.underlying48 rfl (info12.trans (by rw [List.length_map, HN.out])) ?_))
    | (go_at_call 79; refine hci.mono ?_; rintro e w2 ⟨rfl, hb2⟩; have hT2 := hT.below hb2 hT.lt; have hg2 := grown_trans hg (grown_of_below hb2 (some gt)); clear hb2 hci hT hg hNr)
    | ((with_reducible refine (?_ : wpList _ _ _ (Oper.mk none (.store 56 (.tmp 9) _) _ _ _ _ :: _) _ _)); go_loud (refine wpList_store_blk rfl 56 (.tmp 9) (.tmp 24) rfl rfl (w2.heap.size) _ rfl rfl 56 _ (Blk.new_of w2 56 _ _ rfl) (infoBk.trans (by rw [List.length_map, HCL.out])) (by rw [List.length_map, List.length_map, HCL.out, HZL.out]) (one8 _) ?_); intro w3 hC3 hg3))
   have hb3 := below_new ((Below.refl w2.heap.size w2).alloc (Nat.le_refl _) _) hg3 (Nat.le_refl _) (by simp)
   have hT3 := hT2.below hb3 hT2.lt
   have hgr := grown_trans hg2 (grown_of_below hb3 (some gt))
   have hngc : w2.heap.size ≠ gt := by have := hT2.lt; omega
   clear hT2 hg2 hb3 hg3 a1 a2 a3 a4 a5 a6 hz
   generalize w2.heap.size = gc at *
   obtain ⟨b1, b2, b4, b5, b8⟩ := B1.out
   obtain ⟨a7, a8⟩ := A7.out
   have b3 := HB3.out
   clear B1 A7
   generalize p + 16 = p16 at *
   go_wp2
   have B2 := Lib.hid b2
   have A7 := Lib.hid (And.intro a7 a8)
   clear b1 b2 b3 b4 b5 b8 a7 a8 hpc hplc hcp HB3 hcA
   go_loopw [10, 11, 34] (fun _ _ i wx => ∃ j : Nat, j ≤ l ∧ i = .int .i64 (j : Int) ∧ Blk wx gc 56 (C.map B8) ∧ Blk wx gt 5 ((X.take (p + j) ++ Q.drop (p + j)).map B8) ∧ w1.grownBy wx (some gt)) (fun _ _ i _ => l - (intOf i).toNat)
   case atStart => exact ⟨0, by omega, rfl, hC3, hT3, hgr⟩
   case round =>
    clear hC3 hT3 hgr
    obtain ⟨j, hj, rfl, hC, hT, hg⟩ := hrel
    have hll := HL.out
    by_cases hjl : j < l
    ·
     have hd2 : decide ((j : Int) < (l : Int)) = true := by simp; omega
     have hj16 : j < 16 := by omega
     obtain ⟨q, hq⟩ : ∃ q, q = p + j := ⟨_, rfl⟩
     have hqn : q < n := by omega
     have hin := HIP.out.below (grown_below (grown_trans HG0.out hg) hB hBw)
     obtain ⟨gb', ob', e, _, hby⟩ := hin.2.2 (by rw [HPL.out]; omega)
     cases e
     have hc1 := hby q (by rw [HPL.out]; exact hqn)
     have hx := HXG.out q (by rw [HPL.out]; exact hqn)
     have hpd := HPD.out j hj16
     have hlen := mid_len X Q q (by rw [HXL.out]; omega) (by have := HQL.out; omega)
     have hst := set_up X Q q (by rw [HXL.out]; omega) (by have := HQL.out; omega)
     rw [← hq] at hT hpd
     have hct := hT.at8 q (by rw [hlen]; have := HQL.out; omega)
     have hf := hT.frozen q
     have hcC := hC.at8 j (by rw [HCL.out]; exact hj16)
     have hcS := hC.far (p := ⟨gt, q, none⟩) (by simpa using hngc) (B8 (X.getD q 0))
     have hT2 := hT.set_ q (B8 (X.getD q 0))
     rw [map_set8, hst] at hT2
     have hg2 := grown_setCell hg (p := ⟨gt, q, none⟩) (.inl rfl) (B8 (X.getD q 0))
     have hxx := b_xor (P.getD q 0) (C.getD j 0)
     rw [← hpd, ← hx, hpd] at hxx
     rw [hq, show p + j + 1 = p + (j + 1) from rfl, ← hq] at hT2
     rw [hq, ← Nat.add_assoc, ← hq] at hc1
     have hqi : (q : Int) < (n : Int) := by omega
     have hj0 : (0 : Int) ≤ (j : Int) := by omega
     have hji : (j : Int) < (l : Int) := by omega
     have hji16 : (j : Int) < 16 := by omega
     obtain ⟨hw0, -, hq0⟩ := ix_q p j q n hq hqn hn
     have HT2 := Lib.hid hT2
     have HCS := Lib.hid hcS
     have HG2 := Lib.hid hg2
     generalize P.getD q 0 = y1 at *
     generalize C.getD j 0 = y2 at *
     generalize X.getD q 0 = y3 at *
     clear hT2 hcS hg2 hpd hx hlen hst hby hin hT hC hg hll hq hj16 hqn
     go_wp2
     go_roundw
     case rel => exact ⟨j + 1, by omega, by go_num, HCS.out, HT2.out, HG2.out⟩
     case measure => simp [intOf]; omega
    ·
     have hd2 : decide ((j : Int) < (l : Int)) = false := by simp; omega
     have hjl2 : p + j = pl := by have := HPL2.out; omega
     rw [hjl2] at hT
     have hTT : Hid (Blk wr gt 5 ((X.take p16 ++ Q.drop (min p16 n)).map B8)) := (by
      have hm := B2.out
      rw [show X.take p16 = X.take pl from (List.take_eq_take_iff.2 (by rw [HXL.out]; omega)), hm]
      exact hT)
     have HG := Lib.hid hg
     clear hT hC hg hll hjl2
     obtain ⟨-, a8⟩ := A7.out
     go_wp2
     go_roundw
     case rel => exact ⟨m + 1, p16, HPT.out, (show _ < _ by omega), rfl, hTT.out, HG.out⟩
     case measure => simp [intOf]; omega
  ·
   have hd1 : decide ((p : Int) < (n : Int)) = false := by simp; omega
   rw [show min p n = n by omega, List.take_of_length_le (by rw [HXL.out]; omega)] at hT
   have hgg := grown_trans HG0.out hg
   go_wp2
   go_end0
   exact ⟨rfl, hT, hgg⟩

end
end Go.Proofs.YtnjpcbbdhimacaaDoor
