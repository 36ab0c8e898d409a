/-
  The contract of package gcm's Fold.
-/
import Derived.Test.YtefbjhdcmgonbaaGv
namespace Go.Proofs.Ytefbjhdcmgonbaa
open Go.RowKit

/-- The two words of an element that is sixteen bytes. -/
def elC (y : List UInt8) : List Value := [.int .u64 ((wordTo y 0 8).toNat : Int), .int .u64 ((wordTo y 8 8).toNat : Int)]
theorem elC_length (y : List UInt8) : (elC y).length = 2 := rfl
theorem elC_one (y : List UInt8) : (elC y).toArray.all (·.oneCell') = true := by simp [elC, Value.oneCell']
theorem elementOf_y (b : List UInt8) (hb : b.length = 16) (w : World) : Calls Try.prog 57 #[BV b] w fun e w' => e = .returned (.agg (elC b).toArray) ∧ Below w.heap.size w w' := elementOf_e b hb w
theorem plus_y (a b : List UInt8) (ha : a.length = 16) (hb : b.length = 16) (w : World) : Calls Try.prog 58 #[.agg (elC a).toArray, .agg (elC b).toArray] w fun e w' => e = .returned (.agg (elC (putE a b)).toArray) ∧ Below w.heap.size w w' := by
  have := plus_e (wordTo a 0 8) (wordTo a 8 8) (wordTo b 0 8) (wordTo b 8 8) w
  rw [← wordTo_put ha hb 0 (by decide), ← wordTo_put ha hb 8 (by decide)] at this
  exact this
theorem times_y (a b : List UInt8) (w : World) : Calls Try.prog 59 #[.agg (elC a).toArray, .agg (elC b).toArray] w fun e w' => e = .returned (.agg (elC (prodE a b)).toArray) ∧ Below w.heap.size w w' := by
  have := times_e (wordTo a 0 8) (wordTo a 8 8) (wordTo b 0 8) (wordTo b 8 8) w
  have e : elC (prodE a b) = [.int .u64 ((prodG a b).s0.toNat : Int), .int .u64 ((prodG a b).s1.toNat : Int)] := by unfold elC prodE; rw [word_hi, word_lo]
  rw [e]
  exact this
theorem bytes_y (y : List UInt8) (hy : y.length = 16) (w : World) : Calls Try.prog 60 #[.agg (elC y).toArray] w fun e w' => e = .returned (BV y) ∧ Below w.heap.size w w' := by
  have := bytes_e (wordTo y 0 8) (wordTo y 8 8) w
  rw [bytesE_words y hy] at this
  exact this

/-- A block that is filled up with noughts. -/
def padE (r : List UInt8) : List UInt8 := r.take 16 ++ zero16.drop (r.take 16).length
theorem padE_length (r : List UInt8) : (padE r).length = 16 := by
  unfold padE; rw [List.length_append, List.length_drop, List.length_take]; have : zero16.length = 16 := rfl; omega
theorem padE_splice (r : List UInt8) : splice (zero16.map B8) 0 ((r.take 16).map B8) = (padE r).map B8 := by
  rw [splice_eq, List.take_zero, List.nil_append, Nat.zero_add, List.length_map, ← List.map_drop, ← List.map_append]
  rfl
/-- What m blocks of a part make of an element. -/
def fStep (F y P : List UInt8) : Nat → List UInt8
  | 0 => y
  | m + 1 => prodE (putE (fStep F y P m) (padE (P.drop (16 * m)))) F
def gPart (F y P : List UInt8) : List UInt8 := fStep F y P ((P.length + 15) / 16)
def gFold (F : List UInt8) (ps : List (List UInt8)) : List UInt8 := ps.foldl (gPart F) zero16
theorem fStep_length {F y P : List UInt8} (hy : y.length = 16) (m : Nat) : (fStep F y P m).length = 16 := by
  cases m with
  | zero => exact hy
  | succ m => exact prodE_length _ _
theorem gPart_length {F y P : List UInt8} (hy : y.length = 16) : (gPart F y P).length = 16 := fStep_length hy _
theorem gFold_length (F : List UInt8) (ps : List (List UInt8)) : (gFold F ps).length = 16 := by
  unfold gFold
  have : ∀ (qs : List (List UInt8)) (y : List UInt8), y.length = 16 → (qs.foldl (gPart F) y).length = 16 := fun qs => by
    induction qs with
    | nil => exact fun y h => h
    | cons q r ih => exact fun y h => ih _ (gPart_length h)
  exact this ps zero16 rfl
theorem gFold_snoc (F : List UInt8) (ps : List (List UInt8)) (k : Nat) (hk : k < ps.length) : gFold F (ps.take (k + 1)) = gPart F (gFold F (ps.take k)) (ps.getD k []) := by
  unfold gFold
  rw [List.take_succ_eq_append_getElem hk, List.foldl_append]
  simp [List.getD_eq_getElem?_getD, List.getElem?_eq_getElem hk]

theorem In.copySrc {w : World} {B c : Nat} {A : Option Addr} {xs : List UInt8} (h : In w B A c xs) (k : Nat) (h0 : 0 < ((xs.take k).map B8).length) :
    ∃ gb ob, A = some ⟨gb, ob, none⟩ ∧ ∀ j v, ((xs.take k).map B8)[j]? = some v → w.cell? ⟨gb, ob + j, none⟩ = some v := by
  have hx : 0 < xs.length := by rw [List.length_map, List.length_take] at h0; omega
  obtain ⟨gb, ob, e, _, hby⟩ := h.2.2 hx
  refine ⟨gb, ob, e, fun j v hv => ?_⟩
  have hj : j < (xs.take k).length := by have := (List.getElem?_eq_some_iff.1 hv).1; simpa using this
  rw [getD_map8 _ j hj] at hv
  have hj2 : j < k ∧ j < xs.length := by rw [List.length_take] at hj; omega
  rw [← Option.some.inj hv]
  refine (hby j hj2.2).trans ?_
  simp [List.getD_eq_getElem?_getD, hj2.1, hj2.2]
theorem in_drop {w : World} {B gb ob c : Nat} {xs : List UInt8} (h : In w B (some ⟨gb, ob, none⟩) c xs) (k : Nat) (hk : k ≤ xs.length) :
    In w B (if c = k then some ⟨gb, ob, none⟩ else some ⟨gb, ob + k, none⟩) (c - k) (xs.drop k) :=
  ⟨by have := h.1; rw [List.length_drop]; omega, by have := h.2.1; omega, fun h0 => by
    rw [List.length_drop] at h0
    obtain ⟨g', o', e, hl, hby⟩ := h.2.2 (by omega)
    cases e
    have hc := h.1
    refine ⟨gb, ob + k, if_neg (by omega), hl, fun j hj => ?_⟩
    rw [List.length_drop] at hj
    have := hby (k + j) (by omega)
    rw [Nat.add_assoc, this]
    simp [List.getD_eq_getElem?_getD, List.getElem?_drop]⟩
theorem drop_block {P rest : List UInt8} {m n q : Nat} (h : rest = P.drop (16 * m)) (hn : rest.length = n) (hq : q = min 16 n) : rest.drop q = P.drop (16 * (m + 1)) := by
  have hl : rest.length = P.length - 16 * m := by rw [h, List.length_drop]
  rw [h, List.drop_drop]
  by_cases h16 : 16 ≤ n
  · rw [show q = 16 by omega, show 16 * m + 16 = 16 * (m + 1) by omega]
  · rw [List.drop_eq_nil_of_le (by omega), List.drop_eq_nil_of_le (by omega)]
/-- What stays while parts are folded. -/
structure FFr (w : World) (gf gy go : Nat) (F Y Z : List UInt8) (wr : World) : Prop where
  f : Blk wr gf 94 (elC F)
  y : Blk wr gy 94 (elC Y)
  r : Blk wr go 42 (Z.map B8)
  bw : Below w.heap.size w wr
theorem FFr.below {w wr W : World} {gf gy go : Nat} {F Y Z : List UInt8} (h : FFr w gf gy go F Y Z wr) (hb : Below wr.heap.size wr W) : FFr w gf gy go F Y Z W :=
  ⟨h.f.below hb h.f.lt, h.y.below hb h.y.lt, h.r.below hb h.r.lt, h.bw.trans (hb.mono h.bw.size)⟩
theorem FFr.set {w wr W : World} {gf gy go : Nat} {F Y Y' Z : List UInt8} (h : FFr w gf gy go F Y Z wr) (hg : wr.grownBy W (some gy)) (hy : Blk W gy 94 (elC Y')) (n1 : gf ≠ gy) (n2 : go ≠ gy) (n3 : w.heap.size ≤ gy) : FFr w gf gy go F Y' Z W :=
  ⟨h.f.grown hg (by simpa using n1), hy, h.r.grown hg (by simpa using n2), below_new h.bw hg n3 h.bw.size⟩

set_option maxRecDepth 100000 in
set_option maxHeartbeats 1000000 in
theorem fold_e (F : List UInt8) (A : Option Addr) (c : Nat) (ps : List (List UInt8)) (w : World) (hF16 : F.length = 16) (hA : PIn w w.heap.size A c ps) :
    Calls Try.prog 48 #[BV F, .slice A ps.length c] w fun e w' => e = .returned (BV (gFold F ps)) ∧ Below w.heap.size w w' := by
  have hz : ∀ W : World, (zeroValue 42).run Try.prog W = .ok (BV zero16) W := fun W => by kernel_rfl
  obtain ⟨Z, hZ⟩ : ∃ Z, Z = zero16 := ⟨_, rfl⟩
  have HZL := Lib.hid (show Z.length = 16 by rw [hZ]; rfl)
  rw [← hZ] at hz
  have hz2 : ∀ W : World, (zeroValue 94).run Try.prog W = .ok (.agg (elC zero16).toArray) W := fun W => by kernel_rfl
  obtain ⟨E0, hE0⟩ : ∃ E0, E0 = elC zero16 := ⟨_, rfl⟩
  have HEL := Lib.hid (show E0.length = 2 by rw [hE0]; rfl)
  rw [← hE0] at hz2
  have HE0 := Lib.hid hE0
  have HSP : Hid (∀ r : List UInt8, splice (Z.map B8) 0 ((r.take 16).map B8) = (padE r).map B8) := (fun r => by rw [hZ]; exact padE_splice r)
  have HF16 := Lib.hid hF16
  have HPS := Lib.hid hA
  clear hZ hE0 hF16 hA
  go_enter Try.func48, Try.ntmps48
  have hA0 : Blk ((w.alloc (.cells (F.map B8).toArray 42)).alloc (.cells (Z.map B8).toArray 42)) w.heap.size 42 (F.map B8) := (Blk.new_of w 42 _ (F.map B8) rfl).alloc _
  have hR0 := Blk.new2_of w (.cells (F.map B8).toArray 42) 42 (Z.map B8).toArray (Z.map B8) rfl
  have hbw := ((Below.refl w.heap.size w).alloc (Nat.le_refl _) (.cells (F.map B8).toArray 42)).alloc (by simp) (.cells (Z.map B8).toArray 42)
  go_wp2_with (first
    | ((with_reducible refine (?_ : wpList _ _ _ (Oper.mk (some 11) _ _ _ _ _ :: _) _ _)); go_loud (refine wpList_load_blk rfl 42 (.tmp 2) rfl (w.heap.size) rfl 42 _ _ hA0 Try.underlying42 rfl (infoBk.trans (by rw [List.length_map, HF16.out])) ?_))
    | (go_at_call 57; refine (elementOf_y F HF16.out _).mono ?_; rintro e w2 ⟨rfl, hb2⟩; have hR2 := hR0.below hb2 hR0.lt; have hbw2 := hbw.trans (hb2.mono hbw.size); clear hb2 hA0 hR0 hbw)
    | ((with_reducible refine (?_ : wpList _ _ _ (Oper.mk none (.store 94 (.tmp 5) _) _ _ _ _ :: _) _ _)); go_loud (refine wpList_store_blk rfl 94 (.tmp 5) (.tmp 12) rfl rfl (w2.heap.size) (elC F) rfl rfl 94 _ (Blk.new_of w2 94 _ E0 rfl) infoEl (by first | rfl | exact HEL.out) (elC_one _) ?_); intro w3 hf3 hg3))
  have hb3 := below_new ((Below.refl w2.heap.size w2).alloc (Nat.le_refl _) _) hg3 (Nat.le_refl _) (by simp)
  have hF0 : FFr w w2.heap.size w3.heap.size (w.heap.size + 1) F zero16 Z (w3.alloc (.cells E0.toArray 94)) := ⟨hf3.alloc _, Blk.new_of w3 94 _ _ (by rw [HE0.out]), (hR2.below hb3 hR2.lt).alloc _, (hbw2.trans (hb3.mono hbw2.size)).alloc (hbw2.trans (hb3.mono hbw2.size)).size _⟩
  have hne : w2.heap.size ≠ w3.heap.size ∧ w.heap.size + 1 ≠ w3.heap.size ∧ w.heap.size ≤ w3.heap.size := by
    have h1 := hf3.lt
    have h2 := hR2.lt
    have h3 := hb3.size
    omega
  clear hb3 hg3 hf3 hR2 hbw2 hz2
  generalize w3.alloc (.cells E0.toArray 94) = w4 at *
  generalize w2.heap.size = gf at *
  generalize w3.heap.size = gy at *
  have hle : w.heap.size ≤ w.heap.size + 1 := by omega
  generalize w.heap.size + 1 = go at *
  go_loopw [8, 9, 10, 15] (fun _ _ _ i wr => ∃ (k : Nat) (Y : List UInt8), k ≤ ps.length ∧ i = .int .i64 (k : Int) ∧ Hid (Y = gFold F (ps.take k)) ∧ FFr w gf gy go F Y Z wr) (fun _ _ _ i _ => ps.length - (intOf i).toNat)
  case atStart => exact ⟨0, zero16, by omega, rfl, by show _ = _; rfl, hF0⟩
  case round =>
    clear hF0
    obtain ⟨k, Y, hk, rfl, HY, hF⟩ := hrel
    by_cases hlt : k < ps.length
    · have hd1 : decide ((k : Int) < (ps.length : Int)) = true := by simp; omega
      have hk0 : (0 : Int) ≤ (k : Int) := by omega
      have hkl : (k : Int) < (ps.length : Int) := by omega
      obtain ⟨hpc, hpm, hpe⟩ := HPS.out.below hF.bw
      obtain ⟨gp, op, rfl, hgp, hj⟩ := hpe (by omega)
      obtain ⟨Aj, cj, hc, hi⟩ := hj k hlt
      have HN := Lib.hid (gFold_snoc F ps k hlt)
      obtain ⟨P, hP⟩ : ∃ P, P = ps.getD k [] := ⟨_, rfl⟩
      rw [← hP, ← HY.out] at HN
      rw [← hP] at hc hi
      have HYL := Lib.hid (show Y.length = 16 by rw [HY.out]; exact gFold_length _ _)
      obtain ⟨Y0, hY0⟩ : ∃ Y0, Y0 = Y := ⟨_, rfl⟩
      rw [← hY0] at HN
      have HY0 := Lib.hid hY0
      clear hP hj hpe HY hY0
      have HI := Lib.hid hi
      have HFF := Lib.hid hF
      clear hi hF
      go_wp2
      obtain ⟨wo, rfl⟩ : ∃ wo : World, wo = wr := ⟨_, rfl⟩
      have hF := HFF.out
      have hi := HI.out
      clear hc HFF HI
      go_loopw [8, 9, 10] (fun v _ _ wr => ∃ (m n' c' : Nat) (rest Y : List UInt8) (A' : Option Addr), v = .slice A' n' c' ∧ rest.length = n' ∧ Hid (rest = P.drop (16 * m) ∧ m ≤ (P.length + 15) / 16 ∧ Y = fStep F Y0 P m ∧ Y.length = 16) ∧ In wr w.heap.size A' c' rest ∧ FFr w gf gy go F Y Z wr) (fun v _ _ _ => lenOf v)
      case atStart => exact ⟨0, P.length, cj, P, Y, Aj, rfl, rfl, by refine ⟨by simp, by omega, HY0.out.symm, HYL.out⟩, hi, hF⟩
      case round =>
        clear hF hi HYL HY0
        obtain ⟨m, n', c', rest, Y, A', rfl, hrl, HR, hI, hF⟩ := hrel
        by_cases hpos : 0 < n'
        · have hd2 : decide ((n' : Int) > 0) = true := by simp; omega
          obtain ⟨gb, ob, rfl, hgb, hby⟩ := id (hI.2.2 (by omega))
          have HYL := Lib.hid HR.out.2.2.2
          have hFs := hF.bw.size
          have hIa := hI.below ((Below.refl w.heap.size wr).alloc hFs (.cells (Z.map B8).toArray 42))
          go_wp2_with ((with_reducible refine (?_ : wpList _ _ _ (Oper.mk (some 24) _ _ _ _ _ :: _) _ _)); go_loud (refine wpList_copy_blk rfl (.tmp 22) (.tmp 23) 24 24 rfl 5 Try.underlying24 info8 _ _ _ _ _ _ rfl rfl wr.heap.size 0 (Z.map B8) 42 (Blk.new_of wr 42 _ _ rfl) ((rest.take 16).map B8) (by rw [List.length_map, List.length_take, hrl]; exact Nat.min_comm _ _) (fun h0 => ⟨rfl, hIa.copySrc 16 h0⟩) (by rw [List.length_map, List.length_map, HZL.out, List.length_take]; omega) (oneB8 _) ?_); intro w5 hP5 hg5)
          rw [HSP.out] at hP5
          have hP := hP5
          clear hP5
          have hb5 := below_new ((Below.refl wr.heap.size wr).alloc (Nat.le_refl _) _) hg5 (Nat.le_refl _) (by simp)
          replace hF := hF.below hb5
          replace hI := hI.below (hb5.mono hFs)
          replace hFs := hF.bw.size
          obtain ⟨q, hq⟩ : ∃ q, q = min 16 n' := ⟨_, rfl⟩
          rw [← hq]
          have HQ := Lib.hid hq
          have hcn := hI.1
          have hq1 : (q : Int) ≤ (n' : Int) := by omega
          have hq3 : (n' : Int) ≤ (c' : Int) := by omega
          have hq4 : (0 : Int) ≤ (q : Int) := by omega
          generalize wr.heap.size = gz at *
          clear hq hcn hb5 hg5 hIa hby hgb hd2 hz
          apply wp_region_once_tail (m := 6) (Z := []) (D := [[], [], [1], [0, 1, 2], [], [0, 1, 2, 3, 4], [0, 1, 2, 3, 4, 5]]) (J := [[], [], [1], [0, 2], [], [3, 4]]) (Je := [5]) (Rs := [Is _, Is _, Is _, Is _, Is _, Is _])
          · kernel_rfl
          · kernel_rfl
          · kernel_rfl
          · kernel_rfl
          · kernel_rfl
          · kernel_rfl
          · kernel_rfl
          · exact fun h => absurd rfl h
          · intro u
            simp only [List.take_succ_cons, List.take_zero, List.map_cons, List.map_nil, fillU, List.setIfInBounds_toArray, List.set_cons_zero, List.set_cons_succ, Nat.zero_add, Nat.reduceAdd]
            exact rfl
          · simp only [List.take_succ_cons, List.take_zero]
            refine ⟨fun u W hb hd K hK => ?_, ?_⟩
            · clear hd
              rw [if_pos (by rfl)]
              refine wp_load_mid 94 (.tmp 6) rfl (gy) 0 rfl (elC Y) _ (rangeAt_blk (hF.y.below hb hF.y.lt)) Try.underlying94 rfl infoEl ?_
              exact hK _ _ _ rfl (Below.refl _ _) IsOut
            refine ⟨fun u W hb hd K hK => ?_, ?_⟩
            · clear hd
              rw [if_pos (by rfl)]
              refine wp_load_mid 42 (.tmp 9) rfl (gz) 0 rfl ((padE rest).map B8) _ (rangeAt_blk (hP.below hb hP.lt)) Try.underlying42 rfl (infoBk.trans (by rw [List.length_map, padE_length])) ?_
              exact hK _ _ _ rfl (Below.refl _ _) IsOut
            refine ⟨fun u W hb hd K hK => ?_, ?_⟩
            · simp only [Facts, nthR, Is, and_true] at hd
              simp only [hd] at hK ⊢
              clear hd
              go_simp
              refine (elementOf_y _ (padE_length _) W).mono ?_
              rintro e wy ⟨rfl, hby⟩
              exact hK _ _ _ rfl hby IsOut
            refine ⟨fun u W hb hd K hK => ?_, ?_⟩
            · simp only [Facts, nthR, Is, and_true] at hd
              simp only [hd] at hK ⊢
              clear hd
              go_simp
              refine (plus_y _ _ HYL.out (padE_length _) W).mono ?_
              rintro e wy ⟨rfl, hby⟩
              exact hK _ _ _ rfl hby IsOut
            refine ⟨fun u W hb hd K hK => ?_, ?_⟩
            · clear hd
              rw [if_pos (by rfl)]
              refine wp_load_mid 94 (.tmp 5) rfl (gf) 0 rfl (elC F) _ (rangeAt_blk (hF.f.below hb hF.f.lt)) Try.underlying94 rfl infoEl ?_
              exact hK _ _ _ rfl (Below.refl _ _) IsOut
            refine ⟨fun u W hb hd K hK => ?_, ?_⟩
            · simp only [Facts, nthR, Is, and_true] at hd
              simp only [hd] at hK ⊢
              clear hd
              go_simp
              refine (times_y _ _ W).mono ?_
              rintro e wy ⟨rfl, hby⟩
              exact hK _ _ _ rfl hby IsOut
            exact trivial
          · skip
            exact trivial
          · exact (.is (.is (.is (.is (.is (.is .nil))))))
          · intro u W hb hd
            simp only [List.drop_succ_cons, List.drop_zero]
            simp only [Facts, nthR, Is, and_true] at hd
            simp only [hd]
            clear hd
            replace hF := hF.below hb
            replace hI := hI.below (hb.mono hFs)
            clear hb hP
            go_wp2_with ((with_reducible refine (?_ : wpList _ _ _ (Oper.mk none (.store 94 (.tmp 6) _) _ _ _ _ :: _) _ _)); go_loud (refine wpList_store_blk rfl 94 (.tmp 6) (.tmp 30) rfl rfl (gy) (elC (prodE (putE Y (padE rest)) F)) rfl rfl 94 _ hF.y infoEl (by first | rfl | exact HEL.out) (elC_one _) ?_); intro w7 hy7 hg7)
            have hF7 := hF.set hg7 hy7 hne.1 hne.2.1 hne.2.2
            replace hI := hI.below (grown_below hg7 hne.2.2 hF.bw.size)
            go_wp2
            go_roundw
            case rel =>
              refine ⟨m + 1, n' - q, c' - q, rest.drop q, prodE (putE Y (padE rest)) F, _, rfl, by rw [List.length_drop, hrl], ⟨drop_block HR.out.1 hrl HQ.out, ?_, by rw [HR.out.2.2.1, HR.out.1]; rfl, prodE_length _ _⟩, in_drop hI q (by rw [hrl]; have := HQ.out; omega), hF7⟩
              have := congrArg List.length HR.out.1
              rw [List.length_drop, hrl] at this
              omega
            case measure => have := HQ.out; simp [lenOf]; omega
        · have hd2 : decide ((0 : Int) < (n' : Int)) = false := by simp; omega
          have HY2 : Hid (Y = gFold F (ps.take (k + 1))) := (show _ = _ by
            have h1 := congrArg List.length HR.out.1
            rw [List.length_drop, hrl] at h1
            have h2 : m = (P.length + 15) / 16 := by have := HR.out.2.1; omega
            rw [HN.out, HR.out.2.2.1, h2]
            rfl)
          obtain rfl : n' = 0 := by omega
          clear HN HR hI hrl hpos hd2
          go_wp2
          go_roundw
          case rel => exact ⟨k + 1, Y, by omega, by go_num, HY2, hF⟩
          case measure => simp [intOf]; omega
    · have hd1 : decide ((k : Int) < (ps.length : Int)) = false := by simp; omega
      rw [List.take_of_length_le (by omega)] at HY
      have HYL := Lib.hid (show Y.length = 16 by rw [HY.out]; exact gFold_length _ _)
      have hFy := hF.y
      have hFr := hF.r
      have hFw := hF.bw
      clear hF
      go_wp2_with (first
        | ((with_reducible refine (?_ : wpList _ _ _ (Oper.mk (some 35) _ _ _ _ _ :: _) _ _)); go_loud (refine wpList_load_blk rfl 94 (.tmp 6) rfl gy rfl 94 _ _ hFy Try.underlying94 rfl infoEl ?_))
        | (go_at_call 60; refine (bytes_y Y HYL.out _).mono ?_; rintro e w9 ⟨rfl, hb9⟩; replace hFr := hFr.below hb9 hFr.lt; replace hFw := hFw.trans (hb9.mono hFw.size))
        | ((with_reducible refine (?_ : wpList _ _ _ (Oper.mk none (.store 42 (.tmp 4) _) _ _ _ _ :: _) _ _)); go_loud (refine wpList_store_blk rfl 42 (.tmp 4) (.tmp 36) rfl rfl (go) _ rfl rfl 42 _ hFr (infoBk.trans (by rw [List.length_map, HYL.out])) (by rw [List.length_map, List.length_map, HYL.out, HZL.out]) (one8 _) ?_); intro w7 hR7 hg7))
      refine bodyPost_ret (v := .agg _) (results_cell_row rfl _ _ (go) 42 _ (0, 0) _ rfl hR7.raw Try.underlying42 rfl (infoBk.trans (by rw [List.size_toArray, List.length_map, HYL.out]))) rfl ⟨by rw [HY.out], below_new hFw hg7 hle hFw.size⟩

end Go.Proofs.Ytefbjhdcmgonbaa
