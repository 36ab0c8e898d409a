/-
  The walk of the statement TollgateBoxes.
-/
import Derived.Test.YtceenlmidlmmgaaDoorKm
import Derived.Test.YtceenlmidlmmgaaDoorKh
import Derived.Test.YtceenlmidlmmgaaDoorFreshJ
import Derived.Test.YtceenlmidlmmgaaDoorStandsJ
namespace Go.Proofs.YtceenlmidlmmgaaDoor
open Go.RowKit

/-- What stays: the key, the nonce, the turned key, the box; all above B. -/
def FrB (w wr : World) (gK gn gk gr gx hk hr : Nat) (K N : List UInt8) (L : List UInt32) : Prop :=
  Blk wr gK 56 (K.map B8) ∧ Blk wr gn 48 (N.map B8) ∧ KeyAt wr gk gr 11 L ∧ BoxAt wr gx hk hr 11 L ∧ Below w.heap.size w wr
theorem FrB.below {w w1 w2 : World} {gK gn gk gr gx hk hr : Nat} {K N : List UInt8} {L : List UInt32} (h : FrB w w1 gK gn gk gr gx hk hr K N L) (hb : Below w1.heap.size w1 w2) : FrB w w2 gK gn gk gr gx hk hr K N L :=
  ⟨h.1.below hb h.1.lt, h.2.1.below hb h.2.1.lt, h.2.2.1.below hb, h.2.2.2.1.below hb, h.2.2.2.2.trans (hb.mono h.2.2.2.2.size)⟩
theorem FrB.grown {w w1 w2 : World} {gK gn gk gr gx hk hr g : Nat} {K N : List UInt8} {L : List UInt32} (h : FrB w w1 gK gn gk gr gx hk hr K N L) (hg : w1.grownBy w2 (some g)) (hn : (gK ≠ g ∧ gn ≠ g ∧ gk ≠ g ∧ gr ≠ g) ∧ (gx ≠ g ∧ hk ≠ g ∧ hr ≠ g) ∧ w.heap.size ≤ g) : FrB w w2 gK gn gk gr gx hk hr K N L :=
  ⟨h.1.grown hg (by simpa using hn.1.1), h.2.1.grown hg (by simpa using hn.1.2.1), ⟨h.2.2.1.key.grown hg (by simpa using hn.1.2.2.1), h.2.2.1.rounds.grown hg (by simpa using hn.1.2.2.2), h.2.2.1.len⟩, h.2.2.2.1.grown hg hn.2.1.1 hn.2.1.2.1 hn.2.1.2.2, below_new h.2.2.2.2 hg hn.2.2 h.2.2.2.2.size⟩
/-- A block that is newer than all that stays. -/
def NewB (w : World) (gK gn gk gr gx hk hr g : Nat) : Prop := (gK ≠ g ∧ gn ≠ g ∧ gk ≠ g ∧ gr ≠ g) ∧ (gx ≠ g ∧ hk ≠ g ∧ hr ≠ g) ∧ w.heap.size ≤ g
theorem FrB.new {w w1 : World} {gK gn gk gr gx hk hr : Nat} {K N : List UInt8} {L : List UInt32} (h : FrB w w1 gK gn gk gr gx hk hr K N L) {g : Nat} (hg : w1.heap.size ≤ g) : NewB w gK gn gk gr gx hk hr g := by
  have a := h.1.lt
  have b := h.2.1.lt
  have c := h.2.2.1.key.lt
  have d := h.2.2.1.rounds.lt
  have e := h.2.2.2.1.box.lt
  have f := h.2.2.2.1.key.key.lt
  have i := h.2.2.2.1.key.rounds.lt
  have j := h.2.2.2.2.size
  refine ⟨⟨?_, ?_, ?_, ?_⟩, ⟨?_, ?_, ?_⟩, ?_⟩ <;> omega
theorem FrB.low {B : Nat} {w w1 w2 : World} {gK gn gk gr gx hk hr : Nat} {K N : List UInt8} {L : List UInt32} (h : FrB w w1 gK gn gk gr gx hk hr K N L) (hb : Below B w1 w2) (hl : (gK < B ∧ gn < B ∧ gk < B ∧ gr < B) ∧ (gx < B ∧ hk < B ∧ hr < B) ∧ w.heap.size ≤ B) : FrB w w2 gK gn gk gr gx hk hr K N L :=
  ⟨h.1.below hb hl.1.1, h.2.1.below hb hl.1.2.1, ⟨h.2.2.1.key.below hb hl.1.2.2.1, h.2.2.1.rounds.below hb hl.1.2.2.2, h.2.2.1.len⟩, ⟨h.2.2.2.1.box.below hb hl.2.1.1, ⟨h.2.2.2.1.key.key.below hb hl.2.1.2.1, h.2.2.2.1.key.rounds.below hb hl.2.1.2.2, h.2.2.2.1.key.len⟩, h.2.2.2.1.lo, h.2.2.2.1.hi⟩, h.2.2.2.2.trans (hb.mono hl.2.2)⟩
theorem FrB.lows {w w1 : World} {gK gn gk gr gx hk hr : Nat} {K N : List UInt8} {L : List UInt32} (h : FrB w w1 gK gn gk gr gx hk hr K N L) {B : Nat} (hB : w1.heap.size ≤ B) : (gK < B ∧ gn < B ∧ gk < B ∧ gr < B) ∧ (gx < B ∧ hk < B ∧ hr < B) ∧ w.heap.size ≤ B := by
  have a := h.1.lt
  have b := h.2.1.lt
  have c := h.2.2.1.key.lt
  have d := h.2.2.1.rounds.lt
  have e := h.2.2.2.1.box.lt
  have f := h.2.2.2.1.key.key.lt
  have i := h.2.2.2.1.key.rounds.lt
  have j := h.2.2.2.2.size
  refine ⟨⟨?_, ?_, ?_, ?_⟩, ⟨?_, ?_, ?_⟩, ?_⟩ <;> omega
def besB : List UInt8 := [98, 101, 115, 105, 100, 101]
theorem buf_bes (W : World) : Buf (W.alloc (.cells (besB.map B8).toArray 5 (6, 7))) W.heap.size (some ⟨W.heap.size, 0, none⟩) 6 6 besB :=
  Buf.made _ _ 6 7 (Nat.le_refl _) rfl (Nat.le_refl _) (by unfold maxLen; omega) rfl (.inl (Nat.le_refl _)) (fun j hj => by
    obtain rfl | rfl | rfl | rfl | rfl | rfl : j = 0 ∨ j = 1 ∨ j = 2 ∨ j = 3 ∨ j = 4 ∨ j = 5 := by omega
    all_goals rfl)
theorem cnt_boxes (M : List UInt8) (n8 : Nat) (h : M.length * 8 = n8) (hn : n8 < 65536) : cntE [besB, M] = ((zero16.set 7 48).set 14 (UInt8.ofNat (n8 / 256))).set 15 (UInt8.ofNat n8) := by
  have e : ∀ m : Nat, m < 65536 → 0 < m → UInt8.ofNat (n8 / (m * 65536)) = 0 := fun m hm h0 => by
    rw [Nat.div_eq_of_lt (by have : 65536 ≤ m * 65536 := Nat.le_mul_of_pos_left _ h0; omega)]; rfl
  unfold cntE
  simp only [List.map_cons, List.map_nil, List.flatten_cons, List.flatten_nil, List.append_nil, h]
  unfold be8
  rw [Nat.div_eq_of_lt (show n8 < 72057594037927936 by omega), Nat.div_eq_of_lt (show n8 < 281474976710656 by omega), Nat.div_eq_of_lt (show n8 < 1099511627776 by omega), Nat.div_eq_of_lt (show n8 < 4294967296 by omega), Nat.div_eq_of_lt (show n8 < 16777216 by omega), Nat.div_eq_of_lt (show n8 < 65536 by omega)]
  rfl
theorem ix_n8 (np : Nat) (h : np ≤ 100) : ∃ n8 : Nat, n8 = np * 8 ∧ n8 < 65536 ∧ ((np : Int) * 8 = (n8 : Int) ∧ wrap64 (n8 : Int) = (n8 : Int) ∧ IntKind.u8.wrap ((n8 : Int) / 256) = ((UInt8.ofNat (n8 / 256)).toNat : Int) ∧ IntKind.u8.wrap (n8 : Int) = ((UInt8.ofNat n8).toNat : Int)) := by
  refine ⟨np * 8, rfl, by omega, by omega, by unfold wrap64; omega, ?_, ?_⟩
  · rw [IntKind.wrap_u8, UInt8.toNat_ofNat']; omega
  · rw [IntKind.wrap_u8, UInt8.toNat_ofNat']; omega
theorem pin_upB {w w' : World} {c : Nat} {A : Option Addr} {ps : List (List UInt8)} (h : PIn w w.heap.size A c ps) (hb : Below w.heap.size w w') : PIn w' w'.heap.size A c ps := by
  have h2 := h.below hb
  refine ⟨h2.1, h2.2.1, fun h0 => ?_⟩
  obtain ⟨gp, op, e, hl, hj⟩ := h2.2.2 h0
  exact ⟨gp, op, e, Nat.lt_of_lt_of_le hl hb.size, fun j hjl => by
    obtain ⟨Aj, cj, h3, h4⟩ := hj j hjl
    exact ⟨Aj, cj, h3, in_weak h4 hb.size⟩⟩
theorem step_append_far {ops : Array Oper} {o : Oper} {a : Act} {w : World} {K : Act → World → Prop} {Q : Exit → Act → World → Prop} {E : Prop} (hgd : o.guard = none) (s x : Operand) (tx : TypeId)
    (ho : o.op = .call { callee := .builtin .append, args := #[s, x], argTypes := #[24, tx] })
    (base : Nat) (A : Option Addr) (n c : Nat) (bs ys : List UInt8) (v : Value) (hs : a.eval s = .slice A n c) (hb : Buf w base A n c bs) (hx : a.eval x = v) (hsrc : _root_.Go.Src Tryd.prog 1 tx v ys.length (ys.map B8) w)
    (hn : n + ys.length ≤ 1099511627776) (hbase : base ≤ w.heap.size) (m : Nat) (hm : m = n + ys.length)
    (h : ∀ A' c' w', Buf w' base A' m c' (bs ++ ys) → w.grownBy w' (ownOf A) → Fresh w A A' → K (a.put o.dst (.slice A' m c')) w') : if Region.wanted o (yielded ops a.tmps) = true then Oper.wp Tryd.prog o a w K Q else E := by
  subst hm
  have hw : Region.wanted o (yielded ops a.tmps) = true := by simp [Region.wanted, hgd]
  rw [if_pos hw]
  obtain ⟨A', c', w', hr, h1, h2, _, h3⟩ := run_append_far tx o.type base A n c bs ys v w hb hsrc hn hbase
  unfold Oper.wp execOp
  simp only [ho, resolve, invoke, builtin, Sem.run_bind, Sem.run_pure, Result.andThen_ok, List.map_toArray, List.map_cons, List.map_nil, hs, hx, hr]
  exact h A' c' w' h1 h2 h3
theorem own_ne {w : World} {base n c g : Nat} {A : Option Addr} {bs : List UInt8} (hB : Buf w base A n c bs) (h : ∀ k, A = some ⟨k, 0, none⟩ → k ≠ g) : some g ≠ ownOf A := by
  rcases hB.2 with ⟨rfl, _⟩ | ⟨k, rfl, _⟩
  · intro e; cases e
  · intro e
    have e2 : some g = some k := e
    injection e2 with e2
    exact h k rfl e2.symm
theorem ix_tb (t m : Nat) (h : t < 16) : ∃ t1 m1 : Nat, (t1 = t + 1 ∧ t1 ≤ 16) ∧ (m1 = m + 1 ∧ 16 - t1 < 16 - t) ∧ True ∧ ((t : Int) + 1 = (t1 : Int) ∧ wrap64 (t1 : Int) = (t1 : Int)) ∧ ((0 : Int) ≤ (t : Int) ∧ (t : Int) < 16) :=
  ⟨t + 1, m + 1, ⟨rfl, by omega⟩, ⟨rfl, by omega⟩, trivial, ⟨by omega, by unfold wrap64; omega⟩, by omega, by omega⟩
def cntK (k : Nat) : Nat := if k = 0 then 0 else 2 + (k - 1) / 16
def padK (L : List UInt32) (N Z : List UInt8) (k : Nat) : List UInt8 := if k = 0 then Z else sealS L 11 (ctrE N (cntK k))
theorem cnt_next {k : Nat} : cntK (k + 1) = 2 + k / 16 := by unfold cntK; rw [if_neg (by omega), Nat.add_sub_cancel]
theorem cnt_same {k : Nat} (h : k % 16 ≠ 0) : cntK k = 2 + k / 16 := by unfold cntK; rw [if_neg (by omega)]; omega
theorem cnt_lt {k : Nat} (h : k ≤ 100) : cntK k < 256 := by unfold cntK; split <;> omega
theorem ix_bx (k np : Nat) (h : k < np) (hn : np ≤ 100) : ∃ q j q2 k1 : Nat, (q2 = 2 + k / 16 ∧ j = k % 16 ∧ j < 16 ∧ q2 < 256) ∧ ((k : Int).tdiv 16 = (q : Int) ∧ wrap64 (q : Int) = (q : Int) ∧ (2 : Int) + (q : Int) = (q2 : Int) ∧ wrap64 (q2 : Int) = (q2 : Int) ∧ IntKind.u8.wrap (q2 : Int) = ((UInt8.ofNat q2).toNat : Int)) ∧
    ((k : Int).tmod 16 = (j : Int) ∧ wrap64 (j : Int) = (j : Int) ∧ (0 : Int) ≤ (j : Int) ∧ (j : Int) < 16) ∧ (k1 = k + 1 ∧ (k1 ≤ np ∧ np - k1 < np - k)) ∧ ((k : Int) + 1 = (k1 : Int) ∧ wrap64 (k1 : Int) = (k1 : Int)) ∧ ((0 : Int) ≤ (k : Int) ∧ (k : Int) < (np : Int)) := by
  refine ⟨k / 16, k % 16, 2 + k / 16, k + 1, ⟨rfl, rfl, by omega, by omega⟩, ⟨?_, by unfold wrap64; omega, by omega, by unfold wrap64; omega, ?_⟩, ⟨?_, by unfold wrap64; omega, by omega, by omega⟩, ⟨rfl, by omega⟩, ⟨by omega, by unfold wrap64; omega⟩, by omega⟩
  · rw [Int.tdiv_eq_ediv_of_nonneg (by omega)]; omega
  · rw [IntKind.wrap_u8, UInt8.toNat_ofNat']; omega
  · rw [Int.tmod_eq_emod_of_nonneg (by omega)]; omega
theorem ctr_zero (N : List UInt8) : ctrTo N 0 0 = ctrE N 0 := by
  unfold ctrE ctrTo
  refine List.map_congr_left fun i hi => ?_
  by_cases h : i < 12
  · rw [if_pos h, if_pos h]
  · rw [if_neg h, if_neg h, if_neg (by omega)]
    split
    · unfold numB; rw [Nat.zero_div]; rfl
    · rfl
theorem ctr_set (N : List UInt8) (a b : Nat) (ha : a < 256) (hb : b < 256) : (ctrE N a).set 15 (UInt8.ofNat b) = ctrE N b := by
  refine List.ext_getElem (by rw [List.length_set]; exact (ctrTo_length _ _ _).trans (ctrTo_length _ _ _).symm) fun i h1 h2 => ?_
  have hi : i < 16 := by rw [ctrE, ctrTo_length] at h2; exact h2
  have g1 := ctrTo_get N a 4 i hi
  have g2 := ctrTo_get N b 4 i hi
  rw [List.getD_eq_getElem?_getD, List.getElem?_eq_getElem (by rw [ctrTo_length]; exact hi), Option.getD_some] at g1 g2
  rw [List.getElem_set]
  by_cases he : 15 = i
  · rw [if_pos he]
    subst he
    exact (g2.trans (by rw [if_neg (by omega), if_pos (by omega)]; unfold numB; simp)).symm
  · rw [if_neg he]
    refine g1.trans (Eq.trans ?_ g2.symm)
    by_cases h12 : i < 12
    · rw [if_pos h12, if_pos h12]
    · rw [if_neg h12, if_neg h12, if_pos (by omega), if_pos (by omega)]
      unfold numB
      have hp : 256 ≤ 2 ^ (24 - 8 * (i - 12)) := by
        obtain h | h | h : i = 12 ∨ i = 13 ∨ i = 14 := by omega
        · subst h; decide
        · subst h; decide
        · subst h; decide
      rw [Nat.div_eq_of_lt (by omega), Nat.div_eq_of_lt (by omega)]
set_option maxRecDepth 100000 in
set_option maxHeartbeats 2000000 in
theorem tollgateBoxes_walk (K N P0 : List UInt8) (A : Option Addr) (c : Nat) (w : World) (hK : K.length = 16) (hN : N.length = 12) (iP : In w w.heap.size A c P0) (ht : Tabs w) :
    Calls Tryd.prog 7 #[BV K, BV N, .slice A P0.length c] w fun e w' => e = .returned (.bool true) ∧ Below w.heap.size w w' := by
  have ms : min (P0.length : Int) 100 = ((P0.take 100).length : Int) := by rw [List.length_take]; omega
  have hb3 : (P0.take 100).length ≤ 100 := by rw [List.length_take]; omega
  have hbl : (P0.take 100).length ≤ P0.length := by rw [List.length_take]; omega
  have hbc := iP.1
  replace iP := iP.take 100
  generalize P0.take 100 = P at *
  obtain ⟨np, hnp⟩ : ∃ np, np = P.length := ⟨_, rfl⟩
  obtain ⟨lb, hlb⟩ : ∃ lb, lb = P0.length := ⟨_, rfl⟩
  rw [← hnp] at ms hb3 hbl
  rw [← hlb] at ms hbl hbc ⊢
  have hc0 : (0 : Int) ≤ (np : Int) := by omega
  have hc1 : (np : Int) ≤ (c : Int) := by omega
  have hz : ∀ W : World, (zeroValue 56).run Tryd.prog W = .ok (BV zero16) W := fun W => by kernel_rfl
  have hsp := ctrTo_none N 0 hN
  rw [ctr_zero] at hsp
  obtain ⟨Z, hZ⟩ : ∃ Z, Z = zero16 := ⟨_, rfl⟩
  have HZ16 := Lib.hid hZ
  have HZL := Lib.hid (show Z.length = 16 by rw [hZ]; rfl)
  rw [← hZ] at hz hsp
  have k1 := fun (W : World) (g : Nat) (h : Blk W g 56 (K.map B8)) => newB_any (some ⟨g, 0, none⟩) 16 W.heap.size 4 K W (Nat.le_refl _) (ink (in_blk h hK (by decide))) hK (.inl rfl)
  have k2 := fun (W : World) (g : Nat) (h : Blk W g 56 (K.map B8)) => bnew_any (some ⟨g, 0, none⟩) 16 W.heap.size 4 K W (Nat.le_refl _) (ink (in_blk h hK (by decide))) hK (.inl rfl)
  rw [hK] at k1 k2
  have hsl := fun (b : List UInt8) => sealS_length (keyL 4 K) 11 b
  generalize keyL 4 K = L at *
  have HK1 := Lib.hid k1
  have HK2 := Lib.hid k2
  have HKL := Lib.hid hK
  have HN := Lib.hid hN
  have HSP := Lib.hid hsp
  have HNP := Lib.hid hnp.symm
  have HB3 := Lib.hid hb3
  have HT := Lib.hid ht
  have HIP := Lib.hid iP
  have HSL := Lib.hid hsl
  clear k1 k2 hK hN hsp hnp hlb hb3 hbl hbc ht iP hsl hZ
  go_enter Tryd.func7, Tryd.ntmps7
  go_upto_region 2 with (fail)
  clear ms hc0 hc1
  have hA : Blk ((w.alloc (.cells (K.map B8).toArray 56)).alloc (.cells (N.map B8).toArray 48)) w.heap.size 56 (K.map B8) := (Blk.new_of w 56 _ (K.map B8) rfl).alloc _
  have hB := Blk.new2_of w (.cells (K.map B8).toArray 56) 48 (N.map B8).toArray (N.map B8) rfl
  have hbw := ((Below.refl w.heap.size w).alloc (Nat.le_refl _) (.cells (K.map B8).toArray 56)).alloc (by simp) (.cells (N.map B8).toArray 48)
  generalize hgn : w.heap.size + 1 = gn at *
  generalize (w.alloc (.cells (K.map B8).toArray 56)).alloc (.cells (N.map B8).toArray 48) = w1 at *
  go_upto_region 4 with (first
    | (go_at_call 22; go_loud (refine (HK1.out _ _ hA).mono ?_); rintro e w2 ⟨gk, gr, rfl, hgk, hKA, hb2⟩; have hA2 := hA.below hb2 hA.lt)
    | (go_at_call 23; go_loud (refine (HK2.out _ _ hA2).mono ?_); rintro e w3 ⟨gx, hk, hr, rfl, hgx, hBX, hb3⟩))
  have HF := Lib.hid (show FrB w w3 w.heap.size gn gk gr gx hk hr K N L from ⟨hA2.below hb3 hA2.lt, (hB.below hb2 hB.lt).below hb3 (hB.below hb2 hB.lt).lt, hKA.below hb3, hBX, hbw.trans ((hb2.trans (hb3.mono hb2.size)).mono hbw.size)⟩)
  clear hA hA2 hB hbw hb2 hb3 hKA hBX hgk hgx hgn
  go_upto_region 6 with (go_at_call 24; refine (stands_any _ (HT.out.below HF.out.2.2.2.2)).mono ?_; rintro e w4 ⟨rfl, hb4⟩)
  replace HF := Lib.hid (HF.out.below hb4)
  clear hb4
  go_upto_region 7 with (fail)
  have hC := Blk.new_of w4 56 (Z.map B8).toArray (Z.map B8) rfl
  have hb5 : Below w4.heap.size w4 (w4.alloc (.cells (Z.map B8).toArray 56)) := (Below.refl _ _).alloc (Nat.le_refl _) _
  have HGN := Lib.hid (show NewB w w.heap.size gn gk gr gx hk hr w4.heap.size from HF.out.new (Nat.le_refl _))
  replace HF := Lib.hid (HF.out.below hb5)
  clear hb5
  generalize w4.alloc (.cells (Z.map B8).toArray 56) = w6 at *
  generalize w4.heap.size = gc at *
  apply wp_region_once_tail (m := 2) (Z := []) (D := [[], [], [0, 1]]) (J := [[], []]) (Je := [0, 1]) (Rs := [Is _, Is _])
  · kernel_rfl
  · kernel_rfl
  · kernel_rfl
  · kernel_rfl
  · kernel_rfl
  · kernel_rfl
  · kernel_rfl
  · exact fun h => absurd rfl h
  · intro u
    simp only [List.take_succ_cons, List.take_zero, List.map_cons, List.map_nil, fillU, List.setIfInBounds_toArray, List.set_cons_zero, List.set_cons_succ, Nat.zero_add]
    exact rfl
  · simp only [List.take_succ_cons, List.take_zero]
    refine ⟨fun u V hb hd K hK => ?_, ?_⟩
    · clear hd
      go_simp
      apply hK
      · simp only [Act.put, List.setIfInBounds_toArray, List.set_cons_zero, List.set_cons_succ]
        exact rfl
      · exact Below.refl _ _
      · exact IsOut
    refine ⟨fun u V hb hd K hK => ?_, ?_⟩
    · clear hd
      go_simp
      apply hK
      · simp only [Act.put, List.setIfInBounds_toArray, List.set_cons_zero, List.set_cons_succ]
        exact rfl
      · exact Below.refl _ _
      · exact IsOut
    exact trivial
  · skip
    exact trivial
  · exact (.is (.is .nil))
  · intro u V hb hd
    simp only [List.drop_succ_cons, List.drop_zero]
    simp only [Facts, nthR, Is, and_true] at hd
    simp only [hd]
    replace HF := Lib.hid (HF.out.below hb)
    replace hC := hC.below hb hC.lt
    clear hd
    have hN := HF.out.2.1
    go_upto_region 10 with (refine wpList_copy_blk rfl (.tmp 44) (.tmp 45) 24 24 rfl 5 Tryd.underlying24 info8 _ _ _ _ _ _ rfl rfl gc 0 (Z.map B8) 56 hC (N.map B8) (by rw [List.length_map, HN.out]; rfl) (fun h0 => ⟨rfl, gn, 0, rfl, fun j v hv => by rw [Nat.zero_add, hN.cell]; exact hv⟩) (by rw [List.length_map, List.length_map, HN.out, HZL.out]; decide) (oneB8 _) ?_; intro w5 hC5 hg5)
    rw [HSP.out] at hC5
    replace HF := Lib.hid (HF.out.grown hg5 HGN.out)
    clear hC hg5 hN
    have hC := hC5.alloc (.cells (Z.map B8).toArray 56)
    have hD := Blk.new_of w5 56 (Z.map B8).toArray (Z.map B8) rfl
    have hb6 : Below w5.heap.size w5 (w5.alloc (.cells (Z.map B8).toArray 56)) := (Below.refl _ _).alloc (Nat.le_refl _) _
    have HGP := Lib.hid (show NewB w w.heap.size gn gk gr gx hk hr w5.heap.size from HF.out.new (Nat.le_refl _))
    have HLO := Lib.hid (HF.out.lows (Nat.le_succ w5.heap.size))
    have HGC := Lib.hid (show gc ≠ w5.heap.size ∧ gc < w5.heap.size + 1 by have := hC5.lt; omega)
    replace HF := Lib.hid (HF.out.below hb6)
    have HZV := Lib.hid hz
    clear hb6 hC5 hz
    generalize w5.alloc (.cells (Z.map B8).toArray 56) = w8 at *
    generalize w5.heap.size = gp at *
    have HML := Lib.hid (show (maskE L 11 N P).length = np by rw [maskE_length, HNP.out])
    have HMG := Lib.hid (fun (k : Nat) (h : k < np) => maskE_get L 11 N P k (by rw [HNP.out]; exact h))
    have HSE := Lib.hid (fun (W : World) (q : Nat) (h : FrB w W w.heap.size gn gk gr gx hk hr K N L) => seal_any gk gr 11 L (ctrE N q) W h.2.2.1 (by decide) (by decide) (ctrTo_length _ _ _))
    have HS0 := Lib.hid (fun (W : World) (h : FrB w W w.heap.size gn gk gr gx hk hr K N L) => seal_any gk gr 11 L zero16 W h.2.2.1 (by decide) (by decide) rfl)
    obtain ⟨M, hM⟩ : ∃ M, M = maskE L 11 N P := ⟨_, rfl⟩
    rw [← hM] at HML HMG
    have HM := Lib.hid hM
    have HC0 := Lib.hid (And.intro hC hD)
    clear hM hC hD
    go_wp2
    go_loopw [12, 14] (fun v i wr => ∃ (k : Nat) (A1 : Option Addr) (c1 : Nat), k ≤ np ∧ i = .int .i64 (k : Int) ∧ v = .slice A1 k c1 ∧ Buf wr (gp + 1) A1 k c1 (M.take k) ∧ Blk wr gc 56 ((ctrE N (cntK k)).map B8) ∧ Blk wr gp 56 ((padK L N Z k).map B8) ∧ FrB w wr w.heap.size gn gk gr gx hk hr K N L) (fun _ i _ => np - (intOf i).toNat)
    case atStart => exact ⟨0, none, 0, Nat.zero_le _, rfl, rfl, Buf.nil _ _, HC0.out.1, HC0.out.2, HF.out⟩
    case round =>
      obtain ⟨k, A1, c1, hkl, rfl, rfl, hB, hC, hD, hF⟩ := hrel
      by_cases hlt : k < np
      · have hd : decide (k < np) = true := by simpa using hlt
        obtain ⟨gb, ob, hAe, hgb, hby⟩ := HIP.out.2.2 (by rw [HNP.out]; exact Nat.lt_of_le_of_lt (Nat.zero_le k) hlt)
        obtain ⟨q, j, q2, k1, ⟨i1, i2, i3, i4⟩, hq, hj, hk1, hk2, hk0, hkI⟩ := ix_bx k np hlt HB3.out
        obtain ⟨pk, hpk⟩ : ∃ y, y = P.getD k 0 := ⟨_, rfl⟩
        have HPC := Lib.hid (fun (W : World) (hb : Below w.heap.size w W) => (show W.cell? ⟨gb, ob + k, none⟩ = some (.int .u8 (pk.toNat : Int)) by rw [hpk]; exact (hb.cell (p := ⟨gb, ob + k, none⟩) hgb).trans (hby k (by rw [HNP.out]; exact hlt))))
        have hmg := HMG.out k hlt
        rw [show padAt L 11 N k = (sealS L 11 (ctrE N q2)).getD j 0 by rw [i1, i2]; rfl, ← hpk] at hmg
        have hxl := HSL.out (ctrE N q2)
        have hse := fun (W : World) (h : FrB w W w.heap.size gn gk gr gx hk hr K N L) => HSE.out W q2 h
        have hcs : k % 16 ≠ 0 → cntK k = q2 ∧ padK L N Z k = sealS L 11 (ctrE N q2) := fun h => by
          have e := cnt_same h
          refine ⟨by rw [e, i1], ?_⟩
          unfold padK
          rw [if_neg (fun e2 => h (by rw [e2])), e, i1]
        have hcn : cntK k1 = q2 ∧ padK L N Z k1 = sealS L 11 (ctrE N q2) := by
          rw [hk1.1]
          refine ⟨by rw [cnt_next, i1], ?_⟩
          unfold padK
          rw [if_neg (Nat.succ_ne_zero k), cnt_next, i1]
        have hset := ctr_set N (cntK k) q2 (cnt_lt (Nat.le_trans hkl HB3.out)) i4
        have htk := take_next M k (by rw [HML.out]; exact hlt)
        obtain ⟨yq, hyq⟩ : ∃ y, y = UInt8.ofNat q2 := ⟨_, rfl⟩
        rw [← hyq] at hset hq
        generalize sealS L 11 (ctrE N q2) = X at *
        obtain ⟨vx, hvx⟩ : ∃ y, y = X.getD j 0 := ⟨_, rfl⟩
        obtain ⟨mk, hmk⟩ : ∃ y, y = M.getD k 0 := ⟨_, rfl⟩
        rw [← hmk] at htk hmg
        rw [← hvx] at hmg
        have hxx := b_xor pk vx
        rw [← hmg] at hxx
        have HXX := Lib.hid hxx
        have HVX := Lib.hid hvx.symm
        have HXL := Lib.hid hxl
        have HTK := Lib.hid htk
        have HCN := Lib.hid hcn
        have HSE2 := Lib.hid hse
        have HJM := Lib.hid i2
        have HKS := Lib.hid (show k < 1000000 from Nat.lt_of_lt_of_le hlt (Nat.le_trans HB3.out (by decide)))
        have HK1 := Lib.hid hk1
        have HK2 := Lib.hid hk2
        have HJ := Lib.hid i3
        have HHJ := Lib.hid hj
        have HHQ := Lib.hid hq
        have HST := Lib.hid hset
        have HPL := Lib.hid (show (padK L N Z k).length = 16 by unfold padK; split; exact HZL.out; exact HSL.out _)
        have HCL := Lib.hid (fun (a : Nat) => (show (ctrE N a).length = 16 from ctrTo_length _ _ _))
        subst hAe
        clear hpk hvx hmk hmg hxl hxx hcn htk hse hk1 i1 i2 i3 i4 hby hgb hq hset hyq
        obtain ⟨m1, m2, m3, m4⟩ := hj
        by_cases hz0 : j = 0
        · have hz1 : (k : Int).tmod 16 = 0 := by rw [m1, hz0]; rfl
          clear m1 m2 m3 m4 hcs hz0
          go_upto_region 14 with (fail)
          obtain ⟨q1, q2', q3, q4, q5⟩ := HHQ.out
          have h15 := hC.at8 15 (by rw [HCL.out]; decide)
          have hf15 := hC.frozen 15
          have hC2 := hC.set_ 15 (.int .u8 (yq.toNat : Int))
          rw [show Value.int .u8 (yq.toNat : Int) = B8 yq from rfl, map_set8, HST.out] at hC2
          have hgs := grown_setCell (grown_refl wr (some gc)) (p := ⟨gc, 15, none⟩) (.inl rfl) (.int .u8 (yq.toNat : Int))
          go_upto_region 15 with (fail)
          replace hC2 : Blk (wr.setCell ⟨gc, 15, none⟩ (.int .u8 (yq.toNat : Int))) gc 56 ((ctrE N q2).map B8) := hC2
          replace hD := hD.grown hgs (by simpa using Ne.symm HGC.out.1)
          replace hB := hB.kept hgs (fun g e h => by have h1 := (hB.lt e).1; have h2 := HGC.out.2; injection h with h; omega)
          replace hF := hF.grown hgs HGN.out
          clear hC h15 hf15 hgs q1 q2' q3 q4 q5 hz1
          generalize wr.setCell ⟨gc, 15, none⟩ (.int .u8 (yq.toNat : Int)) = ws at *
          go_upto_region 16 with (first
            | ((with_reducible refine (?_ : wpList _ _ _ (Oper.mk (some 62) _ _ _ _ _ :: _) _ _)); go_loud (refine wpList_load_blk rfl 56 (.tmp 11) rfl gc rfl 56 _ _ hC2 Tryd.underlying56 rfl (infoBk.trans (by rw [List.length_map, HCL.out])) ?_))
            | (go_at_call 25; refine (HSE2.out _ hF).mono ?_; rintro e w7 ⟨rfl, hb7⟩; replace hC2 := hC2.below hb7 hC2.lt; replace hD := hD.below hb7 hD.lt; replace hB := hB.below hb7; replace hF := hF.below hb7)
            | ((with_reducible refine (?_ : wpList _ _ _ (Oper.mk none (.store 56 (.tmp 13) _) _ _ _ _ :: _) _ _)); go_loud (refine wpList_store_blk rfl 56 (.tmp 13) (.tmp 63) rfl rfl gp _ rfl rfl 56 _ hD (infoBk.trans (by rw [List.length_map, HXL.out])) (by rw [List.length_map, List.length_map, HPL.out, HXL.out]) (one8 _) ?_); intro w9 hD9 hg9))
          have hC := hC2.grown hg9 (by simpa using HGC.out.1)
          replace hB := hB.kept hg9 (fun g e h => by have h1 := (hB.lt e).1; injection h with h; omega)
          replace hF := hF.grown hg9 HGP.out
          clear hC2 hD hb7 hg9
          have hD := hD9
          clear hD9
          obtain ⟨m1, m2, m3, m4⟩ := HHJ.out
          refine wp_region_noPanic ?_
          refine wp_region_held_drew (S := fun W => Blk W gp 56 (X.map B8) ∧ Blk W gc 56 ((ctrE N q2).map B8) ∧ FrB w W w.heap.size gn gk gr gx hk hr K N L) (by kernel_rfl) (by exact ⟨hD.drewN 1, hC.drewN 1, hF.below (below_drewN (Below.refl _ _) 1)⟩) (fun hHeld => ?_)
          refine wpAnyH_take (i := 0) (oi := ⟨_, _, _, _, _, _⟩) (v := ?_) rfl (by kernel_rfl) (by kernel_rfl) (by kernel_rfl) (fun _ _ _ h => h) (Or.inl ⟨by rfl, ?_⟩) hHeld ?_
          rotate_left 1
          · (intro W hSw; (try dsimp only at hSw); go_simp; try with_reducible rfl)
          try simp only [Act.put, List.setIfInBounds_toArray, List.set_cons_zero, List.set_cons_succ]
          refine wpAnyH_take (i := 1) (oi := ⟨_, _, _, _, _, _⟩) (v := ?_) rfl (by kernel_rfl) (by kernel_rfl) (by kernel_rfl) (fun _ _ _ h => h) (Or.inl ⟨by rfl, ?_⟩) hHeld ?_
          rotate_left 1
          · (intro W hSw; (try dsimp only at hSw); go_simp; try with_reducible rfl)
          try simp only [Act.put, List.setIfInBounds_toArray, List.set_cons_zero, List.set_cons_succ]
          refine wpAnyH_take (i := 2) (oi := ⟨_, _, _, _, _, _⟩) (v := ?_) rfl (by kernel_rfl) (by kernel_rfl) (by kernel_rfl) (fun _ _ _ h => h) (Or.inl ⟨by rfl, ?_⟩) hHeld ?_
          rotate_left 1
          · (intro W hSw; (try dsimp only at hSw); go_simp; try with_reducible rfl)
          try simp only [Act.put, List.setIfInBounds_toArray, List.set_cons_zero, List.set_cons_succ]
          refine wpAnyH_take (i := 3) (oi := ⟨_, _, _, _, _, _⟩) (v := ?_) rfl (by kernel_rfl) (by kernel_rfl) (by kernel_rfl) (fun _ _ _ h => h) (Or.inl ⟨by rfl, ?_⟩) hHeld ?_
          rotate_left 1
          · (intro W hSw; (try dsimp only at hSw); go_simp; try with_reducible rfl)
          try simp only [Act.put, List.setIfInBounds_toArray, List.set_cons_zero, List.set_cons_succ]
          refine wpAnyH_take (i := 4) (oi := ⟨_, _, _, _, _, _⟩) (v := ?_) rfl (by kernel_rfl) (by kernel_rfl) (by kernel_rfl) (fun _ _ _ h => h) (Or.inl ⟨by rfl, ?_⟩) hHeld ?_
          rotate_left 1
          · (intro W hSw; (try dsimp only at hSw); have hcc := HPC.out W hSw.2.2.2.2.2.2; go_simp; try with_reducible rfl)
          try simp only [Act.put, List.setIfInBounds_toArray, List.set_cons_zero, List.set_cons_succ]
          refine wpAnyH_take (i := 5) (oi := ⟨_, _, _, _, _, _⟩) (v := ?_) rfl (by kernel_rfl) (by kernel_rfl) (by kernel_rfl) (fun _ _ _ h => h) (Or.inl ⟨by rfl, ?_⟩) hHeld ?_
          rotate_left 1
          · (intro W hSw; (try dsimp only at hSw); go_simp; try with_reducible rfl)
          try simp only [Act.put, List.setIfInBounds_toArray, List.set_cons_zero, List.set_cons_succ]
          refine wpAnyH_take (i := 6) (oi := ⟨_, _, _, _, _, _⟩) (v := ?_) rfl (by kernel_rfl) (by kernel_rfl) (by kernel_rfl) (fun _ _ _ h => h) (Or.inl ⟨by rfl, ?_⟩) hHeld ?_
          rotate_left 1
          · (intro W hSw; (try dsimp only at hSw); go_simp; try with_reducible rfl)
          try simp only [Act.put, List.setIfInBounds_toArray, List.set_cons_zero, List.set_cons_succ]
          refine wpAnyH_take (i := 7) (oi := ⟨_, _, _, _, _, _⟩) (v := ?_) rfl (by kernel_rfl) (by kernel_rfl) (by kernel_rfl) (fun _ _ _ h => h) (Or.inl ⟨by rfl, ?_⟩) hHeld ?_
          rotate_left 1
          · (intro W hSw; (try dsimp only at hSw); go_simp; try with_reducible rfl)
          try simp only [Act.put, List.setIfInBounds_toArray, List.set_cons_zero, List.set_cons_succ]
          refine wpAnyH_take (i := 8) (oi := ⟨_, _, _, _, _, _⟩) (v := ?_) rfl (by kernel_rfl) (by kernel_rfl) (by kernel_rfl) (fun _ _ _ h => h) (Or.inl ⟨by rfl, ?_⟩) hHeld ?_
          rotate_left 1
          · (intro W hSw; (try dsimp only at hSw); have hcc := hSw.1.at8 j (by rw [HXL.out]; exact HJ.out); rw [HVX.out] at hcc; go_simp; try with_reducible rfl)
          try simp only [Act.put, List.setIfInBounds_toArray, List.set_cons_zero, List.set_cons_succ]
          refine wpAnyH_take (i := 9) (oi := ⟨_, _, _, _, _, _⟩) (v := ?_) rfl (by kernel_rfl) (by kernel_rfl) (by kernel_rfl) (fun _ _ _ h => h) (Or.inl ⟨by rfl, ?_⟩) hHeld ?_
          rotate_left 1
          · (intro W hSw; (try dsimp only at hSw); have hxx := HXX.out; go_simp; try with_reducible rfl)
          try simp only [Act.put, List.setIfInBounds_toArray, List.set_cons_zero, List.set_cons_succ]
          have hB1 := hB.drew
          replace hHeld : Blk w9.drew gp 56 (X.map B8) ∧ Blk w9.drew gc 56 ((ctrE N q2).map B8) ∧ FrB w w9.drew w.heap.size gn gk gr gx hk hr K N L := hHeld
          clear hB hC hD hF
          generalize w9.drew = wd at *
          refine wpAnyH_ready (rs := [10]) (by kernel_rfl) (by simp) ?_
          refine AllReadyH.cons (o := ⟨_, _, _, _, _, _⟩) rfl (fun K hK => ?_) AllReadyH.nil
          go_simp
          have hal : Below wd.heap.size wd (wd.alloc (.cells #[.int .u8 (mk.toNat : Int)] 5)) := (Below.refl _ _).alloc (Nat.le_refl _) _
          refine hK.out _ _ ⟨hHeld.1.below hal hHeld.1.lt, hHeld.2.1.below hal hHeld.2.1.lt, hHeld.2.2.below hal⟩ (fun hHeld => ?_)
          clear hK K
          try simp only [Act.put, List.setIfInBounds_toArray, List.set_cons_zero, List.set_cons_succ]
          refine wpAnyH_ready (rs := [11]) (by kernel_rfl) (by simp) ?_
          refine AllReadyH.cons (o := ⟨_, _, _, _, _, _⟩) rfl (fun K hK => ?_) AllReadyH.nil
          refine step_append_keep (by rfl) (.tmp 64) (.tmp 74) 24 rfl (gp + 1) A1 k c1 (M.take k) [mk] _ rfl (hB1.alloc _) rfl (src_byte (new_cell _ _ _)) (by have := HKS.out; simp; omega) hHeld.1.lt k1 (by rw [HK1.out.1]; rfl) ?_
          intro A3 c3 w3 hB3 hg3 _
          have hb3 : Below (gp + 1) _ w3 := below_own (Below.refl (gp + 1) _) (hB1.alloc _) hg3 (Nat.le_refl _) hHeld.1.lt
          refine hK.out _ _ ⟨hHeld.1.below hb3 (Nat.lt_succ_self _), hHeld.2.1.below hb3 HGC.out.2, hHeld.2.2.low hb3 HLO.out⟩ (fun hHeld => ?_)
          clear hK K hb3 hg3 hal hB1
          try simp only [Act.put, List.setIfInBounds_toArray, List.set_cons_zero, List.set_cons_succ]
          refine wpAnyH_take (i := 12) (oi := ⟨_, _, _, _, _, _⟩) (v := ?_) rfl (by kernel_rfl) (by kernel_rfl) (by kernel_rfl) (fun _ _ _ h => h) (Or.inl ⟨by rfl, ?_⟩) hHeld ?_
          rotate_left 1
          · (intro W hSw; (try dsimp only at hSw); go_simp; try with_reducible rfl)
          try simp only [Act.put, List.setIfInBounds_toArray, List.set_cons_zero, List.set_cons_succ]
          refine wpAnyH_done (by kernel_rfl) ?_ _
          refine NoPanic.normal ?_
          obtain ⟨m5, m6⟩ := HK2.out
          have HB3' := Lib.hid hB3
          clear m1 m2 m3 m4 hd hk0 hkI hB3 m5 m6
          have HHE := Lib.hid (show Blk w3 gp 56 (X.map B8) ∧ Blk w3 gc 56 ((ctrE N q2).map B8) ∧ FrB w w3 w.heap.size gn gk gr gx hk hr K N L from hHeld)
          clear hHeld
          go_wp2
          go_roundw
          case rel => exact ⟨k1, A3, c3, HK1.out.2.1, by simp only [HK2.out.2], rfl, by have h := HB3'.out; rw [← HTK.out, ← HK1.out.1] at h; exact h, by rw [HCN.out.1]; exact HHE.out.2.1, by rw [HCN.out.2]; exact HHE.out.1, HHE.out.2.2⟩
          case measure => simp only [HK2.out.2]; exact HK1.out.2.2
        · have hz1 : ((j : Int) == 0) = false := by simpa using hz0
          have hzk : k % 16 ≠ 0 := fun h => hz0 (by rw [HJM.out]; exact h)
          rw [(hcs hzk).1] at hC
          rw [(hcs hzk).2] at hD
          clear hcs hzk
          go_upto_region 16 with (fail)
          clear hz1
          refine wp_region_noPanic ?_
          refine wp_region_held_drew (S := fun W => Blk W gp 56 (X.map B8) ∧ Blk W gc 56 ((ctrE N q2).map B8) ∧ FrB w W w.heap.size gn gk gr gx hk hr K N L) (by kernel_rfl) (by exact ⟨hD.drewN 1, hC.drewN 1, hF.below (below_drewN (Below.refl _ _) 1)⟩) (fun hHeld => ?_)
          refine wpAnyH_take (i := 0) (oi := ⟨_, _, _, _, _, _⟩) (v := ?_) rfl (by kernel_rfl) (by kernel_rfl) (by kernel_rfl) (fun _ _ _ h => h) (Or.inl ⟨by rfl, ?_⟩) hHeld ?_
          rotate_left 1
          · (intro W hSw; (try dsimp only at hSw); go_simp; try with_reducible rfl)
          try simp only [Act.put, List.setIfInBounds_toArray, List.set_cons_zero, List.set_cons_succ]
          refine wpAnyH_take (i := 1) (oi := ⟨_, _, _, _, _, _⟩) (v := ?_) rfl (by kernel_rfl) (by kernel_rfl) (by kernel_rfl) (fun _ _ _ h => h) (Or.inl ⟨by rfl, ?_⟩) hHeld ?_
          rotate_left 1
          · (intro W hSw; (try dsimp only at hSw); go_simp; try with_reducible rfl)
          try simp only [Act.put, List.setIfInBounds_toArray, List.set_cons_zero, List.set_cons_succ]
          refine wpAnyH_take (i := 2) (oi := ⟨_, _, _, _, _, _⟩) (v := ?_) rfl (by kernel_rfl) (by kernel_rfl) (by kernel_rfl) (fun _ _ _ h => h) (Or.inl ⟨by rfl, ?_⟩) hHeld ?_
          rotate_left 1
          · (intro W hSw; (try dsimp only at hSw); go_simp; try with_reducible rfl)
          try simp only [Act.put, List.setIfInBounds_toArray, List.set_cons_zero, List.set_cons_succ]
          refine wpAnyH_take (i := 3) (oi := ⟨_, _, _, _, _, _⟩) (v := ?_) rfl (by kernel_rfl) (by kernel_rfl) (by kernel_rfl) (fun _ _ _ h => h) (Or.inl ⟨by rfl, ?_⟩) hHeld ?_
          rotate_left 1
          · (intro W hSw; (try dsimp only at hSw); go_simp; try with_reducible rfl)
          try simp only [Act.put, List.setIfInBounds_toArray, List.set_cons_zero, List.set_cons_succ]
          refine wpAnyH_take (i := 4) (oi := ⟨_, _, _, _, _, _⟩) (v := ?_) rfl (by kernel_rfl) (by kernel_rfl) (by kernel_rfl) (fun _ _ _ h => h) (Or.inl ⟨by rfl, ?_⟩) hHeld ?_
          rotate_left 1
          · (intro W hSw; (try dsimp only at hSw); have hcc := HPC.out W hSw.2.2.2.2.2.2; go_simp; try with_reducible rfl)
          try simp only [Act.put, List.setIfInBounds_toArray, List.set_cons_zero, List.set_cons_succ]
          refine wpAnyH_take (i := 5) (oi := ⟨_, _, _, _, _, _⟩) (v := ?_) rfl (by kernel_rfl) (by kernel_rfl) (by kernel_rfl) (fun _ _ _ h => h) (Or.inl ⟨by rfl, ?_⟩) hHeld ?_
          rotate_left 1
          · (intro W hSw; (try dsimp only at hSw); go_simp; try with_reducible rfl)
          try simp only [Act.put, List.setIfInBounds_toArray, List.set_cons_zero, List.set_cons_succ]
          refine wpAnyH_take (i := 6) (oi := ⟨_, _, _, _, _, _⟩) (v := ?_) rfl (by kernel_rfl) (by kernel_rfl) (by kernel_rfl) (fun _ _ _ h => h) (Or.inl ⟨by rfl, ?_⟩) hHeld ?_
          rotate_left 1
          · (intro W hSw; (try dsimp only at hSw); go_simp; try with_reducible rfl)
          try simp only [Act.put, List.setIfInBounds_toArray, List.set_cons_zero, List.set_cons_succ]
          refine wpAnyH_take (i := 7) (oi := ⟨_, _, _, _, _, _⟩) (v := ?_) rfl (by kernel_rfl) (by kernel_rfl) (by kernel_rfl) (fun _ _ _ h => h) (Or.inl ⟨by rfl, ?_⟩) hHeld ?_
          rotate_left 1
          · (intro W hSw; (try dsimp only at hSw); go_simp; try with_reducible rfl)
          try simp only [Act.put, List.setIfInBounds_toArray, List.set_cons_zero, List.set_cons_succ]
          refine wpAnyH_take (i := 8) (oi := ⟨_, _, _, _, _, _⟩) (v := ?_) rfl (by kernel_rfl) (by kernel_rfl) (by kernel_rfl) (fun _ _ _ h => h) (Or.inl ⟨by rfl, ?_⟩) hHeld ?_
          rotate_left 1
          · (intro W hSw; (try dsimp only at hSw); have hcc := hSw.1.at8 j (by rw [HXL.out]; exact HJ.out); rw [HVX.out] at hcc; go_simp; try with_reducible rfl)
          try simp only [Act.put, List.setIfInBounds_toArray, List.set_cons_zero, List.set_cons_succ]
          refine wpAnyH_take (i := 9) (oi := ⟨_, _, _, _, _, _⟩) (v := ?_) rfl (by kernel_rfl) (by kernel_rfl) (by kernel_rfl) (fun _ _ _ h => h) (Or.inl ⟨by rfl, ?_⟩) hHeld ?_
          rotate_left 1
          · (intro W hSw; (try dsimp only at hSw); have hxx := HXX.out; go_simp; try with_reducible rfl)
          try simp only [Act.put, List.setIfInBounds_toArray, List.set_cons_zero, List.set_cons_succ]
          have hB1 := hB.drew
          replace hHeld : Blk wr.drew gp 56 (X.map B8) ∧ Blk wr.drew gc 56 ((ctrE N q2).map B8) ∧ FrB w wr.drew w.heap.size gn gk gr gx hk hr K N L := hHeld
          clear hB hC hD hF
          generalize wr.drew = wd at *
          refine wpAnyH_ready (rs := [10]) (by kernel_rfl) (by simp) ?_
          refine AllReadyH.cons (o := ⟨_, _, _, _, _, _⟩) rfl (fun K hK => ?_) AllReadyH.nil
          go_simp
          have hal : Below wd.heap.size wd (wd.alloc (.cells #[.int .u8 (mk.toNat : Int)] 5)) := (Below.refl _ _).alloc (Nat.le_refl _) _
          refine hK.out _ _ ⟨hHeld.1.below hal hHeld.1.lt, hHeld.2.1.below hal hHeld.2.1.lt, hHeld.2.2.below hal⟩ (fun hHeld => ?_)
          clear hK K
          try simp only [Act.put, List.setIfInBounds_toArray, List.set_cons_zero, List.set_cons_succ]
          refine wpAnyH_ready (rs := [11]) (by kernel_rfl) (by simp) ?_
          refine AllReadyH.cons (o := ⟨_, _, _, _, _, _⟩) rfl (fun K hK => ?_) AllReadyH.nil
          refine step_append_keep (by rfl) (.tmp 64) (.tmp 74) 24 rfl (gp + 1) A1 k c1 (M.take k) [mk] _ rfl (hB1.alloc _) rfl (src_byte (new_cell _ _ _)) (by have := HKS.out; simp; omega) hHeld.1.lt k1 (by rw [HK1.out.1]; rfl) ?_
          intro A3 c3 w3 hB3 hg3 _
          have hb3 : Below (gp + 1) _ w3 := below_own (Below.refl (gp + 1) _) (hB1.alloc _) hg3 (Nat.le_refl _) hHeld.1.lt
          refine hK.out _ _ ⟨hHeld.1.below hb3 (Nat.lt_succ_self _), hHeld.2.1.below hb3 HGC.out.2, hHeld.2.2.low hb3 HLO.out⟩ (fun hHeld => ?_)
          clear hK K hb3 hg3 hal hB1
          try simp only [Act.put, List.setIfInBounds_toArray, List.set_cons_zero, List.set_cons_succ]
          refine wpAnyH_take (i := 12) (oi := ⟨_, _, _, _, _, _⟩) (v := ?_) rfl (by kernel_rfl) (by kernel_rfl) (by kernel_rfl) (fun _ _ _ h => h) (Or.inl ⟨by rfl, ?_⟩) hHeld ?_
          rotate_left 1
          · (intro W hSw; (try dsimp only at hSw); go_simp; try with_reducible rfl)
          try simp only [Act.put, List.setIfInBounds_toArray, List.set_cons_zero, List.set_cons_succ]
          refine wpAnyH_done (by kernel_rfl) ?_ _
          refine NoPanic.normal ?_
          obtain ⟨m5, m6⟩ := HK2.out
          have HB3' := Lib.hid hB3
          clear m1 m2 m3 m4 hd hk0 hkI hB3 m5 m6
          have HHE := Lib.hid (show Blk w3 gp 56 (X.map B8) ∧ Blk w3 gc 56 ((ctrE N q2).map B8) ∧ FrB w w3 w.heap.size gn gk gr gx hk hr K N L from hHeld)
          clear hHeld
          go_wp2
          go_roundw
          case rel => exact ⟨k1, A3, c3, HK1.out.2.1, by simp only [HK2.out.2], rfl, by have h := HB3'.out; rw [← HTK.out, ← HK1.out.1] at h; exact h, by rw [HCN.out.1]; exact HHE.out.2.1, by rw [HCN.out.2]; exact HHE.out.1, HHE.out.2.2⟩
          case measure => simp only [HK2.out.2]; exact HK1.out.2.2
      · have hd : decide (k < np) = false := by simpa using hlt
        have hkn : k = np := Nat.le_antisymm hkl (Nat.le_of_not_lt hlt)
        rw [hkn] at hB hC hD hd
        rw [hkn]
        rw [show M.take np = M by rw [← HML.out]; exact List.take_length] at hB
        clear hkn hlt hkl
        have HHB := Lib.hid hB
        have HHC := Lib.hid hC
        have HHD := Lib.hid hD
        have HHF := Lib.hid hF
        clear hB hC hD hF HF HC0 HMG k
        have HKZ := Lib.hid (show ∀ W : World, FrB w W w.heap.size gn gk gr gx hk hr K N L → Calls Tryd.prog 25 #[.pointer (some ⟨gk, 0, none⟩), .agg #[.int .u8 0, .int .u8 0, .int .u8 0, .int .u8 0, .int .u8 0, .int .u8 0, .int .u8 0, .int .u8 0, .int .u8 0, .int .u8 0, .int .u8 0, .int .u8 0, .int .u8 0, .int .u8 0, .int .u8 0, .int .u8 0]] W fun e w' => e = .returned (BV (sealS L 11 zero16)) ∧ Below W.heap.size W w' from fun W h => HS0.out W h)
        have hf0 := HSL.out zero16
        have HFO := Lib.hid (fun (W : World) (A : Option Addr) (c : Nat) (h : PIn W W.heap.size A c [besB, M, cntE [besB, M]]) => (show Calls Tryd.prog 26 #[BV (sealS L 11 zero16), .slice A 3 c] W fun e w' => e = .returned (BV (sumE L 11 M besB)) ∧ Below W.heap.size W w' from fold_e (sealS L 11 zero16) A c [besB, M, cntE [besB, M]] W hf0 h))
        have HTL := Lib.hid (sumE_length L 11 M besB)
        have HCL2 := Lib.hid (show (cntE [besB, M]).length = 16 from rfl)
        have HTG := Lib.hid (show tagE L 11 N M besB = putE (sumE L 11 M besB) (sealS L 11 (ctrE N 1)) from rfl)
        have HXX1 := Lib.hid (show (sealS L 11 (ctrE N 1)).length = 16 from HSL.out _)
        have HST1 := Lib.hid (show (ctrE N (cntK np)).set 15 1 = ctrE N 1 from ctr_set N (cntK np) 1 (cnt_lt HB3.out) (by decide))
        have HCLN := Lib.hid (show (ctrE N (cntK np)).length = 16 from ctrTo_length _ _ _)
        have HC1L := Lib.hid (show (ctrE N 1).length = 16 from ctrTo_length _ _ _)
        have HPLN := Lib.hid (show (padK L N Z np).length = 16 by unfold padK; split; exact HZL.out; exact HSL.out _)
        generalize sumE L 11 M besB = T0 at *
        generalize sealS L 11 zero16 = F0 at *
        clear hf0
        have hcs := fun (w : World) (C : Array Value) (n c : Nat) => Lib.run_convert_bytes_const (P := Tryd.prog) w 24 5 C n c Tryd.underlying24 Tryd.underlying5
        go_upto_region 18 with (fail)
        clear hcs
        have hbs := buf_bes wr
        have hb9 : Below wr.heap.size wr (wr.alloc (.cells (besB.map B8).toArray 5 (6, 7))) := (Below.refl _ _).alloc (Nat.le_refl _) _
        have HG5 := Lib.hid (show gp < wr.heap.size ∧ gc < wr.heap.size ∧ (∀ g, A1 = some ⟨g, 0, none⟩ → g < wr.heap.size) from ⟨HHD.out.lt, HHC.out.lt, fun g e => (HHB.out.lt e).2⟩)
        have hB := HHB.out.below hb9
        have hC := HHC.out.below hb9 HHC.out.lt
        have hD := HHD.out.below hb9 HHD.out.lt
        have hF := HHF.out.below hb9
        change Code.wp _ _ _ _ (wr.alloc (.cells (besB.map B8).toArray 5 (6, 7)))
        clear hb9 HHB HHC HHD HHF
        generalize wr.alloc (.cells (besB.map B8).toArray 5 (6, 7)) = w10 at *
        generalize wr.heap.size = gs at *
        have hz := HZV.out
        go_upto_region 19 with (fail)
        clear hz
        have hE := Blk.new_of w10 56 (Z.map B8).toArray (Z.map B8) rfl
        have hb9 : Below w10.heap.size w10 (w10.alloc (.cells (Z.map B8).toArray 56)) := (Below.refl _ _).alloc (Nat.le_refl _) _
        have HG6 := Lib.hid (show gp < w10.heap.size ∧ gc < w10.heap.size ∧ gs < w10.heap.size ∧ (∀ g, A1 = some ⟨g, 0, none⟩ → g < w10.heap.size) from ⟨hD.lt, hC.lt, (hbs.lt rfl).2, fun g e => (hB.lt e).2⟩)
        have HN16 := Lib.hid (show NewB w w.heap.size gn gk gr gx hk hr w10.heap.size from hF.new (Nat.le_refl _))
        have HHB := Lib.hid (hB.below hb9)
        have HHC := Lib.hid (hC.below hb9 hC.lt)
        have HHD := Lib.hid (hD.below hb9 hD.lt)
        have HHS := Lib.hid (hbs.below hb9)
        have HHF := Lib.hid (hF.below hb9)
        clear hb9 hB hC hD hF hbs
        generalize w10.alloc (.cells (Z.map B8).toArray 56) = w11 at *
        generalize w10.heap.size = ge at *
        obtain ⟨n8, hn8, hn8b, n1, n2, n3, n4⟩ := ix_n8 np HB3.out
        obtain ⟨y14, hy14⟩ : ∃ y, y = UInt8.ofNat (n8 / 256) := ⟨_, rfl⟩
        obtain ⟨y15, hy15⟩ : ∃ y, y = UInt8.ofNat n8 := ⟨_, rfl⟩
        rw [← hy14] at n3
        rw [← hy15] at n4
        have HCN := Lib.hid (show cntE [besB, M] = ((Z.set 7 48).set 14 y14).set 15 y15 by rw [hy14, hy15, HZ16.out]; exact cnt_boxes M n8 (by rw [HML.out]; exact hn8.symm) hn8b)
        clear hn8 hn8b hy14 hy15
        have a7 := hE.at8 7 (by rw [HZL.out]; decide)
        have b7 := hE.frozen 7
        have hE1 := hE.set_ 7 (.int .u8 48)
        rw [show Value.int .u8 48 = B8 48 from rfl, map_set8] at hE1
        have a14 := hE.at8 14 (by rw [HZL.out]; decide)
        have b14 := hE.frozen 14
        have hE2 := hE1.set_ 14 (.int .u8 (y14.toNat : Int))
        rw [show Value.int .u8 (y14.toNat : Int) = B8 y14 from rfl, map_set8] at hE2
        have a15 := hE.at8 15 (by rw [HZL.out]; decide)
        have b15 := hE.frozen 15
        have hE3 := hE2.set_ 15 (.int .u8 (y15.toNat : Int))
        rw [show Value.int .u8 (y15.toNat : Int) = B8 y15 from rfl, map_set8, ← HCN.out] at hE3
        have hgs := grown_setCell (grown_setCell (grown_setCell (grown_refl w11 (some ge)) (p := ⟨ge, 7, none⟩) (.inl rfl) (.int .u8 48)) (p := ⟨ge, 14, none⟩) (.inl rfl) (.int .u8 (y14.toNat : Int))) (p := ⟨ge, 15, none⟩) (.inl rfl) (.int .u8 (y15.toNat : Int))
        replace hE3 := Lib.hid hE3
        replace hgs := Lib.hid hgs
        clear hE1 hE2 hE
        go_upto_region 20 with (fail)
        have hE : Blk (((w11.setCell ⟨ge, 7, none⟩ (.int .u8 48)).setCell ⟨ge, 14, none⟩ (.int .u8 (y14.toNat : Int))).setCell ⟨ge, 15, none⟩ (.int .u8 (y15.toNat : Int))) ge 56 ((cntE [besB, M]).map B8) := hE3.out
        have hgs := hgs.out
        have hB := HHB.out.kept hgs (fun g e h => by have h1 := HG6.out.2.2.2 g e; injection h with h; omega)
        have hC := HHC.out.grown hgs (by have := HG6.out.2.1; simp; omega)
        have hD := HHD.out.grown hgs (by have := HG6.out.1; simp; omega)
        have hS := HHS.out.kept hgs (fun g e h => by have h1 := HG6.out.2.2.1; injection e with e; injection e with e; injection h with h; omega)
        have hF := HHF.out.grown hgs HN16.out
        clear hE3 hgs HHB HHC HHD HHS HHF a7 b7 a14 b14 a15 b15 n1 n2 n3 n4
        generalize ((w11.setCell ⟨ge, 7, none⟩ (.int .u8 48)).setCell ⟨ge, 14, none⟩ (.int .u8 (y14.toNat : Int))).setCell ⟨ge, 15, none⟩ (.int .u8 (y15.toNat : Int)) = w12 at *
        apply wp_region_fresh (m := 9) (Z := []) (Fl := [false, false, false, false, false, false, false, false, true]) (D := [[], [], [0, 1], [], [], [], [3, 4, 5], [0, 1, 2, 3, 4, 5, 6], [], [0, 1, 2, 3, 4, 5, 6, 7, 8]]) (J := [[], [], [0, 1], [], [], [], [3, 4, 5], [2, 6], []]) (Je := [7, 8]) (Rs := [Is _, Is _, Is _, Is _, Is _, Is _, fun v V => ∃ (A : Option Addr) (c : Nat), v = .slice A 3 c ∧ PIn V V.heap.size A c [besB, M, cntE [besB, M]], Is _, fun v V => ∃ g, v = .pointer (some ⟨g, 0, none⟩) ∧ w12.heap.size ≤ g ∧ Blk V g 56 (Z.map B8)])
        · kernel_rfl
        · kernel_rfl
        · kernel_rfl
        · kernel_rfl
        · kernel_rfl
        · kernel_rfl
        · kernel_rfl
        · kernel_rfl
        · exact fun h => absurd rfl h
        · intro u
          simp only [List.take_succ_cons, List.take_zero, List.map_cons, List.map_nil, fillU, List.setIfInBounds_toArray, List.set_cons_zero, List.set_cons_succ, Nat.zero_add, Nat.reduceAdd]
          exact rfl
        · simp only [List.take_succ_cons, List.take_zero]
          refine ⟨fun u V hb hd K hK => ?_, ?_⟩
          · clear hd
            go_simp
            apply hK
            · simp only [Act.put, List.setIfInBounds_toArray, List.set_cons_zero, List.set_cons_succ]
              exact rfl
            · exact Below.refl _ _
            · exact IsOut
          refine ⟨fun u V hb hd K hK => ?_, ?_⟩
          · clear hd
            go_simp
            apply hK
            · simp only [Act.put, List.setIfInBounds_toArray, List.set_cons_zero, List.set_cons_succ]
              exact rfl
            · exact Below.refl _ _
            · exact IsOut
          refine ⟨fun u V hb hd K hK => ?_, ?_⟩
          · simp only [Facts, nthR, Is, and_true] at hd
            simp only [hd] at hK ⊢
            clear hd
            go_simp
            refine (HKZ.out V (hF.below hb)).mono ?_
            rintro e wy ⟨rfl, hby⟩
            exact hK _ _ _ rfl hby IsOut
          refine ⟨fun u V hb hd K hK => ?_, ?_⟩
          · clear hd
            go_simp
            apply hK
            · simp only [Act.put, List.setIfInBounds_toArray, List.set_cons_zero, List.set_cons_succ]
              exact rfl
            · exact Below.refl _ _
            · exact IsOut
          refine ⟨fun u V hb hd K hK => ?_, ?_⟩
          · clear hd
            go_simp
            apply hK
            · simp only [Act.put, List.setIfInBounds_toArray, List.set_cons_zero, List.set_cons_succ]
              exact rfl
            · exact Below.refl _ _
            · exact IsOut
          refine ⟨fun u V hb hd K hK => ?_, ?_⟩
          · clear hd
            go_simp
            apply hK
            · simp only [Act.put, List.setIfInBounds_toArray, List.set_cons_zero, List.set_cons_succ]
              exact rfl
            · exact Below.refl _ _
            · exact IsOut
          refine ⟨fun u V hb hd K hK => ?_, ?_⟩
          · simp only [Facts, nthR, Is, and_true] at hd
            simp only [hd] at hK ⊢
            clear hd
            go_simp
            apply hK
            · simp only [Act.put, List.setIfInBounds_toArray, List.set_cons_zero, List.set_cons_succ]
              exact rfl
            · exact (Below.refl _ _).alloc (Nat.le_refl _) _
            · exact ⟨_, _, rfl, pin3 24 (in_up (hS.toIn (Nat.le_refl _)) hb) (in_up (hB.toIn (Nat.le_refl _)) hb) (in_up (in_blk hE HCL2.out (by decide)) hb) rfl HML.out HCL2.out⟩
          refine ⟨fun u V hb hd K hK => ?_, ?_⟩
          · simp only [Facts, nthR, Is, and_true] at hd
            obtain ⟨h92, A, c, h96, hi⟩ := hd
            simp only [h92, h96] at hK ⊢
            clear h92 h96
            go_simp
            refine (HFO.out V A c hi).mono ?_
            rintro e wy ⟨rfl, hby⟩
            exact hK _ _ _ rfl hby IsOut
          refine ⟨fun u V hb hd K hK => ?_, ?_⟩
          · clear hd
            have hz := HZV.out
            go_simp
            apply hK
            · simp only [Act.put, List.setIfInBounds_toArray, List.set_cons_zero, List.set_cons_succ]
              exact rfl
            · exact (Below.refl _ _).alloc (Nat.le_refl _) _
            · exact ⟨_, rfl, hb.size, Blk.new_of _ _ _ _ (by rfl)⟩
            · exact ⟨_, rfl, Nat.le_refl _, by simp⟩
          exact trivial
        · skip
          exact trivial
        · exact (.is (.is (.is (.is (.is (.is (.cons (fun v V V' ⟨A, c, h1, h2⟩ hb => ⟨A, c, h1, pin_upB h2 hb⟩) (.is (.cons (fun v V V' ⟨g, h1, h2, h3⟩ hb => ⟨g, h1, h2, h3.below hb h3.lt⟩) .nil)))))))))
        · intro u V hb hd hne
          simp only [List.drop_succ_cons, List.drop_zero]
          simp only [Facts, nthR, Is, and_true] at hd
          obtain ⟨e1, ⟨gt, e2, hgt, hT⟩⟩ := hd
          simp only [e1, e2]
          clear e1 e2 hne
          have HG7 := Lib.hid (show gp < gt ∧ gc < gt ∧ gs < gt ∧ (∀ g, A1 = some ⟨g, 0, none⟩ → g < gt) from ⟨Nat.lt_of_lt_of_le hD.lt hgt, Nat.lt_of_lt_of_le hC.lt hgt, Nat.lt_of_lt_of_le (hS.lt rfl).2 hgt, fun g e => Nat.lt_of_lt_of_le (hB.lt e).2 hgt⟩)
          have HNT := Lib.hid (show NewB w w.heap.size gn gk gr gx hk hr gt from hF.new hgt)
          replace hB := hB.below hb
          replace hC := hC.below hb hC.lt
          replace hD := hD.below hb hD.lt
          replace hS := hS.below hb
          replace hF := hF.below hb
          clear hb hgt hE
          go_upto_region 21 with ((with_reducible refine (?_ : wpList _ _ _ (Oper.mk none (.store 56 (.tmp 17) _) _ _ _ _ :: _) _ _)); go_loud (refine wpList_store_blk rfl 56 (.tmp 17) (.tmp 97) rfl rfl gt _ rfl rfl 56 _ hT (infoBk.trans (by rw [List.length_map, HTL.out])) (by rw [List.length_map, List.length_map, HZL.out, HTL.out]) (one8 _) ?_); intro w13 hT2 hg13)
          replace hB := hB.kept hg13 (fun g e h => by have h1 := HG7.out.2.2.2 g e; injection h with h; omega)
          replace hC := hC.grown hg13 (by have := HG7.out.2.1; simp; omega)
          replace hD := hD.grown hg13 (by have := HG7.out.1; simp; omega)
          replace hS := hS.kept hg13 (fun g e h => by have h1 := HG7.out.2.2.1; injection e with e; injection e with e; injection h with h; omega)
          replace hF := hF.grown hg13 HNT.out
          clear hT hg13
          have h15 := hC.at8 15 (by rw [HCLN.out]; decide)
          have hf15 := hC.frozen 15
          have hC2 := hC.set_ 15 (.int .u8 1)
          rw [show Value.int .u8 1 = B8 1 from rfl, map_set8, HST1.out] at hC2
          have hgs := grown_setCell (grown_refl w13 (some gc)) (p := ⟨gc, 15, none⟩) (.inl rfl) (.int .u8 1)
          go_upto_region 22 with (fail)
          replace hC2 : Blk (w13.setCell ⟨gc, 15, none⟩ (.int .u8 1)) gc 56 ((ctrE N 1).map B8) := hC2
          replace hT2 := hT2.grown hgs (by have := HG7.out.2.1; simp; omega)
          replace hD := hD.grown hgs (by simpa using Ne.symm HGC.out.1)
          replace hB := hB.kept hgs (fun g e h => by have h1 := (hB.lt e).1; have h2 := HGC.out.2; injection h with h; omega)
          replace hS := hS.kept hgs (fun g e h => by have h1 := HG5.out.2.1; injection e with e; injection e with e; injection h with h; omega)
          replace hF := hF.grown hgs HGN.out
          clear hC h15 hf15 hgs
          generalize w13.setCell ⟨gc, 15, none⟩ (.int .u8 1) = w14 at *
          go_upto_region 23 with (first
            | ((with_reducible refine (?_ : wpList _ _ _ (Oper.mk (some 100) _ _ _ _ _ :: _) _ _)); go_loud (refine wpList_load_blk rfl 56 (.tmp 11) rfl gc rfl 56 _ _ hC2 Tryd.underlying56 rfl (infoBk.trans (by rw [List.length_map, HC1L.out])) ?_))
            | (go_at_call 25; refine (HSE.out _ 1 hF).mono ?_; rintro e w15 ⟨rfl, hb7⟩; replace hT2 := hT2.below hb7 hT2.lt; replace hD := hD.below hb7 hD.lt; replace hB := hB.below hb7; replace hS := hS.below hb7; replace hF := hF.below hb7)
            | ((with_reducible refine (?_ : wpList _ _ _ (Oper.mk none (.store 56 (.tmp 13) _) _ _ _ _ :: _) _ _)); go_loud (refine wpList_store_blk rfl 56 (.tmp 13) (.tmp 101) rfl rfl gp _ rfl rfl 56 _ hD (infoBk.trans (by rw [List.length_map, HXX1.out])) (by rw [List.length_map, List.length_map, HPLN.out, HXX1.out]) (one8 _) ?_); intro w16 hD2 hg16))
          replace hT2 := hT2.grown hg16 (by have := HG7.out.1; simp; omega)
          replace hB := hB.kept hg16 (fun g e h => by have h1 := (hB.lt e).1; injection h with h; omega)
          replace hS := hS.kept hg16 (fun g e h => by have h1 := HG5.out.1; injection e with e; injection e with e; injection h with h; omega)
          replace hF := hF.grown hg16 HGP.out
          have HA1 := Lib.hid (show ∀ g, A1 = some ⟨g, 0, none⟩ → g ≠ gt ∧ g ≠ gs from fun g e => by have h1 := HG7.out.2.2.2 g e; have h2 := HG5.out.2.2 g e; omega)
          have HX1 := Lib.hid (And.intro hT2 (And.intro hD2 (And.intro hS hF)))
          have HB1 := Lib.hid hB
          clear hC2 hD hb7 hg16 hT2 hD2 hS hF hB
          obtain ⟨XX, hXX⟩ : ∃ y, y = sealS L 11 (ctrE N 1) := ⟨_, rfl⟩
          rw [← hXX] at HXX1 HX1 HTG
          obtain ⟨TG, hTG⟩ : ∃ y, y = tagE L 11 N M besB := ⟨_, rfl⟩
          rw [← hTG] at HTG
          have HGG := Lib.hid (fun (t : Nat) (h : t < 16) => (show TG.getD t 0 = T0.getD t 0 ^^^ XX.getD t 0 by rw [HTG.out]; exact putE_get HTL.out HXX1.out t h))
          have HGL := Lib.hid (show TG.length = 16 by rw [hTG]; exact tagE_length _ _ _ _ _)
          have HBE := Lib.hid (show boxE L 11 N P besB = M ++ TG by rw [hTG, HM.out]; rfl)
          clear hXX hTG HTG
          have hld := HML.out
          go_wp2
          go_loopw [12, 18] (fun v i wr => ∃ (t m : Nat) (A2 : Option Addr) (c2 : Nat), t ≤ 16 ∧ Hid (m = np + t) ∧ i = .int .i64 (t : Int) ∧ v = .slice A2 m c2 ∧ Buf wr (gp + 1) A2 m c2 (M ++ TG.take t) ∧ (∀ g, A2 = some ⟨g, 0, none⟩ → g ≠ gt ∧ g ≠ gs) ∧ Blk wr gt 56 (T0.map B8) ∧ Blk wr gp 56 (XX.map B8) ∧ Buf wr gs (some ⟨gs, 0, none⟩) 6 6 besB ∧ FrB w wr w.heap.size gn gk gr gx hk hr K N L) (fun _ i _ => 16 - (intOf i).toNat)
          case atStart => exact ⟨0, np, A1, _, Nat.zero_le _, Lib.hid rfl, rfl, rfl, by rw [List.take_zero, List.append_nil]; exact HB1.out, HA1.out, HX1.out.1, HX1.out.2.1, HX1.out.2.2.1, HX1.out.2.2.2⟩
          case round =>
            clear HB1 HX1 HA1
            obtain ⟨t, m, A2, c2, htl, hm, rfl, rfl, hB, hne, hT, hD, hS, hF⟩ := hrel
            by_cases hlt : t < 16
            · have hd : (t : Int) < 16 := by omega
              obtain ⟨t1, m1, r1, r2, r3, r4, r5⟩ := ix_tb t m hlt
              have hmg := HGG.out t hlt
              have htk := take_next TG t (by rw [HGL.out]; exact hlt)
              obtain ⟨vt, hvt⟩ : ∃ y, y = T0.getD t 0 := ⟨_, rfl⟩
              obtain ⟨vx, hvx⟩ : ∃ y, y = XX.getD t 0 := ⟨_, rfl⟩
              obtain ⟨mk, hmk⟩ : ∃ y, y = TG.getD t 0 := ⟨_, rfl⟩
              rw [← hmk] at htk hmg
              rw [← hvx, ← hvt] at hmg
              have hxx := b_xor vt vx
              rw [← hmg] at hxx
              have HXX := Lib.hid hxx
              have HVX := Lib.hid hvx.symm
              have HVT := Lib.hid hvt.symm
              have HTK := Lib.hid htk
              have HJ := Lib.hid hlt
              have HNE := Lib.hid hne
              have HR := Lib.hid (And.intro r1 r2)
              have HR4 := Lib.hid r4
              have HMS := Lib.hid (show m < 1000000 ∧ m1 = np + t1 by have h1 := hm.out; have h2 := HB3.out; have h3 := r2.1; have h4 := r1.1; clear r3 r4 r5 hd hxx hmg; omega)
              obtain ⟨r6, r7⟩ := r5
              clear hmg htk hvx hvt hmk hxx hne r1 r2 r3 r4 hlt htl
              go_upto_region 26 with (fail)
              refine wp_region_noPanic ?_
              refine wp_region_held_drew (S := fun W => Blk W gt 56 (T0.map B8) ∧ Blk W gp 56 (XX.map B8) ∧ Buf W gs (some ⟨gs, 0, none⟩) 6 6 besB ∧ FrB w W w.heap.size gn gk gr gx hk hr K N L) (by kernel_rfl) (by exact ⟨hT.drewN 1, hD.drewN 1, hS.below (below_drewN (Below.refl _ _) 1), hF.below (below_drewN (Below.refl _ _) 1)⟩) (fun hHeld => ?_)
              refine wpAnyH_take (i := 0) (oi := ⟨_, _, _, _, _, _⟩) (v := ?_) rfl (by kernel_rfl) (by kernel_rfl) (by kernel_rfl) (fun _ _ _ h => h) (Or.inl ⟨by rfl, ?_⟩) hHeld ?_
              rotate_left 1
              · (intro W hSw; (try dsimp only at hSw); go_simp; try with_reducible rfl)
              try simp only [Act.put, List.setIfInBounds_toArray, List.set_cons_zero, List.set_cons_succ]
              refine wpAnyH_take (i := 1) (oi := ⟨_, _, _, _, _, _⟩) (v := ?_) rfl (by kernel_rfl) (by kernel_rfl) (by kernel_rfl) (fun _ _ _ h => h) (Or.inl ⟨by rfl, ?_⟩) hHeld ?_
              rotate_left 1
              · (intro W hSw; (try dsimp only at hSw); go_simp; try with_reducible rfl)
              try simp only [Act.put, List.setIfInBounds_toArray, List.set_cons_zero, List.set_cons_succ]
              refine wpAnyH_take (i := 2) (oi := ⟨_, _, _, _, _, _⟩) (v := ?_) rfl (by kernel_rfl) (by kernel_rfl) (by kernel_rfl) (fun _ _ _ h => h) (Or.inl ⟨by rfl, ?_⟩) hHeld ?_
              rotate_left 1
              · (intro W hSw; (try dsimp only at hSw); go_simp; try with_reducible rfl)
              try simp only [Act.put, List.setIfInBounds_toArray, List.set_cons_zero, List.set_cons_succ]
              refine wpAnyH_take (i := 3) (oi := ⟨_, _, _, _, _, _⟩) (v := ?_) rfl (by kernel_rfl) (by kernel_rfl) (by kernel_rfl) (fun _ _ _ h => h) (Or.inl ⟨by rfl, ?_⟩) hHeld ?_
              rotate_left 1
              · (intro W hSw; (try dsimp only at hSw); have hcc := hSw.1.at8 t (by rw [HTL.out]; exact HJ.out); rw [HVT.out] at hcc; go_simp; try with_reducible rfl)
              try simp only [Act.put, List.setIfInBounds_toArray, List.set_cons_zero, List.set_cons_succ]
              refine wpAnyH_take (i := 4) (oi := ⟨_, _, _, _, _, _⟩) (v := ?_) rfl (by kernel_rfl) (by kernel_rfl) (by kernel_rfl) (fun _ _ _ h => h) (Or.inl ⟨by rfl, ?_⟩) hHeld ?_
              rotate_left 1
              · (intro W hSw; (try dsimp only at hSw); go_simp; try with_reducible rfl)
              try simp only [Act.put, List.setIfInBounds_toArray, List.set_cons_zero, List.set_cons_succ]
              refine wpAnyH_take (i := 5) (oi := ⟨_, _, _, _, _, _⟩) (v := ?_) rfl (by kernel_rfl) (by kernel_rfl) (by kernel_rfl) (fun _ _ _ h => h) (Or.inl ⟨by rfl, ?_⟩) hHeld ?_
              rotate_left 1
              · (intro W hSw; (try dsimp only at hSw); go_simp; try with_reducible rfl)
              try simp only [Act.put, List.setIfInBounds_toArray, List.set_cons_zero, List.set_cons_succ]
              refine wpAnyH_take (i := 6) (oi := ⟨_, _, _, _, _, _⟩) (v := ?_) rfl (by kernel_rfl) (by kernel_rfl) (by kernel_rfl) (fun _ _ _ h => h) (Or.inl ⟨by rfl, ?_⟩) hHeld ?_
              rotate_left 1
              · (intro W hSw; (try dsimp only at hSw); have hcc := hSw.2.1.at8 t (by rw [HXX1.out]; exact HJ.out); rw [HVX.out] at hcc; go_simp; try with_reducible rfl)
              try simp only [Act.put, List.setIfInBounds_toArray, List.set_cons_zero, List.set_cons_succ]
              refine wpAnyH_take (i := 7) (oi := ⟨_, _, _, _, _, _⟩) (v := ?_) rfl (by kernel_rfl) (by kernel_rfl) (by kernel_rfl) (fun _ _ _ h => h) (Or.inl ⟨by rfl, ?_⟩) hHeld ?_
              rotate_left 1
              · (intro W hSw; (try dsimp only at hSw); have hxx := HXX.out; go_simp; try with_reducible rfl)
              try simp only [Act.put, List.setIfInBounds_toArray, List.set_cons_zero, List.set_cons_succ]
              have hB1 := hB.drew
              replace hHeld : Blk wr.drew gt 56 (T0.map B8) ∧ Blk wr.drew gp 56 (XX.map B8) ∧ Buf wr.drew gs (some ⟨gs, 0, none⟩) 6 6 besB ∧ FrB w wr.drew w.heap.size gn gk gr gx hk hr K N L := hHeld
              clear hB hT hD hS hF
              generalize wr.drew = wd at *
              refine wpAnyH_ready (rs := [8]) (by kernel_rfl) (by simp) ?_
              refine AllReadyH.cons (o := ⟨_, _, _, _, _, _⟩) rfl (fun K hK => ?_) AllReadyH.nil
              go_simp
              have hal : Below wd.heap.size wd (wd.alloc (.cells #[.int .u8 (mk.toNat : Int)] 5)) := (Below.refl _ _).alloc (Nat.le_refl _) _
              refine hK.out _ _ ⟨hHeld.1.below hal hHeld.1.lt, hHeld.2.1.below hal hHeld.2.1.lt, hHeld.2.2.1.below hal, hHeld.2.2.2.below hal⟩ (fun hHeld => ?_)
              clear hK K
              try simp only [Act.put, List.setIfInBounds_toArray, List.set_cons_zero, List.set_cons_succ]
              refine wpAnyH_ready (rs := [9]) (by kernel_rfl) (by simp) ?_
              refine AllReadyH.cons (o := ⟨_, _, _, _, _, _⟩) rfl (fun K hK => ?_) AllReadyH.nil
              refine step_append_far rfl (.tmp 106) (.tmp 114) 24 rfl (gp + 1) A2 m c2 (M ++ TG.take t) [mk] _ rfl (hB1.alloc _) rfl (src_byte (new_cell _ _ _)) (by have := HMS.out.1; simp; omega) hHeld.2.1.lt m1 (by rw [HR.out.2.1]; rfl) ?_
              intro A3 c3 w3 hB3 hg3 hfr
              have hb3 : Below (gp + 1) _ w3 := below_own (Below.refl (gp + 1) _) (hB1.alloc _) hg3 (Nat.le_refl _) hHeld.2.1.lt
              have ho1 := own_ne (hB1.alloc (.cells #[.int .u8 (mk.toNat : Int)] 5)) (fun k e => (HNE.out k e).1)
              have ho2 := own_ne (hB1.alloc (.cells #[.int .u8 (mk.toNat : Int)] 5)) (fun k e => (HNE.out k e).2)
              have HN3 := Lib.hid (show ∀ g, A3 = some ⟨g, 0, none⟩ → g ≠ gt ∧ g ≠ gs from fun g e => by
                rcases hfr with h | ⟨g', h1, h2⟩
                · exact HNE.out g (h ▸ e)
                · have h3 := hHeld.1.lt
                  have h4 := (hHeld.2.2.1.lt rfl).2
                  rw [e] at h1
                  injection h1 with h1
                  injection h1 with h1
                  omega)
              refine hK.out _ _ ⟨hHeld.1.grown hg3 ho1, hHeld.2.1.below hb3 (Nat.lt_succ_self _), hHeld.2.2.1.kept hg3 (fun g e => by injection e with e; injection e with e; rw [← e]; exact ho2), hHeld.2.2.2.low hb3 HLO.out⟩ (fun hHeld => ?_)
              clear hK K hb3 hg3 hal hB1 ho1 ho2 hfr
              try simp only [Act.put, List.setIfInBounds_toArray, List.set_cons_zero, List.set_cons_succ]
              refine wpAnyH_take (i := 10) (oi := ⟨_, _, _, _, _, _⟩) (v := ?_) rfl (by kernel_rfl) (by kernel_rfl) (by kernel_rfl) (fun _ _ _ h => h) (Or.inl ⟨by rfl, ?_⟩) hHeld ?_
              rotate_left 1
              · (intro W hSw; (try dsimp only at hSw); go_simp; try with_reducible rfl)
              try simp only [Act.put, List.setIfInBounds_toArray, List.set_cons_zero, List.set_cons_succ]
              refine wpAnyH_done (by kernel_rfl) ?_ _
              refine NoPanic.normal ?_
              clear hd r6 r7
              have HHE := Lib.hid (show Blk w3 gt 56 (T0.map B8) ∧ Blk w3 gp 56 (XX.map B8) ∧ Buf w3 gs (some ⟨gs, 0, none⟩) 6 6 besB ∧ FrB w w3 w.heap.size gn gk gr gx hk hr K N L from hHeld)
              have HB3' := Lib.hid hB3
              clear hHeld hB3
              go_wp2
              go_roundw
              case rel => exact ⟨t1, m1, A3, c3, HR.out.1.2, Lib.hid HMS.out.2, by simp only [HR4.out.1, HR4.out.2], rfl, by have h := HB3'.out; rw [List.append_assoc, ← HTK.out, ← HR.out.1.1] at h; exact h, HN3.out, HHE.out.1, HHE.out.2.1, HHE.out.2.2.1, HHE.out.2.2.2⟩
              case measure => simp only [HR4.out.1, HR4.out.2]; exact HR.out.2.2
            · have hd : ¬ (t : Int) < 16 := by omega
              have ht16 : t = 16 := by omega
              rw [ht16, show TG.take 16 = TG by rw [← HGL.out]; exact List.take_length] at hB
              have hcw := fun (W : World) (h : Below wr.heap.size wr W) => conv_in hB.1 ((hB.below h).toIn (Nat.le_refl _))
              have HCW := Lib.hid hcw
              have HSS := Lib.hid hS
              have HFF := Lib.hid hF
              have HIPP := Lib.hid (fun (W : World) (h : Below wr.heap.size wr W) => in_up HIP.out (hF.2.2.2.2.trans (h.mono hF.2.2.2.2.size)))
              clear hcw ht16 hB hne hT hD hS hF hlt htl hm
              go_upto_region 27 with (fail)
              refine wp_region_noPanic ?_
              refine wp_region_held_drew (S := fun W => Below wr.heap.size wr W) (by kernel_rfl) (by exact below_drewN (Below.refl _ _) 1) (fun hHeld => ?_)
              refine wpAnyH_take (i := 0) (oi := ⟨_, _, _, _, _, _⟩) (v := ?_) rfl (by kernel_rfl) (by kernel_rfl) (by kernel_rfl) (fun _ _ _ h => h) (Or.inl ⟨by rfl, ?_⟩) hHeld ?_
              rotate_left 1
              · (intro W hSw; (try dsimp only at hSw); go_simp; try with_reducible rfl)
              try simp only [Act.put, List.setIfInBounds_toArray, List.set_cons_zero, List.set_cons_succ]
              refine' wpAnyH_take (i := 1) (oi := ⟨_, _, _, _, _, _⟩) rfl (by kernel_rfl) (by kernel_rfl) (by kernel_rfl) (fun _ _ _ h => h) (yieldsIf_load_mid (by rfl) 48 _ rfl gn 0 rfl (N.map B8) _ (fun W h => rangeAt_of_blk (HFF.out.2.1.below h HFF.out.2.1.lt)) Tryd.underlying48 rfl (info12.trans (by rw [List.length_map, HN.out]))) hHeld ?_
              try simp only [Act.put, List.setIfInBounds_toArray, List.set_cons_zero, List.set_cons_succ]
              refine wpAnyH_take (i := 2) (oi := ⟨_, _, _, _, _, _⟩) (v := ?_) rfl (by kernel_rfl) (by kernel_rfl) (by kernel_rfl) (fun _ _ _ h => h) (Or.inl ⟨by rfl, ?_⟩) hHeld ?_
              rotate_left 1
              · (intro W hSw; (try dsimp only at hSw); go_simp; try with_reducible rfl)
              try simp only [Act.put, List.setIfInBounds_toArray, List.set_cons_zero, List.set_cons_succ]
              refine wpAnyH_take (i := 3) (oi := ⟨_, _, _, _, _, _⟩) (v := ?_) rfl (by kernel_rfl) (by kernel_rfl) (by kernel_rfl) (fun _ _ _ h => h) (Or.inl ⟨by rfl, ?_⟩) hHeld ?_
              rotate_left 1
              · (intro W hSw; (try dsimp only at hSw); go_simp; try with_reducible rfl)
              try simp only [Act.put, List.setIfInBounds_toArray, List.set_cons_zero, List.set_cons_succ]
              refine wpAnyH_take (i := 6) (oi := ⟨_, _, _, _, _, _⟩) (v := ?_) rfl (by kernel_rfl) (by kernel_rfl) (by kernel_rfl) (fun _ _ _ h => h) (Or.inl ⟨by rfl, ?_⟩) hHeld ?_
              rotate_left 1
              · (intro W hSw; (try dsimp only at hSw); go_simp; try with_reducible rfl)
              try simp only [Act.put, List.setIfInBounds_toArray, List.set_cons_zero, List.set_cons_succ]
              refine wpAnyH_take (i := 7) (oi := ⟨_, _, _, _, _, _⟩) (v := ?_) rfl (by kernel_rfl) (by kernel_rfl) (by kernel_rfl) (fun _ _ _ h => h) (Or.inl ⟨by rfl, ?_⟩) hHeld ?_
              rotate_left 1
              · (intro W hSw; (try dsimp only at hSw); have hcv := HCW.out W hSw; go_simp; try with_reducible rfl)
              try simp only [Act.put, List.setIfInBounds_toArray, List.set_cons_zero, List.set_cons_succ]
              replace hHeld : Below wr.heap.size wr wr.drew := hHeld
              generalize wr.drew = wd at *
              have hxs := seal_e gx hk hr 11 np 6 c 6 A (some ⟨gs, 0, none⟩) L N P besB wd (HFF.out.2.2.2.1.below hHeld) HN.out (HIPP.out wd hHeld) ((HSS.out.below hHeld).toIn (Nat.le_refl _)) HNP.out rfl (Nat.lt_of_le_of_lt HB3.out (by decide)) (by decide)
              rw [HBE.out] at hxs
              refine wpAnyH_ready (rs := [4]) (by kernel_rfl) (by simp) ?_
              refine AllReadyH.cons (o := ⟨_, _, _, _, _, _⟩) rfl (fun K hK => ?_) AllReadyH.nil
              go_simp
              go_at_call 27
              refine hxs.mono ?_
              rintro e w27 ⟨A9, n9, c9, rfl, -, hB9, hb9⟩
              try go_wp2_with fail
              refine hK.out _ _ (hHeld.trans (hb9.mono hHeld.size)) (fun hHeld => ?_)
              clear hK K hxs
              try simp only [Act.put, List.setIfInBounds_toArray, List.set_cons_zero, List.set_cons_succ]
              refine wpAnyH_ready (rs := [5]) (by kernel_rfl) (by simp) ?_
              refine AllReadyH.cons (o := ⟨_, _, _, _, _, _⟩) rfl (fun K hK => ?_) AllReadyH.nil
              have hcv := conv_in hB9.1 (hB9.toIn (Nat.le_refl _))
              go_simp
              refine hK.out _ _ hHeld (fun hHeld => ?_)
              clear hK K hcv
              try simp only [Act.put, List.setIfInBounds_toArray, List.set_cons_zero, List.set_cons_succ]
              refine wpAnyH_take (i := 8) (oi := ⟨_, _, _, _, _, _⟩) (v := ?_) rfl (by kernel_rfl) (by kernel_rfl) (by kernel_rfl) (fun _ _ _ h => h) (Or.inl ⟨by rfl, ?_⟩) hHeld ?_
              rotate_left 1
              · (intro W hSw; (try dsimp only at hSw); go_simp; try with_reducible rfl)
              try simp only [Act.put, List.setIfInBounds_toArray, List.set_cons_zero, List.set_cons_succ]
              refine wpAnyH_take (i := 9) (oi := ⟨_, _, _, _, _, _⟩) (v := ?_) rfl (by kernel_rfl) (by kernel_rfl) (by kernel_rfl) (fun _ _ _ h => h) (Or.inl ⟨by rfl, ?_⟩) hHeld ?_
              rotate_left 1
              · (intro W hSw; (try dsimp only at hSw); go_simp; try with_reducible rfl)
              try simp only [Act.put, List.setIfInBounds_toArray, List.set_cons_zero, List.set_cons_succ]
              refine wpAnyH_done (by kernel_rfl) ?_ _
              refine NoPanic.normal ?_
              replace hHeld : Below wr.heap.size wr w27 := hHeld
              have hfin := HFF.out.2.2.2.2.trans (hHeld.mono HFF.out.2.2.2.2.size)
              go_wp2
              go_ret
              exact ⟨rfl, hfin⟩
end Go.Proofs.YtceenlmidlmmgaaDoor
