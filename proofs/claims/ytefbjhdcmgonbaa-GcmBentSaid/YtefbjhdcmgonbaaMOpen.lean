/-
  Joined: SameB, Gopen.
-/
import Derived.Test.YtefbjhdcmgonbaaGx
import Derived.BigQuiet
import Derived.Test.YtefbjhdcmgonbaaGseal
namespace Go.Proofs.Ytefbjhdcmgonbaa
open Go.RowKit


/-- All differences of the first k places, put together. -/
def diffTo (a b : List UInt8) : Nat → UInt8
  | 0 => 0
  | k + 1 => diffTo a b k ||| (a.getD k 0 ^^^ b.getD k 0)
theorem u8_or_zero (x y : UInt8) : x ||| y = 0 ↔ x = 0 ∧ y = 0 := by
  constructor
  · intro h
    have h2 := congrArg UInt8.toBitVec h
    simp only [UInt8.toBitVec_or] at h2
    have h3 : x.toBitVec = 0 ∧ y.toBitVec = 0 := by
      generalize x.toBitVec = p at *
      generalize y.toBitVec = q at *
      have h4 : p ||| q = 0#8 := h2
      exact ⟨by have := BitVec.or_eq_zero_iff.1 h4; exact this.1, by have := BitVec.or_eq_zero_iff.1 h4; exact this.2⟩
    exact ⟨UInt8.toBitVec_inj.1 h3.1, UInt8.toBitVec_inj.1 h3.2⟩
  · rintro ⟨rfl, rfl⟩; rfl
theorem u8_xor_zero (x y : UInt8) : x ^^^ y = 0 ↔ x = y := by
  constructor
  · intro h
    have h2 := congrArg UInt8.toBitVec h
    simp only [UInt8.toBitVec_xor] at h2
    have h4 : x.toBitVec ^^^ y.toBitVec = 0#8 := h2
    exact UInt8.toBitVec_inj.1 (BitVec.xor_eq_zero_iff.1 h4)
  · rintro rfl; simp
theorem diffTo_zero (a b : List UInt8) (k : Nat) : diffTo a b k = 0 ↔ ∀ i, i < k → a.getD i 0 = b.getD i 0 := by
  induction k with
  | zero => simp [diffTo]
  | succ k ih =>
    rw [diffTo, u8_or_zero, u8_xor_zero, ih]
    constructor
    · rintro ⟨h1, h2⟩ i hi
      by_cases e : i = k
      · rw [e]; exact h2
      · exact h1 i (by omega)
    · intro h
      exact ⟨fun i hi => h i (by omega), h k (by omega)⟩
theorem diffTo_same (a b : List UInt8) (hl : a.length = b.length) : diffTo a b a.length = 0 ↔ a = b := by
  rw [diffTo_zero]
  constructor
  · intro h
    apply List.ext_getElem hl
    intro i h1 h2
    have := h i h1
    simpa [List.getD_eq_getElem?_getD, List.getElem?_eq_getElem h1, List.getElem?_eq_getElem h2] using this
  · rintro rfl i _; rfl
theorem b_or (a b : UInt8) : bits .or .u8 (a.toNat : Int) (b.toNat : Int) = ((a ||| b).toNat : Int) := by
  rw [u8_or_nat _ _ (u8_lt a) (u8_lt b), UInt8.toNat_or]
theorem nat_zero (d : UInt8) : ((d.toNat : Int) == 0) = decide (d = 0) := by
  by_cases h : d = 0
  · subst h; rfl
  · have : d.toNat ≠ 0 := fun e => h (UInt8.toNat_inj.1 e)
    simp [h]; omega

set_option maxRecDepth 100000 in
set_option maxHeartbeats 1000000 in
theorem same_other (A A' : Option Addr) (c c' : Nat) (a b : List UInt8) (w : World) (hl : a.length ≠ b.length) :
    Calls Try.prog 26 #[.slice A a.length c, .slice A' b.length c'] w fun e w' => e = .returned (.bool false) ∧ ∃ k, w' = w.drewN k := by
  have h1 : ((a.length : Int) != (b.length : Int)) = true := by simp; omega
  go_enter Try.func26, Try.ntmps26
  go_wp2
  go_ret
  exact ⟨rfl, 0, rfl⟩
set_option maxRecDepth 100000 in
set_option maxHeartbeats 1000000 in
theorem same_none (A A' : Option Addr) (c c' : Nat) (w : World) :
    Calls Try.prog 26 #[.slice A 0 c, .slice A' 0 c'] w fun e w' => e = .returned (.bool true) ∧ ∃ k, w' = w.drewN k := by
  go_enter Try.func26, Try.ntmps26
  go_wp2
  refine wp_loop_rounds 1 ?_
  rw [rounds_succ]
  go_wp2
  go_ret
  exact ⟨rfl, 0, rfl⟩
set_option maxRecDepth 100000 in
set_option maxHeartbeats 1000000 in
theorem same_long (ga oa gb ob n c c' : Nat) (a b : List UInt8) (w : World) (hn : a.length = n) (hl : b.length = n) (hnc : n ≤ 9223372036854775807) (ha : Bytes w ga oa a) (hb : Bytes w gb ob b) :
    Calls Try.prog 26 #[.slice (some ⟨ga, oa, none⟩) n c, .slice (some ⟨gb, ob, none⟩) n c'] w fun e w' => e = .returned (.bool (decide (a = b))) ∧ ∃ k, w' = w.drewN k := by
  have HN := Lib.hid hn
  have HL := Lib.hid hl
  clear hn hl
  go_enter Try.func26, Try.ntmps26
  go_wp2
  go_loopw [5, 14] (fun d i wr => ∃ k q : Nat, k ≤ n ∧ i = .int .i64 (k : Int) ∧ d = .int .u8 ((diffTo a b k).toNat : Int) ∧ wr = w.drewN q) (fun _ i _ => n - (intOf i).toNat)
  case atStart => exact ⟨0, 0, by omega, rfl, rfl, rfl⟩
  case round =>
    obtain ⟨k, q, hk, rfl, rfl, rfl⟩ := hrel
    by_cases hlt : k < n
    · have h1 : (k : Int) < (n : Int) := by omega
      have c1 := ha k (by rw [HN.out]; exact hlt)
      have c2 := hb k (by rw [HL.out]; exact hlt)
      have HD := Lib.hid (show diffTo a b (k + 1) = diffTo a b k ||| (a.getD k 0 ^^^ b.getD k 0) from rfl)
      obtain ⟨x, hx⟩ : ∃ x, x = a.getD k 0 := ⟨_, rfl⟩
      obtain ⟨y, hy⟩ : ∃ y, y = b.getD k 0 := ⟨_, rfl⟩
      obtain ⟨d, hd⟩ : ∃ d, d = diffTo a b k := ⟨_, rfl⟩
      rw [← hx] at c1 HD
      rw [← hy] at c2 HD
      rw [← hd] at HD ⊢
      clear hx hy hd
      go_wp2
      go_quiet (fail)
      go_wp2
      go_roundw
      case rel =>
        refine ⟨k + 1, q + nq, by omega, by go_num, ?_, rfl⟩
        rw [HD.out, b_xor, b_or]
      case measure => simp [intOf]; omega
    · have h1 : ¬ (k : Int) < (n : Int) := by omega
      obtain rfl : k = n := by omega
      have HE := Lib.hid (diffTo_same a b (by rw [HN.out, HL.out]))
      obtain ⟨d, hd⟩ : ∃ d, d = diffTo a b k := ⟨_, rfl⟩
      rw [← hd]
      have HD := Lib.hid hd
      clear hd
      go_wp2
      go_ret
      refine ⟨?_, q, rfl⟩
      rw [nat_zero]
      have e : decide (d = 0) = decide (a = b) := by
        rw [decide_eq_decide, HD.out, ← HE.out, HN.out]
      rw [e]
      rfl
theorem same_any (A A' : Option Addr) (c c' B : Nat) (a b : List UInt8) (w : World) (ha : In w B A c a) (hb : In w B A' c' b) :
    Calls Try.prog 26 #[.slice A a.length c, .slice A' b.length c'] w fun e w' => e = .returned (.bool (decide (a = b))) ∧ ∃ k, w' = w.drewN k := by
  by_cases hl : a.length = b.length
  · rcases Nat.eq_zero_or_pos a.length with h0 | h0
    · have ea : a = [] := List.eq_nil_of_length_eq_zero h0
      have eb : b = [] := List.eq_nil_of_length_eq_zero (by omega)
      subst ea eb
      exact same_none A A' c c' w
    · obtain ⟨ga, oa, rfl, _, h1⟩ := ha.2.2 h0
      obtain ⟨gb, ob, rfl, _, h2⟩ := hb.2.2 (by omega)
      have := same_long ga oa gb ob a.length c c' a b w rfl hl.symm (by have := ha.1; have := ha.2.1; omega) h1 h2
      rw [← hl]
      exact this
  · have := same_other A A' c c' a b w hl
    rw [decide_eq_false (fun e => hl (by rw [e]))]
    exact this


theorem int_toNat (n : Nat) : ((n : Int)).toNat = n := Int.toNat_natCast n

set_option maxRecDepth 100000 in
set_option maxHeartbeats 1000000 in
theorem open_none (N : List UInt8) (p q : Value) (w : World) : Calls Try.prog 12 #[.pointer none, BV N, p, q] w fun e w' => e = .returned (.tuple #[.slice none 0 0, .int .i64 1]) ∧ Below w.heap.size w w' := by
  go_enter Try.func12, Try.ntmps12
  go_wp2_with (go_at_call 23; refine (bempty_nil _).mono ?_; rintro e w' ⟨rfl, rfl⟩)
  go_ret2
  exact ⟨rfl, (Below.refl _ _).alloc (Nat.le_refl _) _⟩

set_option maxRecDepth 100000 in
set_option maxHeartbeats 1000000 in
theorem open_few (gx gk gr R n cs : Nat) (L : List UInt32) (As : Option Addr) (N : List UInt8) (q : Value) (w : World) (hx : BoxAt w gx gk gr R L) (hn : n < 16) :
    Calls Try.prog 12 #[.pointer (some ⟨gx, 0, none⟩), BV N, .slice As n cs, q] w fun e w' => e = .returned (.tuple #[.slice none 0 0, .int .i64 5]) ∧ Below w.heap.size w w' := by
  have HE : Hid (∀ W, BoxAt W gx gk gr R L → Calls Try.prog 23 #[.pointer (some ⟨gx, 0, none⟩)] W fun e w' => e = .returned (.bool false) ∧ w' = W) := (fun W h => bempty_no h)
  go_enter Try.func12, Try.ntmps12
  go_wp2_with (go_at_call 23; go_loud (refine (HE.out _ (hx.below ((Below.refl w.heap.size w).alloc (Nat.le_refl _) _))).mono ?_); rintro e w' ⟨rfl, rfl⟩)
  go_ret2
  exact ⟨rfl, (Below.refl _ _).alloc (Nat.le_refl _) _⟩

set_option maxRecDepth 100000 in
set_option maxHeartbeats 1000000 in
theorem open_e (gx gk gr R n m nb cs cb : Nat) (As Ab : Option Addr) (L : List UInt32) (N C T bes : List UInt8) (w : World) (hx : BoxAt w gx gk gr R L) (hN : N.length = 12)
    (is : In w w.heap.size As cs (C ++ T)) (ib : In w w.heap.size Ab cb bes) (lc : C.length = m) (lt : T.length = 16) (hn : n = m + 16) (lb : bes.length = nb) (hm : m < 1000000) (hb : nb < 549755813888) :
    Calls Try.prog 12 #[.pointer (some ⟨gx, 0, none⟩), BV N, .slice As n cs, .slice Ab nb cb] w fun e w' => Below w.heap.size w w' ∧
      ((tagE L R N C bes = T ∧ ∃ A' c', e = .returned (.tuple #[.slice A' m c', .int .i64 0]) ∧ Buf w' w.heap.size A' m c' (maskE L R N C)) ∨ (¬ tagE L R N C bes = T ∧ e = .returned (.tuple #[.slice none 0 0, .int .i64 5]))) := by
  obtain ⟨gs, os, rfl, _, _⟩ := is.2.2 (by rw [List.length_append]; omega)
  have iC : In w w.heap.size (some ⟨gs, os, none⟩) cs C := by
    have := is.take m
    rwa [List.take_append_of_le_length (by omega), List.take_of_length_le (by omega)] at this
  have iT : In w w.heap.size (some ⟨gs, os + m, none⟩) (cs - m) T := by
    have := in_drop is m (by rw [List.length_append]; omega)
    rwa [if_neg (by have := is.1; rw [List.length_append] at this; omega), List.drop_append_of_le_length (by omega), List.drop_of_length_le (by omega), List.nil_append] at this
  have hcs : n ≤ cs := by have := is.1; rw [List.length_append] at this; omega
  have hmk := fun (W : World) => run_make_bytes .i64 .i64 m m (Nat.le_refl _) (by omega) W
  have hql : (List.replicate m (0 : UInt8)).length = m := List.length_replicate
  obtain ⟨Q, hQ⟩ : ∃ Q, Q = List.replicate m (0 : UInt8) := ⟨_, rfl⟩
  rw [← hQ] at hql
  simp only [← hQ] at hmk
  have hma := fun (gt : Nat) (W : World) (h : BoxAt W gx gk gr R L) (n1 : gx ≠ gt) (n2 : gk ≠ gt) (n3 : gr ≠ gt) (B : Nat) (i : In W B (some ⟨gs, os, none⟩) cs C) (h1 : B ≤ gt) (h2 : B ≤ W.heap.size) (hT : Blk W gt 5 (Q.map B8)) => mask_e gx gk gr R gt m m B cs (some ⟨gs, os, none⟩) L N C Q W h n1 n2 n3 hN lc i h1 h2 hT (by omega) (by omega) (by omega)
  have hta := fun (W : World) (h : BoxAt W gx gk gr R L) (i : In W W.heap.size (some ⟨gs, os, none⟩) cs C) (i2 : In W W.heap.size Ab cb bes) => tag_e gx gk gr R m nb cs cb (some ⟨gs, os, none⟩) Ab L N C bes W h hN i i2 lc lb (by omega) hb
  have hml : (maskE L R N C).length = m := by rw [maskE_length, lc]
  have htl := tagE_length L R N C bes
  rw [show Q.drop m = [] from List.drop_of_length_le (by omega)] at hma
  simp only [List.append_nil] at hma
  generalize tagE L R N C bes = U at *
  generalize maskE L R N C = M at *
  have hsm := fun (W : World) (A : Option Addr) (c : Nat) (i : In W W.heap.size A c U) (i2 : In W W.heap.size (some ⟨gs, os + m, none⟩) (cs - m) T) => same_any A (some ⟨gs, os + m, none⟩) c (cs - m) W.heap.size U T W i i2
  rw [htl, lt] at hsm
  have hz : ∀ W : World, (zeroValue 42).run Try.prog W = .ok (BV zero16) W := fun W => by kernel_rfl
  obtain ⟨Z, hZ⟩ : ∃ Z, Z = zero16 := ⟨_, rfl⟩
  have HZL := Lib.hid (show Z.length = 16 by rw [hZ]; rfl)
  rw [← hZ] at hz
  have HMA := Lib.hid hma
  have HTA := Lib.hid hta
  have HSM := Lib.hid hsm
  have HML := Lib.hid hml
  have HTL := Lib.hid htl
  have HBX := Lib.hid hx
  have HN := Lib.hid hN
  have HQL := Lib.hid hql
  have HIB := Lib.hid ib
  have HIC := Lib.hid iC
  have HIT := Lib.hid iT
  have HLT := Lib.hid lt
  have HMK := Lib.hid hmk
  have HM := Lib.hid hm
  have HE : Hid (∀ W, BoxAt W gx gk gr R L → Calls Try.prog 23 #[.pointer (some ⟨gx, 0, none⟩)] W fun e w' => e = .returned (.bool false) ∧ w' = W) := (fun W h => bempty_no h)
  have q1 := Lib.hid (show wrap64 ((n : Int) - 16) = (m : Int) by unfold wrap64; omega)
  have q3 := Lib.hid (show (m : Int) ≤ (cs : Int) by omega)
  have Q9 := Lib.hid (And.intro hcs hn)
  clear hma hta hsm hml htl hx hN hql ib iC iT lt hmk is hn hcs lc lb hQ hb hZ hm
  go_enter Try.func12, Try.ntmps12
  have hA := Blk.new_of w 23 _ (N.map B8) rfl
  have hbw : Below w.heap.size w (w.alloc (.cells (N.map B8).toArray 23)) := (Below.refl _ _).alloc (Nat.le_refl _) _
  go_upto_region 4 with (go_at_call 23; go_loud (refine (HE.out _ (HBX.out.below hbw)).mono ?_); rintro e w' ⟨rfl, rfl⟩)
  rw [q1.out]
  have q2 : (0 : Int) ≤ (m : Int) := by omega
  have q4 := q3.out
  go_upto_region 8 with (first
    | ((with_reducible refine (?_ : wpList _ _ _ (Oper.mk (some 25) _ _ _ _ _ :: _) _ _)); go_loud (refine wpList_load_blk rfl 23 (.tmp 5) rfl (w.heap.size) rfl 23 _ _ hA Try.underlying23 rfl (info12.trans (by rw [List.length_map, HN.out])) ?_))
    | (go_at_call 25; go_loud (refine (HTA.out _ (HBX.out.below hbw) (in_up HIC.out hbw) (in_up HIB.out hbw)).mono ?_); rintro e w3 ⟨rfl, hb3⟩; replace hA := hA.below hb3 hA.lt; replace hbw := hbw.trans (hb3.mono hbw.size); clear hb3)
    | ((with_reducible refine (?_ : wpList _ _ _ (Oper.mk none (.store 42 (.tmp 12) _) _ _ _ _ :: _) _ _)); go_loud (refine wpList_store_blk rfl 42 (.tmp 12) (.tmp 28) rfl rfl (w3.heap.size) _ rfl rfl 42 _ (Blk.new_of w3 42 _ _ rfl) (infoBk.trans (by rw [List.length_map, HTL.out])) (by rw [List.length_map, List.length_map, HTL.out, HZL.out]) (one8 _) ?_); intro w4 hS4 hg4))
  have hb4 := below_new ((Below.refl w3.heap.size w3).alloc (Nat.le_refl _) _) hg4 (Nat.le_refl _) (by simp)
  replace hA := hA.below hb4 hA.lt
  replace hbw := hbw.trans (hb4.mono hbw.size)
  clear hb4 hg4
  generalize w3.heap.size = g3 at *
  have HA := Lib.hid hA
  have HB := Lib.hid hbw
  have HS := Lib.hid (in_of_blk hS4 HTL.out (by decide) (Below.refl _ _))
  clear hA hbw hS4 q2 q4
  have f0 : (0 : Int) ≤ (m : Int) := by omega
  have f1 : ¬ cs = m := by have := Q9.out; omega
  have f2 : n - m = 16 := by have := Q9.out; omega
  have f3 : (m : Int) ≤ (n : Int) := by have := Q9.out; omega
  have f4 : n ≤ cs := Q9.out.1
  have f5 : (n : Int) ≤ (cs : Int) := by omega
  apply wp_region_once (D := [[], [], [], [1, 2], [0, 1, 2, 3], [0, 1, 2, 3, 4]]) (J := [[], [], [], [1, 2], [0, 3], [4]]) (Je := [5]) (Rs := [Is _, Is _, Is _, Is _, Is _, Is _])
  · kernel_rfl
  · kernel_rfl
  · kernel_rfl
  · kernel_rfl
  · kernel_rfl
  · kernel_rfl
  · intro u
    simp only [List.map_cons, List.map_nil, fillU, List.setIfInBounds_toArray, List.set_cons_zero, List.set_cons_succ, Nat.zero_add, Nat.reduceAdd]
    exact rfl
  · skip
    refine ⟨fun u W hb hd K hK => ?_, ?_⟩
    · clear hd
      go_simp
      apply hK
      · simp only [Act.put, List.setIfInBounds_toArray, List.set_cons_zero, List.set_cons_succ]
        exact rfl
      · exact Below.refl _ _
      · exact IsOut
    refine ⟨fun u W hb hd K hK => ?_, ?_⟩
    · clear hd
      go_simp
      apply hK
      · simp only [Act.put, List.setIfInBounds_toArray, List.set_cons_zero, List.set_cons_succ]
        exact rfl
      · exact Below.refl _ _
      · exact IsOut
    refine ⟨fun u W hb hd K hK => ?_, ?_⟩
    · clear hd
      go_simp
      apply hK
      · simp only [Act.put, List.setIfInBounds_toArray, List.set_cons_zero, List.set_cons_succ]
        exact rfl
      · exact Below.refl _ _
      · exact IsOut
    refine ⟨fun u W hb hd K hK => ?_, ?_⟩
    · simp only [Facts, nthR, Is, and_true] at hd
      simp only [hd] at hK ⊢
      clear hd
      go_simp
      apply hK
      · simp only [Act.put, List.setIfInBounds_toArray, List.set_cons_zero, List.set_cons_succ]
        exact rfl
      · exact Below.refl _ _
      · exact IsOut
    refine ⟨fun u W hb hd K hK => ?_, ?_⟩
    · simp only [Facts, nthR, Is, and_true] at hd
      simp only [hd] at hK ⊢
      clear hd
      go_simp
      refine (HSM.out W _ _ (in_up HS.out hb) (in_up HIT.out (HB.out.trans (hb.mono HB.out.size)))).mono ?_
      rintro e wy ⟨rfl, kk, rfl⟩
      exact hK _ _ _ rfl (below_drewN (Below.refl _ _) _) IsOut
    refine ⟨fun u W hb hd K hK => ?_, ?_⟩
    · simp only [Facts, nthR, Is, and_true] at hd
      simp only [hd] at hK ⊢
      clear hd
      go_simp
      apply hK
      · simp only [Act.put, List.setIfInBounds_toArray, List.set_cons_zero, List.set_cons_succ]
        exact rfl
      · exact Below.refl _ _
      · exact IsOut
    exact trivial
  · exact (.is (.is (.is (.is (.is (.is .nil))))))
  · intro u W hb hd
    simp only [Facts, nthR, Is, and_true] at hd
    simp only [hd]
    clear f0 f1 f2 f3 f4 f5
    have hbw := HB.out.trans (hb.mono HB.out.size)
    have hA := HA.out.below hb HA.out.lt
    clear hb
    by_cases hUT : U = T
    · have hd : decide (U = T) = true := decide_eq_true hUT
      rw [hd]
      have HUT := Lib.hid hUT
      clear hd hUT
      have l1 := HBX.out.box.lt
      have l2 := HBX.out.key.key.lt
      have l3 := HBX.out.key.rounds.lt
      have hz1 := hbw.size
      have hbz := hbw.trans (((Below.refl W.heap.size W).alloc (Nat.le_refl _) (.cells (Q.map B8).toArray 5)).mono hbw.size)
      have hA1 := hA.alloc (.cells (Q.map B8).toArray 5)
      have hmq := HMA.out W.heap.size (W.alloc (.cells (Q.map B8).toArray 5)) (HBX.out.below hbz) (by omega) (by omega) (by omega) w.heap.size (HIC.out.below hbz) hz1 (by simp; omega) (Blk.new_of W 5 _ (Q.map B8) rfl)
      have HMQ := Lib.hid hmq
      have HBZ := Lib.hid hbz
      have hmk := HMK.out
      clear l1 l2 l3 hmq hbz
      go_wp2_with (first
        | ((with_reducible refine (?_ : wpList _ _ _ (Oper.mk (some 40) _ _ _ _ _ :: _) _ _)); go_loud (refine wpList_load_blk rfl 23 (.tmp 5) rfl (w.heap.size) rfl 23 _ _ hA1 Try.underlying23 rfl (info12.trans (by rw [List.length_map, HN.out])) ?_))
        | (go_at_call 24; go_loud (refine HMQ.out.mono ?_); rintro e w5 ⟨rfl, hT5, hg5⟩))
      have hb5 := below_new HBZ.out hg5 (by omega) (by simp; omega)
      go_ret2
      exact ⟨hb5, .inl ⟨HUT.out, _, _, rfl, buf_prefix (R := []) (by rw [List.append_nil]; exact hT5) (by omega) HML.out (by rw [List.append_nil, HML.out]) (by have := HM.out; omega)⟩⟩
    · have hd : decide (U = T) = false := decide_eq_false hUT
      rw [hd]
      have HUT := Lib.hid hUT
      clear hd hUT
      go_wp2
      go_ret2
      exact ⟨hbw, .inr ⟨HUT.out, rfl⟩⟩
end Go.Proofs.Ytefbjhdcmgonbaa
