/-
  bytes.Equal; package hello's sizeOf.
-/
import Derived.Test.YtagblbfbjemfhaaDoorIo
namespace Go.Proofs.YtagblbfbjemfhaaDoor
open Go.RowKit
open HelloMath (numB numB_length vecB vecB_length Msg getN getN_snoc isKind headE)

set_option maxRecDepth 100000 in
theorem equal_b (v1 v2 : Value) (b1 b2 : List UInt8) (w : World) (h1 : SlV w v1 b1) (h2 : SlV w v2 b2) : Calls Tryd.prog 28 #[v1, v2] w fun e w' => e = .returned (.bool (b1 == b2)) ∧ Below w.heap.size w w' := by
  obtain ⟨A1, c1, rfl, i1⟩ := h1
  obtain ⟨A2, c2, rfl, i2⟩ := h2
  obtain ⟨n1, hn1⟩ : ∃ n, b1.length = n := ⟨_, rfl⟩
  obtain ⟨n2, hn2⟩ : ∃ n, b2.length = n := ⟨_, rfl⟩
  rw [hn1, hn2]
  have hc1 := conv_in hn1 i1
  have hc2 := conv_in hn2 i2
  cases hr : b1 == b2 with
  | true =>
    obtain rfl : b1 = b2 := eq_of_beq hr
    clear hn1 hn2 i1 i2 hr
    go_enter Tryd.func28, Tryd.ntmps28
    go_wp2
    go_ret
    exact ⟨rfl, Below.refl _ _⟩
  | false =>
    have hne : ¬ b1 = b2 := by intro e; rw [e] at hr; simp at hr
    clear hn1 hn2 i1 i2 hr
    go_enter Tryd.func28, Tryd.ntmps28
    go_wp2
    go_ret
    exact ⟨by simp [hne], Below.refl _ _⟩
theorem size_sub {b : List UInt8} {n d : Nat} (h : b.length ≤ 200000) (hn : b.length = n) (h4 : 4 ≤ n) (hd : n - 4 = d) : wrap64 ((n : Int) - 4) = (d : Int) := by
  unfold wrap64; omega
theorem size_add {N : Nat} (h : N ≤ 32768) : wrap64 (4 + (N : Int)) = ((4 + N : Nat) : Int) := by
  unfold wrap64; omega
def sizeE (b : List UInt8) : Nat × Nat := match headE b with | some e => (0, e) | none => (4 + getN ((b.drop 1).take 3), 0)
def SizeP (b : List UInt8) (w : World) (e : Ending) (w' : World) : Prop := e = .returned (.tuple #[.int .i64 ((sizeE b).1 : Int), .int .i64 ((sizeE b).2 : Int)]) ∧ Below w.heap.size w w'
set_option maxRecDepth 100000 in
theorem size_nil (v : Value) (w : World) (hv : SlV w v []) : Calls Tryd.prog 26 #[v] w (SizeP [] w) := by
  obtain ⟨A, c, rfl, hi⟩ := hv
  rw [List.length_nil]
  clear hi
  go_enter Tryd.func26, Tryd.ntmps26
  go_wp2
  go_ret2
  exact ⟨rfl, Below.refl _ _⟩
set_option maxRecDepth 100000 in
set_option maxHeartbeats 400000 in
theorem size_kind (b : List UInt8) (v : Value) (w : World) (hv : SlV w v b) (h0 : 0 < b.length) (_h40 : Hid (b.length ≤ 200000)) (hkd : isKind (((b.getD 0 0).toNat : Nat) : Int) = false) (_h4 : b.length = b.length) : Calls Tryd.prog 26 #[v] w (SizeP b w) := by
  have HE := Lib.hid (show sizeE b = (0, 2) by unfold sizeE headE; rw [if_pos ⟨h0, hkd⟩])
  obtain ⟨A, c, hvv, hi⟩ := hv
  subst hvv
  have HV := Lib.hid (show SlB w w.heap.size (.slice A b.length c) b from ⟨A, c, rfl, hi⟩)
  obtain ⟨n, hn⟩ : ∃ n, b.length = n := ⟨_, rfl⟩
  rw [hn] at HV
  obtain ⟨gb, ob, rfl, hgb, hby⟩ := hi.2.2 h0
  have hc0 := hby 0 h0
  rw [Nat.add_zero] at hc0
  obtain ⟨k, hk⟩ : ∃ k, (b.getD 0 0) = k := ⟨_, rfl⟩
  rw [hk] at hc0 hkd
  have HN := Lib.hid hn
  rw [hn] at h0 _h4 ⊢
  have hn0 : (n : Int) > 0 := by omega
  have hn00 : 0 < n := h0
  have hwk := byte_wrap k
  clear hi hby hk hn h0
  have HK := Lib.hid hkd
  clear hgb hkd _h4
  go_enter Tryd.func26, Tryd.ntmps26
  go_wp2_with (go_at_call 32; refine (isKind_e _ _).mono ?_; rintro e w1 ⟨rfl, hb1⟩; rw [HK.out])
  go_ret2
  exact ⟨by rw [HE.out]; rfl, hb1⟩
set_option maxRecDepth 100000 in
set_option maxHeartbeats 400000 in
theorem size_short (b : List UInt8) (v : Value) (w : World) (hv : SlV w v b) (h0 : 0 < b.length) (_h40 : Hid (b.length ≤ 200000)) (hkd : isKind (((b.getD 0 0).toNat : Nat) : Int) = true) (h4 : b.length < 4) : Calls Tryd.prog 26 #[v] w (SizeP b w) := by
  have HE := Lib.hid (show sizeE b = (0, 3) by unfold sizeE headE; rw [if_neg (by rw [hkd]; simp), if_pos h4])
  obtain ⟨A, c, hvv, hi⟩ := hv
  subst hvv
  have HV := Lib.hid (show SlB w w.heap.size (.slice A b.length c) b from ⟨A, c, rfl, hi⟩)
  obtain ⟨n, hn⟩ : ∃ n, b.length = n := ⟨_, rfl⟩
  rw [hn] at HV
  obtain ⟨gb, ob, rfl, hgb, hby⟩ := hi.2.2 h0
  have hc0 := hby 0 h0
  rw [Nat.add_zero] at hc0
  obtain ⟨k, hk⟩ : ∃ k, (b.getD 0 0) = k := ⟨_, rfl⟩
  rw [hk] at hc0 hkd
  have HN := Lib.hid hn
  rw [hn] at h0 h4 ⊢
  have hn0 : (n : Int) > 0 := by omega
  have hn00 : 0 < n := h0
  have hwk := byte_wrap k
  clear hi hby hk hn h0
  have HK := Lib.hid hkd
  have h4' : (n : Int) < 4 := by omega
  clear hgb hkd h4
  go_enter Tryd.func26, Tryd.ntmps26
  go_wp2_with (go_at_call 32; refine (isKind_e _ _).mono ?_; rintro e w1 ⟨rfl, hb1⟩; rw [HK.out])
  go_ret2
  exact ⟨by rw [HE.out]; rfl, hb1⟩
set_option maxRecDepth 100000 in
set_option maxHeartbeats 400000 in
theorem size_big (b : List UInt8) (v : Value) (w : World) (hv : SlV w v b) (h0 : 0 < b.length) (_h40 : Hid (b.length ≤ 200000)) (hkd : isKind (((b.getD 0 0).toNat : Nat) : Int) = true) (h4 : 4 ≤ b.length) (N : Nat) (hN : getN ((b.drop 1).take 3) = N) (hc : 32768 < N ∧ b.length = b.length) : Calls Tryd.prog 26 #[v] w (SizeP b w) := by
  have HE := Lib.hid (show sizeE b = (0, 4) by unfold sizeE headE; rw [if_neg (by rw [hkd]; simp), if_neg (by omega), hN, if_pos hc.1])
  obtain ⟨A, c, hvv, hi⟩ := hv
  subst hvv
  have HV := Lib.hid (show SlB w w.heap.size (.slice A b.length c) b from ⟨A, c, rfl, hi⟩)
  obtain ⟨n, hn⟩ : ∃ n, b.length = n := ⟨_, rfl⟩
  rw [hn] at HV
  obtain ⟨gb, ob, rfl, hgb, hby⟩ := hi.2.2 h0
  have hc0 := hby 0 h0
  rw [Nat.add_zero] at hc0
  obtain ⟨k, hk⟩ : ∃ k, (b.getD 0 0) = k := ⟨_, rfl⟩
  rw [hk] at hc0 hkd
  have HN := Lib.hid hn
  rw [hn] at h0 h4 ⊢
  have hn0 : (n : Int) > 0 := by omega
  have hn00 : 0 < n := h0
  have hwk := byte_wrap k
  clear hi hby hk hn h0
  rw [HN.out] at hc
  have HK := Lib.hid hkd
  have h4' : ¬ (n : Int) < 4 := by omega
  have HNN := Lib.hid hN
  have HC := Lib.hid hc
  have H1 := Lib.hid (show 1 ≤ b.length by have := HN.out; omega)
  have HGB := Lib.hid hgb
  have hbig : (N : Int) > 32768 := by omega
  clear hgb hkd hN hc h4
  go_enter Tryd.func26, Tryd.ntmps26
  go_upto_region 5 with (go_at_call 32; refine (isKind_e _ _).mono ?_; rintro e w1 ⟨rfl, hb1⟩; rw [HK.out])
  refine wp_region_lit ?_
  refine wpList_plain rfl (fun K hK => ?_)
  go_simp
  refine hK _ _ ?_
  clear hK K
  try simp only [Act.put, zSa, zSz, zSs]
  refine wpList_sliceL rfl rfl rfl (HV.out.below hb1) 1 rfl H1.out ?_
  intro v4 hv4
  obtain ⟨A4, c4, rfl, hi4⟩ := hv4
  obtain ⟨q4, hq4⟩ : ∃ q, (b.drop 1).length = q := ⟨_, rfl⟩
  rw [hq4]
  try simp only [Act.put, zSa, zSz, zSs]
  refine wpList_plain rfl (fun K hK => wp_builtV 77 _ rfl [(0, .slice A4 q4 c4)] rfl [.slice A4 q4 c4].toArray (builtCur _ _ _) (hK _ _ ?_))
  clear hK K
  try simp only [Act.put, zSa, zSz, zSs]
  refine wpList_new_blk rfl 77 rfl [.slice none 0 0] zeroCur ?_
  intro gc w4 hgc bc hb4
  try simp only [Act.put, zSa, zSz, zSs]
  refine wpList_store_blk rfl 77 (.tmp 4) (.tmp 22) rfl rfl gc [.slice A4 q4 c4] rfl rfl _ _ bc (infoCur.trans rfl) rfl (by simp [Value.oneCell']) ?_
  intro w5 bc5 hg5
  have hgcw : w.heap.size ≤ gc := by rw [hgc]; exact hb1.size
  have hb14 := hb1.trans (hb4.mono hb1.size)
  have hb15 : Below w.heap.size w w5 := hb14.trans (grown_below hg5 hgcw hb14.size)
  have C : CAt w5 w.heap.size gc (b.drop 1) := ⟨hgcw, _, bc5, ⟨A4, c4, by rw [hq4], (hi4.below (hb4.mono hb1.size)).below (grown_below hg5 hgcw hb14.size)⟩⟩
  have HGW := Lib.hid hgcw
  clear hgcw hb14 hgc bc bc5 hb4 hg5 hi4 hq4 hb1 hc0
  go_upto_region 7 with (go_at_call 42; refine (number_c w.heap.size gc (b.drop 1) 3 _ C (Lib.hid (by decide))).mono ?_; rintro e w6 ⟨rfl, C6, hg6⟩; rw [HNN.out])
  have hb16 := hb15.trans (grown_below hg6 HGW.out hb15.size)
  go_wp2
  go_ret2
  exact ⟨by rw [HE.out]; rfl, hb16⟩
set_option maxRecDepth 100000 in
set_option maxHeartbeats 400000 in
theorem size_tail (b : List UInt8) (v : Value) (w : World) (hv : SlV w v b) (h0 : 0 < b.length) (h40 : Hid (b.length ≤ 200000)) (hkd : isKind (((b.getD 0 0).toNat : Nat) : Int) = true) (h4 : 4 ≤ b.length) (N : Nat) (hN : getN ((b.drop 1).take 3) = N) (hc : N ≤ 32768 ∧ b.length - 4 < N) : Calls Tryd.prog 26 #[v] w (SizeP b w) := by
  have HE := Lib.hid (show sizeE b = (0, 3) by unfold sizeE headE; rw [if_neg (by rw [hkd]; simp), if_neg (by omega), hN, if_neg (by omega), if_pos (by omega)])
  obtain ⟨A, c, hvv, hi⟩ := hv
  subst hvv
  have HV := Lib.hid (show SlB w w.heap.size (.slice A b.length c) b from ⟨A, c, rfl, hi⟩)
  obtain ⟨n, hn⟩ : ∃ n, b.length = n := ⟨_, rfl⟩
  rw [hn] at HV
  obtain ⟨gb, ob, rfl, hgb, hby⟩ := hi.2.2 h0
  have hc0 := hby 0 h0
  rw [Nat.add_zero] at hc0
  obtain ⟨k, hk⟩ : ∃ k, (b.getD 0 0) = k := ⟨_, rfl⟩
  rw [hk] at hc0 hkd
  have HN := Lib.hid hn
  rw [hn] at h0 h4 ⊢
  have hn0 : (n : Int) > 0 := by omega
  have hn00 : 0 < n := h0
  have hwk := byte_wrap k
  clear hi hby hk hn h0
  rw [HN.out] at hc
  have HK := Lib.hid hkd
  have h4' : ¬ (n : Int) < 4 := by omega
  have HNN := Lib.hid hN
  have HC := Lib.hid hc
  have H1 := Lib.hid (show 1 ≤ b.length by have := HN.out; omega)
  have HGB := Lib.hid hgb
  have hbig : ¬ (N : Int) > 32768 := by omega
  obtain ⟨d, hd⟩ : ∃ d : Nat, n - 4 = d := ⟨_, rfl⟩
  have hsub : wrap64 ((n : Int) - 4) = (d : Int) := size_sub h40.out HN.out (by omega) hd
  have hlt : (d : Int) < (N : Int) := by omega
  clear hd
  clear hgb hkd hN hc h4
  go_enter Tryd.func26, Tryd.ntmps26
  go_upto_region 5 with (go_at_call 32; refine (isKind_e _ _).mono ?_; rintro e w1 ⟨rfl, hb1⟩; rw [HK.out])
  refine wp_region_lit ?_
  refine wpList_plain rfl (fun K hK => ?_)
  go_simp
  refine hK _ _ ?_
  clear hK K
  try simp only [Act.put, zSa, zSz, zSs]
  refine wpList_sliceL rfl rfl rfl (HV.out.below hb1) 1 rfl H1.out ?_
  intro v4 hv4
  obtain ⟨A4, c4, rfl, hi4⟩ := hv4
  obtain ⟨q4, hq4⟩ : ∃ q, (b.drop 1).length = q := ⟨_, rfl⟩
  rw [hq4]
  try simp only [Act.put, zSa, zSz, zSs]
  refine wpList_plain rfl (fun K hK => wp_builtV 77 _ rfl [(0, .slice A4 q4 c4)] rfl [.slice A4 q4 c4].toArray (builtCur _ _ _) (hK _ _ ?_))
  clear hK K
  try simp only [Act.put, zSa, zSz, zSs]
  refine wpList_new_blk rfl 77 rfl [.slice none 0 0] zeroCur ?_
  intro gc w4 hgc bc hb4
  try simp only [Act.put, zSa, zSz, zSs]
  refine wpList_store_blk rfl 77 (.tmp 4) (.tmp 22) rfl rfl gc [.slice A4 q4 c4] rfl rfl _ _ bc (infoCur.trans rfl) rfl (by simp [Value.oneCell']) ?_
  intro w5 bc5 hg5
  have hgcw : w.heap.size ≤ gc := by rw [hgc]; exact hb1.size
  have hb14 := hb1.trans (hb4.mono hb1.size)
  have hb15 : Below w.heap.size w w5 := hb14.trans (grown_below hg5 hgcw hb14.size)
  have C : CAt w5 w.heap.size gc (b.drop 1) := ⟨hgcw, _, bc5, ⟨A4, c4, by rw [hq4], (hi4.below (hb4.mono hb1.size)).below (grown_below hg5 hgcw hb14.size)⟩⟩
  have HGW := Lib.hid hgcw
  clear hgcw hb14 hgc bc bc5 hb4 hg5 hi4 hq4 hb1 hc0
  go_upto_region 7 with (go_at_call 42; refine (number_c w.heap.size gc (b.drop 1) 3 _ C (Lib.hid (by decide))).mono ?_; rintro e w6 ⟨rfl, C6, hg6⟩; rw [HNN.out])
  have hb16 := hb15.trans (grown_below hg6 HGW.out hb15.size)
  go_wp2
  go_ret2
  exact ⟨by rw [HE.out]; rfl, hb16⟩
set_option maxRecDepth 100000 in
set_option maxHeartbeats 400000 in
theorem size_fine (b : List UInt8) (v : Value) (w : World) (hv : SlV w v b) (h0 : 0 < b.length) (h40 : Hid (b.length ≤ 200000)) (hkd : isKind (((b.getD 0 0).toNat : Nat) : Int) = true) (h4 : 4 ≤ b.length) (N : Nat) (hN : getN ((b.drop 1).take 3) = N) (hc : N ≤ 32768 ∧ N ≤ b.length - 4) : Calls Tryd.prog 26 #[v] w (SizeP b w) := by
  have HE := Lib.hid (show sizeE b = (4 + N, 0) by unfold sizeE headE; rw [if_neg (by rw [hkd]; simp), if_neg (by omega), hN, if_neg (by omega), if_neg (by omega)])
  obtain ⟨A, c, hvv, hi⟩ := hv
  subst hvv
  have HV := Lib.hid (show SlB w w.heap.size (.slice A b.length c) b from ⟨A, c, rfl, hi⟩)
  obtain ⟨n, hn⟩ : ∃ n, b.length = n := ⟨_, rfl⟩
  rw [hn] at HV
  obtain ⟨gb, ob, rfl, hgb, hby⟩ := hi.2.2 h0
  have hc0 := hby 0 h0
  rw [Nat.add_zero] at hc0
  obtain ⟨k, hk⟩ : ∃ k, (b.getD 0 0) = k := ⟨_, rfl⟩
  rw [hk] at hc0 hkd
  have HN := Lib.hid hn
  rw [hn] at h0 h4 ⊢
  have hn0 : (n : Int) > 0 := by omega
  have hn00 : 0 < n := h0
  have hwk := byte_wrap k
  clear hi hby hk hn h0
  rw [HN.out] at hc
  have HK := Lib.hid hkd
  have h4' : ¬ (n : Int) < 4 := by omega
  have HNN := Lib.hid hN
  have HC := Lib.hid hc
  have H1 := Lib.hid (show 1 ≤ b.length by have := HN.out; omega)
  have HGB := Lib.hid hgb
  have hbig : ¬ (N : Int) > 32768 := by omega
  obtain ⟨d, hd⟩ : ∃ d : Nat, n - 4 = d := ⟨_, rfl⟩
  have hsub : wrap64 ((n : Int) - 4) = (d : Int) := size_sub h40.out HN.out (by omega) hd
  have hlt : ¬ (d : Int) < (N : Int) := by omega
  have hadd : wrap64 (4 + (N : Int)) = ((4 + N : Nat) : Int) := size_add (by omega)
  clear hd
  clear hgb hkd hN hc h4
  go_enter Tryd.func26, Tryd.ntmps26
  go_upto_region 5 with (go_at_call 32; refine (isKind_e _ _).mono ?_; rintro e w1 ⟨rfl, hb1⟩; rw [HK.out])
  refine wp_region_lit ?_
  refine wpList_plain rfl (fun K hK => ?_)
  go_simp
  refine hK _ _ ?_
  clear hK K
  try simp only [Act.put, zSa, zSz, zSs]
  refine wpList_sliceL rfl rfl rfl (HV.out.below hb1) 1 rfl H1.out ?_
  intro v4 hv4
  obtain ⟨A4, c4, rfl, hi4⟩ := hv4
  obtain ⟨q4, hq4⟩ : ∃ q, (b.drop 1).length = q := ⟨_, rfl⟩
  rw [hq4]
  try simp only [Act.put, zSa, zSz, zSs]
  refine wpList_plain rfl (fun K hK => wp_builtV 77 _ rfl [(0, .slice A4 q4 c4)] rfl [.slice A4 q4 c4].toArray (builtCur _ _ _) (hK _ _ ?_))
  clear hK K
  try simp only [Act.put, zSa, zSz, zSs]
  refine wpList_new_blk rfl 77 rfl [.slice none 0 0] zeroCur ?_
  intro gc w4 hgc bc hb4
  try simp only [Act.put, zSa, zSz, zSs]
  refine wpList_store_blk rfl 77 (.tmp 4) (.tmp 22) rfl rfl gc [.slice A4 q4 c4] rfl rfl _ _ bc (infoCur.trans rfl) rfl (by simp [Value.oneCell']) ?_
  intro w5 bc5 hg5
  have hgcw : w.heap.size ≤ gc := by rw [hgc]; exact hb1.size
  have hb14 := hb1.trans (hb4.mono hb1.size)
  have hb15 : Below w.heap.size w w5 := hb14.trans (grown_below hg5 hgcw hb14.size)
  have C : CAt w5 w.heap.size gc (b.drop 1) := ⟨hgcw, _, bc5, ⟨A4, c4, by rw [hq4], (hi4.below (hb4.mono hb1.size)).below (grown_below hg5 hgcw hb14.size)⟩⟩
  have HGW := Lib.hid hgcw
  clear hgcw hb14 hgc bc bc5 hb4 hg5 hi4 hq4 hb1 hc0
  go_upto_region 7 with (go_at_call 42; refine (number_c w.heap.size gc (b.drop 1) 3 _ C (Lib.hid (by decide))).mono ?_; rintro e w6 ⟨rfl, C6, hg6⟩; rw [HNN.out])
  have hb16 := hb15.trans (grown_below hg6 HGW.out hb15.size)
  go_wp2
  go_ret2
  exact ⟨by rw [HE.out]; rfl, hb16⟩
theorem size_e (b : List UInt8) (v : Value) (w : World) (hv : SlV w v b) (h40 : Hid (b.length ≤ 200000)) : Calls Tryd.prog 26 #[v] w (SizeP b w) := by
  rcases Nat.eq_zero_or_pos b.length with h | h0
  · obtain rfl : b = [] := List.eq_nil_of_length_eq_zero h
    exact size_nil v w hv
  · cases hk : isKind (((b.getD 0 0).toNat : Nat) : Int) with
    | false => exact size_kind b v w hv h0 h40 hk rfl
    | true =>
      by_cases h4 : b.length < 4
      · exact size_short b v w hv h0 h40 hk h4
      · by_cases hb : 32768 < getN ((b.drop 1).take 3)
        · exact size_big b v w hv h0 h40 hk (by omega) _ rfl ⟨hb, rfl⟩
        · by_cases ht : b.length - 4 < getN ((b.drop 1).take 3)
          · exact size_tail b v w hv h0 h40 hk (by omega) _ rfl ⟨by omega, ht⟩
          · exact size_fine b v w hv h0 h40 hk (by omega) _ rfl ⟨by omega, by omega⟩
end Go.Proofs.YtagblbfbjemfhaaDoor
