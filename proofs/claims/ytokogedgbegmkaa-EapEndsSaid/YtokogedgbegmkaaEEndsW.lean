/-
  The walk of the statement EapEnds.
-/
import Derived.Test.YtokogedgbegmkaaEc
namespace Go.Proofs.Ytokogedgbegmkaa
open Go.RowKit

theorem ends_out (c i t : Int) (b : List UInt8) (h : i < 0 ∨ 255 < i) : writeE c i t b = ([], 2) := by
  have hr : rightB c i t b.length = false := by
    unfold rightB
    by_cases h0 : i < 0
    · rw [if_pos h0]
    · rw [if_neg h0, if_pos (by omega)]
  unfold writeE
  rw [if_neg (by rw [hr]; decide)]
theorem right_end (c : Int) (x : UInt8) (t : Int) (n : Nat) (hc : c = 3 ∨ c = 4) : rightB c (x.toNat : Int) t n = (decide (t = 0) && decide (n = 0)) := by
  have := u8_lt x
  unfold rightB
  rw [if_neg (by omega), if_neg (by omega), if_neg (by omega), if_pos hc]
theorem ends_in (c : Int) (x : UInt8) (hc : c = 3 ∨ c = 4) : writeE c (x.toNat : Int) 0 [] = ([ub c, x, 0, 4], 0) := by
  unfold writeE
  rw [right_end c x 0 _ hc]
  rw [if_pos (by decide)]
  unfold wholeE
  rw [ub_nat]
  rfl
theorem ends_two (c : Int) (x : UInt8) (t : Int) (b : List UInt8) (hc : c = 3 ∨ c = 4) (h : t ≠ 0 ∨ b.length ≠ 0) : (writeE c (x.toNat : Int) t b).2 = 2 := by
  unfold writeE
  rw [right_end c x t _ hc]
  rw [if_neg (by intro h1; rw [Bool.and_eq_true, decide_eq_true_eq, decide_eq_true_eq] at h1; omega)]
theorem ends_same (c : Int) (x : UInt8) (t : Int) (b : List UInt8) (hc : c = 3 ∨ c = 4) (ht : t = 0) (h : b.length = 0) : (writeE c (x.toNat : Int) t b).2 = 0 := by
  subst ht
  obtain rfl := List.eq_nil_of_length_eq_zero h
  rw [ends_in c x hc]
theorem in_nil' (w : World) : In w w.heap.size none 0 [] := ⟨Nat.zero_le _, by omega, fun h => absurd h (by simp)⟩
set_option maxRecDepth 100000 in
set_option maxHeartbeats 1000000 in
theorem eapEnds_3_out (id kind : Int) (A : Option Addr) (c : Nat) (b : List UInt8) (w : World) (iB : In w w.heap.size A c b) (hk : kind.tmod 2 = 0) (hid : id < 0 ∨ 255 < id) :
    Calls Try.prog 4 #[.int .i64 id, .int .i64 kind, .slice A b.length c] w fun e w' => e = .returned (.bool true) ∧ Below w.heap.size w w' := by
  have ms : min (b.length : Int) 20 = ((b.take 20).length : Int) := by rw [List.length_take]; omega
  have hb3 : (b.take 20).length ≤ 20 := by rw [List.length_take]; omega
  have hbl : (b.take 20).length ≤ b.length := by rw [List.length_take]; omega
  have hz0 : (b.take 20).length = 0 ↔ b.length = 0 := by rw [List.length_take]; omega
  have hbc := iB.1
  replace iB := iB.take 20
  generalize b.take 20 = B at *
  obtain ⟨nb, hnb⟩ : ∃ nb, nb = B.length := ⟨_, rfl⟩
  obtain ⟨lb, hlb⟩ : ∃ lb, lb = b.length := ⟨_, rfl⟩
  rw [← hnb] at ms hb3 hbl hz0
  rw [← hlb] at ms hbl hbc ⊢
  have hc0 : (0 : Int) ≤ (nb : Int) := by omega
  have hc1 : (nb : Int) ≤ (c : Int) := by omega
  have hN : Calls Try.prog 8 #[.agg #[.int .i64 3, .int .i64 id, .int .i64 0, .slice none 0 0]] w fun e w' => ∃ A' n' c', e = .returned (.tuple #[.slice A' n' c', .int .i64 ((writeE 3 id 0 []).2 : Int)]) ∧ Buf w' w.heap.size A' n' c' (writeE 3 id 0 []).1 ∧ Below w.heap.size w w' := write_e 3 id 0 none 0 0 [] w rfl (in_nil' w) (by decide)
  have hM := fun (W : World) (i : In W W.heap.size A c B) => write_e 3 id kind A nb c B W hnb.symm i (by omega)
  rw [ends_out _ _ _ _ hid] at hN
  simp only [ends_out _ _ _ _ hid] at hM
  have HN := Lib.hid hN
  have HM := Lib.hid hM
  have IB := Lib.hid iB
  clear hN hM iB hnb hlb hz0 hb3 hbl hbc
  go_enter Try.func4, Try.ntmps4
  go_upto_region 6 with (go_at_call 8; refine HN.out.mono ?_; rintro e w1 ⟨A1, n1, c1, rfl, hX, hb1⟩)
  go_upto_region 7 with (go_at_call 8; refine (HM.out _ (in_up IB.out hb1)).mono ?_; rintro e w2 ⟨A2, n2, c2, rfl, hY, hb2⟩)
  replace hX := hX.below hb2
  replace hb1 := hb1.trans (hb2.mono hb1.size)
  clear hY hb2
  go_upto_region 9 with (go_at_call 10; refine (eaps_e _).mono ?_; rintro e w3 ⟨rfl, hb3⟩)
  replace hX := hX.below hb3
  replace hb1 := hb1.trans (hb3.mono hb1.size)
  clear hb3
  rcases hid with hid | hid
  all_goals (go_wp2; go_ret; exact ⟨rfl, hb1⟩)
set_option maxRecDepth 100000 in
set_option maxHeartbeats 1000000 in
theorem eapEnds_3_same (id kind : Int) (A : Option Addr) (c : Nat) (b : List UInt8) (w : World) (iB : In w w.heap.size A c b) (hk : kind.tmod 2 = 0) (x : UInt8) (hx : id = (x.toNat : Int)) (h0 : kind = 0 ∧ b.length = 0) :
    Calls Try.prog 4 #[.int .i64 id, .int .i64 kind, .slice A b.length c] w fun e w' => e = .returned (.bool true) ∧ Below w.heap.size w w' := by
  subst hx
  have hxl := u8_lt x
  have hxw : IntKind.u8.wrap (x.toNat : Int) = (x.toNat : Int) := by rw [IntKind.wrap_u8]; omega
  have ms : min (b.length : Int) 20 = ((b.take 20).length : Int) := by rw [List.length_take]; omega
  have hb3 : (b.take 20).length ≤ 20 := by rw [List.length_take]; omega
  have hbl : (b.take 20).length ≤ b.length := by rw [List.length_take]; omega
  have hz0 : (b.take 20).length = 0 ↔ b.length = 0 := by rw [List.length_take]; omega
  have hbc := iB.1
  replace iB := iB.take 20
  generalize b.take 20 = B at *
  obtain ⟨nb, hnb⟩ : ∃ nb, nb = B.length := ⟨_, rfl⟩
  obtain ⟨lb, hlb⟩ : ∃ lb, lb = b.length := ⟨_, rfl⟩
  rw [← hnb] at ms hb3 hbl hz0
  have k1 : kind = 0 := h0.1
  have k2 : nb = 0 := hz0.2 h0.2
  have q1 : (kind == 0) = true := by simp [k1]
  have q2 : ((nb : Int) == 0) = true := by simp [k2]
  clear h0
  rw [← hlb] at ms hbl hbc ⊢
  have hc0 : (0 : Int) ≤ (nb : Int) := by omega
  have hc1 : (nb : Int) ≤ (c : Int) := by omega
  have hN : Calls Try.prog 8 #[.agg #[.int .i64 3, .int .i64 (x.toNat : Int), .int .i64 0, .slice none 0 0]] w fun e w' => ∃ A' n' c', e = .returned (.tuple #[.slice A' n' c', .int .i64 ((writeE 3 (x.toNat : Int) 0 []).2 : Int)]) ∧ Buf w' w.heap.size A' n' c' (writeE 3 (x.toNat : Int) 0 []).1 ∧ Below w.heap.size w w' := write_e 3 (x.toNat : Int) 0 none 0 0 [] w rfl (in_nil' w) (by decide)
  have hM := fun (W : World) (i : In W W.heap.size A c B) => write_e 3 (x.toNat : Int) kind A nb c B W hnb.symm i (by omega)
  rw [ends_in 3 x (by decide)] at hN
  have hM2 := ends_same 3 x kind B (by decide) k1 (by rw [← hnb]; exact k2)
  clear k1 k2
  simp only [hM2] at hM
  have HN := Lib.hid hN
  have HM := Lib.hid hM
  have IB := Lib.hid iB
  clear hN hM iB hnb hlb hz0 hb3 hbl hbc
  clear hM2
  go_enter Try.func4, Try.ntmps4
  go_upto_region 6 with (go_at_call 8; refine HN.out.mono ?_; rintro e w1 ⟨A1, n1, c1, rfl, hX, hb1⟩)
  go_upto_region 7 with (go_at_call 8; refine (HM.out _ (in_up IB.out hb1)).mono ?_; rintro e w2 ⟨A2, n2, c2, rfl, hY, hb2⟩)
  replace hX := hX.below hb2
  replace hb1 := hb1.trans (hb2.mono hb1.size)
  clear hY hb2
  go_upto_region 9 with (go_at_call 10; refine (eaps_e _).mono ?_; rintro e w3 ⟨rfl, hb3⟩)
  replace hX := hX.below hb3
  replace hb1 := hb1.trans (hb3.mono hb1.size)
  clear hb3
  have hx0 : (0 : Int) ≤ (x.toNat : Int) := by omega
  have hx1 : (x.toNat : Int) ≤ 255 := by omega
  go_upto_region 11 with (fail)
  clear hx0 hx1 q1 hxl q2
  have hcx : (convert 24 9 (.slice A1 n1 c1)).run Try.prog w3 = .ok (.string ⟨#[3, x, 0, 4]⟩) w3 := conv_in hX.1 (hX.toIn (Nat.le_refl _))
  have hcl : (convert 24 9 (.slice (some ⟨w3.heap.size, 0, none⟩) 4 4)).run Try.prog (w3.alloc (.cells #[.int .u8 3, .int .u8 (x.toNat : Int), .int .u8 0, .int .u8 4] 5)) = .ok (.string ⟨#[3, x, 0, 4]⟩) (w3.alloc (.cells #[.int .u8 3, .int .u8 (x.toNat : Int), .int .u8 0, .int .u8 4] 5)) := conv_in rfl ((buf_lit w3 [3, x, 0, 4] 4 5 rfl (by decide)).toIn (Nat.le_refl _))
  go_wp2
  go_ret
  exact ⟨rfl, hb1.alloc hb1.size _⟩
set_option maxRecDepth 100000 in
set_option maxHeartbeats 1000000 in
theorem eapEnds_3_knz (id kind : Int) (A : Option Addr) (c : Nat) (b : List UInt8) (w : World) (iB : In w w.heap.size A c b) (hk : kind.tmod 2 = 0) (x : UInt8) (hx : id = (x.toNat : Int)) (h0 : kind ≠ 0) :
    Calls Try.prog 4 #[.int .i64 id, .int .i64 kind, .slice A b.length c] w fun e w' => e = .returned (.bool true) ∧ Below w.heap.size w w' := by
  subst hx
  have hxl := u8_lt x
  have hxw : IntKind.u8.wrap (x.toNat : Int) = (x.toNat : Int) := by rw [IntKind.wrap_u8]; omega
  have ms : min (b.length : Int) 20 = ((b.take 20).length : Int) := by rw [List.length_take]; omega
  have hb3 : (b.take 20).length ≤ 20 := by rw [List.length_take]; omega
  have hbl : (b.take 20).length ≤ b.length := by rw [List.length_take]; omega
  have hz0 : (b.take 20).length = 0 ↔ b.length = 0 := by rw [List.length_take]; omega
  have hbc := iB.1
  replace iB := iB.take 20
  generalize b.take 20 = B at *
  obtain ⟨nb, hnb⟩ : ∃ nb, nb = B.length := ⟨_, rfl⟩
  obtain ⟨lb, hlb⟩ : ∃ lb, lb = b.length := ⟨_, rfl⟩
  rw [← hnb] at ms hb3 hbl hz0
  have k1 : kind ≠ 0 ∨ nb ≠ 0 := .inl h0
  have q1 : (kind == 0) = false := by simp [h0]
  clear h0
  rw [← hlb] at ms hbl hbc ⊢
  have hc0 : (0 : Int) ≤ (nb : Int) := by omega
  have hc1 : (nb : Int) ≤ (c : Int) := by omega
  have hN : Calls Try.prog 8 #[.agg #[.int .i64 3, .int .i64 (x.toNat : Int), .int .i64 0, .slice none 0 0]] w fun e w' => ∃ A' n' c', e = .returned (.tuple #[.slice A' n' c', .int .i64 ((writeE 3 (x.toNat : Int) 0 []).2 : Int)]) ∧ Buf w' w.heap.size A' n' c' (writeE 3 (x.toNat : Int) 0 []).1 ∧ Below w.heap.size w w' := write_e 3 (x.toNat : Int) 0 none 0 0 [] w rfl (in_nil' w) (by decide)
  have hM := fun (W : World) (i : In W W.heap.size A c B) => write_e 3 (x.toNat : Int) kind A nb c B W hnb.symm i (by omega)
  rw [ends_in 3 x (by decide)] at hN
  have hM2 := ends_two 3 x kind B (by decide) (by rw [← hnb]; exact k1)
  clear k1
  simp only [hM2] at hM
  have HN := Lib.hid hN
  have HM := Lib.hid hM
  have IB := Lib.hid iB
  clear hN hM iB hnb hlb hz0 hb3 hbl hbc
  clear hM2
  go_enter Try.func4, Try.ntmps4
  go_upto_region 6 with (go_at_call 8; refine HN.out.mono ?_; rintro e w1 ⟨A1, n1, c1, rfl, hX, hb1⟩)
  go_upto_region 7 with (go_at_call 8; refine (HM.out _ (in_up IB.out hb1)).mono ?_; rintro e w2 ⟨A2, n2, c2, rfl, hY, hb2⟩)
  replace hX := hX.below hb2
  replace hb1 := hb1.trans (hb2.mono hb1.size)
  clear hY hb2
  go_upto_region 9 with (go_at_call 10; refine (eaps_e _).mono ?_; rintro e w3 ⟨rfl, hb3⟩)
  replace hX := hX.below hb3
  replace hb1 := hb1.trans (hb3.mono hb1.size)
  clear hb3
  have hx0 : (0 : Int) ≤ (x.toNat : Int) := by omega
  have hx1 : (x.toNat : Int) ≤ 255 := by omega
  go_upto_region 11 with (fail)
  clear hx0 hx1 q1 hxl
  have hcx : (convert 24 9 (.slice A1 n1 c1)).run Try.prog w3 = .ok (.string ⟨#[3, x, 0, 4]⟩) w3 := conv_in hX.1 (hX.toIn (Nat.le_refl _))
  have hcl : (convert 24 9 (.slice (some ⟨w3.heap.size, 0, none⟩) 4 4)).run Try.prog (w3.alloc (.cells #[.int .u8 3, .int .u8 (x.toNat : Int), .int .u8 0, .int .u8 4] 5)) = .ok (.string ⟨#[3, x, 0, 4]⟩) (w3.alloc (.cells #[.int .u8 3, .int .u8 (x.toNat : Int), .int .u8 0, .int .u8 4] 5)) := conv_in rfl ((buf_lit w3 [3, x, 0, 4] 4 5 rfl (by decide)).toIn (Nat.le_refl _))
  go_wp2
  go_ret
  exact ⟨rfl, hb1.alloc hb1.size _⟩
set_option maxRecDepth 100000 in
set_option maxHeartbeats 1000000 in
theorem eapEnds_3_lnz (id kind : Int) (A : Option Addr) (c : Nat) (b : List UInt8) (w : World) (iB : In w w.heap.size A c b) (hk : kind.tmod 2 = 0) (x : UInt8) (hx : id = (x.toNat : Int)) (h0 : kind = 0 ∧ b.length ≠ 0) :
    Calls Try.prog 4 #[.int .i64 id, .int .i64 kind, .slice A b.length c] w fun e w' => e = .returned (.bool true) ∧ Below w.heap.size w w' := by
  subst hx
  have hxl := u8_lt x
  have hxw : IntKind.u8.wrap (x.toNat : Int) = (x.toNat : Int) := by rw [IntKind.wrap_u8]; omega
  have ms : min (b.length : Int) 20 = ((b.take 20).length : Int) := by rw [List.length_take]; omega
  have hb3 : (b.take 20).length ≤ 20 := by rw [List.length_take]; omega
  have hbl : (b.take 20).length ≤ b.length := by rw [List.length_take]; omega
  have hz0 : (b.take 20).length = 0 ↔ b.length = 0 := by rw [List.length_take]; omega
  have hbc := iB.1
  replace iB := iB.take 20
  generalize b.take 20 = B at *
  obtain ⟨nb, hnb⟩ : ∃ nb, nb = B.length := ⟨_, rfl⟩
  obtain ⟨lb, hlb⟩ : ∃ lb, lb = b.length := ⟨_, rfl⟩
  rw [← hnb] at ms hb3 hbl hz0
  have k1 : kind ≠ 0 ∨ nb ≠ 0 := .inr (fun e => h0.2 (hz0.1 e))
  have q1 : (kind == 0) = true := by simp [h0.1]
  have q2 : ((nb : Int) == 0) = false := by simp; exact fun e => h0.2 (hz0.1 e)
  clear h0
  rw [← hlb] at ms hbl hbc ⊢
  have hc0 : (0 : Int) ≤ (nb : Int) := by omega
  have hc1 : (nb : Int) ≤ (c : Int) := by omega
  have hN : Calls Try.prog 8 #[.agg #[.int .i64 3, .int .i64 (x.toNat : Int), .int .i64 0, .slice none 0 0]] w fun e w' => ∃ A' n' c', e = .returned (.tuple #[.slice A' n' c', .int .i64 ((writeE 3 (x.toNat : Int) 0 []).2 : Int)]) ∧ Buf w' w.heap.size A' n' c' (writeE 3 (x.toNat : Int) 0 []).1 ∧ Below w.heap.size w w' := write_e 3 (x.toNat : Int) 0 none 0 0 [] w rfl (in_nil' w) (by decide)
  have hM := fun (W : World) (i : In W W.heap.size A c B) => write_e 3 (x.toNat : Int) kind A nb c B W hnb.symm i (by omega)
  rw [ends_in 3 x (by decide)] at hN
  have hM2 := ends_two 3 x kind B (by decide) (by rw [← hnb]; exact k1)
  clear k1
  simp only [hM2] at hM
  have HN := Lib.hid hN
  have HM := Lib.hid hM
  have IB := Lib.hid iB
  clear hN hM iB hnb hlb hz0 hb3 hbl hbc
  clear hM2
  go_enter Try.func4, Try.ntmps4
  go_upto_region 6 with (go_at_call 8; refine HN.out.mono ?_; rintro e w1 ⟨A1, n1, c1, rfl, hX, hb1⟩)
  go_upto_region 7 with (go_at_call 8; refine (HM.out _ (in_up IB.out hb1)).mono ?_; rintro e w2 ⟨A2, n2, c2, rfl, hY, hb2⟩)
  replace hX := hX.below hb2
  replace hb1 := hb1.trans (hb2.mono hb1.size)
  clear hY hb2
  go_upto_region 9 with (go_at_call 10; refine (eaps_e _).mono ?_; rintro e w3 ⟨rfl, hb3⟩)
  replace hX := hX.below hb3
  replace hb1 := hb1.trans (hb3.mono hb1.size)
  clear hb3
  have hx0 : (0 : Int) ≤ (x.toNat : Int) := by omega
  have hx1 : (x.toNat : Int) ≤ 255 := by omega
  go_upto_region 11 with (fail)
  clear hx0 hx1 q1 hxl q2
  have hcx : (convert 24 9 (.slice A1 n1 c1)).run Try.prog w3 = .ok (.string ⟨#[3, x, 0, 4]⟩) w3 := conv_in hX.1 (hX.toIn (Nat.le_refl _))
  have hcl : (convert 24 9 (.slice (some ⟨w3.heap.size, 0, none⟩) 4 4)).run Try.prog (w3.alloc (.cells #[.int .u8 3, .int .u8 (x.toNat : Int), .int .u8 0, .int .u8 4] 5)) = .ok (.string ⟨#[3, x, 0, 4]⟩) (w3.alloc (.cells #[.int .u8 3, .int .u8 (x.toNat : Int), .int .u8 0, .int .u8 4] 5)) := conv_in rfl ((buf_lit w3 [3, x, 0, 4] 4 5 rfl (by decide)).toIn (Nat.le_refl _))
  go_wp2
  go_ret
  exact ⟨rfl, hb1.alloc hb1.size _⟩
set_option maxRecDepth 100000 in
set_option maxHeartbeats 1000000 in
theorem eapEnds_4_out (id kind : Int) (A : Option Addr) (c : Nat) (b : List UInt8) (w : World) (iB : In w w.heap.size A c b) (hk : ¬ kind.tmod 2 = 0) (hid : id < 0 ∨ 255 < id) :
    Calls Try.prog 4 #[.int .i64 id, .int .i64 kind, .slice A b.length c] w fun e w' => e = .returned (.bool true) ∧ Below w.heap.size w w' := by
  have ms : min (b.length : Int) 20 = ((b.take 20).length : Int) := by rw [List.length_take]; omega
  have hb3 : (b.take 20).length ≤ 20 := by rw [List.length_take]; omega
  have hbl : (b.take 20).length ≤ b.length := by rw [List.length_take]; omega
  have hz0 : (b.take 20).length = 0 ↔ b.length = 0 := by rw [List.length_take]; omega
  have hbc := iB.1
  replace iB := iB.take 20
  generalize b.take 20 = B at *
  obtain ⟨nb, hnb⟩ : ∃ nb, nb = B.length := ⟨_, rfl⟩
  obtain ⟨lb, hlb⟩ : ∃ lb, lb = b.length := ⟨_, rfl⟩
  rw [← hnb] at ms hb3 hbl hz0
  rw [← hlb] at ms hbl hbc ⊢
  have hc0 : (0 : Int) ≤ (nb : Int) := by omega
  have hc1 : (nb : Int) ≤ (c : Int) := by omega
  have hN : Calls Try.prog 8 #[.agg #[.int .i64 4, .int .i64 id, .int .i64 0, .slice none 0 0]] w fun e w' => ∃ A' n' c', e = .returned (.tuple #[.slice A' n' c', .int .i64 ((writeE 4 id 0 []).2 : Int)]) ∧ Buf w' w.heap.size A' n' c' (writeE 4 id 0 []).1 ∧ Below w.heap.size w w' := write_e 4 id 0 none 0 0 [] w rfl (in_nil' w) (by decide)
  have hM := fun (W : World) (i : In W W.heap.size A c B) => write_e 4 id kind A nb c B W hnb.symm i (by omega)
  rw [ends_out _ _ _ _ hid] at hN
  simp only [ends_out _ _ _ _ hid] at hM
  have HN := Lib.hid hN
  have HM := Lib.hid hM
  have IB := Lib.hid iB
  clear hN hM iB hnb hlb hz0 hb3 hbl hbc
  go_enter Try.func4, Try.ntmps4
  go_upto_region 6 with (go_at_call 8; refine HN.out.mono ?_; rintro e w1 ⟨A1, n1, c1, rfl, hX, hb1⟩)
  go_upto_region 7 with (go_at_call 8; refine (HM.out _ (in_up IB.out hb1)).mono ?_; rintro e w2 ⟨A2, n2, c2, rfl, hY, hb2⟩)
  replace hX := hX.below hb2
  replace hb1 := hb1.trans (hb2.mono hb1.size)
  clear hY hb2
  go_upto_region 9 with (go_at_call 10; refine (eaps_e _).mono ?_; rintro e w3 ⟨rfl, hb3⟩)
  replace hX := hX.below hb3
  replace hb1 := hb1.trans (hb3.mono hb1.size)
  clear hb3
  rcases hid with hid | hid
  all_goals (go_wp2; go_ret; exact ⟨rfl, hb1⟩)
set_option maxRecDepth 100000 in
set_option maxHeartbeats 1000000 in
theorem eapEnds_4_knz (id kind : Int) (A : Option Addr) (c : Nat) (b : List UInt8) (w : World) (iB : In w w.heap.size A c b) (hk : ¬ kind.tmod 2 = 0) (x : UInt8) (hx : id = (x.toNat : Int)) (h0 : kind ≠ 0) :
    Calls Try.prog 4 #[.int .i64 id, .int .i64 kind, .slice A b.length c] w fun e w' => e = .returned (.bool true) ∧ Below w.heap.size w w' := by
  subst hx
  have hxl := u8_lt x
  have hxw : IntKind.u8.wrap (x.toNat : Int) = (x.toNat : Int) := by rw [IntKind.wrap_u8]; omega
  have ms : min (b.length : Int) 20 = ((b.take 20).length : Int) := by rw [List.length_take]; omega
  have hb3 : (b.take 20).length ≤ 20 := by rw [List.length_take]; omega
  have hbl : (b.take 20).length ≤ b.length := by rw [List.length_take]; omega
  have hz0 : (b.take 20).length = 0 ↔ b.length = 0 := by rw [List.length_take]; omega
  have hbc := iB.1
  replace iB := iB.take 20
  generalize b.take 20 = B at *
  obtain ⟨nb, hnb⟩ : ∃ nb, nb = B.length := ⟨_, rfl⟩
  obtain ⟨lb, hlb⟩ : ∃ lb, lb = b.length := ⟨_, rfl⟩
  rw [← hnb] at ms hb3 hbl hz0
  have k1 : kind ≠ 0 ∨ nb ≠ 0 := .inl h0
  have q1 : (kind == 0) = false := by simp [h0]
  clear h0
  rw [← hlb] at ms hbl hbc ⊢
  have hc0 : (0 : Int) ≤ (nb : Int) := by omega
  have hc1 : (nb : Int) ≤ (c : Int) := by omega
  have hN : Calls Try.prog 8 #[.agg #[.int .i64 4, .int .i64 (x.toNat : Int), .int .i64 0, .slice none 0 0]] w fun e w' => ∃ A' n' c', e = .returned (.tuple #[.slice A' n' c', .int .i64 ((writeE 4 (x.toNat : Int) 0 []).2 : Int)]) ∧ Buf w' w.heap.size A' n' c' (writeE 4 (x.toNat : Int) 0 []).1 ∧ Below w.heap.size w w' := write_e 4 (x.toNat : Int) 0 none 0 0 [] w rfl (in_nil' w) (by decide)
  have hM := fun (W : World) (i : In W W.heap.size A c B) => write_e 4 (x.toNat : Int) kind A nb c B W hnb.symm i (by omega)
  rw [ends_in 4 x (by decide)] at hN
  have hM2 := ends_two 4 x kind B (by decide) (by rw [← hnb]; exact k1)
  clear k1
  simp only [hM2] at hM
  have HN := Lib.hid hN
  have HM := Lib.hid hM
  have IB := Lib.hid iB
  clear hN hM iB hnb hlb hz0 hb3 hbl hbc
  clear hM2
  go_enter Try.func4, Try.ntmps4
  go_upto_region 6 with (go_at_call 8; refine HN.out.mono ?_; rintro e w1 ⟨A1, n1, c1, rfl, hX, hb1⟩)
  go_upto_region 7 with (go_at_call 8; refine (HM.out _ (in_up IB.out hb1)).mono ?_; rintro e w2 ⟨A2, n2, c2, rfl, hY, hb2⟩)
  replace hX := hX.below hb2
  replace hb1 := hb1.trans (hb2.mono hb1.size)
  clear hY hb2
  go_upto_region 9 with (go_at_call 10; refine (eaps_e _).mono ?_; rintro e w3 ⟨rfl, hb3⟩)
  replace hX := hX.below hb3
  replace hb1 := hb1.trans (hb3.mono hb1.size)
  clear hb3
  have hx0 : (0 : Int) ≤ (x.toNat : Int) := by omega
  have hx1 : (x.toNat : Int) ≤ 255 := by omega
  go_upto_region 11 with (fail)
  clear hx0 hx1 q1 hxl
  have hcx : (convert 24 9 (.slice A1 n1 c1)).run Try.prog w3 = .ok (.string ⟨#[4, x, 0, 4]⟩) w3 := conv_in hX.1 (hX.toIn (Nat.le_refl _))
  have hcl : (convert 24 9 (.slice (some ⟨w3.heap.size, 0, none⟩) 4 4)).run Try.prog (w3.alloc (.cells #[.int .u8 4, .int .u8 (x.toNat : Int), .int .u8 0, .int .u8 4] 5)) = .ok (.string ⟨#[4, x, 0, 4]⟩) (w3.alloc (.cells #[.int .u8 4, .int .u8 (x.toNat : Int), .int .u8 0, .int .u8 4] 5)) := conv_in rfl ((buf_lit w3 [4, x, 0, 4] 4 5 rfl (by decide)).toIn (Nat.le_refl _))
  go_wp2
  go_ret
  exact ⟨rfl, hb1.alloc hb1.size _⟩
set_option maxRecDepth 100000 in
set_option maxHeartbeats 1000000 in
theorem eapEnds_walk (id kind : Int) (A : Option Addr) (c : Nat) (b : List UInt8) (w : World) (iB : In w w.heap.size A c b) :
    Calls Try.prog 4 #[.int .i64 id, .int .i64 kind, .slice A b.length c] w fun e w' => e = .returned (.bool true) ∧ Below w.heap.size w w' := by
  by_cases hid : id < 0 ∨ 255 < id
  · by_cases hk : kind.tmod 2 = 0
    · exact eapEnds_3_out id kind A c b w iB hk hid
    · exact eapEnds_4_out id kind A c b w iB hk hid
  · obtain ⟨x, hx⟩ : ∃ x : UInt8, id = (x.toNat : Int) := ⟨UInt8.ofNat id.toNat, by rw [UInt8.toNat_ofNat']; omega⟩
    by_cases hz : kind = 0
    · have hk : kind.tmod 2 = 0 := by rw [hz]; rfl
      by_cases hn : b.length = 0
      · exact eapEnds_3_same id kind A c b w iB hk x hx ⟨hz, hn⟩
      · exact eapEnds_3_lnz id kind A c b w iB hk x hx ⟨hz, hn⟩
    · by_cases hk : kind.tmod 2 = 0
      · exact eapEnds_3_knz id kind A c b w iB hk x hx hz
      · exact eapEnds_4_knz id kind A c b w iB hk x hx hz
end Go.Proofs.Ytokogedgbegmkaa
