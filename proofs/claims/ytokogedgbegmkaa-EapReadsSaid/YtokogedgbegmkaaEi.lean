/-
  The contract of the reference's Read of layer 16.
-/
import Derived.Test.YtokogedgbegmkaaEh
import Derived.Test.YtokogedgbegmkaaEf
import Derived.Deep.QuietTactic
namespace Go.Proofs.Ytokogedgbegmkaa
open Go.RowKit

theorem str_get (P : List UInt8) (i : Nat) (h : i < P.length) : (⟨P.toArray⟩ : ByteArray)[i]'(show i < P.length from h) = P.getD i 0 := by
  rw [List.getD_eq_getElem?_getD, List.getElem?_eq_getElem h]; rfl
theorem extract_from (b : List UInt8) (s m : Nat) (hm : b.length ≤ m) : (⟨b.toArray⟩ : ByteArray).extract s m = ⟨(b.drop s).toArray⟩ := by
  apply ByteArray.ext
  rw [ByteArray.data_extract]
  simp
  rw [List.take_of_length_le (by rw [List.length_drop]; omega)]
theorem ix_sum (x y : UInt8) (q : Nat) (h : q = x.toNat * 256 + y.toNat) : wrap64 (q : Int) = (q : Int) ∧ (x.toNat : Int) * 256 + (y.toNat : Int) = (q : Int) ∧ IntKind.i64.wrap (q : Int) = (q : Int) := by
  have hx := x.toNat_lt
  have hy := y.toNat_lt
  rw [IntKind.wrap_i64]
  generalize x.toNat = a at *
  generalize y.toNat = c at *
  subst h
  unfold wrap64; omega
theorem readE_short {b : List UInt8} (h4 : b.length = 4) (hc : ¬ b.length < cntE b) (h3 : ((b.getD 0 0).toNat : Int) < 3) : readE b = ((0, 0, 0, []), 2) := by
  unfold readE
  rw [if_neg (by omega)]
  have hs : saidE b = (((b.getD 0 0).toNat : Int), ((b.getD 1 0).toNat : Int), 0, b.drop 5) := by unfold saidE; rw [if_pos (by omega)]
  rw [hs]
  simp only
  rw [if_neg]
  intro h
  have hr : rightB ((b.getD 0 0).toNat : Int) ((b.getD 1 0).toNat : Int) 0 (b.drop 5).length = false := by
    unfold rightB
    have := u8_lt (b.getD 1 0)
    rw [if_neg (by omega), if_neg (by omega)]
    split
    · simp
    · rw [if_neg (by omega)]
  unfold writeE at h
  rw [if_neg (by rw [hr]; decide)] at h
  simp at h
theorem write_ends_length {c i : Int} {t : Int} {d : List UInt8} {r : List UInt8} (hc : 3 ≤ c) (h : writeE c i t d = (r, 0)) : r.length = 4 ∧ t = 0 ∧ d = [] := by
  unfold writeE at h
  split at h
  · rename_i hr
    obtain ⟨hh, _⟩ := right_big hr
    rcases hh with ⟨h1, _⟩ | ⟨_, ht, hn⟩
    · omega
    · have hr2 : wholeE c i t d = r := congrArg Prod.fst h
      have hd := List.eq_nil_of_length_eq_zero hn
      subst ht hd
      rw [← hr2, wholeE_length]
      exact ⟨rfl, rfl, rfl⟩
  · simp at h
theorem readE_high {b : List UInt8} (h4 : 4 ≤ b.length) (hc : ¬ b.length < cntE b) (h3 : 3 ≤ ((b.getD 0 0).toNat : Int)) :
    readE b = if writeE ((b.getD 0 0).toNat : Int) ((b.getD 1 0).toNat : Int) 0 [] = (b, 0) then ((((b.getD 0 0).toNat : Int), ((b.getD 1 0).toNat : Int), 0, []), 0) else ((0, 0, 0, []), 2) := by
  unfold readE
  rw [if_neg (by omega)]
  by_cases h5 : b.length ≤ 4
  · have hs : saidE b = (((b.getD 0 0).toNat : Int), ((b.getD 1 0).toNat : Int), 0, []) := by unfold saidE; rw [if_pos h5, List.drop_of_length_le (show b.length ≤ 5 by omega)]
    rw [hs]
  · have hs : saidE b = (((b.getD 0 0).toNat : Int), ((b.getD 1 0).toNat : Int), ((b.getD 4 0).toNat : Int), b.drop 5) := by unfold saidE; rw [if_neg h5]
    rw [hs]
    simp only
    rw [if_neg, if_neg]
    · intro h; have := write_ends_length h3 h; omega
    · intro h; have := write_ends_length h3 h; omega
set_option maxRecDepth 100000 in
set_option maxHeartbeats 1000000 in
theorem rread_e (n : Nat) (b : List UInt8) (w : World) (hn : b.length = n) (hm : n < 900000) :
    Calls Try.prog 13 #[.string ⟨b.toArray⟩] w fun e w' => e = .returned (.tuple #[.agg #[.int .i64 (readE b).1.1, .int .i64 (readE b).1.2.1, .int .i64 (readE b).1.2.2.1, .string ⟨(readE b).1.2.2.2.toArray⟩], .int .i64 ((readE b).2 : Int)]) ∧ Below w.heap.size w w' := by
  have hR := Blk.new_of w 23 #[.int .i64 0, .int .i64 0, .int .i64 0, .string ⟨#[]⟩] _ rfl
  have hbw : Below w.heap.size w (w.alloc (.cells #[.int .i64 0, .int .i64 0, .int .i64 0, .string ⟨#[]⟩] 23)) := (Below.refl _ _).alloc (Nat.le_refl _) _
  have hz1 : (w.alloc (.cells #[.int .i64 0, .int .i64 0, .int .i64 0, .string ⟨#[]⟩] 23)).heap.size = w.heap.size + 1 := by simp
  have hlen : (b.length : Int) = (n : Int) := by omega
  by_cases h4 : n < 4
  · have HZ := Lib.hid (show readE b = ((0, 0, 0, []), 3) by unfold readE; rw [if_pos (.inl (by omega))])
    have hd : decide ((n : Int) < 4) = true := by simp; omega
    clear hn h4
    go_enter Try.func13, Try.ntmps13
    go_upto_region 1 with (fail)
    generalize w.alloc (.cells #[.int .i64 0, .int .i64 0, .int .i64 0, .string ⟨#[]⟩] 23) = w1 at *
    go_quiet (fail)
    replace hR : Blk (w1.drewN nq) w.heap.size 23 _ := hR.drewN nq
    replace hbw : Below w.heap.size w (w1.drewN nq) := below_drewN hbw nq
    generalize w1.drewN nq = w2 at *
    go_wp2_with ((with_reducible refine (?_ : wpList _ _ _ (Oper.mk none _ _ _ _ _ :: _) _ _)); go_loud (refine wpList_store_blk rfl 23 (.tmp 2) (.tmp 23) rfl rfl w.heap.size [.int .i64 0, .int .i64 0, .int .i64 0, .string ⟨#[]⟩] rfl rfl _ _ hR (by kernel_rfl) rfl (by simp [Value.oneCell']) ?_); intro w9 hQ9 hg9)
    have f0 : w9.cell? ⟨w.heap.size, 0, none⟩ = some (.int .i64 0) := hQ9.cell 0
    have f1 : w9.cell? ⟨w.heap.size, 1, none⟩ = some (.int .i64 0) := hQ9.cell 1
    have f2 : w9.cell? ⟨w.heap.size, 2, none⟩ = some (.int .i64 0) := hQ9.cell 2
    have f3 : w9.cell? ⟨w.heap.size, 3, none⟩ = some (.string ⟨#[]⟩) := hQ9.cell 3
    have hb9 : Below w.heap.size w w9 := below_new hbw hg9 (Nat.le_refl _) hbw.size
    refine bodyPost_ret (v := .tuple #[.agg #[.int .i64 0, .int .i64 0, .int .i64 0, .string ⟨#[]⟩], .int .i64 3]) (by simp [results, Try.results13, go_sem, f0, f1, f2, f3]) rfl ⟨by rw [HZ.out] <;> rfl, hb9⟩
  · have hd : decide ((n : Int) < 4) = false := by simp; omega
    have hq2 : 2 < b.length := by omega
    have hq3 : 3 < b.length := by omega
    have s2 := str_get b 2 hq2
    have s3 := str_get b 3 hq3
    have HQ := Lib.hid (show cntE b = (b.getD 2 0).toNat * 256 + (b.getD 3 0).toNat from rfl)
    obtain ⟨x2, hx2⟩ : ∃ x, x = b.getD 2 0 := ⟨_, rfl⟩
    obtain ⟨x3, hx3⟩ : ∃ x, x = b.getD 3 0 := ⟨_, rfl⟩
    rw [← hx2] at s2
    rw [← hx3] at s3
    rw [← hx2, ← hx3] at HQ
    obtain ⟨k1, k2, k3, k4⟩ := ix_byte x2
    obtain ⟨l1, l2, l3, l4⟩ := ix_byte x3
    obtain ⟨m1, m2, m3⟩ := ix_sum x2 x3 _ HQ.out
    have HHX := Lib.hid (And.intro hx2 hx3)
    have HN := Lib.hid hn
    have H4 := Lib.hid h4
    by_cases hcn : n < cntE b
    · have HZ := Lib.hid (show readE b = ((0, 0, 0, []), 3) by unfold readE; rw [if_pos (.inr (by omega))])
      have hd2 : decide (n < cntE b) = true := by simpa using hcn
      clear hn h4 hcn hx2 hx3
      go_enter Try.func13, Try.ntmps13
      go_upto_region 1 with (fail)
      generalize w.alloc (.cells #[.int .i64 0, .int .i64 0, .int .i64 0, .string ⟨#[]⟩] 23) = w1 at *
      go_quiet (fail)
      replace hR : Blk (w1.drewN nq) w.heap.size 23 _ := hR.drewN nq
      replace hbw : Below w.heap.size w (w1.drewN nq) := below_drewN hbw nq
      generalize w1.drewN nq = w2 at *
      go_wp2_with ((with_reducible refine (?_ : wpList _ _ _ (Oper.mk none _ _ _ _ _ :: _) _ _)); go_loud (refine wpList_store_blk rfl 23 (.tmp 2) (.tmp 23) rfl rfl w.heap.size [.int .i64 0, .int .i64 0, .int .i64 0, .string ⟨#[]⟩] rfl rfl _ _ hR (by kernel_rfl) rfl (by simp [Value.oneCell']) ?_); intro w9 hQ9 hg9)
      have f0 : w9.cell? ⟨w.heap.size, 0, none⟩ = some (.int .i64 0) := hQ9.cell 0
      have f1 : w9.cell? ⟨w.heap.size, 1, none⟩ = some (.int .i64 0) := hQ9.cell 1
      have f2 : w9.cell? ⟨w.heap.size, 2, none⟩ = some (.int .i64 0) := hQ9.cell 2
      have f3 : w9.cell? ⟨w.heap.size, 3, none⟩ = some (.string ⟨#[]⟩) := hQ9.cell 3
      have hb9 : Below w.heap.size w w9 := below_new hbw hg9 (Nat.le_refl _) hbw.size
      refine bodyPost_ret (v := .tuple #[.agg #[.int .i64 0, .int .i64 0, .int .i64 0, .string ⟨#[]⟩], .int .i64 3]) (by simp [results, Try.results13, go_sem, f0, f1, f2, f3]) rfl ⟨by rw [HZ.out] <;> rfl, hb9⟩
    · have hd2 : decide (n < cntE b) = false := by simpa using hcn
      have HCN := Lib.hid (show ¬ b.length < cntE b by omega)
      clear hn h4 hcn hx2 hx3
      go_enter Try.func13, Try.ntmps13
      go_upto_region 1 with (fail)
      generalize w.alloc (.cells #[.int .i64 0, .int .i64 0, .int .i64 0, .string ⟨#[]⟩] 23) = w1 at *
      go_quiet (fail)
      replace hR : Blk (w1.drewN nq) w.heap.size 23 _ := hR.drewN nq
      replace hbw : Below w.heap.size w (w1.drewN nq) := below_drewN hbw nq
      have hz2 : w.heap.size < (w1.drewN nq).heap.size := by show w.heap.size < w1.heap.size; omega
      clear s2 s3 k1 k2 k3 k4 l1 l2 l3 l4 m1 m2 m3 hq2 hq3 hz1
      go_upto_region 3 with (fail)
      clear hd hd2
      generalize w1.drewN nq = w2 at *
      obtain ⟨cq, HCQ0⟩ : ∃ cq, cntE b = cq := ⟨_, rfl⟩
      have HCQ := Lib.hid HCQ0
      rw [HCQ0] at HQ HCN
      clear HCQ0
      have q0 : 0 < b.length := by have := HN.out; have := H4.out; omega
      have q1 : 1 < b.length := by have := HN.out; have := H4.out; omega
      have h0n : 0 < n := by have := H4.out; omega
      have h1n : (1 : Int) < (n : Int) := by have := H4.out; omega
      have s0 := str_get b 0 q0
      have s1 := str_get b 1 q1
      obtain ⟨x0, hx0⟩ : ∃ x, x = b.getD 0 0 := ⟨_, rfl⟩
      obtain ⟨x1, hx1⟩ : ∃ x, x = b.getD 1 0 := ⟨_, rfl⟩
      rw [← hx0] at s0
      rw [← hx1] at s1
      have HX0 := Lib.hid hx0
      have HX1 := Lib.hid hx1
      clear hx0 hx1
      obtain ⟨k1, k2, k3, k4⟩ := ix_byte x0
      obtain ⟨l1, l2, l3, l4⟩ := ix_byte x1
      refine wp_region_noPanic ?_
      refine wp_region_held_drew (S := fun W => Below w2.heap.size w2 W) (by kernel_rfl) (by exact below_drewN (Below.refl _ _) 1) (fun hHeld => ?_)
      refine wpAnyH_take (i := 0) (oi := ⟨_, _, _, _, _, _⟩) (v := ?_) rfl (by kernel_rfl) (by kernel_rfl) (by kernel_rfl) (fun _ _ _ h => h) (Or.inl ⟨by rfl, ?_⟩) hHeld ?_
      rotate_left 1
      · (intro W hSw; (try dsimp only at hSw); go_simp; try with_reducible rfl)
      try simp only [Act.put, List.setIfInBounds_toArray, List.set_cons_zero, List.set_cons_succ]
      refine wpAnyH_take (i := 1) (oi := ⟨_, _, _, _, _, _⟩) (v := ?_) rfl (by kernel_rfl) (by kernel_rfl) (by kernel_rfl) (fun _ _ _ h => h) (Or.inl ⟨by rfl, ?_⟩) hHeld ?_
      rotate_left 1
      · (intro W hSw; (try dsimp only at hSw); go_simp; try with_reducible rfl)
      try simp only [Act.put, List.setIfInBounds_toArray, List.set_cons_zero, List.set_cons_succ]
      refine wpAnyH_take (i := 2) (oi := ⟨_, _, _, _, _, _⟩) (v := ?_) rfl (by kernel_rfl) (by kernel_rfl) (by kernel_rfl) (fun _ _ _ h => h) (Or.inl ⟨by rfl, ?_⟩) hHeld ?_
      rotate_left 1
      · (intro W hSw; (try dsimp only at hSw); go_simp; try with_reducible rfl)
      try simp only [Act.put, List.setIfInBounds_toArray, List.set_cons_zero, List.set_cons_succ]
      refine wpAnyH_take (i := 3) (oi := ⟨_, _, _, _, _, _⟩) (v := ?_) rfl (by kernel_rfl) (by kernel_rfl) (by kernel_rfl) (fun _ _ _ h => h) (Or.inl ⟨by rfl, ?_⟩) hHeld ?_
      rotate_left 1
      · (intro W hSw; (try dsimp only at hSw); go_simp; try with_reducible rfl)
      try simp only [Act.put, List.setIfInBounds_toArray, List.set_cons_zero, List.set_cons_succ]
      refine wpAnyH_take (i := 4) (oi := ⟨_, _, _, _, _, _⟩) (v := ?_) rfl (by kernel_rfl) (by kernel_rfl) (by kernel_rfl) (fun _ _ _ h => h) (Or.inl ⟨by rfl, ?_⟩) hHeld ?_
      rotate_left 1
      · (intro W hSw; (try dsimp only at hSw); go_simp; try with_reducible rfl)
      try simp only [Act.put, List.setIfInBounds_toArray, List.set_cons_zero, List.set_cons_succ]
      refine wpAnyH_take (i := 5) (oi := ⟨_, _, _, _, _, _⟩) (v := ?_) rfl (by kernel_rfl) (by kernel_rfl) (by kernel_rfl) (fun _ _ _ h => h) (Or.inl ⟨by rfl, ?_⟩) hHeld ?_
      rotate_left 1
      · (intro W hSw; (try dsimp only at hSw); go_simp; try with_reducible rfl)
      try simp only [Act.put, List.setIfInBounds_toArray, List.set_cons_zero, List.set_cons_succ]
      refine wpAnyH_take (i := 6) (oi := ⟨_, _, _, _, _, _⟩) (v := ?_) rfl (by kernel_rfl) (by kernel_rfl) (by kernel_rfl) (fun _ _ _ h => h) (Or.inl ⟨by rfl, ?_⟩) hHeld ?_
      rotate_left 1
      · (intro W hSw; (try dsimp only at hSw); go_simp; try with_reducible rfl)
      try simp only [Act.put, List.setIfInBounds_toArray, List.set_cons_zero, List.set_cons_succ]
      replace hHeld : Below w2.heap.size w2 w2.drew := hHeld
      generalize w2.drew = wd at *
      have hz := hHeld.size
      refine wpAnyH_ready (rs := [7]) (by kernel_rfl) (by simp) ?_
      refine AllReadyH.cons (o := ⟨_, _, _, _, _, _⟩) rfl (fun K hK => ?_) AllReadyH.nil
      go_simp
      refine hK.out _ _ (hHeld.alloc hz _) (fun hHeld => ?_)
      clear hK K
      try simp only [Act.put, List.setIfInBounds_toArray, List.set_cons_zero, List.set_cons_succ]
      refine wpAnyH_ready (rs := [8]) (by kernel_rfl) (by simp) ?_
      refine AllReadyH.cons (o := ⟨_, _, _, _, _, _⟩) rfl (fun K hK => ?_) AllReadyH.nil
      refine step_store_blk rfl 23 (.tmp 4) (.tmp 30) rfl rfl wd.heap.size [.int .i64 (x0.toNat : Int), .int .i64 (x1.toNat : Int), .int .i64 0, .string ⟨#[]⟩] rfl rfl _ _ (Blk.new_of wd _ #[.int .i64 0, .int .i64 0, .int .i64 0, .string ⟨#[]⟩] _ rfl) (by kernel_rfl) rfl (by simp [Value.oneCell']) ?_
      intro w3 hP3 hg3
      refine hK.out _ _ (below_new hHeld hg3 hz (by have := hHeld.size; exact this)) (fun hHeld3 => ?_)
      clear hK K
      replace hHeld3 : Below w2.heap.size w2 w3 := hHeld3
      refine wpAnyH_done (by kernel_rfl) ?_ _
      refine NoPanic.normal ?_
      have hR3 := hR.below hHeld3 hR.lt
      have hb3 := hbw.trans (hHeld3.mono hbw.size)
      have hg3z : w.heap.size < wd.heap.size := by omega
      clear hg3 hHeld hHeld3 hz hbw hR hz2 s0 s1 k1 k2 k3 k4 l1 l2 l3 l4 q0 q1 h0n h1n
      generalize wd.heap.size = g3 at *
      replace hP3 : Blk w3 g3 23 [.int .i64 (x0.toNat : Int), .int .i64 (x1.toNat : Int), .int .i64 0, .string ⟨#[]⟩] := hP3
      by_cases hc3 : (x0.toNat : Int) < 3
      · have d0 : w3.cell? ⟨g3, 0, none⟩ = some (.int .i64 (x0.toNat : Int)) := hP3.cell 0
        by_cases h5 : n < 5
        · have HZ := Lib.hid (readE_short (b := b) (by have := HN.out; have := H4.out; omega) (by rw [HCQ.out]; exact HCN.out) (by rw [← HX0.out]; exact hc3))
          have hd5 : (n : Int) < 5 := by omega
          clear h5
          go_wp2_with ((with_reducible refine (?_ : wpList _ _ _ (Oper.mk none _ _ _ _ _ :: _) _ _)); go_loud (refine wpList_store_blk rfl 23 (.tmp 2) (.tmp 37) rfl rfl w.heap.size [.int .i64 0, .int .i64 0, .int .i64 0, .string ⟨#[]⟩] rfl rfl _ _ hR3 (by kernel_rfl) rfl (by simp [Value.oneCell']) ?_); intro w9 hQ9 hg9)
          have f0 : w9.cell? ⟨w.heap.size, 0, none⟩ = some (.int .i64 0) := hQ9.cell 0
          have f1 : w9.cell? ⟨w.heap.size, 1, none⟩ = some (.int .i64 0) := hQ9.cell 1
          have f2 : w9.cell? ⟨w.heap.size, 2, none⟩ = some (.int .i64 0) := hQ9.cell 2
          have f3 : w9.cell? ⟨w.heap.size, 3, none⟩ = some (.string ⟨#[]⟩) := hQ9.cell 3
          have hb9 : Below w.heap.size w w9 := below_new hb3 hg9 (Nat.le_refl _) hb3.size
          refine bodyPost_ret (v := .tuple #[.agg #[.int .i64 0, .int .i64 0, .int .i64 0, .string ⟨#[]⟩], .int .i64 2]) (by simp [results, Try.results13, go_sem, f0, f1, f2, f3]) rfl ⟨by rw [HZ.out] <;> rfl, hb9⟩
        · have hd5 : ¬ (n : Int) < 5 := by omega
          have q4 : 4 < b.length := by have := HN.out; omega
          have s4 := str_get b 4 q4
          have HS0 := Lib.hid (show saidE b = (((b.getD 0 0).toNat : Int), ((b.getD 1 0).toNat : Int), ((b.getD 4 0).toNat : Int), b.drop 5) by unfold saidE; rw [if_neg (by omega)])
          rw [← HX0.out, ← HX1.out] at HS0
          generalize b.getD 4 0 = x4 at *
          have hey := extract_from b 5 b.length (Nat.le_refl _)
          have HPL := Lib.hid (show (b.drop 5).length = n - 5 by rw [List.length_drop, HN.out])
          have HZ0 := Lib.hid (show readE b = if writeE (x0.toNat : Int) (x1.toNat : Int) (x4.toNat : Int) (b.drop 5) = (b, 0) then (((x0.toNat : Int), (x1.toNat : Int), (x4.toNat : Int), b.drop 5), 0) else ((0, 0, 0, []), 2) by unfold readE; rw [if_neg (by have := HN.out; have := H4.out; have := HCN.out; rw [HCQ.out]; omega), HS0.out])
          generalize b.drop 5 = pd at *
          obtain ⟨k1, k2, k3, k4⟩ := ix_byte x4
          clear h5
          go_upto_region 7 with (fail)
          clear hd5 hc3 d0
          have h4n : (4 : Int) < (n : Int) := by have := HN.out; omega
          have h5n : (5 : Int) ≤ (n : Int) := by omega
          have HB3 := Lib.hid hb3
          refine wp_region_noPanic ?_
          refine wp_region_held_drew (S := fun W => Below w.heap.size w W) (by kernel_rfl) (by exact below_drewN hb3 1) (fun hHeld => ?_)
          refine wpAnyH_take (i := 0) (oi := ⟨_, _, _, _, _, _⟩) (v := ?_) rfl (by kernel_rfl) (by kernel_rfl) (by kernel_rfl) (fun _ _ _ h => h) (Or.inl ⟨by rfl, ?_⟩) hHeld ?_
          rotate_left 1
          · (intro W hSw; (try dsimp only at hSw); go_simp; try with_reducible rfl)
          try simp only [Act.put, List.setIfInBounds_toArray, List.set_cons_zero, List.set_cons_succ]
          refine wpAnyH_take (i := 1) (oi := ⟨_, _, _, _, _, _⟩) (v := ?_) rfl (by kernel_rfl) (by kernel_rfl) (by kernel_rfl) (fun _ _ _ h => h) (Or.inl ⟨by rfl, ?_⟩) hHeld ?_
          rotate_left 1
          · (intro W hSw; (try dsimp only at hSw); go_simp; try with_reducible rfl)
          try simp only [Act.put, List.setIfInBounds_toArray, List.set_cons_zero, List.set_cons_succ]
          refine wpAnyH_take (i := 2) (oi := ⟨_, _, _, _, _, _⟩) (v := ?_) rfl (by kernel_rfl) (by kernel_rfl) (by kernel_rfl) (fun _ _ _ h => h) (Or.inl ⟨by rfl, ?_⟩) hHeld ?_
          rotate_left 1
          · (intro W hSw; (try dsimp only at hSw); go_simp; try with_reducible rfl)
          try simp only [Act.put, List.setIfInBounds_toArray, List.set_cons_zero, List.set_cons_succ]
          refine wpAnyH_take (i := 3) (oi := ⟨_, _, _, _, _, _⟩) (v := ?_) rfl (by kernel_rfl) (by kernel_rfl) (by kernel_rfl) (fun _ _ _ h => h) (Or.inl ⟨by rfl, ?_⟩) hHeld ?_
          rotate_left 1
          · (intro W hSw; (try dsimp only at hSw); go_simp; try with_reducible rfl)
          try simp only [Act.put, List.setIfInBounds_toArray, List.set_cons_zero, List.set_cons_succ]
          refine wpAnyH_take (i := 4) (oi := ⟨_, _, _, _, _, _⟩) (v := ?_) rfl (by kernel_rfl) (by kernel_rfl) (by kernel_rfl) (fun _ _ _ h => h) (Or.inl ⟨by rfl, ?_⟩) hHeld ?_
          rotate_left 1
          · (intro W hSw; (try dsimp only at hSw); go_simp; try with_reducible rfl)
          try simp only [Act.put, List.setIfInBounds_toArray, List.set_cons_zero, List.set_cons_succ]
          refine wpAnyH_take (i := 5) (oi := ⟨_, _, _, _, _, _⟩) (v := ?_) rfl (by kernel_rfl) (by kernel_rfl) (by kernel_rfl) (fun _ _ _ h => h) (Or.inl ⟨by rfl, ?_⟩) hHeld ?_
          rotate_left 1
          · (intro W hSw; (try dsimp only at hSw); go_simp; try with_reducible rfl)
          try simp only [Act.put, List.setIfInBounds_toArray, List.set_cons_zero, List.set_cons_succ]
          replace hHeld : Below w.heap.size w w3.drew := hHeld
          have hPe := hP3.drew
          have hRe := hR3.drew
          generalize w3.drew = we at *
          have cc2 : we.cell? ⟨g3, 2, none⟩ = some (.int .i64 0) := hPe.cell 2
          have zz2 : we.frozen? ⟨g3, 2, none⟩ = false := hPe.frozen 2
          refine wpAnyH_ready (rs := [6]) (by kernel_rfl) (by simp) ?_
          refine AllReadyH.cons (o := ⟨_, _, _, _, _, _⟩) rfl (fun K hK => ?_) AllReadyH.nil
          go_simp
          refine hK.out _ _ (hHeld.setCell (by show w.heap.size ≤ g3; omega) _) (fun hHeld => ?_)
          clear hK K cc2 zz2
          have hPf := hPe.set_ 2 (.int .i64 (x4.toNat : Int))
          have hRf : Blk (we.setCell ⟨g3, 2, none⟩ (.int .i64 (x4.toNat : Int))) w.heap.size 23 _ := hRe.far (by show w.heap.size ≠ g3; omega) _
          replace hHeld : Below w.heap.size w (we.setCell ⟨g3, 2, none⟩ (.int .i64 (x4.toNat : Int))) := hHeld
          generalize we.setCell ⟨g3, 2, none⟩ (.int .i64 (x4.toNat : Int)) = wf at *
          have cc3 : wf.cell? ⟨g3, 3, none⟩ = some (.string ⟨#[]⟩) := hPf.cell 3
          have zz3 : wf.frozen? ⟨g3, 3, none⟩ = false := hPf.frozen 3
          try simp only [Act.put, List.setIfInBounds_toArray, List.set_cons_zero, List.set_cons_succ]
          refine wpAnyH_take (i := 7) (oi := ⟨_, _, _, _, _, _⟩) (v := ?_) rfl (by kernel_rfl) (by kernel_rfl) (by kernel_rfl) (fun _ _ _ h => h) (Or.inl ⟨by rfl, ?_⟩) hHeld ?_
          rotate_left 1
          · (intro W hSw; (try dsimp only at hSw); go_simp; try with_reducible rfl)
          try simp only [Act.put, List.setIfInBounds_toArray, List.set_cons_zero, List.set_cons_succ]
          refine wpAnyH_ready (rs := [8]) (by kernel_rfl) (by simp) ?_
          refine AllReadyH.cons (o := ⟨_, _, _, _, _, _⟩) rfl (fun K hK => ?_) AllReadyH.nil
          go_simp
          refine hK.out _ _ (hHeld.setCell (by show w.heap.size ≤ g3; omega) _) (fun hHeld => ?_)
          clear hK K cc3 zz3
          have hPg := hPf.set_ 3 (.string ⟨pd.toArray⟩)
          have hRg : Blk (wf.setCell ⟨g3, 3, none⟩ (.string ⟨pd.toArray⟩)) w.heap.size 23 _ := hRf.far (by show w.heap.size ≠ g3; omega) _
          replace hHeld : Below w.heap.size w (wf.setCell ⟨g3, 3, none⟩ (.string ⟨pd.toArray⟩)) := hHeld
          generalize wf.setCell ⟨g3, 3, none⟩ (.string ⟨pd.toArray⟩) = wg at *
          try simp only [Act.put, List.setIfInBounds_toArray, List.set_cons_zero, List.set_cons_succ]
          refine wpAnyH_done (by kernel_rfl) ?_ _
          refine NoPanic.normal ?_
          have e0 : wg.cell? ⟨g3, 0, none⟩ = some (.int .i64 (x0.toNat : Int)) := hPg.cell 0
          have e1 : wg.cell? ⟨g3, 1, none⟩ = some (.int .i64 (x1.toNat : Int)) := hPg.cell 1
          have e2 : wg.cell? ⟨g3, 2, none⟩ = some (.int .i64 (x4.toNat : Int)) := hPg.cell 2
          have e3 : wg.cell? ⟨g3, 3, none⟩ = some (.string ⟨pd.toArray⟩) := hPg.cell 3
          have HW := Lib.hid (fun (W : World) => rwrite_e (x0.toNat : Int) (x1.toNat : Int) (x4.toNat : Int) pd (n - 5) W HPL.out (by omega))
          go_upto_region 9 with (go_at_call 14; refine (HW.out _).mono ?_; rintro e w7 ⟨rfl, hb7⟩)
          have hR7 := hRg.below hb7 hRg.lt
          have hP7 := hPg.below hb7 hPg.lt
          have hbw7 := hHeld.trans (hb7.mono hHeld.size)
          clear e0 e1 e2 e3 hb7
          have e0 : w7.cell? ⟨g3, 0, none⟩ = some (.int .i64 (x0.toNat : Int)) := hP7.cell 0
          have e1 : w7.cell? ⟨g3, 1, none⟩ = some (.int .i64 (x1.toNat : Int)) := hP7.cell 1
          have e2 : w7.cell? ⟨g3, 2, none⟩ = some (.int .i64 (x4.toNat : Int)) := hP7.cell 2
          have e3 : w7.cell? ⟨g3, 3, none⟩ = some (.string ⟨pd.toArray⟩) := hP7.cell 3
          clear hP7 hPg
          generalize hwe : writeE (x0.toNat : Int) (x1.toNat : Int) (x4.toNat : Int) pd = we2 at *
          obtain ⟨WB, WE⟩ := we2
          by_cases he : WE = 0
          · subst he
            by_cases hx : WB = b
            · subst hx
              have HZ := Lib.hid (HZ0.out.trans (if_pos rfl))
              clear hwe HZ0
              go_upto_region 11 with (fail)
              go_wp2_with ((with_reducible refine (?_ : wpList _ _ _ (Oper.mk none _ _ _ _ _ :: _) _ _)); go_loud (refine wpList_store_blk rfl 23 (.tmp 2) (.tmp 58) rfl rfl w.heap.size [.int .i64 (x0.toNat : Int), .int .i64 (x1.toNat : Int), .int .i64 (x4.toNat : Int), .string ⟨pd.toArray⟩] rfl rfl _ _ hR7 (by kernel_rfl) rfl (by simp [Value.oneCell']) ?_); intro w9 hQ9 hg9)
              have f0 : w9.cell? ⟨w.heap.size, 0, none⟩ = some (.int .i64 (x0.toNat : Int)) := hQ9.cell 0
              have f1 : w9.cell? ⟨w.heap.size, 1, none⟩ = some (.int .i64 (x1.toNat : Int)) := hQ9.cell 1
              have f2 : w9.cell? ⟨w.heap.size, 2, none⟩ = some (.int .i64 (x4.toNat : Int)) := hQ9.cell 2
              have f3 : w9.cell? ⟨w.heap.size, 3, none⟩ = some (.string ⟨pd.toArray⟩) := hQ9.cell 3
              have hb9 : Below w.heap.size w w9 := below_new hbw7 hg9 (Nat.le_refl _) hbw7.size
              refine bodyPost_ret (v := .tuple #[.agg #[.int .i64 (x0.toNat : Int), .int .i64 (x1.toNat : Int), .int .i64 (x4.toNat : Int), .string ⟨pd.toArray⟩], .int .i64 0]) (by simp [results, Try.results13, go_sem, f0, f1, f2, f3]) rfl ⟨by rw [HZ.out] <;> rfl, hb9⟩
            · have HZ := Lib.hid (HZ0.out.trans (if_neg (by intro h; cases h; exact hx rfl)))
              have hx2 : (WB == b) = false := by simpa using hx
              clear hwe HZ0
              go_upto_region 10 with (fail)
              go_wp2_with ((with_reducible refine (?_ : wpList _ _ _ (Oper.mk none _ _ _ _ _ :: _) _ _)); go_loud (refine wpList_store_blk rfl 23 (.tmp 2) (.tmp 57) rfl rfl w.heap.size [.int .i64 0, .int .i64 0, .int .i64 0, .string ⟨#[]⟩] rfl rfl _ _ hR7 (by kernel_rfl) rfl (by simp [Value.oneCell']) ?_); intro w9 hQ9 hg9)
              have f0 : w9.cell? ⟨w.heap.size, 0, none⟩ = some (.int .i64 0) := hQ9.cell 0
              have f1 : w9.cell? ⟨w.heap.size, 1, none⟩ = some (.int .i64 0) := hQ9.cell 1
              have f2 : w9.cell? ⟨w.heap.size, 2, none⟩ = some (.int .i64 0) := hQ9.cell 2
              have f3 : w9.cell? ⟨w.heap.size, 3, none⟩ = some (.string ⟨#[]⟩) := hQ9.cell 3
              have hb9 : Below w.heap.size w w9 := below_new hbw7 hg9 (Nat.le_refl _) hbw7.size
              refine bodyPost_ret (v := .tuple #[.agg #[.int .i64 0, .int .i64 0, .int .i64 0, .string ⟨#[]⟩], .int .i64 2]) (by simp [results, Try.results13, go_sem, f0, f1, f2, f3]) rfl ⟨by rw [HZ.out] <;> rfl, hb9⟩
          · have HZ := Lib.hid (HZ0.out.trans (if_neg (by intro h; cases h; exact he rfl)))
            have hd9 : ¬ (WE : Int) = 0 := by omega
            clear hwe HZ0 he
            go_upto_region 10 with (fail)
            go_wp2_with ((with_reducible refine (?_ : wpList _ _ _ (Oper.mk none _ _ _ _ _ :: _) _ _)); go_loud (refine wpList_store_blk rfl 23 (.tmp 2) (.tmp 57) rfl rfl w.heap.size [.int .i64 0, .int .i64 0, .int .i64 0, .string ⟨#[]⟩] rfl rfl _ _ hR7 (by kernel_rfl) rfl (by simp [Value.oneCell']) ?_); intro w9 hQ9 hg9)
            have f0 : w9.cell? ⟨w.heap.size, 0, none⟩ = some (.int .i64 0) := hQ9.cell 0
            have f1 : w9.cell? ⟨w.heap.size, 1, none⟩ = some (.int .i64 0) := hQ9.cell 1
            have f2 : w9.cell? ⟨w.heap.size, 2, none⟩ = some (.int .i64 0) := hQ9.cell 2
            have f3 : w9.cell? ⟨w.heap.size, 3, none⟩ = some (.string ⟨#[]⟩) := hQ9.cell 3
            have hb9 : Below w.heap.size w w9 := below_new hbw7 hg9 (Nat.le_refl _) hbw7.size
            refine bodyPost_ret (v := .tuple #[.agg #[.int .i64 0, .int .i64 0, .int .i64 0, .string ⟨#[]⟩], .int .i64 2]) (by simp [results, Try.results13, go_sem, f0, f1, f2, f3]) rfl ⟨by rw [HZ.out] <;> rfl, hb9⟩
      · have d0 : w3.cell? ⟨g3, 0, none⟩ = some (.int .i64 (x0.toNat : Int)) := hP3.cell 0
        have HZ0 := Lib.hid (show readE b = if writeE (x0.toNat : Int) (x1.toNat : Int) 0 [] = (b, 0) then (((x0.toNat : Int), (x1.toNat : Int), 0, []), 0) else ((0, 0, 0, []), 2) by
          have := readE_high (b := b) (by have := HN.out; have := H4.out; omega) (by rw [HCQ.out]; exact HCN.out) (by rw [← HX0.out]; omega)
          rw [this, HX0.out, HX1.out])
        go_upto_region 8 with (fail)
        clear d0
        have e0 : w3.cell? ⟨g3, 0, none⟩ = some (.int .i64 (x0.toNat : Int)) := hP3.cell 0
        have e1 : w3.cell? ⟨g3, 1, none⟩ = some (.int .i64 (x1.toNat : Int)) := hP3.cell 1
        have e2 : w3.cell? ⟨g3, 2, none⟩ = some (.int .i64 0) := hP3.cell 2
        have e3 : w3.cell? ⟨g3, 3, none⟩ = some (.string ⟨#[]⟩) := hP3.cell 3
        have HW := Lib.hid (fun (W : World) => rwrite_e (x0.toNat : Int) (x1.toNat : Int) 0 ([] : List UInt8) 0 W rfl (by omega))
        go_upto_region 9 with (go_at_call 14; refine (HW.out _).mono ?_; rintro e w7 ⟨rfl, hb7⟩)
        have hR7 := hR3.below hb7 hR3.lt
        have hP7 := hP3.below hb7 hP3.lt
        have hbw7 := hb3.trans (hb7.mono hb3.size)
        clear e0 e1 e2 e3 hb7
        have e0 : w7.cell? ⟨g3, 0, none⟩ = some (.int .i64 (x0.toNat : Int)) := hP7.cell 0
        have e1 : w7.cell? ⟨g3, 1, none⟩ = some (.int .i64 (x1.toNat : Int)) := hP7.cell 1
        have e2 : w7.cell? ⟨g3, 2, none⟩ = some (.int .i64 0) := hP7.cell 2
        have e3 : w7.cell? ⟨g3, 3, none⟩ = some (.string ⟨#[]⟩) := hP7.cell 3
        clear hP7 hP3
        generalize hwe : writeE (x0.toNat : Int) (x1.toNat : Int) 0 ([] : List UInt8) = we2 at *
        obtain ⟨WB, WE⟩ := we2
        by_cases he : WE = 0
        · subst he
          by_cases hx : WB = b
          · subst hx
            have HZ := Lib.hid (HZ0.out.trans (if_pos rfl))
            clear hwe HZ0
            go_upto_region 11 with (fail)
            go_wp2_with ((with_reducible refine (?_ : wpList _ _ _ (Oper.mk none _ _ _ _ _ :: _) _ _)); go_loud (refine wpList_store_blk rfl 23 (.tmp 2) (.tmp 58) rfl rfl w.heap.size [.int .i64 (x0.toNat : Int), .int .i64 (x1.toNat : Int), .int .i64 0, .string ⟨#[]⟩] rfl rfl _ _ hR7 (by kernel_rfl) rfl (by simp [Value.oneCell']) ?_); intro w9 hQ9 hg9)
            have f0 : w9.cell? ⟨w.heap.size, 0, none⟩ = some (.int .i64 (x0.toNat : Int)) := hQ9.cell 0
            have f1 : w9.cell? ⟨w.heap.size, 1, none⟩ = some (.int .i64 (x1.toNat : Int)) := hQ9.cell 1
            have f2 : w9.cell? ⟨w.heap.size, 2, none⟩ = some (.int .i64 0) := hQ9.cell 2
            have f3 : w9.cell? ⟨w.heap.size, 3, none⟩ = some (.string ⟨#[]⟩) := hQ9.cell 3
            have hb9 : Below w.heap.size w w9 := below_new hbw7 hg9 (Nat.le_refl _) hbw7.size
            refine bodyPost_ret (v := .tuple #[.agg #[.int .i64 (x0.toNat : Int), .int .i64 (x1.toNat : Int), .int .i64 0, .string ⟨#[]⟩], .int .i64 0]) (by simp [results, Try.results13, go_sem, f0, f1, f2, f3]) rfl ⟨by rw [HZ.out] <;> rfl, hb9⟩
          · have HZ := Lib.hid (HZ0.out.trans (if_neg (by intro h; cases h; exact hx rfl)))
            have hx2 : (WB == b) = false := by simpa using hx
            clear hwe HZ0
            go_upto_region 10 with (fail)
            go_wp2_with ((with_reducible refine (?_ : wpList _ _ _ (Oper.mk none _ _ _ _ _ :: _) _ _)); go_loud (refine wpList_store_blk rfl 23 (.tmp 2) (.tmp 57) rfl rfl w.heap.size [.int .i64 0, .int .i64 0, .int .i64 0, .string ⟨#[]⟩] rfl rfl _ _ hR7 (by kernel_rfl) rfl (by simp [Value.oneCell']) ?_); intro w9 hQ9 hg9)
            have f0 : w9.cell? ⟨w.heap.size, 0, none⟩ = some (.int .i64 0) := hQ9.cell 0
            have f1 : w9.cell? ⟨w.heap.size, 1, none⟩ = some (.int .i64 0) := hQ9.cell 1
            have f2 : w9.cell? ⟨w.heap.size, 2, none⟩ = some (.int .i64 0) := hQ9.cell 2
            have f3 : w9.cell? ⟨w.heap.size, 3, none⟩ = some (.string ⟨#[]⟩) := hQ9.cell 3
            have hb9 : Below w.heap.size w w9 := below_new hbw7 hg9 (Nat.le_refl _) hbw7.size
            refine bodyPost_ret (v := .tuple #[.agg #[.int .i64 0, .int .i64 0, .int .i64 0, .string ⟨#[]⟩], .int .i64 2]) (by simp [results, Try.results13, go_sem, f0, f1, f2, f3]) rfl ⟨by rw [HZ.out] <;> rfl, hb9⟩
        · have HZ := Lib.hid (HZ0.out.trans (if_neg (by intro h; cases h; exact he rfl)))
          have hd9 : ¬ (WE : Int) = 0 := by omega
          clear hwe HZ0 he
          go_upto_region 10 with (fail)
          go_wp2_with ((with_reducible refine (?_ : wpList _ _ _ (Oper.mk none _ _ _ _ _ :: _) _ _)); go_loud (refine wpList_store_blk rfl 23 (.tmp 2) (.tmp 57) rfl rfl w.heap.size [.int .i64 0, .int .i64 0, .int .i64 0, .string ⟨#[]⟩] rfl rfl _ _ hR7 (by kernel_rfl) rfl (by simp [Value.oneCell']) ?_); intro w9 hQ9 hg9)
          have f0 : w9.cell? ⟨w.heap.size, 0, none⟩ = some (.int .i64 0) := hQ9.cell 0
          have f1 : w9.cell? ⟨w.heap.size, 1, none⟩ = some (.int .i64 0) := hQ9.cell 1
          have f2 : w9.cell? ⟨w.heap.size, 2, none⟩ = some (.int .i64 0) := hQ9.cell 2
          have f3 : w9.cell? ⟨w.heap.size, 3, none⟩ = some (.string ⟨#[]⟩) := hQ9.cell 3
          have hb9 : Below w.heap.size w w9 := below_new hbw7 hg9 (Nat.le_refl _) hbw7.size
          refine bodyPost_ret (v := .tuple #[.agg #[.int .i64 0, .int .i64 0, .int .i64 0, .string ⟨#[]⟩], .int .i64 2]) (by simp [results, Try.results13, go_sem, f0, f1, f2, f3]) rfl ⟨by rw [HZ.out] <;> rfl, hb9⟩
end Go.Proofs.Ytokogedgbegmkaa
