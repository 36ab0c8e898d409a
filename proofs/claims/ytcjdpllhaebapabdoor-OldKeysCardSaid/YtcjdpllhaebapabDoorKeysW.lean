/-
  The walk of the statement OldKeys.
-/
import Derived.Test.YtcjdpllhaebapabDoorQMac
import Derived.Test.YtcjdpllhaebapabDoorKeep
import Derived.Test.YtcjdpllhaebapabDoorFree
import Derived.Lib.MinMax
import Derived.BigQuiet
import Derived.Deep.QuietTactic
namespace Go.Proofs.YtcjdpllhaebapabDoor
open Go.RowKit

theorem padKeyQ_md5 (k : List UInt8) (h : 64 < k.length) : padKeyQ (md5 k) = padKeyQ k := by
  rw [← padKeyQ_long k h, ← padKeyQ_short (md5 k) (by rw [md5_length]; omega)]
theorem hmacQ_md5 (k m : List UInt8) (h : 64 < k.length) : hmacQ (md5 k) m = hmacQ k m := by
  unfold hmacQ; rw [padKeyQ_md5 k h]
theorem padKeyQ_zeros (k : List UInt8) (j : Nat) (h : k.length + j ≤ 64) : padKeyQ (k ++ List.replicate j 0) = padKeyQ k := by
  have hl : (k ++ List.replicate j (0 : UInt8)).length = k.length + j := by simp
  rw [← padKeyQ_short k (by omega), ← padKeyQ_short (k ++ List.replicate j 0) (by omega), hl, List.append_assoc, List.replicate_append_replicate]
  congr 2
  omega
theorem hmacQ_zeros (k m : List UInt8) (j : Nat) (h : k.length + j ≤ 64) : hmacQ (k ++ List.replicate j 0) m = hmacQ k m := by
  unfold hmacQ; rw [padKeyQ_zeros k j h]
theorem cellQ_through {w w' : World} {u : Value} {g : Nat} (h : w.cell? ⟨g, 0, none⟩ = some u) (hb : Below w.heap.size w w') : w'.cell? ⟨g, 0, none⟩ = some u :=
  (hb.cell (p := ⟨g, 0, none⟩) (block_lt_of_cell (a := ⟨g, 0, none⟩) h)).trans h
theorem partsQ_in {W : World} {B g gp k c : Nat} {A : Option Addr} {b : List UInt8} (hl : b.length = k) (hc : W.cell? ⟨gp, 0, none⟩ = some (.slice A k c)) (h : In W B A c b) (hB : B ≤ g) (hg : W.heap.size ≤ g) : Parts W g (some ⟨gp, 0, none⟩) [b] := by
  subst hl
  exact Parts.one hc (by have := block_lt_of_cell hc; simp only at this; omega) h.1 h.2.1 (h.src hB)
theorem inQ_blk {w : World} {g n : Nat} {t : TypeId} {xs : List UInt8} (h : Blk w g t (xs.map B8)) (hn : xs.length = n) (hm : n < 1000) : In w w.heap.size (some ⟨g, 0, none⟩) n xs :=
  ⟨by omega, by omega, fun _ => ⟨g, 0, rfl, h.lt, fun j hj => by rw [Nat.zero_add]; exact h.at8 j hj⟩⟩
theorem qmac_one {W : World} {A A' : Option Addr} {c c' n n' gp : Nat} {key m x : List UInt8} (ik : In W W.heap.size A c key) (hn : key.length = n) (im : In W W.heap.size A' c' m) (hn' : m.length = n') (hc : W.cell? ⟨gp, 0, none⟩ = some (.slice A' n' c')) (hk : n < 1000) (hm : n' < 1000) (hx : x = hmacQ key m) (ht : TabsQ W) :
    Calls Tryd.prog 22 #[.slice A n c, .slice (some ⟨gp, 0, none⟩) 1 1] W fun e w' => e = .returned (.agg (x.map B8).toArray) ∧ Below W.heap.size W w' := by
  subst hn hx
  have := qMac_any A (some ⟨gp, 0, none⟩) c 1 W.heap.size key [m] W (Nat.le_refl _) ik (by omega) ht (by simp; omega) (by simp) (by omega) (fun g hg => partsQ_in hn' hc im hg hg)
  simpa using this
theorem qof_one {W : World} {A : Option Addr} {c n gp : Nat} {m x : List UInt8} (im : In W W.heap.size A c m) (hn : m.length = n) (hc : W.cell? ⟨gp, 0, none⟩ = some (.slice A n c)) (hm : n < 1000) (hx : x = md5 m) (ht : TabsQ W) :
    Calls Tryd.prog 18 #[.slice (some ⟨gp, 0, none⟩) 1 1] W fun e w' => e = .returned (.agg (x.map B8).toArray) ∧ Below W.heap.size W w' := by
  subst hx
  have := qOf_any 1 (some ⟨gp, 0, none⟩) [m] W (by simp; omega) (by simp) (by omega) (fun g hg => partsQ_in hn hc im hg hg) ht
  simpa using this
theorem eq16 (L : List UInt8) (h : L.length = 16) (W : World) : (binOp .eql 35 (.agg (L.map B8).toArray) (.agg (L.map B8).toArray)).run Tryd.prog W = .ok (.bool true) W := by
  have := run_eql_bytes (P := Tryd.prog) W 35 5 16 Tryd.underlying35 Tryd.underlying5 size8 L L h h
  rw [beq_self_eq_true] at this
  exact this
theorem u64_wrap_natQ (n : Int) : IntKind.u64.wrap n = ((n % 18446744073709551616).toNat : Int) := by
  rw [IntKind.wrap_u64]; omega
set_option maxRecDepth 100000 in
set_option maxHeartbeats 4000000 in
theorem oldKeys_long (K M : Option Addr) (ck cm : Nat) (xk xm : List UInt8) (n : Int) (w : World) (iK : In w w.heap.size K ck xk) (iM : In w w.heap.size M cm xm) (ht : TabsQ w) (hl : 64 < (xk.take 150).length) :
    Calls Tryd.prog 7 #[.slice K xk.length ck, .int .i64 n, .slice M xm.length cm] w fun e w' => e = .returned (.bool true) ∧ Below w.heap.size w w' := by
  have mk : min (xk.length : Int) 150 = ((xk.take 150).length : Int) := by rw [List.length_take]; omega
  have mm : min (xm.length : Int) 150 = ((xm.take 150).length : Int) := by rw [List.length_take]; omega
  have jK := iK.take 150
  have jM := iM.take 150
  have lk : (xk.take 150).length ≤ 150 := by rw [List.length_take]; omega
  have lm : (xm.take 150).length ≤ 150 := by rw [List.length_take]; omega
  obtain ⟨hk1, hk2, _⟩ := iK
  obtain ⟨hm1, hm2, _⟩ := iM
  have kk := jK.1
  have km := jM.1
  generalize xk.take 150 = key at *
  generalize xm.take 150 = m at *
  have hd64 : decide ((64 : Int) < (key.length : Int)) = true := by simp; omega
  go_enter Tryd.func7, Tryd.ntmps7
  go_wp2
  go_quiet (fail)
  have hb1 : Below w.heap.size w (w.drewN nq) := below_drewN (Below.refl _ _) nq
  replace jK := jK.up hb1
  replace jM := jM.up hb1
  have ht1 := ht.below hb1
  clear mk mm
  generalize w.drewN nq = w1 at *
  clear nq
  have hbuf := buf_empty w1
  have hbl0 : Below w1.heap.size w1 (w1.alloc (.cells #[] 5)) := (Below.refl _ _).alloc (Nat.le_refl _) _
  have hsrc : _root_.Go.Src Tryd.prog 1 27 (.slice K key.length ck) key.length (key.map B8) (w1.alloc (.cells #[] 5)) := src_in' ((jK.below hbl0).src (g := w1.heap.size) (Nat.le_refl _))
  go_wp2_with ((with_reducible refine (?_ : wpList _ _ _ (Oper.mk (some 22) _ _ _ _ _ :: _) _ _)); go_loud (refine wpList_append_keep rfl (.tmp 20) (.tmp 21) 27 rfl w1.heap.size _ 0 0 [] key _ rfl hbuf rfl hsrc (by omega) (by simp) key.length (by omega) ?_); intro A3 c3 w3 hB3 hg3 _; have hb3 := below_own hbl0 hbuf hg3 (Nat.le_refl _) (by simp); rw [List.nil_append] at hB3)
  have hI3 := hB3.toIn (Nat.le_refl _)
  have hbw := hb1.trans (hb3.mono hb1.size)
  have jM3 := jM.up hb3
  have ht3 := ht1.below hb3
  clear hsrc hbuf hbl0 hg3 hB3 jK jM ht1 hb1 hb3
  have hal := (Below.refl w3.heap.size w3).alloc (Nat.le_refl _) (.cells #[.slice A3 key.length c3] 27)
  obtain ⟨y, hy⟩ : ∃ y, y = md5 key := ⟨_, rfl⟩
  have hyl : y.length = 16 := by rw [hy]; exact md5_length _
  have P := qof_one (hI3.up hal) rfl (new_cell w3 27 (.slice A3 key.length c3)) (by omega) hy (ht3.below hal)
  have HY := Lib.hid hy
  clear hy
  refine P.mono ?_
  rintro e w4 ⟨rfl, hb4⟩
  replace hal := hal.trans (hb4.mono hal.size)
  replace hI3 := hI3.up hal
  replace jM3 := jM3.up hal
  replace ht3 := ht3.below hal
  replace hbw := hbw.trans (hal.mono hbw.size)
  clear P hb4 hal
  have HYL := Lib.hid hyl
  go_wp2_with (refine wpList_store_blk rfl 35 (.tmp 8) (.tmp 28) rfl rfl w4.heap.size _ rfl rfl 35 _ (Blk.new_of w4 35 _ ((List.replicate 16 (0 : UInt8)).map B8) (by rfl)) (infoH.trans (by rw [List.length_map, HYL.out])) (by rw [List.length_map, List.length_map, HYL.out]; rfl) (one8 _) ?_; intro w5 hS5 hg5)
  have hal := (Below.refl w4.heap.size w4).alloc (Nat.le_refl _) (.cells #[.int .u8 0, .int .u8 0, .int .u8 0, .int .u8 0, .int .u8 0, .int .u8 0, .int .u8 0, .int .u8 0, .int .u8 0, .int .u8 0, .int .u8 0, .int .u8 0, .int .u8 0, .int .u8 0, .int .u8 0, .int .u8 0] 35)
  replace hal := below_new hal hg5 (Nat.le_refl _) (by simp)
  have jK := hI3.up hal
  have jM := jM3.up hal
  have ht5 := ht3.below hal
  replace hbw := hbw.trans (hal.mono hbw.size)
  have jS := inQ_blk hS5 hyl (by omega)
  clear hal hg5 jM3 ht3 hI3
  obtain ⟨x, hx⟩ : ∃ x, x = hmacQ key m := ⟨_, rfl⟩
  have hx2 : x = hmacQ y m := by rw [hx, HY.out, hmacQ_md5 key m hl]
  have hxl : x.length = 16 := by rw [hx]; exact hmacQ_length _ _
  have HX := Lib.hid hx
  have HX2 := Lib.hid hx2
  have hE := eq16 x hxl
  clear hx hx2 hxl
  apply wp_region_once (D := [[], [0], [0, 1], [0, 1], [0, 1, 3], [0, 1, 2, 3, 4], [0, 1], [0, 1], [0, 1, 7], [0, 1, 2, 3, 4, 5, 6, 7, 8], [0, 1, 2, 3, 4, 5, 6, 7, 8, 9], [0, 1, 2, 3, 4, 5, 6, 7, 8, 9, 10], [0, 1, 2, 3, 4, 5, 6, 7, 8, 9, 10, 11]]) (J := [[], [0], [1], [1], [1, 3], [1, 2, 4], [1], [1], [1, 7], [1, 6, 8], [1, 5, 9], [1, 10], [11]]) (Je := [12]) (Rs := [Is _, Is _, Is _, Is _, fun v V => ∃ g', v = .slice (some ⟨g', 0, none⟩) 1 1 ∧ V.cell? ⟨g', 0, none⟩ = some (.slice M m.length cm), Is _, Is _, Is _, fun v V => ∃ g', v = .slice (some ⟨g', 0, none⟩) 1 1 ∧ V.cell? ⟨g', 0, none⟩ = some (.slice M m.length cm), Is _, Is _, Is _, Is _])
  · kernel_rfl
  · kernel_rfl
  · kernel_rfl
  · kernel_rfl
  · kernel_rfl
  · kernel_rfl
  · intro u
    simp only [List.map_cons, List.map_nil, fillU, List.setIfInBounds_toArray, List.set_cons_zero, List.set_cons_succ, Nat.zero_add, Nat.reduceAdd]
    exact rfl
  · skip
    refine ⟨fun u W hb hd K hK => ?_, ?_⟩
    · clear hd
      go_simp
      refine (olds_any W (ht5.below hb)).mono ?_
      rintro e wy ⟨rfl, hby⟩
      exact hK _ _ _ rfl hby IsOut
    refine ⟨fun u W hb hd K hK => ?_, ?_⟩
    · simp only [Facts, nthR, Is, and_true] at hd
      simp only [hd] at hK ⊢
      clear hd
      go_simp
      apply hK
      · simp only [Act.put, List.setIfInBounds_toArray, List.set_cons_zero, List.set_cons_succ]
        exact rfl
      · exact Below.refl _ _
      · exact IsOut
    refine ⟨fun u W hb hd K hK => ?_, ?_⟩
    · simp only [Facts, nthR, Is, and_true] at hd
      simp only [hd] at hK ⊢
      clear hd
      go_simp
      apply hK
      · simp only [Act.put, List.setIfInBounds_toArray, List.set_cons_zero, List.set_cons_succ]
        exact rfl
      · exact Below.refl _ _
      · exact IsOut
    refine ⟨fun u W hb hd K hK => ?_, ?_⟩
    · simp only [Facts, nthR, Is, and_true] at hd
      simp only [hd] at hK ⊢
      clear hd
      go_simp
      apply hK
      · simp only [Act.put, List.setIfInBounds_toArray, List.set_cons_zero, List.set_cons_succ]
        exact rfl
      · exact Below.refl _ _
      · exact IsOut
    refine ⟨fun u W hb hd K hK => ?_, ?_⟩
    · simp only [Facts, nthR, Is, and_true] at hd
      simp only [hd] at hK ⊢
      clear hd
      go_simp
      apply hK
      · simp only [Act.put, List.setIfInBounds_toArray, List.set_cons_zero, List.set_cons_succ]
        exact rfl
      · exact (Below.refl _ _).alloc (Nat.le_refl _) _
      · exact ⟨_, rfl, new_cell _ _ _⟩
    refine ⟨fun u W hb hd K hK => ?_, ?_⟩
    · simp only [Facts, nthR, Is, and_true] at hd
      obtain ⟨h1, h2, g', h4, hc⟩ := hd
      simp only [h1, h2, h4] at hK ⊢
      go_simp
      refine (qmac_one (jK.up hb) rfl (jM.up hb) rfl hc (by omega) (by omega) HX.out (ht5.below hb)).mono ?_
      rintro e wy ⟨rfl, hby⟩
      exact hK _ _ _ rfl hby IsOut
    refine ⟨fun u W hb hd K hK => ?_, ?_⟩
    · simp only [Facts, nthR, Is, and_true] at hd
      simp only [hd] at hK ⊢
      clear hd
      go_simp
      apply hK
      · simp only [Act.put, List.setIfInBounds_toArray, List.set_cons_zero, List.set_cons_succ]
        exact rfl
      · exact Below.refl _ _
      · exact IsOut
    refine ⟨fun u W hb hd K hK => ?_, ?_⟩
    · simp only [Facts, nthR, Is, and_true] at hd
      simp only [hd] at hK ⊢
      clear hd
      go_simp
      apply hK
      · simp only [Act.put, List.setIfInBounds_toArray, List.set_cons_zero, List.set_cons_succ]
        exact rfl
      · exact Below.refl _ _
      · exact IsOut
    refine ⟨fun u W hb hd K hK => ?_, ?_⟩
    · simp only [Facts, nthR, Is, and_true] at hd
      simp only [hd] at hK ⊢
      clear hd
      go_simp
      apply hK
      · simp only [Act.put, List.setIfInBounds_toArray, List.set_cons_zero, List.set_cons_succ]
        exact rfl
      · exact (Below.refl _ _).alloc (Nat.le_refl _) _
      · exact ⟨_, rfl, new_cell _ _ _⟩
    refine ⟨fun u W hb hd K hK => ?_, ?_⟩
    · simp only [Facts, nthR, Is, and_true] at hd
      obtain ⟨h1, h2, g', h4, hc⟩ := hd
      simp only [h1, h2, h4] at hK ⊢
      go_simp
      refine (qmac_one (jS.up hb) hyl (jM.up hb) rfl hc (by omega) (by omega) HX2.out (ht5.below hb)).mono ?_
      rintro e wy ⟨rfl, hby⟩
      exact hK _ _ _ rfl hby IsOut
    refine ⟨fun u W hb hd K hK => ?_, ?_⟩
    · simp only [Facts, nthR, Is, and_true] at hd
      simp only [hd] at hK ⊢
      clear hd
      go_simp
      apply hK
      · simp only [Act.put, List.setIfInBounds_toArray, List.set_cons_zero, List.set_cons_succ]
        exact rfl
      · exact Below.refl _ _
      · exact IsOut
    refine ⟨fun u W hb hd K hK => ?_, ?_⟩
    · simp only [Facts, nthR, Is, and_true] at hd
      simp only [hd] at hK ⊢
      clear hd
      go_simp
      apply hK
      · simp only [Act.put, List.setIfInBounds_toArray, List.set_cons_zero, List.set_cons_succ]
        exact rfl
      · exact Below.refl _ _
      · exact IsOut
    refine ⟨fun u W hb hd K hK => ?_, ?_⟩
    · simp only [Facts, nthR, Is, and_true] at hd
      simp only [hd] at hK ⊢
      clear hd
      go_simp
      apply hK
      · simp only [Act.put, List.setIfInBounds_toArray, List.set_cons_zero, List.set_cons_succ]
        exact rfl
      · exact Below.refl _ _
      · exact IsOut
    exact trivial
  · exact (.is (.is (.is (.is (.cons (fun v V V' ⟨g', h1, h2⟩ hb => ⟨g', h1, cellQ_through h2 hb⟩) (.is (.is (.is (.cons (fun v V V' ⟨g', h1, h2⟩ hb => ⟨g', h1, cellQ_through h2 hb⟩) (.is (.is (.is (.is .nil)))))))))))))
  · intro u W hb hd
    simp only [Facts, nthR, Is, and_true] at hd
    simp only [hd]
    go_wp2
    go_ret
    exact ⟨rfl, hbw.trans (hb.mono hbw.size)⟩
set_option maxRecDepth 100000 in
set_option maxHeartbeats 4000000 in
theorem oldKeys_short (K M : Option Addr) (ck cm : Nat) (xk xm : List UInt8) (n : Int) (w : World) (iK : In w w.heap.size K ck xk) (iM : In w w.heap.size M cm xm) (ht : TabsQ w) (hl : (xk.take 150).length ≤ 64) :
    Calls Tryd.prog 7 #[.slice K xk.length ck, .int .i64 n, .slice M xm.length cm] w fun e w' => e = .returned (.bool true) ∧ Below w.heap.size w w' := by
  have mk : min (xk.length : Int) 150 = ((xk.take 150).length : Int) := by rw [List.length_take]; omega
  have mm : min (xm.length : Int) 150 = ((xm.take 150).length : Int) := by rw [List.length_take]; omega
  have jK := iK.take 150
  have jM := iM.take 150
  have lk : (xk.take 150).length ≤ 150 := by rw [List.length_take]; omega
  have lm : (xm.take 150).length ≤ 150 := by rw [List.length_take]; omega
  obtain ⟨hk1, hk2, _⟩ := iK
  obtain ⟨hm1, hm2, _⟩ := iM
  have kk := jK.1
  have km := jM.1
  generalize xk.take 150 = key at *
  generalize xm.take 150 = m at *
  have hd64 : decide ((64 : Int) < (key.length : Int)) = false := by simp; omega
  go_enter Tryd.func7, Tryd.ntmps7
  go_wp2
  go_quiet (fail)
  have hb1 : Below w.heap.size w (w.drewN nq) := below_drewN (Below.refl _ _) nq
  replace jK := jK.up hb1
  replace jM := jM.up hb1
  have ht1 := ht.below hb1
  clear mk mm
  generalize w.drewN nq = w1 at *
  clear nq
  have hbuf := buf_empty w1
  have hbl0 : Below w1.heap.size w1 (w1.alloc (.cells #[] 5)) := (Below.refl _ _).alloc (Nat.le_refl _) _
  have hsrc : _root_.Go.Src Tryd.prog 1 27 (.slice K key.length ck) key.length (key.map B8) (w1.alloc (.cells #[] 5)) := src_in' ((jK.below hbl0).src (g := w1.heap.size) (Nat.le_refl _))
  go_wp2_with ((with_reducible refine (?_ : wpList _ _ _ (Oper.mk (some 22) _ _ _ _ _ :: _) _ _)); go_loud (refine wpList_append_keep rfl (.tmp 20) (.tmp 21) 27 rfl w1.heap.size _ 0 0 [] key _ rfl hbuf rfl hsrc (by omega) (by simp) key.length (by omega) ?_); intro A3 c3 w3 hB3 hg3 _; have hb3 := below_own hbl0 hbuf hg3 (Nat.le_refl _) (by simp); rw [List.nil_append] at hB3)
  have hb1s := hb1.size
  have hbase := hb3.size
  clear hsrc hbuf hbl0 hg3
  obtain ⟨mu, hmu⟩ : ∃ m : Nat, IntKind.u64.wrap n = (m : Int) := ⟨_, u64_wrap_natQ n⟩
  obtain ⟨J, hJ⟩ : ∃ J : Nat, J = mu % 64 := ⟨_, rfl⟩
  go_loopw [7, 9] (fun v i wr => ∃ (A : Option Addr) (c l j : Nat), l = key.length + j ∧ v = .slice A l c ∧ i = .int .i64 j ∧ l ≤ 64 ∧ Buf wr w1.heap.size A l c (key ++ List.replicate j 0) ∧ Below w1.heap.size w1 wr) (fun _ i _ => 64 - (intOf i).toNat)
  case atStart => exact ⟨A3, c3, key.length, 0, rfl, rfl, rfl, hl, by simpa using hB3, hb3⟩
  case round =>
    obtain ⟨A, c, l, j, hlj, rfl, rfl, hl64, hB, hb⟩ := hrel
    clear hB3 hb3 hbase
    have hsz := hb.size
    have hrem : ((mu : Int).tmod 64) = (J : Int) := by rw [hJ]; exact (Int.ofNat_tmod mu 64).symm
    have hrem2 : ((mu : Int) % 64) = (J : Int) := by rw [hJ]; omega
    have hJl : J < 64 := by rw [hJ]; omega
    have hJw : IntKind.i64.wrap (J : Int) = (J : Int) := by rw [IntKind.wrap_i64]; omega
    have hJu : IntKind.u64.wrap (J : Int) = (J : Int) := by rw [IntKind.wrap_u64]; omega
    have HLJ := Lib.hid hlj
    clear hlj hJ
    have hl0 : (0 : Int) ≤ (l : Int) := by omega
    have hl1 : (l : Int) ≤ 64 := by omega
    by_cases hgo : j < J
    · have hd1 : decide ((j : Int) < (J : Int)) = true := by simp; omega
      have hj0 : (0 : Int) ≤ (j : Int) := by omega
      have hj1 : (j : Int) < 64 := by omega
      by_cases hgo2 : l < 64
      · have hd2 : decide ((l : Int) < 64) = true := by simp; omega
        have hbA := hB.alloc (.cells #[.int .u8 0] 5)
        go_wp2_with ((with_reducible refine (?_ : wpList _ _ _ (Oper.mk (some 56) _ _ _ _ _ :: _) _ _)); go_loud (refine wpList_append_keep rfl (.tmp 54) (.tmp 55) 27 rfl w1.heap.size _ l c (key ++ List.replicate j 0) [0] _ rfl hbA rfl (src_byte (by refine (new_cell _ _ _).trans ?_; rfl)) (by simp; omega) (by simp <;> omega) (l + 1) rfl ?_); intro A' c' w' hB' hg' _; have hb' := below_own (hb.alloc hsz _) hbA hg' (Nat.le_refl _) (by simp <;> omega))
        go_roundw
        case rel =>
          have e : (key ++ List.replicate j 0) ++ [0] = key ++ List.replicate (j + 1) (0 : UInt8) := by rw [List.append_assoc, ← List.replicate_succ']
          rw [e] at hB'
          exact ⟨A', c', l + 1, j + 1, by have := HLJ.out; omega, rfl, by simp, by omega, hB', hb'⟩
        case measure => simp [intOf]; omega
      · have hd2 : decide ((l : Int) < 64) = false := by simp; omega
        have hI3 := hB.toIn (Nat.le_refl _)
        have hkl : (key ++ List.replicate j (0 : UInt8)).length = l := by rw [List.length_append, List.length_replicate]; exact HLJ.out.symm
        have hjj : key.length + j ≤ 64 := by have := HLJ.out; omega
        replace hbw := hb1.trans (hb.mono hb1s)
        replace jK := jK.up hb
        replace jM := jM.up hb
        have ht5 := ht1.below hb
        clear HLJ hb hB ht1 hb1 hb1s
        obtain ⟨k2, hk2⟩ : ∃ k2, k2 = key ++ List.replicate j (0 : UInt8) := ⟨_, rfl⟩
        rw [← hk2] at hI3 hkl
        have jS : In wr wr.heap.size A c k2 := hI3
        obtain ⟨x, hx⟩ : ∃ x, x = hmacQ key m := ⟨_, rfl⟩
        have hx2 : x = hmacQ k2 m := by rw [hx, hk2, hmacQ_zeros key m j hjj]
        have hxl : x.length = 16 := by rw [hx]; exact hmacQ_length _ _
        have HX := Lib.hid hx
        have HX2 := Lib.hid hx2
        have hE := eq16 x hxl
        have HKL := Lib.hid hkl
        clear hx hx2 hxl hk2 hI3 hkl hjj
        go_wp2_with fail
        clear hrem hrem2 hJw hJu
        refine (olds_any wr ht5).mono ?_
        rintro e w4 ⟨rfl, hb4⟩
        replace jS := jS.up hb4
        replace jK := jK.up hb4
        replace jM := jM.up hb4
        replace ht5 := ht5.below hb4
        replace hbw := hbw.trans (hb4.mono hbw.size)
        clear hb4
        have hal := (Below.refl w4.heap.size w4).alloc (Nat.le_refl _) (.cells #[.slice M m.length cm] 27)
        have P := qmac_one (jS.up hal) HKL.out (jM.up hal) rfl (new_cell w4 27 (.slice M m.length cm)) (by omega) (by omega) HX2.out (ht5.below hal)
        go_wp2_with fail
        refine P.mono ?_
        rintro e w5 ⟨rfl, hb5⟩
        replace hal := hal.trans (hb5.mono hal.size)
        replace jK := jK.up hal
        replace jM := jM.up hal
        replace ht5 := ht5.below hal
        replace hbw := hbw.trans (hal.mono hbw.size)
        clear P hb5 hal jS
        have hal := (Below.refl w5.heap.size w5).alloc (Nat.le_refl _) (.cells #[.slice M m.length cm] 27)
        have P := qmac_one (jK.up hal) rfl (jM.up hal) rfl (new_cell w5 27 (.slice M m.length cm)) (by omega) (by omega) HX.out (ht5.below hal)
        go_wp2_with fail
        refine P.mono ?_
        rintro e w6 ⟨rfl, hb6⟩
        replace hal := hal.trans (hb6.mono hal.size)
        replace hbw := hbw.trans (hal.mono hbw.size)
        clear P hb6 hal jK jM ht5
        go_wp2
        go_ret
        exact ⟨rfl, hbw⟩
    · have hd1 : decide ((j : Int) < (J : Int)) = false := by simp; omega
      have hI3 := hB.toIn (Nat.le_refl _)
      have hkl : (key ++ List.replicate j (0 : UInt8)).length = l := by rw [List.length_append, List.length_replicate]; exact HLJ.out.symm
      have hjj : key.length + j ≤ 64 := by have := HLJ.out; omega
      replace hbw := hb1.trans (hb.mono hb1s)
      replace jK := jK.up hb
      replace jM := jM.up hb
      have ht5 := ht1.below hb
      clear HLJ hb hB ht1 hb1 hb1s
      obtain ⟨k2, hk2⟩ : ∃ k2, k2 = key ++ List.replicate j (0 : UInt8) := ⟨_, rfl⟩
      rw [← hk2] at hI3 hkl
      have jS : In wr wr.heap.size A c k2 := hI3
      obtain ⟨x, hx⟩ : ∃ x, x = hmacQ key m := ⟨_, rfl⟩
      have hx2 : x = hmacQ k2 m := by rw [hx, hk2, hmacQ_zeros key m j hjj]
      have hxl : x.length = 16 := by rw [hx]; exact hmacQ_length _ _
      have HX := Lib.hid hx
      have HX2 := Lib.hid hx2
      have hE := eq16 x hxl
      have HKL := Lib.hid hkl
      clear hx hx2 hxl hk2 hI3 hkl hjj
      go_wp2_with fail
      clear hrem hrem2 hJw hJu
      refine (olds_any wr ht5).mono ?_
      rintro e w4 ⟨rfl, hb4⟩
      replace jS := jS.up hb4
      replace jK := jK.up hb4
      replace jM := jM.up hb4
      replace ht5 := ht5.below hb4
      replace hbw := hbw.trans (hb4.mono hbw.size)
      clear hb4
      have hal := (Below.refl w4.heap.size w4).alloc (Nat.le_refl _) (.cells #[.slice M m.length cm] 27)
      have P := qmac_one (jS.up hal) HKL.out (jM.up hal) rfl (new_cell w4 27 (.slice M m.length cm)) (by omega) (by omega) HX2.out (ht5.below hal)
      go_wp2_with fail
      refine P.mono ?_
      rintro e w5 ⟨rfl, hb5⟩
      replace hal := hal.trans (hb5.mono hal.size)
      replace jK := jK.up hal
      replace jM := jM.up hal
      replace ht5 := ht5.below hal
      replace hbw := hbw.trans (hal.mono hbw.size)
      clear P hb5 hal jS
      have hal := (Below.refl w5.heap.size w5).alloc (Nat.le_refl _) (.cells #[.slice M m.length cm] 27)
      have P := qmac_one (jK.up hal) rfl (jM.up hal) rfl (new_cell w5 27 (.slice M m.length cm)) (by omega) (by omega) HX.out (ht5.below hal)
      go_wp2_with fail
      refine P.mono ?_
      rintro e w6 ⟨rfl, hb6⟩
      replace hal := hal.trans (hb6.mono hal.size)
      replace hbw := hbw.trans (hal.mono hbw.size)
      clear P hb6 hal jK jM ht5
      go_wp2
      go_ret
      exact ⟨rfl, hbw⟩
set_option maxRecDepth 100000 in
set_option maxHeartbeats 4000000 in
theorem oldKeys_any (K M : Option Addr) (ck cm : Nat) (xk xm : List UInt8) (n : Int) (w : World) (iK : In w w.heap.size K ck xk) (iM : In w w.heap.size M cm xm) (ht : TabsQ w)  :
    Calls Tryd.prog 7 #[.slice K xk.length ck, .int .i64 n, .slice M xm.length cm] w fun e w' => e = .returned (.bool true) ∧ Below w.heap.size w w' := by
  by_cases hl : 64 < (xk.take 150).length
  · exact oldKeys_long K M ck cm xk xm n w iK iM ht hl
  · exact oldKeys_short K M ck cm xk xm n w iK iM ht (by omega)
end Go.Proofs.YtcjdpllhaebapabDoor
