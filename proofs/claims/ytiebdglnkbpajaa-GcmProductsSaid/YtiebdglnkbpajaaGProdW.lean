/-
  The walk of the statement GcmProducts.
-/
import Derived.Test.YtiebdglnkbpajaaGseal
import Derived.Test.YtiebdglnkbpajaaFresh
namespace Go.Proofs.Ytiebdglnkbpajaa
open Go.RowKit

theorem eq16 (L : List UInt8) (h : L.length = 16) (W : World) : (binOp .eql 22 (BV L) (BV L)).run Try.prog W = .ok (.bool true) W := by
  have := run_eql_bytes (P := Try.prog) W 22 5 16 Try.underlying22 Try.underlying5 size8 L L h h
  rw [beq_self_eq_true] at this
  exact this
/-- What stays in the loop: the three that came in, and two products. -/
structure GFr (w : World) (g0 g1 g2 g7 g8 : Nat) (a b c P Q : List UInt8) (wr : World) : Prop where
  a : Blk wr g0 22 (a.map B8)
  b : Blk wr g1 22 (b.map B8)
  c : Blk wr g2 22 (c.map B8)
  p : Blk wr g7 22 (P.map B8)
  q : Blk wr g8 22 (Q.map B8)
  bw : Below w.heap.size w wr
theorem GFr.below {w wr W : World} {g0 g1 g2 g7 g8 : Nat} {a b c P Q : List UInt8} (h : GFr w g0 g1 g2 g7 g8 a b c P Q wr) (hb : Below wr.heap.size wr W) : GFr w g0 g1 g2 g7 g8 a b c P Q W :=
  ⟨h.a.below hb h.a.lt, h.b.below hb h.b.lt, h.c.below hb h.c.lt, h.p.below hb h.p.lt, h.q.below hb h.q.lt, h.bw.trans (hb.mono h.bw.size)⟩
theorem GFr.far {w wr : World} {g0 g1 g2 g7 g8 : Nat} {a b c P Q : List UInt8} (h : GFr w g0 g1 g2 g7 g8 a b c P Q wr) {p : Addr} (hp : g0 ≠ p.block ∧ g1 ≠ p.block ∧ g2 ≠ p.block ∧ g7 ≠ p.block ∧ g8 ≠ p.block ∧ w.heap.size ≤ p.block) (u : Value) : GFr w g0 g1 g2 g7 g8 a b c P Q (wr.setCell p u) :=
  ⟨h.a.far hp.1 u, h.b.far hp.2.1 u, h.c.far hp.2.2.1 u, h.p.far hp.2.2.2.1 u, h.q.far hp.2.2.2.2.1 u, h.bw.setCell hp.2.2.2.2.2 u⟩

set_option maxRecDepth 100000 in
set_option maxHeartbeats 1000000 in
theorem gcmProducts_walk (a b c : List UInt8) (w : World) (ha : a.length = 16) (hb : b.length = 16) (hc : c.length = 16) :
    Calls Try.prog 3 #[BV a, BV b, BV c] w fun e w' => e = .returned (.bool true) ∧ Below w.heap.size w w' := by
  have k1 := fun (W : World) => product_e a b ha hb W
  have k2 := fun (W : World) => product_e a c ha hc W
  have k3 := fun (W : World) => refProduct_e a b ha hb W
  rw [zE_prod a b hb] at k3
  have k4 := fun (W : World) => product_e b a hb ha W
  rw [show prodE b a = prodE a b from prodE_comm] at k4
  have k5 := fun (W : World) => product_e a (putE b c) ha (putE_length hb hc) W
  rw [prodE_put hb hc] at k5
  have k6 := fun (W : World) => product_e (prodE a b) c (prodE_length a b) hc W
  have k7 := fun (W : World) => product_e b c hb hc W
  have k8 := fun (W : World) => product_e a (prodE b c) ha (prodE_length b c) W
  rw [show prodE a (prodE b c) = prodE (prodE a b) c from prodE_assoc.symm] at k8
  have l1 := prodE_length a b
  have l2 := prodE_length a c
  have l3 := putE_length hb hc
  have l4 := putE_length l1 l2
  have l5 := prodE_length (prodE a b) c
  have gs := fun i (hi : i < 16) => putE_get hb hc i hi
  have gt := fun i (hi : i < 16) => putE_get l1 l2 i hi
  generalize putE (prodE a b) (prodE a c) = T at *
  generalize putE b c = S at *
  generalize prodE (prodE a b) c = U at *
  generalize prodE a b = P at *
  generalize prodE a c = Q at *
  generalize prodE b c = V at *
  have hz : ∀ W : World, (zeroValue 22).run Try.prog W = .ok (BV zero16) W := fun W => by kernel_rfl
  obtain ⟨Z, hZ⟩ : ∃ Z, Z = zero16 := ⟨_, rfl⟩
  have HZL := Lib.hid (show Z.length = 16 by rw [hZ]; rfl)
  rw [← hZ] at hz
  have K1 := Lib.hid k1
  have K2 := Lib.hid k2
  have K3 := Lib.hid k3
  have K4 := Lib.hid k4
  have K5 := Lib.hid k5
  have K6 := Lib.hid k6
  have K7 := Lib.hid k7
  have K8 := Lib.hid k8
  have hqP := eq16 P l1
  have hqT := eq16 T l4
  have hqU := eq16 U l5
  have HQ := Lib.hid (And.intro hqP (And.intro hqT hqU))
  have LP := Lib.hid l1
  have LQ := Lib.hid l2
  have LS := Lib.hid l3
  have LT := Lib.hid l4
  have LA := Lib.hid ha
  have LB := Lib.hid hb
  have LC := Lib.hid hc
  have GS := Lib.hid gs
  have GT := Lib.hid gt
  clear k1 k2 k3 k4 k5 k6 k7 k8 l1 l2 l3 l4 l5 ha hb hc gs gt hZ hqP hqT hqU
  go_enter Try.func3, Try.ntmps3
  go_wp2
  have hA : Blk (((w.alloc (.cells (a.map B8).toArray 22)).alloc (.cells (b.map B8).toArray 22)).alloc (.cells (c.map B8).toArray 22)) w.heap.size 22 (a.map B8) := ((Blk.new_of w 22 _ (a.map B8) rfl).alloc _).alloc _
  have hB := (Blk.new2_of w (.cells (a.map B8).toArray 22) 22 (b.map B8).toArray (b.map B8) rfl).alloc (.cells (c.map B8).toArray 22)
  have hC := Blk.new3_of w (.cells (a.map B8).toArray 22) (.cells (b.map B8).toArray 22) 22 (c.map B8).toArray (c.map B8) rfl
  have hbw := (((Below.refl w.heap.size w).alloc (Nat.le_refl _) (.cells (a.map B8).toArray 22)).alloc (by simp) (.cells (b.map B8).toArray 22)).alloc (by simp; omega) (.cells (c.map B8).toArray 22)
  have hg01 := hA.lt
  have hg11 := hB.lt
  have hg21 := hC.lt
  generalize w.heap.size + 1 + 1 = g2 at *
  generalize w.heap.size + 1 = g1 at *
  generalize ((w.alloc (.cells (a.map B8).toArray 22)).alloc (.cells (b.map B8).toArray 22)).alloc (.cells (c.map B8).toArray 22) = w1 at *
  apply wp_region_fresh (m := 8) (Z := []) (Fl := [false, false, false, false, false, false, true, true]) (D := [[], [], [0, 1], [], [], [0, 1, 2, 3, 4], [], [], [0, 1, 2, 3, 4, 5, 6, 7], [0, 1, 2, 3, 4, 5, 6, 7, 8]]) (J := [[], [], [0, 1], [], [], [3, 4], [], []]) (Je := [2, 5, 6, 7]) (Rs := [Is _, Is _, Is _, Is _, Is _, Is _, fun v V => ∃ g, v = .pointer (some ⟨g, 0, none⟩) ∧ w1.heap.size ≤ g ∧ Blk V g 22 (Z.map B8), fun v V => ∃ g, v = .pointer (some ⟨g, 0, none⟩) ∧ w1.heap.size ≤ g ∧ Blk V g 22 (Z.map B8)])
  · kernel_rfl
  · kernel_rfl
  · kernel_rfl
  · kernel_rfl
  · kernel_rfl
  · kernel_rfl
  · kernel_rfl
  · kernel_rfl
  · exact fun h => absurd rfl h
  · intro u
    simp only [List.take_succ_cons, List.take_zero, List.map_cons, List.map_nil, fillU, List.setIfInBounds_toArray, List.set_cons_zero, List.set_cons_succ, Nat.zero_add, Nat.reduceAdd]
    exact rfl
  · simp only [List.take_succ_cons, List.take_zero]
    refine ⟨fun u W hb hd K hK => ?_, ?_⟩
    · clear hd
      rw [if_pos (by rfl)]
      refine wp_load_mid 22 (.tmp 3) rfl (w.heap.size) 0 rfl (a.map B8) _ (rangeAt_blk (hA.below hb hA.lt)) Try.underlying22 rfl (infoBk.trans (by rw [List.length_map, LA.out])) ?_
      exact hK _ _ _ rfl (Below.refl _ _) IsOut
    refine ⟨fun u W hb hd K hK => ?_, ?_⟩
    · clear hd
      rw [if_pos (by rfl)]
      refine wp_load_mid 22 (.tmp 4) rfl (g1) 0 rfl (b.map B8) _ (rangeAt_blk (hB.below hb hB.lt)) Try.underlying22 rfl (infoBk.trans (by rw [List.length_map, LB.out])) ?_
      exact hK _ _ _ rfl (Below.refl _ _) IsOut
    refine ⟨fun u W hb hd K hK => ?_, ?_⟩
    · simp only [Facts, nthR, Is, and_true] at hd
      simp only [hd] at hK ⊢
      clear hd
      go_simp
      refine (K1.out W).mono ?_
      rintro e wy ⟨rfl, hby⟩
      exact hK _ _ _ rfl hby IsOut
    refine ⟨fun u W hb hd K hK => ?_, ?_⟩
    · clear hd
      rw [if_pos (by rfl)]
      refine wp_load_mid 22 (.tmp 3) rfl (w.heap.size) 0 rfl (a.map B8) _ (rangeAt_blk (hA.below hb hA.lt)) Try.underlying22 rfl (infoBk.trans (by rw [List.length_map, LA.out])) ?_
      exact hK _ _ _ rfl (Below.refl _ _) IsOut
    refine ⟨fun u W hb hd K hK => ?_, ?_⟩
    · clear hd
      rw [if_pos (by rfl)]
      refine wp_load_mid 22 (.tmp 5) rfl (g2) 0 rfl (c.map B8) _ (rangeAt_blk (hC.below hb hC.lt)) Try.underlying22 rfl (infoBk.trans (by rw [List.length_map, LC.out])) ?_
      exact hK _ _ _ rfl (Below.refl _ _) IsOut
    refine ⟨fun u W hb hd K hK => ?_, ?_⟩
    · simp only [Facts, nthR, Is, and_true] at hd
      simp only [hd] at hK ⊢
      clear hd
      go_simp
      refine (K2.out W).mono ?_
      rintro e wy ⟨rfl, hby⟩
      exact hK _ _ _ rfl hby IsOut
    refine ⟨fun u W hb hd K hK => ?_, ?_⟩
    · clear hd
      go_simp
      apply hK
      · simp only [Act.put, List.setIfInBounds_toArray, List.set_cons_zero, List.set_cons_succ]
        exact rfl
      · exact (Below.refl _ _).alloc (Nat.le_refl _) _
      · exact ⟨_, rfl, hb.size, Blk.new_of _ _ _ _ (by rfl)⟩
      · exact ⟨_, rfl, Nat.le_refl _, by simp⟩
    refine ⟨fun u W hb hd K hK => ?_, ?_⟩
    · clear hd
      go_simp
      apply hK
      · simp only [Act.put, List.setIfInBounds_toArray, List.set_cons_zero, List.set_cons_succ]
        exact rfl
      · exact (Below.refl _ _).alloc (Nat.le_refl _) _
      · exact ⟨_, rfl, hb.size, Blk.new_of _ _ _ _ (by rfl)⟩
      · exact ⟨_, rfl, Nat.le_refl _, by simp⟩
    exact trivial
  · skip
    exact trivial
  · exact (.is (.is (.is (.is (.is (.is (.cons (fun v V V' ⟨g, h1, h2, h3⟩ hb => ⟨g, h1, h2, h3.below hb h3.lt⟩) (.cons (fun v V V' ⟨g, h1, h2, h3⟩ hb => ⟨g, h1, h2, h3.below hb h3.lt⟩) .nil))))))))
  · intro u W hb hd hne
    simp only [List.drop_succ_cons, List.drop_zero]
    simp only [Facts, nthR, Is, and_true] at hd
    obtain ⟨e1, e2, ⟨g7, e3, hg7, hP⟩, ⟨g8, e4, hg8, hQ⟩⟩ := hd
    have hgn : g7 ≠ g8 := fun e => hne 6 7 rfl rfl (by decide) (by decide) (by decide) (by rw [e3, e4, e])
    simp only [e1, e2, e3, e4]
    clear e1 e2 e3 e4 hne
    go_wp2_with (first
      | ((with_reducible refine (?_ : wpList _ _ _ (Oper.mk none (.store 22 (.tmp 7) _) _ _ _ _ :: _) _ _)); go_loud (refine wpList_store_blk rfl 22 (.tmp 7) (.tmp 14) rfl rfl (g7) _ rfl rfl 22 _ hP (infoBk.trans (by rw [List.length_map, LP.out])) (by rw [List.length_map, List.length_map, LP.out, HZL.out]) (one8 _) ?_); intro w2 hP2 hs2; replace hQ := hQ.grown hs2 (fun h => hgn (by have := Option.some.inj h; omega)); replace hb := below_new hb hs2 hg7 hb.size)
      | ((with_reducible refine (?_ : wpList _ _ _ (Oper.mk none (.store 22 (.tmp 8) _) _ _ _ _ :: _) _ _)); go_loud (refine wpList_store_blk rfl 22 (.tmp 8) (.tmp 17) rfl rfl (g8) _ rfl rfl 22 _ hQ (infoBk.trans (by rw [List.length_map, LQ.out])) (by rw [List.length_map, List.length_map, LQ.out, HZL.out]) (one8 _) ?_); intro w3 hQ3 hs3; replace hP2 := hP2.grown hs3 (fun h => hgn (by have := Option.some.inj h; omega)); replace hb := below_new hb hs3 hg8 hb.size))
    have hF0 : GFr w w.heap.size g1 g2 g7 g8 a b c P Q w3 := ⟨hA.below hb hg01, hB.below hb hg11, hC.below hb hg21, hP2, hQ3, hbw.trans (hb.mono hbw.size)⟩
    clear hs2 hs3 hP hQ hP2 hQ3 hA hB hC hbw hb hg01 hg11 hg21 hg7 hg8 hgn
    have hS0 : Blk ((w3.alloc (.cells (Z.map B8).toArray 22)).alloc (.cells (Z.map B8).toArray 22)) w3.heap.size 22 ((S.take 0 ++ Z.drop 0).map B8) := (Blk.new_of w3 22 _ (Z.map B8) rfl).alloc _
    have hT0 : Blk ((w3.alloc (.cells (Z.map B8).toArray 22)).alloc (.cells (Z.map B8).toArray 22)) (w3.heap.size + 1) 22 ((T.take 0 ++ Z.drop 0).map B8) := Blk.new2_of w3 (.cells (Z.map B8).toArray 22) 22 _ (Z.map B8) rfl
    have hF1 := hF0.below (((Below.refl w3.heap.size w3).alloc (Nat.le_refl _) (.cells (Z.map B8).toArray 22)).alloc (by simp) (.cells (Z.map B8).toArray 22))
    have n1 : w.heap.size ≠ w3.heap.size ∧ g1 ≠ w3.heap.size ∧ g2 ≠ w3.heap.size ∧ g7 ≠ w3.heap.size ∧ g8 ≠ w3.heap.size ∧ w.heap.size ≤ w3.heap.size := by
      have h1 := hF0.a.lt
      have h2 := hF0.b.lt
      have h3 := hF0.c.lt
      have h4 := hF0.p.lt
      have h5 := hF0.q.lt
      omega
    have n2 : w.heap.size ≠ w3.heap.size + 1 ∧ g1 ≠ w3.heap.size + 1 ∧ g2 ≠ w3.heap.size + 1 ∧ g7 ≠ w3.heap.size + 1 ∧ g8 ≠ w3.heap.size + 1 ∧ w.heap.size ≤ w3.heap.size + 1 := by
      have h1 := hF0.a.lt
      have h2 := hF0.b.lt
      have h3 := hF0.c.lt
      have h4 := hF0.p.lt
      have h5 := hF0.q.lt
      omega
    have n3 : w3.heap.size ≠ w3.heap.size + 1 := by omega
    clear hF0
    go_wp2
    clear hz
    generalize (w3.alloc (.cells (Z.map B8).toArray 22)).alloc (.cells (Z.map B8).toArray 22) = w4 at *
    generalize w3.heap.size + 1 = gt at *
    generalize w3.heap.size = gs at *
    obtain ⟨g0, hg0⟩ : ∃ g0, g0 = w.heap.size := ⟨_, rfl⟩
    go_loopw [11] (fun i wr => ∃ k : Nat, k ≤ 16 ∧ i = .int .i64 (k : Int) ∧ Blk wr gs 22 ((S.take k ++ Z.drop k).map B8) ∧ Blk wr gt 22 ((T.take k ++ Z.drop k).map B8) ∧ GFr w w.heap.size g1 g2 g7 g8 a b c P Q wr) (fun i _ => 16 - (intOf i).toNat)
    case atStart => exact ⟨0, by omega, rfl, hS0, hT0, hF1⟩
    case round =>
      clear hS0 hT0 hF1
      obtain ⟨k, hk, rfl, hS, hT, hF⟩ := hrel
      by_cases hlt : k < 16
      · have hd1 : decide ((k : Int) < 16) = true := by simp; omega
        have hk0 : (0 : Int) ≤ (k : Int) := by omega
        have hk1 : (k : Int) < 16 := by omega
        have z1 : wr.drew.cell? ⟨g1, k, none⟩ = some (.int .u8 ((b.getD k 0).toNat : Int)) := hF.b.drew.at8 k (by rw [LB.out]; omega)
        have z2 : wr.drew.cell? ⟨g2, k, none⟩ = some (.int .u8 ((c.getD k 0).toNat : Int)) := hF.c.drew.at8 k (by rw [LC.out]; omega)
        have z3 : wr.drew.cell? ⟨g7, k, none⟩ = some (.int .u8 ((P.getD k 0).toNat : Int)) := hF.p.drew.at8 k (by rw [LP.out]; omega)
        have z4 : wr.drew.cell? ⟨g8, k, none⟩ = some (.int .u8 ((Q.getD k 0).toNat : Int)) := hF.q.drew.at8 k (by rw [LQ.out]; omega)
        have hx1 := b_xor (b.getD k 0) (c.getD k 0)
        rw [← GS.out k hlt] at hx1
        have hx2 := b_xor (P.getD k 0) (Q.getD k 0)
        rw [← GT.out k hlt] at hx2
        have hst := set_up S Z k (by rw [LS.out]; omega) (by rw [HZL.out]; omega)
        have htt := set_up T Z k (by rw [LT.out]; omega) (by rw [HZL.out]; omega)
        have hsl := mid_len S Z k (by rw [LS.out]; omega) (by rw [HZL.out]; omega)
        have htl := mid_len T Z k (by rw [LT.out]; omega) (by rw [HZL.out]; omega)
        have hcs : wr.drew.cell? ⟨gs, k, none⟩ = some _ := hS.drew.at8 k (by rw [hsl, HZL.out]; omega)
        have hfs : wr.drew.frozen? ⟨gs, k, none⟩ = false := hS.drew.frozen k
        have hS2 := hS.drew.set_ k (B8 (S.getD k 0))
        rw [map_set8, hst] at hS2
        have hT1 := hT.drew.far (p := ⟨gs, k, none⟩) (by simpa using n3.symm) (B8 (S.getD k 0))
        have hF2 := (GFr.mk hF.a.drew hF.b.drew hF.c.drew hF.p.drew hF.q.drew (below_drewN hF.bw 1)).far (p := ⟨gs, k, none⟩) n1 (B8 (S.getD k 0))
        have hct : (wr.drew.setCell ⟨gs, k, none⟩ (B8 (S.getD k 0))).cell? ⟨gt, k, none⟩ = some _ := hT1.at8 k (by rw [htl, HZL.out]; omega)
        have hft : (wr.drew.setCell ⟨gs, k, none⟩ (B8 (S.getD k 0))).frozen? ⟨gt, k, none⟩ = false := hT1.frozen k
        have hT2 := hT1.set_ k (B8 (T.getD k 0))
        rw [map_set8, htt] at hT2
        have hS3 := hS2.far (p := ⟨gt, k, none⟩) (by simpa using n3) (B8 (T.getD k 0))
        have hF3 := hF2.far (p := ⟨gt, k, none⟩) n2 (B8 (T.getD k 0))
        have y1 : (wr.drew.setCell ⟨gs, k, none⟩ (B8 (S.getD k 0))).cell? ⟨g1, k, none⟩ = some (.int .u8 ((b.getD k 0).toNat : Int)) := hF2.b.at8 k (by rw [LB.out]; omega)
        have y2 : (wr.drew.setCell ⟨gs, k, none⟩ (B8 (S.getD k 0))).cell? ⟨g2, k, none⟩ = some (.int .u8 ((c.getD k 0).toNat : Int)) := hF2.c.at8 k (by rw [LC.out]; omega)
        have y3 : (wr.drew.setCell ⟨gs, k, none⟩ (B8 (S.getD k 0))).cell? ⟨g7, k, none⟩ = some (.int .u8 ((P.getD k 0).toNat : Int)) := hF2.p.at8 k (by rw [LP.out]; omega)
        have y4 : (wr.drew.setCell ⟨gs, k, none⟩ (B8 (S.getD k 0))).cell? ⟨g8, k, none⟩ = some (.int .u8 ((Q.getD k 0).toNat : Int)) := hF2.q.at8 k (by rw [LQ.out]; omega)
        have x1 : ((wr.drew.setCell ⟨gs, k, none⟩ (B8 (S.getD k 0))).setCell ⟨gt, k, none⟩ (B8 (T.getD k 0))).cell? ⟨g1, k, none⟩ = some (.int .u8 ((b.getD k 0).toNat : Int)) := hF3.b.at8 k (by rw [LB.out]; omega)
        have x2 : ((wr.drew.setCell ⟨gs, k, none⟩ (B8 (S.getD k 0))).setCell ⟨gt, k, none⟩ (B8 (T.getD k 0))).cell? ⟨g2, k, none⟩ = some (.int .u8 ((c.getD k 0).toNat : Int)) := hF3.c.at8 k (by rw [LC.out]; omega)
        have x3 : ((wr.drew.setCell ⟨gs, k, none⟩ (B8 (S.getD k 0))).setCell ⟨gt, k, none⟩ (B8 (T.getD k 0))).cell? ⟨g7, k, none⟩ = some (.int .u8 ((P.getD k 0).toNat : Int)) := hF3.p.at8 k (by rw [LP.out]; omega)
        have x4 : ((wr.drew.setCell ⟨gs, k, none⟩ (B8 (S.getD k 0))).setCell ⟨gt, k, none⟩ (B8 (T.getD k 0))).cell? ⟨g8, k, none⟩ = some (.int .u8 ((Q.getD k 0).toNat : Int)) := hF3.q.at8 k (by rw [LQ.out]; omega)
        have HS3 := Lib.hid hS3
        have HT2 := Lib.hid hT2
        have HF3 := Lib.hid hF3
        have HYY := Lib.hid (And.intro y1 (And.intro y2 (And.intro y3 y4)))
        have HXX := Lib.hid (And.intro x1 (And.intro x2 (And.intro x3 x4)))
        have HZZ := Lib.hid (And.intro z1 (And.intro z2 (And.intro z3 z4)))
        have hct0 : wr.cell? ⟨gt, k, none⟩ = some _ := hT.at8 k (by rw [htl, HZL.out]; omega)
        have hft0 : wr.frozen? ⟨gt, k, none⟩ = false := hT.frozen k
        have HCT := Lib.hid (And.intro hct (And.intro hft (And.intro hct0 hft0)))
        generalize b.getD k 0 = b1 at *
        generalize c.getD k 0 = c1 at *
        generalize P.getD k 0 = p1 at *
        generalize Q.getD k 0 = q1 at *
        generalize S.getD k 0 = s1 at *
        generalize T.getD k 0 = t1 at *
        clear hst htt hsl htl hS2 hT1 hF2 hT2 hS3 hF3 hS hT hF y1 y2 y3 y4 x1 x2 x3 x4 z1 z2 z3 z4 hct hft hct0 hft0
        go_wp2
        refine wp_region_noPanic ?_
        refine wp_region_held_drew (S := fun W => W.cell? ⟨g1, k, none⟩ = some (.int .u8 (b1.toNat : Int)) ∧ W.cell? ⟨g2, k, none⟩ = some (.int .u8 (c1.toNat : Int)) ∧ W.cell? ⟨g7, k, none⟩ = some (.int .u8 (p1.toNat : Int)) ∧ W.cell? ⟨g8, k, none⟩ = some (.int .u8 (q1.toNat : Int))) (by kernel_rfl) (HZZ.out) (fun hHeld => ?_)
        refine wpAnyH_take (i := 0) (oi := ⟨_, _, _, _, _, _⟩) (v := ?_) rfl (by kernel_rfl) (by kernel_rfl) (by kernel_rfl) (fun _ _ _ h => h) (Or.inl ⟨by rfl, ?_⟩) hHeld ?_
        rotate_left 1
        · (intro W hSw; (try dsimp only at hSw); obtain ⟨s1, s2, s3, s4⟩ := hSw; go_simp; try with_reducible rfl)
        try simp only [Act.put, List.setIfInBounds_toArray, List.set_cons_zero, List.set_cons_succ]
        refine wpAnyH_take (i := 1) (oi := ⟨_, _, _, _, _, _⟩) (v := ?_) rfl (by kernel_rfl) (by kernel_rfl) (by kernel_rfl) (fun _ _ _ h => h) (Or.inl ⟨by rfl, ?_⟩) hHeld ?_
        rotate_left 1
        · (intro W hSw; (try dsimp only at hSw); obtain ⟨s1, s2, s3, s4⟩ := hSw; go_simp; try with_reducible rfl)
        try simp only [Act.put, List.setIfInBounds_toArray, List.set_cons_zero, List.set_cons_succ]
        refine wpAnyH_take (i := 2) (oi := ⟨_, _, _, _, _, _⟩) (v := ?_) rfl (by kernel_rfl) (by kernel_rfl) (by kernel_rfl) (fun _ _ _ h => h) (Or.inl ⟨by rfl, ?_⟩) hHeld ?_
        rotate_left 1
        · (intro W hSw; (try dsimp only at hSw); obtain ⟨s1, s2, s3, s4⟩ := hSw; go_simp; try with_reducible rfl)
        try simp only [Act.put, List.setIfInBounds_toArray, List.set_cons_zero, List.set_cons_succ]
        refine wpAnyH_take (i := 3) (oi := ⟨_, _, _, _, _, _⟩) (v := ?_) rfl (by kernel_rfl) (by kernel_rfl) (by kernel_rfl) (fun _ _ _ h => h) (Or.inl ⟨by rfl, ?_⟩) hHeld ?_
        rotate_left 1
        · (intro W hSw; (try dsimp only at hSw); obtain ⟨s1, s2, s3, s4⟩ := hSw; go_simp; try with_reducible rfl)
        try simp only [Act.put, List.setIfInBounds_toArray, List.set_cons_zero, List.set_cons_succ]
        refine wpAnyH_take (i := 4) (oi := ⟨_, _, _, _, _, _⟩) (v := ?_) rfl (by kernel_rfl) (by kernel_rfl) (by kernel_rfl) (fun _ _ _ h => h) (Or.inl ⟨by rfl, ?_⟩) hHeld ?_
        rotate_left 1
        · (intro W hSw; (try dsimp only at hSw); obtain ⟨s1, s2, s3, s4⟩ := hSw; go_simp; try with_reducible rfl)
        try simp only [Act.put, List.setIfInBounds_toArray, List.set_cons_zero, List.set_cons_succ]
        refine wpAnyH_take (i := 5) (oi := ⟨_, _, _, _, _, _⟩) (v := ?_) rfl (by kernel_rfl) (by kernel_rfl) (by kernel_rfl) (fun _ _ _ h => h) (Or.inl ⟨by rfl, ?_⟩) hHeld ?_
        rotate_left 1
        · (intro W hSw; (try dsimp only at hSw); obtain ⟨s1, s2, s3, s4⟩ := hSw; go_simp; try with_reducible rfl)
        try simp only [Act.put, List.setIfInBounds_toArray, List.set_cons_zero, List.set_cons_succ]
        refine wpAnyH_take (i := 6) (oi := ⟨_, _, _, _, _, _⟩) (v := ?_) rfl (by kernel_rfl) (by kernel_rfl) (by kernel_rfl) (fun _ _ _ h => h) (Or.inl ⟨by rfl, ?_⟩) hHeld ?_
        rotate_left 1
        · (intro W hSw; (try dsimp only at hSw); obtain ⟨s1, s2, s3, s4⟩ := hSw; go_simp; try with_reducible rfl)
        try simp only [Act.put, List.setIfInBounds_toArray, List.set_cons_zero, List.set_cons_succ]
        refine wpAnyH_take (i := 7) (oi := ⟨_, _, _, _, _, _⟩) (v := ?_) rfl (by kernel_rfl) (by kernel_rfl) (by kernel_rfl) (fun _ _ _ h => h) (Or.inl ⟨by rfl, ?_⟩) hHeld ?_
        rotate_left 1
        · (intro W hSw; (try dsimp only at hSw); obtain ⟨s1, s2, s3, s4⟩ := hSw; go_simp; try with_reducible rfl)
        try simp only [Act.put, List.setIfInBounds_toArray, List.set_cons_zero, List.set_cons_succ]
        refine wpAnyH_take (i := 8) (oi := ⟨_, _, _, _, _, _⟩) (v := ?_) rfl (by kernel_rfl) (by kernel_rfl) (by kernel_rfl) (fun _ _ _ h => h) (Or.inl ⟨by rfl, ?_⟩) hHeld ?_
        rotate_left 1
        · (intro W hSw; (try dsimp only at hSw); obtain ⟨s1, s2, s3, s4⟩ := hSw; go_simp; try with_reducible rfl)
        try simp only [Act.put, List.setIfInBounds_toArray, List.set_cons_zero, List.set_cons_succ]
        refine wpAnyH_take (i := 9) (oi := ⟨_, _, _, _, _, _⟩) (v := ?_) rfl (by kernel_rfl) (by kernel_rfl) (by kernel_rfl) (fun _ _ _ h => h) (Or.inl ⟨by rfl, ?_⟩) hHeld ?_
        rotate_left 1
        · (intro W hSw; (try dsimp only at hSw); obtain ⟨s1, s2, s3, s4⟩ := hSw; go_simp; try with_reducible rfl)
        try simp only [Act.put, List.setIfInBounds_toArray, List.set_cons_zero, List.set_cons_succ]
        refine wpAnyH_take (i := 10) (oi := ⟨_, _, _, _, _, _⟩) (v := ?_) rfl (by kernel_rfl) (by kernel_rfl) (by kernel_rfl) (fun _ _ _ h => h) (Or.inl ⟨by rfl, ?_⟩) hHeld ?_
        rotate_left 1
        · (intro W hSw; (try dsimp only at hSw); obtain ⟨s1, s2, s3, s4⟩ := hSw; go_simp; try with_reducible rfl)
        try simp only [Act.put, List.setIfInBounds_toArray, List.set_cons_zero, List.set_cons_succ]
        refine wpAnyH_take (i := 11) (oi := ⟨_, _, _, _, _, _⟩) (v := ?_) rfl (by kernel_rfl) (by kernel_rfl) (by kernel_rfl) (fun _ _ _ h => h) (Or.inl ⟨by rfl, ?_⟩) hHeld ?_
        rotate_left 1
        · (intro W hSw; (try dsimp only at hSw); obtain ⟨s1, s2, s3, s4⟩ := hSw; go_simp; try with_reducible rfl)
        try simp only [Act.put, List.setIfInBounds_toArray, List.set_cons_zero, List.set_cons_succ]
        refine wpAnyH_take (i := 12) (oi := ⟨_, _, _, _, _, _⟩) (v := ?_) rfl (by kernel_rfl) (by kernel_rfl) (by kernel_rfl) (fun _ _ _ h => h) (Or.inl ⟨by rfl, ?_⟩) hHeld ?_
        rotate_left 1
        · (intro W hSw; (try dsimp only at hSw); obtain ⟨s1, s2, s3, s4⟩ := hSw; go_simp; try with_reducible rfl)
        try simp only [Act.put, List.setIfInBounds_toArray, List.set_cons_zero, List.set_cons_succ]
        refine wpAnyH_take (i := 13) (oi := ⟨_, _, _, _, _, _⟩) (v := ?_) rfl (by kernel_rfl) (by kernel_rfl) (by kernel_rfl) (fun _ _ _ h => h) (Or.inl ⟨by rfl, ?_⟩) hHeld ?_
        rotate_left 1
        · (intro W hSw; (try dsimp only at hSw); obtain ⟨s1, s2, s3, s4⟩ := hSw; go_simp; try with_reducible rfl)
        try simp only [Act.put, List.setIfInBounds_toArray, List.set_cons_zero, List.set_cons_succ]
        refine wpAnyH_take (i := 14) (oi := ⟨_, _, _, _, _, _⟩) (v := ?_) rfl (by kernel_rfl) (by kernel_rfl) (by kernel_rfl) (fun _ _ _ h => h) (Or.inl ⟨by rfl, ?_⟩) hHeld ?_
        rotate_left 1
        · (intro W hSw; (try dsimp only at hSw); obtain ⟨s1, s2, s3, s4⟩ := hSw; go_simp; try with_reducible rfl)
        try simp only [Act.put, List.setIfInBounds_toArray, List.set_cons_zero, List.set_cons_succ]
        refine wpAnyH_take (i := 15) (oi := ⟨_, _, _, _, _, _⟩) (v := ?_) rfl (by kernel_rfl) (by kernel_rfl) (by kernel_rfl) (fun _ _ _ h => h) (Or.inl ⟨by rfl, ?_⟩) hHeld ?_
        rotate_left 1
        · (intro W hSw; (try dsimp only at hSw); obtain ⟨s1, s2, s3, s4⟩ := hSw; go_simp; try with_reducible rfl)
        try simp only [Act.put, List.setIfInBounds_toArray, List.set_cons_zero, List.set_cons_succ]
        refine wpAnyH_take (i := 16) (oi := ⟨_, _, _, _, _, _⟩) (v := ?_) rfl (by kernel_rfl) (by kernel_rfl) (by kernel_rfl) (fun _ _ _ h => h) (Or.inl ⟨by rfl, ?_⟩) hHeld ?_
        rotate_left 1
        · (intro W hSw; (try dsimp only at hSw); obtain ⟨s1, s2, s3, s4⟩ := hSw; go_simp; try with_reducible rfl)
        try simp only [Act.put, List.setIfInBounds_toArray, List.set_cons_zero, List.set_cons_succ]
        refine wpAnyH_ready (rs := [17]) (by kernel_rfl) (by simp) ?_
        refine AllReadyH.cons (o := ⟨_, _, _, _, _, _⟩) rfl (fun K hK => ?_) AllReadyH.nil
        go_simp
        refine hK.out _ _ HYY.out (fun hHeld => ?_)
        clear hK K
        try simp only [Act.put, List.setIfInBounds_toArray, List.set_cons_zero, List.set_cons_succ]
        refine wpAnyH_take (i := 18) (oi := ⟨_, _, _, _, _, _⟩) (v := ?_) rfl (by kernel_rfl) (by kernel_rfl) (by kernel_rfl) (fun _ _ _ h => h) (Or.inl ⟨by rfl, ?_⟩) hHeld ?_
        rotate_left 1
        · (intro W hSw; (try dsimp only at hSw); obtain ⟨s1, s2, s3, s4⟩ := hSw; go_simp; try with_reducible rfl)
        try simp only [Act.put, List.setIfInBounds_toArray, List.set_cons_zero, List.set_cons_succ]
        obtain ⟨hct, hft, hct0, hft0⟩ := HCT.out
        change (wr.drew.setCell ⟨gs, k, none⟩ (.int .u8 (s1.toNat : Int))).cell? _ = _ at hct
        change (wr.drew.setCell ⟨gs, k, none⟩ (.int .u8 (s1.toNat : Int))).frozen? _ = _ at hft
        refine wpAnyH_ready (rs := [19]) (by kernel_rfl) (by simp) ?_
        refine AllReadyH.cons (o := ⟨_, _, _, _, _, _⟩) rfl (fun K hK => ?_) AllReadyH.nil
        go_simp
        refine hK.out _ _ HXX.out (fun hHeld => ?_)
        clear hK K
        try simp only [Act.put, List.setIfInBounds_toArray, List.set_cons_zero, List.set_cons_succ]
        refine wpAnyH_done (by kernel_rfl) ?_ _
        refine NoPanic.normal ?_
        go_wp2
        go_roundw
        case rel => exact ⟨k + 1, by omega, by go_num, HS3.out, HT2.out, HF3.out⟩
        case measure => simp [intOf]; omega
      · have hd1 : decide ((k : Int) < 16) = false := by simp; omega
        rw [show k = 16 by omega, List.take_of_length_le (by rw [LS.out]; omega), List.drop_eq_nil_of_le (by rw [HZL.out]; omega), List.append_nil] at hS
        rw [show k = 16 by omega, List.take_of_length_le (by rw [LT.out]; omega), List.drop_eq_nil_of_le (by rw [HZL.out]; omega), List.append_nil] at hT
        have hA := hF.a
        have hB := hF.b
        have hC := hF.c
        have hP := hF.p
        have hbw := hF.bw
        obtain ⟨hqP, hqT, hqU⟩ := HQ.out
        clear hF
        go_wp2
        apply wp_region_once (D := [[], [0], [0, 1], [0, 1], [0, 1], [0, 1, 3, 4], [0, 1, 2, 3, 4, 5], [0, 1, 2, 3, 4, 5, 6], [0, 1, 2, 3, 4, 5, 6, 7], [0, 1, 2, 3, 4, 5, 6, 7, 8], [0, 1, 2, 3, 4, 5, 6, 7, 8], [0, 1, 2, 3, 4, 5, 6, 7, 8], [0, 1, 2, 3, 4, 5, 6, 7, 8, 10, 11], [0, 1, 2, 3, 4, 5, 6, 7, 8, 9, 10, 11, 12], [0, 1, 2, 3, 4, 5, 6, 7, 8, 9, 10, 11, 12, 13], [0, 1, 2, 3, 4, 5, 6, 7, 8, 9, 10, 11, 12, 13, 14], [0, 1, 2, 3, 4, 5, 6, 7, 8, 9, 10, 11, 12, 13, 14, 15], [0, 1, 2, 3, 4, 5, 6, 7, 8, 9, 10, 11, 12, 13, 14, 15], [0, 1, 2, 3, 4, 5, 6, 7, 8, 9, 10, 11, 12, 13, 14, 15, 16, 17], [0, 1, 2, 3, 4, 5, 6, 7, 8, 9, 10, 11, 12, 13, 14, 15], [0, 1, 2, 3, 4, 5, 6, 7, 8, 9, 10, 11, 12, 13, 14, 15, 16, 17, 18, 19], [0, 1, 2, 3, 4, 5, 6, 7, 8, 9, 10, 11, 12, 13, 14, 15, 16, 17, 18, 19, 20], [0, 1, 2, 3, 4, 5, 6, 7, 8, 9, 10, 11, 12, 13, 14, 15, 16, 17, 18, 19, 20, 21], [0, 1, 2, 3, 4, 5, 6, 7, 8, 9, 10, 11, 12, 13, 14, 15, 16, 17, 18, 19, 20, 21, 22], [0, 1, 2, 3, 4, 5, 6, 7, 8, 9, 10, 11, 12, 13, 14, 15, 16, 17, 18, 19, 20, 21, 22], [0, 1, 2, 3, 4, 5, 6, 7, 8, 9, 10, 11, 12, 13, 14, 15, 16, 17, 18, 19, 20, 21, 22, 23, 24], [0, 1, 2, 3, 4, 5, 6, 7, 8, 9, 10, 11, 12, 13, 14, 15, 16, 17, 18, 19, 20, 21, 22], [0, 1, 2, 3, 4, 5, 6, 7, 8, 9, 10, 11, 12, 13, 14, 15, 16, 17, 18, 19, 20, 21, 22, 23, 24, 25, 26], [0, 1, 2, 3, 4, 5, 6, 7, 8, 9, 10, 11, 12, 13, 14, 15, 16, 17, 18, 19, 20, 21, 22], [0, 1, 2, 3, 4, 5, 6, 7, 8, 9, 10, 11, 12, 13, 14, 15, 16, 17, 18, 19, 20, 21, 22], [0, 1, 2, 3, 4, 5, 6, 7, 8, 9, 10, 11, 12, 13, 14, 15, 16, 17, 18, 19, 20, 21, 22], [0, 1, 2, 3, 4, 5, 6, 7, 8, 9, 10, 11, 12, 13, 14, 15, 16, 17, 18, 19, 20, 21, 22, 23, 24, 25, 26, 27, 29, 30], [0, 1, 2, 3, 4, 5, 6, 7, 8, 9, 10, 11, 12, 13, 14, 15, 16, 17, 18, 19, 20, 21, 22, 23, 24, 25, 26, 27, 28, 29, 30, 31], [0, 1, 2, 3, 4, 5, 6, 7, 8, 9, 10, 11, 12, 13, 14, 15, 16, 17, 18, 19, 20, 21, 22, 23, 24, 25, 26, 27, 28, 29, 30, 31, 32], [0, 1, 2, 3, 4, 5, 6, 7, 8, 9, 10, 11, 12, 13, 14, 15, 16, 17, 18, 19, 20, 21, 22, 23, 24, 25, 26, 27, 28, 29, 30, 31, 32, 33], [0, 1, 2, 3, 4, 5, 6, 7, 8, 9, 10, 11, 12, 13, 14, 15, 16, 17, 18, 19, 20, 21, 22, 23, 24, 25, 26, 27, 28, 29, 30, 31, 32, 33, 34]]) (J := [[], [0], [1], [1], [1], [1, 3, 4], [1, 2, 5], [1, 6], [7], [8], [8], [8], [8, 10, 11], [8, 9, 12], [8, 13], [14], [15], [15], [15, 16, 17], [15], [15, 18, 19], [15, 20], [21], [22], [22], [22, 23, 24], [22], [22, 25, 26], [22], [22], [22], [22, 29, 30], [22, 28, 31], [22, 27, 32], [22, 33], [34]]) (Je := [35]) (Rs := [Is _, Is _, Is _, Is _, Is _, Is _, Is _, Is _, Is _, Is _, Is _, Is _, Is _, Is _, Is _, Is _, Is _, Is _, Is _, Is _, Is _, Is _, Is _, Is _, Is _, Is _, Is _, Is _, Is _, Is _, Is _, Is _, Is _, Is _, Is _, Is _])
        · kernel_rfl
        · kernel_rfl
        · kernel_rfl
        · kernel_rfl
        · kernel_rfl
        · kernel_rfl
        · intro u
          simp only [List.map_cons, List.map_nil, fillU, List.setIfInBounds_toArray, List.set_cons_zero, List.set_cons_succ, Nat.zero_add, Nat.reduceAdd]
          exact rfl
        · skip
          refine ⟨fun u W hb hd K hK => ?_, ?_⟩
          · clear hd
            go_simp
            refine (boxes_e W).mono ?_
            rintro e wy ⟨rfl, hby⟩
            exact hK _ _ _ rfl hby IsOut
          refine ⟨fun u W hb hd K hK => ?_, ?_⟩
          · simp only [Facts, nthR, Is, and_true] at hd
            simp only [hd] at hK ⊢
            clear hd
            go_simp
            apply hK
            · simp only [Act.put, List.setIfInBounds_toArray, List.set_cons_zero, List.set_cons_succ]
              exact rfl
            · exact Below.refl _ _
            · exact IsOut
          refine ⟨fun u W hb hd K hK => ?_, ?_⟩
          · simp only [Facts, nthR, Is, and_true] at hd
            simp only [hd] at hK ⊢
            clear hd
            rw [if_pos (by rfl)]
            refine wp_load_mid 22 (.tmp 7) rfl (g7) 0 rfl (P.map B8) _ (rangeAt_blk (hP.below hb hP.lt)) Try.underlying22 rfl (infoBk.trans (by rw [List.length_map, LP.out])) ?_
            exact hK _ _ _ rfl (Below.refl _ _) IsOut
          refine ⟨fun u W hb hd K hK => ?_, ?_⟩
          · simp only [Facts, nthR, Is, and_true] at hd
            simp only [hd] at hK ⊢
            clear hd
            rw [if_pos (by rfl)]
            refine wp_load_mid 22 (.tmp 3) rfl (w.heap.size) 0 rfl (a.map B8) _ (rangeAt_blk (hA.below hb hA.lt)) Try.underlying22 rfl (infoBk.trans (by rw [List.length_map, LA.out])) ?_
            exact hK _ _ _ rfl (Below.refl _ _) IsOut
          refine ⟨fun u W hb hd K hK => ?_, ?_⟩
          · simp only [Facts, nthR, Is, and_true] at hd
            simp only [hd] at hK ⊢
            clear hd
            rw [if_pos (by rfl)]
            refine wp_load_mid 22 (.tmp 4) rfl (g1) 0 rfl (b.map B8) _ (rangeAt_blk (hB.below hb hB.lt)) Try.underlying22 rfl (infoBk.trans (by rw [List.length_map, LB.out])) ?_
            exact hK _ _ _ rfl (Below.refl _ _) IsOut
          refine ⟨fun u W hb hd K hK => ?_, ?_⟩
          · simp only [Facts, nthR, Is, and_true] at hd
            simp only [hd] at hK ⊢
            clear hd
            go_simp
            refine (K3.out W).mono ?_
            rintro e wy ⟨rfl, hby⟩
            exact hK _ _ _ rfl hby IsOut
          refine ⟨fun u W hb hd K hK => ?_, ?_⟩
          · simp only [Facts, nthR, Is, and_true] at hd
            simp only [hd] at hK ⊢
            clear hd
            go_simp
            apply hK
            · simp only [Act.put, List.setIfInBounds_toArray, List.set_cons_zero, List.set_cons_succ]
              exact rfl
            · exact Below.refl _ _
            · exact IsOut
          refine ⟨fun u W hb hd K hK => ?_, ?_⟩
          · simp only [Facts, nthR, Is, and_true] at hd
            simp only [hd] at hK ⊢
            clear hd
            go_simp
            apply hK
            · simp only [Act.put, List.setIfInBounds_toArray, List.set_cons_zero, List.set_cons_succ]
              exact rfl
            · exact Below.refl _ _
            · exact IsOut
          refine ⟨fun u W hb hd K hK => ?_, ?_⟩
          · simp only [Facts, nthR, Is, and_true] at hd
            simp only [hd] at hK ⊢
            clear hd
            go_simp
            apply hK
            · simp only [Act.put, List.setIfInBounds_toArray, List.set_cons_zero, List.set_cons_succ]
              exact rfl
            · exact Below.refl _ _
            · exact IsOut
          refine ⟨fun u W hb hd K hK => ?_, ?_⟩
          · simp only [Facts, nthR, Is, and_true] at hd
            simp only [hd] at hK ⊢
            clear hd
            rw [if_pos (by rfl)]
            refine wp_load_mid 22 (.tmp 7) rfl (g7) 0 rfl (P.map B8) _ (rangeAt_blk (hP.below hb hP.lt)) Try.underlying22 rfl (infoBk.trans (by rw [List.length_map, LP.out])) ?_
            exact hK _ _ _ rfl (Below.refl _ _) IsOut
          refine ⟨fun u W hb hd K hK => ?_, ?_⟩
          · simp only [Facts, nthR, Is, and_true] at hd
            simp only [hd] at hK ⊢
            clear hd
            rw [if_pos (by rfl)]
            refine wp_load_mid 22 (.tmp 4) rfl (g1) 0 rfl (b.map B8) _ (rangeAt_blk (hB.below hb hB.lt)) Try.underlying22 rfl (infoBk.trans (by rw [List.length_map, LB.out])) ?_
            exact hK _ _ _ rfl (Below.refl _ _) IsOut
          refine ⟨fun u W hb hd K hK => ?_, ?_⟩
          · simp only [Facts, nthR, Is, and_true] at hd
            simp only [hd] at hK ⊢
            clear hd
            rw [if_pos (by rfl)]
            refine wp_load_mid 22 (.tmp 3) rfl (w.heap.size) 0 rfl (a.map B8) _ (rangeAt_blk (hA.below hb hA.lt)) Try.underlying22 rfl (infoBk.trans (by rw [List.length_map, LA.out])) ?_
            exact hK _ _ _ rfl (Below.refl _ _) IsOut
          refine ⟨fun u W hb hd K hK => ?_, ?_⟩
          · simp only [Facts, nthR, Is, and_true] at hd
            simp only [hd] at hK ⊢
            clear hd
            go_simp
            refine (K4.out W).mono ?_
            rintro e wy ⟨rfl, hby⟩
            exact hK _ _ _ rfl hby IsOut
          refine ⟨fun u W hb hd K hK => ?_, ?_⟩
          · simp only [Facts, nthR, Is, and_true] at hd
            simp only [hd] at hK ⊢
            clear hd
            go_simp
            apply hK
            · simp only [Act.put, List.setIfInBounds_toArray, List.set_cons_zero, List.set_cons_succ]
              exact rfl
            · exact Below.refl _ _
            · exact IsOut
          refine ⟨fun u W hb hd K hK => ?_, ?_⟩
          · simp only [Facts, nthR, Is, and_true] at hd
            simp only [hd] at hK ⊢
            clear hd
            go_simp
            apply hK
            · simp only [Act.put, List.setIfInBounds_toArray, List.set_cons_zero, List.set_cons_succ]
              exact rfl
            · exact Below.refl _ _
            · exact IsOut
          refine ⟨fun u W hb hd K hK => ?_, ?_⟩
          · simp only [Facts, nthR, Is, and_true] at hd
            simp only [hd] at hK ⊢
            clear hd
            go_simp
            apply hK
            · simp only [Act.put, List.setIfInBounds_toArray, List.set_cons_zero, List.set_cons_succ]
              exact rfl
            · exact Below.refl _ _
            · exact IsOut
          refine ⟨fun u W hb hd K hK => ?_, ?_⟩
          · simp only [Facts, nthR, Is, and_true] at hd
            simp only [hd] at hK ⊢
            clear hd
            rw [if_pos (by rfl)]
            refine wp_load_mid 22 (.tmp 3) rfl (w.heap.size) 0 rfl (a.map B8) _ (rangeAt_blk (hA.below hb hA.lt)) Try.underlying22 rfl (infoBk.trans (by rw [List.length_map, LA.out])) ?_
            exact hK _ _ _ rfl (Below.refl _ _) IsOut
          refine ⟨fun u W hb hd K hK => ?_, ?_⟩
          · simp only [Facts, nthR, Is, and_true] at hd
            simp only [hd] at hK ⊢
            clear hd
            rw [if_pos (by rfl)]
            refine wp_load_mid 22 (.tmp 9) rfl (gs) 0 rfl (S.map B8) _ (rangeAt_blk (hS.below hb hS.lt)) Try.underlying22 rfl (infoBk.trans (by rw [List.length_map, LS.out])) ?_
            exact hK _ _ _ rfl (Below.refl _ _) IsOut
          refine ⟨fun u W hb hd K hK => ?_, ?_⟩
          · simp only [Facts, nthR, Is, and_true] at hd
            simp only [hd] at hK ⊢
            clear hd
            go_simp
            refine (K5.out W).mono ?_
            rintro e wy ⟨rfl, hby⟩
            exact hK _ _ _ rfl hby IsOut
          refine ⟨fun u W hb hd K hK => ?_, ?_⟩
          · simp only [Facts, nthR, Is, and_true] at hd
            simp only [hd] at hK ⊢
            clear hd
            rw [if_pos (by rfl)]
            refine wp_load_mid 22 (.tmp 10) rfl (gt) 0 rfl (T.map B8) _ (rangeAt_blk (hT.below hb hT.lt)) Try.underlying22 rfl (infoBk.trans (by rw [List.length_map, LT.out])) ?_
            exact hK _ _ _ rfl (Below.refl _ _) IsOut
          refine ⟨fun u W hb hd K hK => ?_, ?_⟩
          · simp only [Facts, nthR, Is, and_true] at hd
            simp only [hd] at hK ⊢
            clear hd
            go_simp
            apply hK
            · simp only [Act.put, List.setIfInBounds_toArray, List.set_cons_zero, List.set_cons_succ]
              exact rfl
            · exact Below.refl _ _
            · exact IsOut
          refine ⟨fun u W hb hd K hK => ?_, ?_⟩
          · simp only [Facts, nthR, Is, and_true] at hd
            simp only [hd] at hK ⊢
            clear hd
            go_simp
            apply hK
            · simp only [Act.put, List.setIfInBounds_toArray, List.set_cons_zero, List.set_cons_succ]
              exact rfl
            · exact Below.refl _ _
            · exact IsOut
          refine ⟨fun u W hb hd K hK => ?_, ?_⟩
          · simp only [Facts, nthR, Is, and_true] at hd
            simp only [hd] at hK ⊢
            clear hd
            go_simp
            apply hK
            · simp only [Act.put, List.setIfInBounds_toArray, List.set_cons_zero, List.set_cons_succ]
              exact rfl
            · exact Below.refl _ _
            · exact IsOut
          refine ⟨fun u W hb hd K hK => ?_, ?_⟩
          · simp only [Facts, nthR, Is, and_true] at hd
            simp only [hd] at hK ⊢
            clear hd
            rw [if_pos (by rfl)]
            refine wp_load_mid 22 (.tmp 3) rfl (w.heap.size) 0 rfl (a.map B8) _ (rangeAt_blk (hA.below hb hA.lt)) Try.underlying22 rfl (infoBk.trans (by rw [List.length_map, LA.out])) ?_
            exact hK _ _ _ rfl (Below.refl _ _) IsOut
          refine ⟨fun u W hb hd K hK => ?_, ?_⟩
          · simp only [Facts, nthR, Is, and_true] at hd
            simp only [hd] at hK ⊢
            clear hd
            rw [if_pos (by rfl)]
            refine wp_load_mid 22 (.tmp 4) rfl (g1) 0 rfl (b.map B8) _ (rangeAt_blk (hB.below hb hB.lt)) Try.underlying22 rfl (infoBk.trans (by rw [List.length_map, LB.out])) ?_
            exact hK _ _ _ rfl (Below.refl _ _) IsOut
          refine ⟨fun u W hb hd K hK => ?_, ?_⟩
          · simp only [Facts, nthR, Is, and_true] at hd
            simp only [hd] at hK ⊢
            clear hd
            go_simp
            refine (K1.out W).mono ?_
            rintro e wy ⟨rfl, hby⟩
            exact hK _ _ _ rfl hby IsOut
          refine ⟨fun u W hb hd K hK => ?_, ?_⟩
          · simp only [Facts, nthR, Is, and_true] at hd
            simp only [hd] at hK ⊢
            clear hd
            rw [if_pos (by rfl)]
            refine wp_load_mid 22 (.tmp 5) rfl (g2) 0 rfl (c.map B8) _ (rangeAt_blk (hC.below hb hC.lt)) Try.underlying22 rfl (infoBk.trans (by rw [List.length_map, LC.out])) ?_
            exact hK _ _ _ rfl (Below.refl _ _) IsOut
          refine ⟨fun u W hb hd K hK => ?_, ?_⟩
          · simp only [Facts, nthR, Is, and_true] at hd
            simp only [hd] at hK ⊢
            clear hd
            go_simp
            refine (K6.out W).mono ?_
            rintro e wy ⟨rfl, hby⟩
            exact hK _ _ _ rfl hby IsOut
          refine ⟨fun u W hb hd K hK => ?_, ?_⟩
          · simp only [Facts, nthR, Is, and_true] at hd
            simp only [hd] at hK ⊢
            clear hd
            rw [if_pos (by rfl)]
            refine wp_load_mid 22 (.tmp 3) rfl (w.heap.size) 0 rfl (a.map B8) _ (rangeAt_blk (hA.below hb hA.lt)) Try.underlying22 rfl (infoBk.trans (by rw [List.length_map, LA.out])) ?_
            exact hK _ _ _ rfl (Below.refl _ _) IsOut
          refine ⟨fun u W hb hd K hK => ?_, ?_⟩
          · simp only [Facts, nthR, Is, and_true] at hd
            simp only [hd] at hK ⊢
            clear hd
            rw [if_pos (by rfl)]
            refine wp_load_mid 22 (.tmp 4) rfl (g1) 0 rfl (b.map B8) _ (rangeAt_blk (hB.below hb hB.lt)) Try.underlying22 rfl (infoBk.trans (by rw [List.length_map, LB.out])) ?_
            exact hK _ _ _ rfl (Below.refl _ _) IsOut
          refine ⟨fun u W hb hd K hK => ?_, ?_⟩
          · simp only [Facts, nthR, Is, and_true] at hd
            simp only [hd] at hK ⊢
            clear hd
            rw [if_pos (by rfl)]
            refine wp_load_mid 22 (.tmp 5) rfl (g2) 0 rfl (c.map B8) _ (rangeAt_blk (hC.below hb hC.lt)) Try.underlying22 rfl (infoBk.trans (by rw [List.length_map, LC.out])) ?_
            exact hK _ _ _ rfl (Below.refl _ _) IsOut
          refine ⟨fun u W hb hd K hK => ?_, ?_⟩
          · simp only [Facts, nthR, Is, and_true] at hd
            simp only [hd] at hK ⊢
            clear hd
            go_simp
            refine (K7.out W).mono ?_
            rintro e wy ⟨rfl, hby⟩
            exact hK _ _ _ rfl hby IsOut
          refine ⟨fun u W hb hd K hK => ?_, ?_⟩
          · simp only [Facts, nthR, Is, and_true] at hd
            simp only [hd] at hK ⊢
            clear hd
            go_simp
            refine (K8.out W).mono ?_
            rintro e wy ⟨rfl, hby⟩
            exact hK _ _ _ rfl hby IsOut
          refine ⟨fun u W hb hd K hK => ?_, ?_⟩
          · simp only [Facts, nthR, Is, and_true] at hd
            simp only [hd] at hK ⊢
            clear hd
            go_simp
            apply hK
            · simp only [Act.put, List.setIfInBounds_toArray, List.set_cons_zero, List.set_cons_succ]
              exact rfl
            · exact Below.refl _ _
            · exact IsOut
          refine ⟨fun u W hb hd K hK => ?_, ?_⟩
          · simp only [Facts, nthR, Is, and_true] at hd
            simp only [hd] at hK ⊢
            clear hd
            go_simp
            apply hK
            · simp only [Act.put, List.setIfInBounds_toArray, List.set_cons_zero, List.set_cons_succ]
              exact rfl
            · exact Below.refl _ _
            · exact IsOut
          refine ⟨fun u W hb hd K hK => ?_, ?_⟩
          · simp only [Facts, nthR, Is, and_true] at hd
            simp only [hd] at hK ⊢
            clear hd
            go_simp
            apply hK
            · simp only [Act.put, List.setIfInBounds_toArray, List.set_cons_zero, List.set_cons_succ]
              exact rfl
            · exact Below.refl _ _
            · exact IsOut
          exact trivial
        · exact (.is (.is (.is (.is (.is (.is (.is (.is (.is (.is (.is (.is (.is (.is (.is (.is (.is (.is (.is (.is (.is (.is (.is (.is (.is (.is (.is (.is (.is (.is (.is (.is (.is (.is (.is (.is .nil))))))))))))))))))))))))))))))))))))
        · intro u W hb hd
          simp only [Facts, nthR, Is, and_true] at hd
          simp only [hd]
          have hfin := hbw.trans (hb.mono hbw.size)
          go_wp2
          go_ret
          exact ⟨rfl, hfin⟩
end Go.Proofs.Ytiebdglnkbpajaa
