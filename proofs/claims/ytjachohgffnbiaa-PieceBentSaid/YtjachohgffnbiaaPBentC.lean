/-
  PieceBent, where one piece has other flags.
-/
import Derived.Test.YtjachohgffnbiaaPBentL
namespace Go.Proofs.Ytjachohgffnbiaa
open Go.RowKit

set_option maxRecDepth 100000 in
set_option maxHeartbeats 2000000 in
theorem pieceBent_2 (a b : Int) (b0 b1 b2 : UInt8) (w : World) (hr : (b1.toNat : Int).tmod 3 = 2) :
    Calls Try.prog 5 #[.int .i64 a, .int .i64 b, .agg #[.int .u8 (b0.toNat : Int), .int .u8 (b1.toNat : Int), .int .u8 (b2.toNat : Int)]] w fun e w' => e = .returned (.bool true) ∧ Below w.heap.size w w' := by
  obtain ⟨n, hn1, hn2⟩ : ∃ n : Nat, wrap64 ((IntKind.u64.wrap a).tmod 500) = (n : Int) ∧ n < 500 := ix_mod a 500 (by decide) (by decide)
  obtain ⟨q, hq1, hq2⟩ : ∃ q : Nat, wrap64 ((IntKind.u64.wrap b).tmod 100) = (q : Int) ∧ q < 100 := ix_mod b 100 (by decide) (by decide)
  obtain ⟨z, hz1, hz2, hz3, hz4, hz5, hz6⟩ := ix_bh n q hn2 hq2
  have HLG := Lib.hid (fun (W : World) => long_e 1 n W hz3)
  have HSP := Lib.hid (fun (W : World) (A : Option Addr) (c : Nat) (L : List UInt8) (hl : L.length = n) (h : In W W.heap.size A c L) => split_e A c n L (z : Int) W hl h hz4)
  have HZ := Lib.hid hz2
  have HR3 := Lib.hid hr
  have HN := Lib.hid hn2
  clear hr hn2 hq2 hz2 hz3 hz4
  go_enter Try.func5, Try.ntmps5
  go_upto_region 1 with (fail)
  have hB3 := Blk.new_of w 45 #[.int .u8 (b0.toNat : Int), .int .u8 (b1.toNat : Int), .int .u8 (b2.toNat : Int)] ([b0, b1, b2].map B8) rfl
  have hb0' : Below w.heap.size w (w.alloc (.cells #[.int .u8 (b0.toNat : Int), .int .u8 (b1.toNat : Int), .int .u8 (b2.toNat : Int)] 45)) := (Below.refl _ _).alloc (Nat.le_refl _) _
  obtain ⟨g5, hg5⟩ : ∃ g5, g5 = w.heap.size := ⟨_, rfl⟩
  rw [← hg5] at hB3
  simp only [← hg5]
  have HB3 := Lib.hid hB3
  have HBW := Lib.hid hb0'
  clear hg5 hB3 hb0'
  generalize (w.alloc (.cells #[.int .u8 (b0.toNat : Int), .int .u8 (b1.toNat : Int), .int .u8 (b2.toNat : Int)] 45)) = w1 at *
  go_upto_region 2 with (first
    | (go_at_call 9; refine (HLG.out _).mono ?_; rintro e w2 ⟨A2, c2, L, rfl, hB2, hb2⟩)
    | (go_at_call 10; refine (HSP.out w2 A2 c2 L hB2.1 (hB2.toIn (Nat.le_refl _))).mono ?_; rintro e w3 ⟨v, rfl, hR3, hb3⟩))
  obtain ⟨h0, h00, hrl⟩ := split_good L z HZ.out.1 (Nat.le_trans HZ.out.2 (by decide)) (by rw [hB2.1]; exact Nat.le_trans (Nat.le_of_lt HN.out) (by decide))
  have hfew : (splitE L (z : Int)).1.length ≤ 50000 := split_few (by rw [hB2.1]; exact Nat.le_trans (Nat.le_of_lt HN.out) (by decide))
  rw [h0]
  have HB13 := Lib.hid (hb2.trans (hb3.mono hb2.size))
  generalize (splitE L (z : Int)).1 = rs at *
  obtain ⟨gp, op, cp, rfl, hc1, hc2, hgp, hrow⟩ := hR3.row h00
  obtain ⟨ml, hml⟩ : ∃ ml, ml = rs.length := ⟨_, rfl⟩
  rw [← hml] at hc1 h00 hfew ⊢
  have HML := Lib.hid hml
  have HROW := Lib.hid hrow
  have HGP := Lib.hid hgp
  have HRL := Lib.hid hrl
  obtain ⟨hop, hgpb, _⟩ := rws_frozen hR3
  have HGPB := Lib.hid (And.intro hop (show w.heap.size ≤ gp from Nat.le_trans HBW.out.size (Nat.le_trans hb2.size hgpb)))
  have HRW := Lib.hid hR3
  have HFEW := Lib.hid hfew
  clear h0 hrow hgp hrl hR3 hB2 hb2 hb3 hml hfew hop hgpb hn1 hq1 hz1 hz5 hz6
  obtain ⟨k, hk⟩ : ∃ k, k = b0.toNat % ml := ⟨_, rfl⟩
  have hkl : k < ml := by rw [hk]; exact Nat.mod_lt _ h00
  have hkt : (b0.toNat : Int).tmod (ml : Int) = (k : Int) := by rw [hk, Int.tmod_eq_emod_of_nonneg (Int.natCast_nonneg _)]; rfl
  obtain ⟨hm0, hm0b⟩ := ix_pos h00
  have HKL := Lib.hid hkl
  clear hk hkl
  go_upto_region 4 with (go_at_call 12; refine (pieces_e _).mono ?_; rintro e w4 ⟨rfl, hb4⟩)
  have hB4 := (HB3.out.below HB13.out HB3.out.lt).below hb4 (Nat.lt_of_lt_of_le HB3.out.lt HB13.out.size)
  have hcc0 : w4.cell? ⟨g5, 0, none⟩ = some (.int .u8 (b0.toNat : Int)) := hB4.cell 0
  have hcc1 : w4.cell? ⟨g5, 1, none⟩ = some (.int .u8 (b1.toNat : Int)) := hB4.cell 1
  have HCC2 := Lib.hid (show w4.cell? ⟨g5, 2, none⟩ = some (.int .u8 (b2.toNat : Int)) from hB4.cell 2)
  have HG5 := Lib.hid hB4.lt
  have HB4 := Lib.hid hb4
  have HBWL := Lib.hid ((HBW.out.trans (HB13.out.mono HBW.out.size)).trans (hb4.mono (Nat.le_trans HBW.out.size HB13.out.size)))
  clear hb4 hB4
  have hr := HR3.out
  obtain ⟨hb0, hb0i⟩ := ix_byte b0
  go_upto_region 11 with (fail)
  clear hr
  have hkr : k < rs.length := by rw [← HML.out]; exact HKL.out
  obtain ⟨Ak, ck, hck0, hik0⟩ := HROW.out k hkr
  obtain ⟨hp0, hp4⟩ := HRL.out k hkr
  obtain ⟨p, hp⟩ : ∃ p, p = rs.getD k [] := ⟨_, rfl⟩
  rw [← hp] at hck0 hik0 hp0 hp4
  obtain ⟨pl, hpl⟩ : ∃ pl, pl = p.length := ⟨_, rfl⟩
  obtain ⟨gk, ok, hAk, hgk, hby⟩ := hik0.2.2 hp0
  have hcy0 := hby 0 hp0
  rw [← hpl] at hck0 hp0 hp4
  subst hAk
  obtain ⟨hk0, hkm, hp1, hpc, hc1i, hpd, hpl2, hplm, hmlc⟩ := ix_bx HKL.out hc1 hpl hp0 hp4 hik0.1
  obtain ⟨y, hy⟩ : ∃ y, y = p.getD 0 0 := ⟨_, rfl⟩
  rw [← hy] at hcy0
  obtain ⟨zb, hzb⟩ : ∃ zb, zb = y ^^^ b2 := ⟨_, rfl⟩
  have hxo : bits .xor .u8 (y.toNat : Int) (b2.toNat : Int) = (zb.toNat : Int) := by rw [hzb]; exact bx_xor y b2
  obtain ⟨o1, HO1⟩ := ix_cut ck 1 ok
  have HCK := Lib.hid (fun (W : World) (h : Below w4.heap.size w4 W) => (show W.cell? ⟨gp, op + k, none⟩ = some (.slice (some ⟨gk, ok, none⟩) pl ck) from ((HB4.out.trans (h.mono HB4.out.size)).cell (p := ⟨gp, op + k, none⟩) HGP.out).trans hck0))
  have HCY := Lib.hid (fun (W : World) (h : Below w4.heap.size w4 W) => (show W.cell? ⟨gk, ok, none⟩ = some (.int .u8 (y.toNat : Int)) from ((HB4.out.trans (h.mono HB4.out.size)).cell (p := ⟨gk, ok, none⟩) hgk).trans hcy0))
  have HCB := Lib.hid (fun (W : World) (h : Below w4.heap.size w4 W) => (show W.cell? ⟨g5, 2, none⟩ = some (.int .u8 (b2.toNat : Int)) from (h.cell (p := ⟨g5, 2, none⟩) HG5.out).trans HCC2.out))
  have HCF := Lib.hid (fun (W : World) (h : Below w4.heap.size w4 W) => (rws_frozen (HRW.out.below (HB4.out.trans (h.mono HB4.out.size)))).2.2)
  have HTL := Lib.hid (fun (W : World) (h : Below w4.heap.size w4 W) => (show _root_.Go.Src Try.prog 1 23 (.slice (some ⟨gk, o1, none⟩) (pl - 1) (ck - 1)) (p.drop 1).length ((p.drop 1).map B8) W from src_at ((in_up (in_weak ((in_cut hik0 (by rw [← hpl]; exact hp0) HO1.out).below HB4.out) HB4.out.size) h).src (Nat.le_refl _)) hpd))
  have HPL := Lib.hid (And.intro hpl2 (And.intro hplm (And.intro hp4 hkr)))
  clear hkr hck0 hik0 hp hpl hgk hby hcy0 hy hzb hpd hpl2 hplm hp4 hcc0 hcc1 hb0 hb0i hkt hm0 hm0b h00
  refine wp_region_noPanic ?_
  refine wp_region_but (S := fun W => Below w4.heap.size w4 W) 19 (by kernel_rfl) (by exact below_drewN (Below.refl _ _) 1) (fun hHeld => ?_)
  refine but_take (i := 0) (oi := ⟨_, _, _, _, _, _⟩) (v := ?_) rfl (by kernel_rfl) (by kernel_rfl) (by kernel_rfl) (by kernel_rfl) (fun _ _ _ h => h) (Or.inl ⟨by rfl, ?_⟩) hHeld ?_
  rotate_left 1
  · (intro W hSw; (try dsimp only at hSw); go_simp; try with_reducible rfl)
  try simp only [Act.put, List.setIfInBounds_toArray, List.set_cons_zero, List.set_cons_succ]
  refine but_take (i := 1) (oi := ⟨_, _, _, _, _, _⟩) (v := ?_) rfl (by kernel_rfl) (by kernel_rfl) (by kernel_rfl) (by kernel_rfl) (fun _ _ _ h => h) (Or.inl ⟨by rfl, ?_⟩) hHeld ?_
  rotate_left 1
  · (intro W hSw; (try dsimp only at hSw); go_simp; try with_reducible rfl)
  try simp only [Act.put, List.setIfInBounds_toArray, List.set_cons_zero, List.set_cons_succ]
  refine but_take (i := 2) (oi := ⟨_, _, _, _, _, _⟩) (v := ?_) rfl (by kernel_rfl) (by kernel_rfl) (by kernel_rfl) (by kernel_rfl) (fun _ _ _ h => h) (Or.inl ⟨by rfl, ?_⟩) hHeld ?_
  rotate_left 1
  · (intro W hSw; (try dsimp only at hSw); go_simp; try with_reducible rfl)
  try simp only [Act.put, List.setIfInBounds_toArray, List.set_cons_zero, List.set_cons_succ]
  refine but_take (i := 3) (oi := ⟨_, _, _, _, _, _⟩) (v := ?_) rfl (by kernel_rfl) (by kernel_rfl) (by kernel_rfl) (by kernel_rfl) (fun _ _ _ h => h) (Or.inl ⟨by rfl, ?_⟩) hHeld ?_
  rotate_left 1
  · (intro W hSw; (try dsimp only at hSw); go_simp; try with_reducible rfl)
  try simp only [Act.put, List.setIfInBounds_toArray, List.set_cons_zero, List.set_cons_succ]
  refine but_take (i := 4) (oi := ⟨_, _, _, _, _, _⟩) (v := ?_) rfl (by kernel_rfl) (by kernel_rfl) (by kernel_rfl) (by kernel_rfl) (fun _ _ _ h => h) (Or.inl ⟨by rfl, ?_⟩) hHeld ?_
  rotate_left 1
  · (intro W hSw; (try dsimp only at hSw); go_simp; try with_reducible rfl)
  try simp only [Act.put, List.setIfInBounds_toArray, List.set_cons_zero, List.set_cons_succ]
  refine but_take (i := 5) (oi := ⟨_, _, _, _, _, _⟩) (v := ?_) rfl (by kernel_rfl) (by kernel_rfl) (by kernel_rfl) (by kernel_rfl) (fun _ _ _ h => h) (Or.inl ⟨by rfl, ?_⟩) hHeld ?_
  rotate_left 1
  · (intro W hSw; (try dsimp only at hSw); have hcc := HCK.out W hSw; go_simp; try with_reducible rfl)
  try simp only [Act.put, List.setIfInBounds_toArray, List.set_cons_zero, List.set_cons_succ]
  refine but_take (i := 6) (oi := ⟨_, _, _, _, _, _⟩) (v := ?_) rfl (by kernel_rfl) (by kernel_rfl) (by kernel_rfl) (by kernel_rfl) (fun _ _ _ h => h) (Or.inl ⟨by rfl, ?_⟩) hHeld ?_
  rotate_left 1
  · (intro W hSw; (try dsimp only at hSw); go_simp; try with_reducible rfl)
  try simp only [Act.put, List.setIfInBounds_toArray, List.set_cons_zero, List.set_cons_succ]
  refine but_take (i := 7) (oi := ⟨_, _, _, _, _, _⟩) (v := ?_) rfl (by kernel_rfl) (by kernel_rfl) (by kernel_rfl) (by kernel_rfl) (fun _ _ _ h => h) (Or.inl ⟨by rfl, ?_⟩) hHeld ?_
  rotate_left 1
  · (intro W hSw; (try dsimp only at hSw); have hcc := HCY.out W hSw; go_simp; try with_reducible rfl)
  try simp only [Act.put, List.setIfInBounds_toArray, List.set_cons_zero, List.set_cons_succ]
  refine but_take (i := 8) (oi := ⟨_, _, _, _, _, _⟩) (v := ?_) rfl (by kernel_rfl) (by kernel_rfl) (by kernel_rfl) (by kernel_rfl) (fun _ _ _ h => h) (Or.inl ⟨by rfl, ?_⟩) hHeld ?_
  rotate_left 1
  · (intro W hSw; (try dsimp only at hSw); go_simp; try with_reducible rfl)
  try simp only [Act.put, List.setIfInBounds_toArray, List.set_cons_zero, List.set_cons_succ]
  refine but_take (i := 9) (oi := ⟨_, _, _, _, _, _⟩) (v := ?_) rfl (by kernel_rfl) (by kernel_rfl) (by kernel_rfl) (by kernel_rfl) (fun _ _ _ h => h) (Or.inl ⟨by rfl, ?_⟩) hHeld ?_
  rotate_left 1
  · (intro W hSw; (try dsimp only at hSw); have hcc := HCB.out W hSw; go_simp; try with_reducible rfl)
  try simp only [Act.put, List.setIfInBounds_toArray, List.set_cons_zero, List.set_cons_succ]
  refine but_take (i := 10) (oi := ⟨_, _, _, _, _, _⟩) (v := ?_) rfl (by kernel_rfl) (by kernel_rfl) (by kernel_rfl) (by kernel_rfl) (fun _ _ _ h => h) (Or.inl ⟨by rfl, ?_⟩) hHeld ?_
  rotate_left 1
  · (intro W hSw; (try dsimp only at hSw); go_simp; try with_reducible rfl)
  try simp only [Act.put, List.setIfInBounds_toArray, List.set_cons_zero, List.set_cons_succ]
  refine but_take (i := 12) (oi := ⟨_, _, _, _, _, _⟩) (v := ?_) rfl (by kernel_rfl) (by kernel_rfl) (by kernel_rfl) (by kernel_rfl) (fun _ _ _ h => h) (Or.inl ⟨by rfl, ?_⟩) hHeld ?_
  rotate_left 1
  · (intro W hSw; (try dsimp only at hSw); go_simp; try with_reducible rfl)
  try simp only [Act.put, List.setIfInBounds_toArray, List.set_cons_zero, List.set_cons_succ]
  refine but_take (i := 13) (oi := ⟨_, _, _, _, _, _⟩) (v := ?_) rfl (by kernel_rfl) (by kernel_rfl) (by kernel_rfl) (by kernel_rfl) (fun _ _ _ h => h) (Or.inl ⟨by rfl, ?_⟩) hHeld ?_
  rotate_left 1
  · (intro W hSw; (try dsimp only at hSw); go_simp; try with_reducible rfl)
  try simp only [Act.put, List.setIfInBounds_toArray, List.set_cons_zero, List.set_cons_succ]
  refine but_take (i := 14) (oi := ⟨_, _, _, _, _, _⟩) (v := ?_) rfl (by kernel_rfl) (by kernel_rfl) (by kernel_rfl) (by kernel_rfl) (fun _ _ _ h => h) (Or.inl ⟨by rfl, ?_⟩) hHeld ?_
  rotate_left 1
  · (intro W hSw; (try dsimp only at hSw); go_simp; try with_reducible rfl)
  try simp only [Act.put, List.setIfInBounds_toArray, List.set_cons_zero, List.set_cons_succ]
  refine but_take (i := 15) (oi := ⟨_, _, _, _, _, _⟩) (v := ?_) rfl (by kernel_rfl) (by kernel_rfl) (by kernel_rfl) (by kernel_rfl) (fun _ _ _ h => h) (Or.inl ⟨by rfl, ?_⟩) hHeld ?_
  rotate_left 1
  · (intro W hSw; (try dsimp only at hSw); have hcc := HCK.out W hSw; go_simp; try with_reducible rfl)
  try simp only [Act.put, List.setIfInBounds_toArray, List.set_cons_zero, List.set_cons_succ]
  refine but_take (i := 16) (oi := ⟨_, _, _, _, _, _⟩) (v := .slice (some ⟨gk, o1, none⟩) (pl - 1) (ck - 1)) rfl (by kernel_rfl) (by kernel_rfl) (by kernel_rfl) (by kernel_rfl) (fun _ _ _ h => h) (Or.inl ⟨by rfl, ?_⟩) hHeld ?_
  · (intro W hSw; rcases HO1.out with ⟨hcx, hox⟩ | ⟨hcx, hox⟩ <;> subst hox <;> first | (subst hcx; go_simp; done) | go_simp)
  try simp only [Act.put, List.setIfInBounds_toArray, List.set_cons_zero, List.set_cons_succ]
  replace hHeld : Below w4.heap.size w4 w4.drew := hHeld
  generalize w4.drew = wd at *
  refine but_ready (i := 11) (o := ⟨_, _, _, _, _, _⟩) (by kernel_rfl) rfl (fun K hK => ?_)
  go_simp
  have hz := hHeld.size
  refine hK.out _ _ (hHeld.alloc hz _) (fun hHeld => ?_)
  clear hK K
  replace hHeld : Below w4.heap.size w4 (wd.alloc (.cells #[.int .u8 (zb.toNat : Int)] 5)) := hHeld
  have HB0 := Lib.hid (And.intro (show Buf (wd.alloc (.cells #[.int .u8 (zb.toNat : Int)] 5)) wd.heap.size (some ⟨wd.heap.size, 0, none⟩) 1 1 [zb] from buf_lit wd [zb] 1 5 rfl (by decide)) (And.intro (show wd.heap.size ≤ (wd.alloc (.cells #[.int .u8 (zb.toNat : Int)] 5)).heap.size by simp) hz))
  generalize wd.alloc (.cells #[.int .u8 (zb.toNat : Int)] 5) = wa at *
  generalize wd.heap.size = g0 at *
  clear hz
  try simp only [Act.put, List.setIfInBounds_toArray, List.set_cons_zero, List.set_cons_succ]
  refine but_ready (i := 17) (o := ⟨_, _, _, _, _, _⟩) (by kernel_rfl) rfl (fun K hK => ?_)
  refine step_append_far (by rfl) (.tmp 85) (.tmp 90) 23 rfl g0 _ 1 1 [zb] (p.drop 1) _ rfl HB0.out.1 rfl (HTL.out _ hHeld) HPL.out.2.1 HB0.out.2.1 pl HPL.out.1 ?_
  intro A1 c1 wc hB1 hg1 _
  refine hK.out _ _ (below_own hHeld HB0.out.1 hg1 HB0.out.2.2 hHeld.size) (fun hHeld => ?_)
  clear hK K hg1
  replace hHeld : Below w4.heap.size w4 wc := hHeld
  try simp only [Act.put, List.setIfInBounds_toArray, List.set_cons_zero, List.set_cons_succ]
  refine but_take (i := 18) (oi := ⟨_, _, _, _, _, _⟩) (v := ?_) rfl (by kernel_rfl) (by kernel_rfl) (by kernel_rfl) (by kernel_rfl) (fun _ _ _ h => h) (Or.inl ⟨by rfl, ?_⟩) hHeld ?_
  rotate_left 1
  · (intro W hSw; (try dsimp only at hSw); go_simp; try with_reducible rfl)
  try simp only [Act.put, List.setIfInBounds_toArray, List.set_cons_zero, List.set_cons_succ]
  refine but_last (o := ⟨_, _, _, _, _, _⟩) (by kernel_rfl) rfl (by kernel_rfl) (fun K hK => ?_)
  have hcc := HCK.out wc hHeld
  have hff : wc.frozen? ⟨gp, op + k, none⟩ = false := HCF.out wc hHeld (op + k)
  go_simp
  refine hK.out _ _ ?_
  clear hK K
  refine NoPanic.normal ?_
  obtain ⟨A9, c9, hve, hP, _⟩ := (HRW.out.below (HB4.out.trans (hHeld.mono HB4.out.size))).slice
  injection hve with e1 _ e3
  subst e1 e3
  have hqi := hB1.toIn (Nat.le_refl _)
  obtain ⟨q, hq⟩ : ∃ q, q = [zb] ++ p.drop 1 := ⟨_, rfl⟩
  rw [← hq] at hqi
  have hql : q.length = pl := by rw [hq]; exact hB1.1
  have hP2 := pin_set hP HPL.out.2.2.2 hcc hqi
  rw [hql] at hP2
  obtain ⟨ps, hps⟩ : ∃ ps, ps = rs.set k q := ⟨_, rfl⟩
  have HPM := Lib.hid (show ∀ j, j < ps.length → (ps.getD j []).length ≤ 4000 by rw [hps]; exact most_set HRL.out (by rw [hql]; exact HPL.out.2.2.1))
  have hmm : ml = ps.length := by rw [hps, List.length_set]; exact HML.out
  rw [← hps] at hP2
  obtain ⟨wL, hwL⟩ : ∃ wL, wL = wc.setCell ⟨gp, op + k, none⟩ (.slice A1 pl c1) := ⟨_, rfl⟩
  replace HBWL := Lib.hid (show Below w.heap.size w wL by rw [hwL]; exact (HBWL.out.trans (hHeld.mono HBWL.out.size)).setCell HGPB.out.2 _)
  have hP3 : PIn wL wL.heap.size (some ⟨gp, op, none⟩) cp ps := by rw [hwL, show (wc.setCell ⟨gp, op + k, none⟩ (.slice A1 pl c1)).heap.size = wc.heap.size by simp]; exact hP2
  rw [← hwL]
  obtain ⟨A, hAA⟩ : ∃ A, A = (some ⟨gp, op, none⟩ : Option Addr) := ⟨_, rfl⟩
  rw [← hAA] at hP3 ⊢
  have HP := Lib.hid hP3
  obtain ⟨m, hm⟩ : ∃ m, m = ml := ⟨_, rfl⟩
  obtain ⟨c, hc⟩ : ∃ c, c = cp := ⟨_, rfl⟩
  rw [← hm] at hmm hmlc ⊢
  rw [← hc] at HP hmlc ⊢
  have HM := Lib.hid hmm
  have hmc1 := hmlc
  clear hqi hq hql hP2 hps hmm hP hwL hP3 hAA hm hc hcc hff hB1 hHeld hmlc hk0 hkm hp1 hpc hc1i hxo HRW HROW HCK HCY HCB HCF HTL
  have HMX := Lib.hid (show m ≤ 9223372036854775807 from Nat.le_trans (by rw [HM.out]; exact HP.out.1) HP.out.2.1)
  go_upto_region 13 with (go_at_call 13; refine (new_e _).mono ?_; rintro e w5 ⟨rfl, hJ, hb5, -⟩)
  obtain ⟨gJ, hgJe⟩ : ∃ gJ, gJ = wL.heap.size := ⟨_, rfl⟩
  have hR0 : RJoin (w5.alloc (.cells #[.bool false, .int .i64 0, .string ⟨#[]⟩] 41)) w5.heap.size [] 0 := Blk.new_of w5 _ _ _ rfl
  have hal : Below w5.heap.size w5 (w5.alloc (.cells #[.bool false, .int .i64 0, .string ⟨#[]⟩] 41)) := (Below.refl _ _).alloc (Nat.le_refl _) _
  have HBL := Lib.hid (hb5.trans (hal.mono hb5.size))
  have hJ0 := hJ.below hal
  have hgl := hJ.1.lt
  rw [← hgJe] at hJ0 hgl
  simp only [← hgJe]
  have hgJ := Lib.hid hgl
  have HGJ := Lib.hid hgJe
  have HJ0 := Lib.hid hJ0
  have HR0 := Lib.hid hR0
  clear hJ hR0 hal hb5 hJ0 hgl hgJe
  generalize w5.alloc (.cells #[.bool false, .int .i64 0, .string ⟨#[]⟩] 41) = w6 at *
  generalize w5.heap.size = gM at *
  go_wp2
  go_loopw [12] (fun i wr => ∃ (k : Nat) (F : List UInt8) (C : Nat) (Aj : Option Addr) (cj : Nat), k ≤ m ∧ i = .int .i64 (k : Int) ∧ JoinAt wr gJ gJ Aj cj F C ∧ RJoin wr gM F C ∧ Fine F C ∧ ¬ Ours gJ Aj gM ∧ Below wL.heap.size wL wr) (fun i _ => m - (intOf i).toNat)
  case atStart => exact ⟨0, [], 0, none, 0, Nat.zero_le _, rfl, HJ0.out, HR0.out, fine_nil, (fun h => h.elim (fun h => by have := hgJ.out; omega) (fun h => by cases h)), HBL.out⟩
  case round =>
    obtain ⟨kk, F, C, Aj, cj, hk, rfl, hJ, hR, hF, hNO, hbr⟩ := hrel
    by_cases hlt : kk < m
    · have hd : decide (kk < m) = true := by simpa using hlt
      have hkp : kk < ps.length := by rw [← HM.out]; exact hlt
      obtain ⟨gp2, op2, hAe, hgp, hrow⟩ := HP.out.2.2 (Nat.lt_of_le_of_lt (Nat.zero_le _) hkp)
      obtain ⟨Ak, ck, hck, hik⟩ := hrow kk hkp
      have hp4 := HPM.out kk hkp
      generalize ps.getD kk [] = p at *
      obtain ⟨pl, hpl⟩ : ∃ pl, pl = p.length := ⟨_, rfl⟩
      rw [← hpl] at hck hp4
      have hck2 : wr.cell? ⟨gp2, op2 + kk, none⟩ = some (.slice Ak pl ck) := (hbr.cell (p := ⟨gp2, op2 + kk, none⟩) hgp).trans hck
      have hik2 := in_weak (hik.below hbr) hbr.size
      have hk0 : (0 : Int) ≤ (kk : Int) := Int.natCast_nonneg kk
      have hkm : (kk : Int) < (m : Int) := Int.ofNat_lt.2 hlt
      have hRlt := hR.lt
      have HTE := Lib.hid (take_e gJ gJ Aj Ak cj ck pl C F p wr hJ hpl.symm hik2 (by have := hF.1; omega) (by omega) (Nat.le_of_lt hJ.1.lt))
      have HTO := Lib.hid (fun (h : (takeE F C p).2.1 = true) => rtold_true h)
      have HNI := Lib.hid (fun (h : (takeE F C p).2.1 = false) => take_none h)
      have HFN := Lib.hid (fine_take F C p)
      have HRT := Lib.hid (fun (W : World) (h : RJoin W gM F C) => rTake_e gM F p C pl W h hpl.symm (by omega) hF)
      obtain ⟨E, hE⟩ : ∃ E, E = takeE F C p := ⟨_, rfl⟩
      rw [← hE] at HTE HTO HNI HFN HRT
      obtain ⟨rt, hrt⟩ : ∃ rt, rt = rtold E := ⟨_, rfl⟩
      rw [← hrt] at HTO HRT
      clear hE hrt
      obtain ⟨E1, d, er, F2, C2⟩ := E
      simp only at HTE HTO HNI HFN HRT
      have HJ := Lib.hid hJ
      have HR := Lib.hid hR
      have HNO := Lib.hid hNO
      have HBR := Lib.hid hbr
      have HLT := Lib.hid (show kk + 1 ≤ m from hlt)
      have HRL := Lib.hid hRlt
      have HCK := Lib.hid (And.intro hgp (And.intro hck (And.intro hik hpl.symm)))
      subst hAe
      clear hJ hR hF hNO hbr hrow hgp hkp hpl hlt hk hik hik2 hck hp4 hRlt
      go_upto_region 17 with (go_at_call 14; refine HTE.out.mono ?_; rintro e w3 ⟨A8, n8, c8, A', c', rfl, hX, hF8, hN8, hJ3, hF3, hC3⟩)
      have hR3 : RJoin w3 gM F C := HR.out.chg hC3 HNO.out
      have HBR3 := Lib.hid (HBR.out.trans (hC3.below HBR.out.size (fun x h => by have := (HJ.out.ours h).1; have := HGJ.out; omega)))
      have hNO8 : ¬ Ours gJ A8 gM := ours_step HNO.out HRL.out hF8
      have HNO2 := Lib.hid (show ¬ Ours gJ A' gM from ours_step HNO.out HRL.out hF3)
      have HRT3 := Lib.hid (HRT.out w3 hR3)
      have HX3 := Lib.hid (And.intro hX (fun (x : Nat) (e : A8 = some ⟨x, 0, none⟩) => show ¬ x = gM from fun h => hNO8 (.inr (by rw [e]; subst h; rfl))))
      have HJ3 := Lib.hid hJ3
      have HXL := Lib.hid hX.1
      have hck3 : w3.cell? ⟨gp2, op2 + kk, none⟩ = some (.slice Ak pl ck) := (HBR3.out.cell (p := ⟨gp2, op2 + kk, none⟩) HCK.out.1).trans HCK.out.2.1
      have hcx3 := conv_in HCK.out.2.2.2 (in_weak (HCK.out.2.2.1.below HBR3.out) HBR3.out.size)
      clear hX hF8 hN8 hJ3 hF3 hC3 hR3 hNO8 hck2 HTE HRT HJ HR HNO HBR HCK
      go_upto_region 18 with (go_at_call 17; refine HRT3.out.mono ?_; rintro e w7 ⟨rfl, hR4, hC4⟩)
      have HX := Lib.hid (HX3.out.1.chg hC4 HX3.out.2)
      have HJN := Lib.hid (HJ3.out.chg hC4 (fun x h1 h2 => HNO2.out (by rw [← h2]; exact h1)))
      have HRN := Lib.hid hR4
      have HCS := Lib.hid (fun (W : World) (h : Below w7.heap.size w7 W) => (show W.cell? ⟨gM, 2, none⟩ = some (.string ⟨F2.toArray⟩) from (HRN.out.below h HRN.out.lt).cell 2))
      have HWT := Lib.hid (fun (W : World) (h : Below w7.heap.size w7 W) => waits_e gJ gJ c' C2 A' F2 W (HJN.out.below h))
      have HBR4 := Lib.hid (HBR3.out.trans (hC4.below HBR3.out.size (fun x h => by have := hgJ.out; have := HGJ.out; omega)))
      clear hR4 hC4 HX3 HJ3 HRT3 HBR3 hck3 hcx3 hk0 hkm
      cases d
      · skip
        have hn8 : n8 = 0 := by rw [← HXL.out, HNI.out rfl]; rfl
        subst hn8
        refine wp_region_noPanic ?_
        refine wp_region_held_drew (S := fun W => Below w7.heap.size w7 W) (by kernel_rfl) (by exact below_drewN (Below.refl _ _) 1) (fun hHeld => ?_)
        refine wpAnyH_take (i := 0) (oi := ⟨_, _, _, _, _, _⟩) (v := ?_) rfl (by kernel_rfl) (by kernel_rfl) (by kernel_rfl) (fun _ _ _ h => h) (Or.inl ⟨by rfl, ?_⟩) hHeld ?_
        rotate_left 1
        · (intro W hSw; (try dsimp only at hSw); go_simp; try with_reducible rfl)
        try simp only [Act.put, List.setIfInBounds_toArray, List.set_cons_zero, List.set_cons_succ]
        refine wpAnyH_take (i := 1) (oi := ⟨_, _, _, _, _, _⟩) (v := ?_) rfl (by kernel_rfl) (by kernel_rfl) (by kernel_rfl) (fun _ _ _ h => h) (Or.inl ⟨by rfl, ?_⟩) hHeld ?_
        rotate_left 1
        · (intro W hSw; (try dsimp only at hSw); go_simp; try with_reducible rfl)
        try simp only [Act.put, List.setIfInBounds_toArray, List.set_cons_zero, List.set_cons_succ]
        refine wpAnyH_take (i := 2) (oi := ⟨_, _, _, _, _, _⟩) (v := ?_) rfl (by kernel_rfl) (by kernel_rfl) (by kernel_rfl) (fun _ _ _ h => h) (Or.inl ⟨by rfl, ?_⟩) hHeld ?_
        rotate_left 1
        · (intro W hSw; (try dsimp only at hSw); go_simp; try with_reducible rfl)
        try simp only [Act.put, List.setIfInBounds_toArray, List.set_cons_zero, List.set_cons_succ]
        refine wpAnyH_take (i := 3) (oi := ⟨_, _, _, _, _, _⟩) (v := ?_) rfl (by kernel_rfl) (by kernel_rfl) (by kernel_rfl) (fun _ _ _ h => h) (Or.inl ⟨by rfl, ?_⟩) hHeld ?_
        rotate_left 1
        · (intro W hSw; (try dsimp only at hSw); go_simp; try with_reducible rfl)
        try simp only [Act.put, List.setIfInBounds_toArray, List.set_cons_zero, List.set_cons_succ]
        refine wpAnyH_take (i := 4) (oi := ⟨_, _, _, _, _, _⟩) (v := ?_) rfl (by kernel_rfl) (by kernel_rfl) (by kernel_rfl) (fun _ _ _ h => h) (Or.inl ⟨by rfl, ?_⟩) hHeld ?_
        rotate_left 1
        · (intro W hSw; (try dsimp only at hSw); go_simp; try with_reducible rfl)
        try simp only [Act.put, List.setIfInBounds_toArray, List.set_cons_zero, List.set_cons_succ]
        refine wpAnyH_take (i := 5) (oi := ⟨_, _, _, _, _, _⟩) (v := ?_) rfl (by kernel_rfl) (by kernel_rfl) (by kernel_rfl) (fun _ _ _ h => h) (Or.inl ⟨by rfl, ?_⟩) hHeld ?_
        rotate_left 1
        · (intro W hSw; (try dsimp only at hSw); go_simp; try with_reducible rfl)
        try simp only [Act.put, List.setIfInBounds_toArray, List.set_cons_zero, List.set_cons_succ]
        refine wpAnyH_take (i := 6) (oi := ⟨_, _, _, _, _, _⟩) (v := ?_) rfl (by kernel_rfl) (by kernel_rfl) (by kernel_rfl) (fun _ _ _ h => h) (Or.inl ⟨by rfl, ?_⟩) hHeld ?_
        rotate_left 1
        · (intro W hSw; (try dsimp only at hSw); go_simp; try with_reducible rfl)
        try simp only [Act.put, List.setIfInBounds_toArray, List.set_cons_zero, List.set_cons_succ]
        refine wpAnyH_take (i := 7) (oi := ⟨_, _, _, _, _, _⟩) (v := ?_) rfl (by kernel_rfl) (by kernel_rfl) (by kernel_rfl) (fun _ _ _ h => h) (Or.inl ⟨by rfl, ?_⟩) hHeld ?_
        rotate_left 1
        · (intro W hSw; (try dsimp only at hSw); go_simp; try with_reducible rfl)
        try simp only [Act.put, List.setIfInBounds_toArray, List.set_cons_zero, List.set_cons_succ]
        refine wpAnyH_take (i := 8) (oi := ⟨_, _, _, _, _, _⟩) (v := ?_) rfl (by kernel_rfl) (by kernel_rfl) (by kernel_rfl) (fun _ _ _ h => h) (Or.inl ⟨by rfl, ?_⟩) hHeld ?_
        rotate_left 1
        · (intro W hSw; (try dsimp only at hSw); go_simp; try with_reducible rfl)
        try simp only [Act.put, List.setIfInBounds_toArray, List.set_cons_zero, List.set_cons_succ]
        refine wpAnyH_take (i := 9) (oi := ⟨_, _, _, _, _, _⟩) (v := ?_) rfl (by kernel_rfl) (by kernel_rfl) (by kernel_rfl) (fun _ _ _ h => h) (Or.inl ⟨by rfl, ?_⟩) hHeld ?_
        rotate_left 1
        · (intro W hSw; (try dsimp only at hSw); go_simp; try with_reducible rfl)
        try simp only [Act.put, List.setIfInBounds_toArray, List.set_cons_zero, List.set_cons_succ]
        refine wpAnyH_take (i := 10) (oi := ⟨_, _, _, _, _, _⟩) (v := ?_) rfl (by kernel_rfl) (by kernel_rfl) (by kernel_rfl) (fun _ _ _ h => h) (Or.inl ⟨by rfl, ?_⟩) hHeld ?_
        rotate_left 1
        · (intro W hSw; (try dsimp only at hSw); go_simp; try with_reducible rfl)
        try simp only [Act.put, List.setIfInBounds_toArray, List.set_cons_zero, List.set_cons_succ]
        refine wpAnyH_take (i := 11) (oi := ⟨_, _, _, _, _, _⟩) (v := undef) rfl (by kernel_rfl) (by kernel_rfl) (by kernel_rfl) (fun _ _ _ h => h) (Or.inr ⟨by rfl, rfl⟩) hHeld ?_
        try simp only [Act.put, List.setIfInBounds_toArray, List.set_cons_zero, List.set_cons_succ]
        refine wpAnyH_take (i := 12) (oi := ⟨_, _, _, _, _, _⟩) (v := undef) rfl (by kernel_rfl) (by kernel_rfl) (by kernel_rfl) (fun _ _ _ h => h) (Or.inr ⟨by rfl, rfl⟩) hHeld ?_
        try simp only [Act.put, List.setIfInBounds_toArray, List.set_cons_zero, List.set_cons_succ]
        refine wpAnyH_take (i := 13) (oi := ⟨_, _, _, _, _, _⟩) (v := undef) rfl (by kernel_rfl) (by kernel_rfl) (by kernel_rfl) (fun _ _ _ h => h) (Or.inr ⟨by rfl, rfl⟩) hHeld ?_
        try simp only [Act.put, List.setIfInBounds_toArray, List.set_cons_zero, List.set_cons_succ]
        refine wpAnyH_take (i := 14) (oi := ⟨_, _, _, _, _, _⟩) (v := undef) rfl (by kernel_rfl) (by kernel_rfl) (by kernel_rfl) (fun _ _ _ h => h) (Or.inr ⟨by rfl, rfl⟩) hHeld ?_
        try simp only [Act.put, List.setIfInBounds_toArray, List.set_cons_zero, List.set_cons_succ]
        refine wpAnyH_take (i := 15) (oi := ⟨_, _, _, _, _, _⟩) (v := ?_) rfl (by kernel_rfl) (by kernel_rfl) (by kernel_rfl) (fun _ _ _ h => h) (Or.inl ⟨by rfl, ?_⟩) hHeld ?_
        rotate_left 1
        · (intro W hSw; (try dsimp only at hSw); go_simp; try with_reducible rfl)
        try simp only [Act.put, List.setIfInBounds_toArray, List.set_cons_zero, List.set_cons_succ]
        refine wpAnyH_take (i := 16) (oi := ⟨_, _, _, _, _, _⟩) (v := ?_) rfl (by kernel_rfl) (by kernel_rfl) (by kernel_rfl) (fun _ _ _ h => h) (Or.inl ⟨by rfl, ?_⟩) hHeld ?_
        rotate_left 1
        · (intro W hSw; (try dsimp only at hSw); go_simp; try with_reducible rfl)
        try simp only [Act.put, List.setIfInBounds_toArray, List.set_cons_zero, List.set_cons_succ]
        refine wpAnyH_take (i := 17) (oi := ⟨_, _, _, _, _, _⟩) (v := ?_) rfl (by kernel_rfl) (by kernel_rfl) (by kernel_rfl) (fun _ _ _ h => h) (Or.inl ⟨by rfl, ?_⟩) hHeld ?_
        rotate_left 1
        · (intro W hSw; (try dsimp only at hSw); go_simp; try with_reducible rfl)
        try simp only [Act.put, List.setIfInBounds_toArray, List.set_cons_zero, List.set_cons_succ]
        refine wpAnyH_take (i := 18) (oi := ⟨_, _, _, _, _, _⟩) (v := ?_) rfl (by kernel_rfl) (by kernel_rfl) (by kernel_rfl) (fun _ _ _ h => h) (Or.inl ⟨by rfl, ?_⟩) hHeld ?_
        rotate_left 1
        · (intro W hSw; (try dsimp only at hSw); go_simp; try with_reducible rfl)
        try simp only [Act.put, List.setIfInBounds_toArray, List.set_cons_zero, List.set_cons_succ]
        refine wpAnyH_take (i := 20) (oi := ⟨_, _, _, _, _, _⟩) (v := ?_) rfl (by kernel_rfl) (by kernel_rfl) (by kernel_rfl) (fun _ _ _ h => h) (Or.inl ⟨by rfl, ?_⟩) hHeld ?_
        rotate_left 1
        · (intro W hSw; (try dsimp only at hSw); go_simp; try with_reducible rfl)
        try simp only [Act.put, List.setIfInBounds_toArray, List.set_cons_zero, List.set_cons_succ]
        refine wpAnyH_take (i := 21) (oi := ⟨_, _, _, _, _, _⟩) (v := ?_) rfl (by kernel_rfl) (by kernel_rfl) (by kernel_rfl) (fun _ _ _ h => h) (Or.inl ⟨by rfl, ?_⟩) hHeld ?_
        rotate_left 1
        · (intro W hSw; (try dsimp only at hSw); go_simp; try with_reducible rfl)
        try simp only [Act.put, List.setIfInBounds_toArray, List.set_cons_zero, List.set_cons_succ]
        refine wpAnyH_take (i := 22) (oi := ⟨_, _, _, _, _, _⟩) (v := ?_) rfl (by kernel_rfl) (by kernel_rfl) (by kernel_rfl) (fun _ _ _ h => h) (Or.inl ⟨by rfl, ?_⟩) hHeld ?_
        rotate_left 1
        · (intro W hSw; (try dsimp only at hSw); go_simp; try with_reducible rfl)
        try simp only [Act.put, List.setIfInBounds_toArray, List.set_cons_zero, List.set_cons_succ]
        refine wpAnyH_take (i := 23) (oi := ⟨_, _, _, _, _, _⟩) (v := ?_) rfl (by kernel_rfl) (by kernel_rfl) (by kernel_rfl) (fun _ _ _ h => h) (Or.inl ⟨by rfl, ?_⟩) hHeld ?_
        rotate_left 1
        · (intro W hSw; (try dsimp only at hSw); have hcc := HCS.out W hSw; go_simp; try with_reducible rfl)
        try simp only [Act.put, List.setIfInBounds_toArray, List.set_cons_zero, List.set_cons_succ]
        refine wpAnyH_take (i := 24) (oi := ⟨_, _, _, _, _, _⟩) (v := ?_) rfl (by kernel_rfl) (by kernel_rfl) (by kernel_rfl) (fun _ _ _ h => h) (Or.inl ⟨by rfl, ?_⟩) hHeld ?_
        rotate_left 1
        · (intro W hSw; (try dsimp only at hSw); go_simp; try with_reducible rfl)
        try simp only [Act.put, List.setIfInBounds_toArray, List.set_cons_zero, List.set_cons_succ]
        replace hHeld : Below w7.heap.size w7 w7.drew := hHeld
        refine wpAnyH_ready (rs := [19]) (by kernel_rfl) (by simp) ?_
        refine AllReadyH.cons (o := ⟨_, _, _, _, _, _⟩) rfl (fun K hK => ?_) AllReadyH.nil
        go_simp
        go_at_call 15
        refine (HWT.out _ hHeld).mono ?_
        rintro e w9 ⟨rfl, hww⟩
        have hww2 := hww.symm
        subst hww2
        try go_wp2_with fail
        refine hK.out _ _ hHeld (fun hHeld => ?_)
        clear hK K hww
        try simp only [Act.put, List.setIfInBounds_toArray, List.set_cons_zero, List.set_cons_succ]
        refine wpAnyH_take (i := 25) (oi := ⟨_, _, _, _, _, _⟩) (v := ?_) rfl (by kernel_rfl) (by kernel_rfl) (by kernel_rfl) (fun _ _ _ h => h) (Or.inl ⟨by rfl, ?_⟩) hHeld ?_
        rotate_left 1
        · (intro W hSw; (try dsimp only at hSw); go_simp; try with_reducible rfl)
        try simp only [Act.put, List.setIfInBounds_toArray, List.set_cons_zero, List.set_cons_succ]
        refine wpAnyH_take (i := 26) (oi := ⟨_, _, _, _, _, _⟩) (v := ?_) rfl (by kernel_rfl) (by kernel_rfl) (by kernel_rfl) (fun _ _ _ h => h) (Or.inl ⟨by rfl, ?_⟩) hHeld ?_
        rotate_left 1
        · (intro W hSw; (try dsimp only at hSw); go_simp; try with_reducible rfl)
        try simp only [Act.put, List.setIfInBounds_toArray, List.set_cons_zero, List.set_cons_succ]
        refine wpAnyH_done (by kernel_rfl) ?_ _
        refine NoPanic.normal ?_
        replace hHeld : Below w7.heap.size w7 w7.drew := hHeld
        have HFIN := Lib.hid (And.intro (HJN.out.below hHeld) (And.intro (show RJoin w7.drew gM F2 C2 from HRN.out.below hHeld HRN.out.lt) (HBR4.out.trans (hHeld.mono HBR4.out.size))))
        have hk9 : kk + 1 ≤ m := HLT.out
        clear hHeld HX HJN HRN HCS HWT HBR4
        go_wp2
        go_roundw
        case rel => exact ⟨kk + 1, F2, C2, A', c', hk9, by rw [ix_kw hk9 HMX.out], HFIN.out.1, HFIN.out.2.1, HFN.out, HNO2.out, HFIN.out.2.2⟩
        case measure => exact ix_meas hk9 HMX.out
      · skip
        have hto : rt = E1 := (HTO.out rfl)
        subst hto
        have HCX := Lib.hid (fun (W : World) (h : Below w7.heap.size w7 W) => conv_in HXL.out (in_up (HX.out.toIn (Nat.le_refl _)) h))
        refine wp_region_noPanic ?_
        refine wp_region_held_drew (S := fun W => Below w7.heap.size w7 W) (by kernel_rfl) (by exact below_drewN (Below.refl _ _) 1) (fun hHeld => ?_)
        refine wpAnyH_take (i := 0) (oi := ⟨_, _, _, _, _, _⟩) (v := ?_) rfl (by kernel_rfl) (by kernel_rfl) (by kernel_rfl) (fun _ _ _ h => h) (Or.inl ⟨by rfl, ?_⟩) hHeld ?_
        rotate_left 1
        · (intro W hSw; (try dsimp only at hSw); go_simp; try with_reducible rfl)
        try simp only [Act.put, List.setIfInBounds_toArray, List.set_cons_zero, List.set_cons_succ]
        refine wpAnyH_take (i := 1) (oi := ⟨_, _, _, _, _, _⟩) (v := ?_) rfl (by kernel_rfl) (by kernel_rfl) (by kernel_rfl) (fun _ _ _ h => h) (Or.inl ⟨by rfl, ?_⟩) hHeld ?_
        rotate_left 1
        · (intro W hSw; (try dsimp only at hSw); go_simp; try with_reducible rfl)
        try simp only [Act.put, List.setIfInBounds_toArray, List.set_cons_zero, List.set_cons_succ]
        refine wpAnyH_take (i := 2) (oi := ⟨_, _, _, _, _, _⟩) (v := ?_) rfl (by kernel_rfl) (by kernel_rfl) (by kernel_rfl) (fun _ _ _ h => h) (Or.inl ⟨by rfl, ?_⟩) hHeld ?_
        rotate_left 1
        · (intro W hSw; (try dsimp only at hSw); go_simp; try with_reducible rfl)
        try simp only [Act.put, List.setIfInBounds_toArray, List.set_cons_zero, List.set_cons_succ]
        refine wpAnyH_take (i := 3) (oi := ⟨_, _, _, _, _, _⟩) (v := ?_) rfl (by kernel_rfl) (by kernel_rfl) (by kernel_rfl) (fun _ _ _ h => h) (Or.inl ⟨by rfl, ?_⟩) hHeld ?_
        rotate_left 1
        · (intro W hSw; (try dsimp only at hSw); go_simp; try with_reducible rfl)
        try simp only [Act.put, List.setIfInBounds_toArray, List.set_cons_zero, List.set_cons_succ]
        refine wpAnyH_take (i := 4) (oi := ⟨_, _, _, _, _, _⟩) (v := ?_) rfl (by kernel_rfl) (by kernel_rfl) (by kernel_rfl) (fun _ _ _ h => h) (Or.inl ⟨by rfl, ?_⟩) hHeld ?_
        rotate_left 1
        · (intro W hSw; (try dsimp only at hSw); go_simp; try with_reducible rfl)
        try simp only [Act.put, List.setIfInBounds_toArray, List.set_cons_zero, List.set_cons_succ]
        refine wpAnyH_take (i := 5) (oi := ⟨_, _, _, _, _, _⟩) (v := ?_) rfl (by kernel_rfl) (by kernel_rfl) (by kernel_rfl) (fun _ _ _ h => h) (Or.inl ⟨by rfl, ?_⟩) hHeld ?_
        rotate_left 1
        · (intro W hSw; (try dsimp only at hSw); go_simp; try with_reducible rfl)
        try simp only [Act.put, List.setIfInBounds_toArray, List.set_cons_zero, List.set_cons_succ]
        refine wpAnyH_take (i := 6) (oi := ⟨_, _, _, _, _, _⟩) (v := ?_) rfl (by kernel_rfl) (by kernel_rfl) (by kernel_rfl) (fun _ _ _ h => h) (Or.inl ⟨by rfl, ?_⟩) hHeld ?_
        rotate_left 1
        · (intro W hSw; (try dsimp only at hSw); go_simp; try with_reducible rfl)
        try simp only [Act.put, List.setIfInBounds_toArray, List.set_cons_zero, List.set_cons_succ]
        refine wpAnyH_take (i := 7) (oi := ⟨_, _, _, _, _, _⟩) (v := ?_) rfl (by kernel_rfl) (by kernel_rfl) (by kernel_rfl) (fun _ _ _ h => h) (Or.inl ⟨by rfl, ?_⟩) hHeld ?_
        rotate_left 1
        · (intro W hSw; (try dsimp only at hSw); go_simp; try with_reducible rfl)
        try simp only [Act.put, List.setIfInBounds_toArray, List.set_cons_zero, List.set_cons_succ]
        refine wpAnyH_take (i := 8) (oi := ⟨_, _, _, _, _, _⟩) (v := ?_) rfl (by kernel_rfl) (by kernel_rfl) (by kernel_rfl) (fun _ _ _ h => h) (Or.inl ⟨by rfl, ?_⟩) hHeld ?_
        rotate_left 1
        · (intro W hSw; (try dsimp only at hSw); go_simp; try with_reducible rfl)
        try simp only [Act.put, List.setIfInBounds_toArray, List.set_cons_zero, List.set_cons_succ]
        refine wpAnyH_take (i := 9) (oi := ⟨_, _, _, _, _, _⟩) (v := ?_) rfl (by kernel_rfl) (by kernel_rfl) (by kernel_rfl) (fun _ _ _ h => h) (Or.inl ⟨by rfl, ?_⟩) hHeld ?_
        rotate_left 1
        · (intro W hSw; (try dsimp only at hSw); go_simp; try with_reducible rfl)
        try simp only [Act.put, List.setIfInBounds_toArray, List.set_cons_zero, List.set_cons_succ]
        refine wpAnyH_take (i := 10) (oi := ⟨_, _, _, _, _, _⟩) (v := ?_) rfl (by kernel_rfl) (by kernel_rfl) (by kernel_rfl) (fun _ _ _ h => h) (Or.inl ⟨by rfl, ?_⟩) hHeld ?_
        rotate_left 1
        · (intro W hSw; (try dsimp only at hSw); go_simp; try with_reducible rfl)
        try simp only [Act.put, List.setIfInBounds_toArray, List.set_cons_zero, List.set_cons_succ]
        refine wpAnyH_take (i := 11) (oi := ⟨_, _, _, _, _, _⟩) (v := ?_) rfl (by kernel_rfl) (by kernel_rfl) (by kernel_rfl) (fun _ _ _ h => h) (Or.inl ⟨by rfl, ?_⟩) hHeld ?_
        rotate_left 1
        · (intro W hSw; (try dsimp only at hSw); go_simp; try with_reducible rfl)
        try simp only [Act.put, List.setIfInBounds_toArray, List.set_cons_zero, List.set_cons_succ]
        refine wpAnyH_take (i := 12) (oi := ⟨_, _, _, _, _, _⟩) (v := ?_) rfl (by kernel_rfl) (by kernel_rfl) (by kernel_rfl) (fun _ _ _ h => h) (Or.inl ⟨by rfl, ?_⟩) hHeld ?_
        rotate_left 1
        · (intro W hSw; (try dsimp only at hSw); have hcc := HCX.out W hSw; go_simp; try with_reducible rfl)
        try simp only [Act.put, List.setIfInBounds_toArray, List.set_cons_zero, List.set_cons_succ]
        refine wpAnyH_take (i := 13) (oi := ⟨_, _, _, _, _, _⟩) (v := ?_) rfl (by kernel_rfl) (by kernel_rfl) (by kernel_rfl) (fun _ _ _ h => h) (Or.inl ⟨by rfl, ?_⟩) hHeld ?_
        rotate_left 1
        · (intro W hSw; (try dsimp only at hSw); go_simp; try with_reducible rfl)
        try simp only [Act.put, List.setIfInBounds_toArray, List.set_cons_zero, List.set_cons_succ]
        refine wpAnyH_take (i := 14) (oi := ⟨_, _, _, _, _, _⟩) (v := ?_) rfl (by kernel_rfl) (by kernel_rfl) (by kernel_rfl) (fun _ _ _ h => h) (Or.inl ⟨by rfl, ?_⟩) hHeld ?_
        rotate_left 1
        · (intro W hSw; (try dsimp only at hSw); go_simp; try with_reducible rfl)
        try simp only [Act.put, List.setIfInBounds_toArray, List.set_cons_zero, List.set_cons_succ]
        refine wpAnyH_take (i := 15) (oi := ⟨_, _, _, _, _, _⟩) (v := ?_) rfl (by kernel_rfl) (by kernel_rfl) (by kernel_rfl) (fun _ _ _ h => h) (Or.inl ⟨by rfl, ?_⟩) hHeld ?_
        rotate_left 1
        · (intro W hSw; (try dsimp only at hSw); go_simp; try with_reducible rfl)
        try simp only [Act.put, List.setIfInBounds_toArray, List.set_cons_zero, List.set_cons_succ]
        refine wpAnyH_take (i := 16) (oi := ⟨_, _, _, _, _, _⟩) (v := ?_) rfl (by kernel_rfl) (by kernel_rfl) (by kernel_rfl) (fun _ _ _ h => h) (Or.inl ⟨by rfl, ?_⟩) hHeld ?_
        rotate_left 1
        · (intro W hSw; (try dsimp only at hSw); go_simp; try with_reducible rfl)
        try simp only [Act.put, List.setIfInBounds_toArray, List.set_cons_zero, List.set_cons_succ]
        refine wpAnyH_take (i := 17) (oi := ⟨_, _, _, _, _, _⟩) (v := ?_) rfl (by kernel_rfl) (by kernel_rfl) (by kernel_rfl) (fun _ _ _ h => h) (Or.inl ⟨by rfl, ?_⟩) hHeld ?_
        rotate_left 1
        · (intro W hSw; (try dsimp only at hSw); go_simp; try with_reducible rfl)
        try simp only [Act.put, List.setIfInBounds_toArray, List.set_cons_zero, List.set_cons_succ]
        refine wpAnyH_take (i := 18) (oi := ⟨_, _, _, _, _, _⟩) (v := ?_) rfl (by kernel_rfl) (by kernel_rfl) (by kernel_rfl) (fun _ _ _ h => h) (Or.inl ⟨by rfl, ?_⟩) hHeld ?_
        rotate_left 1
        · (intro W hSw; (try dsimp only at hSw); go_simp; try with_reducible rfl)
        try simp only [Act.put, List.setIfInBounds_toArray, List.set_cons_zero, List.set_cons_succ]
        refine wpAnyH_take (i := 20) (oi := ⟨_, _, _, _, _, _⟩) (v := ?_) rfl (by kernel_rfl) (by kernel_rfl) (by kernel_rfl) (fun _ _ _ h => h) (Or.inl ⟨by rfl, ?_⟩) hHeld ?_
        rotate_left 1
        · (intro W hSw; (try dsimp only at hSw); go_simp; try with_reducible rfl)
        try simp only [Act.put, List.setIfInBounds_toArray, List.set_cons_zero, List.set_cons_succ]
        refine wpAnyH_take (i := 21) (oi := ⟨_, _, _, _, _, _⟩) (v := ?_) rfl (by kernel_rfl) (by kernel_rfl) (by kernel_rfl) (fun _ _ _ h => h) (Or.inl ⟨by rfl, ?_⟩) hHeld ?_
        rotate_left 1
        · (intro W hSw; (try dsimp only at hSw); go_simp; try with_reducible rfl)
        try simp only [Act.put, List.setIfInBounds_toArray, List.set_cons_zero, List.set_cons_succ]
        refine wpAnyH_take (i := 22) (oi := ⟨_, _, _, _, _, _⟩) (v := ?_) rfl (by kernel_rfl) (by kernel_rfl) (by kernel_rfl) (fun _ _ _ h => h) (Or.inl ⟨by rfl, ?_⟩) hHeld ?_
        rotate_left 1
        · (intro W hSw; (try dsimp only at hSw); go_simp; try with_reducible rfl)
        try simp only [Act.put, List.setIfInBounds_toArray, List.set_cons_zero, List.set_cons_succ]
        refine wpAnyH_take (i := 23) (oi := ⟨_, _, _, _, _, _⟩) (v := ?_) rfl (by kernel_rfl) (by kernel_rfl) (by kernel_rfl) (fun _ _ _ h => h) (Or.inl ⟨by rfl, ?_⟩) hHeld ?_
        rotate_left 1
        · (intro W hSw; (try dsimp only at hSw); have hcc := HCS.out W hSw; go_simp; try with_reducible rfl)
        try simp only [Act.put, List.setIfInBounds_toArray, List.set_cons_zero, List.set_cons_succ]
        refine wpAnyH_take (i := 24) (oi := ⟨_, _, _, _, _, _⟩) (v := ?_) rfl (by kernel_rfl) (by kernel_rfl) (by kernel_rfl) (fun _ _ _ h => h) (Or.inl ⟨by rfl, ?_⟩) hHeld ?_
        rotate_left 1
        · (intro W hSw; (try dsimp only at hSw); go_simp; try with_reducible rfl)
        try simp only [Act.put, List.setIfInBounds_toArray, List.set_cons_zero, List.set_cons_succ]
        replace hHeld : Below w7.heap.size w7 w7.drew := hHeld
        refine wpAnyH_ready (rs := [19]) (by kernel_rfl) (by simp) ?_
        refine AllReadyH.cons (o := ⟨_, _, _, _, _, _⟩) rfl (fun K hK => ?_) AllReadyH.nil
        go_simp
        go_at_call 15
        refine (HWT.out _ hHeld).mono ?_
        rintro e w9 ⟨rfl, hww⟩
        have hww2 := hww.symm
        subst hww2
        try go_wp2_with fail
        refine hK.out _ _ hHeld (fun hHeld => ?_)
        clear hK K hww
        try simp only [Act.put, List.setIfInBounds_toArray, List.set_cons_zero, List.set_cons_succ]
        refine wpAnyH_take (i := 25) (oi := ⟨_, _, _, _, _, _⟩) (v := ?_) rfl (by kernel_rfl) (by kernel_rfl) (by kernel_rfl) (fun _ _ _ h => h) (Or.inl ⟨by rfl, ?_⟩) hHeld ?_
        rotate_left 1
        · (intro W hSw; (try dsimp only at hSw); go_simp; try with_reducible rfl)
        try simp only [Act.put, List.setIfInBounds_toArray, List.set_cons_zero, List.set_cons_succ]
        refine wpAnyH_take (i := 26) (oi := ⟨_, _, _, _, _, _⟩) (v := ?_) rfl (by kernel_rfl) (by kernel_rfl) (by kernel_rfl) (fun _ _ _ h => h) (Or.inl ⟨by rfl, ?_⟩) hHeld ?_
        rotate_left 1
        · (intro W hSw; (try dsimp only at hSw); go_simp; try with_reducible rfl)
        try simp only [Act.put, List.setIfInBounds_toArray, List.set_cons_zero, List.set_cons_succ]
        refine wpAnyH_done (by kernel_rfl) ?_ _
        refine NoPanic.normal ?_
        replace hHeld : Below w7.heap.size w7 w7.drew := hHeld
        have HFIN := Lib.hid (And.intro (HJN.out.below hHeld) (And.intro (show RJoin w7.drew gM F2 C2 from HRN.out.below hHeld HRN.out.lt) (HBR4.out.trans (hHeld.mono HBR4.out.size))))
        have hk9 : kk + 1 ≤ m := HLT.out
        clear hHeld HX HJN HRN HCS HWT HBR4
        clear HCX
        go_wp2
        go_roundw
        case rel => exact ⟨kk + 1, F2, C2, A', c', hk9, by rw [ix_kw hk9 HMX.out], HFIN.out.1, HFIN.out.2.1, HFN.out, HNO2.out, HFIN.out.2.2⟩
        case measure => exact ix_meas hk9 HMX.out
    · have hd : decide (kk < m) = false := by simpa using hlt
      have HFIN := Lib.hid (HBWL.out.trans (hbr.mono HBWL.out.size))
      clear hJ hR hF hNO hbr hk hlt
      go_wp2
      go_ret
      exact ⟨rfl, HFIN.out⟩
end Go.Proofs.Ytjachohgffnbiaa
