/-
  The walk of the statement RadiusRooms.
-/
import Derived.Test.YtbomckbekcaemaaDoorRdn
namespace Go.Proofs.YtbomckbekcaemaaDoor
open Go.RowKit

theorem ix_modR (a : Int) (m : Nat) (h0 : 0 < m) (hm : m < 1000000) : ∃ q : Nat, wrap64 ((IntKind.u64.wrap a).tmod (m : Int)) = (q : Int) ∧ q < m := by
  have hu0 : (0 : Int) ≤ IntKind.u64.wrap a := by rw [IntKind.wrap_u64]; omega
  have h1 := Int.emod_nonneg (IntKind.u64.wrap a) (b := (m : Int)) (by omega)
  have h2 := Int.emod_lt_of_pos (IntKind.u64.wrap a) (b := (m : Int)) (by omega)
  refine ⟨(IntKind.u64.wrap a % (m : Int)).toNat, ?_, by omega⟩
  rw [Int.tmod_eq_emod_of_nonneg hu0]
  generalize IntKind.u64.wrap a % (m : Int) = r at *
  unfold wrap64; omega
/-- What one round takes off. -/
def tookR (k : Nat) : Nat := if k - min k 255 = 1 then min k 255 - 1 else min k 255
theorem ix_tookR {k : Nat} (h2 : k ≠ 0) (h1 : k ≠ 1) (h : k ≤ 5000) : ∃ q0 q z k' : Nat, min (k : Int) 255 = (q0 : Int) ∧ (q : Int) - 2 = (z : Int) ∧ IntKind.i64.wrap (z : Int) = (z : Int) ∧ (k : Int) - (q : Int) = (k' : Int) ∧ wrap64 (k' : Int) = (k' : Int) ∧ z ≤ 253 ∧ k' + (2 + z) = k ∧ k' ≠ 1 ∧
    (((k : Int) - (q0 : Int) = 1 ∧ (q0 : Int) - 1 = (q : Int)) ∨ (∃ d : Nat, (k : Int) - (q0 : Int) = (d : Int) ∧ ¬ (d : Int) = 1 ∧ wrap64 (d : Int) = (d : Int) ∧ q0 = q)) := by
  by_cases hk : k = 256
  · subst hk
    exact ⟨255, 254, 252, 2, by omega, by omega, by rw [IntKind.wrap_i64]; omega, by omega, by unfold wrap64; omega, by omega, by omega, by omega, .inl ⟨by omega, by omega⟩⟩
  · refine ⟨min k 255, min k 255, min k 255 - 2, k - min k 255, by omega, by omega, by rw [IntKind.wrap_i64]; omega, by omega, by unfold wrap64; omega, by omega, by omega, by omega, .inr ⟨k - min k 255, by omega, by omega, by unfold wrap64; omega, rfl⟩⟩
theorem ix_sumR {la : Attrs} {zs : List UInt8} {k k' z m : Nat} (h1 : sizeA la + k = m) (h2 : k' + (2 + z) = k) (h3 : zs.length = z) : sizeA (la ++ [((5 : Int), zs)]) + k' = m := by
  rw [sizeA_snoc]; simp only; omega
theorem ix_measR {k k' z : Nat} (h : k' + (2 + z) = k) : (intOf (.int .i64 (k' : Int))).toNat < (intOf (.int .i64 (k : Int))).toNat := by
  simp only [intOf]; omega
theorem rooms_w {la : Attrs} {s : Nat} (hall : la.all attrOK = true) (hs : sizeA la + 20 = s) : ∃ V er, writeE 1 1 zQ la = (V, er) ∧ ((er = 0 ∧ V.length = s ∧ s ≤ 4096) ∨ (er = 2 ∧ V = [] ∧ 4096 < s)) := by
  have hp : pkOK 1 1 la = decide (s ≤ 4096) := by
    unfold pkOK attrsOK
    rw [hall]
    simp [codeOK]
    omega
  by_cases h : s ≤ 4096
  · exact ⟨_, _, by unfold writeE; rw [hp, if_pos (by simpa using h)], .inl ⟨rfl, by rw [pkB_length _ _ _ _ rfl]; omega, h⟩⟩
  · exact ⟨_, _, by unfold writeE; rw [hp, if_neg (by simpa using h)], .inr ⟨rfl, rfl, by omega⟩⟩
theorem rooms_s {la : Attrs} {s t : Nat} (hall : la.all attrOK = true) (hm : hasMark la = false) (hs : sizeA la + 20 = s) (ht : t = s + 18) : ∃ V er, sealE 1 1 zQ la [115] = (V, er) ∧ ((er = 0 ∧ V.length = t ∧ t ≤ 4096) ∨ (er = 2 ∧ V = [] ∧ 4096 < t)) := by
  have hp : pkOK 1 1 (la ++ [(80, zQ)]) = decide (t ≤ 4096) := by
    unfold pkOK attrsOK
    rw [List.all_append, hall, sizeA_snoc]
    simp [codeOK, attrOK, show zQ.length = 16 from rfl]
    omega
  by_cases h : t ≤ 4096
  · refine ⟨_, _, by unfold sealE markE; rw [if_pos rfl, hm, hp, if_neg (by decide), if_pos (by simpa using h)], .inl ⟨rfl, ?_, h⟩⟩
    rw [pkB_length _ _ _ _ rfl, sizeA_snoc, hmacQ_len]
    omega
  · exact ⟨_, _, by unfold sealE markE; rw [if_pos rfl, hm, hp, if_neg (by decide), if_neg (by simpa using h)], .inr ⟨rfl, rfl, by omega⟩⟩
set_option maxRecDepth 100000 in
set_option maxHeartbeats 1000000 in
theorem radiusRooms_walk (a : Int) (w : World) (ht : TabsQ w) :
    Calls Tryd.prog 7 #[.int .i64 a] w fun e w' => e = .returned (.bool true) ∧ Below w.heap.size w w' := by
  obtain ⟨r, hr1, hr2⟩ := ix_modR a 45 (by decide) (by decide)
  obtain ⟨s, hs⟩ : ∃ s, s = 4060 + r := ⟨_, rfl⟩
  obtain ⟨m, hm⟩ : ∃ m, m = s - 20 := ⟨_, rfl⟩
  have hs1 : (4060 : Int) + (r : Int) = (s : Int) := by omega
  have hs9 : s < 5000 := by omega
  have hsm : (s : Int) - 20 = (m : Int) := by omega
  have HM := Lib.hid (show m + 20 = s ∧ m ≠ 1 ∧ m ≤ 5000 by omega)
  have HT := Lib.hid ht
  replace hr1 : wrap64 ((IntKind.u64.wrap a).tmod 45) = (r : Int) := hr1
  clear hs hm hr2 ht
  go_enter Tryd.func7, Tryd.ntmps7
  go_upto_region 2 with (fail)
  clear hr1 hs1
  go_upto_region 3 with ((with_reducible refine (?_ : wpList _ _ _ (Oper.mk none _ _ _ _ _ :: _) _ _)); go_loud (refine wpList_store_blk rfl 30 (.tmp 3) (.tmp 15) rfl rfl w.heap.size (pkC 1 1 zQ none 0 0) rfl rfl _ _ (Blk.new_of w 30 #[.int .i64 0, .int .i64 0, .int .u8 0, .int .u8 0, .int .u8 0, .int .u8 0, .int .u8 0, .int .u8 0, .int .u8 0, .int .u8 0, .int .u8 0, .int .u8 0, .int .u8 0, .int .u8 0, .int .u8 0, .int .u8 0, .int .u8 0, .int .u8 0, .slice none 0 0] (pkC 0 0 zQ none 0 0) rfl) (infPk) (rfl) (pk_one _ _ _ _ _ _) ?_); intro w1 hP1 hg1)
  have h1a : Below w.heap.size w (w.alloc (.cells #[.int .i64 0, .int .i64 0, .int .u8 0, .int .u8 0, .int .u8 0, .int .u8 0, .int .u8 0, .int .u8 0, .int .u8 0, .int .u8 0, .int .u8 0, .int .u8 0, .int .u8 0, .int .u8 0, .int .u8 0, .int .u8 0, .int .u8 0, .int .u8 0, .slice none 0 0] 30)) := (Below.refl _ _).alloc (Nat.le_refl _) _
  have HB1 := Lib.hid (below_new h1a hg1 (Nat.le_refl _) h1a.size)
  have HP1 := Lib.hid hP1
  have HGB := Lib.hid hP1.lt
  obtain ⟨g, hg⟩ : ∃ g, g = w.heap.size := ⟨_, rfl⟩
  have HG0 := Lib.hid (show w.heap.size ≤ g by omega)
  obtain ⟨B1, hB1⟩ : ∃ B1, B1 = w1.heap.size := ⟨_, rfl⟩
  have HB1S := Lib.hid hB1
  rw [← hg] at HP1 HGB ⊢
  rw [← hB1] at HGB
  clear h1a hg1 hP1 hg hB1
  go_upto_region 4 with (fail)
  clear hsm
  go_loopw [4] (fun l wr => ∃ (k n c : Nat) (A : Option Addr) (la : Attrs), l = .int .i64 (k : Int) ∧ k ≠ 1 ∧ k ≤ 5000 ∧ Blk wr g 30 (pkC 1 1 zQ A n c) ∧ ARow wr B1 (.slice A n c) la ∧ la.all attrOK = true ∧ hasMark la = false ∧ sizeA la + k = m ∧ Below w.heap.size w wr ∧ B1 ≤ wr.heap.size) (fun l _ => (intOf l).toNat)
  case atStart => exact ⟨m, 0, 0, none, [], rfl, HM.out.2.1, HM.out.2.2, HP1.out, ARow.nil _ _, rfl, rfl, by simp [sizeA], HB1.out, by rw [HB1S.out]; exact Nat.le_refl _⟩
  case round =>
    obtain ⟨k, n, c, A, la, rfl, hk1, hk9, hP, hAR, hall, hmk, hsz, hbr, hbs⟩ := hrel
    by_cases hk0 : k = 0
    · subst hk0
      obtain ⟨t, htt⟩ : ∃ t, t = s + 18 := ⟨_, rfl⟩
      have hs20 : sizeA la + 20 = s := by have := HM.out.1; omega
      obtain ⟨V, er, hV, hVc⟩ := rooms_w hall hs20
      obtain ⟨U, fr, hU, hUc⟩ := rooms_s hall hmk hs20 htt
      have hn4 : n ≤ 400000 := by have h1 := hAR.ain.1; have h2 := sizeA_len la; omega
      have HWR := Lib.hid (show Calls Tryd.prog 13 #[.agg (pkC 1 1 zQ A n c).toArray] wr (WrapPost (V, er) wr) by rw [← hV]; exact write_e c n 1 1 zQ A la wr rfl hAR.ain.1 hAR.ain.2)
      have HSL := Lib.hid (fun (W : World) (As : Option Addr) (cs : Nat) (hb : Below wr.heap.size wr W) (is : In W W.heap.size As cs [115]) => (show Calls Tryd.prog 20 #[.agg (pkC 1 1 zQ A n c).toArray, .slice As 1 cs] W (WrapPost (U, fr) W) by rw [← hU]; exact seal_e c n 1 cs 1 1 zQ A As la [115] W rfl hAR.ain.1 (hAR.ain.2.up hb) rfl is (HT.out.below (hbr.trans (hb.mono hbr.size))) hn4 (by decide)))
      unfold WrapPost at HWR HSL
      have HB := Lib.hid hbr
      have HP := Lib.hid hP
      have hst : (s : Int) + 18 = (t : Int) := by omega
      have ht9 : t < 6000 := by omega
      have hts : t = s + 18 := htt
      have HSPK := Lib.hid (fun (W : World) (hb : Below w.heap.size w W) => speaks_e W (HT.out.below hb))
      clear hV hU hAR hall hmk hsz hbr hbs hs20 hk1 hk9 hn4 hP htt
      have hP := HP.out
      go_upto_region 11 with (first
        | ((with_reducible refine (?_ : wpList _ _ _ (Oper.mk (some 41) _ _ _ _ _ :: _) _ _)); go_loud (refine wpList_load_blk rfl 30 (.tmp 3) rfl g rfl _ _ _ (hP) Tryd.underlying30 rfl (infPk.trans rfl) ?_))
        | (go_at_call 13; refine HWR.out.mono ?_; rintro e w2 ⟨A2, n2, c2, rfl, hB2, hb2⟩))
      have HN2 := Lib.hid hB2.1
      have HB2 := Lib.hid (HB.out.trans (hb2.mono HB.out.size))
      have hP2 := HP.out.below hb2 HP.out.lt
      have HW2 := Lib.hid hb2
      clear hP hB2 hb2
      obtain ⟨kc, hS1⟩ := constR_first w2 [115] 1 rfl (by decide)
      replace kc : (convert 26 26 (.slice (some ⟨w2.heap.size, 0, none⟩) 1 1)).run Tryd.prog (w2.alloc (.cells #[.int .u8 115] 5)) = .ok (.slice (some ⟨w2.heap.size, 0, none⟩) 1 1) (w2.alloc (.cells #[.int .u8 115] 5 (1, 2))) := kc
      have HS1 := Lib.hid hS1
      have hz1 : Below w2.heap.size w2 (w2.alloc (.cells #[.int .u8 115] 5 (1, 2))) := (Below.refl _ _).alloc (Nat.le_refl _) _
      have HZ1 := Lib.hid hz1
      clear hS1 hz1
      go_upto_region 12 with (first
        | ((with_reducible refine (?_ : wpList _ _ _ (Oper.mk (some 46) _ _ _ _ _ :: _) _ _)); go_loud (refine wpList_load_blk rfl 30 (.tmp 3) rfl g rfl _ _ _ (hP2) Tryd.underlying30 rfl (infPk.trans rfl) ?_))
        | (go_at_call 20; refine (HSL.out _ _ _ (HW2.out.trans (HZ1.out.mono HW2.out.size)) HS1.out).mono ?_; rintro e w3 ⟨A3, n3, c3, rfl, hB3, hb3⟩))
      have HN3 := Lib.hid hB3.1
      have HB3 := Lib.hid (HB2.out.trans ((HZ1.out.trans (hb3.mono HZ1.out.size)).mono HB2.out.size))
      clear kc hP2 hB3 hb3
      rcases hVc with ⟨rfl, hVl, hVs⟩ | ⟨rfl, rfl, hVs⟩
      · have hn2 : n2 = s := by rw [← HN2.out]; exact hVl
        subst hn2
        have hsle : (n2 : Int) ≤ 4096 := by omega
        rcases hUc with ⟨rfl, hUl, hUs⟩ | ⟨rfl, rfl, hUs⟩
        · have hn3 : n3 = t := by rw [← HN3.out]; exact hUl
          subst hn3
          have htle : (n3 : Int) ≤ 4096 := by omega
          clear hVl hUl hts hVs hUs
          go_wp2_with (go_at_call 15; refine (HSPK.out _ HB3.out).mono ?_; rintro e w4 ⟨rfl, hb4⟩)
          go_ret
          exact ⟨by first | rfl | simp [hsle, htle], HB3.out.trans (hb4.mono HB3.out.size)⟩
        · have htle : ¬ (t : Int) ≤ 4096 := by omega
          clear hVl hts hVs hUs
          go_wp2_with (go_at_call 15; refine (HSPK.out _ HB3.out).mono ?_; rintro e w4 ⟨rfl, hb4⟩)
          go_ret
          exact ⟨by first | rfl | simp [htle], HB3.out.trans (hb4.mono HB3.out.size)⟩
      · have hsle : ¬ (s : Int) ≤ 4096 := by omega
        rcases hUc with ⟨rfl, hUl, hUs⟩ | ⟨rfl, rfl, hUs⟩
        · exfalso; omega
        · have htle : ¬ (t : Int) ≤ 4096 := by omega
          clear hts hVs hUs
          go_wp2_with (go_at_call 15; refine (HSPK.out _ HB3.out).mono ?_; rintro e w4 ⟨rfl, hb4⟩)
          go_ret
          exact ⟨by first | rfl | simp [hsle, htle], HB3.out.trans (hb4.mono HB3.out.size)⟩
    · have hd : (0 : Int) < (k : Int) := by omega
      have hll : la.length + 1 ≤ 1000000 := by have := sizeA_len la; have := HM.out.2.2; omega
      obtain ⟨q0, q, z, k', e1, e2, e3, e4, e5, hz9, hkk, hk'1, hcase⟩ := ix_tookR hk0 hk1 hk9
      have HLL := Lib.hid hll
      have HP := Lib.hid hP
      have HAR := Lib.hid hAR
      have HBR := Lib.hid hbr
      have HBS := Lib.hid hbs
      have HC := Lib.hid (And.intro hall (And.intro hmk hsz))
      have HZ := Lib.hid (And.intro hz9 (And.intro hkk (And.intro hk'1 hk9)))
      have hc18 : wr.cell? ⟨g, 18, none⟩ = some (.slice A n c) := (hP.cell 18).trans (pkC_last _ _ _ _ _ _ rfl)
      clear hk1 hk9 hP hAR hall hmk hsz hbr hbs hk0 hz9 hkk hk'1 hll
      have key : True := trivial
      rcases hcase with ⟨h24, h27⟩ | ⟨d, h24, hne, hdw, hqq⟩
      · go_upto_region 8 with (fail)
        clear h24 h27 e1 hd
        refine wp_region_noPanic ?_
        refine wp_region_but (S := fun W => W.cell? ⟨g, 18, none⟩ = some (.slice A n c)) 9 (by kernel_rfl) (by exact hc18) (fun hHeld => ?_)
        refine but_take (i := 0) (oi := ⟨_, _, _, _, _, _⟩) (v := ?_) rfl (by kernel_rfl) (by kernel_rfl) (by kernel_rfl) (by kernel_rfl) (fun _ _ _ h => h) (Or.inl ⟨by rfl, ?_⟩) hHeld ?_
        rotate_left 1
        · (intro W hSw; (try dsimp only at hSw); go_simp; try with_reducible rfl)
        try simp only [Act.put, List.setIfInBounds_toArray, List.set_cons_zero, List.set_cons_succ]
        refine but_take (i := 1) (oi := ⟨_, _, _, _, _, _⟩) (v := ?_) rfl (by kernel_rfl) (by kernel_rfl) (by kernel_rfl) (by kernel_rfl) (fun _ _ _ h => h) (Or.inl ⟨by rfl, ?_⟩) hHeld ?_
        rotate_left 1
        · (intro W hSw; (try dsimp only at hSw); have hcc := hSw; go_simp; try with_reducible rfl)
        try simp only [Act.put, List.setIfInBounds_toArray, List.set_cons_zero, List.set_cons_succ]
        refine but_take (i := 2) (oi := ⟨_, _, _, _, _, _⟩) (v := ?_) rfl (by kernel_rfl) (by kernel_rfl) (by kernel_rfl) (by kernel_rfl) (fun _ _ _ h => h) (Or.inl ⟨by rfl, ?_⟩) hHeld ?_
        rotate_left 1
        · (intro W hSw; (try dsimp only at hSw); go_simp; try with_reducible rfl)
        try simp only [Act.put, List.setIfInBounds_toArray, List.set_cons_zero, List.set_cons_succ]
        refine but_take (i := 3) (oi := ⟨_, _, _, _, _, _⟩) (v := ?_) rfl (by kernel_rfl) (by kernel_rfl) (by kernel_rfl) (by kernel_rfl) (fun _ _ _ h => h) (Or.inl ⟨by rfl, ?_⟩) hHeld ?_
        rotate_left 1
        · (intro W hSw; (try dsimp only at hSw); go_simp; try with_reducible rfl)
        try simp only [Act.put, List.setIfInBounds_toArray, List.set_cons_zero, List.set_cons_succ]
        replace hHeld : wr.drew.cell? ⟨g, 18, none⟩ = some (.slice A n c) := hHeld
        have hbd : Below wr.heap.size wr wr.drew := below_drewN (Below.refl _ _) 1
        generalize wr.drew = wd at *
        refine but_ready (i := 4) (o := ⟨_, _, _, _, _, _⟩) (by kernel_rfl) rfl (fun K hK => ?_)
        have hmk := run_make_bytes .i64 .i64 z z (Nat.le_refl _) (by have := HZ.out.1; omega) wd
        have hbz := buf_zeros wd z (by have := HZ.out.1; omega)
        obtain ⟨zs, hzs⟩ : ∃ zs, zs = List.replicate z (0 : UInt8) := ⟨_, rfl⟩
        rw [← hzs] at hbz hmk
        have HZS := Lib.hid hzs
        clear hzs
        go_simp
        have hal : Below wd.heap.size wd (wd.alloc (.cells (zs.map B8).toArray 5)) := (Below.refl _ _).alloc (Nat.le_refl _) _
        have hglt : g < wd.heap.size := Nat.lt_of_lt_of_le HP.out.lt hbd.size
        have hHeld2 := (hal.cell (p := ⟨g, 18, none⟩) hglt).trans hHeld
        have hbd2 := hbd.trans (hal.mono hbd.size)
        have hwz := hbd.size
        refine hK.out _ _ hHeld2 (fun hHeld => ?_)
        clear hK K hmk hal hHeld2 hglt hbd
        replace hHeld : (wd.alloc (.cells (zs.map B8).toArray 5)).cell? ⟨g, 18, none⟩ = some (.slice A n c) := hHeld
        generalize wd.heap.size = gz at *
        generalize wd.alloc (.cells (zs.map B8).toArray 5) = w4 at *
        try simp only [Act.put, List.setIfInBounds_toArray, List.set_cons_zero, List.set_cons_succ]
        refine but_take (i := 5) (oi := ⟨_, _, _, _, _, _⟩) (v := ?_) rfl (by kernel_rfl) (by kernel_rfl) (by kernel_rfl) (by kernel_rfl) (fun _ _ _ h => h) (Or.inl ⟨by rfl, ?_⟩) hHeld ?_
        rotate_left 1
        · (intro W hSw; (try dsimp only at hSw); go_simp; try with_reducible rfl)
        try simp only [Act.put, List.setIfInBounds_toArray, List.set_cons_zero, List.set_cons_succ]
        refine but_ready (i := 6) (o := ⟨_, _, _, _, _, _⟩) (by kernel_rfl) rfl (fun K hK => ?_)
        go_simp
        have hal : Below w4.heap.size w4 (w4.alloc (.cells #[.int .i64 5, .slice (some ⟨gz, 0, none⟩) z z] 69)) := (Below.refl _ _).alloc (Nat.le_refl _) _
        have hglt : g < w4.heap.size := Nat.lt_of_lt_of_le HP.out.lt hbd2.size
        have hHeld2 := (hal.cell (p := ⟨g, 18, none⟩) hglt).trans hHeld
        have hbd5 := hbd2.trans (hal.mono hbd2.size)
        have hns := news_at (Blk.new_of w4 69 #[.int .i64 5, .slice (some ⟨gz, 0, none⟩) z z] [.int .i64 5, .slice (some ⟨gz, 0, none⟩) z z] rfl)
        have hIx := (hbz.toIn (Nat.le_refl _)).up hal
        have hgz4 := (hbz.lt rfl).2
        refine hK.out _ _ hHeld2 (fun hHeld => ?_)
        clear hK K hHeld2
        replace hHeld : (w4.alloc (.cells #[.int .i64 5, .slice (some ⟨gz, 0, none⟩) z z] 69)).cell? ⟨g, 18, none⟩ = some (.slice A n c) := hHeld
        generalize w4.heap.size = g4 at *
        generalize w4.alloc (.cells #[.int .i64 5, .slice (some ⟨gz, 0, none⟩) z z] 69) = w5 at *
        try simp only [Act.put, List.setIfInBounds_toArray, List.set_cons_zero, List.set_cons_succ]
        refine but_ready (i := 7) (o := ⟨_, _, _, _, _, _⟩) (by kernel_rfl) rfl (fun K hK => ?_)
        obtain ⟨cells, hown, hcells⟩ := HAR.out.below hbd5
        refine step_append_own (z := .agg #[.int .i64 0, .slice none 0 0]) (size := 2) (bytes := 32) Tryd.underlying28 infAttr rfl (by decide) (by decide) rfl (.tmp 29) (.tmp 34) rfl B1 (.slice A n c) la.length cells rfl hown (Nat.le_trans HBS.out hbd5.size) ⟨g4, 0, none⟩ 1 1 rfl [.int .i64 5, .slice (some ⟨gz, 0, none⟩) z z] rfl hns (by intro u hu; simp at hu; rcases hu with rfl | rfl <;> rfl) HLL.out ?_
        intro v6 w6 hw6 hg6 hv6
        have hAR6 := ARow.snoc (kd := 5) (x := zs) (Ax := some ⟨gz, 0, none⟩) (cx := z) (HAR.out.below hbd5) hw6 hg6 hv6 hIx (fun _ a e => ⟨fun e2 => by cases e; have h1 := (HAR.out.lt _ e2).2; simp only at h1; omega, by cases e; have := HBS.out; simp only; omega⟩) cells (by rw [hbz.1]) ⟨hown, hcells⟩
        have hgne : some g ≠ (Value.slice A n c).ownBlock := fun e => by have := (HAR.out.lt g e.symm).1; have := HGB.out; omega
        have hP6 := (HP.out.below hbd5 HP.out.lt).grown hg6 hgne
        have hb6 : Below w.heap.size w w6 := (HBR.out.trans (hbd5.mono HBR.out.size)).trans ⟨hg6.os, hg6.tape, hg6.output, hg6.size, fun k hk => hg6.block k (Nat.lt_of_lt_of_le hk (Nat.le_trans HBR.out.size hbd5.size)) (fun e => by have := (HAR.out.lt k e.symm).1; have := HGB.out; have := HG0.out; omega)⟩
        have HAR6 := Lib.hid hAR6
        obtain ⟨A6, c6, hv6e, _⟩ := HAR6.out.slice
        obtain ⟨n6, hn6⟩ : ∃ n6, (la ++ [((5 : Int), zs)]).length = n6 := ⟨_, rfl⟩
        rw [hn6] at hv6e
        subst hv6e
        refine hK.out _ _ ((hP6.cell 18).trans (pkC_last _ _ _ _ _ _ rfl)) (fun hHeld => ?_)
        have HBS6 := Lib.hid (Nat.le_trans (Nat.le_trans HBS.out hbd5.size) hg6.size)
        clear hK K hown hcells hw6 hg6 hv6 hAR6 hgne hns hIx
        have HP6 := Lib.hid hP6
        have HB6 := Lib.hid hb6
        have HN6 := Lib.hid hn6
        clear hP6 hb6 hn6
        try simp only [Act.put, List.setIfInBounds_toArray, List.set_cons_zero, List.set_cons_succ]
        refine but_take (i := 8) (oi := ⟨_, _, _, _, _, _⟩) (v := ?_) rfl (by kernel_rfl) (by kernel_rfl) (by kernel_rfl) (by kernel_rfl) (fun _ _ _ h => h) (Or.inl ⟨by rfl, ?_⟩) hHeld ?_
        rotate_left 1
        · (intro W hSw; (try dsimp only at hSw); go_simp; try with_reducible rfl)
        try simp only [Act.put, List.setIfInBounds_toArray, List.set_cons_zero, List.set_cons_succ]
        refine but_last (o := ⟨_, _, _, _, _, _⟩) (by kernel_rfl) rfl (by kernel_rfl) (fun K hK => ?_)
        have hc18' : w6.cell? ⟨g, 18, none⟩ = some (.slice A n c) := (HP6.out.cell 18).trans (pkC_last _ _ _ _ _ _ rfl)
        have hf18 := HP6.out.frozen 18
        go_simp
        refine hK.out _ _ ?_
        clear hK K hc18' hf18 hHeld
        refine NoPanic.normal ?_
        have hPs := HP6.out.set_ 18 (.slice A6 n6 c6)
        rw [pkC_set _ _ _ _ _ _ _ _ _ rfl] at hPs
        have hg7 : w6.grownBy (w6.setCell ⟨g, 18, none⟩ (.slice A6 n6 c6)) (some g) := grown_setCell (grown_refl w6 _) (.inl rfl) _
        have HAR7 := Lib.hid (HAR6.out.grown hg7 HGB.out)
        have HB7 := Lib.hid (HB6.out.setCell (p := ⟨g, 18, none⟩) HG0.out (.slice A6 n6 c6))
        have HP7 := Lib.hid hPs
        have HBS7 := Lib.hid (show B1 ≤ (w6.setCell ⟨g, 18, none⟩ (.slice A6 n6 c6)).heap.size from Nat.le_trans HBS6.out hg7.size)
        clear hPs hg7
        generalize w6.setCell ⟨g, 18, none⟩ (.slice A6 n6 c6) = w7 at *
        go_wp2
        go_roundw
        case rel => exact ⟨k', n6, c6, A6, la ++ [((5 : Int), zs)], by rw [e5], HZ.out.2.2.1, (by have := HZ.out.2.1; have := HZ.out.2.2.2; omega), HP7.out, HAR7.out, (by rw [List.all_append, HC.out.1]; simp [attrOK, HZS.out]; exact HZ.out.1), (by have := HC.out.2.1; unfold hasMark at this ⊢; rw [List.any_append, this]; simp), (ix_sumR HC.out.2.2 HZ.out.2.1 (by rw [HZS.out, List.length_replicate])), HB7.out, HBS7.out⟩
        case measure => rw [e5]; exact ix_measR HZ.out.2.1
      · subst hqq
        go_upto_region 8 with (fail)
        clear h24 hne hdw e1 hd
        refine wp_region_noPanic ?_
        refine wp_region_but (S := fun W => W.cell? ⟨g, 18, none⟩ = some (.slice A n c)) 9 (by kernel_rfl) (by exact hc18) (fun hHeld => ?_)
        refine but_take (i := 0) (oi := ⟨_, _, _, _, _, _⟩) (v := ?_) rfl (by kernel_rfl) (by kernel_rfl) (by kernel_rfl) (by kernel_rfl) (fun _ _ _ h => h) (Or.inl ⟨by rfl, ?_⟩) hHeld ?_
        rotate_left 1
        · (intro W hSw; (try dsimp only at hSw); go_simp; try with_reducible rfl)
        try simp only [Act.put, List.setIfInBounds_toArray, List.set_cons_zero, List.set_cons_succ]
        refine but_take (i := 1) (oi := ⟨_, _, _, _, _, _⟩) (v := ?_) rfl (by kernel_rfl) (by kernel_rfl) (by kernel_rfl) (by kernel_rfl) (fun _ _ _ h => h) (Or.inl ⟨by rfl, ?_⟩) hHeld ?_
        rotate_left 1
        · (intro W hSw; (try dsimp only at hSw); have hcc := hSw; go_simp; try with_reducible rfl)
        try simp only [Act.put, List.setIfInBounds_toArray, List.set_cons_zero, List.set_cons_succ]
        refine but_take (i := 2) (oi := ⟨_, _, _, _, _, _⟩) (v := ?_) rfl (by kernel_rfl) (by kernel_rfl) (by kernel_rfl) (by kernel_rfl) (fun _ _ _ h => h) (Or.inl ⟨by rfl, ?_⟩) hHeld ?_
        rotate_left 1
        · (intro W hSw; (try dsimp only at hSw); go_simp; try with_reducible rfl)
        try simp only [Act.put, List.setIfInBounds_toArray, List.set_cons_zero, List.set_cons_succ]
        refine but_take (i := 3) (oi := ⟨_, _, _, _, _, _⟩) (v := ?_) rfl (by kernel_rfl) (by kernel_rfl) (by kernel_rfl) (by kernel_rfl) (fun _ _ _ h => h) (Or.inl ⟨by rfl, ?_⟩) hHeld ?_
        rotate_left 1
        · (intro W hSw; (try dsimp only at hSw); go_simp; try with_reducible rfl)
        try simp only [Act.put, List.setIfInBounds_toArray, List.set_cons_zero, List.set_cons_succ]
        replace hHeld : wr.drew.cell? ⟨g, 18, none⟩ = some (.slice A n c) := hHeld
        have hbd : Below wr.heap.size wr wr.drew := below_drewN (Below.refl _ _) 1
        generalize wr.drew = wd at *
        refine but_ready (i := 4) (o := ⟨_, _, _, _, _, _⟩) (by kernel_rfl) rfl (fun K hK => ?_)
        have hmk := run_make_bytes .i64 .i64 z z (Nat.le_refl _) (by have := HZ.out.1; omega) wd
        have hbz := buf_zeros wd z (by have := HZ.out.1; omega)
        obtain ⟨zs, hzs⟩ : ∃ zs, zs = List.replicate z (0 : UInt8) := ⟨_, rfl⟩
        rw [← hzs] at hbz hmk
        have HZS := Lib.hid hzs
        clear hzs
        go_simp
        have hal : Below wd.heap.size wd (wd.alloc (.cells (zs.map B8).toArray 5)) := (Below.refl _ _).alloc (Nat.le_refl _) _
        have hglt : g < wd.heap.size := Nat.lt_of_lt_of_le HP.out.lt hbd.size
        have hHeld2 := (hal.cell (p := ⟨g, 18, none⟩) hglt).trans hHeld
        have hbd2 := hbd.trans (hal.mono hbd.size)
        have hwz := hbd.size
        refine hK.out _ _ hHeld2 (fun hHeld => ?_)
        clear hK K hmk hal hHeld2 hglt hbd
        replace hHeld : (wd.alloc (.cells (zs.map B8).toArray 5)).cell? ⟨g, 18, none⟩ = some (.slice A n c) := hHeld
        generalize wd.heap.size = gz at *
        generalize wd.alloc (.cells (zs.map B8).toArray 5) = w4 at *
        try simp only [Act.put, List.setIfInBounds_toArray, List.set_cons_zero, List.set_cons_succ]
        refine but_take (i := 5) (oi := ⟨_, _, _, _, _, _⟩) (v := ?_) rfl (by kernel_rfl) (by kernel_rfl) (by kernel_rfl) (by kernel_rfl) (fun _ _ _ h => h) (Or.inl ⟨by rfl, ?_⟩) hHeld ?_
        rotate_left 1
        · (intro W hSw; (try dsimp only at hSw); go_simp; try with_reducible rfl)
        try simp only [Act.put, List.setIfInBounds_toArray, List.set_cons_zero, List.set_cons_succ]
        refine but_ready (i := 6) (o := ⟨_, _, _, _, _, _⟩) (by kernel_rfl) rfl (fun K hK => ?_)
        go_simp
        have hal : Below w4.heap.size w4 (w4.alloc (.cells #[.int .i64 5, .slice (some ⟨gz, 0, none⟩) z z] 69)) := (Below.refl _ _).alloc (Nat.le_refl _) _
        have hglt : g < w4.heap.size := Nat.lt_of_lt_of_le HP.out.lt hbd2.size
        have hHeld2 := (hal.cell (p := ⟨g, 18, none⟩) hglt).trans hHeld
        have hbd5 := hbd2.trans (hal.mono hbd2.size)
        have hns := news_at (Blk.new_of w4 69 #[.int .i64 5, .slice (some ⟨gz, 0, none⟩) z z] [.int .i64 5, .slice (some ⟨gz, 0, none⟩) z z] rfl)
        have hIx := (hbz.toIn (Nat.le_refl _)).up hal
        have hgz4 := (hbz.lt rfl).2
        refine hK.out _ _ hHeld2 (fun hHeld => ?_)
        clear hK K hHeld2
        replace hHeld : (w4.alloc (.cells #[.int .i64 5, .slice (some ⟨gz, 0, none⟩) z z] 69)).cell? ⟨g, 18, none⟩ = some (.slice A n c) := hHeld
        generalize w4.heap.size = g4 at *
        generalize w4.alloc (.cells #[.int .i64 5, .slice (some ⟨gz, 0, none⟩) z z] 69) = w5 at *
        try simp only [Act.put, List.setIfInBounds_toArray, List.set_cons_zero, List.set_cons_succ]
        refine but_ready (i := 7) (o := ⟨_, _, _, _, _, _⟩) (by kernel_rfl) rfl (fun K hK => ?_)
        obtain ⟨cells, hown, hcells⟩ := HAR.out.below hbd5
        refine step_append_own (z := .agg #[.int .i64 0, .slice none 0 0]) (size := 2) (bytes := 32) Tryd.underlying28 infAttr rfl (by decide) (by decide) rfl (.tmp 29) (.tmp 34) rfl B1 (.slice A n c) la.length cells rfl hown (Nat.le_trans HBS.out hbd5.size) ⟨g4, 0, none⟩ 1 1 rfl [.int .i64 5, .slice (some ⟨gz, 0, none⟩) z z] rfl hns (by intro u hu; simp at hu; rcases hu with rfl | rfl <;> rfl) HLL.out ?_
        intro v6 w6 hw6 hg6 hv6
        have hAR6 := ARow.snoc (kd := 5) (x := zs) (Ax := some ⟨gz, 0, none⟩) (cx := z) (HAR.out.below hbd5) hw6 hg6 hv6 hIx (fun _ a e => ⟨fun e2 => by cases e; have h1 := (HAR.out.lt _ e2).2; simp only at h1; omega, by cases e; have := HBS.out; simp only; omega⟩) cells (by rw [hbz.1]) ⟨hown, hcells⟩
        have hgne : some g ≠ (Value.slice A n c).ownBlock := fun e => by have := (HAR.out.lt g e.symm).1; have := HGB.out; omega
        have hP6 := (HP.out.below hbd5 HP.out.lt).grown hg6 hgne
        have hb6 : Below w.heap.size w w6 := (HBR.out.trans (hbd5.mono HBR.out.size)).trans ⟨hg6.os, hg6.tape, hg6.output, hg6.size, fun k hk => hg6.block k (Nat.lt_of_lt_of_le hk (Nat.le_trans HBR.out.size hbd5.size)) (fun e => by have := (HAR.out.lt k e.symm).1; have := HGB.out; have := HG0.out; omega)⟩
        have HAR6 := Lib.hid hAR6
        obtain ⟨A6, c6, hv6e, _⟩ := HAR6.out.slice
        obtain ⟨n6, hn6⟩ : ∃ n6, (la ++ [((5 : Int), zs)]).length = n6 := ⟨_, rfl⟩
        rw [hn6] at hv6e
        subst hv6e
        refine hK.out _ _ ((hP6.cell 18).trans (pkC_last _ _ _ _ _ _ rfl)) (fun hHeld => ?_)
        have HBS6 := Lib.hid (Nat.le_trans (Nat.le_trans HBS.out hbd5.size) hg6.size)
        clear hK K hown hcells hw6 hg6 hv6 hAR6 hgne hns hIx
        have HP6 := Lib.hid hP6
        have HB6 := Lib.hid hb6
        have HN6 := Lib.hid hn6
        clear hP6 hb6 hn6
        try simp only [Act.put, List.setIfInBounds_toArray, List.set_cons_zero, List.set_cons_succ]
        refine but_take (i := 8) (oi := ⟨_, _, _, _, _, _⟩) (v := ?_) rfl (by kernel_rfl) (by kernel_rfl) (by kernel_rfl) (by kernel_rfl) (fun _ _ _ h => h) (Or.inl ⟨by rfl, ?_⟩) hHeld ?_
        rotate_left 1
        · (intro W hSw; (try dsimp only at hSw); go_simp; try with_reducible rfl)
        try simp only [Act.put, List.setIfInBounds_toArray, List.set_cons_zero, List.set_cons_succ]
        refine but_last (o := ⟨_, _, _, _, _, _⟩) (by kernel_rfl) rfl (by kernel_rfl) (fun K hK => ?_)
        have hc18' : w6.cell? ⟨g, 18, none⟩ = some (.slice A n c) := (HP6.out.cell 18).trans (pkC_last _ _ _ _ _ _ rfl)
        have hf18 := HP6.out.frozen 18
        go_simp
        refine hK.out _ _ ?_
        clear hK K hc18' hf18 hHeld
        refine NoPanic.normal ?_
        have hPs := HP6.out.set_ 18 (.slice A6 n6 c6)
        rw [pkC_set _ _ _ _ _ _ _ _ _ rfl] at hPs
        have hg7 : w6.grownBy (w6.setCell ⟨g, 18, none⟩ (.slice A6 n6 c6)) (some g) := grown_setCell (grown_refl w6 _) (.inl rfl) _
        have HAR7 := Lib.hid (HAR6.out.grown hg7 HGB.out)
        have HB7 := Lib.hid (HB6.out.setCell (p := ⟨g, 18, none⟩) HG0.out (.slice A6 n6 c6))
        have HP7 := Lib.hid hPs
        have HBS7 := Lib.hid (show B1 ≤ (w6.setCell ⟨g, 18, none⟩ (.slice A6 n6 c6)).heap.size from Nat.le_trans HBS6.out hg7.size)
        clear hPs hg7
        generalize w6.setCell ⟨g, 18, none⟩ (.slice A6 n6 c6) = w7 at *
        go_wp2
        go_roundw
        case rel => exact ⟨k', n6, c6, A6, la ++ [((5 : Int), zs)], by rw [e5], HZ.out.2.2.1, (by have := HZ.out.2.1; have := HZ.out.2.2.2; omega), HP7.out, HAR7.out, (by rw [List.all_append, HC.out.1]; simp [attrOK, HZS.out]; exact HZ.out.1), (by have := HC.out.2.1; unfold hasMark at this ⊢; rw [List.any_append, this]; simp), (ix_sumR HC.out.2.2 HZ.out.2.1 (by rw [HZS.out, List.length_replicate])), HB7.out, HBS7.out⟩
        case measure => rw [e5]; exact ix_measR HZ.out.2.1
end Go.Proofs.YtbomckbekcaemaaDoor
