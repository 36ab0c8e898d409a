/-
  What unmarked leaves as it was.
-/
import Derived.Test.YtbomckbekcaemaaDoorRsv
namespace Go.Proofs.YtbomckbekcaemaaDoor
open Go.RowKit

/-- What unmarked hands back: values that lay there before a world, or are new. -/
def UnPostX (E : Pk × Nat) (X base : Nat) (w : World) (e : Ending) (w' : World) : Prop :=
  ∃ A m c, e = .returned (.tuple #[.agg (pkC E.1.1 E.1.2.1 E.1.2.2.1 A m c).toArray, .int .i64 (E.2 : Int)]) ∧ E.1.2.2.2.length = m ∧ AInK (fun b => base ≤ b ∧ b < X) w' w'.heap.size A c E.1.2.2.2 ∧ E.1.2.2.1.length = 16 ∧ Below base w w' ∧ ∀ a, A = some a → w.heap.size ≤ a.block
/-- All blocks stay but one row's own. -/
def FarX (A : Option Addr) (w w' : World) : Prop := w.heap.size ≤ w'.heap.size ∧ ∀ b, b < w.heap.size → (∀ a, A = some a → a.block ≠ b) → w'.heap[b]? = w.heap[b]?
theorem FarX.of {A : Option Addr} {w w' : World} (h : Below w.heap.size w w') : FarX A w w' := ⟨h.size, fun b hb _ => h.block b hb⟩
theorem FarX.trans {A : Option Addr} {w w' w'' : World} (h : FarX A w w') (k : Below w'.heap.size w' w'') : FarX A w w'' :=
  ⟨Nat.le_trans h.1 k.size, fun b hb ha => (k.block b (Nat.lt_of_lt_of_le hb h.1)).trans (h.2 b hb ha)⟩
theorem FarX.own {w w' w'' : World} {gp : Nat} (h : Below w.heap.size w w') (k : w'.grownBy w'' (some gp)) : FarX (some ⟨gp, 0, none⟩) w w'' :=
  ⟨Nat.le_trans h.size k.size, fun b hb ha => (k.block b (Nat.lt_of_lt_of_le hb h.size) (fun e => ha _ rfl (by injection e with e; exact e.symm))).trans (h.block b hb)⟩
theorem FarX.new {A : Option Addr} {w w' w'' : World} {x : Nat} (h : FarX A w w') (k : w'.grownBy w'' (some x)) (hx : w.heap.size ≤ x) : FarX A w w'' :=
  ⟨Nat.le_trans h.1 k.size, fun b hb ha => (k.block b (Nat.lt_of_lt_of_le hb h.1) (fun e => by injection e with e; omega)).trans (h.2 b hb ha)⟩
set_option maxRecDepth 100000 in
set_option maxHeartbeats 4000000 in
theorem unmarked_far (base c n ls cs : Nat) (code id : Int) (Q : List UInt8) (A As : Option Addr) (la : Attrs) (sec : List UInt8) (w : World) (hbs : base ≤ w.heap.size) (hQ : Q.length = 16) (hA : ARow w base (.slice A n c) la) (hls : sec.length = ls) (is : In w base As cs sec) (ht : TabsB base w) (hm : n ≤ 400000) (hm2 : ls ≤ 1000000) (hok : pkOK code id la = true) (w0 : World) (h0 : Below w0.heap.size w0 w) (hA0 : ARow w0 base (.slice A n c) la) :
    Calls Tryd.prog 54 #[.agg (pkC code id Q A n c).toArray, .slice As ls cs] w (fun e w' => UnPostX (unmarkE code id Q la sec) w0.heap.size base w e w' ∧ FarX A w w') := by
  have HIX := Lib.hid (fun (W : World) (hb : Below w.heap.size w W) => indexFunc_e A c n la W hA.ain.1 (hA.ain.2.up hb))
  have HQ := Lib.hid hQ
  have H0 := Lib.hid h0
  have HA0 := Lib.hid hA0
  clear h0 hA0
  have HA := Lib.hid hA
  have HS := Lib.hid (And.intro hls (And.intro is (And.intro ht hm2)))
  have HNM := Lib.hid hm
  have HOK := Lib.hid hok
  have HBS := Lib.hid hbs
  clear hbs hQ hA hls is ht hm hm2 hok
  go_enter Tryd.func54, Tryd.ntmps54
  go_upto_region 1 with (fail)
  have hP := (Blk.new_of w 30 (pkC code id Q A n c).toArray (pkC code id Q A n c) rfl).alloc (.cells #[.int .i64 0, .int .i64 0, .int .u8 0, .int .u8 0, .int .u8 0, .int .u8 0, .int .u8 0, .int .u8 0, .int .u8 0, .int .u8 0, .int .u8 0, .int .u8 0, .int .u8 0, .int .u8 0, .int .u8 0, .int .u8 0, .int .u8 0, .int .u8 0, .slice none 0 0] 30)
  have hR := Blk.new2_of w (.cells (pkC code id Q A n c).toArray 30) 30 #[.int .i64 0, .int .i64 0, .int .u8 0, .int .u8 0, .int .u8 0, .int .u8 0, .int .u8 0, .int .u8 0, .int .u8 0, .int .u8 0, .int .u8 0, .int .u8 0, .int .u8 0, .int .u8 0, .int .u8 0, .int .u8 0, .int .u8 0, .int .u8 0, .slice none 0 0] (pkC 0 0 zQ none 0 0) rfl
  have hb0 : Below w.heap.size w ((w.alloc (.cells (pkC code id Q A n c).toArray 30)).alloc (.cells #[.int .i64 0, .int .i64 0, .int .u8 0, .int .u8 0, .int .u8 0, .int .u8 0, .int .u8 0, .int .u8 0, .int .u8 0, .int .u8 0, .int .u8 0, .int .u8 0, .int .u8 0, .int .u8 0, .int .u8 0, .int .u8 0, .int .u8 0, .int .u8 0, .slice none 0 0] 30)) := ((Below.refl _ _).alloc (Nat.le_refl _) _).alloc (by simp) _
  obtain ⟨gr, hgr⟩ : ∃ gr, gr = w.heap.size + 1 := ⟨_, rfl⟩
  obtain ⟨g, hg⟩ : ∃ g, g = w.heap.size := ⟨_, rfl⟩
  have HG := Lib.hid (show w.heap.size ≤ g ∧ g < gr by omega)
  rw [← hgr] at hR
  rw [← hg] at hP
  simp only [← hgr]
  clear hgr
  simp only [← hg]
  have HP := Lib.hid hP
  have HR := Lib.hid hR
  have HBW := Lib.hid hb0
  clear hg hP hR hb0
  generalize (w.alloc (.cells (pkC code id Q A n c).toArray 30)).alloc (.cells #[.int .i64 0, .int .i64 0, .int .u8 0, .int .u8 0, .int .u8 0, .int .u8 0, .int .u8 0, .int .u8 0, .int .u8 0, .int .u8 0, .int .u8 0, .int .u8 0, .int .u8 0, .int .u8 0, .int .u8 0, .int .u8 0, .int .u8 0, .int .u8 0, .slice none 0 0] 30) = w1 at *
  have HC18 := Lib.hid (fun (W : World) (h : Below w1.heap.size w1 W) => (show W.cell? ⟨g, 18, none⟩ = some (.slice A n c) from ((HP.out.below h HP.out.lt).cell 18).trans (pkC_last code id Q A n c HQ.out)))
  have hc18 := HC18.out w1 (Below.refl _ _)
  go_upto_region 2 with (go_at_call 77; refine (HIX.out _ HBW.out).mono ?_; rintro e w2 ⟨r, rfl, hr, hb2⟩)
  have HB2 := Lib.hid hb2
  have HW2 := Lib.hid (HBW.out.trans (hb2.mono HBW.out.size))
  clear hb2 hc18
  rcases hr with ⟨rfl, hno⟩ | ⟨k, rfl, hk, h80, hno⟩
  · have HZ := Lib.hid (show unmarkE code id Q la sec = (zeroPk, 5) by unfold unmarkE; rw [if_neg]; exact fun h => markAt_no hno h.1)
    clear hno
    go_wp2_with ((with_reducible refine (?_ : wpList _ _ _ (Oper.mk none _ _ _ _ _ :: _) _ _)); go_loud (refine wpList_store_blk rfl 30 (.tmp 4) (.tmp 15) rfl rfl gr (pkC 0 0 zQ none 0 0) rfl rfl _ _ (HR.out.below HB2.out HR.out.lt) (infPk) (rfl) (pk_one _ _ _ _ _ _) ?_); intro wz hPz hgz)
    refine bodyPost_ret (v := .tuple #[.agg _, _]) (results_cs rfl _ _ gr 30 _ _ _ rfl rfl hPz Tryd.underlying30 rfl infPk) rfl ?_
    exact ⟨⟨none, 0, 0, by rw [HZ.out] <;> rfl, by rw [HZ.out]; rfl, by rw [HZ.out]; exact aIn_nil _ _ _, by rw [HZ.out]; rfl, below_new (HW2.out.mono HBS.out) hgz (Nat.le_trans HBS.out (Nat.le_trans HG.out.1 (Nat.le_of_lt HG.out.2))) (Nat.le_trans HBS.out (HW2.out.mono HBS.out).size), fun _ h => by cases h⟩, FarX.of (below_new HW2.out hgz (Nat.le_trans HG.out.1 (Nat.le_of_lt HG.out.2)) HW2.out.size)⟩
  · have hka := markAt_at hk h80 hno
    have hE : unmarkE code id Q la sec = if (la.getD k (0, [])).2.length = 16 ∧ hasMark (la.take k ++ la.drop (k + 1)) = false ∧ (la.getD k (0, [])).2 = hmacQ sec (pkB code id Q (la.set k (80, zQ))) then ((code, id, Q, la.take k ++ la.drop (k + 1)), 0) else (zeroPk, 5) := by
      unfold unmarkE
      rw [hka]
      simp [hk]
    have hla := HA.out.ain.1
    have hkn : k < n := by omega
    obtain ⟨gp, hAe, hgp1, hgp2, hnc⟩ := HA.out.some (by omega)
    subst hAe
    have HK2 := Lib.hid ((HA0.out.toK.upK (H0.out.trans (HW2.out.mono H0.out.size))).weaken (Nat.le_refl _) (fun b hb => (show b ≠ gp ∧ b ≠ g ∧ b ≠ gr ∧ base ≤ b ∧ b < w0.heap.size from ⟨hb.1, by have := HG.out.1; have := hb.2.1; have := H0.out.size; omega, by have := HG.out; have := hb.2.1; have := H0.out.size; omega, hb.2.2, hb.2.1⟩)))
    obtain ⟨gp', op', hgp', _, hrow⟩ := HK2.out.2.2 (by omega)
    cases hgp'
    obtain ⟨Aj, cj, h1, h2, h3, h4⟩ := hrow k hk
    obtain ⟨v, hv⟩ : ∃ v, v = (la.getD k (0, [])).2 := ⟨_, rfl⟩
    rw [← hv] at h2 h3 h4 hE
    obtain ⟨vl, hvl⟩ : ∃ vl, vl = v.length := ⟨_, rfl⟩
    rw [← hvl] at h2 hE
    rw [Nat.zero_add] at h2
    obtain ⟨k1, hk1⟩ : ∃ k1, k1 = k + 1 := ⟨_, rfl⟩
    obtain ⟨o1, HO1⟩ := ix_cutA c k1
    rw [← hk1] at hE
    have HAT := Lib.hid (HK2.out.take k)
    have HAD := Lib.hid (HK2.out.drop k1 (by omega) HO1.out)
    have HLT := Lib.hid (show (la.take k).length = k ∧ (la.drop k1).length = n - k1 by rw [List.length_take, List.length_drop]; omega)
    have HLM := Lib.hid (show k ≤ 400000 ∧ n - k1 ≤ 400000 by have := HNM.out; omega)
    have HCV := Lib.hid (fun (W : World) (h : Below w2.heap.size w2 W) => (show W.cell? ⟨gp, k * 2 + 1, none⟩ = some (.slice Aj vl cj) from (h.cell (p := ⟨gp, k * 2 + 1, none⟩) (Nat.lt_of_lt_of_le hgp2 HW2.out.size)).trans h2))
    have HGP := Lib.hid (And.intro hgp1 (And.intro hgp2 hnc))
    have HV := Lib.hid (And.intro hvl (And.intro h3 (And.intro h4 hv)))
    have HKN := Lib.hid (And.intro hk (And.intro hka (And.intro hk1 hla)))
    have HE := Lib.hid hE
    have hk0 : ¬ (k : Int) < 0 := by omega
    obtain ⟨e1, e2, e3, e4, e5, e6, e7, e8, e9⟩ := ix_k1 hk1 hkn hnc HNM.out
    clear hrow h1 h2 h3 h4 hvl hv hgp1 hgp2 hk hka hE hno h80 hk1 hla hkn hnc
    go_upto_region 4 with (fail)
    clear hk0
    refine wp_region_noPanic ?_
    refine wp_region_held_drew (S := fun W => Below w2.heap.size w2 W) (by kernel_rfl) (by exact below_drewN (Below.refl _ _) 1) (fun hHeld => ?_)
    refine wpAnyH_take (i := 0) (oi := ⟨_, _, _, _, _, _⟩) (v := ?_) rfl (by kernel_rfl) (by kernel_rfl) (by kernel_rfl) (fun _ _ _ h => h) (Or.inl ⟨by rfl, ?_⟩) hHeld ?_
    rotate_left 1
    · (intro W hSw; (try dsimp only at hSw); go_simp; try with_reducible rfl)
    try simp only [Act.put, List.setIfInBounds_toArray, List.set_cons_zero, List.set_cons_succ]
    refine wpAnyH_take (i := 1) (oi := ⟨_, _, _, _, _, _⟩) (v := ?_) rfl (by kernel_rfl) (by kernel_rfl) (by kernel_rfl) (fun _ _ _ h => h) (Or.inl ⟨by rfl, ?_⟩) hHeld ?_
    rotate_left 1
    · (intro W hSw; (try dsimp only at hSw); have hcc := HC18.out W (HB2.out.trans (hSw.mono HB2.out.size)); go_simp; try with_reducible rfl)
    try simp only [Act.put, List.setIfInBounds_toArray, List.set_cons_zero, List.set_cons_succ]
    refine wpAnyH_take (i := 2) (oi := ⟨_, _, _, _, _, _⟩) (v := ?_) rfl (by kernel_rfl) (by kernel_rfl) (by kernel_rfl) (fun _ _ _ h => h) (Or.inl ⟨by rfl, ?_⟩) hHeld ?_
    rotate_left 1
    · (intro W hSw; (try dsimp only at hSw); go_simp; try with_reducible rfl)
    try simp only [Act.put, List.setIfInBounds_toArray, List.set_cons_zero, List.set_cons_succ]
    refine wpAnyH_take (i := 3) (oi := ⟨_, _, _, _, _, _⟩) (v := ?_) rfl (by kernel_rfl) (by kernel_rfl) (by kernel_rfl) (fun _ _ _ h => h) (Or.inl ⟨by rfl, ?_⟩) hHeld ?_
    rotate_left 1
    · (intro W hSw; (try dsimp only at hSw); go_simp; try with_reducible rfl)
    try simp only [Act.put, List.setIfInBounds_toArray, List.set_cons_zero, List.set_cons_succ]
    refine wpAnyH_take (i := 4) (oi := ⟨_, _, _, _, _, _⟩) (v := ?_) rfl (by kernel_rfl) (by kernel_rfl) (by kernel_rfl) (fun _ _ _ h => h) (Or.inl ⟨by rfl, ?_⟩) hHeld ?_
    rotate_left 1
    · (intro W hSw; (try dsimp only at hSw); go_simp; try with_reducible rfl)
    try simp only [Act.put, List.setIfInBounds_toArray, List.set_cons_zero, List.set_cons_succ]
    refine wpAnyH_take (i := 5) (oi := ⟨_, _, _, _, _, _⟩) (v := ?_) rfl (by kernel_rfl) (by kernel_rfl) (by kernel_rfl) (fun _ _ _ h => h) (Or.inl ⟨by rfl, ?_⟩) hHeld ?_
    rotate_left 1
    · (intro W hSw; (try dsimp only at hSw); have hcv := HCV.out W hSw; go_simp; try with_reducible rfl)
    try simp only [Act.put, List.setIfInBounds_toArray, List.set_cons_zero, List.set_cons_succ]
    refine wpAnyH_take (i := 6) (oi := ⟨_, _, _, _, _, _⟩) (v := ?_) rfl (by kernel_rfl) (by kernel_rfl) (by kernel_rfl) (fun _ _ _ h => h) (Or.inl ⟨by rfl, ?_⟩) hHeld ?_
    rotate_left 1
    · (intro W hSw; (try dsimp only at hSw); go_simp; try with_reducible rfl)
    try simp only [Act.put, List.setIfInBounds_toArray, List.set_cons_zero, List.set_cons_succ]
    refine wpAnyH_take (i := 7) (oi := ⟨_, _, _, _, _, _⟩) (v := ?_) rfl (by kernel_rfl) (by kernel_rfl) (by kernel_rfl) (fun _ _ _ h => h) (Or.inl ⟨by rfl, ?_⟩) hHeld ?_
    rotate_left 1
    · (intro W hSw; (try dsimp only at hSw); have hcc := HC18.out W (HB2.out.trans (hSw.mono HB2.out.size)); go_simp; try with_reducible rfl)
    try simp only [Act.put, List.setIfInBounds_toArray, List.set_cons_zero, List.set_cons_succ]
    refine wpAnyH_take (i := 8) (oi := ⟨_, _, _, _, _, _⟩) (v := ?_) rfl (by kernel_rfl) (by kernel_rfl) (by kernel_rfl) (fun _ _ _ h => h) (Or.inl ⟨by rfl, ?_⟩) hHeld ?_
    rotate_left 1
    · (intro W hSw; (try dsimp only at hSw); go_simp; try with_reducible rfl)
    try simp only [Act.put, List.setIfInBounds_toArray, List.set_cons_zero, List.set_cons_succ]
    refine wpAnyH_take (i := 9) (oi := ⟨_, _, _, _, _, _⟩) (v := .slice (some ⟨gp, 0, none⟩) k c) rfl (by kernel_rfl) (by kernel_rfl) (by kernel_rfl) (fun _ _ _ h => h) (Or.inl ⟨by rfl, ?_⟩) hHeld ?_
    · (intro W hSw; go_simp)
    try simp only [Act.put, List.setIfInBounds_toArray, List.set_cons_zero, List.set_cons_succ]
    refine wpAnyH_take (i := 10) (oi := ⟨_, _, _, _, _, _⟩) (v := ?_) rfl (by kernel_rfl) (by kernel_rfl) (by kernel_rfl) (fun _ _ _ h => h) (Or.inl ⟨by rfl, ?_⟩) hHeld ?_
    rotate_left 1
    · (intro W hSw; (try dsimp only at hSw); go_simp; try with_reducible rfl)
    try simp only [Act.put, List.setIfInBounds_toArray, List.set_cons_zero, List.set_cons_succ]
    refine wpAnyH_take (i := 11) (oi := ⟨_, _, _, _, _, _⟩) (v := ?_) rfl (by kernel_rfl) (by kernel_rfl) (by kernel_rfl) (fun _ _ _ h => h) (Or.inl ⟨by rfl, ?_⟩) hHeld ?_
    rotate_left 1
    · (intro W hSw; (try dsimp only at hSw); have hcc := HC18.out W (HB2.out.trans (hSw.mono HB2.out.size)); go_simp; try with_reducible rfl)
    try simp only [Act.put, List.setIfInBounds_toArray, List.set_cons_zero, List.set_cons_succ]
    refine wpAnyH_take (i := 12) (oi := ⟨_, _, _, _, _, _⟩) (v := ?_) rfl (by kernel_rfl) (by kernel_rfl) (by kernel_rfl) (fun _ _ _ h => h) (Or.inl ⟨by rfl, ?_⟩) hHeld ?_
    rotate_left 1
    · (intro W hSw; (try dsimp only at hSw); go_simp; try with_reducible rfl)
    try simp only [Act.put, List.setIfInBounds_toArray, List.set_cons_zero, List.set_cons_succ]
    refine wpAnyH_take (i := 13) (oi := ⟨_, _, _, _, _, _⟩) (v := ?_) rfl (by kernel_rfl) (by kernel_rfl) (by kernel_rfl) (fun _ _ _ h => h) (Or.inl ⟨by rfl, ?_⟩) hHeld ?_
    rotate_left 1
    · (intro W hSw; (try dsimp only at hSw); go_simp; try with_reducible rfl)
    try simp only [Act.put, List.setIfInBounds_toArray, List.set_cons_zero, List.set_cons_succ]
    refine wpAnyH_take (i := 14) (oi := ⟨_, _, _, _, _, _⟩) (v := .slice (some ⟨gp, o1, none⟩) (n - k1) (c - k1)) rfl (by kernel_rfl) (by kernel_rfl) (by kernel_rfl) (fun _ _ _ h => h) (Or.inl ⟨by rfl, ?_⟩) hHeld ?_
    · (intro W hSw; rcases HO1.out with ⟨hcx, hox⟩ | ⟨hcx, hox⟩ <;> subst hox <;> first | (subst hcx; go_simp; done) | go_simp)
    try simp only [Act.put, List.setIfInBounds_toArray, List.set_cons_zero, List.set_cons_succ]
    replace hHeld : Below w2.heap.size w2 w2.drew := hHeld
    generalize w2.drew = wd at *
    refine wpAnyH_ready (rs := [15]) (by kernel_rfl) (by simp) ?_
    refine AllReadyH.cons (o := ⟨_, _, _, _, _, _⟩) rfl (fun K hK => ?_) AllReadyH.nil
    go_simp
    have hszx := hHeld.size
    have hq0 := (Blk.new_of wd 28 #[.slice (some ⟨gp, 0, none⟩) k c, .slice (some ⟨gp, o1, none⟩) (n - k1) (c - k1)] [.slice (some ⟨gp, 0, none⟩) k c, .slice (some ⟨gp, o1, none⟩) (n - k1) (c - k1)] rfl).cell 0
    have hq1 := (Blk.new_of wd 28 #[.slice (some ⟨gp, 0, none⟩) k c, .slice (some ⟨gp, o1, none⟩) (n - k1) (c - k1)] [.slice (some ⟨gp, 0, none⟩) k c, .slice (some ⟨gp, o1, none⟩) (n - k1) (c - k1)] rfl).cell 1
    have hql := (Blk.new_of wd 28 #[.slice (some ⟨gp, 0, none⟩) k c, .slice (some ⟨gp, o1, none⟩) (n - k1) (c - k1)] [.slice (some ⟨gp, 0, none⟩) k c, .slice (some ⟨gp, o1, none⟩) (n - k1) (c - k1)] rfl).lt
    refine hK.out _ _ (hHeld.alloc hszx _) (fun hHeld => ?_)
    replace hHeld : Below w2.heap.size w2 (wd.alloc (.cells #[.slice (some ⟨gp, 0, none⟩) k c, .slice (some ⟨gp, o1, none⟩) (n - k1) (c - k1)] 28)) := hHeld
    clear hK K
    generalize wd.heap.size = g4 at *
    generalize wd.alloc (.cells #[.slice (some ⟨gp, 0, none⟩) k c, .slice (some ⟨gp, o1, none⟩) (n - k1) (c - k1)] 28) = w4 at *
    try simp only [Act.put, List.setIfInBounds_toArray, List.set_cons_zero, List.set_cons_succ]
    refine wpAnyH_ready (rs := [16]) (by kernel_rfl) (by simp) ?_
    refine AllReadyH.cons (o := ⟨_, _, _, _, _, _⟩) rfl (fun K hK => ?_) AllReadyH.nil
    go_simp
    go_at_call 66
    refine (concat2_e (fun b => b ≠ gp ∧ b ≠ g ∧ b ≠ gr ∧ base ≤ b ∧ b < w0.heap.size) g4 k (n - k1) c (c - k1) (some ⟨gp, 0, none⟩) (some ⟨gp, o1, none⟩) (la.take k) (la.drop k1) w4 hql hq0 hq1 HLT.out.1 HLT.out.2 (HAT.out.upK hHeld) (HAD.out.upK hHeld) HLM.out.1 HLM.out.2).mono ?_
    rintro e w5 ⟨v5, rfl, hA5, hb5⟩
    try go_wp2_with fail
    have hszx := hHeld.size
    have HA5 := Lib.hid hA5
    obtain ⟨A5, c5, hv5, hA5i⟩ := HA5.out.slice
    obtain ⟨m5, hm5⟩ : ∃ m5, (la.take k ++ la.drop k1).length = m5 := ⟨_, rfl⟩
    rw [hm5] at hv5
    subst hv5
    have HK5 := Lib.hid (And.intro hm5 hA5i)
    have HL5 := Lib.hid (fun (a : Addr) (e : A5 = some a) => Nat.le_trans hszx (HA5.out.lt a.block (by rw [e]; rfl)).1)
    refine hK.out _ _ (hHeld.trans (hb5.mono hszx)) (fun hHeld => ?_)
    clear hK K hszx hA5 hA5i hm5 hb5 hq0 hq1 hql HA5
    try simp only [Act.put, List.setIfInBounds_toArray, List.set_cons_zero, List.set_cons_succ]
    refine wpAnyH_take (i := 17) (oi := ⟨_, _, _, _, _, _⟩) (v := ?_) rfl (by kernel_rfl) (by kernel_rfl) (by kernel_rfl) (fun _ _ _ h => h) (Or.inl ⟨by rfl, ?_⟩) hHeld ?_
    rotate_left 1
    · (intro W hSw; (try dsimp only at hSw); go_simp; try with_reducible rfl)
    try simp only [Act.put, List.setIfInBounds_toArray, List.set_cons_zero, List.set_cons_succ]
    refine wpAnyH_take (i := 18) (oi := ⟨_, _, _, _, _, _⟩) (v := ?_) rfl (by kernel_rfl) (by kernel_rfl) (by kernel_rfl) (fun _ _ _ h => h) (Or.inl ⟨by rfl, ?_⟩) hHeld ?_
    rotate_left 1
    · (intro W hSw; (try dsimp only at hSw); go_simp; try with_reducible rfl)
    try simp only [Act.put, List.setIfInBounds_toArray, List.set_cons_zero, List.set_cons_succ]
    refine wpAnyH_done (by kernel_rfl) ?_ _
    refine NoPanic.normal ?_
    replace hHeld : Below w2.heap.size w2 w5 := hHeld
    have HB5 := Lib.hid (HW2.out.trans (hHeld.mono HW2.out.size))
    have HC5 := Lib.hid (HB2.out.trans (hHeld.mono HB2.out.size))
    have HV5 := Lib.hid (HV.out.2.1.up hHeld)
    have HW5 := Lib.hid hHeld
    have hOT : ∃ OT, OT = la.take k ++ la.drop k1 := ⟨_, rfl⟩
    obtain ⟨OT, hOT⟩ := hOT
    rw [← hOT] at HK5 HE
    have HCT := Lib.hid (containsFunc_e A5 c5 m5 OT w5 HK5.out.1 HK5.out.2.toIn)
    clear hHeld HAT HAD HLT HLM HO1 hOT
    by_cases hl : vl = 16
    · skip
      subst hl
      cases hh : hasMark OT with
      | true =>
        rw [hh] at HCT HE
        have HZ := Lib.hid (show unmarkE code id Q la sec = (zeroPk, 5) by rw [HE.out, if_neg]; intro h; exact Bool.noConfusion h.2.1)
        clear hh
        go_wp2_with (first
          | (go_at_call 64; refine HCT.out.mono ?_; rintro e w6 ⟨rfl, hb6⟩; have hb6w := HB5.out.trans (hb6.mono HB5.out.size); have hR6 := HR.out.below (HC5.out.trans (hb6.mono HC5.out.size)) HR.out.lt)
          | ((with_reducible refine (?_ : wpList _ _ _ (Oper.mk none _ _ _ _ _ :: _) _ _)); go_loud (refine wpList_store_blk rfl 30 (.tmp 4) (.tmp 40) rfl rfl gr (pkC 0 0 zQ none 0 0) rfl rfl _ _ (hR6) (infPk) (rfl) (pk_one _ _ _ _ _ _) ?_); intro wz hPz hgz))
        refine bodyPost_ret (v := .tuple #[.agg _, _]) (results_cs rfl _ _ gr 30 _ _ _ rfl rfl hPz Tryd.underlying30 rfl infPk) rfl ?_
        exact ⟨⟨none, 0, 0, by rw [HZ.out] <;> rfl, by rw [HZ.out]; rfl, by rw [HZ.out]; exact aIn_nil _ _ _, by rw [HZ.out]; rfl, below_new (hb6w.mono HBS.out) hgz (Nat.le_trans HBS.out (Nat.le_trans HG.out.1 (Nat.le_of_lt HG.out.2))) (Nat.le_trans HBS.out (hb6w.mono HBS.out).size), fun _ h => by cases h⟩, FarX.of (below_new hb6w hgz (Nat.le_trans HG.out.1 (Nat.le_of_lt HG.out.2)) hb6w.size)⟩
      | false =>
        rw [hh] at HCT HE
        clear hh
        go_upto_region 7 with (go_at_call 64; refine HCT.out.mono ?_; rintro e w6 ⟨rfl, hb6⟩)
        have HB6 := Lib.hid (HB5.out.trans (hb6.mono HB5.out.size))
        have HC6 := Lib.hid (HC5.out.trans (hb6.mono HC5.out.size))
        have HV6 := Lib.hid (HV5.out.up hb6)
        have HO6 := Lib.hid (HK5.out.2.upK hb6)
        have HR6 := Lib.hid (HK2.out.upK (HW5.out.trans (hb6.mono HW5.out.size)))
        clear hb6
        refine wp_region_noPanic ?_
        refine wp_region_but (S := fun W => Below w6.heap.size w6 W) 5 (by kernel_rfl) (by exact below_drewN (Below.refl _ _) 1) (fun hHeld => ?_)
        refine but_take (i := 0) (oi := ⟨_, _, _, _, _, _⟩) (v := ?_) rfl (by kernel_rfl) (by kernel_rfl) (by kernel_rfl) (by kernel_rfl) (fun _ _ _ h => h) (Or.inl ⟨by rfl, ?_⟩) hHeld ?_
        rotate_left 1
        · (intro W hSw; (try dsimp only at hSw); go_simp; try with_reducible rfl)
        try simp only [Act.put, List.setIfInBounds_toArray, List.set_cons_zero, List.set_cons_succ]
        refine but_take (i := 1) (oi := ⟨_, _, _, _, _, _⟩) (v := ?_) rfl (by kernel_rfl) (by kernel_rfl) (by kernel_rfl) (by kernel_rfl) (fun _ _ _ h => h) (Or.inl ⟨by rfl, ?_⟩) hHeld ?_
        rotate_left 1
        · (intro W hSw; (try dsimp only at hSw); have hcc := HC18.out W (HC6.out.trans (hSw.mono HC6.out.size)); go_simp; try with_reducible rfl)
        try simp only [Act.put, List.setIfInBounds_toArray, List.set_cons_zero, List.set_cons_succ]
        refine but_take (i := 2) (oi := ⟨_, _, _, _, _, _⟩) (v := ?_) rfl (by kernel_rfl) (by kernel_rfl) (by kernel_rfl) (by kernel_rfl) (fun _ _ _ h => h) (Or.inl ⟨by rfl, ?_⟩) hHeld ?_
        rotate_left 1
        · (intro W hSw; (try dsimp only at hSw); go_simp; try with_reducible rfl)
        try simp only [Act.put, List.setIfInBounds_toArray, List.set_cons_zero, List.set_cons_succ]
        replace hHeld : Below w6.heap.size w6 w6.drew := hHeld
        have hHeld0 := hHeld.size
        generalize w6.drew = wd2 at *
        refine but_ready (i := 3) (o := ⟨_, _, _, _, _, _⟩) (by kernel_rfl) rfl (fun K hK => ?_)
        go_simp
        go_at_call 67
        refine (unset_e _).mono ?_
        rintro e w7 ⟨gu, rfl, hBu, hb7⟩
        try go_wp2_with fail
        have hszx := hHeld.size
        have hgu := (hBu.lt rfl).1
        refine hK.out _ _ (hHeld.trans (hb7.mono hszx)) (fun hHeld => ?_)
        clear hK K hb7 hszx
        try simp only [Act.put, List.setIfInBounds_toArray, List.set_cons_zero, List.set_cons_succ]
        refine but_take (i := 4) (oi := ⟨_, _, _, _, _, _⟩) (v := ?_) rfl (by kernel_rfl) (by kernel_rfl) (by kernel_rfl) (by kernel_rfl) (fun _ _ _ h => h) (Or.inl ⟨by rfl, ?_⟩) hHeld ?_
        rotate_left 1
        · (intro W hSw; (try dsimp only at hSw); go_simp; try with_reducible rfl)
        try simp only [Act.put, List.setIfInBounds_toArray, List.set_cons_zero, List.set_cons_succ]
        replace hHeld : Below w6.heap.size w6 w7 := hHeld
        refine but_last (o := ⟨_, _, _, _, _, _⟩) (by kernel_rfl) rfl (by kernel_rfl) (fun K hK => ?_)
        have hth := (HA.out.below (HB6.out.trans (hHeld.mono HB6.out.size))).there k HKN.out.1
        have hgune : gu ≠ gp := by
          have := HGP.out.2.1
          have := HB6.out.size
          omega
        refine step_store_mid rfl 69 (.tmp 45) (.tmp 44) rfl rfl gp (k * 2) [.int .i64 80, .slice (some ⟨gu, 0, none⟩) 16 16] rfl rfl hth infAt2 (by simp [Value.oneCell']) ?_
        refine hK.out _ _ ?_
        clear hK K
        refine NoPanic.normal ?_
        have hg8 := grown_setCells w7 gp (k * 2) [.int .i64 80, .slice (some ⟨gu, 0, none⟩) 16 16]
        have hgne : g ≠ gp := by have := HGP.out.2.1; have := HG.out.1; omega
        have hgrne : gr ≠ gp := by have := HGP.out.2.1; have := HG.out; omega
        have HA8 := Lib.hid (aInK_set (HR6.out.upK hHeld) (fun _ h => h.1) k HKN.out.1 hth 80 zQ (some ⟨gu, 0, none⟩) 16 16 rfl (hBu.toIn (Nat.le_refl _)) (fun a e => by cases e; exact hgune))
        have HP8 := Lib.hid (((HP.out.below HC6.out HP.out.lt).below hHeld (Nat.lt_of_lt_of_le HP.out.lt HC6.out.size)).grown hg8 (fun e => hgne (by injection e)))
        have HR8 := Lib.hid (((HR.out.below HC6.out HR.out.lt).below hHeld (Nat.lt_of_lt_of_le HR.out.lt HC6.out.size)).grown hg8 (fun e => hgrne (by injection e)))
        have HO8 := Lib.hid ((HO6.out.upK hHeld).grown hg8 (fun _ a e e2 => by have h1 := HL5.out a e; have h2 := HGP.out.2.1; have h3 := HW2.out.size; omega) (fun _ h => h.1))
        have HV8 := Lib.hid (show In (w7.setCells gp (k * 2) [.int .i64 80, .slice (some ⟨gu, 0, none⟩) 16 16]) (w7.setCells gp (k * 2) [.int .i64 80, .slice (some ⟨gu, 0, none⟩) 16 16]).heap.size Aj cj v from in_weak ((HV6.out.up hHeld).grown (Nat.le_refl _) hg8 (fun h0 a e e2 => by injection e2 with e2; exact (HV.out.2.2.1 h0 a e).1 e2.symm)) hg8.size)
        have hb7w := HB6.out.trans (hHeld.mono HB6.out.size)
        have HB8 := Lib.hid (show Below base w (w7.setCells gp (k * 2) [.int .i64 80, .slice (some ⟨gu, 0, none⟩) 16 16]) from below_new (hb7w.mono HBS.out) hg8 HGP.out.1 (Nat.le_trans HBS.out hb7w.size))
        have HF8 := Lib.hid (FarX.own (gp := gp) hb7w hg8)
        clear hHeld hHeld0 hgu hBu hth hgune hg8 hgne hgrne hb7w HB5 HC5 HV5 HW5 HB6 HC6 HV6 HO6 HR6 HCT HCV
        generalize w7.setCells gp (k * 2) [.int .i64 80, .slice (some ⟨gu, 0, none⟩) 16 16] = w8 at *
        have hat := attrs_set HKN.out.1 (by rw [← HV.out.2.2.2, ← HV.out.1]) (pk_ranges HOK.out).2.2
        have HWH := Lib.hid (whole_r g c n code id Q (some ⟨gp, 0, none⟩) (la.set k (80, zQ)) w8 HP8.out HQ.out (pk_ranges HOK.out).1 (pk_ranges HOK.out).2.1 (by rw [List.length_set]; exact HKN.out.2.2.2) HA8.out hat)
        have hvl : (pkB code id Q (la.set k (80, zQ))).length ≤ 4096 := by
          have h1 := whole_fit hat
          unfold pkB
          rw [List.length_append, List.length_append, flatA_length, HQ.out]
          simp only [List.length_cons, List.length_nil]
          omega
        have hML := hmacQ_len sec (pkB code id Q (la.set k (80, zQ)))
        generalize pkB code id Q (la.set k (80, zQ)) = V at *
        generalize hMM : hmacQ sec V = M at *
        have HX := Lib.hid (And.intro hML (And.intro hMM.symm hvl))
        generalize 20 + sizeA (la.set k (80, zQ)) = n9 at *
        clear hat hvl hML hMM HA8
        go_upto_region 9 with (first
          | (go_at_call 45; refine HWH.out.mono ?_; rintro e w9 ⟨A9, c9, rfl, hB9, hb9⟩; have hl9 := hB9.1; have h9a := ((Below.refl w9.heap.size w9).alloc (Nat.le_refl _) (.cells #[.slice A9 n9 c9] 26)); have hb9b := HB8.out.trans ((hb9.trans (h9a.mono hb9.size)).mono (Nat.le_trans HBS.out HB8.out.size)))
          | (go_at_call 68; refine (qmacB_one (gp := w9.heap.size) (m := V) (x := M) (in_weak (HS.out.2.1.below hb9b) (Nat.le_trans HBS.out hb9b.size)) HS.out.1 ((hB9.toIn (Nat.le_refl _)).up h9a) hl9 ((Blk.new_of w9 _ #[.slice A9 n9 c9] [.slice A9 n9 c9] rfl).cell 0) HS.out.2.2.2 (by rw [← hl9]; exact Nat.le_trans HX.out.2.2 (by decide)) HX.out.2.1 (HS.out.2.2.1.below hb9b).1).mono ?_; rintro e w10 ⟨rfl, hb10⟩)
          | ((with_reducible refine (?_ : wpList _ _ _ (Oper.mk none _ _ _ _ _ :: _) _ _)); go_loud (refine wpList_store_blk rfl 22 (.tmp 9) (.tmp 49) rfl rfl w10.heap.size (M.map B8) rfl rfl _ _ (Blk.new_of w10 22 #[.int .u8 0, .int .u8 0, .int .u8 0, .int .u8 0, .int .u8 0, .int .u8 0, .int .u8 0, .int .u8 0, .int .u8 0, .int .u8 0, .int .u8 0, .int .u8 0, .int .u8 0, .int .u8 0, .int .u8 0, .int .u8 0] (zQ.map B8) rfl) (inf16.trans (by rw [List.length_map, HX.out.1])) (by rw [List.length_map, List.length_map, HX.out.1]; rfl) (one8 _) ?_); intro w11 hS11 hg11))
        have h10a : Below w10.heap.size w10 (w10.alloc (.cells #[.int .u8 0, .int .u8 0, .int .u8 0, .int .u8 0, .int .u8 0, .int .u8 0, .int .u8 0, .int .u8 0, .int .u8 0, .int .u8 0, .int .u8 0, .int .u8 0, .int .u8 0, .int .u8 0, .int .u8 0, .int .u8 0] 22)) := (Below.refl _ _).alloc (Nat.le_refl _) _
        have hb11 : Below w8.heap.size w8 w11 := (hb9.trans (h9a.mono hb9.size)).trans ((hb10.trans ((below_new h10a hg11 (Nat.le_refl _) h10a.size).mono hb10.size)).mono (Nat.le_trans hb9.size h9a.size))
        have HB11 := Lib.hid (HB8.out.trans (hb11.mono (Nat.le_trans HBS.out HB8.out.size)))
        have HF11 := Lib.hid (HF8.out.trans hb11)
        have HM11 := Lib.hid hS11
        have HV11 := Lib.hid (HV8.out.up hb11)
        have HP11 := Lib.hid (HP8.out.below hb11 HP8.out.lt)
        have HR11 := Lib.hid (HR8.out.below hb11 HR8.out.lt)
        have HO11 := Lib.hid (HO8.out.upK hb11)
        generalize w10.heap.size = g10 at *
        clear h10a hb11 hS11 hg11 hb10 hb9 hB9 hl9 h9a hb9b HV8 HP8 HR8 HO8 HWH HB8
        have HSM := Lib.hid (show Calls Tryd.prog 55 #[.slice Aj 16 cj, .slice (some ⟨g10, 0, none⟩) 16 16] w11 (fun e w' => e = .returned (.bool (decide (v = M))) ∧ ∃ q, w' = w11.drewN q) by
          have := same_any Aj (some ⟨g10, 0, none⟩) cj 16 w11.heap.size v M w11 HV11.out (by have := in_of_blk (o := 0) (c := 16) (n := 16) (xs := M) HM11.out (by rw [List.drop_zero, List.take_of_length_le (by rw [HX.out.1]; exact Nat.le_refl _)]) HX.out.1 (Nat.le_refl _) (by decide); exact this)
          rw [← HV.out.1, HX.out.1] at this
          exact this)
        by_cases hvM : v = M
        · have HZ := Lib.hid (show unmarkE code id Q la sec = ((code, id, Q, OT), 0) by rw [HE.out, if_pos]; exact ⟨trivial, trivial, hvM⟩)
          rw [show decide (v = M) = true by simpa using hvM] at HSM
          clear hvM
          go_upto_region 11 with (go_at_call 55; refine HSM.out.mono ?_; rintro e w12 ⟨rfl, q, rfl⟩)
          have hc18 : (w11.drewN q).cell? ⟨g, 18, none⟩ = some (.slice (some ⟨gp, 0, none⟩) n c) := (HP11.out.cell 18).trans (pkC_last code id Q _ n c HQ.out)
          have hf18 : (w11.drewN q).frozen? ⟨g, 18, none⟩ = false := HP11.out.frozen 18
          go_upto_region 12 with (fail)
          have hP13 : Blk ((w11.drewN q).setCell ⟨g, 18, none⟩ (.slice A5 m5 c5)) g 30 (pkC code id Q A5 m5 c5) := by
            have := (HP11.out.drewN q).set_ 18 (.slice A5 m5 c5)
            rwa [pkC_set _ _ _ _ _ _ _ _ _ HQ.out] at this
          have hg13 : w11.grownBy ((w11.drewN q).setCell ⟨g, 18, none⟩ (.slice A5 m5 c5)) (some g) := grown_setCell (grown_drewN (grown_refl w11 _) q) (.inl rfl) _
          have HR13 := Lib.hid (HR11.out.grown hg13 (fun e => by have := HG.out.2; injection e with e; omega))
          have HO13 := Lib.hid (HO11.out.grown hg13 (fun _ a e e2 => by have h1 := HL5.out a e; have h2 := HP.out.lt; have h3 := HB2.out.size; omega) (fun _ h => h.2.1))
          have hgb : base ≤ g := Nat.le_trans HBS.out HG.out.1
          have HB13 := Lib.hid (show Below base w ((w11.drewN q).setCell ⟨g, 18, none⟩ (.slice A5 m5 c5)) from below_new HB11.out hg13 hgb (Nat.le_trans hgb (Nat.le_of_lt HP11.out.lt)))
          have HF13 := Lib.hid (HF11.out.new hg13 HG.out.1)
          clear hc18 hf18 hg13 hgb
          generalize (w11.drewN q).setCell ⟨g, 18, none⟩ (.slice A5 m5 c5) = w13 at *
          go_wp2_with (first
            | ((with_reducible refine (?_ : wpList _ _ _ (Oper.mk (some 57) _ _ _ _ _ :: _) _ _)); go_loud (refine wpList_load_blk rfl 30 (.tmp 2) rfl g rfl _ _ _ (hP13) Tryd.underlying30 rfl (infPk.trans (by rw [pkC_length _ _ _ _ _ _ HQ.out])) ?_))
            | ((with_reducible refine (?_ : wpList _ _ _ (Oper.mk none _ _ _ _ _ :: _) _ _)); go_loud (refine wpList_store_blk rfl 30 (.tmp 4) (.tmp 57) rfl rfl gr (pkC code id Q A5 m5 c5) rfl rfl _ _ (HR13.out) (infPk.trans (by rw [pkC_length _ _ _ _ _ _ HQ.out])) (by rw [pkC_length _ _ _ _ _ _ HQ.out]; rfl) (pk_one _ _ _ _ _ _) ?_); intro wz hPz hgz))
          refine bodyPost_ret (v := .tuple #[.agg _, _]) (results_cs rfl _ _ gr 30 _ _ _ rfl rfl hPz Tryd.underlying30 rfl (infPk.trans (by rw [pkC_length _ _ _ _ _ _ HQ.out]))) rfl ?_
          exact ⟨⟨A5, m5, c5, by rw [HZ.out] <;> rfl, by rw [HZ.out]; exact HK5.out.1, by rw [HZ.out]; exact (HO13.out.grown hgz (fun _ a e e2 => by have h1 := HL5.out a e; have h2 := HR.out.lt; have h3 := HB2.out.size; omega) (fun _ h => h.2.2.1)).weaken (Nat.le_refl _) (fun _ h => h.2.2.2), by rw [HZ.out]; exact HQ.out, below_new HB13.out hgz (Nat.le_trans HBS.out (Nat.le_trans HG.out.1 (Nat.le_of_lt HG.out.2))) (Nat.le_trans (Nat.le_trans HBS.out HG.out.1) (Nat.le_of_lt hP13.lt)), fun a e => by have h1 := HL5.out a e; have h2 := HW2.out.size; have h3 := HBS.out; omega⟩, HF13.out.new hgz (Nat.le_trans HG.out.1 (Nat.le_of_lt HG.out.2))⟩
        · have HZ := Lib.hid (show unmarkE code id Q la sec = (zeroPk, 5) by rw [HE.out, if_neg]; exact fun h => hvM h.2.2)
          rw [show decide (v = M) = false by simpa using hvM] at HSM
          clear hvM
          go_wp2_with (first
            | (go_at_call 55; refine HSM.out.mono ?_; rintro e w12 ⟨rfl, q, rfl⟩)
            | ((with_reducible refine (?_ : wpList _ _ _ (Oper.mk none _ _ _ _ _ :: _) _ _)); go_loud (refine wpList_store_blk rfl 30 (.tmp 4) (.tmp 54) rfl rfl gr (pkC 0 0 zQ none 0 0) rfl rfl _ _ (HR11.out.drewN q) (infPk) (rfl) (pk_one _ _ _ _ _ _) ?_); intro wz hPz hgz))
          refine bodyPost_ret (v := .tuple #[.agg _, _]) (results_cs rfl _ _ gr 30 _ _ _ rfl rfl hPz Tryd.underlying30 rfl infPk) rfl ?_
          exact ⟨⟨none, 0, 0, by rw [HZ.out] <;> rfl, by rw [HZ.out]; rfl, by rw [HZ.out]; exact aIn_nil _ _ _, by rw [HZ.out]; rfl, below_new (below_drewN HB11.out q) hgz (Nat.le_trans HBS.out (Nat.le_trans HG.out.1 (Nat.le_of_lt HG.out.2))) (Nat.le_trans HBS.out (below_drewN HB11.out q).size), fun _ h => by cases h⟩, (HF11.out.trans (below_drewN (Below.refl _ _) q)).new hgz (Nat.le_trans HG.out.1 (Nat.le_of_lt HG.out.2))⟩
    · skip
      have HZ := Lib.hid (show unmarkE code id Q la sec = (zeroPk, 5) by rw [HE.out, if_neg]; exact fun h => hl h.1)
      have hne : ¬ (vl : Int) = 16 := by omega
      clear hl
      go_wp2_with ((with_reducible refine (?_ : wpList _ _ _ (Oper.mk none _ _ _ _ _ :: _) _ _)); go_loud (refine wpList_store_blk rfl 30 (.tmp 4) (.tmp 40) rfl rfl gr (pkC 0 0 zQ none 0 0) rfl rfl _ _ (HR.out.below HC5.out HR.out.lt) (infPk) (rfl) (pk_one _ _ _ _ _ _) ?_); intro wz hPz hgz)
      refine bodyPost_ret (v := .tuple #[.agg _, _]) (results_cs rfl _ _ gr 30 _ _ _ rfl rfl hPz Tryd.underlying30 rfl infPk) rfl ?_
      exact ⟨⟨none, 0, 0, by rw [HZ.out] <;> rfl, by rw [HZ.out]; rfl, by rw [HZ.out]; exact aIn_nil _ _ _, by rw [HZ.out]; rfl, below_new (HB5.out.mono HBS.out) hgz (Nat.le_trans HBS.out (Nat.le_trans HG.out.1 (Nat.le_of_lt HG.out.2))) (Nat.le_trans HBS.out (HB5.out.mono HBS.out).size), fun _ h => by cases h⟩, FarX.of (below_new HB5.out hgz (Nat.le_trans HG.out.1 (Nat.le_of_lt HG.out.2)) HB5.out.size)⟩
end Go.Proofs.YtbomckbekcaemaaDoor
