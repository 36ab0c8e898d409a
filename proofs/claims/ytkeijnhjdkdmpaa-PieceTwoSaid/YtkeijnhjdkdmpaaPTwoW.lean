/-
  The walk of the statement PieceTwo.
-/
import Derived.Test.YtkeijnhjdkdmpaaPSplitsW
namespace Go.Proofs.Ytkeijnhjdkdmpaa
open Go.RowKit

/-- Two joiners have nothing in common. -/
def Disj (g : Nat) (A : Option Addr) (g' : Nat) (A' : Option Addr) : Prop := ∀ i, Ours g A i → ¬ Ours g' A' i
theorem Disj.symm {g g' : Nat} {A A' : Option Addr} (h : Disj g A g' A') : Disj g' A' g A := fun i h1 h2 => h i h2 h1
theorem Disj.step {w : World} {base g g' c' C' : Nat} {A A' A2 : Option Addr} {F' : List UInt8} (h : Disj g A g' A') (hJ : JoinAt w base g' A' c' F' C') (hf : A2 = none ∨ Fresh w A A2) : Disj g A2 g' A' := fun i h1 h2 => by
  rcases h1 with rfl | h1
  · exact h i (.inl rfl) h2
  · rcases hf with rfl | rfl | ⟨y, rfl, hy⟩
    · cases h1
    · exact h i (.inr h1) h2
    · simp only [ownOf, Option.some.injEq] at h1
      subst h1
      have := (hJ.ours h2).2
      omega
/-- One piece of a flight taken. -/
def StepPost (L : List UInt8) (ps : List (List UInt8)) (k m : Nat) (d : Bool) (base g : Nat) (A : Option Addr) (W : World) (e : Ending) (w' : World) : Prop :=
  ∃ A8 n8 c8 out A1 c1 F1 C1, e = .returned (.tuple #[.slice A8 n8 c8, .bool d, .int .i64 0]) ∧ (convert 23 9 (.slice A8 n8 c8)).run Try.prog w' = .ok (.string ⟨out.toArray⟩) w' ∧ (out = if m ≤ k + 1 then L else []) ∧ JoinAt w' base g A1 c1 F1 C1 ∧ Runs L F1 C1 (ps.drop (k + 1)) ∧ (A1 = none ∨ Fresh W A A1) ∧ Chg (Ours g A) W w'
theorem run_step {L F : List UInt8} {ps : List (List UInt8)} {k m base g c C pl ck : Nat} {A Ak : Option Addr} {W : World} (hJ : JoinAt W base g A c F C) (hrun : Runs L F C (ps.drop k)) (hm : m = ps.length) (hk : k < m) (hbase : base ≤ W.heap.size)
    (hpl : (ps.getD k []).length = pl) (hik : In W W.heap.size Ak ck (ps.getD k [])) (h4 : pl ≤ 4000) (d : Bool) (hd : decide (k + 1 = m) = d) :
    Calls Try.prog 14 #[.pointer (some ⟨g, 0, none⟩), .slice Ak pl ck] W (StepPost L ps k m d base g A W) := by
  subst hd
  have hkp : k < ps.length := by rw [← hm]; exact hk
  rw [drop_cons hkp] at hrun
  obtain ⟨hF9, out, F1, C1, htk, hout, hrun1⟩ := hrun
  have hr : (ps.drop (k + 1)).isEmpty = decide (k + 1 = m) := by rw [drop_last hkp, hm]
  rw [hr] at htk hout
  have h := take_e base g A Ak c ck pl C F (ps.getD k []) W hJ hpl hik (by omega) (by omega) hbase
  rw [htk] at h
  refine h.mono ?_
  rintro e w' ⟨A8, n8, c8, A1, c1, rfl, hX, _, _, hJ1, hF, hC⟩
  refine ⟨A8, n8, c8, out, A1, c1, F1, C1, rfl, conv_in hX.1 (hX.toIn (Nat.le_refl _)), ?_, hJ1, hrun1, hF, hC⟩
  rw [hout]
  by_cases hl : k + 1 = m
  · rw [decide_eq_true hl, if_pos rfl, if_pos (by omega)]
  · rw [decide_eq_false hl, if_neg (by decide), if_neg (by omega)]
theorem split_fine {b : List UInt8} {z : Nat} (h1 : 16 ≤ z) (h2 : z ≤ 4000) (h3 : b.length ≤ 32768) : (splitE b (z : Int)).2 = 0 ∧ 0 < (splitE b (z : Int)).1.length := by
  unfold splitE
  rw [if_neg (by omega), if_neg (by omega)]
  split
  · exact ⟨rfl, by simp⟩
  · exact ⟨rfl, by simp⟩
theorem take_non1 : takeE [] 0 [192, 0, 0, 0, 9, 1] = ([], false, 0, [1], 9) := by decide +kernel
theorem take_non2 : takeE [1] 9 [33] = ([], false, 2, [], 0) := by decide +kernel
theorem ix_size (a : Int) : ∃ q z : Nat, wrap64 ((IntKind.u64.wrap a).tmod 50) = (q : Int) ∧ IntKind.i64.wrap ((IntKind.u64.wrap a).tmod 50) = (q : Int) ∧ (16 : Int) + (q : Int) = (z : Int) ∧ IntKind.i64.wrap (z : Int) = (z : Int) ∧ wrap64 (z : Int) = (z : Int) ∧ 16 ≤ z ∧ z ≤ 4000 := by
  have hu0 : (0 : Int) ≤ IntKind.u64.wrap a := by rw [IntKind.wrap_u64]; omega
  have hq : (IntKind.u64.wrap a % 50).toNat < 50 := by omega
  have e1 : wrap64 ((IntKind.u64.wrap a).tmod 50) = ((IntKind.u64.wrap a % 50).toNat : Int) := by rw [Int.tmod_eq_emod_of_nonneg hu0]; unfold wrap64; omega
  have e2 : IntKind.i64.wrap ((IntKind.u64.wrap a).tmod 50) = ((IntKind.u64.wrap a % 50).toNat : Int) := by rw [Int.tmod_eq_emod_of_nonneg hu0, IntKind.wrap_i64]; omega
  generalize (IntKind.u64.wrap a % 50).toNat = q at *
  refine ⟨q, 16 + q, e1, e2, by omega, ?_, ?_, by omega, by omega⟩
  · clear e1 e2; rw [IntKind.wrap_i64]; omega
  · clear e1 e2; unfold wrap64; omega
set_option maxRecDepth 100000 in
set_option maxHeartbeats 1000000 in
theorem pieceTwo_walk (A B : Option Addr) (ca cb : Nat) (a b : List UInt8) (sz : Int) (w : World) (ia : In w w.heap.size A ca a) (ib : In w w.heap.size B cb b) :
    Calls Try.prog 8 #[.slice A a.length ca, .slice B b.length cb, .int .i64 sz] w fun e w' => e = .returned (.bool true) ∧ Below w.heap.size w w' := by
  have ma : min (a.length : Int) 300 = ((a.take 300).length : Int) := by rw [List.length_take]; omega
  have hba : (a.take 300).length ≤ 300 := by rw [List.length_take]; omega
  have hla : (a.take 300).length ≤ a.length := by rw [List.length_take]; omega
  have hca := ia.1
  replace ia := ia.take 300
  generalize a.take 300 = La at *
  obtain ⟨na, hna⟩ : ∃ na, na = La.length := ⟨_, rfl⟩
  obtain ⟨la, hlla⟩ : ∃ la, la = a.length := ⟨_, rfl⟩
  rw [← hna] at ma hba hla
  rw [← hlla] at ma hla hca ⊢
  have h0a : (0 : Int) ≤ (na : Int) := by omega
  have h1a : (na : Int) ≤ (ca : Int) := by omega
  have mb : min (b.length : Int) 300 = ((b.take 300).length : Int) := by rw [List.length_take]; omega
  have hbb : (b.take 300).length ≤ 300 := by rw [List.length_take]; omega
  have hlb : (b.take 300).length ≤ b.length := by rw [List.length_take]; omega
  have hcb := ib.1
  replace ib := ib.take 300
  generalize b.take 300 = Lb at *
  obtain ⟨nb, hnb⟩ : ∃ nb, nb = Lb.length := ⟨_, rfl⟩
  obtain ⟨lb, hllb⟩ : ∃ lb, lb = b.length := ⟨_, rfl⟩
  rw [← hnb] at mb hbb hlb
  rw [← hllb] at mb hlb hcb ⊢
  have h0b : (0 : Int) ≤ (nb : Int) := by omega
  have h1b : (nb : Int) ≤ (cb : Int) := by omega
  obtain ⟨q, z, hq1, hq1', hz1, hz2, hz3, hzz⟩ := ix_size sz
  have HZ := Lib.hid (And.intro hzz.1 (And.intro hzz.2 (And.intro hba hbb)))
  have HNA := Lib.hid hna.symm
  have HNB := Lib.hid hnb.symm
  have HIA := Lib.hid ia
  have HIB := Lib.hid ib
  clear hzz hna hnb hlla hllb ia ib hba hbb hla hlb hca hcb
  go_enter Try.func8, Try.ntmps8
  go_wp2
  refine wp_region_noPanic ?_
  refine wp_region_held_drew (S := fun W => Below w.heap.size w W) (by kernel_rfl) (by exact below_drewN (Below.refl _ _) 1) (fun hHeld => ?_)
  refine wpAnyH_take (i := 0) (oi := ⟨_, _, _, _, _, _⟩) (v := ?_) rfl (by kernel_rfl) (by kernel_rfl) (by kernel_rfl) (fun _ _ _ h => h) (Or.inl ⟨by rfl, ?_⟩) hHeld ?_
  rotate_left 1
  · (intro W hSw; (try dsimp only at hSw); go_simp; try with_reducible rfl)
  try simp only [Act.put, List.setIfInBounds_toArray, List.set_cons_zero, List.set_cons_succ]
  refine wpAnyH_take (i := 1) (oi := ⟨_, _, _, _, _, _⟩) (v := ?_) rfl (by kernel_rfl) (by kernel_rfl) (by kernel_rfl) (fun _ _ _ h => h) (Or.inl ⟨by rfl, ?_⟩) hHeld ?_
  rotate_left 1
  · (intro W hSw; (try dsimp only at hSw); go_simp; try with_reducible rfl)
  try simp only [Act.put, List.setIfInBounds_toArray, List.set_cons_zero, List.set_cons_succ]
  refine wpAnyH_take (i := 2) (oi := ⟨_, _, _, _, _, _⟩) (v := ?_) rfl (by kernel_rfl) (by kernel_rfl) (by kernel_rfl) (fun _ _ _ h => h) (Or.inl ⟨by rfl, ?_⟩) hHeld ?_
  rotate_left 1
  · (intro W hSw; (try dsimp only at hSw); go_simp; try with_reducible rfl)
  try simp only [Act.put, List.setIfInBounds_toArray, List.set_cons_zero, List.set_cons_succ]
  refine wpAnyH_take (i := 3) (oi := ⟨_, _, _, _, _, _⟩) (v := ?_) rfl (by kernel_rfl) (by kernel_rfl) (by kernel_rfl) (fun _ _ _ h => h) (Or.inl ⟨by rfl, ?_⟩) hHeld ?_
  rotate_left 1
  · (intro W hSw; (try dsimp only at hSw); go_simp; try with_reducible rfl)
  try simp only [Act.put, List.setIfInBounds_toArray, List.set_cons_zero, List.set_cons_succ]
  refine wpAnyH_take (i := 4) (oi := ⟨_, _, _, _, _, _⟩) (v := ?_) rfl (by kernel_rfl) (by kernel_rfl) (by kernel_rfl) (fun _ _ _ h => h) (Or.inl ⟨by rfl, ?_⟩) hHeld ?_
  rotate_left 1
  · (intro W hSw; (try dsimp only at hSw); go_simp; try with_reducible rfl)
  try simp only [Act.put, List.setIfInBounds_toArray, List.set_cons_zero, List.set_cons_succ]
  refine wpAnyH_take (i := 5) (oi := ⟨_, _, _, _, _, _⟩) (v := ?_) rfl (by kernel_rfl) (by kernel_rfl) (by kernel_rfl) (fun _ _ _ h => h) (Or.inl ⟨by rfl, ?_⟩) hHeld ?_
  rotate_left 1
  · (intro W hSw; (try dsimp only at hSw); go_simp; try with_reducible rfl)
  try simp only [Act.put, List.setIfInBounds_toArray, List.set_cons_zero, List.set_cons_succ]
  refine wpAnyH_take (i := 6) (oi := ⟨_, _, _, _, _, _⟩) (v := ?_) rfl (by kernel_rfl) (by kernel_rfl) (by kernel_rfl) (fun _ _ _ h => h) (Or.inl ⟨by rfl, ?_⟩) hHeld ?_
  rotate_left 1
  · (intro W hSw; (try dsimp only at hSw); go_simp; try with_reducible rfl)
  try simp only [Act.put, List.setIfInBounds_toArray, List.set_cons_zero, List.set_cons_succ]
  refine wpAnyH_take (i := 7) (oi := ⟨_, _, _, _, _, _⟩) (v := ?_) rfl (by kernel_rfl) (by kernel_rfl) (by kernel_rfl) (fun _ _ _ h => h) (Or.inl ⟨by rfl, ?_⟩) hHeld ?_
  rotate_left 1
  · (intro W hSw; (try dsimp only at hSw); go_simp; try with_reducible rfl)
  try simp only [Act.put, List.setIfInBounds_toArray, List.set_cons_zero, List.set_cons_succ]
  refine wpAnyH_take (i := 8) (oi := ⟨_, _, _, _, _, _⟩) (v := ?_) rfl (by kernel_rfl) (by kernel_rfl) (by kernel_rfl) (fun _ _ _ h => h) (Or.inl ⟨by rfl, ?_⟩) hHeld ?_
  rotate_left 1
  · (intro W hSw; (try dsimp only at hSw); go_simp; try with_reducible rfl)
  try simp only [Act.put, List.setIfInBounds_toArray, List.set_cons_zero, List.set_cons_succ]
  refine wpAnyH_take (i := 9) (oi := ⟨_, _, _, _, _, _⟩) (v := ?_) rfl (by kernel_rfl) (by kernel_rfl) (by kernel_rfl) (fun _ _ _ h => h) (Or.inl ⟨by rfl, ?_⟩) hHeld ?_
  rotate_left 1
  · (intro W hSw; (try dsimp only at hSw); go_simp; try with_reducible rfl)
  try simp only [Act.put, List.setIfInBounds_toArray, List.set_cons_zero, List.set_cons_succ]
  refine wpAnyH_take (i := 10) (oi := ⟨_, _, _, _, _, _⟩) (v := ?_) rfl (by kernel_rfl) (by kernel_rfl) (by kernel_rfl) (fun _ _ _ h => h) (Or.inl ⟨by rfl, ?_⟩) hHeld ?_
  rotate_left 1
  · (intro W hSw; (try dsimp only at hSw); go_simp; try with_reducible rfl)
  try simp only [Act.put, List.setIfInBounds_toArray, List.set_cons_zero, List.set_cons_succ]
  refine wpAnyH_take (i := 11) (oi := ⟨_, _, _, _, _, _⟩) (v := ?_) rfl (by kernel_rfl) (by kernel_rfl) (by kernel_rfl) (fun _ _ _ h => h) (Or.inl ⟨by rfl, ?_⟩) hHeld ?_
  rotate_left 1
  · (intro W hSw; (try dsimp only at hSw); go_simp; try with_reducible rfl)
  try simp only [Act.put, List.setIfInBounds_toArray, List.set_cons_zero, List.set_cons_succ]
  refine wpAnyH_take (i := 12) (oi := ⟨_, _, _, _, _, _⟩) (v := ?_) rfl (by kernel_rfl) (by kernel_rfl) (by kernel_rfl) (fun _ _ _ h => h) (Or.inl ⟨by rfl, ?_⟩) hHeld ?_
  rotate_left 1
  · (intro W hSw; (try dsimp only at hSw); go_simp; try with_reducible rfl)
  try simp only [Act.put, List.setIfInBounds_toArray, List.set_cons_zero, List.set_cons_succ]
  refine wpAnyH_take (i := 13) (oi := ⟨_, _, _, _, _, _⟩) (v := ?_) rfl (by kernel_rfl) (by kernel_rfl) (by kernel_rfl) (fun _ _ _ h => h) (Or.inl ⟨by rfl, ?_⟩) hHeld ?_
  rotate_left 1
  · (intro W hSw; (try dsimp only at hSw); go_simp; try with_reducible rfl)
  try simp only [Act.put, List.setIfInBounds_toArray, List.set_cons_zero, List.set_cons_succ]
  refine wpAnyH_take (i := 14) (oi := ⟨_, _, _, _, _, _⟩) (v := ?_) rfl (by kernel_rfl) (by kernel_rfl) (by kernel_rfl) (fun _ _ _ h => h) (Or.inl ⟨by rfl, ?_⟩) hHeld ?_
  rotate_left 1
  · (intro W hSw; (try dsimp only at hSw); go_simp; try with_reducible rfl)
  try simp only [Act.put, List.setIfInBounds_toArray, List.set_cons_zero, List.set_cons_succ]
  refine wpAnyH_take (i := 15) (oi := ⟨_, _, _, _, _, _⟩) (v := ?_) rfl (by kernel_rfl) (by kernel_rfl) (by kernel_rfl) (fun _ _ _ h => h) (Or.inl ⟨by rfl, ?_⟩) hHeld ?_
  rotate_left 1
  · (intro W hSw; (try dsimp only at hSw); go_simp; try with_reducible rfl)
  try simp only [Act.put, List.setIfInBounds_toArray, List.set_cons_zero]
  refine wpAnyH_take (i := 16) (oi := ⟨_, _, _, _, _, _⟩) (v := ?_) rfl (by kernel_rfl) (by kernel_rfl) (by kernel_rfl) (fun _ _ _ h => h) (Or.inl ⟨by rfl, ?_⟩) hHeld ?_
  rotate_left 1
  · (intro W hSw; (try dsimp only at hSw); go_simp; try with_reducible rfl)
  try simp only [Act.put, List.setIfInBounds_toArray, List.set_cons_zero, List.set_cons_succ]
  refine wpAnyH_take (i := 17) (oi := ⟨_, _, _, _, _, _⟩) (v := ?_) rfl (by kernel_rfl) (by kernel_rfl) (by kernel_rfl) (fun _ _ _ h => h) (Or.inl ⟨by rfl, ?_⟩) hHeld ?_
  rotate_left 1
  · (intro W hSw; (try dsimp only at hSw); go_simp; try with_reducible rfl)
  try simp only [Act.put, List.setIfInBounds_toArray, List.set_cons_zero, List.set_cons_succ]
  refine wpAnyH_done (by kernel_rfl) ?_ _
  refine NoPanic.normal ?_
  clear ma mb h0a h0b h1a h1b hq1 hq1' hz1 hz2 hz3
  have HIA2 := Lib.hid (in_up HIA.out hHeld)
  have HIB2 := Lib.hid (in_up HIB.out hHeld)
  replace hHeld : Below w.heap.size w w.drew := hHeld
  generalize w.drew = w0 at *
  have hfa := split_fine (b := La) HZ.out.1 HZ.out.2.1 (by rw [HNA.out]; have := HZ.out; omega)
  have hfb := split_fine (b := Lb) HZ.out.1 HZ.out.2.1 (by rw [HNB.out]; have := HZ.out; omega)
  have HRUA := Lib.hid (runs_split hfa.1)
  have HRUB := Lib.hid (runs_split hfb.1)
  have HFA := Lib.hid (show (splitE La (z : Int)).1.length ≤ 50000 from split_few (by rw [HNA.out]; have := HZ.out; omega))
  have HFB := Lib.hid (show (splitE Lb (z : Int)).1.length ≤ 50000 from split_few (by rw [HNB.out]; have := HZ.out; omega))
  have HMA := Lib.hid (show ∀ p ∈ (splitE La (z : Int)).1, p.length ≤ 4000 from fun p hp => Nat.le_trans (split_most hp) HZ.out.2.1)
  have HMB := Lib.hid (show ∀ p ∈ (splitE Lb (z : Int)).1, p.length ≤ 4000 from fun p hp => Nat.le_trans (split_most hp) HZ.out.2.1)
  have HSA := Lib.hid (fun (W : World) (i : In W W.heap.size A ca La) => split_e A ca na La (z : Int) W HNA.out i (by have := HZ.out; omega))
  have HSB := Lib.hid (fun (W : World) (i : In W W.heap.size B cb Lb) => split_e B cb nb Lb (z : Int) W HNB.out i (by have := HZ.out; omega))
  rw [hfa.1] at HSA
  rw [hfb.1] at HSB
  have HPA := Lib.hid hfa.2
  have HPB := Lib.hid hfb.2
  clear hfa hfb
  generalize (splitE La (z : Int)).1 = pa at *
  generalize (splitE Lb (z : Int)).1 = pb at *
  go_upto_region 3 with (go_at_call 10; refine (HSA.out _ HIA2.out).mono ?_; rintro e w1 ⟨va, rfl, hRA, hb1⟩)
  have HIB3 := Lib.hid (in_up HIB2.out hb1)
  go_upto_region 4 with (go_at_call 10; refine (HSB.out _ HIB3.out).mono ?_; rintro e w2 ⟨vb, rfl, hRB, hb2⟩)
  replace hRA := hRA.below hb2
  replace hRB := hRB.base_le hb1.size
  have HIA3 := Lib.hid (in_up (in_up HIA2.out hb1) hb2)
  have HIB4 := Lib.hid (in_up HIB3.out hb2)
  have hbw : Below w.heap.size w w2 := (hHeld.trans (hb1.mono hHeld.size)).trans (hb2.mono (Nat.le_trans hHeld.size hb1.size))
  clear hb1 hb2 hHeld HIA HIB HIA2 HIB2 HIB3
  obtain ⟨ga, oa, ka, rfl, hka, _, hga, hrowa⟩ := hRA.row HPA.out
  obtain ⟨gb, ob, kb, rfl, hkb, _, hgb, hrowb⟩ := hRB.row HPB.out
  obtain ⟨ml, hml⟩ : ∃ ml, ml = pa.length := ⟨_, rfl⟩
  obtain ⟨mm, hmm⟩ : ∃ mm, mm = pb.length := ⟨_, rfl⟩
  rw [← hml] at hka ⊢
  rw [← hmm] at hkb ⊢
  have HML := Lib.hid hml
  have HMM := Lib.hid hmm
  have HROWA := Lib.hid hrowa
  have HROWB := Lib.hid hrowb
  have HGG := Lib.hid (And.intro hga hgb)
  have HBW := Lib.hid hbw
  have hka2 : (ml : Int) ≤ (ka : Int) := by omega
  have hkb2 : (mm : Int) ≤ (kb : Int) := by omega
  clear hRA hRB hrowa hrowb hga hgb hka hkb hml hmm hbw
  have HNE := Lib.hid (new_e w2)
  go_upto_region 5 with (first
    | (go_at_call 13; ((with_reducible refine HNE.out.mono ?_); rintro e w3 ⟨rfl, hJx, hb3, -⟩; have hxy := hJx.1.lt))
    | (go_at_call 13; refine (new_e _).mono ?_; rintro e w4 ⟨rfl, hJy, hb4, -⟩))
  replace hJx := hJx.below hb4
  replace hJy := hJy
  have hDj : Disj w2.heap.size none w3.heap.size none := fun i h1 h2 => by
    rcases h1 with rfl | h1
    · rcases h2 with h2 | h2
      · omega
      · cases h2
    · cases h1
  have HB34 := Lib.hid (show Below w2.heap.size w2 w4 from hb3.trans (hb4.mono hb3.size))
  have HXY := Lib.hid hxy
  clear hb3 hb4 hxy HNE
  generalize hgx : w2.heap.size = gx at *
  generalize hgy : w3.heap.size = gy at *
  go_upto_region 7 with (go_at_call 12; refine (pieces_e _).mono ?_; rintro e w5 ⟨rfl, hb5⟩)
  replace hJx := hJx.below hb5
  replace hJy := hJy.below hb5
  have HB5 := Lib.hid (show Below gx w2 w5 from HB34.out.trans (hb5.mono (by rw [← hgx]; exact HB34.out.size)))
  clear hb5 HB34
  have HGX := Lib.hid hgx
  have HGY := Lib.hid hgy
  clear hgx hgy
  have hgl5 := hJx.1.lt
  have HG5 := Lib.hid (show gx ≤ w5.heap.size from Nat.le_of_lt hgl5)
  go_wp2_with fail
  have hbf := buf_lit w5 [192, 0, 0, 0, 9, 1] 6 5 rfl (by decide)
  have hal : Below w5.heap.size w5 (w5.alloc (.cells ([192, 0, 0, 0, 9, 1].map B8).toArray 5)) := (Below.refl _ _).alloc (Nat.le_refl _) _
  have htk := take_e gx gx none (some ⟨w5.heap.size, 0, none⟩) 0 6 6 0 [] [192, 0, 0, 0, 9, 1] _ (hJx.below hal) rfl (hbf.toIn (Nat.le_refl _)) (by decide) (by decide) (Nat.le_trans HG5.out hal.size)
  rw [take_non1] at htk
  have hJya := hJy.below hal
  refine htk.mono ?_
  rintro e w6 ⟨A6, n6, c6, Ax, cx, rfl, _, _, _, hJx6, hF6, hC6⟩
  have hb6 : Below gx w5 w6 := (hal.mono HG5.out).trans (hC6.below (Nat.le_trans HG5.out hal.size) (fun k hk => by rcases hk with rfl | hk; exact Nat.le_refl _; cases hk))
  have hJy6 := hJya.chg hC6 (fun k h1 h2 => hDj k h2 h1)
  have hDj6 : Disj gx Ax gy none := hDj.step hJya hF6
  have HB6 := Lib.hid (HB5.out.trans hb6)
  clear htk hbf hal hC6 hF6 hb6 hJya hJx hJy hDj HB5
  go_wp2_with fail
  have hbf := buf_lit w6 [33] 1 5 rfl (by decide)
  have hal : Below w6.heap.size w6 (w6.alloc (.cells ([33].map B8).toArray 5)) := (Below.refl _ _).alloc (Nat.le_refl _) _
  have hz6 : gx ≤ w6.heap.size := Nat.le_of_lt hJx6.1.lt
  have htk := take_e gx gx Ax (some ⟨w6.heap.size, 0, none⟩) cx 1 1 9 [1] [33] _ (hJx6.below hal) rfl (hbf.toIn (Nat.le_refl _)) (by decide) (by decide) (Nat.le_trans hz6 hal.size)
  rw [take_non2] at htk
  have hJya := hJy6.below hal
  have HO6 := Lib.hid (fun (k : Nat) (hk : Ours gx Ax k) => (hJx6.ours hk).1)
  refine htk.mono ?_
  rintro e w7 ⟨A7, n7, c7, Ax7, cx7, rfl, _, _, _, hJx7, hF7, hC7⟩
  have hb7 : Below gx w6 w7 := (hal.mono hz6).trans (hC7.below (Nat.le_trans hz6 hal.size) HO6.out)
  have hJy7 := hJya.chg hC7 (fun k h1 h2 => hDj6 k h2 h1)
  have hDj7 : Disj gx Ax7 gy none := hDj6.step hJya hF7
  have HB7 := Lib.hid (HB6.out.trans hb7)
  have HWT := Lib.hid (waits_e _ _ _ _ _ _ w7 hJx7)
  have HJX7 := Lib.hid hJx7
  have HJY7 := Lib.hid hJy7
  have HDJ7 := Lib.hid hDj7
  have hml9 : ml ≤ 50000 := by rw [HML.out]; exact HFA.out
  have hmm9 : mm ≤ 50000 := by rw [HMM.out]; exact HFB.out
  clear htk hbf hal hC7 hF7 hb7 hJya hJx6 hJy6 hJx7 hJy7 hDj6 hDj7 HB6 hz6 hgl5
  go_upto_region 11 with (go_at_call 15; refine HWT.out.mono ?_; rintro e w6' ⟨rfl, hww⟩; have hw2 := hww.symm; subst hw2)
  go_wp2
  go_loopw [16, 17, 18] (fun sa sb i wr => ∃ (k : Nat) (Fx Fy GA GB : List UInt8) (Cx Cy : Nat) (Ax Ay : Option Addr) (cx cy : Nat), (k ≤ ml ∨ k ≤ mm) ∧ i = .int .i64 (k : Int) ∧ sa = .string ⟨GA.toArray⟩ ∧ sb = .string ⟨GB.toArray⟩ ∧ Hid (GA = if ml ≤ k then La else []) ∧ Hid (GB = if mm ≤ k then Lb else []) ∧ JoinAt wr gx gx Ax cx Fx Cx ∧ JoinAt wr gy gy Ay cy Fy Cy ∧ Hid (Disj gx Ax gy Ay) ∧ Hid (Runs La Fx Cx (pa.drop k)) ∧ Hid (Runs Lb Fy Cy (pb.drop k)) ∧ Hid (Below gx w2 wr)) (fun _ _ i _ => (ml + mm) - (intOf i).toNat)
  case atStart => exact ⟨0, [], [], [], [], 0, 0, Ax7, none, cx7, 0, .inl (Nat.zero_le _), rfl, rfl, rfl, Lib.hid (by rw [if_neg (by have := HML.out; have := HPA.out; omega)]), Lib.hid (by rw [if_neg (by have := HMM.out; have := HPB.out; omega)]), HJX7.out, HJY7.out, HDJ7, HRUA, HRUB, HB7⟩
  case round =>
    obtain ⟨k, Fx, Fy, GA, GB, Cx, Cy, Ax, Ay, cx, cy, hk, rfl, rfl, rfl, HGA, HGB, hJx, hJy, HDJ, HRX, HRY, HBR⟩ := hrel
    by_cases hend : k < ml ∨ k < mm
    · by_cases hltx : k < ml
      · have hdx : decide (k < ml) = true := by simpa using hltx
        by_cases hlty : k < mm
        · have hdy : decide (k < mm) = true := by simpa using hlty
          have hkp : k < pa.length := by rw [← HML.out]; exact hltx
          obtain ⟨Ak, ck, hck, hik⟩ := HROWA.out k hkp
          obtain ⟨pl, hpl⟩ : ∃ pl, (pa.getD k []).length = pl := ⟨_, rfl⟩
          have hp4 : pl ≤ 4000 := by rw [← hpl]; refine HMA.out _ ?_; rw [List.getD_eq_getElem?_getD, List.getElem?_eq_getElem hkp]; exact List.getElem_mem _
          rw [hpl] at hck
          have hgz : gx ≤ wr.heap.size := Nat.le_of_lt hJx.1.lt
          have hcc : wr.cell? ⟨ga, oa + k, none⟩ = some (.slice Ak pl ck) := (HBR.out.cell (p := ⟨ga, oa + k, none⟩) HGG.out.1).trans hck
          obtain ⟨dd, hdd⟩ : ∃ dd, decide (k + 1 = ml) = dd := ⟨_, rfl⟩
          have HTE := Lib.hid (run_step hJx HRX.out HML.out hltx (Nat.le_of_lt hJx.1.lt) hpl (in_weak (hik.below HBR.out) hgz) hp4 dd hdd)
          have hk0 : (0 : Int) ≤ (k : Int) := by omega
          have hkm : (k : Int) < (ml : Int) := by omega
          have hm1 : (ml : Int) - 1 = ((ml - 1 : Nat) : Int) := by omega
          have hq1 : ((k : Int) == ((ml - 1 : Nat) : Int)) = dd := by rw [← hdd, Bool.eq_iff_iff]; simp; omega
          have HJX0 := Lib.hid hJx
          have HJY0 := Lib.hid hJy
          have HLTx := Lib.hid hltx
          clear hkp hck hik hpl hp4 hgz hdd hJx hJy hltx
          go_upto_region 17 with (go_at_call 14; refine HTE.out.mono ?_; rintro e w8 ⟨A8, n8, c8, G9', A9', c9', F9', C9', rfl, hcx, hG9, hJ9, hR9, hF9, hC9⟩)
          have hjx := HJX0.out
          have hjy := HJY0.out
          have hJy := hjy.chg hC9 (fun kk h1 h2 => HDJ.out kk h2 h1)
          have hDJ9 : Disj gx A9' gy Ay := HDJ.out.step hjy hF9
          have hBR9 := HBR.out.trans (hC9.below (Nat.le_of_lt hjx.1.lt) (fun kk h => (hjx.ours h).1))
          have hJx := hJ9
          have HGA1 := Lib.hid hG9
          have HRX1 := Lib.hid hR9
          clear HDJ HBR HRX HGA
          have HDJ := Lib.hid hDJ9
          have HBR := Lib.hid hBR9
          clear hjx hjy hJ9 hG9 hR9 hF9 hC9 hDJ9 hBR9 HTE HJX0 HJY0 hcc
          go_upto_region 20 with (fail)
          clear hcx hk0 hkm hm1 hq1 hdx
          have hkp : k < pb.length := by rw [← HMM.out]; exact hlty
          obtain ⟨Ak, ck, hck, hik⟩ := HROWB.out k hkp
          obtain ⟨pl, hpl⟩ : ∃ pl, (pb.getD k []).length = pl := ⟨_, rfl⟩
          have hp4 : pl ≤ 4000 := by rw [← hpl]; refine HMB.out _ ?_; rw [List.getD_eq_getElem?_getD, List.getElem?_eq_getElem hkp]; exact List.getElem_mem _
          rw [hpl] at hck
          have hgz : gx ≤ w8.heap.size := Nat.le_trans (Nat.le_of_lt HXY.out) (Nat.le_of_lt hJy.1.lt)
          have hcc : w8.cell? ⟨gb, ob + k, none⟩ = some (.slice Ak pl ck) := (HBR.out.cell (p := ⟨gb, ob + k, none⟩) HGG.out.2).trans hck
          obtain ⟨dd, hdd⟩ : ∃ dd, decide (k + 1 = mm) = dd := ⟨_, rfl⟩
          have HTE := Lib.hid (run_step hJy HRY.out HMM.out hlty (Nat.le_of_lt hJy.1.lt) hpl (in_weak (hik.below HBR.out) hgz) hp4 dd hdd)
          have hk0 : (0 : Int) ≤ (k : Int) := by omega
          have hkm : (k : Int) < (mm : Int) := by omega
          have hm1 : (mm : Int) - 1 = ((mm - 1 : Nat) : Int) := by omega
          have hq1 : ((k : Int) == ((mm - 1 : Nat) : Int)) = dd := by rw [← hdd, Bool.eq_iff_iff]; simp; omega
          have HJX0 := Lib.hid hJx
          have HJY0 := Lib.hid hJy
          have HLTy := Lib.hid hlty
          clear hkp hck hik hpl hp4 hgz hdd hJx hJy hlty
          go_upto_region 22 with (go_at_call 14; refine HTE.out.mono ?_; rintro e w9 ⟨A8, n8, c8, G9, A9, c9, F9, C9, rfl, hcx, hG9, hJ9, hR9, hF9, hC9⟩)
          have hjx := HJX0.out
          have hjy := HJY0.out
          have hJx := hjx.chg hC9 (fun kk h1 h2 => HDJ.out kk h1 h2)
          have hDJ9 : Disj gx A9' gy A9 := (Disj.step HDJ.out.symm hjx hF9).symm
          have hBR9 := HBR.out.trans (hC9.below (Nat.le_trans (Nat.le_of_lt HXY.out) (Nat.le_of_lt hjy.1.lt)) (fun kk h => Nat.le_trans (Nat.le_of_lt HXY.out) (hjy.ours h).1))
          have hJy := hJ9
          have HGB1 := Lib.hid hG9
          have HRY1 := Lib.hid hR9
          clear HDJ HBR HRY HGB
          have HDJ := Lib.hid hDJ9
          have HBR := Lib.hid hBR9
          clear hjx hjy hJ9 hG9 hR9 hF9 hC9 hDJ9 hBR9 HTE HJX0 HJY0 hcc
          go_wp2
          go_roundw
          case rel => exact ⟨k + 1, F9', F9, G9', G9, C9', C9, A9', A9, c9', c9, .inl HLTx.out, by go_num, rfl, rfl, HGA1, HGB1, hJx, hJy, HDJ, HRX1, HRY1, HBR⟩
          case measure => have := HLTx.out; simp [intOf]; omega
        · have hdy : decide (k < mm) = false := by simpa using hlty
          have hkp : k < pa.length := by rw [← HML.out]; exact hltx
          obtain ⟨Ak, ck, hck, hik⟩ := HROWA.out k hkp
          obtain ⟨pl, hpl⟩ : ∃ pl, (pa.getD k []).length = pl := ⟨_, rfl⟩
          have hp4 : pl ≤ 4000 := by rw [← hpl]; refine HMA.out _ ?_; rw [List.getD_eq_getElem?_getD, List.getElem?_eq_getElem hkp]; exact List.getElem_mem _
          rw [hpl] at hck
          have hgz : gx ≤ wr.heap.size := Nat.le_of_lt hJx.1.lt
          have hcc : wr.cell? ⟨ga, oa + k, none⟩ = some (.slice Ak pl ck) := (HBR.out.cell (p := ⟨ga, oa + k, none⟩) HGG.out.1).trans hck
          obtain ⟨dd, hdd⟩ : ∃ dd, decide (k + 1 = ml) = dd := ⟨_, rfl⟩
          have HTE := Lib.hid (run_step hJx HRX.out HML.out hltx (Nat.le_of_lt hJx.1.lt) hpl (in_weak (hik.below HBR.out) hgz) hp4 dd hdd)
          have hk0 : (0 : Int) ≤ (k : Int) := by omega
          have hkm : (k : Int) < (ml : Int) := by omega
          have hm1 : (ml : Int) - 1 = ((ml - 1 : Nat) : Int) := by omega
          have hq1 : ((k : Int) == ((ml - 1 : Nat) : Int)) = dd := by rw [← hdd, Bool.eq_iff_iff]; simp; omega
          have HJX0 := Lib.hid hJx
          have HJY0 := Lib.hid hJy
          have HLTx := Lib.hid hltx
          clear hkp hck hik hpl hp4 hgz hdd hJx hJy hltx
          go_upto_region 17 with (go_at_call 14; refine HTE.out.mono ?_; rintro e w8 ⟨A8, n8, c8, G9', A9', c9', F9', C9', rfl, hcx, hG9, hJ9, hR9, hF9, hC9⟩)
          have hjx := HJX0.out
          have hjy := HJY0.out
          have hJy := hjy.chg hC9 (fun kk h1 h2 => HDJ.out kk h2 h1)
          have hDJ9 : Disj gx A9' gy Ay := HDJ.out.step hjy hF9
          have hBR9 := HBR.out.trans (hC9.below (Nat.le_of_lt hjx.1.lt) (fun kk h => (hjx.ours h).1))
          have hJx := hJ9
          have HGA1 := Lib.hid hG9
          have HRX1 := Lib.hid hR9
          clear HDJ HBR HRX HGA
          have HDJ := Lib.hid hDJ9
          have HBR := Lib.hid hBR9
          clear hjx hjy hJ9 hG9 hR9 hF9 hC9 hDJ9 hBR9 HTE HJX0 HJY0 hcc
          go_upto_region 20 with (fail)
          clear hcx hk0 hkm hm1 hq1 hdx
          have hdr : pb.drop (k + 1) = pb.drop k := by rw [List.drop_of_length_le (by rw [← HMM.out]; omega), List.drop_of_length_le (by rw [← HMM.out]; omega)]
          have HGB1 := Lib.hid (show GB = if mm ≤ k + 1 then Lb else [] by rw [HGB.out, if_pos (by omega), if_pos (by omega)])
          have HRY1 := Lib.hid (show Runs Lb Fy Cy (pb.drop (k + 1)) by rw [hdr]; exact HRY.out)
          have HLTy := Lib.hid hlty
          clear hdr
          clear hlty
          go_wp2
          go_roundw
          case rel => exact ⟨k + 1, F9', Fy, G9', GB, C9', Cy, A9', Ay, c9', cy, .inl HLTx.out, by go_num, rfl, rfl, HGA1, HGB1, hJx, hJy, HDJ, HRX1, HRY1, HBR⟩
          case measure => have := HLTx.out; simp [intOf]; omega
      · have hlty : k < mm := by omega
        have hdx : decide (k < ml) = false := by simpa using hltx
        have hdy : decide (k < mm) = true := by simpa using hlty
        have hdr : pa.drop (k + 1) = pa.drop k := by rw [List.drop_of_length_le (by rw [← HML.out]; omega), List.drop_of_length_le (by rw [← HML.out]; omega)]
        have HGA1 := Lib.hid (show GA = if ml ≤ k + 1 then La else [] by rw [HGA.out, if_pos (by omega), if_pos (by omega)])
        have HRX1 := Lib.hid (show Runs La Fx Cx (pa.drop (k + 1)) by rw [hdr]; exact HRX.out)
        have HLTx := Lib.hid hltx
        clear hdr
        go_upto_region 20 with (fail)
        clear hltx hdx
        generalize hw8 : wr = w8 at *
        clear hw8
        have hkp : k < pb.length := by rw [← HMM.out]; exact hlty
        obtain ⟨Ak, ck, hck, hik⟩ := HROWB.out k hkp
        obtain ⟨pl, hpl⟩ : ∃ pl, (pb.getD k []).length = pl := ⟨_, rfl⟩
        have hp4 : pl ≤ 4000 := by rw [← hpl]; refine HMB.out _ ?_; rw [List.getD_eq_getElem?_getD, List.getElem?_eq_getElem hkp]; exact List.getElem_mem _
        rw [hpl] at hck
        have hgz : gx ≤ w8.heap.size := Nat.le_trans (Nat.le_of_lt HXY.out) (Nat.le_of_lt hJy.1.lt)
        have hcc : w8.cell? ⟨gb, ob + k, none⟩ = some (.slice Ak pl ck) := (HBR.out.cell (p := ⟨gb, ob + k, none⟩) HGG.out.2).trans hck
        obtain ⟨dd, hdd⟩ : ∃ dd, decide (k + 1 = mm) = dd := ⟨_, rfl⟩
        have HTE := Lib.hid (run_step hJy HRY.out HMM.out hlty (Nat.le_of_lt hJy.1.lt) hpl (in_weak (hik.below HBR.out) hgz) hp4 dd hdd)
        have hk0 : (0 : Int) ≤ (k : Int) := by omega
        have hkm : (k : Int) < (mm : Int) := by omega
        have hm1 : (mm : Int) - 1 = ((mm - 1 : Nat) : Int) := by omega
        have hq1 : ((k : Int) == ((mm - 1 : Nat) : Int)) = dd := by rw [← hdd, Bool.eq_iff_iff]; simp; omega
        have HJX0 := Lib.hid hJx
        have HJY0 := Lib.hid hJy
        have HLTy := Lib.hid hlty
        clear hkp hck hik hpl hp4 hgz hdd hJx hJy hlty
        go_upto_region 22 with (go_at_call 14; refine HTE.out.mono ?_; rintro e w9 ⟨A8, n8, c8, G9, A9, c9, F9, C9, rfl, hcx, hG9, hJ9, hR9, hF9, hC9⟩)
        have hjx := HJX0.out
        have hjy := HJY0.out
        have hJx := hjx.chg hC9 (fun kk h1 h2 => HDJ.out kk h1 h2)
        have hDJ9 : Disj gx Ax gy A9 := (Disj.step HDJ.out.symm hjx hF9).symm
        have hBR9 := HBR.out.trans (hC9.below (Nat.le_trans (Nat.le_of_lt HXY.out) (Nat.le_of_lt hjy.1.lt)) (fun kk h => Nat.le_trans (Nat.le_of_lt HXY.out) (hjy.ours h).1))
        have hJy := hJ9
        have HGB1 := Lib.hid hG9
        have HRY1 := Lib.hid hR9
        clear HDJ HBR HRY HGB
        have HDJ := Lib.hid hDJ9
        have HBR := Lib.hid hBR9
        clear hjx hjy hJ9 hG9 hR9 hF9 hC9 hDJ9 hBR9 HTE HJX0 HJY0 hcc
        go_wp2
        go_roundw
        case rel => exact ⟨k + 1, Fx, F9, GA, G9, Cx, C9, Ax, A9, cx, c9, .inr HLTy.out, by go_num, rfl, rfl, HGA1, HGB1, hJx, hJy, HDJ, HRX1, HRY1, HBR⟩
        case measure => have := HLTy.out; simp [intOf]; omega
    · have hdx : decide (k < ml) = false := by simp; omega
      have hdy : decide (k < mm) = false := by simp; omega
      have hga := HGA.out
      have hgb := HGB.out
      rw [if_pos (by omega)] at hga hgb
      subst hga
      subst hgb
      have hgz : gx ≤ wr.heap.size := Nat.le_of_lt hJx.1.lt
      have hca := conv_in HNA.out (in_weak (HIA3.out.below HBR.out) hgz)
      have hcb := conv_in HNB.out (in_weak (HIB4.out.below HBR.out) hgz)
      have HFIN := Lib.hid (HBW.out.trans (HBR.out.mono (by have := HBW.out.size; have := HGX.out; omega)))
      clear hJx hJy hgz hend hk
      go_wp2
      go_ret
      exact ⟨rfl, HFIN.out⟩
end Go.Proofs.Ytkeijnhjdkdmpaa
