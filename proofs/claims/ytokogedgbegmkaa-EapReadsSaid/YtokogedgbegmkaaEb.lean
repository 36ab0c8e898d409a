/-
  The contracts of package eap's body, whole and Write.
-/
import Derived.Test.YtokogedgbegmkaaEa
import Derived.Deep.DeepCutAuto
namespace Go.Proofs.Ytokogedgbegmkaa
open Go.RowKit

/-- The byte that is left of a number. -/
def ub (x : Int) : UInt8 := UInt8.ofNat (x % 256).toNat
theorem ub_wrap (x : Int) : IntKind.u8.wrap x = ((ub x).toNat : Int) := by
  rw [IntKind.wrap_u8]; unfold ub; rw [UInt8.toNat_ofNat']; omega
theorem ub_nat (x : UInt8) : ub (x.toNat : Int) = x := by
  unfold ub
  have := u8_lt x
  rw [show ((x.toNat : Int) % 256).toNat = x.toNat by omega]
  simp
/-- What stands behind the head. -/
def bodyE (t : Int) (b : List UInt8) : List UInt8 := if t = 0 then [] else ub t :: b
set_option maxRecDepth 100000 in
set_option maxHeartbeats 1000000 in
theorem body_e (g : Nat) (c i t : Int) (A : Option Addr) (n cp : Nat) (b : List UInt8) (w : World) (hC : Blk w g 29 (PkC c i t (.slice A n cp))) (hn : b.length = n) (iB : In w w.heap.size A cp b) (hm : n < 1000000) :
    Calls Try.prog 22 #[.pointer (some ⟨g, 0, none⟩)] w fun e w' => ∃ A' n' c', e = .returned (.slice A' n' c') ∧ Buf w' w.heap.size A' n' c' (bodyE t b) ∧ Below w.heap.size w w' := by
  have HC0 := Lib.hid (fun (W : World) (h : Below w.heap.size w W) => (show W.cell? ⟨g, 0, none⟩ = some (.int .i64 c) from (hC.below h hC.lt).cell 0))
  have HC1 := Lib.hid (fun (W : World) (h : Below w.heap.size w W) => (show W.cell? ⟨g, 1, none⟩ = some (.int .i64 i) from (hC.below h hC.lt).cell 1))
  have HC2 := Lib.hid (fun (W : World) (h : Below w.heap.size w W) => (show W.cell? ⟨g, 2, none⟩ = some (.int .i64 t) from (hC.below h hC.lt).cell 2))
  have HC3 := Lib.hid (fun (W : World) (h : Below w.heap.size w W) => (show W.cell? ⟨g, 3, none⟩ = some (.slice A n cp) from (hC.below h hC.lt).cell 3))
  have IB := Lib.hid iB
  have HN := Lib.hid hn
  have HU := Lib.hid (ub_wrap t)
  clear hC iB hn
  by_cases h0 : t = 0
  · subst h0
    have c2 := HC2.out w (Below.refl _ _)
    go_enter Try.func22, Try.ntmps22
    go_wp2
    go_ret
    exact ⟨none, 0, 0, rfl, Buf.nil _ _, Below.refl _ _⟩
  · have c2 := HC2.out w (Below.refl _ _)
    have HE := Lib.hid (show bodyE t b = [ub t] ++ b by unfold bodyE; rw [if_neg h0]; rfl)
    go_enter Try.func22, Try.ntmps22
    go_upto_region 3 with (fail)
    clear c2 h0
    refine wp_region_noPanic ?_
    refine wp_region_held_drew (S := fun W => Below w.heap.size w W) (by kernel_rfl) (by exact below_drewN (Below.refl _ _) 1) (fun hHeld => ?_)
    refine wpAnyH_take (i := 0) (oi := ⟨_, _, _, _, _, _⟩) (v := ?_) rfl (by kernel_rfl) (by kernel_rfl) (by kernel_rfl) (fun _ _ _ h => h) (Or.inl ⟨by rfl, ?_⟩) hHeld ?_
    rotate_left 1
    · (intro W hSw; (try dsimp only at hSw); have c0 := HC0.out W hSw; have c1 := HC1.out W hSw; have c2 := HC2.out W hSw; have c3 := HC3.out W hSw; go_simp; try with_reducible rfl)
    try simp only [Act.put, List.setIfInBounds_toArray, List.set_cons_zero, List.set_cons_succ]
    refine wpAnyH_take (i := 1) (oi := ⟨_, _, _, _, _, _⟩) (v := ?_) rfl (by kernel_rfl) (by kernel_rfl) (by kernel_rfl) (fun _ _ _ h => h) (Or.inl ⟨by rfl, ?_⟩) hHeld ?_
    rotate_left 1
    · (intro W hSw; (try dsimp only at hSw); have c0 := HC0.out W hSw; have c1 := HC1.out W hSw; have c2 := HC2.out W hSw; have c3 := HC3.out W hSw; go_simp; try with_reducible rfl)
    try simp only [Act.put, List.setIfInBounds_toArray, List.set_cons_zero, List.set_cons_succ]
    refine wpAnyH_take (i := 2) (oi := ⟨_, _, _, _, _, _⟩) (v := ?_) rfl (by kernel_rfl) (by kernel_rfl) (by kernel_rfl) (fun _ _ _ h => h) (Or.inl ⟨by rfl, ?_⟩) hHeld ?_
    rotate_left 1
    · (intro W hSw; (try dsimp only at hSw); have c0 := HC0.out W hSw; have c1 := HC1.out W hSw; have c2 := HC2.out W hSw; have c3 := HC3.out W hSw; go_simp; try with_reducible rfl)
    try simp only [Act.put, List.setIfInBounds_toArray, List.set_cons_zero, List.set_cons_succ]
    refine wpAnyH_take (i := 3) (oi := ⟨_, _, _, _, _, _⟩) (v := ?_) rfl (by kernel_rfl) (by kernel_rfl) (by kernel_rfl) (fun _ _ _ h => h) (Or.inl ⟨by rfl, ?_⟩) hHeld ?_
    rotate_left 1
    · (intro W hSw; (try dsimp only at hSw); have c0 := HC0.out W hSw; have c1 := HC1.out W hSw; have c2 := HC2.out W hSw; have c3 := HC3.out W hSw; go_simp; try with_reducible rfl)
    try simp only [Act.put, List.setIfInBounds_toArray, List.set_cons_zero, List.set_cons_succ]
    refine wpAnyH_take (i := 4) (oi := ⟨_, _, _, _, _, _⟩) (v := ?_) rfl (by kernel_rfl) (by kernel_rfl) (by kernel_rfl) (fun _ _ _ h => h) (Or.inl ⟨by rfl, ?_⟩) hHeld ?_
    rotate_left 1
    · (intro W hSw; (try dsimp only at hSw); have c0 := HC0.out W hSw; have c1 := HC1.out W hSw; have c2 := HC2.out W hSw; have c3 := HC3.out W hSw; go_simp; try with_reducible rfl)
    try simp only [Act.put, List.setIfInBounds_toArray, List.set_cons_zero, List.set_cons_succ]
    refine wpAnyH_take (i := 6) (oi := ⟨_, _, _, _, _, _⟩) (v := ?_) rfl (by kernel_rfl) (by kernel_rfl) (by kernel_rfl) (fun _ _ _ h => h) (Or.inl ⟨by rfl, ?_⟩) hHeld ?_
    rotate_left 1
    · (intro W hSw; (try dsimp only at hSw); have c0 := HC0.out W hSw; have c1 := HC1.out W hSw; have c2 := HC2.out W hSw; have c3 := HC3.out W hSw; go_simp; try with_reducible rfl)
    try simp only [Act.put, List.setIfInBounds_toArray, List.set_cons_zero, List.set_cons_succ]
    refine wpAnyH_take (i := 7) (oi := ⟨_, _, _, _, _, _⟩) (v := ?_) rfl (by kernel_rfl) (by kernel_rfl) (by kernel_rfl) (fun _ _ _ h => h) (Or.inl ⟨by rfl, ?_⟩) hHeld ?_
    rotate_left 1
    · (intro W hSw; (try dsimp only at hSw); have c0 := HC0.out W hSw; have c1 := HC1.out W hSw; have c2 := HC2.out W hSw; have c3 := HC3.out W hSw; go_simp; try with_reducible rfl)
    try simp only [Act.put, List.setIfInBounds_toArray, List.set_cons_zero, List.set_cons_succ]
    refine wpAnyH_take (i := 8) (oi := ⟨_, _, _, _, _, _⟩) (v := ?_) rfl (by kernel_rfl) (by kernel_rfl) (by kernel_rfl) (fun _ _ _ h => h) (Or.inl ⟨by rfl, ?_⟩) hHeld ?_
    rotate_left 1
    · (intro W hSw; (try dsimp only at hSw); have c0 := HC0.out W hSw; have c1 := HC1.out W hSw; have c2 := HC2.out W hSw; have c3 := HC3.out W hSw; go_simp; try with_reducible rfl)
    try simp only [Act.put, List.setIfInBounds_toArray, List.set_cons_zero, List.set_cons_succ]
    refine wpAnyH_take (i := 9) (oi := ⟨_, _, _, _, _, _⟩) (v := ?_) rfl (by kernel_rfl) (by kernel_rfl) (by kernel_rfl) (fun _ _ _ h => h) (Or.inl ⟨by rfl, ?_⟩) hHeld ?_
    rotate_left 1
    · (intro W hSw; (try dsimp only at hSw); have c0 := HC0.out W hSw; have c1 := HC1.out W hSw; have c2 := HC2.out W hSw; have c3 := HC3.out W hSw; go_simp; try with_reducible rfl)
    try simp only [Act.put, List.setIfInBounds_toArray, List.set_cons_zero, List.set_cons_succ]
    replace hHeld : Below w.heap.size w w.drew := hHeld
    generalize w.drew = wd at *
    have hz := hHeld.size
    refine wpAnyH_ready (rs := [5]) (by kernel_rfl) (by simp) ?_
    refine AllReadyH.cons (o := ⟨_, _, _, _, _, _⟩) rfl (fun K hK => ?_) AllReadyH.nil
    go_simp
    have hbuf := buf_lit wd [ub t] 1 5 rfl (by decide)
    have hbz := hHeld.alloc hz (.cells ([ub t].map B8).toArray 5)
    rw [HU.out]
    refine hK.out _ _ hbz (fun hHeld => ?_)
    clear hK K hbz
    try simp only [Act.put, List.setIfInBounds_toArray, List.set_cons_zero, List.set_cons_succ]
    refine wpAnyH_ready (rs := [10]) (by kernel_rfl) (by simp) ?_
    refine AllReadyH.cons (o := ⟨_, _, _, _, _, _⟩) rfl (fun K hK => ?_) AllReadyH.nil
    refine step_append_bufm (by rfl) (.tmp 13) (.tmp 17) 24 rfl wd.heap.size _ 1 1 [ub t] b _ rfl hbuf rfl (src_at ((in_up IB.out (by exact hHeld)).src (Nat.le_refl _)) HN.out) (by rw [HN.out]; omega) (by simp) (1 + n) (by rw [HN.out]) ?_
    intro A3 c3 w3 hB3 hg3
    refine hK.out _ _ (below_own hHeld hbuf hg3 hz (by have := hHeld.size; omega)) (fun hb3 => ?_)
    clear hK K hbuf hg3
    replace hb3 : Below w.heap.size w w3 := hb3
    try simp only [Act.put, List.setIfInBounds_toArray, List.set_cons_zero, List.set_cons_succ]
    refine wpAnyH_take (i := 11) (oi := ⟨_, _, _, _, _, _⟩) (v := ?_) rfl (by kernel_rfl) (by kernel_rfl) (by kernel_rfl) (fun _ _ _ h => h) (Or.inl ⟨by rfl, ?_⟩) hb3 ?_
    rotate_left 1
    · (intro W hSw; (try dsimp only at hSw); go_simp; try with_reducible rfl)
    try simp only [Act.put, List.setIfInBounds_toArray, List.set_cons_zero, List.set_cons_succ]
    refine wpAnyH_done (by kernel_rfl) ?_ _
    refine NoPanic.normal ?_
    go_wp2
    go_ret
    exact ⟨_, _, _, rfl, by rw [HE.out]; exact hB3.base hz, hb3⟩
theorem bodyE_length (t : Int) (b : List UInt8) : (bodyE t b).length ≤ 1 + b.length := by
  unfold bodyE; split
  · simp
  · simp; omega
/-- A packet's bytes. -/
def wholeE (c i t : Int) (b : List UInt8) : List UInt8 := [ub c, ub i, ub (((4 + (bodyE t b).length : Nat) : Int) / 256), ub ((4 + (bodyE t b).length : Nat) : Int)] ++ bodyE t b
theorem wholeE_length (c i t : Int) (b : List UInt8) : (wholeE c i t b).length = 4 + (bodyE t b).length := by
  unfold wholeE; rw [List.length_append]; rfl
set_option maxRecDepth 100000 in
set_option maxHeartbeats 1000000 in
theorem whole_e (g : Nat) (c i t : Int) (A : Option Addr) (n cp : Nat) (b : List UInt8) (w : World) (hC : Blk w g 29 (PkC c i t (.slice A n cp))) (hn : b.length = n) (iB : In w w.heap.size A cp b) (hm : n < 900000) :
    Calls Try.prog 16 #[.pointer (some ⟨g, 0, none⟩)] w fun e w' => ∃ A' n' c', e = .returned (.slice A' n' c') ∧ Buf w' w.heap.size A' n' c' (wholeE c i t b) ∧ Below w.heap.size w w' := by
  have hlen := bodyE_length t b
  have HB := Lib.hid (body_e g c i t A n cp b w hC hn iB (by omega))
  have HC0 := Lib.hid (fun (W : World) (h : Below w.heap.size w W) => (show W.cell? ⟨g, 0, none⟩ = some (.int .i64 c) from (hC.below h hC.lt).cell 0))
  have HC1 := Lib.hid (fun (W : World) (h : Below w.heap.size w W) => (show W.cell? ⟨g, 1, none⟩ = some (.int .i64 i) from (hC.below h hC.lt).cell 1))
  obtain ⟨m, hmm⟩ : ∃ m, m = 4 + (bodyE t b).length := ⟨_, rfl⟩
  have HE := Lib.hid (show wholeE c i t b = [ub c, ub i, ub ((m : Int) / 256), ub m] ++ bodyE t b by unfold wholeE; rw [← hmm])
  have HU1 := Lib.hid (ub_wrap c)
  have HU2 := Lib.hid (ub_wrap i)
  have HU3 := Lib.hid (ub_wrap ((m : Int) / 256))
  have HU4 := Lib.hid (ub_wrap (m : Int))
  have hm9 : m < 1000000 := by omega
  have HMM := Lib.hid hmm
  clear hC iB hn hlen hmm
  go_enter Try.func16, Try.ntmps16
  go_upto_region 2 with (go_at_call 22; refine HB.out.mono ?_; rintro e w2 ⟨A2, n2, c2, rfl, hB2, hb2⟩)
  have HM := Lib.hid (show m = 4 + n2 by rw [← hB2.1]; exact HMM.out)
  have e4 : (4 : Int) + (n2 : Int) = (m : Int) := by have := HM.out; omega
  go_upto_region 3 with (fail)
  clear e4
  refine wp_region_noPanic ?_
  refine wp_region_held_drew (S := fun W => Below w2.heap.size w2 W) (by kernel_rfl) (by exact below_drewN (Below.refl _ _) 1) (fun hHeld => ?_)
  refine wpAnyH_take (i := 0) (oi := ⟨_, _, _, _, _, _⟩) (v := ?_) rfl (by kernel_rfl) (by kernel_rfl) (by kernel_rfl) (fun _ _ _ h => h) (Or.inl ⟨by rfl, ?_⟩) hHeld ?_
  rotate_left 1
  · (intro W hSw; (try dsimp only at hSw); have c0 := HC0.out W (hb2.trans (hSw.mono hb2.size)); have c1 := HC1.out W (hb2.trans (hSw.mono hb2.size)); go_simp; try with_reducible rfl)
  try simp only [Act.put, List.setIfInBounds_toArray, List.set_cons_zero, List.set_cons_succ]
  refine wpAnyH_take (i := 1) (oi := ⟨_, _, _, _, _, _⟩) (v := ?_) rfl (by kernel_rfl) (by kernel_rfl) (by kernel_rfl) (fun _ _ _ h => h) (Or.inl ⟨by rfl, ?_⟩) hHeld ?_
  rotate_left 1
  · (intro W hSw; (try dsimp only at hSw); have c0 := HC0.out W (hb2.trans (hSw.mono hb2.size)); have c1 := HC1.out W (hb2.trans (hSw.mono hb2.size)); go_simp; try with_reducible rfl)
  try simp only [Act.put, List.setIfInBounds_toArray, List.set_cons_zero, List.set_cons_succ]
  refine wpAnyH_take (i := 2) (oi := ⟨_, _, _, _, _, _⟩) (v := ?_) rfl (by kernel_rfl) (by kernel_rfl) (by kernel_rfl) (fun _ _ _ h => h) (Or.inl ⟨by rfl, ?_⟩) hHeld ?_
  rotate_left 1
  · (intro W hSw; (try dsimp only at hSw); have c0 := HC0.out W (hb2.trans (hSw.mono hb2.size)); have c1 := HC1.out W (hb2.trans (hSw.mono hb2.size)); go_simp; try with_reducible rfl)
  try simp only [Act.put, List.setIfInBounds_toArray, List.set_cons_zero, List.set_cons_succ]
  refine wpAnyH_take (i := 3) (oi := ⟨_, _, _, _, _, _⟩) (v := ?_) rfl (by kernel_rfl) (by kernel_rfl) (by kernel_rfl) (fun _ _ _ h => h) (Or.inl ⟨by rfl, ?_⟩) hHeld ?_
  rotate_left 1
  · (intro W hSw; (try dsimp only at hSw); have c0 := HC0.out W (hb2.trans (hSw.mono hb2.size)); have c1 := HC1.out W (hb2.trans (hSw.mono hb2.size)); go_simp; try with_reducible rfl)
  try simp only [Act.put, List.setIfInBounds_toArray, List.set_cons_zero, List.set_cons_succ]
  refine wpAnyH_take (i := 4) (oi := ⟨_, _, _, _, _, _⟩) (v := ?_) rfl (by kernel_rfl) (by kernel_rfl) (by kernel_rfl) (fun _ _ _ h => h) (Or.inl ⟨by rfl, ?_⟩) hHeld ?_
  rotate_left 1
  · (intro W hSw; (try dsimp only at hSw); have c0 := HC0.out W (hb2.trans (hSw.mono hb2.size)); have c1 := HC1.out W (hb2.trans (hSw.mono hb2.size)); go_simp; try with_reducible rfl)
  try simp only [Act.put, List.setIfInBounds_toArray, List.set_cons_zero, List.set_cons_succ]
  refine wpAnyH_take (i := 5) (oi := ⟨_, _, _, _, _, _⟩) (v := ?_) rfl (by kernel_rfl) (by kernel_rfl) (by kernel_rfl) (fun _ _ _ h => h) (Or.inl ⟨by rfl, ?_⟩) hHeld ?_
  rotate_left 1
  · (intro W hSw; (try dsimp only at hSw); have c0 := HC0.out W (hb2.trans (hSw.mono hb2.size)); have c1 := HC1.out W (hb2.trans (hSw.mono hb2.size)); go_simp; try with_reducible rfl)
  try simp only [Act.put, List.setIfInBounds_toArray, List.set_cons_zero, List.set_cons_succ]
  refine wpAnyH_take (i := 6) (oi := ⟨_, _, _, _, _, _⟩) (v := ?_) rfl (by kernel_rfl) (by kernel_rfl) (by kernel_rfl) (fun _ _ _ h => h) (Or.inl ⟨by rfl, ?_⟩) hHeld ?_
  rotate_left 1
  · (intro W hSw; (try dsimp only at hSw); have c0 := HC0.out W (hb2.trans (hSw.mono hb2.size)); have c1 := HC1.out W (hb2.trans (hSw.mono hb2.size)); go_simp; try with_reducible rfl)
  try simp only [Act.put, List.setIfInBounds_toArray, List.set_cons_zero, List.set_cons_succ]
  refine wpAnyH_take (i := 7) (oi := ⟨_, _, _, _, _, _⟩) (v := ?_) rfl (by kernel_rfl) (by kernel_rfl) (by kernel_rfl) (fun _ _ _ h => h) (Or.inl ⟨by rfl, ?_⟩) hHeld ?_
  rotate_left 1
  · (intro W hSw; (try dsimp only at hSw); have c0 := HC0.out W (hb2.trans (hSw.mono hb2.size)); have c1 := HC1.out W (hb2.trans (hSw.mono hb2.size)); go_simp; try with_reducible rfl)
  try simp only [Act.put, List.setIfInBounds_toArray, List.set_cons_zero, List.set_cons_succ]
  refine wpAnyH_take (i := 8) (oi := ⟨_, _, _, _, _, _⟩) (v := ?_) rfl (by kernel_rfl) (by kernel_rfl) (by kernel_rfl) (fun _ _ _ h => h) (Or.inl ⟨by rfl, ?_⟩) hHeld ?_
  rotate_left 1
  · (intro W hSw; (try dsimp only at hSw); have c0 := HC0.out W (hb2.trans (hSw.mono hb2.size)); have c1 := HC1.out W (hb2.trans (hSw.mono hb2.size)); go_simp; try with_reducible rfl)
  try simp only [Act.put, List.setIfInBounds_toArray, List.set_cons_zero, List.set_cons_succ]
  refine wpAnyH_take (i := 9) (oi := ⟨_, _, _, _, _, _⟩) (v := ?_) rfl (by kernel_rfl) (by kernel_rfl) (by kernel_rfl) (fun _ _ _ h => h) (Or.inl ⟨by rfl, ?_⟩) hHeld ?_
  rotate_left 1
  · (intro W hSw; (try dsimp only at hSw); have c0 := HC0.out W (hb2.trans (hSw.mono hb2.size)); have c1 := HC1.out W (hb2.trans (hSw.mono hb2.size)); go_simp; try with_reducible rfl)
  try simp only [Act.put, List.setIfInBounds_toArray, List.set_cons_zero, List.set_cons_succ]
  refine wpAnyH_take (i := 10) (oi := ⟨_, _, _, _, _, _⟩) (v := ?_) rfl (by kernel_rfl) (by kernel_rfl) (by kernel_rfl) (fun _ _ _ h => h) (Or.inl ⟨by rfl, ?_⟩) hHeld ?_
  rotate_left 1
  · (intro W hSw; (try dsimp only at hSw); have c0 := HC0.out W (hb2.trans (hSw.mono hb2.size)); have c1 := HC1.out W (hb2.trans (hSw.mono hb2.size)); go_simp; try with_reducible rfl)
  try simp only [Act.put, List.setIfInBounds_toArray, List.set_cons_zero, List.set_cons_succ]
  refine wpAnyH_take (i := 11) (oi := ⟨_, _, _, _, _, _⟩) (v := ?_) rfl (by kernel_rfl) (by kernel_rfl) (by kernel_rfl) (fun _ _ _ h => h) (Or.inl ⟨by rfl, ?_⟩) hHeld ?_
  rotate_left 1
  · (intro W hSw; (try dsimp only at hSw); have c0 := HC0.out W (hb2.trans (hSw.mono hb2.size)); have c1 := HC1.out W (hb2.trans (hSw.mono hb2.size)); go_simp; try with_reducible rfl)
  try simp only [Act.put, List.setIfInBounds_toArray, List.set_cons_zero, List.set_cons_succ]
  refine wpAnyH_take (i := 12) (oi := ⟨_, _, _, _, _, _⟩) (v := ?_) rfl (by kernel_rfl) (by kernel_rfl) (by kernel_rfl) (fun _ _ _ h => h) (Or.inl ⟨by rfl, ?_⟩) hHeld ?_
  rotate_left 1
  · (intro W hSw; (try dsimp only at hSw); have c0 := HC0.out W (hb2.trans (hSw.mono hb2.size)); have c1 := HC1.out W (hb2.trans (hSw.mono hb2.size)); go_simp; try with_reducible rfl)
  try simp only [Act.put, List.setIfInBounds_toArray, List.set_cons_zero, List.set_cons_succ]
  refine wpAnyH_take (i := 13) (oi := ⟨_, _, _, _, _, _⟩) (v := ?_) rfl (by kernel_rfl) (by kernel_rfl) (by kernel_rfl) (fun _ _ _ h => h) (Or.inl ⟨by rfl, ?_⟩) hHeld ?_
  rotate_left 1
  · (intro W hSw; (try dsimp only at hSw); have c0 := HC0.out W (hb2.trans (hSw.mono hb2.size)); have c1 := HC1.out W (hb2.trans (hSw.mono hb2.size)); go_simp; try with_reducible rfl)
  try simp only [Act.put, List.setIfInBounds_toArray, List.set_cons_zero, List.set_cons_succ]
  refine wpAnyH_take (i := 14) (oi := ⟨_, _, _, _, _, _⟩) (v := ?_) rfl (by kernel_rfl) (by kernel_rfl) (by kernel_rfl) (fun _ _ _ h => h) (Or.inl ⟨by rfl, ?_⟩) hHeld ?_
  rotate_left 1
  · (intro W hSw; (try dsimp only at hSw); have c0 := HC0.out W (hb2.trans (hSw.mono hb2.size)); have c1 := HC1.out W (hb2.trans (hSw.mono hb2.size)); go_simp; try with_reducible rfl)
  try simp only [Act.put, List.setIfInBounds_toArray, List.set_cons_zero, List.set_cons_succ]
  refine wpAnyH_take (i := 16) (oi := ⟨_, _, _, _, _, _⟩) (v := ?_) rfl (by kernel_rfl) (by kernel_rfl) (by kernel_rfl) (fun _ _ _ h => h) (Or.inl ⟨by rfl, ?_⟩) hHeld ?_
  rotate_left 1
  · (intro W hSw; (try dsimp only at hSw); go_simp; try with_reducible rfl)
  try simp only [Act.put, List.setIfInBounds_toArray, List.set_cons_zero, List.set_cons_succ]
  replace hHeld : Below w2.heap.size w2 w2.drew := hHeld
  generalize w2.drew = wd at *
  have hz := hHeld.size
  try simp only [HU1.out, HU2.out, HU3.out, HU4.out]
  refine wpAnyH_ready (rs := [15]) (by kernel_rfl) (by simp) ?_
  refine AllReadyH.cons (o := ⟨_, _, _, _, _, _⟩) rfl (fun K hK => ?_) AllReadyH.nil
  go_simp
  have hbuf := buf_lit wd [ub c, ub i, ub ((m : Int) / 256), ub m] 4 5 rfl (by decide)
  have hbz := hHeld.alloc hz (.cells ([ub c, ub i, ub ((m : Int) / 256), ub m].map B8).toArray 5)
  try simp only [HU1.out, HU2.out, HU3.out, HU4.out]
  refine hK.out _ _ hbz (fun hHeld => ?_)
  clear hK K hbz
  try simp only [Act.put, List.setIfInBounds_toArray, List.set_cons_zero, List.set_cons_succ]
  refine wpAnyH_ready (rs := [17]) (by kernel_rfl) (by simp) ?_
  refine AllReadyH.cons (o := ⟨_, _, _, _, _, _⟩) rfl (fun K hK => ?_) AllReadyH.nil
  refine step_append_bufm (by rfl) (.tmp 25) (.tmp 26) 24 rfl wd.heap.size _ 4 4 [ub c, ub i, ub ((m : Int) / 256), ub m] (bodyE t b) _ rfl hbuf rfl (src_at ((in_up (hB2.toIn (Nat.le_refl _)) (by exact hHeld)).src (Nat.le_refl _)) hB2.1) (by rw [hB2.1]; have := HM.out; omega) (by simp) m (by rw [hB2.1]; exact HM.out) ?_
  intro A3 c3 w3 hB3 hg3
  refine hK.out _ _ (below_own hHeld hbuf hg3 hz (by have := hHeld.size; omega)) (fun hb3 => ?_)
  clear hK K hbuf hg3
  replace hb3 : Below w2.heap.size w2 w3 := hb3
  try simp only [Act.put, List.setIfInBounds_toArray, List.set_cons_zero, List.set_cons_succ]
  refine wpAnyH_take (i := 18) (oi := ⟨_, _, _, _, _, _⟩) (v := ?_) rfl (by kernel_rfl) (by kernel_rfl) (by kernel_rfl) (fun _ _ _ h => h) (Or.inl ⟨by rfl, ?_⟩) hb3 ?_
  rotate_left 1
  · (intro W hSw; (try dsimp only at hSw); go_simp; try with_reducible rfl)
  try simp only [Act.put, List.setIfInBounds_toArray, List.set_cons_zero, List.set_cons_succ]
  refine wpAnyH_done (by kernel_rfl) ?_ _
  refine NoPanic.normal ?_
  go_wp2
  go_ret
  exact ⟨_, _, _, rfl, by rw [HE.out]; exact hB3.base (Nat.le_trans hb2.size hz), hb2.trans (hb3.mono hb2.size)⟩
/-- What Write tells. -/
def writeE (c i t : Int) (b : List UInt8) : List UInt8 × Nat := if rightB c i t b.length = true then (wholeE c i t b, 0) else ([], 2)
set_option maxRecDepth 100000 in
set_option maxHeartbeats 1000000 in
theorem write_e (c i t : Int) (A : Option Addr) (n cp : Nat) (b : List UInt8) (w : World) (hn : b.length = n) (iB : In w w.heap.size A cp b) (hm : n < 900000) :
    Calls Try.prog 8 #[.agg #[.int .i64 c, .int .i64 i, .int .i64 t, .slice A n cp]] w fun e w' => ∃ A' n' c', e = .returned (.tuple #[.slice A' n' c', .int .i64 ((writeE c i t b).2 : Int)]) ∧ Buf w' w.heap.size A' n' c' (writeE c i t b).1 ∧ Below w.heap.size w w' := by
  have hC : Blk (w.alloc (.cells #[.int .i64 c, .int .i64 i, .int .i64 t, .slice A n cp] 29)) w.heap.size 29 (PkC c i t (.slice A n cp)) := Blk.new_of w _ _ _ rfl
  have hbw : Below w.heap.size w (w.alloc (.cells #[.int .i64 c, .int .i64 i, .int .i64 t, .slice A n cp] 29)) := (Below.refl _ _).alloc (Nat.le_refl _) _
  have HF := Lib.hid (inForm_e _ c i t A n cp _ hC)
  have HW := Lib.hid (whole_e _ c i t A n cp b _ hC hn (in_up iB hbw) hm)
  have HBW := Lib.hid hbw
  clear hC iB hbw
  by_cases hr : rightB c i t n = true
  · have HE := Lib.hid (show writeE c i t b = (wholeE c i t b, 0) by unfold writeE; rw [hn, if_pos hr])
    rw [hr] at HF
    clear hr hn
    go_enter Try.func8, Try.ntmps8
    go_wp2_with (first
      | (go_at_call 15; refine HF.out.mono ?_; rintro e w1 ⟨rfl, hww⟩; subst hww)
      | (go_at_call 16; refine HW.out.mono ?_; rintro e w2 ⟨A2, n2, c2, rfl, hB2, hb2⟩))
    go_ret2
    exact ⟨_, _, _, by rw [HE.out]; rfl, by rw [HE.out]; exact hB2.base HBW.out.size, HBW.out.trans (hb2.mono HBW.out.size)⟩
  · have hr2 : rightB c i t n = false := by simpa using hr
    have HE := Lib.hid (show writeE c i t b = ([], 2) by unfold writeE; rw [hn, if_neg hr])
    rw [hr2] at HF
    clear hr hr2 hn
    go_enter Try.func8, Try.ntmps8
    go_wp2_with (go_at_call 15; refine HF.out.mono ?_; rintro e w1 ⟨rfl, hww⟩; subst hww)
    go_ret2
    exact ⟨none, 0, 0, by rw [HE.out]; rfl, by rw [HE.out]; exact Buf.nil _ _, HBW.out⟩
end Go.Proofs.Ytokogedgbegmkaa
