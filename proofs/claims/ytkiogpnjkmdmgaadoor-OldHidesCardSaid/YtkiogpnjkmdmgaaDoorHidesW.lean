/-
  The walk of the statement OldHides.
-/
import Derived.Test.YtkiogpnjkmdmgaaDoorQShow
import Derived.Test.YtkiogpnjkmdmgaaDoorQRefHide
import Derived.Deep.RegionHeld3
namespace Go.Proofs.YtkiogpnjkmdmgaaDoor
open Go.RowKit

/-- What Show makes of bytes. -/
def shownAs (sec beg b : List UInt8) : List UInt8 := if b.length % 16 = 0 then hDone true sec beg b (b.length / 16) else []
theorem show_all (As Ab A : Option Addr) (cs cb c : Nat) (sec beg b : List UInt8) (w : World) (is : In w w.heap.size As cs sec) (ib : In w w.heap.size Ab cb beg) (i0 : In w w.heap.size A c b) (ht : TabsQ w)
    (hs : sec.length ≤ 1000000) (hbl : beg.length ≤ 1000000) (hb : b.length ≤ 1000000) :
    Calls Tryd.prog 16 #[.slice As sec.length cs, .slice Ab beg.length cb, .slice A b.length c] w fun e w' => ∃ A' c', e = .returned (.slice A' (shownAs sec beg b).length c') ∧ In w' w'.heap.size A' c' (shownAs sec beg b) ∧ Below w.heap.size w w' := by
  unfold shownAs
  by_cases h : b.length % 16 = 0
  · rw [if_pos h]
    have hN : b.length = 16 * (b.length / 16) := by omega
    have hl := hDone_length (back := true) (sec := sec) (beg := beg) (P := b) (k := b.length / 16) (by omega)
    rw [← hN] at hl
    refine (show_any As Ab A cs cb c w.heap.size (b.length / 16) b.length sec beg b w (Nat.le_refl _) is ib i0 ht hs hbl hb hN rfl).mono ?_
    rintro e w' ⟨rfl, hB, hbw⟩
    refine ⟨_, b.length, by rw [hl], ?_, hbw⟩
    exact in_of_blk (o := 0) hB (by rw [List.drop_zero, List.take_of_length_le (Nat.le_of_eq hl)]) hl (Nat.le_refl _) (by omega)
  · rw [if_neg h]
    refine (show_bad As Ab A _ _ cs cb c b.length w h hb).mono ?_
    rintro e w' ⟨rfl, hbw⟩
    exact ⟨none, 0, rfl, ⟨Nat.le_refl _, by omega, fun h => absurd h (by simp)⟩, hbw⟩
theorem refShow_all (sec beg b : List UInt8) (w : World) (hs : sec.length ≤ 1000000) (hbl : beg.length ≤ 1000000) (hb : b.length ≤ 1000000) :
    Calls Tryd.prog 18 #[.string ⟨sec.toArray⟩, .string ⟨beg.toArray⟩, .string ⟨b.toArray⟩, .bool true] w fun e w' => e = .returned (.string ⟨(shownAs sec beg b).toArray⟩) ∧ Below w.heap.size w w' := by
  unfold shownAs
  by_cases h : b.length % 16 = 0
  · rw [if_pos h]
    have := refHide_true sec beg b b ((b.length + 15) / 16) w hs hbl hb rfl (by rw [show 16 * ((b.length + 15) / 16) - b.length = 0 by omega]; simp) h
    rw [show (b.length + 15) / 16 = b.length / 16 by omega] at this
    exact this
  · rw [if_neg h]
    exact refHide_bad sec beg b w hb h

set_option maxRecDepth 100000 in
set_option maxHeartbeats 4000000 in
theorem oldHides_walk (S G B : Option Addr) (cs cg cb : Nat) (xs xg xb : List UInt8) (w : World) (iS0 : In w w.heap.size S cs xs) (iG0 : In w w.heap.size G cg xg) (iB0 : In w w.heap.size B cb xb) (ht : TabsQ w) :
    Calls Tryd.prog 4 #[.slice S xs.length cs, .slice G xg.length cg, .slice B xb.length cb] w fun e w' => e = .returned (.bool true) ∧ Below w.heap.size w w' := by
  have ms : min (xs.length : Int) 100 = ((xs.take 100).length : Int) := by rw [List.length_take]; omega
  have mg : min (xg.length : Int) 100 = ((xg.take 100).length : Int) := by rw [List.length_take]; omega
  have mb : min (xb.length : Int) 200 = ((xb.take 200).length : Int) := by rw [List.length_take]; omega
  have jS := iS0.take 100
  have jG := iG0.take 100
  have jB := iB0.take 200
  have ls : (xs.take 100).length ≤ 100 := by rw [List.length_take]; omega
  have lg : (xg.take 100).length ≤ 100 := by rw [List.length_take]; omega
  have lb : (xb.take 200).length ≤ 200 := by rw [List.length_take]; omega
  have ks := jS.1
  have kg := jG.1
  have kb := jB.1
  obtain ⟨_, ks2, _⟩ := iS0
  obtain ⟨_, kg2, _⟩ := iG0
  obtain ⟨_, kb2, _⟩ := iB0
  generalize xs.take 100 = sec at *
  generalize xg.take 100 = beg at *
  generalize xb.take 200 = b at *
  obtain ⟨n, hn⟩ : ∃ n, n = (b.length + 15) / 16 := ⟨_, rfl⟩
  obtain ⟨N, hN⟩ : ∃ N, N = 16 * n := ⟨_, rfl⟩
  obtain ⟨P, hP⟩ : ∃ P, P = b ++ List.replicate (N - b.length) 0 := ⟨_, rfl⟩
  have HN := Lib.hid (show n = (b.length + 15) / 16 ∧ N = 16 * n from ⟨hn, hN⟩)
  have hNb : N ≤ 300 := by omega
  have HP := Lib.hid hP
  clear hn hN hP
  go_enter Tryd.func4, Tryd.ntmps4
  go_wp2
  refine wp_region_noPanic ?_
  refine wp_region_held_drew (S := fun W => Below w.heap.size w W) (by kernel_rfl) (by exact below_drewN (Below.refl _ _) 1) (fun hHeld => ?_)
  refine wpAnyH_take (i := 0) (oi := ⟨_, _, _, _, _, _⟩) (v := ?_) rfl (by kernel_rfl) (by kernel_rfl) (by kernel_rfl) (fun _ _ _ h => h) (Or.inl ⟨by rfl, ?_⟩) hHeld ?_
  rotate_left 1
  · (intro W hSw; (try dsimp only at hSw); go_simp; try with_reducible rfl)
  try simp only [Act.put, List.setIfInBounds_toArray, List.set_cons_zero, List.set_cons_succ]
  refine wpAnyH_take (i := 1) (oi := ⟨_, _, _, _, _, _⟩) (v := ?_) rfl (by kernel_rfl) (by kernel_rfl) (by kernel_rfl) (fun _ _ _ h => h) (Or.inl ⟨by rfl, ?_⟩) hHeld ?_
  rotate_left 1
  · (intro W hSw; (try dsimp only at hSw); go_simp; try with_reducible rfl)
  try simp only [Act.put, List.setIfInBounds_toArray, List.set_cons_zero, List.set_cons_succ]
  refine wpAnyH_take (i := 2) (oi := ⟨_, _, _, _, _, _⟩) (v := ?_) rfl (by kernel_rfl) (by kernel_rfl) (by kernel_rfl) (fun _ _ _ h => h) (Or.inl ⟨by rfl, ?_⟩) hHeld ?_
  rotate_left 1
  · (intro W hSw; (try dsimp only at hSw); go_simp; try with_reducible rfl)
  try simp only [Act.put, List.setIfInBounds_toArray, List.set_cons_zero, List.set_cons_succ]
  refine wpAnyH_take (i := 3) (oi := ⟨_, _, _, _, _, _⟩) (v := ?_) rfl (by kernel_rfl) (by kernel_rfl) (by kernel_rfl) (fun _ _ _ h => h) (Or.inl ⟨by rfl, ?_⟩) hHeld ?_
  rotate_left 1
  · (intro W hSw; (try dsimp only at hSw); go_simp; try with_reducible rfl)
  try simp only [Act.put, List.setIfInBounds_toArray, List.set_cons_zero, List.set_cons_succ]
  refine wpAnyH_take (i := 4) (oi := ⟨_, _, _, _, _, _⟩) (v := ?_) rfl (by kernel_rfl) (by kernel_rfl) (by kernel_rfl) (fun _ _ _ h => h) (Or.inl ⟨by rfl, ?_⟩) hHeld ?_
  rotate_left 1
  · (intro W hSw; (try dsimp only at hSw); go_simp; try with_reducible rfl)
  try simp only [Act.put, List.setIfInBounds_toArray, List.set_cons_zero, List.set_cons_succ]
  refine wpAnyH_take (i := 5) (oi := ⟨_, _, _, _, _, _⟩) (v := ?_) rfl (by kernel_rfl) (by kernel_rfl) (by kernel_rfl) (fun _ _ _ h => h) (Or.inl ⟨by rfl, ?_⟩) hHeld ?_
  rotate_left 1
  · (intro W hSw; (try dsimp only at hSw); go_simp; try with_reducible rfl)
  try simp only [Act.put, List.setIfInBounds_toArray, List.set_cons_zero, List.set_cons_succ]
  refine wpAnyH_take (i := 6) (oi := ⟨_, _, _, _, _, _⟩) (v := ?_) rfl (by kernel_rfl) (by kernel_rfl) (by kernel_rfl) (fun _ _ _ h => h) (Or.inl ⟨by rfl, ?_⟩) hHeld ?_
  rotate_left 1
  · (intro W hSw; (try dsimp only at hSw); go_simp; try with_reducible rfl)
  try simp only [Act.put, List.setIfInBounds_toArray, List.set_cons_zero, List.set_cons_succ]
  refine wpAnyH_take (i := 7) (oi := ⟨_, _, _, _, _, _⟩) (v := ?_) rfl (by kernel_rfl) (by kernel_rfl) (by kernel_rfl) (fun _ _ _ h => h) (Or.inl ⟨by rfl, ?_⟩) hHeld ?_
  rotate_left 1
  · (intro W hSw; (try dsimp only at hSw); go_simp; try with_reducible rfl)
  try simp only [Act.put, List.setIfInBounds_toArray, List.set_cons_zero, List.set_cons_succ]
  refine wpAnyH_take (i := 8) (oi := ⟨_, _, _, _, _, _⟩) (v := ?_) rfl (by kernel_rfl) (by kernel_rfl) (by kernel_rfl) (fun _ _ _ h => h) (Or.inl ⟨by rfl, ?_⟩) hHeld ?_
  rotate_left 1
  · (intro W hSw; (try dsimp only at hSw); go_simp; try with_reducible rfl)
  try simp only [Act.put, List.setIfInBounds_toArray, List.set_cons_zero, List.set_cons_succ]
  refine wpAnyH_take (i := 9) (oi := ⟨_, _, _, _, _, _⟩) (v := ?_) rfl (by kernel_rfl) (by kernel_rfl) (by kernel_rfl) (fun _ _ _ h => h) (Or.inl ⟨by rfl, ?_⟩) hHeld ?_
  rotate_left 1
  · (intro W hSw; (try dsimp only at hSw); go_simp; try with_reducible rfl)
  try simp only [Act.put, List.setIfInBounds_toArray, List.set_cons_zero, List.set_cons_succ]
  refine wpAnyH_take (i := 11) (oi := ⟨_, _, _, _, _, _⟩) (v := ?_) rfl (by kernel_rfl) (by kernel_rfl) (by kernel_rfl) (fun _ _ _ h => h) (Or.inl ⟨by rfl, ?_⟩) hHeld ?_
  rotate_left 1
  · (intro W hSw; (try dsimp only at hSw); go_simp; try with_reducible rfl)
  try simp only [Act.put, List.setIfInBounds_toArray, List.set_cons_zero, List.set_cons_succ]
  refine wpAnyH_take (i := 12) (oi := ⟨_, _, _, _, _, _⟩) (v := ?_) rfl (by kernel_rfl) (by kernel_rfl) (by kernel_rfl) (fun _ _ _ h => h) (Or.inl ⟨by rfl, ?_⟩) hHeld ?_
  rotate_left 1
  · (intro W hSw; (try dsimp only at hSw); go_simp; try with_reducible rfl)
  try simp only [Act.put, List.setIfInBounds_toArray, List.set_cons_zero, List.set_cons_succ]
  refine wpAnyH_take (i := 13) (oi := ⟨_, _, _, _, _, _⟩) (v := ?_) rfl (by kernel_rfl) (by kernel_rfl) (by kernel_rfl) (fun _ _ _ h => h) (Or.inl ⟨by rfl, ?_⟩) hHeld ?_
  rotate_left 1
  · (intro W hSw; (try dsimp only at hSw); go_simp; try with_reducible rfl)
  try simp only [Act.put, List.setIfInBounds_toArray, List.set_cons_zero, List.set_cons_succ]
  refine wpAnyH_take (i := 14) (oi := ⟨_, _, _, _, _, _⟩) (v := ?_) rfl (by kernel_rfl) (by kernel_rfl) (by kernel_rfl) (fun _ _ _ h => h) (Or.inl ⟨by rfl, ?_⟩) hHeld ?_
  rotate_left 1
  · (intro W hSw; (try dsimp only at hSw); go_simp; try with_reducible rfl)
  try simp only [Act.put, List.setIfInBounds_toArray, List.set_cons_zero, List.set_cons_succ]
  refine wpAnyH_take (i := 15) (oi := ⟨_, _, _, _, _, _⟩) (v := ?_) rfl (by kernel_rfl) (by kernel_rfl) (by kernel_rfl) (fun _ _ _ h => h) (Or.inl ⟨by rfl, ?_⟩) hHeld ?_
  rotate_left 1
  · (intro W hSw; (try dsimp only at hSw); go_simp; try with_reducible rfl)
  try simp only [Act.put, List.setIfInBounds_toArray, List.set_cons_zero, List.set_cons_succ]
  replace hHeld : Below w.heap.size w w.drew := hHeld
  generalize w.drew = wd at *
  have hz := hHeld.size
  refine wpAnyH_ready (rs := [10]) (by kernel_rfl) (by simp) ?_
  refine AllReadyH.cons (o := ⟨_, _, _, _, _, _⟩) rfl (fun K hK => ?_) AllReadyH.nil
  go_simp
  have hbuf := buf_empty wd
  refine hK.out _ _ (hHeld.alloc hz _) (fun hHeld => ?_)
  clear hK K
  try simp only [Act.put, List.setIfInBounds_toArray, List.set_cons_zero, List.set_cons_succ]
  refine wpAnyH_ready (rs := [16]) (by kernel_rfl) (by simp) ?_
  refine AllReadyH.cons (o := ⟨_, _, _, _, _, _⟩) rfl (fun K hK => ?_) AllReadyH.nil
  have hsrc : _root_.Go.Src Tryd.prog 1 27 (.slice B b.length cb) b.length (b.map B8) (wd.alloc (.cells #[] 5)) := src_in' ((jB.up hHeld).src (Nat.le_refl _))
  refine step_append_keep (by rfl) (.tmp 22) (.tmp 27) 27 rfl wd.heap.size _ 0 0 [] b _ rfl hbuf rfl hsrc (by omega) (by simp) b.length (by omega) ?_
  intro A3 c3 w3 hB3 hg3 _
  rw [List.nil_append] at hB3
  have hI3 := hB3.toIn (Nat.le_refl _)
  refine hK.out _ _ (below_own hHeld hbuf hg3 hz (by have := hHeld.size; omega)) (fun hb3 => ?_)
  clear hK K hsrc hbuf hg3 hB3
  replace hb3 : Below w.heap.size w w3 := hb3
  try simp only [Act.put, List.setIfInBounds_toArray, List.set_cons_zero, List.set_cons_succ]
  refine wpAnyH_take (i := 17) (oi := ⟨_, _, _, _, _, _⟩) (v := ?_) rfl (by kernel_rfl) (by kernel_rfl) (by kernel_rfl) (fun _ _ _ h => h) (Or.inl ⟨by rfl, ?_⟩) hb3 ?_
  rotate_left 1
  · (intro W hSw; (try dsimp only at hSw); go_simp; try with_reducible rfl)
  try simp only [Act.put, List.setIfInBounds_toArray, List.set_cons_zero, List.set_cons_succ]
  refine wpAnyH_take (i := 18) (oi := ⟨_, _, _, _, _, _⟩) (v := ?_) rfl (by kernel_rfl) (by kernel_rfl) (by kernel_rfl) (fun _ _ _ h => h) (Or.inl ⟨by rfl, ?_⟩) hb3 ?_
  rotate_left 1
  · (intro W hSw; (try dsimp only at hSw); go_simp; try with_reducible rfl)
  try simp only [Act.put, List.setIfInBounds_toArray, List.set_cons_zero, List.set_cons_succ]
  refine wpAnyH_take (i := 19) (oi := ⟨_, _, _, _, _, _⟩) (v := ?_) rfl (by kernel_rfl) (by kernel_rfl) (by kernel_rfl) (fun _ _ _ h => h) (Or.inl ⟨by rfl, ?_⟩) hb3 ?_
  rotate_left 1
  · (intro W hSw; (try dsimp only at hSw); go_simp; try with_reducible rfl)
  try simp only [Act.put, List.setIfInBounds_toArray, List.set_cons_zero, List.set_cons_succ]
  refine wpAnyH_done (by kernel_rfl) ?_ _
  refine NoPanic.normal ?_
  have iS := jS.up hb3
  have iG := jG.up hb3
  clear jS jG jB hz hHeld
  go_wp2_with ((with_reducible refine (?_ : wpList _ _ _ (Oper.mk (some 30) _ _ _ _ _ :: _) _ _)); go_loud (refine wpList_string_of rfl (.tmp 29) rfl b A3 c3 w3.heap.size rfl (hI3.src (Nat.le_refl _)) ?_))
  refine (hide_any S G A3 cs cg c3 w3.heap.size n N sec beg b P w3 (Nat.le_refl _) iS iG hI3 (ht.below hb3) (by omega) (by omega) (by omega) HN.out.1 HN.out.2 HP.out).mono ?_
  rintro e w4 ⟨rfl, hH, hb4⟩
  have iS4 := iS.up hb4
  have iG4 := iG.up hb4
  have hI4 := hI3.up hb4
  have hb04 := hb3.trans (hb4.mono hb3.size)
  clear iS iG hI3 hb3 hb4
  have hpl : P.length = N := by rw [HP.out, List.length_append, List.length_replicate]; have := HN.out; omega
  have hHl := hDone_length (back := false) (sec := sec) (beg := beg) (P := P) (k := n) (by have := HN.out; omega)
  have HHS := Lib.hid (hidden_shown (sec := sec) (beg := beg) (P := P) (n := n) (by have := HN.out; omega) n (Nat.le_refl _)).2
  rw [List.take_of_length_le (by have := HN.out; omega)] at HHS
  obtain ⟨H, hHd⟩ : ∃ H, H = hDone false sec beg P n := ⟨_, rfl⟩
  rw [← hHd] at hH hHl HHS
  have HHD := Lib.hid hHd
  have hHN : H.length = N := by have := HN.out; omega
  have HPL := Lib.hid hpl
  have HHN := Lib.hid hHN
  clear hHd hpl hHl
  go_wp2_with fail
  refine (show_all S G A3 cs cg c3 sec beg b w4 iS4 iG4 hI4 (ht.below hb04) (by omega) (by omega) (by omega)).mono ?_
  rintro e w5 ⟨A5, c5, rfl, hI5', hb5⟩
  have iS5 := iS4.up hb5
  have iG5 := iG4.up hb5
  have hI5 := hI4.up hb5
  have hH5 := hH.below hb5 hH.lt
  have hb05 := hb04.trans (hb5.mono hb04.size)
  have hgH := hH.lt
  have hz5 := hb5.size
  generalize w4.heap.size = z4 at *
  have hiH := in_of_blk (xs := H) (o := 0) (n := N) (c := N) hH5 (by rw [List.drop_zero, List.take_of_length_le (by rw [HHN.out]; exact Nat.le_refl _)]) HHN.out (Nat.le_refl _) (by omega)
  generalize w3.heap.size = g3 at *
  clear hI4 iS4 iG4 hb5 hH hb04
  have hcH := fun (W : World) (h : Below w5.heap.size w5 W) => conv_in HHN.out (hiH.up h)
  have hcS := fun (W : World) (h : Below w5.heap.size w5 W) => conv_in rfl (iS5.up h)
  have hcG := fun (W : World) (h : Below w5.heap.size w5 W) => conv_in rfl (iG5.up h)
  have hcX := fun (W : World) (h : Below w5.heap.size w5 W) => conv_in rfl (hI5'.up h)
  have HT := Lib.hid (fun (W : World) (h : Below w5.heap.size w5 W) => (ht.below hb05).below h)
  have R1 := fun (W : World) => refHide_false sec beg b P n W (by omega) (by omega) (by omega) HN.out.1 (by rw [← HN.out.2]; exact HP.out)
  rw [← HHD.out] at R1
  have R2 := fun (W : World) => refShow_all sec beg b W (by omega) (by omega) (by omega)
  have HR1 := Lib.hid R1
  have HR2 := Lib.hid R2
  have HS0 := Lib.hid (show Below w5.heap.size w5 w5.drew from below_drewN (Below.refl _ _) 1)
  have HI := Lib.hid hI5
  have HIS := Lib.hid iS5
  have HIG := Lib.hid iG5
  have HIH := Lib.hid hiH
  have HH5 := Lib.hid (show Blk w5 g3 5 (H.map B8) ∧ g3 < w5.heap.size from ⟨hH5, Nat.lt_of_lt_of_le hgH hz5⟩)
  have HB05 := Lib.hid hb05
  have HTq := Lib.hid ht
  clear R1 R2 hI5 iS5 iG5 hiH hH5 hgH hz5 hb05 hI5' hHeld ht hHN
  go_wp2
  go_region_held3 (fun W => Below w5.heap.size w5 W) (first | exact HS0.out | assumption | exact Below.trans (by assumption) (Below.mono (by assumption) (Below.size (by assumption)))) (first
    | (go_at_call 17; refine (olds_any _ (HT.out _ (by assumption))).mono ?_; rintro e w7 ⟨rfl, hb7⟩)
    | (go_at_call 18; ((with_reducible refine (HR1.out _).mono ?_); rintro e w7 ⟨rfl, hb7⟩))
    | (go_at_call 18; ((with_reducible refine (HR2.out _).mono ?_); rintro e w7 ⟨rfl, hb7⟩)))
  have hE : Below w5.heap.size w5 w7 := by assumption
  have iS7 := HIS.out.up hE
  have iG7 := HIG.out.up hE
  have iH7 := HIH.out.up hE
  have iB7 := HI.out.up hE
  have hb07 := HB05.out.trans (hE.mono HB05.out.size)
  have hsh := show_any S G (some ⟨g3, 0, none⟩) cs cg N w7.heap.size n N sec beg H w7 (Nat.le_refl _) iS7 iG7 iH7 (HTq.out.below hb07) (by omega) (by omega) (by have := HHN.out; omega) HN.out.2 HHN.out
  rw [HHS.out] at hsh
  clear hE hb7 iS7 iG7 iH7 hcH hcS hcG hcX
  go_wp2_with fail
  refine hsh.mono ?_
  rintro e w8 ⟨rfl, hT8, hb8⟩
  have iB8 := iB7.up hb8
  have hb08 := hb07.trans (hb8.mono hb07.size)
  clear hsh iB7 hb07 hb8
  generalize w7.heap.size = g7 at *
  have d1 : (N : Int).tmod 16 = 0 := by have := HN.out; rw [Int.tmod_eq_emod_of_nonneg (by omega)]; omega
  have d2 : decide ((N : Int) < (b.length : Int)) = false := by have := HN.out; simp; omega
  have d3 : decide ((b.length : Int) + 15 < (N : Int)) = false := by have := HN.out; simp; omega
  have d4 : b.length ≤ N := by have := HN.out; omega
  have hPb : P.take b.length = b := by rw [HP.out, List.take_append_of_le_length (Nat.le_refl _), List.take_length]
  have hP0 : ∀ k, b.length ≤ k → P.getD k 0 = 0 := fun k hk => by
    rw [HP.out, List.getD_eq_getElem?_getD, List.getElem?_append_right hk, List.getElem?_replicate]
    split <;> rfl
  have hiT := in_of_blk (xs := b) (o := 0) (n := b.length) (c := N) hT8 (by rw [List.drop_zero, hPb]) rfl d4 (by omega)
  have hcT := conv_in (W := w8) (n := b.length) rfl hiT
  have HP0 := Lib.hid hP0
  clear hP0 hPb hiT
  go_wp2
  go_loopw [11] (fun i wr => ∃ k : Nat, b.length ≤ k ∧ k ≤ N ∧ i = .int .i64 (k : Int) ∧ Below w8.heap.size w8 wr) (fun i _ => N - (intOf i).toNat)
  case atStart => exact ⟨b.length, Nat.le_refl _, d4, rfl, Below.refl _ _⟩
  case round =>
    obtain ⟨k, hk1, hk2, rfl, hbw⟩ := hrel
    by_cases hlt : k < N
    · have hd : decide ((k : Int) < (N : Int)) = true := by simp; omega
      have hc := (hT8.below hbw hT8.lt).at8 k (by rw [HPL.out]; exact hlt)
      rw [HP0.out k hk1] at hc
      have hk3 : (k : Int) < (N : Int) := by omega
      have hk0 : (0 : Int) ≤ (k : Int) := by omega
      clear d1 d2 d3
      go_wp2
      go_roundw
      case rel => exact ⟨k + 1, by omega, by omega, by go_num, hbw⟩
      case measure => simp [intOf]; omega
    · have hd : decide ((k : Int) < (N : Int)) = false := by simp; omega
      have iBw := iB8.up hbw
      have hb0w := hb08.trans (hbw.mono hb08.size)
      clear d1 d2 d3
      go_wp2_with ((with_reducible refine (?_ : wpList _ _ _ (Oper.mk (some 116) _ _ _ _ _ :: _) _ _)); go_loud (refine wpList_string_of rfl (.tmp 115) rfl b A3 c3 wr.heap.size rfl (iBw.src (Nat.le_refl _)) ?_))
      go_ret
      exact ⟨rfl, hb0w⟩
end Go.Proofs.YtkiogpnjkmdmgaaDoor
