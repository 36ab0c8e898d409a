/-
  The contracts of package wrap's begin, whole and Wrap.
-/
import Derived.Test.YtbomckbekcaemaaDoorVa
import Derived.Deep.DeepCutAuto
import Derived.Deep.QuietTactic
namespace Go.Proofs.YtbomckbekcaemaaDoor
open Go.RowKit

theorem inf2 : (Tryd.prog.info? 71).map (·.size) = some 2 := by kernel_rfl
theorem hide_e (As Ab A : Option Addr) (cs cb c ls lb n N : Nat) (sec beg b : List UInt8) (w : World) (is : In w w.heap.size As cs sec) (ib : In w w.heap.size Ab cb beg) (i0 : In w w.heap.size A c b) (ht : TabsQ w)
    (hls : sec.length = ls) (hlb : beg.length = lb) (hn : b.length = n) (h1 : ls ≤ 1000000) (h2 : lb ≤ 1000000) (h3 : n ≤ 1000000) (hN : N = 16 * ((n + 15) / 16)) :
    Calls Tryd.prog 78 #[.slice As ls cs, .slice Ab lb cb, .slice A n c] w fun e w' => ∃ Ah ch, e = .returned (.slice Ah N ch) ∧ In w' w'.heap.size Ah ch (hideE sec beg b) ∧ Below w.heap.size w w' := by
  subst hls hlb hn hN
  refine (hide_any As Ab A cs cb c w.heap.size ((b.length + 15) / 16) (16 * ((b.length + 15) / 16)) sec beg b (padX b) w (Nat.le_refl _) is ib i0 ht h1 h2 h3 rfl rfl rfl).mono ?_
  rintro e w' ⟨rfl, hB, hb⟩
  have hl := hideE_length sec beg b
  refine ⟨_, _, rfl, ?_, hb⟩
  have := In.of_blk (B := w'.heap.size) (xs := hideE sec beg b) hB hB.lt (by rw [hl]; omega)
  rwa [hl] at this
set_option maxRecDepth 100000 in
set_option maxHeartbeats 1000000 in
theorem begin_e (Q : List UInt8) (s0 s1 : UInt8) (w : World) (hQ : Q.length = 16) :
    Calls Tryd.prog 79 #[.agg (Q.map B8).toArray, .agg #[.int .u8 (s0.toNat : Int), .int .u8 (s1.toNat : Int)]] w fun e w' => ∃ A c, e = .returned (.slice A 18 c) ∧ In w' w'.heap.size A c (Q ++ [s0, s1]) ∧ Below w.heap.size w w' := by
  go_enter Tryd.func79, Tryd.ntmps79
  go_upto_region 1 with (fail)
  have HB := Lib.hid (show Buf ((w.alloc (.cells (Q.map B8).toArray 22)).alloc (.cells #[.int .u8 (s0.toNat : Int), .int .u8 (s1.toNat : Int)] 71)) w.heap.size (some ⟨w.heap.size, 0, none⟩) 16 16 Q from
    (Buf.made _ 22 0 0 (Nat.le_refl _) hQ (Nat.le_refl _) (by decide) (by simpa using hQ) (.inr rfl) (fun j hj => by rw [List.getElem?_toArray]; exact getD_map8 Q j (by omega))).alloc _)
  have hBs := Blk.new2_of w (.cells (Q.map B8).toArray 22) 71 #[.int .u8 (s0.toNat : Int), .int .u8 (s1.toNat : Int)] ([s0, s1].map B8) rfl
  have HI := Lib.hid (in_blk (n := 2) hBs rfl (by decide))
  have hb1 : Below w.heap.size w (w.alloc (.cells (Q.map B8).toArray 22)) := (Below.refl _ _).alloc (Nat.le_refl _) _
  have HBW := Lib.hid (hb1.alloc hb1.size (.cells #[.int .u8 (s0.toNat : Int), .int .u8 (s1.toNat : Int)] 71))
  have HG := Lib.hid HBW.out.size
  obtain ⟨g2, hg2⟩ : ∃ g2, g2 = w.heap.size + 1 := ⟨_, rfl⟩
  rw [← hg2] at HI ⊢
  clear hBs hb1 hg2
  generalize (w.alloc (.cells (Q.map B8).toArray 22)).alloc (.cells #[.int .u8 (s0.toNat : Int), .int .u8 (s1.toNat : Int)] 71) = w2 at *
  refine wp_region_noPanic ?_
  refine wp_region_held_drew (S := fun W => Below w.heap.size w W) (by kernel_rfl) (by exact below_drewN HBW.out 1) (fun hHeld => ?_)
  refine wpAnyH_take (i := 0) (oi := ⟨_, _, _, _, _, _⟩) (v := ?_) rfl (by kernel_rfl) (by kernel_rfl) (by kernel_rfl) (fun _ _ _ h => h) (Or.inl ⟨by rfl, ?_⟩) hHeld ?_
  rotate_left 1
  · (intro W hSw; (try dsimp only at hSw); go_simp; try with_reducible rfl)
  try simp only [Act.put, List.setIfInBounds_toArray, List.set_cons_zero, List.set_cons_succ]
  refine wpAnyH_take (i := 1) (oi := ⟨_, _, _, _, _, _⟩) (v := ?_) rfl (by kernel_rfl) (by kernel_rfl) (by kernel_rfl) (fun _ _ _ h => h) (Or.inl ⟨by rfl, ?_⟩) hHeld ?_
  rotate_left 1
  · (intro W hSw; (try dsimp only at hSw); go_simp; try with_reducible rfl)
  try simp only [Act.put, List.setIfInBounds_toArray, List.set_cons_zero, List.set_cons_succ]
  replace hHeld : Below w.heap.size w w2.drew := hHeld
  replace HB := Lib.hid HB.out.drew
  replace HI := Lib.hid (show In w2.drew w2.drew.heap.size (some ⟨g2, 0, none⟩) 2 [s0, s1] from HI.out)
  replace HG := Lib.hid (show w.heap.size ≤ w2.drew.heap.size from HG.out)
  generalize w2.drew = w3 at *
  refine wpAnyH_ready (rs := [2]) (by kernel_rfl) (by simp) ?_
  refine AllReadyH.cons (o := ⟨_, _, _, _, _, _⟩) rfl (fun K hK => ?_) AllReadyH.nil
  refine step_append_far (by rfl) (.tmp 5) (.tmp 6) 26 rfl w.heap.size _ 16 16 Q [s0, s1] _ rfl HB.out rfl (src_at (HI.out.src (Nat.le_refl _)) rfl) (by simp) HG.out 18 rfl ?_
  intro A1 c1 w4 hB1 hg1 _
  refine hK.out _ _ (below_own hHeld HB.out hg1 (Nat.le_refl _) HG.out) (fun hHeld => ?_)
  clear hK K
  try simp only [Act.put, List.setIfInBounds_toArray, List.set_cons_zero, List.set_cons_succ]
  refine wpAnyH_take (i := 3) (oi := ⟨_, _, _, _, _, _⟩) (v := ?_) rfl (by kernel_rfl) (by kernel_rfl) (by kernel_rfl) (fun _ _ _ h => h) (Or.inl ⟨by rfl, ?_⟩) hHeld ?_
  rotate_left 1
  · (intro W hSw; (try dsimp only at hSw); go_simp; try with_reducible rfl)
  try simp only [Act.put, List.setIfInBounds_toArray, List.set_cons_zero, List.set_cons_succ]
  refine wpAnyH_done (by kernel_rfl) ?_ _
  refine NoPanic.normal ?_
  go_wp2
  go_ret
  exact ⟨A1, c1, rfl, hB1.toIn (Nat.le_refl _), hHeld⟩
end Go.Proofs.YtbomckbekcaemaaDoor
