/-
  Package hash's contracts in a joint seat, and what stands tells.
-/
import Derived.Test.YtbomckbekcaemaaDoorVx
import Derived.StillTailTactics
import Derived.BigRegion
import Derived.IntWalk
import Derived.Deep.MidRow
import Derived.Laws.CopyRow
import Derived.Lib.MinMax
import Derived.Stop.BytesEq
import Derived.Deep.AppendSrc
import Derived.Deep.Upon
import Derived.Laws.IdiomStrings
import Derived.Lib.SlBytesConst
import Derived.Lib.SmallJoins
import Derived.Deep.RegionHeld3
namespace Go.Proofs.YtbomckbekcaemaaDoor
open Go.RowKit
set_option maxRecDepth 100000 in
set_option maxHeartbeats 400000 in
theorem sched_any (gb ob : Nat) (cap : Nat) (bs : List UInt8) (w : World) (hl : bs.length = 64) (hcap : 64 ≤ cap) (hcm : cap ≤ 9223372036854775807) (hb : Bytes w gb ob bs) :
    Calls Tryd.prog 93 #[.slice (some ⟨gb, ob, none⟩) 64 cap] w fun e w' => e = .returned (.agg ((schedTo bs 64).map U32).toArray) ∧ Below w.heap.size w w' := by
  have hgb := hb.lt (by omega)
  go_enter Tryd.func93, Tryd.ntmps93
  go_wp2
  go_loopw [11] (fun i wr => ∃ k : Nat, k ≤ 16 ∧ i = .int .i64 k ∧ Blk wr (w.heap.size + 1) 118 ((schedTo bs k).map U32) ∧ Blk wr (w.heap.size) 118 ((schedTo bs 0).map U32) ∧ Below (w.heap.size) w wr) (fun i _ => 16 - (intOf i).toNat)
  case atStart => exact ⟨0, by omega, rfl, Blk.new2_of w _ _ _ _ (by rfl), (Blk.new_of w _ _ _ (by rfl)).alloc _, ((Below.refl _ _).alloc (Nat.le_refl _) _).alloc (by simp) _⟩
  case round =>
    obtain ⟨k, hk, rfl, hB, hA, hbl⟩ := hrel
    by_cases hlt : k < 16
    · have hd : decide ((k : Int) < 16) = true := by simp; omega
      have HL := Lib.hid (schedTo_low bs k hlt)
      have hb' := hb.below hbl hgb
      have c0 := hb' (4 * k) (by omega)
      have c1 := hb' (4 * k + 1) (by omega)
      have c2 := hb' (4 * k + 2) (by omega)
      have c3 := hb' (4 * k + 3) (by omega)
      simp only [← Nat.add_assoc] at c1 c2 c3
      clear hb' hb
      have cw := hB.at32 k (by rw [schedTo_length]; omega)
      have cf := hB.frozen k
      go_wp2
      go_still_tail 23, (by kernel_rfl)
      change wpList _ _ _ _ _ wr.drew
      go_wp2
      go_roundw
      case rel =>
        refine ⟨k + 1, by omega, by go_num, ?_, (hA.far (p := ⟨w.heap.size + 1, k, none⟩) (by simp) _).drew, (hbl.setCell (by simp) _).drew⟩
        rw [HL.out, beWord_eq, ← map_set32]
        exact (hB.set_ k _).drew
      case measure => simp [intOf]; omega
    · have hd : decide ((k : Int) < 16) = false := by simp; omega
      have hk16 : k = 16 := by omega
      replace hB : Blk wr (w.heap.size + 1) 118 ((schedTo bs 16).map U32) := hk16 ▸ hB
      clear hlt hk hb hk16
      go_wp2
      obtain ⟨wo, rfl⟩ : ∃ wo : World, wo = wr := ⟨_, rfl⟩
      go_loopw [6] (fun i wr => ∃ k : Nat, 16 ≤ k ∧ k ≤ 64 ∧ i = .int .i64 k ∧ Blk wr (w.heap.size + 1) 118 ((schedTo bs k).map U32) ∧ Blk wr (w.heap.size) 118 ((schedTo bs 0).map U32) ∧ Below (w.heap.size) w wr) (fun i _ => 64 - (intOf i).toNat)
      case atStart => exact ⟨16, by omega, by omega, rfl, hB, hA, hbl⟩
      case round =>
        obtain ⟨k, hk0, hk, rfl, hB, hA, hbl⟩ := hrel
        by_cases hlt : k < 64
        · have hd : decide ((k : Int) < 64) = true := by simp; omega
          have HL := Lib.hid (schedTo_high bs k (by omega))
          have l64 := schedTo_length bs k
          have c15 := hB.at32 (k - 15) (by omega)
          have c2 := hB.at32 (k - 2) (by omega)
          go_wp2
          go_quiet (fail)
          replace hB := hB.drewN nq
          replace hA := hA.drewN nq
          replace hbl := below_drewN hbl nq
          clear c15 c2
          generalize wr.drewN nq = w1 at *
          have c16 := hB.at32 (k - 16) (by omega)
          have c7 := hB.at32 (k - 7) (by omega)
          have cw := hB.at32 k (by omega)
          have cf := hB.frozen k
          clear l64
          go_wp2_with (go_at_call 91; refine (rot_any _ _ _ (by omega) (by omega)).mono ?_; rintro e w' ⟨rfl, rfl⟩)
          go_wp2
          have a1 : IntKind.i64.wrap ((k : Int) - 16) = (k : Int) - 16 := IntWalk.i64_in _ (by omega)
          have a2 : IntKind.i64.wrap ((k : Int) - 7) = (k : Int) - 7 := IntWalk.i64_in _ (by omega)
          have a3 : (0 : Int) ≤ (k : Int) - 16 := by omega
          have a4 : (k : Int) - 16 < 64 := by omega
          have a5 : (0 : Int) ≤ (k : Int) - 7 := by omega
          have a6 : (k : Int) - 7 < 64 := by omega
          have a7 : ((k : Int) - 16).toNat = k - 16 := by omega
          have a8 : ((k : Int) - 7).toNat = k - 7 := by omega
          have b1 : (16 : Int) ≤ (k : Int) := by omega
          have b2 : (7 : Int) ≤ (k : Int) := by omega
          go_still_tail 14, (by kernel_rfl)
          clear a1 a2 a3 a4 a5 a6 a7 a8 b1 b2
          change wpList _ _ _ _ _ w1.drew
          go_wp2
          go_roundw
          case rel =>
            refine ⟨k + 1, by omega, by omega, by go_num, ?_, ?_, ?_⟩
            · rw [HL.out, s0_eq, s1_eq, w_add4, ← map_set32]
              exact (hB.set_ k _).drew
            · exact (hA.far (p := ⟨w.heap.size + 1, k, none⟩) (by simp) _).drew
            · exact (hbl.setCell (by simp) _).drew
          case measure => simp [intOf]; omega
        · have hd : decide ((k : Int) < 64) = false := by simp; omega
          obtain rfl : k = 64 := by omega
          go_wp2_with (first
            | (refine wpList_load_row rfl 118 (.tmp 3) rfl (w.heap.size + 1) rfl 118 _ (0, 0) _ hB.raw Tryd.underlying118 rfl (info64.trans (by simp [schedTo_length])) ?_)
            | (refine wpList_store_row rfl 118 (.tmp 2) (.tmp 89) rfl w.heap.size _ rfl rfl 118 _ hA.raw (info64.trans (by simp [schedTo_length])) (by simp [schedTo_length]) (one32 _) ?_))
          refine bodyPost_ret (v := .agg _) (results_cell_row rfl _ _ w.heap.size 118 _ (0, 0) _ rfl (hA.row _).raw Tryd.underlying118 rfl (info64.trans (by simp [schedTo_length]))) rfl ⟨rfl, below_setRow' hbl (by omega) _⟩

/-- The two tables of package hash hold what the standard says. -/
structure Tabs (w : World) : Prop where
  first : ∀ i, i < 8 → w.cell? ⟨0, i, none⟩ = some (.int .u32 (first.words.getD i 0).toNat)
  rounds : ∀ i, i < 64 → w.cell? ⟨3, i, none⟩ = some (.int .u32 (kTab.getD i 0).toNat)
theorem Tabs.keep {w w' : World} (h : Tabs w) (k : ∀ p : Addr, p.block = 0 ∨ p.block = 3 → w'.cell? p = w.cell? p) : Tabs w' :=
  ⟨fun i hi => (k _ (.inl rfl)).trans (h.first i hi), fun i hi => (k _ (.inr rfl)).trans (h.rounds i hi)⟩
theorem Tabs.lt0 {w : World} (h : Tabs w) : 0 < w.heap.size := block_lt_of_cell (h.first 0 (by omega))
theorem Tabs.lt1 {w : World} (h : Tabs w) : 3 < w.heap.size := block_lt_of_cell (h.rounds 0 (by omega))
theorem Tabs.below {w w' : World} (h : Tabs w) (hb : Below w.heap.size w w') : Tabs w' :=
  h.keep fun p hp => hb.cell (by rcases hp with hp | hp <;> rw [hp]; exact h.lt0; exact h.lt1)
theorem Tabs.drew {w : World} (h : Tabs w) : Tabs w.drew := ⟨h.first, h.rounds⟩
theorem Tabs.drewN {w : World} (h : Tabs w) (n : Nat) : Tabs (w.drewN n) := ⟨h.first, h.rounds⟩
theorem Tabs.grown {w w' : World} {g : Nat} (h : Tabs w) (hb : w.grownBy w' (some g)) (h0 : g ≠ 0) (h1 : g ≠ 3) : Tabs w' :=
  h.keep fun p hp => World.cell?_of_block (hb.block p.block (by rcases hp with hp | hp <;> rw [hp]; exact h.lt0; exact h.lt1) (by rcases hp with hp | hp <;> rw [hp] <;> simp <;> omega))

set_option maxRecDepth 100000 in
set_option maxHeartbeats 2000000 in
theorem hturn_any (g gb ob cap : Nat) (t : TypeId) (s : St) (R : List Value) (bs : List UInt8) (w : World) (hl : bs.length = 64) (hcap : 64 ≤ cap) (hcm : cap ≤ 9223372036854775807)
    (hb : Bytes w gb ob bs) (hs : Blk w g t (s.vals ++ R)) (ht : Tabs w) :
    Calls Tryd.prog 92 #[.pointer (some ⟨g, 0, none⟩), .slice (some ⟨gb, ob, none⟩) 64 cap] w fun e w' => e = .returned (.tuple #[]) ∧ Blk w' g t ((comp s bs).vals ++ R) ∧ w.grownBy w' (some g) := by
  go_enter Tryd.func92, Tryd.ntmps92
  go_wp2_with fail
  refine (sched_any gb ob cap bs w hl hcap hcm hb).mono ?_
  rintro e w1 ⟨rfl, hb1⟩
  replace ht := ht.below hb1
  replace hs := hs.below hb1 hs.lt
  go_wp2_with (refine wpList_store_blk rfl 118 (.tmp 4) (.tmp 21) rfl rfl w1.heap.size _ rfl rfl 118 ((List.replicate 64 (0 : UInt32)).map U32) (Blk.new_of w1 _ _ _ (by rfl)) (info64.trans (by simp [schedTo_length])) (by simp [schedTo_length]) (one32 _) ?_; intro w2 hW hg2)
  have hsz : w.heap.size ≤ w1.heap.size := hb1.size
  have hlt := hs.lt
  replace hs := (hs.alloc _).grown hg2 (by simp; omega)
  replace hb1 := below_new (hb1.alloc hb1.size _) hg2 hb1.size (by simp; omega)
  replace ht := (ht.below ((Below.refl _ _).alloc (Nat.le_refl _) _)).grown hg2 (by have := ht.lt0; omega) (by have := ht.lt1; omega)
  clear hg2
  generalize w1.heap.size = G at *
  clear w1
  obtain ⟨W, hWW⟩ : ∃ W, W = schedTo bs 64 := ⟨_, rfl⟩
  rw [← hWW] at hW
  have hWl : W.length = 64 := by rw [hWW]; exact schedTo_length _ _
  have HW := Lib.hid hWW
  have HWl := Lib.hid hWl
  clear hWW hWl
  have c0 : w2.cell? ⟨g, 0, none⟩ = some (.int .u32 s.a.toNat) := hs.cell 0
  have c1 : w2.cell? ⟨g, 1, none⟩ = some (.int .u32 s.b.toNat) := hs.cell 1
  have c2 : w2.cell? ⟨g, 2, none⟩ = some (.int .u32 s.c.toNat) := hs.cell 2
  have c3 : w2.cell? ⟨g, 3, none⟩ = some (.int .u32 s.d.toNat) := hs.cell 3
  go_quiet (fail)
  replace hs := hs.drewN nq
  replace hW := hW.drewN nq
  replace ht := ht.drewN nq
  replace hb1 := below_drewN hb1 nq
  clear c0 c1 c2 c3
  generalize w2.drewN nq = w2 at *
  clear nq
  have c4 : w2.cell? ⟨g, 4, none⟩ = some (.int .u32 s.e.toNat) := hs.cell 4
  have c5 : w2.cell? ⟨g, 5, none⟩ = some (.int .u32 s.f.toNat) := hs.cell 5
  have c6 : w2.cell? ⟨g, 6, none⟩ = some (.int .u32 s.g.toNat) := hs.cell 6
  have c7 : w2.cell? ⟨g, 7, none⟩ = some (.int .u32 s.h.toNat) := hs.cell 7
  go_wp2
  go_quiet (fail)
  replace hs := hs.drewN nq
  replace hW := hW.drewN nq
  replace ht := ht.drewN nq
  replace hb1 := below_drewN hb1 nq
  clear c4 c5 c6 c7
  generalize w2.drewN nq = w3 at *
  clear nq
  go_wp2
  have hsg : IntKind.u32.signed = false := rfl
  go_loopw [5, 6, 7, 8, 9, 10, 11, 12, 54] (fun va vb vc vd ve vf vg vh i wr => ∃ (k : Nat) (q : St) (n : Nat), k ≤ 64 ∧ i = .int .i64 k ∧ va = .int .u32 q.a.toNat ∧ vb = .int .u32 q.b.toNat ∧ vc = .int .u32 q.c.toNat ∧ vd = .int .u32 q.d.toNat ∧ ve = .int .u32 q.e.toNat ∧ vf = .int .u32 q.f.toNat ∧ vg = .int .u32 q.g.toNat ∧ vh = .int .u32 q.h.toNat ∧ Hid (q = rnds W k s) ∧ wr = w3.drewN n)
    (fun _ _ _ _ _ _ _ _ i _ => 64 - (intOf i).toNat)
  case atStart => exact ⟨0, s, 0, by omega, rfl, rfl, rfl, rfl, rfl, rfl, rfl, rfl, rfl, (show _ = _ from rfl), rfl⟩
  case round =>
    obtain ⟨k, q, n, hk, rfl, rfl, rfl, rfl, rfl, rfl, rfl, rfl, rfl, HQ, rfl⟩ := hrel
    by_cases hlk : k < 64
    · have hd : decide ((k : Int) < 64) = true := by simp; omega
      have cK := ht.rounds k hlk
      have cW := hW.at32 k (by rw [HWl.out]; exact hlk)
      have b0 : (0 : Int) ≤ (k : Int) := by omega
      have b1 : (k : Int) < 64 := by omega
      go_wp2_with (go_at_call 91; refine (rot_any _ _ _ (by omega) (by omega)).mono ?_; rintro e w' ⟨rfl, rfl⟩)
      go_quiet (fail)
      go_wp2_with (go_at_call 91; refine (rot_any _ _ _ (by omega) (by omega)).mono ?_; rintro e w' ⟨rfl, rfl⟩)
      go_roundw
      case rel =>
        refine ⟨k + 1, rnd (kTab.getD k 0) (W.getD k 0) q, n + nq, by omega, by go_num, ?_, rfl, rfl, rfl, ?_, rfl, rfl, rfl, ?_, rfl⟩
        · simp only [w_not, w_xor, w_and, w_add5, w_add]; rfl
        · simp only [w_not, w_xor, w_and, w_add5, w_add]; rfl
        · show _ = _
          rw [HQ.out]; rfl
      case measure => simp [intOf]; omega
    · have hd : decide ((k : Int) < 64) = false := by simp; omega
      have hg3 := grown_of_below (below_drewN hb1 n) (some g)
      replace hs := hs.drewN n
      have hC : comp s bs = addSt s q := by
        unfold comp
        rw [HQ.out, HW.out, show k = 64 by omega]
      have HC := Lib.hid hC
      clear hC HQ HW hW ht hb1 hk hlk hb
      go_wp2
      generalize w3.drewN n = w4 at *
      have c : w4.cell? ⟨g, 0, none⟩ = some (.int .u32 s.a.toNat) := hs.cell 0
      have f := hs.frozen 0
      go_still_tail 8, (by kernel_rfl)
      change wpList _ _ _ _ _ w4.drew
      go_wp2
      clear c f
      replace hs : Blk (w4.setCell ⟨g, 0, none⟩ (.int .u32 (((s.a.toNat : Int) + (q.a.toNat : Int)) % 4294967296))).drew g t (([U32 s.a, U32 s.b, U32 s.c, U32 s.d, U32 s.e, U32 s.f, U32 s.g, U32 s.h] ++ R).set 0 (.int .u32 (((s.a.toNat : Int) + (q.a.toNat : Int)) % 4294967296))) := (hs.set_ 0 _).drew
      replace hg3 := grown_drew (grown_setCell hg3 (p := ⟨g, 0, none⟩) (.inl rfl) (.int .u32 (((s.a.toNat : Int) + (q.a.toNat : Int)) % 4294967296)))
      generalize (w4.setCell ⟨g, 0, none⟩ (.int .u32 (((s.a.toNat : Int) + (q.a.toNat : Int)) % 4294967296))).drew = w4 at *
      rw [w_add] at hs
      replace hs : Blk w4 g t ([U32 (s.a + q.a), U32 s.b, U32 s.c, U32 s.d, U32 s.e, U32 s.f, U32 s.g, U32 s.h] ++ R) := hs
      have c : w4.cell? ⟨g, 1, none⟩ = some (.int .u32 s.b.toNat) := hs.cell 1
      have f := hs.frozen 1
      go_still_tail 8, (by kernel_rfl)
      change wpList _ _ _ _ _ w4.drew
      go_wp2
      clear c f
      replace hs : Blk (w4.setCell ⟨g, 1, none⟩ (.int .u32 (((s.b.toNat : Int) + (q.b.toNat : Int)) % 4294967296))).drew g t (([U32 (s.a + q.a), U32 s.b, U32 s.c, U32 s.d, U32 s.e, U32 s.f, U32 s.g, U32 s.h] ++ R).set 1 (.int .u32 (((s.b.toNat : Int) + (q.b.toNat : Int)) % 4294967296))) := (hs.set_ 1 _).drew
      replace hg3 := grown_drew (grown_setCell hg3 (p := ⟨g, 1, none⟩) (.inl rfl) (.int .u32 (((s.b.toNat : Int) + (q.b.toNat : Int)) % 4294967296)))
      generalize (w4.setCell ⟨g, 1, none⟩ (.int .u32 (((s.b.toNat : Int) + (q.b.toNat : Int)) % 4294967296))).drew = w4 at *
      rw [w_add] at hs
      replace hs : Blk w4 g t ([U32 (s.a + q.a), U32 (s.b + q.b), U32 s.c, U32 s.d, U32 s.e, U32 s.f, U32 s.g, U32 s.h] ++ R) := hs
      have c : w4.cell? ⟨g, 2, none⟩ = some (.int .u32 s.c.toNat) := hs.cell 2
      have f := hs.frozen 2
      go_still_tail 8, (by kernel_rfl)
      change wpList _ _ _ _ _ w4.drew
      go_wp2
      clear c f
      replace hs : Blk (w4.setCell ⟨g, 2, none⟩ (.int .u32 (((s.c.toNat : Int) + (q.c.toNat : Int)) % 4294967296))).drew g t (([U32 (s.a + q.a), U32 (s.b + q.b), U32 s.c, U32 s.d, U32 s.e, U32 s.f, U32 s.g, U32 s.h] ++ R).set 2 (.int .u32 (((s.c.toNat : Int) + (q.c.toNat : Int)) % 4294967296))) := (hs.set_ 2 _).drew
      replace hg3 := grown_drew (grown_setCell hg3 (p := ⟨g, 2, none⟩) (.inl rfl) (.int .u32 (((s.c.toNat : Int) + (q.c.toNat : Int)) % 4294967296)))
      generalize (w4.setCell ⟨g, 2, none⟩ (.int .u32 (((s.c.toNat : Int) + (q.c.toNat : Int)) % 4294967296))).drew = w4 at *
      rw [w_add] at hs
      replace hs : Blk w4 g t ([U32 (s.a + q.a), U32 (s.b + q.b), U32 (s.c + q.c), U32 s.d, U32 s.e, U32 s.f, U32 s.g, U32 s.h] ++ R) := hs
      have c : w4.cell? ⟨g, 3, none⟩ = some (.int .u32 s.d.toNat) := hs.cell 3
      have f := hs.frozen 3
      go_still_tail 8, (by kernel_rfl)
      change wpList _ _ _ _ _ w4.drew
      go_wp2
      clear c f
      replace hs : Blk (w4.setCell ⟨g, 3, none⟩ (.int .u32 (((s.d.toNat : Int) + (q.d.toNat : Int)) % 4294967296))).drew g t (([U32 (s.a + q.a), U32 (s.b + q.b), U32 (s.c + q.c), U32 s.d, U32 s.e, U32 s.f, U32 s.g, U32 s.h] ++ R).set 3 (.int .u32 (((s.d.toNat : Int) + (q.d.toNat : Int)) % 4294967296))) := (hs.set_ 3 _).drew
      replace hg3 := grown_drew (grown_setCell hg3 (p := ⟨g, 3, none⟩) (.inl rfl) (.int .u32 (((s.d.toNat : Int) + (q.d.toNat : Int)) % 4294967296)))
      generalize (w4.setCell ⟨g, 3, none⟩ (.int .u32 (((s.d.toNat : Int) + (q.d.toNat : Int)) % 4294967296))).drew = w4 at *
      rw [w_add] at hs
      replace hs : Blk w4 g t ([U32 (s.a + q.a), U32 (s.b + q.b), U32 (s.c + q.c), U32 (s.d + q.d), U32 s.e, U32 s.f, U32 s.g, U32 s.h] ++ R) := hs
      have c : w4.cell? ⟨g, 4, none⟩ = some (.int .u32 s.e.toNat) := hs.cell 4
      have f := hs.frozen 4
      go_still_tail 8, (by kernel_rfl)
      change wpList _ _ _ _ _ w4.drew
      go_wp2
      clear c f
      replace hs : Blk (w4.setCell ⟨g, 4, none⟩ (.int .u32 (((s.e.toNat : Int) + (q.e.toNat : Int)) % 4294967296))).drew g t (([U32 (s.a + q.a), U32 (s.b + q.b), U32 (s.c + q.c), U32 (s.d + q.d), U32 s.e, U32 s.f, U32 s.g, U32 s.h] ++ R).set 4 (.int .u32 (((s.e.toNat : Int) + (q.e.toNat : Int)) % 4294967296))) := (hs.set_ 4 _).drew
      replace hg3 := grown_drew (grown_setCell hg3 (p := ⟨g, 4, none⟩) (.inl rfl) (.int .u32 (((s.e.toNat : Int) + (q.e.toNat : Int)) % 4294967296)))
      generalize (w4.setCell ⟨g, 4, none⟩ (.int .u32 (((s.e.toNat : Int) + (q.e.toNat : Int)) % 4294967296))).drew = w4 at *
      rw [w_add] at hs
      replace hs : Blk w4 g t ([U32 (s.a + q.a), U32 (s.b + q.b), U32 (s.c + q.c), U32 (s.d + q.d), U32 (s.e + q.e), U32 s.f, U32 s.g, U32 s.h] ++ R) := hs
      have c : w4.cell? ⟨g, 5, none⟩ = some (.int .u32 s.f.toNat) := hs.cell 5
      have f := hs.frozen 5
      go_still_tail 8, (by kernel_rfl)
      change wpList _ _ _ _ _ w4.drew
      go_wp2
      clear c f
      replace hs : Blk (w4.setCell ⟨g, 5, none⟩ (.int .u32 (((s.f.toNat : Int) + (q.f.toNat : Int)) % 4294967296))).drew g t (([U32 (s.a + q.a), U32 (s.b + q.b), U32 (s.c + q.c), U32 (s.d + q.d), U32 (s.e + q.e), U32 s.f, U32 s.g, U32 s.h] ++ R).set 5 (.int .u32 (((s.f.toNat : Int) + (q.f.toNat : Int)) % 4294967296))) := (hs.set_ 5 _).drew
      replace hg3 := grown_drew (grown_setCell hg3 (p := ⟨g, 5, none⟩) (.inl rfl) (.int .u32 (((s.f.toNat : Int) + (q.f.toNat : Int)) % 4294967296)))
      generalize (w4.setCell ⟨g, 5, none⟩ (.int .u32 (((s.f.toNat : Int) + (q.f.toNat : Int)) % 4294967296))).drew = w4 at *
      rw [w_add] at hs
      replace hs : Blk w4 g t ([U32 (s.a + q.a), U32 (s.b + q.b), U32 (s.c + q.c), U32 (s.d + q.d), U32 (s.e + q.e), U32 (s.f + q.f), U32 s.g, U32 s.h] ++ R) := hs
      have c : w4.cell? ⟨g, 6, none⟩ = some (.int .u32 s.g.toNat) := hs.cell 6
      have f := hs.frozen 6
      go_still_tail 8, (by kernel_rfl)
      change wpList _ _ _ _ _ w4.drew
      go_wp2
      clear c f
      replace hs : Blk (w4.setCell ⟨g, 6, none⟩ (.int .u32 (((s.g.toNat : Int) + (q.g.toNat : Int)) % 4294967296))).drew g t (([U32 (s.a + q.a), U32 (s.b + q.b), U32 (s.c + q.c), U32 (s.d + q.d), U32 (s.e + q.e), U32 (s.f + q.f), U32 s.g, U32 s.h] ++ R).set 6 (.int .u32 (((s.g.toNat : Int) + (q.g.toNat : Int)) % 4294967296))) := (hs.set_ 6 _).drew
      replace hg3 := grown_drew (grown_setCell hg3 (p := ⟨g, 6, none⟩) (.inl rfl) (.int .u32 (((s.g.toNat : Int) + (q.g.toNat : Int)) % 4294967296)))
      generalize (w4.setCell ⟨g, 6, none⟩ (.int .u32 (((s.g.toNat : Int) + (q.g.toNat : Int)) % 4294967296))).drew = w4 at *
      rw [w_add] at hs
      replace hs : Blk w4 g t ([U32 (s.a + q.a), U32 (s.b + q.b), U32 (s.c + q.c), U32 (s.d + q.d), U32 (s.e + q.e), U32 (s.f + q.f), U32 (s.g + q.g), U32 s.h] ++ R) := hs
      have c : w4.cell? ⟨g, 7, none⟩ = some (.int .u32 s.h.toNat) := hs.cell 7
      have f := hs.frozen 7
      go_still_tail 8, (by kernel_rfl)
      change wpList _ _ _ _ _ w4.drew
      go_wp2
      clear c f
      replace hs : Blk (w4.setCell ⟨g, 7, none⟩ (.int .u32 (((s.h.toNat : Int) + (q.h.toNat : Int)) % 4294967296))).drew g t (([U32 (s.a + q.a), U32 (s.b + q.b), U32 (s.c + q.c), U32 (s.d + q.d), U32 (s.e + q.e), U32 (s.f + q.f), U32 (s.g + q.g), U32 s.h] ++ R).set 7 (.int .u32 (((s.h.toNat : Int) + (q.h.toNat : Int)) % 4294967296))) := (hs.set_ 7 _).drew
      replace hg3 := grown_drew (grown_setCell hg3 (p := ⟨g, 7, none⟩) (.inl rfl) (.int .u32 (((s.h.toNat : Int) + (q.h.toNat : Int)) % 4294967296)))
      generalize (w4.setCell ⟨g, 7, none⟩ (.int .u32 (((s.h.toNat : Int) + (q.h.toNat : Int)) % 4294967296))).drew = w4 at *
      rw [w_add] at hs
      replace hs : Blk w4 g t ([U32 (s.a + q.a), U32 (s.b + q.b), U32 (s.c + q.c), U32 (s.d + q.d), U32 (s.e + q.e), U32 (s.f + q.f), U32 (s.g + q.g), U32 (s.h + q.h)] ++ R) := hs
      go_end0
      exact ⟨rfl, by rw [HC.out]; exact hs, hg3⟩

set_option maxRecDepth 100000 in
set_option maxHeartbeats 1000000 in
theorem put_zero (g cap : Nat) (A : Option Addr) (t : TypeId) (s : St) (R b : List UInt8) (n : Nat) (w : World) (hR : R.length = 64) (hn : n + b.length < 1099511627776) (h0 : n % 64 = 0)
    (hbc : b.length ≤ cap) (hcm : cap ≤ 9223372036854775807) (hA : Src w g A b) (hs : Blk w g t (stCells s R n)) (ht : Tabs w) (hg0 : g ≠ 0) (hg1 : g ≠ 3) :
    Calls Tryd.prog 87 #[.pointer (some ⟨g, 0, none⟩), .slice A b.length cap] w fun e w' => e = .returned (.tuple #[]) ∧ w.grownBy w' (some g) ∧
      ∃ R', R'.length = 64 ∧ R'.take ((n + b.length) % 64) = left b ∧ Blk w' g t (stCells (blocks s b) R' (n + b.length)) := by
  have HRL := Lib.hid hR
  have c72 : w.cell? ⟨g, 72, none⟩ = some (.int .u64 (n : Int)) := (hs.cell 72).trans (stCells_72 s R n hR)
  have f72 := hs.frozen 72
  have hh : (n : Int) % 64 = 0 := by omega
  go_enter Tryd.func87, Tryd.ntmps87
  go_wp2
  clear hh
  have hg : w.grownBy (w.setCell ⟨g, 72, none⟩ (.int .u64 ((n : Int) + (b.length : Int)))) (some g) := grown_setCell (grown_refl w _) (.inl rfl) _
  replace hs : Blk (w.setCell ⟨g, 72, none⟩ (.int .u64 ((n : Int) + (b.length : Int)))) g t ((stCells s R n).set 72 (.int .u64 ((n : Int) + (b.length : Int)))) := hs.set_ 72 _
  replace ht := ht.grown hg hg0 hg1
  replace hA := hA.keep hg
  clear c72 f72
  generalize w.setCell ⟨g, 72, none⟩ (.int .u64 ((n : Int) + (b.length : Int))) = w1 at *
  rw [show (n : Int) + (b.length : Int) = ((n + b.length : Nat) : Int) from by omega, stCells_set72 _ _ _ _ hR] at hs
  go_loopw [1] (fun v wr => ∃ (A' : Option Addr) (c : Nat) (ys : List UInt8) (q : St), v = .slice A' ys.length c ∧ ys.length ≤ c ∧ c ≤ 9223372036854775807 ∧ Hid (blocks q ys = blocks s b ∧ left ys = left b) ∧ Src wr g A' ys ∧ Blk wr g t (stCells q R (n + b.length)) ∧ Tabs wr ∧ w.grownBy wr (some g)) (fun v _ => lenOf v)
  case atStart => exact ⟨A, cap, b, s, rfl, hbc, hcm, show _ ∧ _ from ⟨rfl, rfl⟩, hA, hs, ht, hg⟩
  case round =>
    obtain ⟨A', c, ys, q, rfl, hyc, hcm', HB, hA', hs', ht', hg'⟩ := hrel
    by_cases h64 : 64 ≤ ys.length
    · have hd : decide ((64 : Int) ≤ (ys.length : Int)) = true := by simp; omega
      obtain ⟨gb, ob, rfl, hne, hby⟩ := hA' (by omega)
      have HS := Lib.hid (blocks_step q ys h64)
      have HL := Lib.hid (left_step ys h64)
      clear hA'
      have a1 : 64 ≤ c := by omega
      have a2 : (64 : Int) ≤ (c : Int) := by omega
      rcases Decidable.em (c = 64) with rfl | hc
      · go_wp2
        go_still_tail 5, (by kernel_rfl)
        change wpList _ _ _ _ _ wr.drew
        go_wp2_with fail
        refine (hturn_any g gb ob _ t q (R.map B8 ++ [.int .u64 ((n + b.length : Nat) : Int)]) (ys.take 64) _ (by rw [List.length_take]; omega) (by omega) hcm' (hby.take 64).drew hs'.drew ht'.drew).mono ?_
        rintro e w2 ⟨rfl, hs2, hg2⟩
        replace hg2 : wr.grownBy w2 (some g) := grown_from_drew hg2
        have hby2 := Src.drop64 (g := g) (fun j hj => (World.cell?_of_block (w := wr) (a := ⟨gb, ob + j, none⟩) (hg2.block gb (hby.lt (by omega)) (by simp; omega))).trans (hby j hj)) hne 64 _ h64 hyc
        go_wp2
        go_roundw
        case rel =>
          refine ⟨_, 0, ys.drop 64, comp q (ys.take 64), ?_, by rw [List.length_drop]; omega, by omega, show _ ∧ _ from ⟨HS.out ▸ HB.out.1, HL.out ▸ HB.out.2⟩, hby2, hs2, ht'.grown hg2 hg0 hg1, grown_trans hg' hg2⟩
          simp [*]
        case measure => simp [lenOf]; omega
      · go_wp2
        go_still_tail 5, (by kernel_rfl)
        change wpList _ _ _ _ _ wr.drew
        go_wp2_with fail
        refine (hturn_any g gb ob _ t q (R.map B8 ++ [.int .u64 ((n + b.length : Nat) : Int)]) (ys.take 64) _ (by rw [List.length_take]; omega) (by omega) hcm' (hby.take 64).drew hs'.drew ht'.drew).mono ?_
        rintro e w2 ⟨rfl, hs2, hg2⟩
        replace hg2 : wr.grownBy w2 (some g) := grown_from_drew hg2
        have hby2 := Src.drop64 (g := g) (fun j hj => (World.cell?_of_block (w := wr) (a := ⟨gb, ob + j, none⟩) (hg2.block gb (hby.lt (by omega)) (by simp; omega))).trans (hby j hj)) hne 64 _ h64 hyc
        go_wp2
        go_roundw
        case rel =>
          refine ⟨_, (c - 64), ys.drop 64, comp q (ys.take 64), ?_, by rw [List.length_drop]; omega, by omega, show _ ∧ _ from ⟨HS.out ▸ HB.out.1, HL.out ▸ HB.out.2⟩, hby2, hs2, ht'.grown hg2 hg0 hg1, grown_trans hg' hg2⟩
          simp [*]
        case measure => simp [lenOf]; omega
    · have hd : decide ((64 : Int) ≤ (ys.length : Int)) = false := by simp; omega
      have HP : Hid (0 < (ys.map B8).length → (some (⟨g, 8, none⟩ : Addr)) = some ⟨g, 8, none⟩ ∧ ∃ gb ob, A' = some ⟨gb, ob, none⟩ ∧ ∀ j v, (ys.map B8)[j]? = some v → wr.cell? ⟨gb, ob + j, none⟩ = some v) := Src.cells hA'
      go_wp2_with (with_reducible refine wpList_copy_blk rfl (.tmp 60) (.tmp 61) 26 26 rfl 5 Tryd.underlying26 info8 _ _ _ _ _ _ rfl rfl g 8 _ t hs' (ys.map B8) (by rw [List.length_map]; exact (Nat.min_eq_left (by omega)).symm) HP.out (by rw [stCells_length _ _ _ HRL.out, List.length_map]; omega) (oneB8 _) ?_; intro w' hs2 hg2)
      go_wp2
      go_end0
      have e1 := stCells_splice q R ys (n + b.length) 0 HRL.out (by omega)
      have e2 := HB.out.1
      have e3 := HB.out.2
      rw [blocks_short _ _ (by omega)] at e2
      rw [left_short _ (by omega)] at e3
      refine ⟨rfl, grown_trans hg' hg2, splice R 0 ys, by rw [splice_length _ _ _ (by rw [HRL.out]; omega), HRL.out], ?_, ?_⟩
      · have h := splice_take R 0 ys (by omega)
        have hl : (n + b.length) % 64 = 0 + ys.length := by
          have := congrArg List.length e3
          rw [left_length] at this
          omega
        rw [hl, h]
        simpa using e3
      · rw [← e2, ← e1]; exact hs2

set_option maxRecDepth 100000 in
set_option maxHeartbeats 1000000 in
theorem put_short (g cap : Nat) (A : Option Addr) (t : TypeId) (s : St) (R b : List UInt8) (n h : Nat) (w : World) (hR : R.length = 64) (hn : n + b.length < 1099511627776) (h0 : n % 64 = h) (hp : 0 < h) (hsh : h + b.length < 64)
    (hbc : b.length ≤ cap) (hcm : cap ≤ 9223372036854775807) (hA : Src w g A b) (hs : Blk w g t (stCells s R n)) :
    Calls Tryd.prog 87 #[.pointer (some ⟨g, 0, none⟩), .slice A b.length cap] w fun e w' => e = .returned (.tuple #[]) ∧ w.grownBy w' (some g) ∧
      Blk w' g t (stCells s (splice R h b) (n + b.length)) := by
  have HRL := Lib.hid hR
  have c72 : w.cell? ⟨g, 72, none⟩ = some (.int .u64 (n : Int)) := (hs.cell 72).trans (stCells_72 s R n hR)
  have f72 := hs.frozen 72
  have hh : (n : Int) % 64 = (h : Int) := by omega
  have hp' : (0 : Int) < (h : Int) := by omega
  have hp2 : (h : Int) ≤ 64 := by omega
  have hp3 : ¬ 64 = h := by omega
  have hd5 : decide ((h : Int) + (b.length : Int) < 64) = true := by simp; omega
  clear h0
  have hg : w.grownBy (w.setCell ⟨g, 72, none⟩ (.int .u64 ((n : Int) + (b.length : Int)))) (some g) := grown_setCell (grown_refl w _) (.inl rfl) _
  have hs1 : Blk (w.setCell ⟨g, 72, none⟩ (.int .u64 ((n : Int) + (b.length : Int)))) g t ((stCells s R n).set 72 (.int .u64 ((n : Int) + (b.length : Int)))) := hs.set_ 72 _
  rw [show (stCells s R n).set 72 (.int .u64 ((n : Int) + (b.length : Int))) = stCells s R (n + b.length) from by rw [show (n : Int) + (b.length : Int) = ((n + b.length : Nat) : Int) from by omega, stCells_set72 _ _ _ _ hR]] at hs1
  have hA1 := hA.keep hg
  have hl : ((64 : Int) - (h : Int)).toNat = 64 - h := by omega
  have HP : Hid (0 < (b.map B8).length → (some (⟨g, 8 + h, none⟩ : Addr)) = some ⟨g, 8 + h, none⟩ ∧ ∃ gb ob, A = some ⟨gb, ob, none⟩ ∧ ∀ j v, (b.map B8)[j]? = some v → (w.setCell ⟨g, 72, none⟩ (.int .u64 ((n : Int) + (b.length : Int)))).cell? ⟨gb, ob + j, none⟩ = some v) := Src.cells hA1
  go_enter Tryd.func87, Tryd.ntmps87
  go_wp2_with (with_reducible refine wpList_copy_blk rfl (.tmp 28) (.tmp 29) 26 26 rfl 5 Tryd.underlying26 info8 _ _ _ _ _ _ rfl rfl g (8 + h) _ t hs1 (b.map B8) (by rw [List.length_map]; exact (Nat.min_eq_left (by omega)).symm) HP.out (by rw [stCells_length _ _ _ HRL.out, List.length_map]; omega) (oneB8 _) ?_; intro w' hs2 hg2)
  refine bodyPost_ret (results_none rfl _ _ _) rfl ?_
  rw [stCells_splice _ _ _ _ _ HRL.out (by omega)] at hs2
  exact ⟨rfl, grown_trans hg hg2, hs2⟩

set_option maxRecDepth 100000 in
set_option maxHeartbeats 2000000 in
theorem put_more (g gb ob cap : Nat) (t : TypeId) (s : St) (R p r : List UInt8) (n h k : Nat) (w : World) (hR : R.length = 64) (hn : n + (k + r.length) < 1099511627776) (h0 : n % 64 = h) (hp : 0 < h) (hk : h + k = 64) (hpl : p.length = k)
    (hbc : k + r.length ≤ cap) (hcm : cap ≤ 9223372036854775807) (hne : gb ≠ g) (hby : Bytes w gb ob (p ++ r)) (hs : Blk w g t (stCells s R n)) (ht : Tabs w) (hg0 : g ≠ 0) (hg1 : g ≠ 3) :
    Calls Tryd.prog 87 #[.pointer (some ⟨g, 0, none⟩), .slice (some ⟨gb, ob, none⟩) (k + r.length) cap] w fun e w' => e = .returned (.tuple #[]) ∧ w.grownBy w' (some g) ∧
      ∃ R', R'.length = 64 ∧ R'.take ((n + (k + r.length)) % 64) = left r ∧ Blk w' g t (stCells (blocks (comp s (R.take h ++ p)) r) R' (n + (k + r.length))) := by
  have HRL := Lib.hid hR
  have HPL := Lib.hid hpl
  have HRL1 : Hid ((R.take h ++ p).length = 64) := (show _ = _ by rw [List.length_append, List.length_take]; omega)
  have c72 : w.cell? ⟨g, 72, none⟩ = some (.int .u64 (n : Int)) := (hs.cell 72).trans (stCells_72 s R n hR)
  have f72 := hs.frozen 72
  have hh : (n : Int) % 64 = (h : Int) := by omega
  have hp' : (0 : Int) < (h : Int) := by omega
  have hp2 : (h : Int) ≤ 64 := by omega
  have hp3 : ¬ 64 = h := by omega
  have hd5 : decide ((h : Int) + (k : Int) < 64) = false := by simp; omega
  have hg : w.grownBy (w.setCell ⟨g, 72, none⟩ (.int .u64 ((n : Int) + ((k : Int) + (r.length : Int))))) (some g) := grown_setCell (grown_refl w _) (.inl rfl) _
  have hs1 : Blk (w.setCell ⟨g, 72, none⟩ (.int .u64 ((n : Int) + ((k : Int) + (r.length : Int))))) g t ((stCells s R n).set 72 (.int .u64 ((n : Int) + ((k : Int) + (r.length : Int))))) := hs.set_ 72 _
  rw [show (stCells s R n).set 72 (.int .u64 ((n : Int) + ((k : Int) + (r.length : Int)))) = stCells s R (n + (k + r.length)) from by rw [show (n : Int) + ((k : Int) + (r.length : Int)) = ((n + (k + r.length) : Nat) : Int) from by omega, stCells_set72 _ _ _ _ hR]] at hs1
  have ht1 := ht.grown hg hg0 hg1
  have hA1 : Src (w.setCell ⟨g, 72, none⟩ (.int .u64 ((n : Int) + ((k : Int) + (r.length : Int))))) g (some ⟨gb, ob, none⟩) (p ++ r) := Src.keep (fun _ => ⟨gb, ob, rfl, hne, hby⟩) hg
  have hbr : (p ++ r).length = k + r.length := by rw [List.length_append, hpl]
  have HP : Hid (0 < (p.map B8).length → (some (⟨g, 8 + h, none⟩ : Addr)) = some ⟨g, 8 + h, none⟩ ∧ ∃ gb' ob', (some (⟨gb, ob, none⟩ : Addr)) = some ⟨gb', ob', none⟩ ∧ ∀ j v, (p.map B8)[j]? = some v → (w.setCell ⟨g, 72, none⟩ (.int .u64 ((n : Int) + ((k : Int) + (r.length : Int))))).cell? ⟨gb', ob' + j, none⟩ = some v) :=
    Src.cells (g := g) (fun h1 => by
      obtain ⟨gb', ob', e, hne', hb'⟩ := hA1 (by omega)
      have := hb'.take p.length
      rw [List.take_left] at this
      exact ⟨gb', ob', e, hne', this⟩)
  have hby1 := fun (j : Nat) (hj : j < (p ++ r).length) => (World.cell?_of_block (w := w) (a := ⟨gb, ob + j, none⟩) (hg.block gb (hby.lt (by omega)) (by simp; omega))).trans (hby j hj)
  have HK := Lib.hid hk
  have HBR := Lib.hid hbr
  have HH0 := Lib.hid h0
  have hk6 : k ≤ 64 := by omega
  clear h0 hA1 hk hbr hby hs ht hR
  go_enter Tryd.func87, Tryd.ntmps87
  go_wp2_with (with_reducible refine wpList_copy_blk rfl (.tmp 28) (.tmp 29) 26 26 rfl 5 Tryd.underlying26 info8 _ _ _ _ _ _ rfl rfl g (8 + h) _ t hs1 (p.map B8) (by rw [List.length_map, HPL.out]; show _ = min _ _; have := HK.out; omega) HP.out (by rw [stCells_length _ _ _ HRL.out, List.length_map, HPL.out]; have := HK.out; omega) (oneB8 _) ?_; intro w2 hs2 hg2)
  clear hpl hd5
  rw [stCells_splice _ _ _ _ _ HRL.out (by rw [HPL.out]; have := HK.out; omega)] at hs2
  have e1 : splice R h p = R.take h ++ p := by
    rw [splice_eq, List.drop_eq_nil_of_le (by rw [HRL.out, HPL.out]; have := HK.out; omega), List.append_nil]
  rw [e1] at hs2
  have ht2 := ht1.grown hg2 hg0 hg1
  have hgA := grown_trans hg hg2
  have hlt0 : gb < (w.setCell ⟨g, 72, none⟩ (.int .u64 ((n : Int) + ((k : Int) + (r.length : Int))))).heap.size := block_lt_of_cell (hby1 0 (by have := HBR.out; have := HK.out; omega))
  have hby2 : Bytes w2 gb ob (p ++ r) := fun j hj => (World.cell?_of_block (a := ⟨gb, ob + j, none⟩) (hg2.block gb hlt0 (by simp; omega))).trans (hby1 j hj)
  clear hg2 ht1 hs1 hby1 hg c72 f72 HP hh e1 hlt0
  go_still_tail 7, (by kernel_rfl)
  change wpList _ _ _ _ _ w2.drew
  go_wp2_with fail
  refine (hturn_any g g 8 64 t s ((R.take h ++ p).map B8 ++ [.int .u64 ((n + (k + r.length) : Nat) : Int)]) (R.take h ++ p) _ HRL1.out (by omega) (by omega) hs2.rest.drew hs2.drew ht2.drew).mono ?_
  rintro e w3 ⟨rfl, hs3, hg3⟩
  replace hg3 : w2.grownBy w3 (some g) := grown_from_drew hg3
  have hby3 : Bytes w3 gb ob (p ++ r) := fun j hj => (World.cell?_of_block (w := w2) (a := ⟨gb, ob + j, none⟩) (hg3.block gb (hby2.lt (by have := HBR.out; have := HK.out; omega)) (by simp; omega))).trans (hby2 j hj)
  have ht3 := ht2.grown hg3 hg0 hg1
  have hgB := grown_trans hgA hg3
  have hA3 := Src.drop64 hby3 hne k cap (by rw [HBR.out]; omega) (by rw [HBR.out]; exact hbc)
  have e2 : (p ++ r).drop k = r := by rw [← HPL.out, List.drop_left]
  rw [e2] at hA3
  replace hs3 : Blk w3 g t (stCells (comp s (R.take h ++ p)) (R.take h ++ p) (n + (k + r.length))) := hs3
  clear hs2 hg3 hgA ht2 hby2 hby3 e2 HBR HPL
  obtain ⟨AA, hAA⟩ : ∃ AA, AA = (if cap = k then some (⟨gb, ob, none⟩ : Addr) else some ⟨gb, ob + k, none⟩) := ⟨_, rfl⟩
  rw [← hAA] at hA3
  have hk1 : (k : Int) ≤ (k : Int) + (r.length : Int) := by omega
  have hsl : ∀ W, (Instr.slice 26 (.slice (some ⟨gb, ob, none⟩) (k + r.length) cap) (some (.int .i64 (k : Int))) none none).run Tryd.prog W = .ok (.slice AA r.length (cap - k)) W := fun W => by
    rw [hAA]
    by_cases hc : cap = k
    · subst hc
      obtain rfl : r = [] := List.eq_nil_of_length_eq_zero (by omega)
      go_simp
    · go_simp
  clear hAA
  go_wp2
  clear hsl
  go_loopw [1] (fun v wr => ∃ (A' : Option Addr) (c : Nat) (ys : List UInt8) (q : St), v = .slice A' ys.length c ∧ ys.length ≤ c ∧ c ≤ 9223372036854775807 ∧ Hid (blocks q ys = blocks (comp s (R.take h ++ p)) r ∧ left ys = left r) ∧ Src wr g A' ys ∧ Blk wr g t (stCells q (R.take h ++ p) (n + (k + r.length))) ∧ Tabs wr ∧ w.grownBy wr (some g)) (fun v _ => lenOf v)
  case atStart => exact ⟨AA, cap - k, r, comp s (R.take h ++ p), rfl, by omega, by omega, show _ ∧ _ from ⟨rfl, rfl⟩, hA3, hs3, ht3, hgB⟩
  case round =>
    obtain ⟨A', c, ys, q, rfl, hyc, hcm', HB, hA', hs', ht', hg'⟩ := hrel
    by_cases h64 : 64 ≤ ys.length
    · have hd : decide ((64 : Int) ≤ (ys.length : Int)) = true := by simp; omega
      obtain ⟨gb, ob, rfl, hne, hby⟩ := hA' (by omega)
      have HS := Lib.hid (blocks_step q ys h64)
      have HL := Lib.hid (left_step ys h64)
      clear hA'
      have a1 : 64 ≤ c := by omega
      have a2 : (64 : Int) ≤ (c : Int) := by omega
      rcases Decidable.em (c = 64) with rfl | hc
      · go_wp2
        go_still_tail 5, (by kernel_rfl)
        change wpList _ _ _ _ _ wr.drew
        go_wp2_with fail
        refine (hturn_any g gb ob _ t q ((R.take h ++ p).map B8 ++ [.int .u64 ((n + (k + r.length) : Nat) : Int)]) (ys.take 64) _ (by rw [List.length_take]; omega) (by omega) hcm' (hby.take 64).drew hs'.drew ht'.drew).mono ?_
        rintro e w2 ⟨rfl, hs2, hg2⟩
        replace hg2 : wr.grownBy w2 (some g) := grown_from_drew hg2
        have hby2 := Src.drop64 (g := g) (fun j hj => (World.cell?_of_block (w := wr) (a := ⟨gb, ob + j, none⟩) (hg2.block gb (hby.lt (by omega)) (by simp; omega))).trans (hby j hj)) hne 64 _ h64 hyc
        go_wp2
        go_roundw
        case rel =>
          refine ⟨_, 0, ys.drop 64, comp q (ys.take 64), ?_, by rw [List.length_drop]; omega, by omega, show _ ∧ _ from ⟨HS.out ▸ HB.out.1, HL.out ▸ HB.out.2⟩, hby2, hs2, ht'.grown hg2 hg0 hg1, grown_trans hg' hg2⟩
          simp [*]
        case measure => simp [lenOf]; omega
      · go_wp2
        go_still_tail 5, (by kernel_rfl)
        change wpList _ _ _ _ _ wr.drew
        go_wp2_with fail
        refine (hturn_any g gb ob _ t q ((R.take h ++ p).map B8 ++ [.int .u64 ((n + (k + r.length) : Nat) : Int)]) (ys.take 64) _ (by rw [List.length_take]; omega) (by omega) hcm' (hby.take 64).drew hs'.drew ht'.drew).mono ?_
        rintro e w2 ⟨rfl, hs2, hg2⟩
        replace hg2 : wr.grownBy w2 (some g) := grown_from_drew hg2
        have hby2 := Src.drop64 (g := g) (fun j hj => (World.cell?_of_block (w := wr) (a := ⟨gb, ob + j, none⟩) (hg2.block gb (hby.lt (by omega)) (by simp; omega))).trans (hby j hj)) hne 64 _ h64 hyc
        go_wp2
        go_roundw
        case rel =>
          refine ⟨_, (c - 64), ys.drop 64, comp q (ys.take 64), ?_, by rw [List.length_drop]; omega, by omega, show _ ∧ _ from ⟨HS.out ▸ HB.out.1, HL.out ▸ HB.out.2⟩, hby2, hs2, ht'.grown hg2 hg0 hg1, grown_trans hg' hg2⟩
          simp [*]
        case measure => simp [lenOf]; omega
    · have hd : decide ((64 : Int) ≤ (ys.length : Int)) = false := by simp; omega
      have HP : Hid (0 < (ys.map B8).length → (some (⟨g, 8, none⟩ : Addr)) = some ⟨g, 8, none⟩ ∧ ∃ gb ob, A' = some ⟨gb, ob, none⟩ ∧ ∀ j v, (ys.map B8)[j]? = some v → wr.cell? ⟨gb, ob + j, none⟩ = some v) := Src.cells hA'
      go_wp2_with (with_reducible refine wpList_copy_blk rfl (.tmp 60) (.tmp 61) 26 26 rfl 5 Tryd.underlying26 info8 _ _ _ _ _ _ rfl rfl g 8 _ t hs' (ys.map B8) (by rw [List.length_map]; exact (Nat.min_eq_left (by omega)).symm) HP.out (by rw [stCells_length _ _ _ HRL1.out, List.length_map]; omega) (oneB8 _) ?_; intro w' hs2 hg2)
      go_wp2
      go_end0
      have e1 := stCells_splice q (R.take h ++ p) ys (n + (k + r.length)) 0 HRL1.out (by omega)
      have e2 := HB.out.1
      have e3 := HB.out.2
      rw [blocks_short _ _ (by omega)] at e2
      rw [left_short _ (by omega)] at e3
      refine ⟨rfl, grown_trans hg' hg2, splice (R.take h ++ p) 0 ys, by rw [splice_length _ _ _ (by rw [HRL1.out]; omega), HRL1.out], ?_, ?_⟩
      · have h := splice_take (R.take h ++ p) 0 ys (by omega)
        have hl : (n + (k + r.length)) % 64 = 0 + ys.length := by
          have h3 := congrArg List.length e3
          rw [left_length] at h3
          have h1 := HK.out
          have h2 := HH0.out
          omega
        rw [hl, h]
        simpa using e3
      · rw [← e2, ← e1]; exact hs2

theorem put_any (g cap : Nat) (A : Option Addr) (t : TypeId) (m b : List UInt8) (w : World) (hn : m.length + b.length < 1099511627776)
    (hbc : b.length ≤ cap) (hcm : cap ≤ 9223372036854775807) (hA : Src w g A b) (hh : Held w g t m) (ht : Tabs w) (hg0 : g ≠ 0) (hg1 : g ≠ 3) :
    Calls Tryd.prog 87 #[.pointer (some ⟨g, 0, none⟩), .slice A b.length cap] w fun e w' => e = .returned (.tuple #[]) ∧ w.grownBy w' (some g) ∧ Held w' g t (m ++ b) := by
  obtain ⟨R, hR, hL, hs⟩ := hh
  have hll := left_length m
  have hml : (m ++ b).length = m.length + b.length := List.length_append
  rcases Nat.eq_zero_or_pos (m.length % 64) with h0 | hp
  · have hl0 : left m = [] := List.eq_nil_of_length_eq_zero (by omega)
    refine (put_zero g cap A t (blocks first m) R b m.length w hR hn h0 hbc hcm hA hs ht hg0 hg1).mono fun e w' ⟨he, hg, R', hR', hL', hs'⟩ => ⟨he, hg, R', hR', ?_, ?_⟩
    · rw [hml, hL', left_append, hl0, List.nil_append]
    · rw [blocks_append, hl0, List.nil_append, hml]; exact hs'
  · by_cases hsh : m.length % 64 + b.length < 64
    · refine (put_short g cap A t (blocks first m) R b m.length (m.length % 64) w hR hn rfl hp hsh hbc hcm hA hs).mono fun e w' ⟨he, hg, hs'⟩ => ⟨he, hg, splice R (m.length % 64) b, by rw [splice_length _ _ _ (by omega), hR], ?_, ?_⟩
      · have e1 : (m ++ b).length % 64 = m.length % 64 + b.length := by rw [hml]; omega
        rw [e1, splice_take _ _ _ (by omega), hL, left_append, left_short (left m ++ b) (by rw [List.length_append]; omega)]
      · rw [blocks_append, blocks_short _ (left m ++ b) (by rw [List.length_append]; omega), hml]; exact hs'
    · obtain ⟨gb, ob, rfl, hne, hby⟩ := hA (by omega)
      obtain ⟨k, hk⟩ : ∃ k, m.length % 64 + k = 64 := ⟨64 - m.length % 64, by omega⟩
      have hpl : (b.take k).length = k := by rw [List.length_take]; omega
      have hbl : b.length = k + (b.drop k).length := by rw [List.length_drop]; omega
      have hb : b = b.take k ++ b.drop k := (List.take_append_drop k b).symm
      rw [hb] at hby
      rw [hbl] at hbc hn ⊢
      refine (put_more g gb ob cap t (blocks first m) R (b.take k) (b.drop k) m.length (m.length % 64) k w hR hn rfl hp hk hpl hbc hcm hne hby hs ht hg0 hg1).mono fun e w' ⟨he, hg, R', hR', hL', hs'⟩ => ⟨he, hg, R', hR', ?_, ?_⟩
      all_goals
        have e3 : (left m ++ b).take 64 = left m ++ b.take k := by
          rw [List.take_append, List.take_of_length_le (by omega), hll, show 64 - m.length % 64 = k by omega]
        have e4 : (left m ++ b).drop 64 = b.drop k := by
          rw [List.drop_append, List.drop_eq_nil_of_le (by omega), hll, show 64 - m.length % 64 = k by omega, List.nil_append]
      · rw [hml, hbl, hL', left_append, left_step (left m ++ b) (by rw [List.length_append]; omega), e4]
      · rw [blocks_append, blocks_step _ (left m ++ b) (by rw [List.length_append]; omega), e3, e4, hml, hbl, ← hL]; exact hs'

theorem info32 : (Tryd.prog.info? 82).map (·.size) = some 32 := by kernel_rfl

theorem index8_0 (s : St) (W : World) : (Instr.index 138 (.agg #[.int .u32 s.a.toNat, .int .u32 s.b.toNat, .int .u32 s.c.toNat, .int .u32 s.d.toNat, .int .u32 s.e.toNat, .int .u32 s.f.toNat, .int .u32 s.g.toNat, .int .u32 s.h.toNat]) (.int .i64 0)).run Tryd.prog W = .ok (.int .u32 s.a.toNat) W := by kernel_rfl
theorem index8_1 (s : St) (W : World) : (Instr.index 138 (.agg #[.int .u32 s.a.toNat, .int .u32 s.b.toNat, .int .u32 s.c.toNat, .int .u32 s.d.toNat, .int .u32 s.e.toNat, .int .u32 s.f.toNat, .int .u32 s.g.toNat, .int .u32 s.h.toNat]) (.int .i64 1)).run Tryd.prog W = .ok (.int .u32 s.b.toNat) W := by kernel_rfl
theorem index8_2 (s : St) (W : World) : (Instr.index 138 (.agg #[.int .u32 s.a.toNat, .int .u32 s.b.toNat, .int .u32 s.c.toNat, .int .u32 s.d.toNat, .int .u32 s.e.toNat, .int .u32 s.f.toNat, .int .u32 s.g.toNat, .int .u32 s.h.toNat]) (.int .i64 2)).run Tryd.prog W = .ok (.int .u32 s.c.toNat) W := by kernel_rfl
theorem index8_3 (s : St) (W : World) : (Instr.index 138 (.agg #[.int .u32 s.a.toNat, .int .u32 s.b.toNat, .int .u32 s.c.toNat, .int .u32 s.d.toNat, .int .u32 s.e.toNat, .int .u32 s.f.toNat, .int .u32 s.g.toNat, .int .u32 s.h.toNat]) (.int .i64 3)).run Tryd.prog W = .ok (.int .u32 s.d.toNat) W := by kernel_rfl
theorem index8_4 (s : St) (W : World) : (Instr.index 138 (.agg #[.int .u32 s.a.toNat, .int .u32 s.b.toNat, .int .u32 s.c.toNat, .int .u32 s.d.toNat, .int .u32 s.e.toNat, .int .u32 s.f.toNat, .int .u32 s.g.toNat, .int .u32 s.h.toNat]) (.int .i64 4)).run Tryd.prog W = .ok (.int .u32 s.e.toNat) W := by kernel_rfl
theorem index8_5 (s : St) (W : World) : (Instr.index 138 (.agg #[.int .u32 s.a.toNat, .int .u32 s.b.toNat, .int .u32 s.c.toNat, .int .u32 s.d.toNat, .int .u32 s.e.toNat, .int .u32 s.f.toNat, .int .u32 s.g.toNat, .int .u32 s.h.toNat]) (.int .i64 5)).run Tryd.prog W = .ok (.int .u32 s.f.toNat) W := by kernel_rfl
theorem index8_6 (s : St) (W : World) : (Instr.index 138 (.agg #[.int .u32 s.a.toNat, .int .u32 s.b.toNat, .int .u32 s.c.toNat, .int .u32 s.d.toNat, .int .u32 s.e.toNat, .int .u32 s.f.toNat, .int .u32 s.g.toNat, .int .u32 s.h.toNat]) (.int .i64 6)).run Tryd.prog W = .ok (.int .u32 s.g.toNat) W := by kernel_rfl
theorem index8_7 (s : St) (W : World) : (Instr.index 138 (.agg #[.int .u32 s.a.toNat, .int .u32 s.b.toNat, .int .u32 s.c.toNat, .int .u32 s.d.toNat, .int .u32 s.e.toNat, .int .u32 s.f.toNat, .int .u32 s.g.toNat, .int .u32 s.h.toNat]) (.int .i64 7)).run Tryd.prog W = .ok (.int .u32 s.h.toNat) W := by kernel_rfl
theorem index8 (s : St) (k : Nat) (h : k < 8) (W : World) : (Instr.index 138 (.agg #[.int .u32 s.a.toNat, .int .u32 s.b.toNat, .int .u32 s.c.toNat, .int .u32 s.d.toNat, .int .u32 s.e.toNat, .int .u32 s.f.toNat, .int .u32 s.g.toNat, .int .u32 s.h.toNat]) (.int .i64 (k : Int))).run Tryd.prog W = .ok (.int .u32 (s.words.getD k 0).toNat) W := by
  obtain rfl | rfl | rfl | rfl | rfl | rfl | rfl | rfl : k = 0 ∨ k = 1 ∨ k = 2 ∨ k = 3 ∨ k = 4 ∨ k = 5 ∨ k = 6 ∨ k = 7 := by omega
  · exact index8_0 s W
  · exact index8_1 s W
  · exact index8_2 s W
  · exact index8_3 s W
  · exact index8_4 s W
  · exact index8_5 s W
  · exact index8_6 s W
  · exact index8_7 s W
set_option maxRecDepth 100000 in
set_option maxHeartbeats 600000 in
theorem bytesOf_any (s : St) (w : World) :
    Calls Tryd.prog 89 #[.agg #[.int .u32 s.a.toNat, .int .u32 s.b.toNat, .int .u32 s.c.toNat, .int .u32 s.d.toNat, .int .u32 s.e.toNat, .int .u32 s.f.toNat, .int .u32 s.g.toNat, .int .u32 s.h.toNat]] w fun e w' => e = .returned (.agg ((bytesOf s).map B8).toArray) ∧ Below w.heap.size w w' := by
  go_enter Tryd.func89, Tryd.ntmps89
  go_wp2
  go_loopw [7] (fun i wr => ∃ k : Nat, k ≤ 8 ∧ i = .int .i64 k ∧ Blk wr (w.heap.size + 1 + 1) 82 ((bytesTo s.words k).map B8) ∧ Blk wr (w.heap.size + 1) 82 ((bytesTo s.words 0).map B8) ∧ Below w.heap.size w wr) (fun i _ => 8 - (intOf i).toNat)
  case atStart => exact ⟨0, by omega, rfl, Blk.new3_of w _ _ _ _ _ (by rfl), (Blk.new2_of w _ _ _ _ (by rfl)).alloc _, (((Below.refl _ _).alloc (Nat.le_refl _) _).alloc (by simp) _).alloc (by simp; omega) _⟩
  case round =>
    obtain ⟨k, hk, rfl, hB, hA, hbl⟩ := hrel
    by_cases hlt : k < 8
    · have hd : decide ((k : Int) < 8) = true := by simp; omega
      have hix := index8 s k hlt
      obtain ⟨x, hx⟩ : ∃ x, x = s.words.getD k 0 := ⟨_, rfl⟩
      rw [← hx] at hix
      have HX := Lib.hid hx
      clear hx
      have hl := bytesTo_length s.words k
      have c0 := hB.at8 (4 * k) (by omega)
      have c1 := fun X => (cell_past wr (w.heap.size + 1 + 1) (4 * k) (4 * k + 1) (by omega) X).trans (hB.at8 (4 * k + 1) (by omega))
      have c2 := fun X Y => (cell_past (wr.setCell ⟨w.heap.size + 1 + 1, 4 * k, none⟩ X) (w.heap.size + 1 + 1) (4 * k + 1) (4 * k + 2) (by omega) Y).trans ((cell_past wr _ (4 * k) (4 * k + 2) (by omega) X).trans (hB.at8 (4 * k + 2) (by omega)))
      have c3 := fun X Y Z => (cell_past ((wr.setCell ⟨w.heap.size + 1 + 1, 4 * k, none⟩ X).setCell ⟨w.heap.size + 1 + 1, 4 * k + 1, none⟩ Y) (w.heap.size + 1 + 1) (4 * k + 2) (4 * k + 3) (by omega) Z).trans ((cell_past (wr.setCell ⟨w.heap.size + 1 + 1, 4 * k, none⟩ X) _ (4 * k + 1) (4 * k + 3) (by omega) Y).trans ((cell_past wr _ (4 * k) (4 * k + 3) (by omega) X).trans (hB.at8 (4 * k + 3) (by omega))))
      have f0 := hB.frozen (4 * k)
      have f1 := hB.frozen (4 * k + 1)
      have f2 := hB.frozen (4 * k + 2)
      have f3 := hB.frozen (4 * k + 3)
      clear hl
      go_wp2
      go_roundw
      case rel =>
        have e : bytesTo s.words (k + 1) = ((((bytesTo s.words k).set (4 * k) (x >>> 24).toUInt8).set (4 * k + 1) (x >>> 16).toUInt8).set (4 * k + 2) (x >>> 8).toUInt8).set (4 * k + 3) x.toUInt8 := by rw [HX.out]; rfl
        refine ⟨k + 1, by omega, by go_num, ?_, ?_, ?_⟩
        · rw [e, w_byte24, w_byte16, w_byte8, w_byte0, ← map_set8, ← map_set8, ← map_set8, ← map_set8]
          exact (((hB.set_ _ _).set_ _ _).set_ _ _).set_ _ _
        · exact (((hA.far (by simp) _).far (by simp) _).far (by simp) _).far (by simp) _
        · exact (((hbl.setCell (by simp; omega) _).setCell (by simp; omega) _).setCell (by simp; omega) _).setCell (by simp; omega) _
      case measure => simp [intOf]; omega
    · have hd : decide ((k : Int) < 8) = false := by simp; omega
      obtain rfl : k = 8 := by omega
      rw [bytesTo_all] at hB
      have hbl32 : (bytesOf s).length = 32 := rfl
      go_wp2_with (first
        | (refine wpList_load_blk rfl 82 (.tmp 3) rfl (w.heap.size + 1 + 1) rfl 82 _ _ hB Tryd.underlying82 rfl (info32.trans (by simp [hbl32])) ?_)
        | (refine wpList_store_blk rfl 82 (.tmp 2) (.tmp 38) rfl rfl (w.heap.size + 1) _ rfl rfl 82 _ hA (info32.trans (by simp [hbl32])) (by simp [bytesTo_length, hbl32]) (one8 _) ?_; intro w2 hA2 hg2))
      refine bodyPost_ret (v := .agg _) (results_cell_row rfl _ _ (w.heap.size + 1) 82 _ (0, 0) _ rfl hA2.raw Tryd.underlying82 rfl (info32.trans (by simp [hbl32]))) rfl ⟨rfl, below_new hbl hg2 (by omega) hbl.size⟩

set_option maxRecDepth 100000 in
set_option maxHeartbeats 1000000 in
theorem ending_any (n z : Nat) (hn : n < 1099511627776) (w : World) (hz : z = (119 - n % 64) % 64) :
    Calls Tryd.prog 88 #[.int .u64 (n : Int)] w fun e w' => ∃ v, e = .returned v ∧ Own w' w.heap.size v (padB n) ∧ Below w.heap.size w w' := by
  have hpad : padB n = ((((((((128 :: List.replicate z 0) ++ [UInt8.ofNat (n * 8 / 72057594037927936)]) ++ [UInt8.ofNat (n * 8 / 281474976710656)]) ++ [UInt8.ofNat (n * 8 / 1099511627776)]) ++ [UInt8.ofNat (n * 8 / 4294967296)]) ++ [UInt8.ofNat (n * 8 / 16777216)]) ++ [UInt8.ofNat (n * 8 / 65536)]) ++ [UInt8.ofNat (n * 8 / 256)]) ++ [UInt8.ofNat (n * 8)] := by
    unfold padB be8; rw [← hz]; simp
  have HP := Lib.hid hpad
  clear hpad
  have z1 : ((119 : Int) - (n : Int) % 64) % 64 = (z : Int) := by omega
  have z2 : ((119 : Int) - (n : Int)) % 64 = (z : Int) := by omega
  have hz64 : z < 64 := by omega
  have hmk : ∀ W, (Instr.makeSlice 26 (.int .u64 (1 + (z : Int))) (.int .u64 (1 + (z : Int) + 8))).run Tryd.prog W = .ok (.slice (some ⟨W.heap.size, 0, none⟩) (1 + z) (1 + z + 8)) (W.alloc (.cells ((List.replicate (1 + z + 8) (0 : UInt8)).map B8).toArray 5)) := fun W => by
    have h := run_make_bytes .u64 .u64 (1 + z) (1 + z + 8) (by omega) (by omega) W
    rw [← one_plus8, ← one_plus] at h
    exact h
  clear hz
  have hown : Own (w.alloc (.cells ((Array.replicate (1 + z + 8) (B8 0)).setIfInBounds 0 (.int .u8 128)) 5)) w.heap.size (.slice (some ⟨w.heap.size, 0, none⟩) (1 + z) (1 + z + 8)) (128 :: List.replicate z 0) := by
    refine Own.made _ w.heap.size (1 + z) (1 + z + 8) _ (List.replicate 8 0) (Blk.new_of w _ _ _ ?_) (by simp; omega) (by simp; omega) (by simp only [maxLen]; omega) _ (Nat.le_refl _)
    apply Array.toList_inj.1
    have e : List.replicate (z + 8) (B8 0) = List.replicate z (B8 0) ++ List.replicate 8 (B8 0) := (List.replicate_append_replicate).symm
    rw [show 1 + z + 8 = (z + 8) + 1 by omega]
    simp only [Array.toList_setIfInBounds, Array.toList_replicate, List.replicate_succ (n := z + 8), List.set_cons_zero, e, List.map_append, List.map_cons, List.map_replicate, List.cons_append]
    rfl
  have hbl : Below w.heap.size w (w.alloc (.cells ((Array.replicate (1 + z + 8) (B8 0)).setIfInBounds 0 (.int .u8 128)) 5)) := (Below.refl _ _).alloc (Nat.le_refl _) _
  have hbsl : (128 :: List.replicate z (0 : UInt8)).length < 100 := by simp; omega
  go_enter Tryd.func88, Tryd.ntmps88
  go_wp2
  clear hmk z1 z2
  generalize w.alloc (.cells ((Array.replicate (1 + z + 8) (B8 0)).setIfInBounds 0 (.int .u8 128)) 5) = w1 at *
  generalize (128 :: List.replicate z (0 : UInt8)) = b0 at *
  refine wp_loop_rounds 9 ?_
  have HD := Lib.hid (show b0.length ≤ 1099511627776 by omega)
  rw [rounds_succ]
  go_wp2_with (at_builtin; refine wpList_append_byte rfl (.tmp 25) (.tmp 30) rfl w.heap.size _ _ rfl (hown.alloc _) _ (UInt8.ofNat (n * 8 / 72057594037927936)) rfl (by refine (new_cell _ _ _).trans ?_; first | (simp; done) | (simp; omega)) HD.out (le_alloc hbl.size _) ?_; intro v0 w' hown' hb' _)
  replace hbl := (hbl.alloc hbl.size _).trans hb'
  replace hown := hown'
  clear hown' hb' HD
  have hl : (b0 ++ [(UInt8.ofNat (n * 8 / 72057594037927936))]).length < 101 := by rw [List.length_append, List.length_singleton]; omega
  clear hbsl
  have hbsl := hl
  clear hl
  obtain ⟨b1, E1⟩ : ∃ b, b = b0 ++ [(UInt8.ofNat (n * 8 / 72057594037927936))] := ⟨_, rfl⟩
  rw [← E1] at hown hbsl
  replace E1 := Lib.hid E1
  generalize w' = w1 at *
  have HD := Lib.hid (show b1.length ≤ 1099511627776 by omega)
  rw [rounds_succ]
  go_wp2_with (at_builtin; refine wpList_append_byte rfl (.tmp 25) (.tmp 30) rfl w.heap.size _ _ rfl (hown.alloc _) _ (UInt8.ofNat (n * 8 / 281474976710656)) rfl (by refine (new_cell _ _ _).trans ?_; first | (simp; done) | (simp; omega)) HD.out (le_alloc hbl.size _) ?_; intro v1 w' hown' hb' _)
  replace hbl := (hbl.alloc hbl.size _).trans hb'
  replace hown := hown'
  clear hown' hb' HD
  have hl : (b1 ++ [(UInt8.ofNat (n * 8 / 281474976710656))]).length < 102 := by rw [List.length_append, List.length_singleton]; omega
  clear hbsl
  have hbsl := hl
  clear hl
  obtain ⟨b2, E2⟩ : ∃ b, b = b1 ++ [(UInt8.ofNat (n * 8 / 281474976710656))] := ⟨_, rfl⟩
  rw [← E2] at hown hbsl
  replace E2 := Lib.hid E2
  generalize w' = w1 at *
  have HD := Lib.hid (show b2.length ≤ 1099511627776 by omega)
  rw [rounds_succ]
  go_wp2_with (at_builtin; refine wpList_append_byte rfl (.tmp 25) (.tmp 30) rfl w.heap.size _ _ rfl (hown.alloc _) _ (UInt8.ofNat (n * 8 / 1099511627776)) rfl (by refine (new_cell _ _ _).trans ?_; first | (simp; done) | (simp; omega)) HD.out (le_alloc hbl.size _) ?_; intro v2 w' hown' hb' _)
  replace hbl := (hbl.alloc hbl.size _).trans hb'
  replace hown := hown'
  clear hown' hb' HD
  have hl : (b2 ++ [(UInt8.ofNat (n * 8 / 1099511627776))]).length < 103 := by rw [List.length_append, List.length_singleton]; omega
  clear hbsl
  have hbsl := hl
  clear hl
  obtain ⟨b3, E3⟩ : ∃ b, b = b2 ++ [(UInt8.ofNat (n * 8 / 1099511627776))] := ⟨_, rfl⟩
  rw [← E3] at hown hbsl
  replace E3 := Lib.hid E3
  generalize w' = w1 at *
  have HD := Lib.hid (show b3.length ≤ 1099511627776 by omega)
  rw [rounds_succ]
  go_wp2_with (at_builtin; refine wpList_append_byte rfl (.tmp 25) (.tmp 30) rfl w.heap.size _ _ rfl (hown.alloc _) _ (UInt8.ofNat (n * 8 / 4294967296)) rfl (by refine (new_cell _ _ _).trans ?_; first | (simp; done) | (simp; omega)) HD.out (le_alloc hbl.size _) ?_; intro v3 w' hown' hb' _)
  replace hbl := (hbl.alloc hbl.size _).trans hb'
  replace hown := hown'
  clear hown' hb' HD
  have hl : (b3 ++ [(UInt8.ofNat (n * 8 / 4294967296))]).length < 104 := by rw [List.length_append, List.length_singleton]; omega
  clear hbsl
  have hbsl := hl
  clear hl
  obtain ⟨b4, E4⟩ : ∃ b, b = b3 ++ [(UInt8.ofNat (n * 8 / 4294967296))] := ⟨_, rfl⟩
  rw [← E4] at hown hbsl
  replace E4 := Lib.hid E4
  generalize w' = w1 at *
  have HD := Lib.hid (show b4.length ≤ 1099511627776 by omega)
  rw [rounds_succ]
  go_wp2_with (at_builtin; refine wpList_append_byte rfl (.tmp 25) (.tmp 30) rfl w.heap.size _ _ rfl (hown.alloc _) _ (UInt8.ofNat (n * 8 / 16777216)) rfl (by refine (new_cell _ _ _).trans ?_; first | (simp; done) | (simp; omega)) HD.out (le_alloc hbl.size _) ?_; intro v4 w' hown' hb' _)
  replace hbl := (hbl.alloc hbl.size _).trans hb'
  replace hown := hown'
  clear hown' hb' HD
  have hl : (b4 ++ [(UInt8.ofNat (n * 8 / 16777216))]).length < 105 := by rw [List.length_append, List.length_singleton]; omega
  clear hbsl
  have hbsl := hl
  clear hl
  obtain ⟨b5, E5⟩ : ∃ b, b = b4 ++ [(UInt8.ofNat (n * 8 / 16777216))] := ⟨_, rfl⟩
  rw [← E5] at hown hbsl
  replace E5 := Lib.hid E5
  generalize w' = w1 at *
  have HD := Lib.hid (show b5.length ≤ 1099511627776 by omega)
  rw [rounds_succ]
  go_wp2_with (at_builtin; refine wpList_append_byte rfl (.tmp 25) (.tmp 30) rfl w.heap.size _ _ rfl (hown.alloc _) _ (UInt8.ofNat (n * 8 / 65536)) rfl (by refine (new_cell _ _ _).trans ?_; first | (simp; done) | (simp; omega)) HD.out (le_alloc hbl.size _) ?_; intro v5 w' hown' hb' _)
  replace hbl := (hbl.alloc hbl.size _).trans hb'
  replace hown := hown'
  clear hown' hb' HD
  have hl : (b5 ++ [(UInt8.ofNat (n * 8 / 65536))]).length < 106 := by rw [List.length_append, List.length_singleton]; omega
  clear hbsl
  have hbsl := hl
  clear hl
  obtain ⟨b6, E6⟩ : ∃ b, b = b5 ++ [(UInt8.ofNat (n * 8 / 65536))] := ⟨_, rfl⟩
  rw [← E6] at hown hbsl
  replace E6 := Lib.hid E6
  generalize w' = w1 at *
  have HD := Lib.hid (show b6.length ≤ 1099511627776 by omega)
  rw [rounds_succ]
  go_wp2_with (at_builtin; refine wpList_append_byte rfl (.tmp 25) (.tmp 30) rfl w.heap.size _ _ rfl (hown.alloc _) _ (UInt8.ofNat (n * 8 / 256)) rfl (by refine (new_cell _ _ _).trans ?_; first | (simp; done) | (simp; omega)) HD.out (le_alloc hbl.size _) ?_; intro v6 w' hown' hb' _)
  replace hbl := (hbl.alloc hbl.size _).trans hb'
  replace hown := hown'
  clear hown' hb' HD
  have hl : (b6 ++ [(UInt8.ofNat (n * 8 / 256))]).length < 107 := by rw [List.length_append, List.length_singleton]; omega
  clear hbsl
  have hbsl := hl
  clear hl
  obtain ⟨b7, E7⟩ : ∃ b, b = b6 ++ [(UInt8.ofNat (n * 8 / 256))] := ⟨_, rfl⟩
  rw [← E7] at hown hbsl
  replace E7 := Lib.hid E7
  generalize w' = w1 at *
  have HD := Lib.hid (show b7.length ≤ 1099511627776 by omega)
  rw [rounds_succ]
  go_wp2_with (at_builtin; refine wpList_append_byte rfl (.tmp 25) (.tmp 30) rfl w.heap.size _ _ rfl (hown.alloc _) _ (UInt8.ofNat (n * 8)) rfl (by refine (new_cell _ _ _).trans ?_; first | (simp; done) | (simp; omega)) HD.out (le_alloc hbl.size _) ?_; intro v7 w' hown' hb' _)
  replace hbl := (hbl.alloc hbl.size _).trans hb'
  replace hown := hown'
  clear hown' hb' HD
  have hl : (b7 ++ [(UInt8.ofNat (n * 8))]).length < 108 := by rw [List.length_append, List.length_singleton]; omega
  clear hbsl
  have hbsl := hl
  clear hl
  obtain ⟨b8, E8⟩ : ∃ b, b = b7 ++ [(UInt8.ofNat (n * 8))] := ⟨_, rfl⟩
  rw [← E8] at hown hbsl
  replace E8 := Lib.hid E8
  generalize w' = w1 at *
  rw [rounds_succ]
  go_wp2
  go_ret
  exact ⟨_, rfl, by rw [HP.out, ← E1.out, ← E2.out, ← E3.out, ← E4.out, ← E5.out, ← E6.out, ← E7.out, ← E8.out]; exact hown, hbl⟩

theorem infoSt : (Tryd.prog.info? 140).map (·.size) = some 73 := by kernel_rfl
theorem info63 : (Tryd.prog.info? 138).map (·.size) = some 8 := by kernel_rfl

set_option maxRecDepth 100000 in
set_option maxHeartbeats 600000 in
theorem new_any (w : World) :
    Calls Tryd.prog 81 #[] w fun e w' => e = .returned (.pointer (some ⟨w.heap.size, 0, none⟩)) ∧ Blk w' w.heap.size 140 (stCells zeroSt (List.replicate 64 0) 0) ∧ Below w.heap.size w w' := by
  have hz : ∀ W : World, (zeroValue 140).run Tryd.prog W = .ok (.agg (stCells zeroSt (List.replicate 64 0) 0).toArray) W := fun W => by kernel_rfl
  go_enter Tryd.func81, Tryd.ntmps81
  go_wp2
  go_ret
  exact ⟨rfl, Blk.new_of w _ _ _ (by rfl), (Below.refl _ _).alloc (Nat.le_refl _) _⟩

set_option maxRecDepth 100000 in
set_option maxHeartbeats 1000000 in
/-- The loop over the parts: from a state that holds its words. -/
theorem Put_any (g c : Nat) (A : Option Addr) (m : List UInt8) (ps : List (List UInt8)) (w : World) (hn : m.length + ps.flatten.length < 1099511627776) (hpc : ps.length ≤ c) (hcm : c ≤ 9223372036854775807)
    (hA : Parts w g A ps) (hh : HeldN w g 140 m) (ht : Tabs w) (hg0 : g ≠ 0) (hg1 : g ≠ 3) :
    Calls Tryd.prog 82 #[.pointer (some ⟨g, 0, none⟩), .slice A ps.length c] w fun e w' => e = .returned (.tuple #[]) ∧ w.grownBy w' (some g) ∧ Held w' g 140 (m ++ ps.flatten) := by
  obtain ⟨s, R, hR, hs, hm⟩ := hh
  have c72 : w.cell? ⟨g, 72, none⟩ = some (.int .u64 (m.length : Int)) := (hs.cell 72).trans (stCells_72 s R m.length hR)
  by_cases h0 : m = []
  · subst h0
    have HR := Lib.hid hR
    have t0 : w.cell? ⟨0, 0, none⟩ = some (.int .u32 first.a.toNat) := ht.first 0 (by omega)
    have t1 : w.cell? ⟨0, 1, none⟩ = some (.int .u32 first.b.toNat) := ht.first 1 (by omega)
    have t2 : w.cell? ⟨0, 2, none⟩ = some (.int .u32 first.c.toNat) := ht.first 2 (by omega)
    have t3 : w.cell? ⟨0, 3, none⟩ = some (.int .u32 first.d.toNat) := ht.first 3 (by omega)
    have t4 : w.cell? ⟨0, 4, none⟩ = some (.int .u32 first.e.toNat) := ht.first 4 (by omega)
    have t5 : w.cell? ⟨0, 5, none⟩ = some (.int .u32 first.f.toNat) := ht.first 5 (by omega)
    have t6 : w.cell? ⟨0, 6, none⟩ = some (.int .u32 first.g.toNat) := ht.first 6 (by omega)
    have t7 : w.cell? ⟨0, 7, none⟩ = some (.int .u32 first.h.toNat) := ht.first 7 (by omega)
    go_enter Tryd.func82, Tryd.ntmps82
    go_wp2_with (refine wpList_store_part rfl 138 (.tmp 16) (.tmp 14) rfl rfl g 0 first.vals rfl rfl _ _ hs info63 (by rw [stCells_length _ _ _ HR.out]; decide) (vals_one _) ?_; intro w1 hs1 hG)
    clear t0 t1 t2 t3 t4 t5 t6 t7 c72
    rw [splice_vals] at hs1
    have hH : Held w1 g 140 [] := ⟨R, hR, by simp [left], hs1⟩
    replace hA := hA.keep hG
    replace ht := ht.grown hG hg0 hg1
    simp only [List.length_nil, Nat.zero_add] at hn
    go_loopw [19] (fun i wr => ∃ k : Nat, k ≤ ps.length ∧ i = .int .i64 k ∧ Held wr g 140 ([] ++ (ps.take k).flatten) ∧ Parts wr g A ps ∧ Tabs wr ∧ w.grownBy wr (some g)) (fun i _ => ps.length - (intOf i).toNat)
    case atStart => exact ⟨0, by omega, rfl, by simpa using hH, hA, ht, hG⟩
    case round =>
      obtain ⟨k, hk, rfl, hH', hA', ht', hG'⟩ := hrel
      by_cases hlt : k < ps.length
      · have hd : decide ((k : Int) < (ps.length : Int)) = true := by simp; omega
        obtain ⟨gp, op, rfl, hne, hj⟩ := hA' (by omega)
        obtain ⟨Aj, cj, hc, h1, h2, h3⟩ := hj k hlt
        have hfl : (ps.take (k + 1)).flatten = (ps.take k).flatten ++ ps.getD k [] := by
          rw [List.take_succ_eq_append_getElem hlt, List.flatten_append, List.getD_eq_getElem?_getD, List.getElem?_eq_getElem hlt]; simp
        have hle : (ps.take k).flatten.length + (ps.getD k []).length ≤ ps.flatten.length := by
          have h := congrArg List.length (congrArg List.flatten (List.take_append_drop (k + 1) ps))
          rw [List.flatten_append, List.length_append, hfl, List.length_append] at h
          omega
        obtain ⟨b, hb⟩ : ∃ b, b = ps.getD k [] := ⟨_, rfl⟩
        rw [← hb] at hc h1 h3 hfl hle
        have HF := Lib.hid hfl
        clear hfl hb hj
        go_wp2_with (go_at_call 87; refine (put_any g cj Aj _ _ b _ (by simp only [List.nil_append]; omega) h1 h2 h3 hH' ht' hg0 hg1).mono ?_; rintro e w2 ⟨rfl, hg2, hh2⟩)
        go_roundw
        case rel => exact ⟨k + 1, by omega, by go_num, by rw [HF.out, ← List.append_assoc]; exact hh2, hA'.keep hg2, ht'.grown hg2 hg0 hg1, grown_trans hG' hg2⟩
        case measure => simp [intOf]; omega
      · have hd : decide ((k : Int) < (ps.length : Int)) = false := by simp; omega
        rw [List.take_of_length_le (by omega)] at hH'
        go_wp2
        go_end0
        exact ⟨rfl, hG', hH'⟩
  · obtain ⟨rfl, hL⟩ := hm h0
    have hH : Held w g 140 m := ⟨R, hR, hL, hs⟩
    have hml : 0 < m.length := List.length_pos_iff.2 h0
    have hG := grown_refl w (some g)
    have hz : ((m.length : Int) == 0) = false := by simp; omega
    go_enter Tryd.func82, Tryd.ntmps82
    go_wp2
    clear c72 hz
    go_loopw [19] (fun i wr => ∃ k : Nat, k ≤ ps.length ∧ i = .int .i64 k ∧ Held wr g 140 (m ++ (ps.take k).flatten) ∧ Parts wr g A ps ∧ Tabs wr ∧ w.grownBy wr (some g)) (fun i _ => ps.length - (intOf i).toNat)
    case atStart => exact ⟨0, by omega, rfl, by simpa using hH, hA, ht, hG⟩
    case round =>
      obtain ⟨k, hk, rfl, hH', hA', ht', hG'⟩ := hrel
      by_cases hlt : k < ps.length
      · have hd : decide ((k : Int) < (ps.length : Int)) = true := by simp; omega
        obtain ⟨gp, op, rfl, hne, hj⟩ := hA' (by omega)
        obtain ⟨Aj, cj, hc, h1, h2, h3⟩ := hj k hlt
        have hfl : (ps.take (k + 1)).flatten = (ps.take k).flatten ++ ps.getD k [] := by
          rw [List.take_succ_eq_append_getElem hlt, List.flatten_append, List.getD_eq_getElem?_getD, List.getElem?_eq_getElem hlt]; simp
        have hle : (ps.take k).flatten.length + (ps.getD k []).length ≤ ps.flatten.length := by
          have h := congrArg List.length (congrArg List.flatten (List.take_append_drop (k + 1) ps))
          rw [List.flatten_append, List.length_append, hfl, List.length_append] at h
          omega
        obtain ⟨b, hb⟩ : ∃ b, b = ps.getD k [] := ⟨_, rfl⟩
        rw [← hb] at hc h1 h3 hfl hle
        have HF := Lib.hid hfl
        clear hfl hb hj
        go_wp2_with (go_at_call 87; refine (put_any g cj Aj _ _ b _ (by rw [List.length_append]; omega) h1 h2 h3 hH' ht' hg0 hg1).mono ?_; rintro e w2 ⟨rfl, hg2, hh2⟩)
        go_roundw
        case rel => exact ⟨k + 1, by omega, by go_num, by rw [HF.out, ← List.append_assoc]; exact hh2, hA'.keep hg2, ht'.grown hg2 hg0 hg1, grown_trans hG' hg2⟩
        case measure => simp [intOf]; omega
      · have hd : decide ((k : Int) < (ps.length : Int)) = false := by simp; omega
        rw [List.take_of_length_le (by omega)] at hH'
        go_wp2
        go_end0
        exact ⟨rfl, hG', hH'⟩

set_option maxRecDepth 100000 in
set_option maxHeartbeats 1000000 in
theorem Sum_held (g : Nat) (m : List UInt8) (w : World) (hn : m.length < 549755813888) (hh : HeldN w g 140 m) (ht : Tabs w) :
    Calls Tryd.prog 83 #[.pointer (some ⟨g, 0, none⟩)] w fun e w' => e = .returned (.agg ((sha m).map B8).toArray) ∧ Below w.heap.size w w' := by
  obtain ⟨s, R, hR, hs, hm⟩ := hh
  have hlt := hs.lt
  have HR := Lib.hid hR
  have c72 : w.cell? ⟨g, 72, none⟩ = some (.int .u64 (m.length : Int)) := (hs.cell 72).trans (stCells_72 s R m.length hR)
  have ht0 := ht.lt0
  have ht1 := ht.lt1
  have hz : ∀ W : World, (zeroValue 140).run Tryd.prog W = .ok (.agg (stCells zeroSt (List.replicate 64 0) 0).toArray) W := fun W => by kernel_rfl
  go_enter Tryd.func83, Tryd.ntmps83
  go_wp2_with (first
    | (refine wpList_load_blk rfl 140 (.tmp 8) rfl g rfl _ _ _ (hs.alloc _) Tryd.underlying140 rfl (infoSt.trans (by rw [stCells_length _ _ _ HR.out])) ?_)
    | (refine wpList_store_blk rfl 140 (.tmp 3) (.tmp 9) rfl rfl (w.heap.size + 1) _ rfl rfl 140 (stCells zeroSt (List.replicate 64 0) 0) (Blk.new2_of w _ _ _ _ (by rfl)) (infoSt.trans (by rw [stCells_length _ _ _ HR.out])) (by rw [stCells_length _ _ _ HR.out]; rfl) (st_one _ _ _) ?_; intro w1 hs1 hg1; have hA1 := ((Blk.new_of w 82 _ ((List.replicate 32 (0 : UInt8)).map B8) (by rfl)).alloc _).grown hg1 (by simp); have hb1 := below_new (((Below.refl w.heap.size w).alloc (Nat.le_refl _) _).alloc (by simp) _) hg1 (by omega) (by simp; omega); have hsz1 : w.heap.size + 1 < w1.heap.size := hs1.lt; have c1 := (((hs.alloc _).alloc _).grown hg1 (by simp; omega)).cell 72; rw [stCells_72 s R m.length HR.out] at c1))
  clear hg1 c72
  refine (ending_any m.length _ (by omega) _ rfl).mono ?_
  rintro e w2 ⟨v, rfl, hown, hb2⟩
  obtain ⟨A, c, rfl, hAc, hcm, hsrc⟩ := hown.slice
  replace hs1 := hs1.below hb2 hsz1
  replace hA1 := hA1.below hb2 (by omega)
  replace hb1 := hb1.trans (hb2.mono (by omega))
  have hsz2 : w.heap.size + 1 < w2.heap.size := hs1.lt
  clear hown hb2 c1
  go_wp2_with fail
  have hpar : Parts (w2.alloc (.cells #[.slice A (padB m.length).length c] 26)) (w.heap.size + 1) (some ⟨w2.heap.size, 0, none⟩) [padB m.length] :=
    Parts.one (new_cell _ _ _) (by omega) hAc hcm (Src.keep (hsrc _ hsz1) (grown_alloc (grown_refl _ _) _))
  have hheld : HeldN (w2.alloc (.cells #[.slice A (padB m.length).length c] 26)) (w.heap.size + 1) 140 m := ⟨s, R, hR, hs1.alloc _, hm⟩
  have hp9 := padB_length m.length
  refine (Put_any (w.heap.size + 1) 1 _ m [padB m.length] _ (by simp; omega) (by simp) (by omega) hpar hheld ((ht.below hb1).below ((Below.refl _ _).alloc (Nat.le_refl _) _)) (by omega) (by omega)).mono ?_
  rintro e w3 ⟨rfl, hg3, R3, hR3, hL3, hs3⟩
  have hA3 := (hA1.alloc _).grown hg3 (by simp)
  have hb3 := below_new (hb1.alloc (by omega) _) hg3 (by omega) (by simp; omega)
  obtain ⟨q, hq⟩ : ∃ q, q = blocks first (m ++ [padB m.length].flatten) := ⟨_, rfl⟩
  rw [← hq] at hs3
  have HQ := Lib.hid hq
  clear hq hg3 hpar hheld hp9 hb1 hA1 hs1
  have c0 : w3.cell? ⟨w.heap.size + 1, 0, none⟩ = some (.int .u32 q.a.toNat) := hs3.cell 0
  have c1 : w3.cell? ⟨w.heap.size + 1, 1, none⟩ = some (.int .u32 q.b.toNat) := hs3.cell 1
  have c2 : w3.cell? ⟨w.heap.size + 1, 2, none⟩ = some (.int .u32 q.c.toNat) := hs3.cell 2
  have c3 : w3.cell? ⟨w.heap.size + 1, 3, none⟩ = some (.int .u32 q.d.toNat) := hs3.cell 3
  have c4 : w3.cell? ⟨w.heap.size + 1, 4, none⟩ = some (.int .u32 q.e.toNat) := hs3.cell 4
  have c5 : w3.cell? ⟨w.heap.size + 1, 5, none⟩ = some (.int .u32 q.f.toNat) := hs3.cell 5
  have c6 : w3.cell? ⟨w.heap.size + 1, 6, none⟩ = some (.int .u32 q.g.toNat) := hs3.cell 6
  have c7 : w3.cell? ⟨w.heap.size + 1, 7, none⟩ = some (.int .u32 q.h.toNat) := hs3.cell 7
  go_wp2_with fail
  refine (bytesOf_any q _).mono ?_
  rintro e w4 ⟨rfl, hb4⟩
  have hA4 := hA3.below hb4 hA3.lt
  have hb5 := hb3.trans (hb4.mono hb3.size)
  clear c0 c1 c2 c3 c4 c5 c6 c7
  have hsha : bytesOf q = sha m := by rw [HQ.out]; unfold sha; simp
  rw [hsha]
  have hl32 := sha_length m
  go_wp2_with (refine wpList_store_blk rfl 82 (.tmp 2) (.tmp 19) rfl rfl w.heap.size _ rfl rfl 82 _ hA4 (info32.trans (by simp [sha_length])) (by simp [sha_length]) (one8 _) ?_; intro w6 hA6 hg6)
  refine bodyPost_ret (v := .agg _) (results_cell_row rfl _ _ w.heap.size 82 _ (0, 0) _ rfl hA6.raw Tryd.underlying82 rfl (info32.trans (by simp [sha_length]))) rfl ⟨rfl, below_new hb5 hg6 (Nat.le_refl _) hb5.size⟩

set_option maxRecDepth 100000 in
set_option maxHeartbeats 1000000 in
theorem Of_any (c : Nat) (A : Option Addr) (ps : List (List UInt8)) (w : World) (hn : ps.flatten.length < 549755813888) (hpc : ps.length ≤ c) (hcm : c ≤ 9223372036854775807)
    (hA : ∀ g, w.heap.size ≤ g → Parts w g A ps) (ht : Tabs w) :
    Calls Tryd.prog 61 #[.slice A ps.length c] w fun e w' => e = .returned (.agg ((sha ps.flatten).map B8).toArray) ∧ Below w.heap.size w w' := by
  have ht0 := ht.lt0
  have ht1 := ht.lt1
  go_enter Tryd.func61, Tryd.ntmps61
  go_wp2_with fail
  refine (new_any _).mono ?_
  rintro e w1 ⟨rfl, hs1, hb1⟩
  have hb0 : Below w.heap.size w w1 := ((Below.refl _ _).alloc (Nat.le_refl _) _).trans (hb1.mono (by simp))
  have hA1 := ((Blk.new_of w 82 _ ((List.replicate 32 (0 : UInt8)).map B8) (by rfl))).below hb1 (by simp)
  rw [size_alloc] at hs1
  have hsz1 : w.heap.size + 1 < w1.heap.size := hs1.lt
  have hP1 := (hA (w.heap.size + 1) (by omega)).keep (grown_of_below hb0 _)
  go_wp2_with fail
  refine (Put_any (w.heap.size + 1) c A [] ps _ (by simp only [List.length_nil]; omega) hpc hcm hP1 (HeldN.new hs1) (ht.below hb0) (by omega) (by omega)).mono ?_
  rintro e w2 ⟨rfl, hg2, hh2⟩
  rw [List.nil_append] at hh2
  have hA2 := hA1.grown hg2 (by simp)
  have hb2 := below_new hb0 hg2 (by omega) (by omega)
  go_wp2_with fail
  refine (Sum_held (w.heap.size + 1) ps.flatten _ hn (HeldN.of_held hh2) (ht.below hb2)).mono ?_
  rintro e w3 ⟨rfl, hb3⟩
  have hA3 := hA2.below hb3 hA2.lt
  have hb4 := hb2.trans (hb3.mono hb2.size)
  go_wp2_with (refine wpList_store_blk rfl 82 (.tmp 2) (.tmp 9) rfl rfl w.heap.size _ rfl rfl 82 _ hA3 (info32.trans (by simp [sha_length])) (by simp [sha_length]) (one8 _) ?_; intro w6 hA6 hg6)
  refine bodyPost_ret (v := .agg _) (results_cell_row rfl _ _ w.heap.size 82 _ (0, 0) _ rfl hA6.raw Tryd.underlying82 rfl (info32.trans (by simp [sha_length]))) rfl ⟨rfl, below_new hb4 hg6 (Nat.le_refl _) hb4.size⟩

theorem eq32 (L : List UInt8) (h : L.length = 32) (W : World) : (binOp .eql 82 (.agg (L.map B8).toArray) (.agg (L.map B8).toArray)).run Tryd.prog W = .ok (.bool true) W := by
  have := run_eql_bytes (P := Tryd.prog) W 82 5 32 Tryd.underlying82 Tryd.underlying5 size8 L L h h
  rw [beq_self_eq_true] at this
  exact this


theorem of_one {W : World} {B gp k c : Nat} {A : Option Addr} {b : List UInt8} (hl : b.length = k) (hn : k < 549755813888) (ht : Tabs W) (hc : W.cell? ⟨gp, 0, none⟩ = some (.slice A k c)) (h : In W B A c b) (hB : B ≤ W.heap.size) :
    Calls Tryd.prog 61 #[.slice (some ⟨gp, 0, none⟩) 1 1] W fun e w' => e = .returned (.agg ((sha b).map B8).toArray) ∧ Below W.heap.size W w' := by
  have := Of_any 1 (some ⟨gp, 0, none⟩) [b] W (by simp; omega) (by simp) (by omega) (fun g hg => parts_in hl hc h (by omega) hg) ht
  simpa using this
theorem sha_abc : sha [97, 98, 99] = [0xBA, 0x78, 0x16, 0xBF, 0x8F, 0x01, 0xCF, 0xEA, 0x41, 0x41, 0x40, 0xDE, 0x5D, 0xAE, 0x22, 0x23, 0xB0, 0x03, 0x61, 0xA3, 0x96, 0x17, 0x7A, 0x9C, 0xB4, 0x10, 0xFF, 0x61, 0xF2, 0x00, 0x15, 0xAD] := by decide +kernel
theorem cell2 (w : World) (X : Obj) (t : TypeId) (u : Value) : ((w.alloc X).alloc (.cells #[u] t)).cell? ⟨w.heap.size + 1, 0, none⟩ = some u := by
  have := new_cell (w.alloc X) t u
  rwa [size_alloc] at this
set_option maxRecDepth 100000 in
set_option maxHeartbeats 600000 in
theorem stands_any (w : World) (ht : Tabs w) :
    Calls Tryd.prog 43 #[] w fun e w' => e = .returned (.bool true) ∧ Below w.heap.size w w' := by
  have kc := fun (w : World) (C : Array Value) (n c : Nat) => Lib.run_convert_bytes_const (P := Tryd.prog) w 26 5 C n c Tryd.underlying26 Tryd.underlying5
  have ht0 := ht.lt0
  have ht1 := ht.lt1
  go_enter Tryd.func43, Tryd.ntmps43
  go_wp2_with fail
  clear kc
  have hb0 : ∀ X : Obj, Below w.heap.size w (w.alloc X) := fun X => (Below.refl _ _).alloc (Nat.le_refl _) _
  have hB := Blk.new_of w 5 #[.int .u8 97, .int .u8 98, .int .u8 99] (([97, 98, 99] : List UInt8).map B8) rfl
  have hin : In (w.alloc (.cells #[.int .u8 97, .int .u8 98, .int .u8 99] 5 (3, 4))) (w.heap.size + 1) (some ⟨w.heap.size, 0, none⟩) 3 [97, 98, 99] := ⟨by decide, by decide, fun _ => ⟨w.heap.size, 0, rfl, Nat.lt_succ_self _, fun i hi => by
    refine (cell_of_row _ w.heap.size (0 + i) _ _ _ (heap_alloc_new w _)).trans ?_
    obtain rfl | rfl | rfl : i = 0 ∨ i = 1 ∨ i = 2 := by have : i < 3 := hi; omega
    · rfl
    · rfl
    · rfl⟩⟩
  refine (of_one (b := [97, 98, 99]) (B := w.heap.size + 1) rfl (by decide) (ht.below ((hb0 _).alloc (by simp) _)) (cell2 _ _ _ _) (hin.below ((Below.refl _ _).alloc (by simp) _)) (by simp)).mono ?_
  rintro e w1 ⟨rfl, hb1⟩
  have hb2 : Below w.heap.size w w1 := ((hb0 _).alloc (by simp) _).trans (hb1.mono (by simp; omega))
  clear hb1 hin hB hb0
  obtain ⟨X, hX⟩ : ∃ X, X = sha [97, 98, 99] := ⟨_, rfl⟩
  rw [← hX]
  have hl : X.length = 32 := by rw [hX]; exact sha_length _
  have x0 : X.getD 0 0 = 186 := by rw [hX, sha_abc]; rfl
  have x31 : X.getD 31 0 = 173 := by rw [hX, sha_abc]; rfl
  have HL := Lib.hid hl
  have X0 := Lib.hid x0
  have X31 := Lib.hid x31
  clear hX hl x0 x31
  go_wp2_with (refine wpList_store_blk rfl 82 (.tmp 1) (.tmp 5) rfl rfl w1.heap.size _ rfl rfl 82 ((List.replicate 32 (0 : UInt8)).map B8) (Blk.new_of w1 _ _ _ (by rfl)) (info32.trans (by rw [List.length_map, HL.out])) (by rw [List.length_map, List.length_map, HL.out]; rfl) (one8 _) ?_; intro w2 hs2 hg2; have c0 := hs2.at8 0 (by rw [HL.out]; decide); rw [X0.out] at c0; have c31 := hs2.at8 31 (by rw [HL.out]; decide); rw [X31.out] at c31)
  go_ret
  exact ⟨rfl, below_new (hb2.alloc hb2.size _) hg2 hb2.size (by have := hb2.size; simp; omega)⟩

end Go.Proofs.YtbomckbekcaemaaDoor
