/-
  The contract of one block's turn: the words behind the pointer become what the standard says of them and the block; nothing else that was there turns.
-/
import Derived.Test.YtdjhempfpgcigaaDoorSched
namespace Go.Proofs.YtdjhempfpgcigaaDoor
open Go.RowKit

/-- The two tables of package hash hold what the standard says. -/
structure Tabs (w : World) : Prop where
  first : ∀ i, i < 8 → w.cell? ⟨0, i, none⟩ = some (.int .u32 (first.words.getD i 0).toNat)
  rounds : ∀ i, i < 64 → w.cell? ⟨1, i, none⟩ = some (.int .u32 (kTab.getD i 0).toNat)
theorem Tabs.keep {w w' : World} (h : Tabs w) (k : ∀ p : Addr, p.block = 0 ∨ p.block = 1 → w'.cell? p = w.cell? p) : Tabs w' :=
  ⟨fun i hi => (k _ (.inl rfl)).trans (h.first i hi), fun i hi => (k _ (.inr rfl)).trans (h.rounds i hi)⟩
theorem Tabs.lt0 {w : World} (h : Tabs w) : 0 < w.heap.size := block_lt_of_cell (h.first 0 (by omega))
theorem Tabs.lt1 {w : World} (h : Tabs w) : 1 < w.heap.size := block_lt_of_cell (h.rounds 0 (by omega))
theorem Tabs.below {w w' : World} (h : Tabs w) (hb : Below w.heap.size w w') : Tabs w' :=
  h.keep fun p hp => hb.cell (by rcases hp with hp | hp <;> rw [hp]; exact h.lt0; exact h.lt1)
theorem Tabs.drew {w : World} (h : Tabs w) : Tabs w.drew := ⟨h.first, h.rounds⟩
theorem Tabs.drewN {w : World} (h : Tabs w) (n : Nat) : Tabs (w.drewN n) := ⟨h.first, h.rounds⟩
theorem Tabs.grown {w w' : World} {g : Nat} (h : Tabs w) (hb : w.grownBy w' (some g)) (h0 : g ≠ 0) (h1 : g ≠ 1) : Tabs w' :=
  h.keep fun p hp => World.cell?_of_block (hb.block p.block (by rcases hp with hp | hp <;> rw [hp]; exact h.lt0; exact h.lt1) (by rcases hp with hp | hp <;> rw [hp] <;> simp <;> omega))

set_option maxRecDepth 100000 in
set_option maxHeartbeats 2000000 in
theorem hturn_any (g gb ob cap : Nat) (t : TypeId) (s : St) (R : List Value) (bs : List UInt8) (w : World) (hl : bs.length = 64) (hcap : 64 ≤ cap) (hcm : cap ≤ 9223372036854775807)
    (hb : Bytes w gb ob bs) (hs : Blk w g t (s.vals ++ R)) (ht : Tabs w) :
    Calls Tryd.prog 60 #[.pointer (some ⟨g, 0, none⟩), .slice (some ⟨gb, ob, none⟩) 64 cap] w fun e w' => e = .returned (.tuple #[]) ∧ Blk w' g t ((comp s bs).vals ++ R) ∧ w.grownBy w' (some g) := by
  go_enter Tryd.func60, Tryd.ntmps60
  go_wp2_with fail
  refine (sched_any gb ob cap bs w hl hcap hcm hb).mono ?_
  rintro e w1 ⟨rfl, hb1⟩
  replace ht := ht.below hb1
  replace hs := hs.below hb1 hs.lt
  go_wp2_with (refine wpList_store_blk rfl 60 (.tmp 4) (.tmp 21) rfl rfl w1.heap.size _ rfl rfl 60 ((List.replicate 64 (0 : UInt32)).map U32) (Blk.new_of w1 _ _ _ (by rfl)) (info64.trans (by simp [schedTo_length])) (by simp [schedTo_length]) (one32 _) ?_; intro w2 hW hg2)
  have hsz : w.heap.size ≤ w1.heap.size := hb1.size
  have hlt := hs.lt
  replace hs := (hs.alloc _).grown hg2 (by simp; omega)
  replace hb1 := below_new (hb1.alloc hb1.size _) hg2 hb1.size (by simp; omega)
  replace ht := (ht.below ((Below.refl _ _).alloc (Nat.le_refl _) _)).grown hg2 (by have := ht.lt0; omega) (by have := ht.lt1; omega)
  clear hg2
  generalize w1.heap.size = G at *
  clear w1
  obtain ⟨W, hWW⟩ : ∃ W, W = schedTo bs 64 := ⟨_, rfl⟩
  rw [← hWW] at hW
  have hWl : W.length = 64 := by rw [hWW]; exact schedTo_length _ _
  have HW := Lib.hid hWW
  have HWl := Lib.hid hWl
  clear hWW hWl
  have c0 : w2.cell? ⟨g, 0, none⟩ = some (.int .u32 s.a.toNat) := hs.cell 0
  have c1 : w2.cell? ⟨g, 1, none⟩ = some (.int .u32 s.b.toNat) := hs.cell 1
  have c2 : w2.cell? ⟨g, 2, none⟩ = some (.int .u32 s.c.toNat) := hs.cell 2
  have c3 : w2.cell? ⟨g, 3, none⟩ = some (.int .u32 s.d.toNat) := hs.cell 3
  go_quiet (fail)
  replace hs := hs.drewN nq
  replace hW := hW.drewN nq
  replace ht := ht.drewN nq
  replace hb1 := below_drewN hb1 nq
  clear c0 c1 c2 c3
  generalize w2.drewN nq = w2 at *
  clear nq
  have c4 : w2.cell? ⟨g, 4, none⟩ = some (.int .u32 s.e.toNat) := hs.cell 4
  have c5 : w2.cell? ⟨g, 5, none⟩ = some (.int .u32 s.f.toNat) := hs.cell 5
  have c6 : w2.cell? ⟨g, 6, none⟩ = some (.int .u32 s.g.toNat) := hs.cell 6
  have c7 : w2.cell? ⟨g, 7, none⟩ = some (.int .u32 s.h.toNat) := hs.cell 7
  go_wp2
  go_quiet (fail)
  replace hs := hs.drewN nq
  replace hW := hW.drewN nq
  replace ht := ht.drewN nq
  replace hb1 := below_drewN hb1 nq
  clear c4 c5 c6 c7
  generalize w2.drewN nq = w3 at *
  clear nq
  go_wp2
  have hsg : IntKind.u32.signed = false := rfl
  go_loopw [5, 6, 7, 8, 9, 10, 11, 12, 54] (fun va vb vc vd ve vf vg vh i wr => ∃ (k : Nat) (q : St) (n : Nat), k ≤ 64 ∧ i = .int .i64 k ∧ va = .int .u32 q.a.toNat ∧ vb = .int .u32 q.b.toNat ∧ vc = .int .u32 q.c.toNat ∧ vd = .int .u32 q.d.toNat ∧ ve = .int .u32 q.e.toNat ∧ vf = .int .u32 q.f.toNat ∧ vg = .int .u32 q.g.toNat ∧ vh = .int .u32 q.h.toNat ∧ Hid (q = rnds W k s) ∧ wr = w3.drewN n)
    (fun _ _ _ _ _ _ _ _ i _ => 64 - (intOf i).toNat)
  case atStart => exact ⟨0, s, 0, by omega, rfl, rfl, rfl, rfl, rfl, rfl, rfl, rfl, rfl, (show _ = _ from rfl), rfl⟩
  case round =>
    obtain ⟨k, q, n, hk, rfl, rfl, rfl, rfl, rfl, rfl, rfl, rfl, rfl, HQ, rfl⟩ := hrel
    by_cases hlk : k < 64
    · have hd : decide ((k : Int) < 64) = true := by simp; omega
      have cK := ht.rounds k hlk
      have cW := hW.at32 k (by rw [HWl.out]; exact hlk)
      have b0 : (0 : Int) ≤ (k : Int) := by omega
      have b1 : (k : Int) < 64 := by omega
      go_wp2_with (go_at_call 64; refine (rot_any _ _ _ (by omega) (by omega)).mono ?_; rintro e w' ⟨rfl, rfl⟩)
      go_quiet (fail)
      go_wp2_with (go_at_call 64; refine (rot_any _ _ _ (by omega) (by omega)).mono ?_; rintro e w' ⟨rfl, rfl⟩)
      go_roundw
      case rel =>
        refine ⟨k + 1, rnd (kTab.getD k 0) (W.getD k 0) q, n + nq, by omega, by go_num, ?_, rfl, rfl, rfl, ?_, rfl, rfl, rfl, ?_, rfl⟩
        · simp only [w_not, w_xor, w_and, w_add5, w_add]; rfl
        · simp only [w_not, w_xor, w_and, w_add5, w_add]; rfl
        · show _ = _
          rw [HQ.out]; rfl
      case measure => simp [intOf]; omega
    · have hd : decide ((k : Int) < 64) = false := by simp; omega
      have hg3 := grown_of_below (below_drewN hb1 n) (some g)
      replace hs := hs.drewN n
      have hC : comp s bs = addSt s q := by
        unfold comp
        rw [HQ.out, HW.out, show k = 64 by omega]
      have HC := Lib.hid hC
      clear hC HQ HW hW ht hb1 hk hlk hb
      go_wp2
      generalize w3.drewN n = w4 at *
      have c : w4.cell? ⟨g, 0, none⟩ = some (.int .u32 s.a.toNat) := hs.cell 0
      have f := hs.frozen 0
      go_still_tail 8, (by kernel_rfl)
      change wpList _ _ _ _ _ w4.drew
      go_wp2
      clear c f
      replace hs : Blk (w4.setCell ⟨g, 0, none⟩ (.int .u32 (((s.a.toNat : Int) + (q.a.toNat : Int)) % 4294967296))).drew g t (([U32 s.a, U32 s.b, U32 s.c, U32 s.d, U32 s.e, U32 s.f, U32 s.g, U32 s.h] ++ R).set 0 (.int .u32 (((s.a.toNat : Int) + (q.a.toNat : Int)) % 4294967296))) := (hs.set_ 0 _).drew
      replace hg3 := grown_drew (grown_setCell hg3 (p := ⟨g, 0, none⟩) (.inl rfl) (.int .u32 (((s.a.toNat : Int) + (q.a.toNat : Int)) % 4294967296)))
      generalize (w4.setCell ⟨g, 0, none⟩ (.int .u32 (((s.a.toNat : Int) + (q.a.toNat : Int)) % 4294967296))).drew = w4 at *
      rw [w_add] at hs
      replace hs : Blk w4 g t ([U32 (s.a + q.a), U32 s.b, U32 s.c, U32 s.d, U32 s.e, U32 s.f, U32 s.g, U32 s.h] ++ R) := hs
      have c : w4.cell? ⟨g, 1, none⟩ = some (.int .u32 s.b.toNat) := hs.cell 1
      have f := hs.frozen 1
      go_still_tail 8, (by kernel_rfl)
      change wpList _ _ _ _ _ w4.drew
      go_wp2
      clear c f
      replace hs : Blk (w4.setCell ⟨g, 1, none⟩ (.int .u32 (((s.b.toNat : Int) + (q.b.toNat : Int)) % 4294967296))).drew g t (([U32 (s.a + q.a), U32 s.b, U32 s.c, U32 s.d, U32 s.e, U32 s.f, U32 s.g, U32 s.h] ++ R).set 1 (.int .u32 (((s.b.toNat : Int) + (q.b.toNat : Int)) % 4294967296))) := (hs.set_ 1 _).drew
      replace hg3 := grown_drew (grown_setCell hg3 (p := ⟨g, 1, none⟩) (.inl rfl) (.int .u32 (((s.b.toNat : Int) + (q.b.toNat : Int)) % 4294967296)))
      generalize (w4.setCell ⟨g, 1, none⟩ (.int .u32 (((s.b.toNat : Int) + (q.b.toNat : Int)) % 4294967296))).drew = w4 at *
      rw [w_add] at hs
      replace hs : Blk w4 g t ([U32 (s.a + q.a), U32 (s.b + q.b), U32 s.c, U32 s.d, U32 s.e, U32 s.f, U32 s.g, U32 s.h] ++ R) := hs
      have c : w4.cell? ⟨g, 2, none⟩ = some (.int .u32 s.c.toNat) := hs.cell 2
      have f := hs.frozen 2
      go_still_tail 8, (by kernel_rfl)
      change wpList _ _ _ _ _ w4.drew
      go_wp2
      clear c f
      replace hs : Blk (w4.setCell ⟨g, 2, none⟩ (.int .u32 (((s.c.toNat : Int) + (q.c.toNat : Int)) % 4294967296))).drew g t (([U32 (s.a + q.a), U32 (s.b + q.b), U32 s.c, U32 s.d, U32 s.e, U32 s.f, U32 s.g, U32 s.h] ++ R).set 2 (.int .u32 (((s.c.toNat : Int) + (q.c.toNat : Int)) % 4294967296))) := (hs.set_ 2 _).drew
      replace hg3 := grown_drew (grown_setCell hg3 (p := ⟨g, 2, none⟩) (.inl rfl) (.int .u32 (((s.c.toNat : Int) + (q.c.toNat : Int)) % 4294967296)))
      generalize (w4.setCell ⟨g, 2, none⟩ (.int .u32 (((s.c.toNat : Int) + (q.c.toNat : Int)) % 4294967296))).drew = w4 at *
      rw [w_add] at hs
      replace hs : Blk w4 g t ([U32 (s.a + q.a), U32 (s.b + q.b), U32 (s.c + q.c), U32 s.d, U32 s.e, U32 s.f, U32 s.g, U32 s.h] ++ R) := hs
      have c : w4.cell? ⟨g, 3, none⟩ = some (.int .u32 s.d.toNat) := hs.cell 3
      have f := hs.frozen 3
      go_still_tail 8, (by kernel_rfl)
      change wpList _ _ _ _ _ w4.drew
      go_wp2
      clear c f
      replace hs : Blk (w4.setCell ⟨g, 3, none⟩ (.int .u32 (((s.d.toNat : Int) + (q.d.toNat : Int)) % 4294967296))).drew g t (([U32 (s.a + q.a), U32 (s.b + q.b), U32 (s.c + q.c), U32 s.d, U32 s.e, U32 s.f, U32 s.g, U32 s.h] ++ R).set 3 (.int .u32 (((s.d.toNat : Int) + (q.d.toNat : Int)) % 4294967296))) := (hs.set_ 3 _).drew
      replace hg3 := grown_drew (grown_setCell hg3 (p := ⟨g, 3, none⟩) (.inl rfl) (.int .u32 (((s.d.toNat : Int) + (q.d.toNat : Int)) % 4294967296)))
      generalize (w4.setCell ⟨g, 3, none⟩ (.int .u32 (((s.d.toNat : Int) + (q.d.toNat : Int)) % 4294967296))).drew = w4 at *
      rw [w_add] at hs
      replace hs : Blk w4 g t ([U32 (s.a + q.a), U32 (s.b + q.b), U32 (s.c + q.c), U32 (s.d + q.d), U32 s.e, U32 s.f, U32 s.g, U32 s.h] ++ R) := hs
      have c : w4.cell? ⟨g, 4, none⟩ = some (.int .u32 s.e.toNat) := hs.cell 4
      have f := hs.frozen 4
      go_still_tail 8, (by kernel_rfl)
      change wpList _ _ _ _ _ w4.drew
      go_wp2
      clear c f
      replace hs : Blk (w4.setCell ⟨g, 4, none⟩ (.int .u32 (((s.e.toNat : Int) + (q.e.toNat : Int)) % 4294967296))).drew g t (([U32 (s.a + q.a), U32 (s.b + q.b), U32 (s.c + q.c), U32 (s.d + q.d), U32 s.e, U32 s.f, U32 s.g, U32 s.h] ++ R).set 4 (.int .u32 (((s.e.toNat : Int) + (q.e.toNat : Int)) % 4294967296))) := (hs.set_ 4 _).drew
      replace hg3 := grown_drew (grown_setCell hg3 (p := ⟨g, 4, none⟩) (.inl rfl) (.int .u32 (((s.e.toNat : Int) + (q.e.toNat : Int)) % 4294967296)))
      generalize (w4.setCell ⟨g, 4, none⟩ (.int .u32 (((s.e.toNat : Int) + (q.e.toNat : Int)) % 4294967296))).drew = w4 at *
      rw [w_add] at hs
      replace hs : Blk w4 g t ([U32 (s.a + q.a), U32 (s.b + q.b), U32 (s.c + q.c), U32 (s.d + q.d), U32 (s.e + q.e), U32 s.f, U32 s.g, U32 s.h] ++ R) := hs
      have c : w4.cell? ⟨g, 5, none⟩ = some (.int .u32 s.f.toNat) := hs.cell 5
      have f := hs.frozen 5
      go_still_tail 8, (by kernel_rfl)
      change wpList _ _ _ _ _ w4.drew
      go_wp2
      clear c f
      replace hs : Blk (w4.setCell ⟨g, 5, none⟩ (.int .u32 (((s.f.toNat : Int) + (q.f.toNat : Int)) % 4294967296))).drew g t (([U32 (s.a + q.a), U32 (s.b + q.b), U32 (s.c + q.c), U32 (s.d + q.d), U32 (s.e + q.e), U32 s.f, U32 s.g, U32 s.h] ++ R).set 5 (.int .u32 (((s.f.toNat : Int) + (q.f.toNat : Int)) % 4294967296))) := (hs.set_ 5 _).drew
      replace hg3 := grown_drew (grown_setCell hg3 (p := ⟨g, 5, none⟩) (.inl rfl) (.int .u32 (((s.f.toNat : Int) + (q.f.toNat : Int)) % 4294967296)))
      generalize (w4.setCell ⟨g, 5, none⟩ (.int .u32 (((s.f.toNat : Int) + (q.f.toNat : Int)) % 4294967296))).drew = w4 at *
      rw [w_add] at hs
      replace hs : Blk w4 g t ([U32 (s.a + q.a), U32 (s.b + q.b), U32 (s.c + q.c), U32 (s.d + q.d), U32 (s.e + q.e), U32 (s.f + q.f), U32 s.g, U32 s.h] ++ R) := hs
      have c : w4.cell? ⟨g, 6, none⟩ = some (.int .u32 s.g.toNat) := hs.cell 6
      have f := hs.frozen 6
      go_still_tail 8, (by kernel_rfl)
      change wpList _ _ _ _ _ w4.drew
      go_wp2
      clear c f
      replace hs : Blk (w4.setCell ⟨g, 6, none⟩ (.int .u32 (((s.g.toNat : Int) + (q.g.toNat : Int)) % 4294967296))).drew g t (([U32 (s.a + q.a), U32 (s.b + q.b), U32 (s.c + q.c), U32 (s.d + q.d), U32 (s.e + q.e), U32 (s.f + q.f), U32 s.g, U32 s.h] ++ R).set 6 (.int .u32 (((s.g.toNat : Int) + (q.g.toNat : Int)) % 4294967296))) := (hs.set_ 6 _).drew
      replace hg3 := grown_drew (grown_setCell hg3 (p := ⟨g, 6, none⟩) (.inl rfl) (.int .u32 (((s.g.toNat : Int) + (q.g.toNat : Int)) % 4294967296)))
      generalize (w4.setCell ⟨g, 6, none⟩ (.int .u32 (((s.g.toNat : Int) + (q.g.toNat : Int)) % 4294967296))).drew = w4 at *
      rw [w_add] at hs
      replace hs : Blk w4 g t ([U32 (s.a + q.a), U32 (s.b + q.b), U32 (s.c + q.c), U32 (s.d + q.d), U32 (s.e + q.e), U32 (s.f + q.f), U32 (s.g + q.g), U32 s.h] ++ R) := hs
      have c : w4.cell? ⟨g, 7, none⟩ = some (.int .u32 s.h.toNat) := hs.cell 7
      have f := hs.frozen 7
      go_still_tail 8, (by kernel_rfl)
      change wpList _ _ _ _ _ w4.drew
      go_wp2
      clear c f
      replace hs : Blk (w4.setCell ⟨g, 7, none⟩ (.int .u32 (((s.h.toNat : Int) + (q.h.toNat : Int)) % 4294967296))).drew g t (([U32 (s.a + q.a), U32 (s.b + q.b), U32 (s.c + q.c), U32 (s.d + q.d), U32 (s.e + q.e), U32 (s.f + q.f), U32 (s.g + q.g), U32 s.h] ++ R).set 7 (.int .u32 (((s.h.toNat : Int) + (q.h.toNat : Int)) % 4294967296))) := (hs.set_ 7 _).drew
      replace hg3 := grown_drew (grown_setCell hg3 (p := ⟨g, 7, none⟩) (.inl rfl) (.int .u32 (((s.h.toNat : Int) + (q.h.toNat : Int)) % 4294967296)))
      generalize (w4.setCell ⟨g, 7, none⟩ (.int .u32 (((s.h.toNat : Int) + (q.h.toNat : Int)) % 4294967296))).drew = w4 at *
      rw [w_add] at hs
      replace hs : Blk w4 g t ([U32 (s.a + q.a), U32 (s.b + q.b), U32 (s.c + q.c), U32 (s.d + q.d), U32 (s.e + q.e), U32 (s.f + q.f), U32 (s.g + q.g), U32 (s.h + q.h)] ++ R) := hs
      go_end0
      exact ⟨rfl, by rw [HC.out]; exact hs, hg3⟩
end Go.Proofs.YtdjhempfpgcigaaDoor
