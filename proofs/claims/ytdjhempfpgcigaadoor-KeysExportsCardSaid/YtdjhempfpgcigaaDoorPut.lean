/-
  The contract of putting one part to a state of the sum: the words go on over the whole blocks, the rest is kept, the size counts.
-/
import Derived.Test.YtdjhempfpgcigaaDoorTurn
import Derived.Test.YtdjhempfpgcigaaDoorFold
namespace Go.Proofs.YtdjhempfpgcigaaDoor
open Go.RowKit

theorem info8 : (Tryd.prog.info? 5).map (·.size) = some 1 := by kernel_rfl

/-- The loop over whole blocks and the last copy: from a state whose bytes so far make whole blocks. -/
theorem oneB8 (cs : List UInt8) : ∀ v ∈ cs.map B8, v.oneCell' = true := by
  intro v hv; simp at hv; obtain ⟨x, _, rfl⟩ := hv; rfl

set_option maxRecDepth 100000 in
set_option maxHeartbeats 1000000 in
theorem put_zero (g cap : Nat) (A : Option Addr) (t : TypeId) (s : St) (R b : List UInt8) (n : Nat) (w : World) (hR : R.length = 64) (hn : n + b.length < 1099511627776) (h0 : n % 64 = 0)
    (hbc : b.length ≤ cap) (hcm : cap ≤ 9223372036854775807) (hA : Src w g A b) (hs : Blk w g t (stCells s R n)) (ht : Tabs w) (hg0 : g ≠ 0) (hg1 : g ≠ 1) :
    Calls Tryd.prog 52 #[.pointer (some ⟨g, 0, none⟩), .slice A b.length cap] w fun e w' => e = .returned (.tuple #[]) ∧ w.grownBy w' (some g) ∧
      ∃ R', R'.length = 64 ∧ R'.take ((n + b.length) % 64) = left b ∧ Blk w' g t (stCells (blocks s b) R' (n + b.length)) := by
  have HRL := Lib.hid hR
  have c72 : w.cell? ⟨g, 72, none⟩ = some (.int .u64 (n : Int)) := (hs.cell 72).trans (stCells_72 s R n hR)
  have f72 := hs.frozen 72
  have hh : (n : Int) % 64 = 0 := by omega
  go_enter Tryd.func52, Tryd.ntmps52
  go_wp2
  clear hh
  have hg : w.grownBy (w.setCell ⟨g, 72, none⟩ (.int .u64 ((n : Int) + (b.length : Int)))) (some g) := grown_setCell (grown_refl w _) (.inl rfl) _
  replace hs : Blk (w.setCell ⟨g, 72, none⟩ (.int .u64 ((n : Int) + (b.length : Int)))) g t ((stCells s R n).set 72 (.int .u64 ((n : Int) + (b.length : Int)))) := hs.set_ 72 _
  replace ht := ht.grown hg hg0 hg1
  replace hA := hA.keep hg
  clear c72 f72
  generalize w.setCell ⟨g, 72, none⟩ (.int .u64 ((n : Int) + (b.length : Int))) = w1 at *
  rw [show (n : Int) + (b.length : Int) = ((n + b.length : Nat) : Int) from by omega, stCells_set72 _ _ _ _ hR] at hs
  go_loopw [1] (fun v wr => ∃ (A' : Option Addr) (c : Nat) (ys : List UInt8) (q : St), v = .slice A' ys.length c ∧ ys.length ≤ c ∧ c ≤ 9223372036854775807 ∧ Hid (blocks q ys = blocks s b ∧ left ys = left b) ∧ Src wr g A' ys ∧ Blk wr g t (stCells q R (n + b.length)) ∧ Tabs wr ∧ w.grownBy wr (some g)) (fun v _ => lenOf v)
  case atStart => exact ⟨A, cap, b, s, rfl, hbc, hcm, show _ ∧ _ from ⟨rfl, rfl⟩, hA, hs, ht, hg⟩
  case round =>
    obtain ⟨A', c, ys, q, rfl, hyc, hcm', HB, hA', hs', ht', hg'⟩ := hrel
    by_cases h64 : 64 ≤ ys.length
    · have hd : decide ((64 : Int) ≤ (ys.length : Int)) = true := by simp; omega
      obtain ⟨gb, ob, rfl, hne, hby⟩ := hA' (by omega)
      have HS := Lib.hid (blocks_step q ys h64)
      have HL := Lib.hid (left_step ys h64)
      clear hA'
      have a1 : 64 ≤ c := by omega
      have a2 : (64 : Int) ≤ (c : Int) := by omega
      rcases Decidable.em (c = 64) with rfl | hc
      · go_wp2
        go_still_tail 5, (by kernel_rfl)
        change wpList _ _ _ _ _ wr.drew
        go_wp2_with fail
        refine (hturn_any g gb ob _ t q (R.map B8 ++ [.int .u64 ((n + b.length : Nat) : Int)]) (ys.take 64) _ (by rw [List.length_take]; omega) (by omega) hcm' (hby.take 64).drew hs'.drew ht'.drew).mono ?_
        rintro e w2 ⟨rfl, hs2, hg2⟩
        replace hg2 : wr.grownBy w2 (some g) := grown_from_drew hg2
        have hby2 := Src.drop64 (g := g) (fun j hj => (World.cell?_of_block (w := wr) (a := ⟨gb, ob + j, none⟩) (hg2.block gb (hby.lt (by omega)) (by simp; omega))).trans (hby j hj)) hne 64 _ h64 hyc
        go_wp2
        go_roundw
        case rel =>
          refine ⟨_, 0, ys.drop 64, comp q (ys.take 64), ?_, by rw [List.length_drop]; omega, by omega, show _ ∧ _ from ⟨HS.out ▸ HB.out.1, HL.out ▸ HB.out.2⟩, hby2, hs2, ht'.grown hg2 hg0 hg1, grown_trans hg' hg2⟩
          simp [*]
        case measure => simp [lenOf]; omega
      · go_wp2
        go_still_tail 5, (by kernel_rfl)
        change wpList _ _ _ _ _ wr.drew
        go_wp2_with fail
        refine (hturn_any g gb ob _ t q (R.map B8 ++ [.int .u64 ((n + b.length : Nat) : Int)]) (ys.take 64) _ (by rw [List.length_take]; omega) (by omega) hcm' (hby.take 64).drew hs'.drew ht'.drew).mono ?_
        rintro e w2 ⟨rfl, hs2, hg2⟩
        replace hg2 : wr.grownBy w2 (some g) := grown_from_drew hg2
        have hby2 := Src.drop64 (g := g) (fun j hj => (World.cell?_of_block (w := wr) (a := ⟨gb, ob + j, none⟩) (hg2.block gb (hby.lt (by omega)) (by simp; omega))).trans (hby j hj)) hne 64 _ h64 hyc
        go_wp2
        go_roundw
        case rel =>
          refine ⟨_, (c - 64), ys.drop 64, comp q (ys.take 64), ?_, by rw [List.length_drop]; omega, by omega, show _ ∧ _ from ⟨HS.out ▸ HB.out.1, HL.out ▸ HB.out.2⟩, hby2, hs2, ht'.grown hg2 hg0 hg1, grown_trans hg' hg2⟩
          simp [*]
        case measure => simp [lenOf]; omega
    · have hd : decide ((64 : Int) ≤ (ys.length : Int)) = false := by simp; omega
      have HP : Hid (0 < (ys.map B8).length → (some (⟨g, 8, none⟩ : Addr)) = some ⟨g, 8, none⟩ ∧ ∃ gb ob, A' = some ⟨gb, ob, none⟩ ∧ ∀ j v, (ys.map B8)[j]? = some v → wr.cell? ⟨gb, ob + j, none⟩ = some v) := Src.cells hA'
      go_wp2_with (with_reducible refine wpList_copy_blk rfl (.tmp 60) (.tmp 61) 26 26 rfl 5 Tryd.underlying26 info8 _ _ _ _ _ _ rfl rfl g 8 _ t hs' (ys.map B8) (by rw [List.length_map]; exact (Nat.min_eq_left (by omega)).symm) HP.out (by rw [stCells_length _ _ _ HRL.out, List.length_map]; omega) (oneB8 _) ?_; intro w' hs2 hg2)
      go_wp2
      go_end0
      have e1 := stCells_splice q R ys (n + b.length) 0 HRL.out (by omega)
      have e2 := HB.out.1
      have e3 := HB.out.2
      rw [blocks_short _ _ (by omega)] at e2
      rw [left_short _ (by omega)] at e3
      refine ⟨rfl, grown_trans hg' hg2, splice R 0 ys, by rw [splice_length _ _ _ (by rw [HRL.out]; omega), HRL.out], ?_, ?_⟩
      · have h := splice_take R 0 ys (by omega)
        have hl : (n + b.length) % 64 = 0 + ys.length := by
          have := congrArg List.length e3
          rw [left_length] at this
          omega
        rw [hl, h]
        simpa using e3
      · rw [← e2, ← e1]; exact hs2

set_option maxRecDepth 100000 in
set_option maxHeartbeats 1000000 in
theorem put_short (g cap : Nat) (A : Option Addr) (t : TypeId) (s : St) (R b : List UInt8) (n h : Nat) (w : World) (hR : R.length = 64) (hn : n + b.length < 1099511627776) (h0 : n % 64 = h) (hp : 0 < h) (hsh : h + b.length < 64)
    (hbc : b.length ≤ cap) (hcm : cap ≤ 9223372036854775807) (hA : Src w g A b) (hs : Blk w g t (stCells s R n)) :
    Calls Tryd.prog 52 #[.pointer (some ⟨g, 0, none⟩), .slice A b.length cap] w fun e w' => e = .returned (.tuple #[]) ∧ w.grownBy w' (some g) ∧
      Blk w' g t (stCells s (splice R h b) (n + b.length)) := by
  have HRL := Lib.hid hR
  have c72 : w.cell? ⟨g, 72, none⟩ = some (.int .u64 (n : Int)) := (hs.cell 72).trans (stCells_72 s R n hR)
  have f72 := hs.frozen 72
  have hh : (n : Int) % 64 = (h : Int) := by omega
  have hp' : (0 : Int) < (h : Int) := by omega
  have hp2 : (h : Int) ≤ 64 := by omega
  have hp3 : ¬ 64 = h := by omega
  have hd5 : decide ((h : Int) + (b.length : Int) < 64) = true := by simp; omega
  clear h0
  have hg : w.grownBy (w.setCell ⟨g, 72, none⟩ (.int .u64 ((n : Int) + (b.length : Int)))) (some g) := grown_setCell (grown_refl w _) (.inl rfl) _
  have hs1 : Blk (w.setCell ⟨g, 72, none⟩ (.int .u64 ((n : Int) + (b.length : Int)))) g t ((stCells s R n).set 72 (.int .u64 ((n : Int) + (b.length : Int)))) := hs.set_ 72 _
  rw [show (stCells s R n).set 72 (.int .u64 ((n : Int) + (b.length : Int))) = stCells s R (n + b.length) from by rw [show (n : Int) + (b.length : Int) = ((n + b.length : Nat) : Int) from by omega, stCells_set72 _ _ _ _ hR]] at hs1
  have hA1 := hA.keep hg
  have hl : ((64 : Int) - (h : Int)).toNat = 64 - h := by omega
  have HP : Hid (0 < (b.map B8).length → (some (⟨g, 8 + h, none⟩ : Addr)) = some ⟨g, 8 + h, none⟩ ∧ ∃ gb ob, A = some ⟨gb, ob, none⟩ ∧ ∀ j v, (b.map B8)[j]? = some v → (w.setCell ⟨g, 72, none⟩ (.int .u64 ((n : Int) + (b.length : Int)))).cell? ⟨gb, ob + j, none⟩ = some v) := Src.cells hA1
  go_enter Tryd.func52, Tryd.ntmps52
  go_wp2_with (with_reducible refine wpList_copy_blk rfl (.tmp 28) (.tmp 29) 26 26 rfl 5 Tryd.underlying26 info8 _ _ _ _ _ _ rfl rfl g (8 + h) _ t hs1 (b.map B8) (by rw [List.length_map]; exact (Nat.min_eq_left (by omega)).symm) HP.out (by rw [stCells_length _ _ _ HRL.out, List.length_map]; omega) (oneB8 _) ?_; intro w' hs2 hg2)
  refine bodyPost_ret (results_none rfl _ _ _) rfl ?_
  rw [stCells_splice _ _ _ _ _ HRL.out (by omega)] at hs2
  exact ⟨rfl, grown_trans hg hg2, hs2⟩

set_option maxRecDepth 100000 in
set_option maxHeartbeats 2000000 in
theorem put_more (g gb ob cap : Nat) (t : TypeId) (s : St) (R p r : List UInt8) (n h k : Nat) (w : World) (hR : R.length = 64) (hn : n + (k + r.length) < 1099511627776) (h0 : n % 64 = h) (hp : 0 < h) (hk : h + k = 64) (hpl : p.length = k)
    (hbc : k + r.length ≤ cap) (hcm : cap ≤ 9223372036854775807) (hne : gb ≠ g) (hby : Bytes w gb ob (p ++ r)) (hs : Blk w g t (stCells s R n)) (ht : Tabs w) (hg0 : g ≠ 0) (hg1 : g ≠ 1) :
    Calls Tryd.prog 52 #[.pointer (some ⟨g, 0, none⟩), .slice (some ⟨gb, ob, none⟩) (k + r.length) cap] w fun e w' => e = .returned (.tuple #[]) ∧ w.grownBy w' (some g) ∧
      ∃ R', R'.length = 64 ∧ R'.take ((n + (k + r.length)) % 64) = left r ∧ Blk w' g t (stCells (blocks (comp s (R.take h ++ p)) r) R' (n + (k + r.length))) := by
  have HRL := Lib.hid hR
  have HPL := Lib.hid hpl
  have HRL1 : Hid ((R.take h ++ p).length = 64) := (show _ = _ by rw [List.length_append, List.length_take]; omega)
  have c72 : w.cell? ⟨g, 72, none⟩ = some (.int .u64 (n : Int)) := (hs.cell 72).trans (stCells_72 s R n hR)
  have f72 := hs.frozen 72
  have hh : (n : Int) % 64 = (h : Int) := by omega
  have hp' : (0 : Int) < (h : Int) := by omega
  have hp2 : (h : Int) ≤ 64 := by omega
  have hp3 : ¬ 64 = h := by omega
  have hd5 : decide ((h : Int) + (k : Int) < 64) = false := by simp; omega
  have hg : w.grownBy (w.setCell ⟨g, 72, none⟩ (.int .u64 ((n : Int) + ((k : Int) + (r.length : Int))))) (some g) := grown_setCell (grown_refl w _) (.inl rfl) _
  have hs1 : Blk (w.setCell ⟨g, 72, none⟩ (.int .u64 ((n : Int) + ((k : Int) + (r.length : Int))))) g t ((stCells s R n).set 72 (.int .u64 ((n : Int) + ((k : Int) + (r.length : Int))))) := hs.set_ 72 _
  rw [show (stCells s R n).set 72 (.int .u64 ((n : Int) + ((k : Int) + (r.length : Int)))) = stCells s R (n + (k + r.length)) from by rw [show (n : Int) + ((k : Int) + (r.length : Int)) = ((n + (k + r.length) : Nat) : Int) from by omega, stCells_set72 _ _ _ _ hR]] at hs1
  have ht1 := ht.grown hg hg0 hg1
  have hA1 : Src (w.setCell ⟨g, 72, none⟩ (.int .u64 ((n : Int) + ((k : Int) + (r.length : Int))))) g (some ⟨gb, ob, none⟩) (p ++ r) := Src.keep (fun _ => ⟨gb, ob, rfl, hne, hby⟩) hg
  have hbr : (p ++ r).length = k + r.length := by rw [List.length_append, hpl]
  have HP : Hid (0 < (p.map B8).length → (some (⟨g, 8 + h, none⟩ : Addr)) = some ⟨g, 8 + h, none⟩ ∧ ∃ gb' ob', (some (⟨gb, ob, none⟩ : Addr)) = some ⟨gb', ob', none⟩ ∧ ∀ j v, (p.map B8)[j]? = some v → (w.setCell ⟨g, 72, none⟩ (.int .u64 ((n : Int) + ((k : Int) + (r.length : Int))))).cell? ⟨gb', ob' + j, none⟩ = some v) :=
    Src.cells (g := g) (fun h1 => by
      obtain ⟨gb', ob', e, hne', hb'⟩ := hA1 (by omega)
      have := hb'.take p.length
      rw [List.take_left] at this
      exact ⟨gb', ob', e, hne', this⟩)
  have hby1 := fun (j : Nat) (hj : j < (p ++ r).length) => (World.cell?_of_block (w := w) (a := ⟨gb, ob + j, none⟩) (hg.block gb (hby.lt (by omega)) (by simp; omega))).trans (hby j hj)
  have HK := Lib.hid hk
  have HBR := Lib.hid hbr
  have HH0 := Lib.hid h0
  have hk6 : k ≤ 64 := by omega
  clear h0 hA1 hk hbr hby hs ht hR
  go_enter Tryd.func52, Tryd.ntmps52
  go_wp2_with (with_reducible refine wpList_copy_blk rfl (.tmp 28) (.tmp 29) 26 26 rfl 5 Tryd.underlying26 info8 _ _ _ _ _ _ rfl rfl g (8 + h) _ t hs1 (p.map B8) (by rw [List.length_map, HPL.out]; show _ = min _ _; have := HK.out; omega) HP.out (by rw [stCells_length _ _ _ HRL.out, List.length_map, HPL.out]; have := HK.out; omega) (oneB8 _) ?_; intro w2 hs2 hg2)
  clear hpl hd5
  rw [stCells_splice _ _ _ _ _ HRL.out (by rw [HPL.out]; have := HK.out; omega)] at hs2
  have e1 : splice R h p = R.take h ++ p := by
    rw [splice_eq, List.drop_eq_nil_of_le (by rw [HRL.out, HPL.out]; have := HK.out; omega), List.append_nil]
  rw [e1] at hs2
  have ht2 := ht1.grown hg2 hg0 hg1
  have hgA := grown_trans hg hg2
  have hlt0 : gb < (w.setCell ⟨g, 72, none⟩ (.int .u64 ((n : Int) + ((k : Int) + (r.length : Int))))).heap.size := block_lt_of_cell (hby1 0 (by have := HBR.out; have := HK.out; omega))
  have hby2 : Bytes w2 gb ob (p ++ r) := fun j hj => (World.cell?_of_block (a := ⟨gb, ob + j, none⟩) (hg2.block gb hlt0 (by simp; omega))).trans (hby1 j hj)
  clear hg2 ht1 hs1 hby1 hg c72 f72 HP hh e1 hlt0
  go_still_tail 7, (by kernel_rfl)
  change wpList _ _ _ _ _ w2.drew
  go_wp2_with fail
  refine (hturn_any g g 8 64 t s ((R.take h ++ p).map B8 ++ [.int .u64 ((n + (k + r.length) : Nat) : Int)]) (R.take h ++ p) _ HRL1.out (by omega) (by omega) hs2.rest.drew hs2.drew ht2.drew).mono ?_
  rintro e w3 ⟨rfl, hs3, hg3⟩
  replace hg3 : w2.grownBy w3 (some g) := grown_from_drew hg3
  have hby3 : Bytes w3 gb ob (p ++ r) := fun j hj => (World.cell?_of_block (w := w2) (a := ⟨gb, ob + j, none⟩) (hg3.block gb (hby2.lt (by have := HBR.out; have := HK.out; omega)) (by simp; omega))).trans (hby2 j hj)
  have ht3 := ht2.grown hg3 hg0 hg1
  have hgB := grown_trans hgA hg3
  have hA3 := Src.drop64 hby3 hne k cap (by rw [HBR.out]; omega) (by rw [HBR.out]; exact hbc)
  have e2 : (p ++ r).drop k = r := by rw [← HPL.out, List.drop_left]
  rw [e2] at hA3
  replace hs3 : Blk w3 g t (stCells (comp s (R.take h ++ p)) (R.take h ++ p) (n + (k + r.length))) := hs3
  clear hs2 hg3 hgA ht2 hby2 hby3 e2 HBR HPL
  obtain ⟨AA, hAA⟩ : ∃ AA, AA = (if cap = k then some (⟨gb, ob, none⟩ : Addr) else some ⟨gb, ob + k, none⟩) := ⟨_, rfl⟩
  rw [← hAA] at hA3
  have hk1 : (k : Int) ≤ (k : Int) + (r.length : Int) := by omega
  have hsl : ∀ W, (Instr.slice 26 (.slice (some ⟨gb, ob, none⟩) (k + r.length) cap) (some (.int .i64 (k : Int))) none none).run Tryd.prog W = .ok (.slice AA r.length (cap - k)) W := fun W => by
    rw [hAA]
    by_cases hc : cap = k
    · subst hc
      obtain rfl : r = [] := List.eq_nil_of_length_eq_zero (by omega)
      go_simp
    · go_simp
  clear hAA
  go_wp2
  clear hsl
  go_loopw [1] (fun v wr => ∃ (A' : Option Addr) (c : Nat) (ys : List UInt8) (q : St), v = .slice A' ys.length c ∧ ys.length ≤ c ∧ c ≤ 9223372036854775807 ∧ Hid (blocks q ys = blocks (comp s (R.take h ++ p)) r ∧ left ys = left r) ∧ Src wr g A' ys ∧ Blk wr g t (stCells q (R.take h ++ p) (n + (k + r.length))) ∧ Tabs wr ∧ w.grownBy wr (some g)) (fun v _ => lenOf v)
  case atStart => exact ⟨AA, cap - k, r, comp s (R.take h ++ p), rfl, by omega, by omega, show _ ∧ _ from ⟨rfl, rfl⟩, hA3, hs3, ht3, hgB⟩
  case round =>
    obtain ⟨A', c, ys, q, rfl, hyc, hcm', HB, hA', hs', ht', hg'⟩ := hrel
    by_cases h64 : 64 ≤ ys.length
    · have hd : decide ((64 : Int) ≤ (ys.length : Int)) = true := by simp; omega
      obtain ⟨gb, ob, rfl, hne, hby⟩ := hA' (by omega)
      have HS := Lib.hid (blocks_step q ys h64)
      have HL := Lib.hid (left_step ys h64)
      clear hA'
      have a1 : 64 ≤ c := by omega
      have a2 : (64 : Int) ≤ (c : Int) := by omega
      rcases Decidable.em (c = 64) with rfl | hc
      · go_wp2
        go_still_tail 5, (by kernel_rfl)
        change wpList _ _ _ _ _ wr.drew
        go_wp2_with fail
        refine (hturn_any g gb ob _ t q ((R.take h ++ p).map B8 ++ [.int .u64 ((n + (k + r.length) : Nat) : Int)]) (ys.take 64) _ (by rw [List.length_take]; omega) (by omega) hcm' (hby.take 64).drew hs'.drew ht'.drew).mono ?_
        rintro e w2 ⟨rfl, hs2, hg2⟩
        replace hg2 : wr.grownBy w2 (some g) := grown_from_drew hg2
        have hby2 := Src.drop64 (g := g) (fun j hj => (World.cell?_of_block (w := wr) (a := ⟨gb, ob + j, none⟩) (hg2.block gb (hby.lt (by omega)) (by simp; omega))).trans (hby j hj)) hne 64 _ h64 hyc
        go_wp2
        go_roundw
        case rel =>
          refine ⟨_, 0, ys.drop 64, comp q (ys.take 64), ?_, by rw [List.length_drop]; omega, by omega, show _ ∧ _ from ⟨HS.out ▸ HB.out.1, HL.out ▸ HB.out.2⟩, hby2, hs2, ht'.grown hg2 hg0 hg1, grown_trans hg' hg2⟩
          simp [*]
        case measure => simp [lenOf]; omega
      · go_wp2
        go_still_tail 5, (by kernel_rfl)
        change wpList _ _ _ _ _ wr.drew
        go_wp2_with fail
        refine (hturn_any g gb ob _ t q ((R.take h ++ p).map B8 ++ [.int .u64 ((n + (k + r.length) : Nat) : Int)]) (ys.take 64) _ (by rw [List.length_take]; omega) (by omega) hcm' (hby.take 64).drew hs'.drew ht'.drew).mono ?_
        rintro e w2 ⟨rfl, hs2, hg2⟩
        replace hg2 : wr.grownBy w2 (some g) := grown_from_drew hg2
        have hby2 := Src.drop64 (g := g) (fun j hj => (World.cell?_of_block (w := wr) (a := ⟨gb, ob + j, none⟩) (hg2.block gb (hby.lt (by omega)) (by simp; omega))).trans (hby j hj)) hne 64 _ h64 hyc
        go_wp2
        go_roundw
        case rel =>
          refine ⟨_, (c - 64), ys.drop 64, comp q (ys.take 64), ?_, by rw [List.length_drop]; omega, by omega, show _ ∧ _ from ⟨HS.out ▸ HB.out.1, HL.out ▸ HB.out.2⟩, hby2, hs2, ht'.grown hg2 hg0 hg1, grown_trans hg' hg2⟩
          simp [*]
        case measure => simp [lenOf]; omega
    · have hd : decide ((64 : Int) ≤ (ys.length : Int)) = false := by simp; omega
      have HP : Hid (0 < (ys.map B8).length → (some (⟨g, 8, none⟩ : Addr)) = some ⟨g, 8, none⟩ ∧ ∃ gb ob, A' = some ⟨gb, ob, none⟩ ∧ ∀ j v, (ys.map B8)[j]? = some v → wr.cell? ⟨gb, ob + j, none⟩ = some v) := Src.cells hA'
      go_wp2_with (with_reducible refine wpList_copy_blk rfl (.tmp 60) (.tmp 61) 26 26 rfl 5 Tryd.underlying26 info8 _ _ _ _ _ _ rfl rfl g 8 _ t hs' (ys.map B8) (by rw [List.length_map]; exact (Nat.min_eq_left (by omega)).symm) HP.out (by rw [stCells_length _ _ _ HRL1.out, List.length_map]; omega) (oneB8 _) ?_; intro w' hs2 hg2)
      go_wp2
      go_end0
      have e1 := stCells_splice q (R.take h ++ p) ys (n + (k + r.length)) 0 HRL1.out (by omega)
      have e2 := HB.out.1
      have e3 := HB.out.2
      rw [blocks_short _ _ (by omega)] at e2
      rw [left_short _ (by omega)] at e3
      refine ⟨rfl, grown_trans hg' hg2, splice (R.take h ++ p) 0 ys, by rw [splice_length _ _ _ (by rw [HRL1.out]; omega), HRL1.out], ?_, ?_⟩
      · have h := splice_take (R.take h ++ p) 0 ys (by omega)
        have hl : (n + (k + r.length)) % 64 = 0 + ys.length := by
          have h3 := congrArg List.length e3
          rw [left_length] at h3
          have h1 := HK.out
          have h2 := HH0.out
          omega
        rw [hl, h]
        simpa using e3
      · rw [← e2, ← e1]; exact hs2

/-- Block g holds a state to which just the bytes m were put. -/
def Held (w : World) (g : Nat) (t : TypeId) (m : List UInt8) : Prop :=
  ∃ R : List UInt8, R.length = 64 ∧ R.take (m.length % 64) = left m ∧ Blk w g t (stCells (blocks first m) R m.length)

theorem put_any (g cap : Nat) (A : Option Addr) (t : TypeId) (m b : List UInt8) (w : World) (hn : m.length + b.length < 1099511627776)
    (hbc : b.length ≤ cap) (hcm : cap ≤ 9223372036854775807) (hA : Src w g A b) (hh : Held w g t m) (ht : Tabs w) (hg0 : g ≠ 0) (hg1 : g ≠ 1) :
    Calls Tryd.prog 52 #[.pointer (some ⟨g, 0, none⟩), .slice A b.length cap] w fun e w' => e = .returned (.tuple #[]) ∧ w.grownBy w' (some g) ∧ Held w' g t (m ++ b) := by
  obtain ⟨R, hR, hL, hs⟩ := hh
  have hll := left_length m
  have hml : (m ++ b).length = m.length + b.length := List.length_append
  rcases Nat.eq_zero_or_pos (m.length % 64) with h0 | hp
  · have hl0 : left m = [] := List.eq_nil_of_length_eq_zero (by omega)
    refine (put_zero g cap A t (blocks first m) R b m.length w hR hn h0 hbc hcm hA hs ht hg0 hg1).mono fun e w' ⟨he, hg, R', hR', hL', hs'⟩ => ⟨he, hg, R', hR', ?_, ?_⟩
    · rw [hml, hL', left_append, hl0, List.nil_append]
    · rw [blocks_append, hl0, List.nil_append, hml]; exact hs'
  · by_cases hsh : m.length % 64 + b.length < 64
    · refine (put_short g cap A t (blocks first m) R b m.length (m.length % 64) w hR hn rfl hp hsh hbc hcm hA hs).mono fun e w' ⟨he, hg, hs'⟩ => ⟨he, hg, splice R (m.length % 64) b, by rw [splice_length _ _ _ (by omega), hR], ?_, ?_⟩
      · have e1 : (m ++ b).length % 64 = m.length % 64 + b.length := by rw [hml]; omega
        rw [e1, splice_take _ _ _ (by omega), hL, left_append, left_short (left m ++ b) (by rw [List.length_append]; omega)]
      · rw [blocks_append, blocks_short _ (left m ++ b) (by rw [List.length_append]; omega), hml]; exact hs'
    · obtain ⟨gb, ob, rfl, hne, hby⟩ := hA (by omega)
      obtain ⟨k, hk⟩ : ∃ k, m.length % 64 + k = 64 := ⟨64 - m.length % 64, by omega⟩
      have hpl : (b.take k).length = k := by rw [List.length_take]; omega
      have hbl : b.length = k + (b.drop k).length := by rw [List.length_drop]; omega
      have hb : b = b.take k ++ b.drop k := (List.take_append_drop k b).symm
      rw [hb] at hby
      rw [hbl] at hbc hn ⊢
      refine (put_more g gb ob cap t (blocks first m) R (b.take k) (b.drop k) m.length (m.length % 64) k w hR hn rfl hp hk hpl hbc hcm hne hby hs ht hg0 hg1).mono fun e w' ⟨he, hg, R', hR', hL', hs'⟩ => ⟨he, hg, R', hR', ?_, ?_⟩
      all_goals
        have e3 : (left m ++ b).take 64 = left m ++ b.take k := by
          rw [List.take_append, List.take_of_length_le (by omega), hll, show 64 - m.length % 64 = k by omega]
        have e4 : (left m ++ b).drop 64 = b.drop k := by
          rw [List.drop_append, List.drop_eq_nil_of_le (by omega), hll, show 64 - m.length % 64 = k by omega, List.nil_append]
      · rw [hml, hbl, hL', left_append, left_step (left m ++ b) (by rw [List.length_append]; omega), e4]
      · rw [blocks_append, blocks_step _ (left m ++ b) (by rw [List.length_append]; omega), e3, e4, hml, hbl, ← hL]; exact hs'
end Go.Proofs.YtdjhempfpgcigaaDoor
