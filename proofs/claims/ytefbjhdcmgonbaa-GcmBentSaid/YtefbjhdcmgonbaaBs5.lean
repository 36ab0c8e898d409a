/-
  The contracts of package block's states: all bytes turned by a function of words.
-/
import Derived.Test.YtefbjhdcmgonbaaBs4
namespace Go.Proofs.Ytefbjhdcmgonbaa
open Go.RowKit

def eachS (f : BitVec 64 → BitVec 64) (s : List UInt32) : List UInt32 :=
  [hi32 (f (cat32 (s.getD 0 0) (s.getD 1 0))), lo32 (f (cat32 (s.getD 0 0) (s.getD 1 0))), hi32 (f (cat32 (s.getD 2 0) (s.getD 3 0))), lo32 (f (cat32 (s.getD 2 0) (s.getD 3 0)))]
theorem eachS_length (f : BitVec 64 → BitVec 64) (s : List UInt32) : (eachS f s).length = 4 := rfl
theorem q_hi (x : UInt32) : IntKind.u64.wrap ((x.toNat : Int) * (4294967296 : Int)) = ((wide x <<< 32).toNat : Int) := by
  have := q_shl (wide x) 32
  rw [wide_nat] at this
  exact this
theorem q_cat (x y : UInt32) : bits .or .u64 ((wide x <<< 32).toNat : Int) (y.toNat : Int) = ((cat32 x y).toNat : Int) := by
  have := q_or (wide x <<< 32) (wide y)
  rw [wide_nat] at this
  exact this
theorem q_top (v : BitVec 64) : (v.toNat : Int) / (4294967296 : Int) = ((v >>> 32).toNat : Int) := q_shr v 32
theorem w_hi (v : BitVec 64) : IntKind.u32.wrap ((v >>> 32).toNat : Int) = ((hi32 v).toNat : Int) := w_lo (v >>> 32)
set_option maxRecDepth 100000 in
set_option maxHeartbeats 1000000 in
theorem each_sub64 (s : List UInt32) (hs : s.length = 4) (w : World) :
    Calls Try.prog 39 #[SV s, .func (.func 40) #[] #[]] w fun e w' => e = .returned (SV (eachS sub64 s)) ∧ Below w.heap.size w w' := by
  have hz : ∀ W : World, (zeroValue 73).run Try.prog W = .ok (SV zero4) W := fun W => by kernel_rfl
  have hE : eachS sub64 s = [hi32 (sub64 (cat32 (s.getD 0 0) (s.getD 1 0))), lo32 (sub64 (cat32 (s.getD 0 0) (s.getD 1 0))), hi32 (sub64 (cat32 (s.getD 2 0) (s.getD 3 0))), lo32 (sub64 (cat32 (s.getD 2 0) (s.getD 3 0)))] := rfl
  have hB0 : Blk ((w.alloc (.cells (s.map U32).toArray 73)).alloc (.cells (zero4.map U32).toArray 73)) w.heap.size 73 (s.map U32) := (Blk.new_of w 73 _ (s.map U32) rfl).alloc _
  have hZ0 := Blk.new2_of w (.cells (s.map U32).toArray 73) 73 (zero4.map U32).toArray (zero4.map U32) rfl
  have hb0 := ((Below.refl w.heap.size w).alloc (Nat.le_refl _) (.cells (s.map U32).toArray 73)).alloc (by simp) (.cells (zero4.map U32).toArray 73)
  have k0 := hB0.at32 0 (by omega)
  have k1 := hB0.at32 1 (by omega)
  have e0 := wrap64_u32 (s.getD 0 0)
  have e1 := wrap64_u32 (s.getD 1 0)
  have e2 := wrap64_u32 (s.getD 2 0)
  have e3 := wrap64_u32 (s.getD 3 0)
  have f0 := q_hi (s.getD 0 0)
  have f2 := q_hi (s.getD 2 0)
  have g0 := q_cat (s.getD 0 0) (s.getD 1 0)
  have g2 := q_cat (s.getD 2 0) (s.getD 3 0)
  have p0 := fun W => substituted_any (cat32 (s.getD 0 0) (s.getD 1 0)) W
  have p2 := fun W => substituted_any (cat32 (s.getD 2 0) (s.getD 3 0)) W
  generalize cat32 (s.getD 0 0) (s.getD 1 0) = c0 at *
  generalize cat32 (s.getD 2 0) (s.getD 3 0) = c2 at *
  obtain ⟨v0, hv0⟩ : ∃ v, v = sub64 c0 := ⟨_, rfl⟩
  obtain ⟨v2, hv2⟩ : ∃ v, v = sub64 c2 := ⟨_, rfl⟩
  rw [← hv0] at p0 hE
  rw [← hv2] at p2 hE
  have t0 := q_top v0
  have t2 := q_top v2
  have h0 := w_hi v0
  have h2 := w_hi v2
  have l0 := w_lo v0
  have l2 := w_lo v2
  have HE := Lib.hid hE
  have HK := Lib.hid (fun (W : World) (h : Blk W w.heap.size 73 (s.map U32)) => (show W.cell? ⟨w.heap.size, 2, none⟩ = some (.int .u32 (s.getD 2 0).toNat) ∧ W.cell? ⟨w.heap.size, 3, none⟩ = some (.int .u32 (s.getD 3 0).toNat) from ⟨h.at32 2 (by omega), h.at32 3 (by omega)⟩))
  have HP0 := Lib.hid p0
  have HP2 := Lib.hid p2
  clear hE hv0 hv2 p0 p2 hs
  generalize s.getD 0 0 = s0 at *
  generalize s.getD 1 0 = s1 at *
  generalize s.getD 2 0 = s2 at *
  generalize s.getD 3 0 = s3 at *
  generalize wide s0 <<< 32 = d0 at *
  generalize wide s2 <<< 32 = d2 at *
  generalize v0 >>> 32 = x0 at *
  generalize v2 >>> 32 = x2 at *
  generalize hi32 v0 = y0 at *
  generalize lo32 v0 = y1 at *
  generalize hi32 v2 = y2 at *
  generalize lo32 v2 = y3 at *
  go_enter Try.func39, Try.ntmps39
  go_wp2_with (first
    | (go_at_call 40; with_reducible refine (HP0.out _).mono ?_; rintro e w1 ⟨rfl, kk, hw1⟩; have hb1 : Below w.heap.size w w1 := (by subst hw1; exact below_drewN hb0 kk); have hB1 : Blk w1 w.heap.size 73 (s.map U32) := (by subst hw1; exact hB0.drewN kk); have hZ1 : Blk w1 (w.heap.size + 1) 73 (zero4.map U32) := (by subst hw1; exact hZ0.drewN kk); have k23 := HK.out _ hB1; clear hw1)
    | (go_at_call 40; with_reducible refine (HP2.out _).mono ?_; rintro e w2 ⟨rfl, kk2, hw2⟩; have hb2 : Below w.heap.size w w2 := (by subst hw2; exact below_drewN hb1 kk2); have hZ2 : Blk w2 (w.heap.size + 1) 73 (zero4.map U32) := (by subst hw2; exact hZ1.drewN kk2); clear hw2)
    | ((with_reducible refine (?_ : wpList _ _ _ (Oper.mk none _ _ _ _ _ :: _) _ _)); go_loud (refine wpList_store_blk rfl 73 (.tmp 4) (.tmp 37) rfl rfl (w.heap.size + 1) [U32 y0, U32 y1, U32 y2, U32 y3] rfl rfl 73 _ hZ2 infoSt rfl (one32 [y0, y1, y2, y3]) ?_); intro w3 hA3 hg3))
  refine bodyPost_ret (v := .agg _) (results_cell_row rfl _ _ (w.heap.size + 1) 73 _ (0, 0) _ rfl hA3.raw Try.underlying73 rfl infoSt) rfl ⟨by rw [HE.out]; rfl, below_new hb2 hg3 (by omega) hb2.size⟩
set_option maxRecDepth 100000 in
set_option maxHeartbeats 1000000 in
theorem each_res64 (s : List UInt32) (hs : s.length = 4) (w : World) :
    Calls Try.prog 39 #[SV s, .func (.func 45) #[] #[]] w fun e w' => e = .returned (SV (eachS res64 s)) ∧ Below w.heap.size w w' := by
  have hz : ∀ W : World, (zeroValue 73).run Try.prog W = .ok (SV zero4) W := fun W => by kernel_rfl
  have hE : eachS res64 s = [hi32 (res64 (cat32 (s.getD 0 0) (s.getD 1 0))), lo32 (res64 (cat32 (s.getD 0 0) (s.getD 1 0))), hi32 (res64 (cat32 (s.getD 2 0) (s.getD 3 0))), lo32 (res64 (cat32 (s.getD 2 0) (s.getD 3 0)))] := rfl
  have hB0 : Blk ((w.alloc (.cells (s.map U32).toArray 73)).alloc (.cells (zero4.map U32).toArray 73)) w.heap.size 73 (s.map U32) := (Blk.new_of w 73 _ (s.map U32) rfl).alloc _
  have hZ0 := Blk.new2_of w (.cells (s.map U32).toArray 73) 73 (zero4.map U32).toArray (zero4.map U32) rfl
  have hb0 := ((Below.refl w.heap.size w).alloc (Nat.le_refl _) (.cells (s.map U32).toArray 73)).alloc (by simp) (.cells (zero4.map U32).toArray 73)
  have k0 := hB0.at32 0 (by omega)
  have k1 := hB0.at32 1 (by omega)
  have e0 := wrap64_u32 (s.getD 0 0)
  have e1 := wrap64_u32 (s.getD 1 0)
  have e2 := wrap64_u32 (s.getD 2 0)
  have e3 := wrap64_u32 (s.getD 3 0)
  have f0 := q_hi (s.getD 0 0)
  have f2 := q_hi (s.getD 2 0)
  have g0 := q_cat (s.getD 0 0) (s.getD 1 0)
  have g2 := q_cat (s.getD 2 0) (s.getD 3 0)
  have p0 := fun W => restored_any (cat32 (s.getD 0 0) (s.getD 1 0)) W
  have p2 := fun W => restored_any (cat32 (s.getD 2 0) (s.getD 3 0)) W
  generalize cat32 (s.getD 0 0) (s.getD 1 0) = c0 at *
  generalize cat32 (s.getD 2 0) (s.getD 3 0) = c2 at *
  obtain ⟨v0, hv0⟩ : ∃ v, v = res64 c0 := ⟨_, rfl⟩
  obtain ⟨v2, hv2⟩ : ∃ v, v = res64 c2 := ⟨_, rfl⟩
  rw [← hv0] at p0 hE
  rw [← hv2] at p2 hE
  have t0 := q_top v0
  have t2 := q_top v2
  have h0 := w_hi v0
  have h2 := w_hi v2
  have l0 := w_lo v0
  have l2 := w_lo v2
  have HE := Lib.hid hE
  have HK := Lib.hid (fun (W : World) (h : Blk W w.heap.size 73 (s.map U32)) => (show W.cell? ⟨w.heap.size, 2, none⟩ = some (.int .u32 (s.getD 2 0).toNat) ∧ W.cell? ⟨w.heap.size, 3, none⟩ = some (.int .u32 (s.getD 3 0).toNat) from ⟨h.at32 2 (by omega), h.at32 3 (by omega)⟩))
  have HP0 := Lib.hid p0
  have HP2 := Lib.hid p2
  clear hE hv0 hv2 p0 p2 hs
  generalize s.getD 0 0 = s0 at *
  generalize s.getD 1 0 = s1 at *
  generalize s.getD 2 0 = s2 at *
  generalize s.getD 3 0 = s3 at *
  generalize wide s0 <<< 32 = d0 at *
  generalize wide s2 <<< 32 = d2 at *
  generalize v0 >>> 32 = x0 at *
  generalize v2 >>> 32 = x2 at *
  generalize hi32 v0 = y0 at *
  generalize lo32 v0 = y1 at *
  generalize hi32 v2 = y2 at *
  generalize lo32 v2 = y3 at *
  go_enter Try.func39, Try.ntmps39
  go_wp2_with (first
    | (go_at_call 45; with_reducible refine (HP0.out _).mono ?_; rintro e w1 ⟨rfl, kk, hw1⟩; have hb1 : Below w.heap.size w w1 := (by subst hw1; exact below_drewN hb0 kk); have hB1 : Blk w1 w.heap.size 73 (s.map U32) := (by subst hw1; exact hB0.drewN kk); have hZ1 : Blk w1 (w.heap.size + 1) 73 (zero4.map U32) := (by subst hw1; exact hZ0.drewN kk); have k23 := HK.out _ hB1; clear hw1)
    | (go_at_call 45; with_reducible refine (HP2.out _).mono ?_; rintro e w2 ⟨rfl, kk2, hw2⟩; have hb2 : Below w.heap.size w w2 := (by subst hw2; exact below_drewN hb1 kk2); have hZ2 : Blk w2 (w.heap.size + 1) 73 (zero4.map U32) := (by subst hw2; exact hZ1.drewN kk2); clear hw2)
    | ((with_reducible refine (?_ : wpList _ _ _ (Oper.mk none _ _ _ _ _ :: _) _ _)); go_loud (refine wpList_store_blk rfl 73 (.tmp 4) (.tmp 37) rfl rfl (w.heap.size + 1) [U32 y0, U32 y1, U32 y2, U32 y3] rfl rfl 73 _ hZ2 infoSt rfl (one32 [y0, y1, y2, y3]) ?_); intro w3 hA3 hg3))
  refine bodyPost_ret (v := .agg _) (results_cell_row rfl _ _ (w.heap.size + 1) 73 _ (0, 0) _ rfl hA3.raw Try.underlying73 rfl infoSt) rfl ⟨by rw [HE.out]; rfl, below_new hb2 hg3 (by omega) hb2.size⟩
end Go.Proofs.Ytefbjhdcmgonbaa
