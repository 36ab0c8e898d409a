/-
  The contract of the reference's Wrap of a key.
-/
import Derived.Test.YtnbmnognkbcddaaDoorVc
namespace Go.Proofs.YtnbmnognkbcddaaDoor
open Go.RowKit

theorem bytes_add (a b : List UInt8) : (⟨a.toArray⟩ : ByteArray) ++ ⟨b.toArray⟩ = ⟨(a ++ b).toArray⟩ := by
  apply ByteArray.ext; simp
theorem ix_n4 {N : Nat} (h : N ≤ 300) : IntKind.i64.wrap (4 + (N : Int)) = 4 + (N : Int) := by rw [IntKind.wrap_i64]; omega
theorem ix_n8 {hd : List UInt8} {N : Nat} (h : hd.length = N) (h2 : N ≤ 300) : ¬ (9223372036854775807 < 8 + hd.length) := by omega
def RWrapPost (E : List UInt8 × Nat) (w : World) (e : Ending) (w' : World) : Prop := e = .returned (.tuple #[.string ⟨E.1.toArray⟩, .int .i64 (E.2 : Int)]) ∧ Below w.heap.size w w'
set_option maxRecDepth 100000 in
set_option maxHeartbeats 1000000 in
theorem rwrap_b0 (kind : Int) (s0 s1 : UInt8) (Q key sec : List UInt8) (n : Nat) (w : World) (_hQ : Q.length = 16) (_hn : key.length = n) (_hn9 : n ≤ 1000000) (_h2 : sec.length ≤ 1000000) (hk : kind ≠ 16) (hk2 : kind ≠ 17) :
    Calls Tryd.prog 41 #[.int .i64 kind, .string ⟨key.toArray⟩, .agg #[.int .u8 (s0.toNat : Int), .int .u8 (s1.toNat : Int)], .agg (Q.map B8).toArray, .string ⟨sec.toArray⟩] w (RWrapPost (wrapE kind s0 s1 key Q sec) w) := by
  have HZ := Lib.hid (show wrapE kind s0 s1 key Q sec = ([], 1) by unfold wrapE; rw [if_neg]; unfold mayW; simp [hk, hk2])
  have hd1 : ¬ kind = 16 := hk
  have hd2 : ¬ kind = 17 := hk2
  clear hk hk2
  generalize wrapE _ s0 s1 key Q sec = E at *
  clear _hn _hn9 _h2 _hQ
  go_enter Tryd.func41, Tryd.ntmps41
  go_upto_region 1 with (fail)
  have hS := (Blk.new_of w 71 #[.int .u8 (s0.toNat : Int), .int .u8 (s1.toNat : Int)] ([s0, s1].map B8) rfl).alloc (.cells (Q.map B8).toArray 22)
  have hQb := Blk.new2_of w (.cells #[.int .u8 (s0.toNat : Int), .int .u8 (s1.toNat : Int)] 71) 22 _ (Q.map B8) rfl
  have hb0 : Below w.heap.size w (w.alloc (.cells #[.int .u8 (s0.toNat : Int), .int .u8 (s1.toNat : Int)] 71)) := (Below.refl _ _).alloc (Nat.le_refl _) _
  have hbw := hb0.alloc hb0.size (.cells (Q.map B8).toArray 22)
  obtain ⟨gs, hgs'⟩ : ∃ gs, gs = w.heap.size := ⟨_, rfl⟩
  obtain ⟨gq, hgq'⟩ : ∃ gq, gq = w.heap.size + 1 := ⟨_, rfl⟩
  rw [← hgq'] at hQb ⊢
  rw [← hgs'] at hS
  replace hS : Blk ((w.alloc (.cells #[.int .u8 (s0.toNat : Int), .int .u8 (s1.toNat : Int)] 71)).alloc (.cells (Q.map B8).toArray 22)) gs 71 ([s0, s1].map B8) := hS
  simp only [← hgs']
  have cc0 : ((w.alloc (.cells #[.int .u8 (s0.toNat : Int), .int .u8 (s1.toNat : Int)] 71)).alloc (.cells (Q.map B8).toArray 22)).cell? ⟨gs, 0, none⟩ = some (.int .u8 (s0.toNat : Int)) := hS.cell 0
  have HBW := Lib.hid hbw
  clear hb0 hbw hgs' hgq'
  generalize (w.alloc (.cells #[.int .u8 (s0.toNat : Int), .int .u8 (s1.toNat : Int)] 71)).alloc (.cells (Q.map B8).toArray 22) = w1 at *
  clear hS hQb
  go_wp2
  go_ret2
  exact ⟨by rw [HZ.out] <;> rfl, HBW.out⟩
set_option maxRecDepth 100000 in
set_option maxHeartbeats 1000000 in
theorem rwrap_b1_16 (kind : Int) (s0 s1 : UInt8) (Q key sec : List UInt8) (n : Nat) (w : World) (_hQ : Q.length = 16) (hn : key.length = n) (hn9 : n ≤ 1000000) (_h2 : sec.length ≤ 1000000) (hk : kind = 16) (h0 : n = 0) :
    Calls Tryd.prog 41 #[.int .i64 kind, .string ⟨key.toArray⟩, .agg #[.int .u8 (s0.toNat : Int), .int .u8 (s1.toNat : Int)], .agg (Q.map B8).toArray, .string ⟨sec.toArray⟩] w (RWrapPost (wrapE kind s0 s1 key Q sec) w) := by
  have HZ := Lib.hid (show wrapE kind s0 s1 key Q sec = ([], 1) by unfold wrapE; rw [if_neg]; unfold mayW; simp [hn, h0])
  subst hk h0
  have hd0 : (key.length : Int) < 1 := by omega
  generalize wrapE _ s0 s1 key Q sec = E at *
  clear hn hn9 _h2 _hQ
  go_enter Tryd.func41, Tryd.ntmps41
  go_upto_region 1 with (fail)
  have hS := (Blk.new_of w 71 #[.int .u8 (s0.toNat : Int), .int .u8 (s1.toNat : Int)] ([s0, s1].map B8) rfl).alloc (.cells (Q.map B8).toArray 22)
  have hQb := Blk.new2_of w (.cells #[.int .u8 (s0.toNat : Int), .int .u8 (s1.toNat : Int)] 71) 22 _ (Q.map B8) rfl
  have hb0 : Below w.heap.size w (w.alloc (.cells #[.int .u8 (s0.toNat : Int), .int .u8 (s1.toNat : Int)] 71)) := (Below.refl _ _).alloc (Nat.le_refl _) _
  have hbw := hb0.alloc hb0.size (.cells (Q.map B8).toArray 22)
  obtain ⟨gs, hgs'⟩ : ∃ gs, gs = w.heap.size := ⟨_, rfl⟩
  obtain ⟨gq, hgq'⟩ : ∃ gq, gq = w.heap.size + 1 := ⟨_, rfl⟩
  rw [← hgq'] at hQb ⊢
  rw [← hgs'] at hS
  replace hS : Blk ((w.alloc (.cells #[.int .u8 (s0.toNat : Int), .int .u8 (s1.toNat : Int)] 71)).alloc (.cells (Q.map B8).toArray 22)) gs 71 ([s0, s1].map B8) := hS
  simp only [← hgs']
  have cc0 : ((w.alloc (.cells #[.int .u8 (s0.toNat : Int), .int .u8 (s1.toNat : Int)] 71)).alloc (.cells (Q.map B8).toArray 22)).cell? ⟨gs, 0, none⟩ = some (.int .u8 (s0.toNat : Int)) := hS.cell 0
  have HBW := Lib.hid hbw
  clear hb0 hbw hgs' hgq'
  generalize (w.alloc (.cells #[.int .u8 (s0.toNat : Int), .int .u8 (s1.toNat : Int)] 71)).alloc (.cells (Q.map B8).toArray 22) = w1 at *
  clear hS hQb
  go_wp2
  go_ret2
  exact ⟨by rw [HZ.out] <;> rfl, HBW.out⟩
set_option maxRecDepth 100000 in
set_option maxHeartbeats 1000000 in
theorem rwrap_b2_16 (kind : Int) (s0 s1 : UInt8) (Q key sec : List UInt8) (n : Nat) (w : World) (_hQ : Q.length = 16) (hn : key.length = n) (hn9 : n ≤ 1000000) (_h2 : sec.length ≤ 1000000) (hk : kind = 16) (_h0 : n ≠ 0) (h200 : 200 < n) :
    Calls Tryd.prog 41 #[.int .i64 kind, .string ⟨key.toArray⟩, .agg #[.int .u8 (s0.toNat : Int), .int .u8 (s1.toNat : Int)], .agg (Q.map B8).toArray, .string ⟨sec.toArray⟩] w (RWrapPost (wrapE kind s0 s1 key Q sec) w) := by
  have HZ := Lib.hid (show wrapE kind s0 s1 key Q sec = ([], 1) by unfold wrapE; rw [if_neg]; unfold mayW; simp [hn]; omega)
  subst hk
  have hd0 : ¬ (key.length : Int) < 1 := by omega
  have hd3 : (200 : Int) < (key.length : Int) := by omega
  clear _h0 h200
  generalize wrapE _ s0 s1 key Q sec = E at *
  clear hn hn9 _h2 _hQ
  go_enter Tryd.func41, Tryd.ntmps41
  go_upto_region 1 with (fail)
  have hS := (Blk.new_of w 71 #[.int .u8 (s0.toNat : Int), .int .u8 (s1.toNat : Int)] ([s0, s1].map B8) rfl).alloc (.cells (Q.map B8).toArray 22)
  have hQb := Blk.new2_of w (.cells #[.int .u8 (s0.toNat : Int), .int .u8 (s1.toNat : Int)] 71) 22 _ (Q.map B8) rfl
  have hb0 : Below w.heap.size w (w.alloc (.cells #[.int .u8 (s0.toNat : Int), .int .u8 (s1.toNat : Int)] 71)) := (Below.refl _ _).alloc (Nat.le_refl _) _
  have hbw := hb0.alloc hb0.size (.cells (Q.map B8).toArray 22)
  obtain ⟨gs, hgs'⟩ : ∃ gs, gs = w.heap.size := ⟨_, rfl⟩
  obtain ⟨gq, hgq'⟩ : ∃ gq, gq = w.heap.size + 1 := ⟨_, rfl⟩
  rw [← hgq'] at hQb ⊢
  rw [← hgs'] at hS
  replace hS : Blk ((w.alloc (.cells #[.int .u8 (s0.toNat : Int), .int .u8 (s1.toNat : Int)] 71)).alloc (.cells (Q.map B8).toArray 22)) gs 71 ([s0, s1].map B8) := hS
  simp only [← hgs']
  have cc0 : ((w.alloc (.cells #[.int .u8 (s0.toNat : Int), .int .u8 (s1.toNat : Int)] 71)).alloc (.cells (Q.map B8).toArray 22)).cell? ⟨gs, 0, none⟩ = some (.int .u8 (s0.toNat : Int)) := hS.cell 0
  have HBW := Lib.hid hbw
  clear hb0 hbw hgs' hgq'
  generalize (w.alloc (.cells #[.int .u8 (s0.toNat : Int), .int .u8 (s1.toNat : Int)] 71)).alloc (.cells (Q.map B8).toArray 22) = w1 at *
  clear hS hQb
  go_wp2
  go_ret2
  exact ⟨by rw [HZ.out] <;> rfl, HBW.out⟩
set_option maxRecDepth 100000 in
set_option maxHeartbeats 1000000 in
theorem rwrap_b3_16 (kind : Int) (s0 s1 : UInt8) (Q key sec : List UInt8) (n : Nat) (w : World) (_hQ : Q.length = 16) (hn : key.length = n) (hn9 : n ≤ 1000000) (_h2 : sec.length ≤ 1000000) (hk : kind = 16) (h0 : n ≠ 0) (h200 : ¬ 200 < n) (hs : s0.toNat < 128) :
    Calls Tryd.prog 41 #[.int .i64 kind, .string ⟨key.toArray⟩, .agg #[.int .u8 (s0.toNat : Int), .int .u8 (s1.toNat : Int)], .agg (Q.map B8).toArray, .string ⟨sec.toArray⟩] w (RWrapPost (wrapE kind s0 s1 key Q sec) w) := by
  have HZ := Lib.hid (show wrapE kind s0 s1 key Q sec = ([], 1) by unfold wrapE; rw [if_neg]; unfold mayW; simp [hn]; omega)
  subst hk
  have hd0 : ¬ (key.length : Int) < 1 := by omega
  have hd3 : ¬ (200 : Int) < (key.length : Int) := by omega
  have hd4 : (s0.toNat : Int) < 128 := by omega
  clear h0 h200 hs
  generalize wrapE _ s0 s1 key Q sec = E at *
  clear hn hn9 _h2 _hQ
  go_enter Tryd.func41, Tryd.ntmps41
  go_upto_region 1 with (fail)
  have hS := (Blk.new_of w 71 #[.int .u8 (s0.toNat : Int), .int .u8 (s1.toNat : Int)] ([s0, s1].map B8) rfl).alloc (.cells (Q.map B8).toArray 22)
  have hQb := Blk.new2_of w (.cells #[.int .u8 (s0.toNat : Int), .int .u8 (s1.toNat : Int)] 71) 22 _ (Q.map B8) rfl
  have hb0 : Below w.heap.size w (w.alloc (.cells #[.int .u8 (s0.toNat : Int), .int .u8 (s1.toNat : Int)] 71)) := (Below.refl _ _).alloc (Nat.le_refl _) _
  have hbw := hb0.alloc hb0.size (.cells (Q.map B8).toArray 22)
  obtain ⟨gs, hgs'⟩ : ∃ gs, gs = w.heap.size := ⟨_, rfl⟩
  obtain ⟨gq, hgq'⟩ : ∃ gq, gq = w.heap.size + 1 := ⟨_, rfl⟩
  rw [← hgq'] at hQb ⊢
  rw [← hgs'] at hS
  replace hS : Blk ((w.alloc (.cells #[.int .u8 (s0.toNat : Int), .int .u8 (s1.toNat : Int)] 71)).alloc (.cells (Q.map B8).toArray 22)) gs 71 ([s0, s1].map B8) := hS
  simp only [← hgs']
  have cc0 : ((w.alloc (.cells #[.int .u8 (s0.toNat : Int), .int .u8 (s1.toNat : Int)] 71)).alloc (.cells (Q.map B8).toArray 22)).cell? ⟨gs, 0, none⟩ = some (.int .u8 (s0.toNat : Int)) := hS.cell 0
  have HBW := Lib.hid hbw
  clear hb0 hbw hgs' hgq'
  generalize (w.alloc (.cells #[.int .u8 (s0.toNat : Int), .int .u8 (s1.toNat : Int)] 71)).alloc (.cells (Q.map B8).toArray 22) = w1 at *
  clear hS hQb
  go_wp2
  go_ret2
  exact ⟨by rw [HZ.out] <;> rfl, HBW.out⟩
set_option maxRecDepth 100000 in
set_option maxHeartbeats 1000000 in
theorem rwrap_b1_17 (kind : Int) (s0 s1 : UInt8) (Q key sec : List UInt8) (n : Nat) (w : World) (_hQ : Q.length = 16) (hn : key.length = n) (hn9 : n ≤ 1000000) (_h2 : sec.length ≤ 1000000) (hk : kind = 17) (h0 : n = 0) :
    Calls Tryd.prog 41 #[.int .i64 kind, .string ⟨key.toArray⟩, .agg #[.int .u8 (s0.toNat : Int), .int .u8 (s1.toNat : Int)], .agg (Q.map B8).toArray, .string ⟨sec.toArray⟩] w (RWrapPost (wrapE kind s0 s1 key Q sec) w) := by
  have HZ := Lib.hid (show wrapE kind s0 s1 key Q sec = ([], 1) by unfold wrapE; rw [if_neg]; unfold mayW; simp [hn, h0])
  subst hk h0
  have hd0 : (key.length : Int) < 1 := by omega
  generalize wrapE _ s0 s1 key Q sec = E at *
  clear hn hn9 _h2 _hQ
  go_enter Tryd.func41, Tryd.ntmps41
  go_upto_region 1 with (fail)
  have hS := (Blk.new_of w 71 #[.int .u8 (s0.toNat : Int), .int .u8 (s1.toNat : Int)] ([s0, s1].map B8) rfl).alloc (.cells (Q.map B8).toArray 22)
  have hQb := Blk.new2_of w (.cells #[.int .u8 (s0.toNat : Int), .int .u8 (s1.toNat : Int)] 71) 22 _ (Q.map B8) rfl
  have hb0 : Below w.heap.size w (w.alloc (.cells #[.int .u8 (s0.toNat : Int), .int .u8 (s1.toNat : Int)] 71)) := (Below.refl _ _).alloc (Nat.le_refl _) _
  have hbw := hb0.alloc hb0.size (.cells (Q.map B8).toArray 22)
  obtain ⟨gs, hgs'⟩ : ∃ gs, gs = w.heap.size := ⟨_, rfl⟩
  obtain ⟨gq, hgq'⟩ : ∃ gq, gq = w.heap.size + 1 := ⟨_, rfl⟩
  rw [← hgq'] at hQb ⊢
  rw [← hgs'] at hS
  replace hS : Blk ((w.alloc (.cells #[.int .u8 (s0.toNat : Int), .int .u8 (s1.toNat : Int)] 71)).alloc (.cells (Q.map B8).toArray 22)) gs 71 ([s0, s1].map B8) := hS
  simp only [← hgs']
  have cc0 : ((w.alloc (.cells #[.int .u8 (s0.toNat : Int), .int .u8 (s1.toNat : Int)] 71)).alloc (.cells (Q.map B8).toArray 22)).cell? ⟨gs, 0, none⟩ = some (.int .u8 (s0.toNat : Int)) := hS.cell 0
  have HBW := Lib.hid hbw
  clear hb0 hbw hgs' hgq'
  generalize (w.alloc (.cells #[.int .u8 (s0.toNat : Int), .int .u8 (s1.toNat : Int)] 71)).alloc (.cells (Q.map B8).toArray 22) = w1 at *
  clear hS hQb
  go_wp2
  go_ret2
  exact ⟨by rw [HZ.out] <;> rfl, HBW.out⟩
set_option maxRecDepth 100000 in
set_option maxHeartbeats 1000000 in
theorem rwrap_b2_17 (kind : Int) (s0 s1 : UInt8) (Q key sec : List UInt8) (n : Nat) (w : World) (_hQ : Q.length = 16) (hn : key.length = n) (hn9 : n ≤ 1000000) (_h2 : sec.length ≤ 1000000) (hk : kind = 17) (_h0 : n ≠ 0) (h200 : 200 < n) :
    Calls Tryd.prog 41 #[.int .i64 kind, .string ⟨key.toArray⟩, .agg #[.int .u8 (s0.toNat : Int), .int .u8 (s1.toNat : Int)], .agg (Q.map B8).toArray, .string ⟨sec.toArray⟩] w (RWrapPost (wrapE kind s0 s1 key Q sec) w) := by
  have HZ := Lib.hid (show wrapE kind s0 s1 key Q sec = ([], 1) by unfold wrapE; rw [if_neg]; unfold mayW; simp [hn]; omega)
  subst hk
  have hd0 : ¬ (key.length : Int) < 1 := by omega
  have hd3 : (200 : Int) < (key.length : Int) := by omega
  clear _h0 h200
  generalize wrapE _ s0 s1 key Q sec = E at *
  clear hn hn9 _h2 _hQ
  go_enter Tryd.func41, Tryd.ntmps41
  go_upto_region 1 with (fail)
  have hS := (Blk.new_of w 71 #[.int .u8 (s0.toNat : Int), .int .u8 (s1.toNat : Int)] ([s0, s1].map B8) rfl).alloc (.cells (Q.map B8).toArray 22)
  have hQb := Blk.new2_of w (.cells #[.int .u8 (s0.toNat : Int), .int .u8 (s1.toNat : Int)] 71) 22 _ (Q.map B8) rfl
  have hb0 : Below w.heap.size w (w.alloc (.cells #[.int .u8 (s0.toNat : Int), .int .u8 (s1.toNat : Int)] 71)) := (Below.refl _ _).alloc (Nat.le_refl _) _
  have hbw := hb0.alloc hb0.size (.cells (Q.map B8).toArray 22)
  obtain ⟨gs, hgs'⟩ : ∃ gs, gs = w.heap.size := ⟨_, rfl⟩
  obtain ⟨gq, hgq'⟩ : ∃ gq, gq = w.heap.size + 1 := ⟨_, rfl⟩
  rw [← hgq'] at hQb ⊢
  rw [← hgs'] at hS
  replace hS : Blk ((w.alloc (.cells #[.int .u8 (s0.toNat : Int), .int .u8 (s1.toNat : Int)] 71)).alloc (.cells (Q.map B8).toArray 22)) gs 71 ([s0, s1].map B8) := hS
  simp only [← hgs']
  have cc0 : ((w.alloc (.cells #[.int .u8 (s0.toNat : Int), .int .u8 (s1.toNat : Int)] 71)).alloc (.cells (Q.map B8).toArray 22)).cell? ⟨gs, 0, none⟩ = some (.int .u8 (s0.toNat : Int)) := hS.cell 0
  have HBW := Lib.hid hbw
  clear hb0 hbw hgs' hgq'
  generalize (w.alloc (.cells #[.int .u8 (s0.toNat : Int), .int .u8 (s1.toNat : Int)] 71)).alloc (.cells (Q.map B8).toArray 22) = w1 at *
  clear hS hQb
  go_wp2
  go_ret2
  exact ⟨by rw [HZ.out] <;> rfl, HBW.out⟩
set_option maxRecDepth 100000 in
set_option maxHeartbeats 1000000 in
theorem rwrap_b3_17 (kind : Int) (s0 s1 : UInt8) (Q key sec : List UInt8) (n : Nat) (w : World) (_hQ : Q.length = 16) (hn : key.length = n) (hn9 : n ≤ 1000000) (_h2 : sec.length ≤ 1000000) (hk : kind = 17) (h0 : n ≠ 0) (h200 : ¬ 200 < n) (hs : s0.toNat < 128) :
    Calls Tryd.prog 41 #[.int .i64 kind, .string ⟨key.toArray⟩, .agg #[.int .u8 (s0.toNat : Int), .int .u8 (s1.toNat : Int)], .agg (Q.map B8).toArray, .string ⟨sec.toArray⟩] w (RWrapPost (wrapE kind s0 s1 key Q sec) w) := by
  have HZ := Lib.hid (show wrapE kind s0 s1 key Q sec = ([], 1) by unfold wrapE; rw [if_neg]; unfold mayW; simp [hn]; omega)
  subst hk
  have hd0 : ¬ (key.length : Int) < 1 := by omega
  have hd3 : ¬ (200 : Int) < (key.length : Int) := by omega
  have hd4 : (s0.toNat : Int) < 128 := by omega
  clear h0 h200 hs
  generalize wrapE _ s0 s1 key Q sec = E at *
  clear hn hn9 _h2 _hQ
  go_enter Tryd.func41, Tryd.ntmps41
  go_upto_region 1 with (fail)
  have hS := (Blk.new_of w 71 #[.int .u8 (s0.toNat : Int), .int .u8 (s1.toNat : Int)] ([s0, s1].map B8) rfl).alloc (.cells (Q.map B8).toArray 22)
  have hQb := Blk.new2_of w (.cells #[.int .u8 (s0.toNat : Int), .int .u8 (s1.toNat : Int)] 71) 22 _ (Q.map B8) rfl
  have hb0 : Below w.heap.size w (w.alloc (.cells #[.int .u8 (s0.toNat : Int), .int .u8 (s1.toNat : Int)] 71)) := (Below.refl _ _).alloc (Nat.le_refl _) _
  have hbw := hb0.alloc hb0.size (.cells (Q.map B8).toArray 22)
  obtain ⟨gs, hgs'⟩ : ∃ gs, gs = w.heap.size := ⟨_, rfl⟩
  obtain ⟨gq, hgq'⟩ : ∃ gq, gq = w.heap.size + 1 := ⟨_, rfl⟩
  rw [← hgq'] at hQb ⊢
  rw [← hgs'] at hS
  replace hS : Blk ((w.alloc (.cells #[.int .u8 (s0.toNat : Int), .int .u8 (s1.toNat : Int)] 71)).alloc (.cells (Q.map B8).toArray 22)) gs 71 ([s0, s1].map B8) := hS
  simp only [← hgs']
  have cc0 : ((w.alloc (.cells #[.int .u8 (s0.toNat : Int), .int .u8 (s1.toNat : Int)] 71)).alloc (.cells (Q.map B8).toArray 22)).cell? ⟨gs, 0, none⟩ = some (.int .u8 (s0.toNat : Int)) := hS.cell 0
  have HBW := Lib.hid hbw
  clear hb0 hbw hgs' hgq'
  generalize (w.alloc (.cells #[.int .u8 (s0.toNat : Int), .int .u8 (s1.toNat : Int)] 71)).alloc (.cells (Q.map B8).toArray 22) = w1 at *
  clear hS hQb
  go_wp2
  go_ret2
  exact ⟨by rw [HZ.out] <;> rfl, HBW.out⟩
set_option maxRecDepth 100000 in
set_option maxHeartbeats 1000000 in
theorem rwrap_ok_16 (kind : Int) (s0 s1 : UInt8) (Q key sec : List UInt8) (n : Nat) (w : World) (hQ : Q.length = 16) (hn : key.length = n) (hn9 : n ≤ 1000000) (h2 : sec.length ≤ 1000000) (hk : kind = 16) (h0 : n ≠ 0) (h200 : ¬ 200 < n) (hs : ¬ s0.toNat < 128) :
    Calls Tryd.prog 41 #[.int .i64 kind, .string ⟨key.toArray⟩, .agg #[.int .u8 (s0.toNat : Int), .int .u8 (s1.toNat : Int)], .agg (Q.map B8).toArray, .string ⟨sec.toArray⟩] w (RWrapPost (wrapE kind s0 s1 key Q sec) w) := by
  subst hk
  obtain ⟨z, hz⟩ : ∃ z, z = UInt8.ofNat n := ⟨_, rfl⟩
  obtain ⟨N, hN⟩ : ∃ N, N = 16 * ((n + 16) / 16) := ⟨_, rfl⟩
  obtain ⟨y, hy⟩ : ∃ y, y = UInt8.ofNat (4 + N) := ⟨_, rfl⟩
  have hzn : IntKind.u8.wrap (key.length : Int) = (z.toNat : Int) := by rw [hz, ofNat_toNat _ (by omega), IntKind.wrap_u8]; omega
  have hhl := hideE_length sec (Q ++ [s0, s1]) (z :: key)
  have hwb : wrapB 16 s0 s1 key Q sec = [0, 0, 1, 55, 16, y, s0, s1] ++ hideE sec (Q ++ [s0, s1]) (z :: key) := by
    unfold wrapB; rw [hn, ← hz, hhl, hy, List.length_cons, hn, show n + 1 + 15 = n + 16 from rfl, ← hN]
  have HZ := Lib.hid (show wrapE 16 s0 s1 key Q sec = ([0, 0, 1, 55, 16, y, s0, s1] ++ hideE sec (Q ++ [s0, s1]) (z :: key), 0) by
    rw [← hwb]; unfold wrapE; rw [if_pos]; · rfl
    unfold mayW; simp [hn]; omega)
  generalize wrapE 16 s0 s1 key Q sec = E at *
  have HHE := Lib.hid (fun (W : World) => (show Calls Tryd.prog 60 #[.string ⟨sec.toArray⟩, .string ⟨(Q ++ [s0, s1]).toArray⟩, .string ⟨(z :: key).toArray⟩, .bool false] W fun e w' => e = .returned (.string ⟨(hideE sec (Q ++ [s0, s1]) (z :: key)).toArray⟩) ∧ Below W.heap.size W w' from
    refHide_false sec (Q ++ [s0, s1]) (z :: key) (padX (z :: key)) (((z :: key).length + 15) / 16) W h2 (by rw [List.length_append, hQ]; show 16 + 2 ≤ _; decide) (by rw [List.length_cons]; omega) rfl rfl))
  have hhl2 : (hideE sec (Q ++ [s0, s1]) (z :: key)).length = N := by rw [hhl, List.length_cons, hn, hN]
  have hd0 : ¬ (key.length : Int) < 1 := by omega
  have hd3 : ¬ (200 : Int) < (key.length : Int) := by omega
  have hd4 : ¬ (s0.toNat : Int) < 128 := by omega
  have hyn : IntKind.u8.wrap (4 + (N : Int)) = (y.toNat : Int) := by rw [hy, ofNat_toNat _ (by omega), IntKind.wrap_u8]; omega
  have hyw : wrap64 (4 + (N : Int)) = 4 + (N : Int) := by unfold wrap64; omega
  generalize hideE sec (Q ++ [s0, s1]) (z :: key) = hd at *
  have HHL := Lib.hid hhl2
  have HYN := Lib.hid (And.intro hyn (And.intro hyw (show N ≤ 300 by omega)))
  have HQ := Lib.hid hQ
  have hq1 : ¬ (9223372036854775807 < Q.length + 2) := by omega
  have hq2 : (⟨Q.toArray⟩ : ByteArray) ++ ⟨#[s0, s1]⟩ = ⟨(Q ++ [s0, s1]).toArray⟩ := bytes_add Q [s0, s1]
  have hq3 : ¬ (9223372036854775807 < 1 + key.length) := by omega
  have hq4 : (⟨#[z]⟩ : ByteArray) ++ ⟨key.toArray⟩ = ⟨(z :: key).toArray⟩ := bytes_add [z] key
  clear h0 h200 hs hn hQ h2 hN hz hy hhl hhl2 hwb hyn hyw
  go_enter Tryd.func41, Tryd.ntmps41
  go_upto_region 1 with (fail)
  have hS := (Blk.new_of w 71 #[.int .u8 (s0.toNat : Int), .int .u8 (s1.toNat : Int)] ([s0, s1].map B8) rfl).alloc (.cells (Q.map B8).toArray 22)
  have hQb := Blk.new2_of w (.cells #[.int .u8 (s0.toNat : Int), .int .u8 (s1.toNat : Int)] 71) 22 _ (Q.map B8) rfl
  have hb0 : Below w.heap.size w (w.alloc (.cells #[.int .u8 (s0.toNat : Int), .int .u8 (s1.toNat : Int)] 71)) := (Below.refl _ _).alloc (Nat.le_refl _) _
  have hbw := hb0.alloc hb0.size (.cells (Q.map B8).toArray 22)
  obtain ⟨gs, hgs'⟩ : ∃ gs, gs = w.heap.size := ⟨_, rfl⟩
  obtain ⟨gq, hgq'⟩ : ∃ gq, gq = w.heap.size + 1 := ⟨_, rfl⟩
  rw [← hgq'] at hQb ⊢
  rw [← hgs'] at hS
  replace hS : Blk ((w.alloc (.cells #[.int .u8 (s0.toNat : Int), .int .u8 (s1.toNat : Int)] 71)).alloc (.cells (Q.map B8).toArray 22)) gs 71 ([s0, s1].map B8) := hS
  simp only [← hgs']
  have cc0 : ((w.alloc (.cells #[.int .u8 (s0.toNat : Int), .int .u8 (s1.toNat : Int)] 71)).alloc (.cells (Q.map B8).toArray 22)).cell? ⟨gs, 0, none⟩ = some (.int .u8 (s0.toNat : Int)) := hS.cell 0
  have HBW := Lib.hid hbw
  clear hb0 hbw hgs' hgq'
  generalize (w.alloc (.cells #[.int .u8 (s0.toNat : Int), .int .u8 (s1.toNat : Int)] 71)).alloc (.cells (Q.map B8).toArray 22) = w1 at *
  have HCQ := Lib.hid (fun (W : World) (h : Below w1.heap.size w1 W) => conv_in (n := 16) HQ.out (in_up (in_blk (n := 16) hQb HQ.out (by decide)) h))
  have HCS := Lib.hid (fun (W : World) (h : Below w1.heap.size w1 W) => conv_in (n := 2) rfl (in_up (in_blk (n := 2) hS rfl (by decide)) h))
  have HS := Lib.hid hS
  clear hS hQb
  go_upto_region 3 with (fail)
  refine wp_region_noPanic ?_
  refine wp_region_held_drew (S := fun W => Below w1.heap.size w1 W) (by kernel_rfl) (by exact below_drewN (Below.refl _ _) 1) (fun hHeld => ?_)
  refine wpAnyH_take (i := 0) (oi := ⟨_, _, _, _, _, _⟩) (v := ?_) rfl (by kernel_rfl) (by kernel_rfl) (by kernel_rfl) (fun _ _ _ h => h) (Or.inl ⟨by rfl, ?_⟩) hHeld ?_
  rotate_left 1
  · (intro W hSw; (try dsimp only at hSw); go_simp; try with_reducible rfl)
  try simp only [Act.put, List.setIfInBounds_toArray, List.set_cons_zero, List.set_cons_succ]
  refine wpAnyH_take (i := 1) (oi := ⟨_, _, _, _, _, _⟩) (v := ?_) rfl (by kernel_rfl) (by kernel_rfl) (by kernel_rfl) (fun _ _ _ h => h) (Or.inl ⟨by rfl, ?_⟩) hHeld ?_
  rotate_left 1
  · (intro W hSw; (try dsimp only at hSw); go_simp; try with_reducible rfl)
  try simp only [Act.put, List.setIfInBounds_toArray, List.set_cons_zero, List.set_cons_succ]
  refine wpAnyH_take (i := 2) (oi := ⟨_, _, _, _, _, _⟩) (v := ?_) rfl (by kernel_rfl) (by kernel_rfl) (by kernel_rfl) (fun _ _ _ h => h) (Or.inl ⟨by rfl, ?_⟩) hHeld ?_
  rotate_left 1
  · (intro W hSw; (try dsimp only at hSw); have hcq := HCQ.out W hSw; go_simp; try with_reducible rfl)
  try simp only [Act.put, List.setIfInBounds_toArray, List.set_cons_zero, List.set_cons_succ]
  refine wpAnyH_take (i := 3) (oi := ⟨_, _, _, _, _, _⟩) (v := ?_) rfl (by kernel_rfl) (by kernel_rfl) (by kernel_rfl) (fun _ _ _ h => h) (Or.inl ⟨by rfl, ?_⟩) hHeld ?_
  rotate_left 1
  · (intro W hSw; (try dsimp only at hSw); go_simp; try with_reducible rfl)
  try simp only [Act.put, List.setIfInBounds_toArray, List.set_cons_zero, List.set_cons_succ]
  refine wpAnyH_take (i := 4) (oi := ⟨_, _, _, _, _, _⟩) (v := ?_) rfl (by kernel_rfl) (by kernel_rfl) (by kernel_rfl) (fun _ _ _ h => h) (Or.inl ⟨by rfl, ?_⟩) hHeld ?_
  rotate_left 1
  · (intro W hSw; (try dsimp only at hSw); have hcs := HCS.out W hSw; go_simp; try with_reducible rfl)
  try simp only [Act.put, List.setIfInBounds_toArray, List.set_cons_zero, List.set_cons_succ]
  refine wpAnyH_take (i := 5) (oi := ⟨_, _, _, _, _, _⟩) (v := ?_) rfl (by kernel_rfl) (by kernel_rfl) (by kernel_rfl) (fun _ _ _ h => h) (Or.inl ⟨by rfl, ?_⟩) hHeld ?_
  rotate_left 1
  · (intro W hSw; (try dsimp only at hSw); go_simp; try with_reducible rfl)
  try simp only [Act.put, List.setIfInBounds_toArray, List.set_cons_zero, List.set_cons_succ]
  refine wpAnyH_take (i := 6) (oi := ⟨_, _, _, _, _, _⟩) (v := ?_) rfl (by kernel_rfl) (by kernel_rfl) (by kernel_rfl) (fun _ _ _ h => h) (Or.inl ⟨by rfl, ?_⟩) hHeld ?_
  rotate_left 1
  · (intro W hSw; (try dsimp only at hSw); go_simp; try with_reducible rfl)
  try simp only [Act.put, List.setIfInBounds_toArray, List.set_cons_zero, List.set_cons_succ]
  refine wpAnyH_take (i := 7) (oi := ⟨_, _, _, _, _, _⟩) (v := ?_) rfl (by kernel_rfl) (by kernel_rfl) (by kernel_rfl) (fun _ _ _ h => h) (Or.inl ⟨by rfl, ?_⟩) hHeld ?_
  rotate_left 1
  · (intro W hSw; (try dsimp only at hSw); go_simp; try with_reducible rfl)
  try simp only [Act.put, List.setIfInBounds_toArray, List.set_cons_zero, List.set_cons_succ]
  refine wpAnyH_take (i := 8) (oi := ⟨_, _, _, _, _, _⟩) (v := ?_) rfl (by kernel_rfl) (by kernel_rfl) (by kernel_rfl) (fun _ _ _ h => h) (Or.inl ⟨by rfl, ?_⟩) hHeld ?_
  rotate_left 1
  · (intro W hSw; (try dsimp only at hSw); go_simp; try with_reducible rfl)
  try simp only [Act.put, List.setIfInBounds_toArray, List.set_cons_zero, List.set_cons_succ]
  refine wpAnyH_take (i := 11) (oi := ⟨_, _, _, _, _, _⟩) (v := ?_) rfl (by kernel_rfl) (by kernel_rfl) (by kernel_rfl) (fun _ _ _ h => h) (Or.inl ⟨by rfl, ?_⟩) hHeld ?_
  rotate_left 1
  · (intro W hSw; (try dsimp only at hSw); go_simp; try with_reducible rfl)
  try simp only [Act.put, List.setIfInBounds_toArray, List.set_cons_zero, List.set_cons_succ]
  replace hHeld : Below w1.heap.size w1 w1.drew := hHeld
  generalize w1.drew = wd at *
  refine wpAnyH_ready (rs := [9]) (by kernel_rfl) (by simp) ?_
  refine AllReadyH.cons (o := ⟨_, _, _, _, _, _⟩) rfl (fun K hK => ?_) AllReadyH.nil
  go_simp
  have hsz := hHeld.size
  refine hK.out _ _ (hHeld.alloc hsz _) (fun hHeld => ?_)
  clear hK K
  try simp only [Act.put, List.setIfInBounds_toArray, List.set_cons_zero, List.set_cons_succ]
  refine wpAnyH_ready (rs := [10]) (by kernel_rfl) (by simp) ?_
  refine AllReadyH.cons (o := ⟨_, _, _, _, _, _⟩) rfl (fun K hK => ?_) AllReadyH.nil
  have hcv : (convert 26 9 (.slice (some ⟨wd.heap.size, 0, none⟩) 1 1)).run Tryd.prog (wd.alloc (.cells #[.int .u8 (z.toNat : Int)] 5)) = .ok (.string ⟨#[z]⟩) (wd.alloc (.cells #[.int .u8 (z.toNat : Int)] 5)) := conv_in (y := [z]) (n := 1) rfl ((buf_lit wd [z] 1 5 rfl (by decide)).toIn (Nat.le_refl _))
  go_simp
  refine hK.out _ _ hHeld (fun hHeld => ?_)
  clear hK K hcv
  generalize wd.alloc (.cells #[.int .u8 (z.toNat : Int)] 5) = w2 at *
  try simp only [Act.put, List.setIfInBounds_toArray, List.set_cons_zero, List.set_cons_succ]
  refine wpAnyH_take (i := 12) (oi := ⟨_, _, _, _, _, _⟩) (v := ?_) rfl (by kernel_rfl) (by kernel_rfl) (by kernel_rfl) (fun _ _ _ h => h) (Or.inl ⟨by rfl, ?_⟩) hHeld ?_
  rotate_left 1
  · (intro W hSw; (try dsimp only at hSw); go_simp; try with_reducible rfl)
  try simp only [Act.put, List.setIfInBounds_toArray, List.set_cons_zero, List.set_cons_succ]
  refine wpAnyH_ready (rs := [13]) (by kernel_rfl) (by simp) ?_
  refine AllReadyH.cons (o := ⟨_, _, _, _, _, _⟩) rfl (fun K hK => ?_) AllReadyH.nil
  go_simp
  go_at_call 60
  refine (HHE.out _).mono ?_
  rintro e w3 ⟨rfl, hb3⟩
  try go_wp2_with fail
  have hsz2 := hHeld.size
  refine hK.out _ _ (hHeld.trans (hb3.mono hsz2)) (fun hHeld => ?_)
  clear hK K hb3 hsz hsz2
  try simp only [Act.put, List.setIfInBounds_toArray, List.set_cons_zero, List.set_cons_succ]
  refine wpAnyH_take (i := 14) (oi := ⟨_, _, _, _, _, _⟩) (v := ?_) rfl (by kernel_rfl) (by kernel_rfl) (by kernel_rfl) (fun _ _ _ h => h) (Or.inl ⟨by rfl, ?_⟩) hHeld ?_
  rotate_left 1
  · (intro W hSw; (try dsimp only at hSw); go_simp; try with_reducible rfl)
  try simp only [Act.put, List.setIfInBounds_toArray, List.set_cons_zero, List.set_cons_succ]
  refine wpAnyH_done (by kernel_rfl) ?_ _
  refine NoPanic.normal ?_
  replace hHeld : Below w1.heap.size w1 w3 := hHeld
  have HB3 := Lib.hid hHeld
  have hhn : (hd.length : Int) = (N : Int) := by rw [HHL.out]
  obtain ⟨hyn, hyw, hN3⟩ := HYN.out
  have hyi : IntKind.i64.wrap (4 + (N : Int)) = 4 + (N : Int) := ix_n4 hN3
  have hh8 : ¬ (9223372036854775807 < 8 + hd.length) := ix_n8 HHL.out hN3
  clear hN3
  have hk8 : IntKind.u8.wrap 16 = 16 := by decide
  have hr1 : (⟨#[0, 0, 1, 55]⟩ : ByteArray) ++ ⟨#[16, y]⟩ = ⟨#[0, 0, 1, 55, 16, y]⟩ := bytes_add [0, 0, 1, 55] [16, y]
  have hr2 : (⟨#[0, 0, 1, 55, 16, y]⟩ : ByteArray) ++ ⟨#[s0, s1]⟩ = ⟨#[0, 0, 1, 55, 16, y, s0, s1]⟩ := bytes_add [0, 0, 1, 55, 16, y] [s0, s1]
  have hr3 : (⟨#[0, 0, 1, 55, 16, y, s0, s1]⟩ : ByteArray) ++ ⟨hd.toArray⟩ = ⟨([0, 0, 1, 55, 16, y, s0, s1] ++ hd).toArray⟩ := bytes_add [0, 0, 1, 55, 16, y, s0, s1] hd
  clear hHeld hq1 hq2 hq3 hq4 hzn hd0 hd3 hd4
  go_upto_region 4 with (fail)
  refine wp_region_noPanic ?_
  refine wp_region_held_drew (S := fun W => Below w3.heap.size w3 W) (by kernel_rfl) (by exact below_drewN (Below.refl _ _) 1) (fun hHeld => ?_)
  refine wpAnyH_take (i := 0) (oi := ⟨_, _, _, _, _, _⟩) (v := ?_) rfl (by kernel_rfl) (by kernel_rfl) (by kernel_rfl) (fun _ _ _ h => h) (Or.inl ⟨by rfl, ?_⟩) hHeld ?_
  rotate_left 1
  · (intro W hSw; (try dsimp only at hSw); go_simp; try with_reducible rfl)
  try simp only [Act.put, List.setIfInBounds_toArray, List.set_cons_zero, List.set_cons_succ]
  refine wpAnyH_take (i := 1) (oi := ⟨_, _, _, _, _, _⟩) (v := ?_) rfl (by kernel_rfl) (by kernel_rfl) (by kernel_rfl) (fun _ _ _ h => h) (Or.inl ⟨by rfl, ?_⟩) hHeld ?_
  rotate_left 1
  · (intro W hSw; (try dsimp only at hSw); go_simp; try with_reducible rfl)
  try simp only [Act.put, List.setIfInBounds_toArray, List.set_cons_zero, List.set_cons_succ]
  refine wpAnyH_take (i := 2) (oi := ⟨_, _, _, _, _, _⟩) (v := ?_) rfl (by kernel_rfl) (by kernel_rfl) (by kernel_rfl) (fun _ _ _ h => h) (Or.inl ⟨by rfl, ?_⟩) hHeld ?_
  rotate_left 1
  · (intro W hSw; (try dsimp only at hSw); go_simp; try with_reducible rfl)
  try simp only [Act.put, List.setIfInBounds_toArray, List.set_cons_zero, List.set_cons_succ]
  refine wpAnyH_take (i := 3) (oi := ⟨_, _, _, _, _, _⟩) (v := ?_) rfl (by kernel_rfl) (by kernel_rfl) (by kernel_rfl) (fun _ _ _ h => h) (Or.inl ⟨by rfl, ?_⟩) hHeld ?_
  rotate_left 1
  · (intro W hSw; (try dsimp only at hSw); go_simp; try with_reducible rfl)
  try simp only [Act.put, List.setIfInBounds_toArray, List.set_cons_zero, List.set_cons_succ]
  refine wpAnyH_take (i := 4) (oi := ⟨_, _, _, _, _, _⟩) (v := ?_) rfl (by kernel_rfl) (by kernel_rfl) (by kernel_rfl) (fun _ _ _ h => h) (Or.inl ⟨by rfl, ?_⟩) hHeld ?_
  rotate_left 1
  · (intro W hSw; (try dsimp only at hSw); go_simp; try with_reducible rfl)
  try simp only [Act.put, List.setIfInBounds_toArray, List.set_cons_zero, List.set_cons_succ]
  refine wpAnyH_take (i := 5) (oi := ⟨_, _, _, _, _, _⟩) (v := ?_) rfl (by kernel_rfl) (by kernel_rfl) (by kernel_rfl) (fun _ _ _ h => h) (Or.inl ⟨by rfl, ?_⟩) hHeld ?_
  rotate_left 1
  · (intro W hSw; (try dsimp only at hSw); go_simp; try with_reducible rfl)
  try simp only [Act.put, List.setIfInBounds_toArray, List.set_cons_zero, List.set_cons_succ]
  refine wpAnyH_take (i := 9) (oi := ⟨_, _, _, _, _, _⟩) (v := ?_) rfl (by kernel_rfl) (by kernel_rfl) (by kernel_rfl) (fun _ _ _ h => h) (Or.inl ⟨by rfl, ?_⟩) hHeld ?_
  rotate_left 1
  · (intro W hSw; (try dsimp only at hSw); go_simp; try with_reducible rfl)
  try simp only [Act.put, List.setIfInBounds_toArray, List.set_cons_zero, List.set_cons_succ]
  refine wpAnyH_take (i := 10) (oi := ⟨_, _, _, _, _, _⟩) (v := ?_) rfl (by kernel_rfl) (by kernel_rfl) (by kernel_rfl) (fun _ _ _ h => h) (Or.inl ⟨by rfl, ?_⟩) hHeld ?_
  rotate_left 1
  · (intro W hSw; (try dsimp only at hSw); have hcs := HCS.out W (HB3.out.trans (hSw.mono HB3.out.size)); go_simp; try with_reducible rfl)
  try simp only [Act.put, List.setIfInBounds_toArray, List.set_cons_zero, List.set_cons_succ]
  refine wpAnyH_take (i := 12) (oi := ⟨_, _, _, _, _, _⟩) (v := ?_) rfl (by kernel_rfl) (by kernel_rfl) (by kernel_rfl) (fun _ _ _ h => h) (Or.inl ⟨by rfl, ?_⟩) hHeld ?_
  rotate_left 1
  · (intro W hSw; (try dsimp only at hSw); go_simp; try with_reducible rfl)
  try simp only [Act.put, List.setIfInBounds_toArray, List.set_cons_zero, List.set_cons_succ]
  replace hHeld : Below w3.heap.size w3 w3.drew := hHeld
  generalize w3.drew = wd at *
  refine wpAnyH_ready (rs := [6]) (by kernel_rfl) (by simp) ?_
  refine AllReadyH.cons (o := ⟨_, _, _, _, _, _⟩) rfl (fun K hK => ?_) AllReadyH.nil
  go_simp
  have hsz := hHeld.size
  refine hK.out _ _ (hHeld.alloc hsz _) (fun hHeld => ?_)
  clear hK K
  try simp only [Act.put, List.setIfInBounds_toArray, List.set_cons_zero, List.set_cons_succ]
  refine wpAnyH_ready (rs := [7]) (by kernel_rfl) (by simp) ?_
  refine AllReadyH.cons (o := ⟨_, _, _, _, _, _⟩) rfl (fun K hK => ?_) AllReadyH.nil
  have hcv : (convert 26 9 (.slice (some ⟨wd.heap.size, 0, none⟩) 2 2)).run Tryd.prog (wd.alloc (.cells #[.int .u8 16, .int .u8 (y.toNat : Int)] 5)) = .ok (.string ⟨#[16, y]⟩) (wd.alloc (.cells #[.int .u8 16, .int .u8 (y.toNat : Int)] 5)) := conv_in (y := [16, y]) (n := 2) rfl ((buf_lit wd [16, y] 2 5 rfl (by decide)).toIn (Nat.le_refl _))
  go_simp
  refine hK.out _ _ hHeld (fun hHeld => ?_)
  clear hK K hcv
  generalize wd.alloc (.cells #[.int .u8 16, .int .u8 (y.toNat : Int)] 5) = w4 at *
  try simp only [Act.put, List.setIfInBounds_toArray, List.set_cons_zero, List.set_cons_succ]
  refine wpAnyH_take (i := 8) (oi := ⟨_, _, _, _, _, _⟩) (v := ?_) rfl (by kernel_rfl) (by kernel_rfl) (by kernel_rfl) (fun _ _ _ h => h) (Or.inl ⟨by rfl, ?_⟩) hHeld ?_
  rotate_left 1
  · (intro W hSw; (try dsimp only at hSw); go_simp; try with_reducible rfl)
  try simp only [Act.put, List.setIfInBounds_toArray, List.set_cons_zero, List.set_cons_succ]
  refine wpAnyH_take (i := 11) (oi := ⟨_, _, _, _, _, _⟩) (v := ?_) rfl (by kernel_rfl) (by kernel_rfl) (by kernel_rfl) (fun _ _ _ h => h) (Or.inl ⟨by rfl, ?_⟩) hHeld ?_
  rotate_left 1
  · (intro W hSw; (try dsimp only at hSw); go_simp; try with_reducible rfl)
  try simp only [Act.put, List.setIfInBounds_toArray, List.set_cons_zero, List.set_cons_succ]
  refine wpAnyH_take (i := 13) (oi := ⟨_, _, _, _, _, _⟩) (v := ?_) rfl (by kernel_rfl) (by kernel_rfl) (by kernel_rfl) (fun _ _ _ h => h) (Or.inl ⟨by rfl, ?_⟩) hHeld ?_
  rotate_left 1
  · (intro W hSw; (try dsimp only at hSw); go_simp; try with_reducible rfl)
  try simp only [Act.put, List.setIfInBounds_toArray, List.set_cons_zero, List.set_cons_succ]
  refine wpAnyH_take (i := 14) (oi := ⟨_, _, _, _, _, _⟩) (v := ?_) rfl (by kernel_rfl) (by kernel_rfl) (by kernel_rfl) (fun _ _ _ h => h) (Or.inl ⟨by rfl, ?_⟩) hHeld ?_
  rotate_left 1
  · (intro W hSw; (try dsimp only at hSw); go_simp; try with_reducible rfl)
  try simp only [Act.put, List.setIfInBounds_toArray, List.set_cons_zero, List.set_cons_succ]
  refine wpAnyH_take (i := 15) (oi := ⟨_, _, _, _, _, _⟩) (v := ?_) rfl (by kernel_rfl) (by kernel_rfl) (by kernel_rfl) (fun _ _ _ h => h) (Or.inl ⟨by rfl, ?_⟩) hHeld ?_
  rotate_left 1
  · (intro W hSw; (try dsimp only at hSw); go_simp; try with_reducible rfl)
  try simp only [Act.put, List.setIfInBounds_toArray, List.set_cons_zero, List.set_cons_succ]
  refine wpAnyH_done (by kernel_rfl) ?_ _
  refine NoPanic.normal ?_
  replace hHeld : Below w3.heap.size w3 w4 := hHeld
  have hbe := HBW.out.trans ((HB3.out.trans (hHeld.mono HB3.out.size)).mono HBW.out.size)
  clear hHeld
  go_wp2
  go_ret2
  exact ⟨by rw [HZ.out] <;> rfl, hbe⟩
set_option maxRecDepth 100000 in
set_option maxHeartbeats 1000000 in
theorem rwrap_ok_17 (kind : Int) (s0 s1 : UInt8) (Q key sec : List UInt8) (n : Nat) (w : World) (hQ : Q.length = 16) (hn : key.length = n) (hn9 : n ≤ 1000000) (h2 : sec.length ≤ 1000000) (hk : kind = 17) (h0 : n ≠ 0) (h200 : ¬ 200 < n) (hs : ¬ s0.toNat < 128) :
    Calls Tryd.prog 41 #[.int .i64 kind, .string ⟨key.toArray⟩, .agg #[.int .u8 (s0.toNat : Int), .int .u8 (s1.toNat : Int)], .agg (Q.map B8).toArray, .string ⟨sec.toArray⟩] w (RWrapPost (wrapE kind s0 s1 key Q sec) w) := by
  subst hk
  obtain ⟨z, hz⟩ : ∃ z, z = UInt8.ofNat n := ⟨_, rfl⟩
  obtain ⟨N, hN⟩ : ∃ N, N = 16 * ((n + 16) / 16) := ⟨_, rfl⟩
  obtain ⟨y, hy⟩ : ∃ y, y = UInt8.ofNat (4 + N) := ⟨_, rfl⟩
  have hzn : IntKind.u8.wrap (key.length : Int) = (z.toNat : Int) := by rw [hz, ofNat_toNat _ (by omega), IntKind.wrap_u8]; omega
  have hhl := hideE_length sec (Q ++ [s0, s1]) (z :: key)
  have hwb : wrapB 17 s0 s1 key Q sec = [0, 0, 1, 55, 17, y, s0, s1] ++ hideE sec (Q ++ [s0, s1]) (z :: key) := by
    unfold wrapB; rw [hn, ← hz, hhl, hy, List.length_cons, hn, show n + 1 + 15 = n + 16 from rfl, ← hN]
  have HZ := Lib.hid (show wrapE 17 s0 s1 key Q sec = ([0, 0, 1, 55, 17, y, s0, s1] ++ hideE sec (Q ++ [s0, s1]) (z :: key), 0) by
    rw [← hwb]; unfold wrapE; rw [if_pos]; · rfl
    unfold mayW; simp [hn]; omega)
  generalize wrapE 17 s0 s1 key Q sec = E at *
  have HHE := Lib.hid (fun (W : World) => (show Calls Tryd.prog 60 #[.string ⟨sec.toArray⟩, .string ⟨(Q ++ [s0, s1]).toArray⟩, .string ⟨(z :: key).toArray⟩, .bool false] W fun e w' => e = .returned (.string ⟨(hideE sec (Q ++ [s0, s1]) (z :: key)).toArray⟩) ∧ Below W.heap.size W w' from
    refHide_false sec (Q ++ [s0, s1]) (z :: key) (padX (z :: key)) (((z :: key).length + 15) / 16) W h2 (by rw [List.length_append, hQ]; show 16 + 2 ≤ _; decide) (by rw [List.length_cons]; omega) rfl rfl))
  have hhl2 : (hideE sec (Q ++ [s0, s1]) (z :: key)).length = N := by rw [hhl, List.length_cons, hn, hN]
  have hd0 : ¬ (key.length : Int) < 1 := by omega
  have hd3 : ¬ (200 : Int) < (key.length : Int) := by omega
  have hd4 : ¬ (s0.toNat : Int) < 128 := by omega
  have hyn : IntKind.u8.wrap (4 + (N : Int)) = (y.toNat : Int) := by rw [hy, ofNat_toNat _ (by omega), IntKind.wrap_u8]; omega
  have hyw : wrap64 (4 + (N : Int)) = 4 + (N : Int) := by unfold wrap64; omega
  generalize hideE sec (Q ++ [s0, s1]) (z :: key) = hd at *
  have HHL := Lib.hid hhl2
  have HYN := Lib.hid (And.intro hyn (And.intro hyw (show N ≤ 300 by omega)))
  have HQ := Lib.hid hQ
  have hq1 : ¬ (9223372036854775807 < Q.length + 2) := by omega
  have hq2 : (⟨Q.toArray⟩ : ByteArray) ++ ⟨#[s0, s1]⟩ = ⟨(Q ++ [s0, s1]).toArray⟩ := bytes_add Q [s0, s1]
  have hq3 : ¬ (9223372036854775807 < 1 + key.length) := by omega
  have hq4 : (⟨#[z]⟩ : ByteArray) ++ ⟨key.toArray⟩ = ⟨(z :: key).toArray⟩ := bytes_add [z] key
  clear h0 h200 hs hn hQ h2 hN hz hy hhl hhl2 hwb hyn hyw
  go_enter Tryd.func41, Tryd.ntmps41
  go_upto_region 1 with (fail)
  have hS := (Blk.new_of w 71 #[.int .u8 (s0.toNat : Int), .int .u8 (s1.toNat : Int)] ([s0, s1].map B8) rfl).alloc (.cells (Q.map B8).toArray 22)
  have hQb := Blk.new2_of w (.cells #[.int .u8 (s0.toNat : Int), .int .u8 (s1.toNat : Int)] 71) 22 _ (Q.map B8) rfl
  have hb0 : Below w.heap.size w (w.alloc (.cells #[.int .u8 (s0.toNat : Int), .int .u8 (s1.toNat : Int)] 71)) := (Below.refl _ _).alloc (Nat.le_refl _) _
  have hbw := hb0.alloc hb0.size (.cells (Q.map B8).toArray 22)
  obtain ⟨gs, hgs'⟩ : ∃ gs, gs = w.heap.size := ⟨_, rfl⟩
  obtain ⟨gq, hgq'⟩ : ∃ gq, gq = w.heap.size + 1 := ⟨_, rfl⟩
  rw [← hgq'] at hQb ⊢
  rw [← hgs'] at hS
  replace hS : Blk ((w.alloc (.cells #[.int .u8 (s0.toNat : Int), .int .u8 (s1.toNat : Int)] 71)).alloc (.cells (Q.map B8).toArray 22)) gs 71 ([s0, s1].map B8) := hS
  simp only [← hgs']
  have cc0 : ((w.alloc (.cells #[.int .u8 (s0.toNat : Int), .int .u8 (s1.toNat : Int)] 71)).alloc (.cells (Q.map B8).toArray 22)).cell? ⟨gs, 0, none⟩ = some (.int .u8 (s0.toNat : Int)) := hS.cell 0
  have HBW := Lib.hid hbw
  clear hb0 hbw hgs' hgq'
  generalize (w.alloc (.cells #[.int .u8 (s0.toNat : Int), .int .u8 (s1.toNat : Int)] 71)).alloc (.cells (Q.map B8).toArray 22) = w1 at *
  have HCQ := Lib.hid (fun (W : World) (h : Below w1.heap.size w1 W) => conv_in (n := 16) HQ.out (in_up (in_blk (n := 16) hQb HQ.out (by decide)) h))
  have HCS := Lib.hid (fun (W : World) (h : Below w1.heap.size w1 W) => conv_in (n := 2) rfl (in_up (in_blk (n := 2) hS rfl (by decide)) h))
  have HS := Lib.hid hS
  clear hS hQb
  go_upto_region 3 with (fail)
  refine wp_region_noPanic ?_
  refine wp_region_held_drew (S := fun W => Below w1.heap.size w1 W) (by kernel_rfl) (by exact below_drewN (Below.refl _ _) 1) (fun hHeld => ?_)
  refine wpAnyH_take (i := 0) (oi := ⟨_, _, _, _, _, _⟩) (v := ?_) rfl (by kernel_rfl) (by kernel_rfl) (by kernel_rfl) (fun _ _ _ h => h) (Or.inl ⟨by rfl, ?_⟩) hHeld ?_
  rotate_left 1
  · (intro W hSw; (try dsimp only at hSw); go_simp; try with_reducible rfl)
  try simp only [Act.put, List.setIfInBounds_toArray, List.set_cons_zero, List.set_cons_succ]
  refine wpAnyH_take (i := 1) (oi := ⟨_, _, _, _, _, _⟩) (v := ?_) rfl (by kernel_rfl) (by kernel_rfl) (by kernel_rfl) (fun _ _ _ h => h) (Or.inl ⟨by rfl, ?_⟩) hHeld ?_
  rotate_left 1
  · (intro W hSw; (try dsimp only at hSw); go_simp; try with_reducible rfl)
  try simp only [Act.put, List.setIfInBounds_toArray, List.set_cons_zero, List.set_cons_succ]
  refine wpAnyH_take (i := 2) (oi := ⟨_, _, _, _, _, _⟩) (v := ?_) rfl (by kernel_rfl) (by kernel_rfl) (by kernel_rfl) (fun _ _ _ h => h) (Or.inl ⟨by rfl, ?_⟩) hHeld ?_
  rotate_left 1
  · (intro W hSw; (try dsimp only at hSw); have hcq := HCQ.out W hSw; go_simp; try with_reducible rfl)
  try simp only [Act.put, List.setIfInBounds_toArray, List.set_cons_zero, List.set_cons_succ]
  refine wpAnyH_take (i := 3) (oi := ⟨_, _, _, _, _, _⟩) (v := ?_) rfl (by kernel_rfl) (by kernel_rfl) (by kernel_rfl) (fun _ _ _ h => h) (Or.inl ⟨by rfl, ?_⟩) hHeld ?_
  rotate_left 1
  · (intro W hSw; (try dsimp only at hSw); go_simp; try with_reducible rfl)
  try simp only [Act.put, List.setIfInBounds_toArray, List.set_cons_zero, List.set_cons_succ]
  refine wpAnyH_take (i := 4) (oi := ⟨_, _, _, _, _, _⟩) (v := ?_) rfl (by kernel_rfl) (by kernel_rfl) (by kernel_rfl) (fun _ _ _ h => h) (Or.inl ⟨by rfl, ?_⟩) hHeld ?_
  rotate_left 1
  · (intro W hSw; (try dsimp only at hSw); have hcs := HCS.out W hSw; go_simp; try with_reducible rfl)
  try simp only [Act.put, List.setIfInBounds_toArray, List.set_cons_zero, List.set_cons_succ]
  refine wpAnyH_take (i := 5) (oi := ⟨_, _, _, _, _, _⟩) (v := ?_) rfl (by kernel_rfl) (by kernel_rfl) (by kernel_rfl) (fun _ _ _ h => h) (Or.inl ⟨by rfl, ?_⟩) hHeld ?_
  rotate_left 1
  · (intro W hSw; (try dsimp only at hSw); go_simp; try with_reducible rfl)
  try simp only [Act.put, List.setIfInBounds_toArray, List.set_cons_zero, List.set_cons_succ]
  refine wpAnyH_take (i := 6) (oi := ⟨_, _, _, _, _, _⟩) (v := ?_) rfl (by kernel_rfl) (by kernel_rfl) (by kernel_rfl) (fun _ _ _ h => h) (Or.inl ⟨by rfl, ?_⟩) hHeld ?_
  rotate_left 1
  · (intro W hSw; (try dsimp only at hSw); go_simp; try with_reducible rfl)
  try simp only [Act.put, List.setIfInBounds_toArray, List.set_cons_zero, List.set_cons_succ]
  refine wpAnyH_take (i := 7) (oi := ⟨_, _, _, _, _, _⟩) (v := ?_) rfl (by kernel_rfl) (by kernel_rfl) (by kernel_rfl) (fun _ _ _ h => h) (Or.inl ⟨by rfl, ?_⟩) hHeld ?_
  rotate_left 1
  · (intro W hSw; (try dsimp only at hSw); go_simp; try with_reducible rfl)
  try simp only [Act.put, List.setIfInBounds_toArray, List.set_cons_zero, List.set_cons_succ]
  refine wpAnyH_take (i := 8) (oi := ⟨_, _, _, _, _, _⟩) (v := ?_) rfl (by kernel_rfl) (by kernel_rfl) (by kernel_rfl) (fun _ _ _ h => h) (Or.inl ⟨by rfl, ?_⟩) hHeld ?_
  rotate_left 1
  · (intro W hSw; (try dsimp only at hSw); go_simp; try with_reducible rfl)
  try simp only [Act.put, List.setIfInBounds_toArray, List.set_cons_zero, List.set_cons_succ]
  refine wpAnyH_take (i := 11) (oi := ⟨_, _, _, _, _, _⟩) (v := ?_) rfl (by kernel_rfl) (by kernel_rfl) (by kernel_rfl) (fun _ _ _ h => h) (Or.inl ⟨by rfl, ?_⟩) hHeld ?_
  rotate_left 1
  · (intro W hSw; (try dsimp only at hSw); go_simp; try with_reducible rfl)
  try simp only [Act.put, List.setIfInBounds_toArray, List.set_cons_zero, List.set_cons_succ]
  replace hHeld : Below w1.heap.size w1 w1.drew := hHeld
  generalize w1.drew = wd at *
  refine wpAnyH_ready (rs := [9]) (by kernel_rfl) (by simp) ?_
  refine AllReadyH.cons (o := ⟨_, _, _, _, _, _⟩) rfl (fun K hK => ?_) AllReadyH.nil
  go_simp
  have hsz := hHeld.size
  refine hK.out _ _ (hHeld.alloc hsz _) (fun hHeld => ?_)
  clear hK K
  try simp only [Act.put, List.setIfInBounds_toArray, List.set_cons_zero, List.set_cons_succ]
  refine wpAnyH_ready (rs := [10]) (by kernel_rfl) (by simp) ?_
  refine AllReadyH.cons (o := ⟨_, _, _, _, _, _⟩) rfl (fun K hK => ?_) AllReadyH.nil
  have hcv : (convert 26 9 (.slice (some ⟨wd.heap.size, 0, none⟩) 1 1)).run Tryd.prog (wd.alloc (.cells #[.int .u8 (z.toNat : Int)] 5)) = .ok (.string ⟨#[z]⟩) (wd.alloc (.cells #[.int .u8 (z.toNat : Int)] 5)) := conv_in (y := [z]) (n := 1) rfl ((buf_lit wd [z] 1 5 rfl (by decide)).toIn (Nat.le_refl _))
  go_simp
  refine hK.out _ _ hHeld (fun hHeld => ?_)
  clear hK K hcv
  generalize wd.alloc (.cells #[.int .u8 (z.toNat : Int)] 5) = w2 at *
  try simp only [Act.put, List.setIfInBounds_toArray, List.set_cons_zero, List.set_cons_succ]
  refine wpAnyH_take (i := 12) (oi := ⟨_, _, _, _, _, _⟩) (v := ?_) rfl (by kernel_rfl) (by kernel_rfl) (by kernel_rfl) (fun _ _ _ h => h) (Or.inl ⟨by rfl, ?_⟩) hHeld ?_
  rotate_left 1
  · (intro W hSw; (try dsimp only at hSw); go_simp; try with_reducible rfl)
  try simp only [Act.put, List.setIfInBounds_toArray, List.set_cons_zero, List.set_cons_succ]
  refine wpAnyH_ready (rs := [13]) (by kernel_rfl) (by simp) ?_
  refine AllReadyH.cons (o := ⟨_, _, _, _, _, _⟩) rfl (fun K hK => ?_) AllReadyH.nil
  go_simp
  go_at_call 60
  refine (HHE.out _).mono ?_
  rintro e w3 ⟨rfl, hb3⟩
  try go_wp2_with fail
  have hsz2 := hHeld.size
  refine hK.out _ _ (hHeld.trans (hb3.mono hsz2)) (fun hHeld => ?_)
  clear hK K hb3 hsz hsz2
  try simp only [Act.put, List.setIfInBounds_toArray, List.set_cons_zero, List.set_cons_succ]
  refine wpAnyH_take (i := 14) (oi := ⟨_, _, _, _, _, _⟩) (v := ?_) rfl (by kernel_rfl) (by kernel_rfl) (by kernel_rfl) (fun _ _ _ h => h) (Or.inl ⟨by rfl, ?_⟩) hHeld ?_
  rotate_left 1
  · (intro W hSw; (try dsimp only at hSw); go_simp; try with_reducible rfl)
  try simp only [Act.put, List.setIfInBounds_toArray, List.set_cons_zero, List.set_cons_succ]
  refine wpAnyH_done (by kernel_rfl) ?_ _
  refine NoPanic.normal ?_
  replace hHeld : Below w1.heap.size w1 w3 := hHeld
  have HB3 := Lib.hid hHeld
  have hhn : (hd.length : Int) = (N : Int) := by rw [HHL.out]
  obtain ⟨hyn, hyw, hN3⟩ := HYN.out
  have hyi : IntKind.i64.wrap (4 + (N : Int)) = 4 + (N : Int) := ix_n4 hN3
  have hh8 : ¬ (9223372036854775807 < 8 + hd.length) := ix_n8 HHL.out hN3
  clear hN3
  have hk8 : IntKind.u8.wrap 17 = 17 := by decide
  have hr1 : (⟨#[0, 0, 1, 55]⟩ : ByteArray) ++ ⟨#[17, y]⟩ = ⟨#[0, 0, 1, 55, 17, y]⟩ := bytes_add [0, 0, 1, 55] [17, y]
  have hr2 : (⟨#[0, 0, 1, 55, 17, y]⟩ : ByteArray) ++ ⟨#[s0, s1]⟩ = ⟨#[0, 0, 1, 55, 17, y, s0, s1]⟩ := bytes_add [0, 0, 1, 55, 17, y] [s0, s1]
  have hr3 : (⟨#[0, 0, 1, 55, 17, y, s0, s1]⟩ : ByteArray) ++ ⟨hd.toArray⟩ = ⟨([0, 0, 1, 55, 17, y, s0, s1] ++ hd).toArray⟩ := bytes_add [0, 0, 1, 55, 17, y, s0, s1] hd
  clear hHeld hq1 hq2 hq3 hq4 hzn hd0 hd3 hd4
  go_upto_region 4 with (fail)
  refine wp_region_noPanic ?_
  refine wp_region_held_drew (S := fun W => Below w3.heap.size w3 W) (by kernel_rfl) (by exact below_drewN (Below.refl _ _) 1) (fun hHeld => ?_)
  refine wpAnyH_take (i := 0) (oi := ⟨_, _, _, _, _, _⟩) (v := ?_) rfl (by kernel_rfl) (by kernel_rfl) (by kernel_rfl) (fun _ _ _ h => h) (Or.inl ⟨by rfl, ?_⟩) hHeld ?_
  rotate_left 1
  · (intro W hSw; (try dsimp only at hSw); go_simp; try with_reducible rfl)
  try simp only [Act.put, List.setIfInBounds_toArray, List.set_cons_zero, List.set_cons_succ]
  refine wpAnyH_take (i := 1) (oi := ⟨_, _, _, _, _, _⟩) (v := ?_) rfl (by kernel_rfl) (by kernel_rfl) (by kernel_rfl) (fun _ _ _ h => h) (Or.inl ⟨by rfl, ?_⟩) hHeld ?_
  rotate_left 1
  · (intro W hSw; (try dsimp only at hSw); go_simp; try with_reducible rfl)
  try simp only [Act.put, List.setIfInBounds_toArray, List.set_cons_zero, List.set_cons_succ]
  refine wpAnyH_take (i := 2) (oi := ⟨_, _, _, _, _, _⟩) (v := ?_) rfl (by kernel_rfl) (by kernel_rfl) (by kernel_rfl) (fun _ _ _ h => h) (Or.inl ⟨by rfl, ?_⟩) hHeld ?_
  rotate_left 1
  · (intro W hSw; (try dsimp only at hSw); go_simp; try with_reducible rfl)
  try simp only [Act.put, List.setIfInBounds_toArray, List.set_cons_zero, List.set_cons_succ]
  refine wpAnyH_take (i := 3) (oi := ⟨_, _, _, _, _, _⟩) (v := ?_) rfl (by kernel_rfl) (by kernel_rfl) (by kernel_rfl) (fun _ _ _ h => h) (Or.inl ⟨by rfl, ?_⟩) hHeld ?_
  rotate_left 1
  · (intro W hSw; (try dsimp only at hSw); go_simp; try with_reducible rfl)
  try simp only [Act.put, List.setIfInBounds_toArray, List.set_cons_zero, List.set_cons_succ]
  refine wpAnyH_take (i := 4) (oi := ⟨_, _, _, _, _, _⟩) (v := ?_) rfl (by kernel_rfl) (by kernel_rfl) (by kernel_rfl) (fun _ _ _ h => h) (Or.inl ⟨by rfl, ?_⟩) hHeld ?_
  rotate_left 1
  · (intro W hSw; (try dsimp only at hSw); go_simp; try with_reducible rfl)
  try simp only [Act.put, List.setIfInBounds_toArray, List.set_cons_zero, List.set_cons_succ]
  refine wpAnyH_take (i := 5) (oi := ⟨_, _, _, _, _, _⟩) (v := ?_) rfl (by kernel_rfl) (by kernel_rfl) (by kernel_rfl) (fun _ _ _ h => h) (Or.inl ⟨by rfl, ?_⟩) hHeld ?_
  rotate_left 1
  · (intro W hSw; (try dsimp only at hSw); go_simp; try with_reducible rfl)
  try simp only [Act.put, List.setIfInBounds_toArray, List.set_cons_zero, List.set_cons_succ]
  refine wpAnyH_take (i := 9) (oi := ⟨_, _, _, _, _, _⟩) (v := ?_) rfl (by kernel_rfl) (by kernel_rfl) (by kernel_rfl) (fun _ _ _ h => h) (Or.inl ⟨by rfl, ?_⟩) hHeld ?_
  rotate_left 1
  · (intro W hSw; (try dsimp only at hSw); go_simp; try with_reducible rfl)
  try simp only [Act.put, List.setIfInBounds_toArray, List.set_cons_zero, List.set_cons_succ]
  refine wpAnyH_take (i := 10) (oi := ⟨_, _, _, _, _, _⟩) (v := ?_) rfl (by kernel_rfl) (by kernel_rfl) (by kernel_rfl) (fun _ _ _ h => h) (Or.inl ⟨by rfl, ?_⟩) hHeld ?_
  rotate_left 1
  · (intro W hSw; (try dsimp only at hSw); have hcs := HCS.out W (HB3.out.trans (hSw.mono HB3.out.size)); go_simp; try with_reducible rfl)
  try simp only [Act.put, List.setIfInBounds_toArray, List.set_cons_zero, List.set_cons_succ]
  refine wpAnyH_take (i := 12) (oi := ⟨_, _, _, _, _, _⟩) (v := ?_) rfl (by kernel_rfl) (by kernel_rfl) (by kernel_rfl) (fun _ _ _ h => h) (Or.inl ⟨by rfl, ?_⟩) hHeld ?_
  rotate_left 1
  · (intro W hSw; (try dsimp only at hSw); go_simp; try with_reducible rfl)
  try simp only [Act.put, List.setIfInBounds_toArray, List.set_cons_zero, List.set_cons_succ]
  replace hHeld : Below w3.heap.size w3 w3.drew := hHeld
  generalize w3.drew = wd at *
  refine wpAnyH_ready (rs := [6]) (by kernel_rfl) (by simp) ?_
  refine AllReadyH.cons (o := ⟨_, _, _, _, _, _⟩) rfl (fun K hK => ?_) AllReadyH.nil
  go_simp
  have hsz := hHeld.size
  refine hK.out _ _ (hHeld.alloc hsz _) (fun hHeld => ?_)
  clear hK K
  try simp only [Act.put, List.setIfInBounds_toArray, List.set_cons_zero, List.set_cons_succ]
  refine wpAnyH_ready (rs := [7]) (by kernel_rfl) (by simp) ?_
  refine AllReadyH.cons (o := ⟨_, _, _, _, _, _⟩) rfl (fun K hK => ?_) AllReadyH.nil
  have hcv : (convert 26 9 (.slice (some ⟨wd.heap.size, 0, none⟩) 2 2)).run Tryd.prog (wd.alloc (.cells #[.int .u8 17, .int .u8 (y.toNat : Int)] 5)) = .ok (.string ⟨#[17, y]⟩) (wd.alloc (.cells #[.int .u8 17, .int .u8 (y.toNat : Int)] 5)) := conv_in (y := [17, y]) (n := 2) rfl ((buf_lit wd [17, y] 2 5 rfl (by decide)).toIn (Nat.le_refl _))
  go_simp
  refine hK.out _ _ hHeld (fun hHeld => ?_)
  clear hK K hcv
  generalize wd.alloc (.cells #[.int .u8 17, .int .u8 (y.toNat : Int)] 5) = w4 at *
  try simp only [Act.put, List.setIfInBounds_toArray, List.set_cons_zero, List.set_cons_succ]
  refine wpAnyH_take (i := 8) (oi := ⟨_, _, _, _, _, _⟩) (v := ?_) rfl (by kernel_rfl) (by kernel_rfl) (by kernel_rfl) (fun _ _ _ h => h) (Or.inl ⟨by rfl, ?_⟩) hHeld ?_
  rotate_left 1
  · (intro W hSw; (try dsimp only at hSw); go_simp; try with_reducible rfl)
  try simp only [Act.put, List.setIfInBounds_toArray, List.set_cons_zero, List.set_cons_succ]
  refine wpAnyH_take (i := 11) (oi := ⟨_, _, _, _, _, _⟩) (v := ?_) rfl (by kernel_rfl) (by kernel_rfl) (by kernel_rfl) (fun _ _ _ h => h) (Or.inl ⟨by rfl, ?_⟩) hHeld ?_
  rotate_left 1
  · (intro W hSw; (try dsimp only at hSw); go_simp; try with_reducible rfl)
  try simp only [Act.put, List.setIfInBounds_toArray, List.set_cons_zero, List.set_cons_succ]
  refine wpAnyH_take (i := 13) (oi := ⟨_, _, _, _, _, _⟩) (v := ?_) rfl (by kernel_rfl) (by kernel_rfl) (by kernel_rfl) (fun _ _ _ h => h) (Or.inl ⟨by rfl, ?_⟩) hHeld ?_
  rotate_left 1
  · (intro W hSw; (try dsimp only at hSw); go_simp; try with_reducible rfl)
  try simp only [Act.put, List.setIfInBounds_toArray, List.set_cons_zero, List.set_cons_succ]
  refine wpAnyH_take (i := 14) (oi := ⟨_, _, _, _, _, _⟩) (v := ?_) rfl (by kernel_rfl) (by kernel_rfl) (by kernel_rfl) (fun _ _ _ h => h) (Or.inl ⟨by rfl, ?_⟩) hHeld ?_
  rotate_left 1
  · (intro W hSw; (try dsimp only at hSw); go_simp; try with_reducible rfl)
  try simp only [Act.put, List.setIfInBounds_toArray, List.set_cons_zero, List.set_cons_succ]
  refine wpAnyH_take (i := 15) (oi := ⟨_, _, _, _, _, _⟩) (v := ?_) rfl (by kernel_rfl) (by kernel_rfl) (by kernel_rfl) (fun _ _ _ h => h) (Or.inl ⟨by rfl, ?_⟩) hHeld ?_
  rotate_left 1
  · (intro W hSw; (try dsimp only at hSw); go_simp; try with_reducible rfl)
  try simp only [Act.put, List.setIfInBounds_toArray, List.set_cons_zero, List.set_cons_succ]
  refine wpAnyH_done (by kernel_rfl) ?_ _
  refine NoPanic.normal ?_
  replace hHeld : Below w3.heap.size w3 w4 := hHeld
  have hbe := HBW.out.trans ((HB3.out.trans (hHeld.mono HB3.out.size)).mono HBW.out.size)
  clear hHeld
  go_wp2
  go_ret2
  exact ⟨by rw [HZ.out] <;> rfl, hbe⟩
set_option maxRecDepth 100000 in
set_option maxHeartbeats 1000000 in
theorem rwrap_e (kind : Int) (s0 s1 : UInt8) (Q key sec : List UInt8) (n : Nat) (w : World) (hQ : Q.length = 16) (hn : key.length = n) (hn9 : n ≤ 1000000) (h2 : sec.length ≤ 1000000) :
    Calls Tryd.prog 41 #[.int .i64 kind, .string ⟨key.toArray⟩, .agg #[.int .u8 (s0.toNat : Int), .int .u8 (s1.toNat : Int)], .agg (Q.map B8).toArray, .string ⟨sec.toArray⟩] w (RWrapPost (wrapE kind s0 s1 key Q sec) w) := by
  by_cases k16 : kind = 16
  · by_cases h0 : n = 0
    · exact rwrap_b1_16 kind s0 s1 Q key sec n w hQ hn hn9 h2 k16 h0
    by_cases h200 : 200 < n
    · exact rwrap_b2_16 kind s0 s1 Q key sec n w hQ hn hn9 h2 k16 h0 h200
    by_cases hs : s0.toNat < 128
    · exact rwrap_b3_16 kind s0 s1 Q key sec n w hQ hn hn9 h2 k16 h0 h200 hs
    · exact rwrap_ok_16 kind s0 s1 Q key sec n w hQ hn hn9 h2 k16 h0 h200 hs
  by_cases k17 : kind = 17
  · by_cases h0 : n = 0
    · exact rwrap_b1_17 kind s0 s1 Q key sec n w hQ hn hn9 h2 k17 h0
    by_cases h200 : 200 < n
    · exact rwrap_b2_17 kind s0 s1 Q key sec n w hQ hn hn9 h2 k17 h0 h200
    by_cases hs : s0.toNat < 128
    · exact rwrap_b3_17 kind s0 s1 Q key sec n w hQ hn hn9 h2 k17 h0 h200 hs
    · exact rwrap_ok_17 kind s0 s1 Q key sec n w hQ hn hn9 h2 k17 h0 h200 hs
  exact rwrap_b0 kind s0 s1 Q key sec n w hQ hn hn9 h2 k16 k17
end Go.Proofs.YtnbmnognkbcddaaDoor
