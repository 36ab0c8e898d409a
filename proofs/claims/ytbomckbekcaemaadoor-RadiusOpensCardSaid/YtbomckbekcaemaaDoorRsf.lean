/-
  The contracts of the document's Same, code and Write.
-/
import Derived.Test.YtbomckbekcaemaaDoorRse
namespace Go.Proofs.YtbomckbekcaemaaDoor
open Go.RowKit

theorem eqQ_run (L M : List UInt8) (h : L.length = 16) (h' : M.length = 16) (W : World) : (binOp .eql 22 (.agg (L.map B8).toArray) (.agg (M.map B8).toArray)).run Tryd.prog W = .ok (.bool (L == M)) W :=
  run_eql_bytes (P := Tryd.prog) W 22 5 16 Tryd.underlying22 Tryd.underlying5 size8 L M h h'
set_option maxRecDepth 100000 in
set_option maxHeartbeats 1000000 in
theorem same_code (code code' id id' : Int) (Q Q' : List UInt8) (A A' : Option Addr) (c c' n n' : Nat) (la lb : Attrs) (w : World) (hQ : Q.length = 16) (hQ' : Q'.length = 16) (_hn : la.length = n) (_hA : SIn w w.heap.size A c la) (_hn' : lb.length = n') (_hA' : SIn w w.heap.size A' c' lb) (h0 : ¬ code = code') :
    Calls Tryd.prog 16 #[.agg (pkC code id Q A n c).toArray, .agg (pkC code' id' Q' A' n' c').toArray] w fun e w' => e = .returned (.bool (decide ((code, id, Q, la) = (code', id', Q', lb)))) ∧ Below w.heap.size w w' := by
  have HZ := Lib.hid (show decide ((code, id, Q, la) = (code', id', Q', lb)) = false by simp only [decide_eq_false_iff_not]; intro h; injection h with i1 i2; injection i2 with i2 i3; injection i3 with i3 i4; exact h0 i1)
  have HQ := Lib.hid hQ
  have HQ' := Lib.hid hQ'
  clear hQ hQ' _hn _hA _hn' _hA'
  go_enter Tryd.func16, Tryd.ntmps16
  go_upto_region 1 with (fail)
  have hP := (Blk.new_of w 25 (pkC code id Q A n c).toArray (pkC code id Q A n c) rfl).alloc (.cells (pkC code' id' Q' A' n' c').toArray 25)
  have hR := Blk.new2_of w (.cells (pkC code id Q A n c).toArray 25) 25 (pkC code' id' Q' A' n' c').toArray (pkC code' id' Q' A' n' c') rfl
  have hb0 : Below w.heap.size w ((w.alloc (.cells (pkC code id Q A n c).toArray 25)).alloc (.cells (pkC code' id' Q' A' n' c').toArray 25)) := ((Below.refl _ _).alloc (Nat.le_refl _) _).alloc (by simp) _
  obtain ⟨gr, hgr⟩ : ∃ gr, gr = w.heap.size + 1 := ⟨_, rfl⟩
  obtain ⟨g, hg⟩ : ∃ g, g = w.heap.size := ⟨_, rfl⟩
  rw [← hgr] at hR
  rw [← hg] at hP
  simp only [← hgr]
  clear hgr
  simp only [← hg]
  have HBW := Lib.hid hb0
  have f0 : ((w.alloc (.cells (pkC code id Q A n c).toArray 25)).alloc (.cells (pkC code' id' Q' A' n' c').toArray 25)).cell? ⟨g, 0, none⟩ = some (.int .i64 code) := hP.cell 0
  have f1 : ((w.alloc (.cells (pkC code id Q A n c).toArray 25)).alloc (.cells (pkC code' id' Q' A' n' c').toArray 25)).cell? ⟨g, 1, none⟩ = some (.int .i64 id) := hP.cell 1
  have f18 : ((w.alloc (.cells (pkC code id Q A n c).toArray 25)).alloc (.cells (pkC code' id' Q' A' n' c').toArray 25)).cell? ⟨g, 18, none⟩ = some (.slice A n c) := (hP.cell 18).trans (pkC_last code id Q A n c HQ.out)
  have g0 : ((w.alloc (.cells (pkC code id Q A n c).toArray 25)).alloc (.cells (pkC code' id' Q' A' n' c').toArray 25)).cell? ⟨gr, 0, none⟩ = some (.int .i64 code') := hR.cell 0
  have g1 : ((w.alloc (.cells (pkC code id Q A n c).toArray 25)).alloc (.cells (pkC code' id' Q' A' n' c').toArray 25)).cell? ⟨gr, 1, none⟩ = some (.int .i64 id') := hR.cell 1
  have g18 : ((w.alloc (.cells (pkC code id Q A n c).toArray 25)).alloc (.cells (pkC code' id' Q' A' n' c').toArray 25)).cell? ⟨gr, 18, none⟩ = some (.slice A' n' c') := (hR.cell 18).trans (pkC_last code' id' Q' A' n' c' HQ'.out)
  have HFQ := Lib.hid (pk_range hP HQ.out)
  have HGQ := Lib.hid (pk_range hR HQ'.out)
  clear hg hP hR hb0
  generalize (w.alloc (.cells (pkC code id Q A n c).toArray 25)).alloc (.cells (pkC code' id' Q' A' n' c').toArray 25) = w1 at *
  go_wp2
  go_ret
  exact ⟨by rw [HZ.out]; rfl, HBW.out⟩
set_option maxRecDepth 100000 in
set_option maxHeartbeats 1000000 in
theorem same_id (code code' id id' : Int) (Q Q' : List UInt8) (A A' : Option Addr) (c c' n n' : Nat) (la lb : Attrs) (w : World) (hQ : Q.length = 16) (hQ' : Q'.length = 16) (_hn : la.length = n) (_hA : SIn w w.heap.size A c la) (_hn' : lb.length = n') (_hA' : SIn w w.heap.size A' c' lb) (h0 : code = code') (h1 : ¬ id = id') :
    Calls Tryd.prog 16 #[.agg (pkC code id Q A n c).toArray, .agg (pkC code' id' Q' A' n' c').toArray] w fun e w' => e = .returned (.bool (decide ((code, id, Q, la) = (code', id', Q', lb)))) ∧ Below w.heap.size w w' := by
  have HZ := Lib.hid (show decide ((code, id, Q, la) = (code', id', Q', lb)) = false by simp only [decide_eq_false_iff_not]; intro h; injection h with i1 i2; injection i2 with i2 i3; injection i3 with i3 i4; exact h1 i2)
  have HQ := Lib.hid hQ
  have HQ' := Lib.hid hQ'
  subst h0
  clear hQ hQ' _hn _hA _hn' _hA'
  go_enter Tryd.func16, Tryd.ntmps16
  go_upto_region 1 with (fail)
  have hP := (Blk.new_of w 25 (pkC code id Q A n c).toArray (pkC code id Q A n c) rfl).alloc (.cells (pkC code id' Q' A' n' c').toArray 25)
  have hR := Blk.new2_of w (.cells (pkC code id Q A n c).toArray 25) 25 (pkC code id' Q' A' n' c').toArray (pkC code id' Q' A' n' c') rfl
  have hb0 : Below w.heap.size w ((w.alloc (.cells (pkC code id Q A n c).toArray 25)).alloc (.cells (pkC code id' Q' A' n' c').toArray 25)) := ((Below.refl _ _).alloc (Nat.le_refl _) _).alloc (by simp) _
  obtain ⟨gr, hgr⟩ : ∃ gr, gr = w.heap.size + 1 := ⟨_, rfl⟩
  obtain ⟨g, hg⟩ : ∃ g, g = w.heap.size := ⟨_, rfl⟩
  rw [← hgr] at hR
  rw [← hg] at hP
  simp only [← hgr]
  clear hgr
  simp only [← hg]
  have HBW := Lib.hid hb0
  have f0 : ((w.alloc (.cells (pkC code id Q A n c).toArray 25)).alloc (.cells (pkC code id' Q' A' n' c').toArray 25)).cell? ⟨g, 0, none⟩ = some (.int .i64 code) := hP.cell 0
  have f1 : ((w.alloc (.cells (pkC code id Q A n c).toArray 25)).alloc (.cells (pkC code id' Q' A' n' c').toArray 25)).cell? ⟨g, 1, none⟩ = some (.int .i64 id) := hP.cell 1
  have f18 : ((w.alloc (.cells (pkC code id Q A n c).toArray 25)).alloc (.cells (pkC code id' Q' A' n' c').toArray 25)).cell? ⟨g, 18, none⟩ = some (.slice A n c) := (hP.cell 18).trans (pkC_last code id Q A n c HQ.out)
  have g0 : ((w.alloc (.cells (pkC code id Q A n c).toArray 25)).alloc (.cells (pkC code id' Q' A' n' c').toArray 25)).cell? ⟨gr, 0, none⟩ = some (.int .i64 code) := hR.cell 0
  have g1 : ((w.alloc (.cells (pkC code id Q A n c).toArray 25)).alloc (.cells (pkC code id' Q' A' n' c').toArray 25)).cell? ⟨gr, 1, none⟩ = some (.int .i64 id') := hR.cell 1
  have g18 : ((w.alloc (.cells (pkC code id Q A n c).toArray 25)).alloc (.cells (pkC code id' Q' A' n' c').toArray 25)).cell? ⟨gr, 18, none⟩ = some (.slice A' n' c') := (hR.cell 18).trans (pkC_last code id' Q' A' n' c' HQ'.out)
  have HFQ := Lib.hid (pk_range hP HQ.out)
  have HGQ := Lib.hid (pk_range hR HQ'.out)
  clear hg hP hR hb0
  generalize (w.alloc (.cells (pkC code id Q A n c).toArray 25)).alloc (.cells (pkC code id' Q' A' n' c').toArray 25) = w1 at *
  go_wp2
  go_ret
  exact ⟨by rw [HZ.out]; rfl, HBW.out⟩
set_option maxRecDepth 100000 in
set_option maxHeartbeats 1000000 in
theorem same_auth (code code' id id' : Int) (Q Q' : List UInt8) (A A' : Option Addr) (c c' n n' : Nat) (la lb : Attrs) (w : World) (hQ : Q.length = 16) (hQ' : Q'.length = 16) (_hn : la.length = n) (_hA : SIn w w.heap.size A c la) (_hn' : lb.length = n') (_hA' : SIn w w.heap.size A' c' lb) (h0 : code = code') (h1 : id = id') (hq : ¬ Q = Q') :
    Calls Tryd.prog 16 #[.agg (pkC code id Q A n c).toArray, .agg (pkC code' id' Q' A' n' c').toArray] w fun e w' => e = .returned (.bool (decide ((code, id, Q, la) = (code', id', Q', lb)))) ∧ Below w.heap.size w w' := by
  have HZ := Lib.hid (show decide ((code, id, Q, la) = (code', id', Q', lb)) = false by simp only [decide_eq_false_iff_not]; intro h; injection h with i1 i2; injection i2 with i2 i3; injection i3 with i3 i4; exact hq i3)
  have HQ := Lib.hid hQ
  have HQ' := Lib.hid hQ'
  subst h0 h1
  have hqe := fun (W : World) => (show (binOp .eql 22 (.agg (Q.map B8).toArray) (.agg (Q'.map B8).toArray)).run Tryd.prog W = .ok (.bool false) W by have := eqQ_run Q Q' hQ hQ' W; rwa [show (Q == Q') = false by simpa using hq] at this)
  clear hq
  clear hQ hQ' _hn _hA _hn' _hA'
  go_enter Tryd.func16, Tryd.ntmps16
  go_upto_region 1 with (fail)
  have hP := (Blk.new_of w 25 (pkC code id Q A n c).toArray (pkC code id Q A n c) rfl).alloc (.cells (pkC code id Q' A' n' c').toArray 25)
  have hR := Blk.new2_of w (.cells (pkC code id Q A n c).toArray 25) 25 (pkC code id Q' A' n' c').toArray (pkC code id Q' A' n' c') rfl
  have hb0 : Below w.heap.size w ((w.alloc (.cells (pkC code id Q A n c).toArray 25)).alloc (.cells (pkC code id Q' A' n' c').toArray 25)) := ((Below.refl _ _).alloc (Nat.le_refl _) _).alloc (by simp) _
  obtain ⟨gr, hgr⟩ : ∃ gr, gr = w.heap.size + 1 := ⟨_, rfl⟩
  obtain ⟨g, hg⟩ : ∃ g, g = w.heap.size := ⟨_, rfl⟩
  rw [← hgr] at hR
  rw [← hg] at hP
  simp only [← hgr]
  clear hgr
  simp only [← hg]
  have HBW := Lib.hid hb0
  have f0 : ((w.alloc (.cells (pkC code id Q A n c).toArray 25)).alloc (.cells (pkC code id Q' A' n' c').toArray 25)).cell? ⟨g, 0, none⟩ = some (.int .i64 code) := hP.cell 0
  have f1 : ((w.alloc (.cells (pkC code id Q A n c).toArray 25)).alloc (.cells (pkC code id Q' A' n' c').toArray 25)).cell? ⟨g, 1, none⟩ = some (.int .i64 id) := hP.cell 1
  have f18 : ((w.alloc (.cells (pkC code id Q A n c).toArray 25)).alloc (.cells (pkC code id Q' A' n' c').toArray 25)).cell? ⟨g, 18, none⟩ = some (.slice A n c) := (hP.cell 18).trans (pkC_last code id Q A n c HQ.out)
  have g0 : ((w.alloc (.cells (pkC code id Q A n c).toArray 25)).alloc (.cells (pkC code id Q' A' n' c').toArray 25)).cell? ⟨gr, 0, none⟩ = some (.int .i64 code) := hR.cell 0
  have g1 : ((w.alloc (.cells (pkC code id Q A n c).toArray 25)).alloc (.cells (pkC code id Q' A' n' c').toArray 25)).cell? ⟨gr, 1, none⟩ = some (.int .i64 id) := hR.cell 1
  have g18 : ((w.alloc (.cells (pkC code id Q A n c).toArray 25)).alloc (.cells (pkC code id Q' A' n' c').toArray 25)).cell? ⟨gr, 18, none⟩ = some (.slice A' n' c') := (hR.cell 18).trans (pkC_last code id Q' A' n' c' HQ'.out)
  have HFQ := Lib.hid (pk_range hP HQ.out)
  have HGQ := Lib.hid (pk_range hR HQ'.out)
  clear hg hP hR hb0
  generalize (w.alloc (.cells (pkC code id Q A n c).toArray 25)).alloc (.cells (pkC code id Q' A' n' c').toArray 25) = w1 at *
  go_wp2_with (first
    | ((with_reducible refine (?_ : wpList _ _ _ (Oper.mk (some 19) _ _ _ _ _ :: _) _ _)); go_loud (refine wpList_step (fun K hK => ?_); rw [if_pos (by rfl)]; refine wp_load_mid 22 (.tmp 18) rfl g 2 rfl (Q.map B8) _ (HFQ.out) Tryd.underlying22 rfl (inf16.trans (by rw [List.length_map, HQ.out])) ?_; apply hK))
    | ((with_reducible refine (?_ : wpList _ _ _ (Oper.mk (some 21) _ _ _ _ _ :: _) _ _)); go_loud (refine wpList_step (fun K hK => ?_); rw [if_pos (by rfl)]; refine wp_load_mid 22 (.tmp 20) rfl gr 2 rfl (Q'.map B8) _ (HGQ.out) Tryd.underlying22 rfl (inf16.trans (by rw [List.length_map, HQ'.out])) ?_; apply hK)))
  go_ret
  exact ⟨by rw [HZ.out]; rfl, HBW.out⟩
set_option maxRecDepth 100000 in
set_option maxHeartbeats 1000000 in
theorem same_all (code code' id id' : Int) (Q Q' : List UInt8) (A A' : Option Addr) (c c' n n' : Nat) (la lb : Attrs) (w : World) (hQ : Q.length = 16) (hQ' : Q'.length = 16) (hn : la.length = n) (hA : SIn w w.heap.size A c la) (hn' : lb.length = n') (hA' : SIn w w.heap.size A' c' lb) (h0 : code = code') (h1 : id = id') (hq : Q = Q') :
    Calls Tryd.prog 16 #[.agg (pkC code id Q A n c).toArray, .agg (pkC code' id' Q' A' n' c').toArray] w fun e w' => e = .returned (.bool (decide ((code, id, Q, la) = (code', id', Q', lb)))) ∧ Below w.heap.size w w' := by
  have HZ := Lib.hid (show decide ((code, id, Q, la) = (code', id', Q', lb)) = decide (la = lb) by subst h0 h1 hq; simp)
  have HAT := Lib.hid (fun (W : World) (h : Below w.heap.size w W) => rattrs_e A A' c c' n n' la lb W hn (hA.up h) hn' (hA'.up h))
  have HQ := Lib.hid hQ
  have HQ' := Lib.hid hQ'
  subst h0 h1 hq
  have hqe := fun (W : World) => (show (binOp .eql 22 (.agg (Q.map B8).toArray) (.agg (Q.map B8).toArray)).run Tryd.prog W = .ok (.bool true) W by have := eqQ_run Q Q hQ hQ W; rwa [show (Q == Q) = true by simp] at this)
  clear hQ hQ' hn hA hn' hA'
  go_enter Tryd.func16, Tryd.ntmps16
  go_upto_region 1 with (fail)
  have hP := (Blk.new_of w 25 (pkC code id Q A n c).toArray (pkC code id Q A n c) rfl).alloc (.cells (pkC code id Q A' n' c').toArray 25)
  have hR := Blk.new2_of w (.cells (pkC code id Q A n c).toArray 25) 25 (pkC code id Q A' n' c').toArray (pkC code id Q A' n' c') rfl
  have hb0 : Below w.heap.size w ((w.alloc (.cells (pkC code id Q A n c).toArray 25)).alloc (.cells (pkC code id Q A' n' c').toArray 25)) := ((Below.refl _ _).alloc (Nat.le_refl _) _).alloc (by simp) _
  obtain ⟨gr, hgr⟩ : ∃ gr, gr = w.heap.size + 1 := ⟨_, rfl⟩
  obtain ⟨g, hg⟩ : ∃ g, g = w.heap.size := ⟨_, rfl⟩
  rw [← hgr] at hR
  rw [← hg] at hP
  simp only [← hgr]
  clear hgr
  simp only [← hg]
  have HBW := Lib.hid hb0
  have f0 : ((w.alloc (.cells (pkC code id Q A n c).toArray 25)).alloc (.cells (pkC code id Q A' n' c').toArray 25)).cell? ⟨g, 0, none⟩ = some (.int .i64 code) := hP.cell 0
  have f1 : ((w.alloc (.cells (pkC code id Q A n c).toArray 25)).alloc (.cells (pkC code id Q A' n' c').toArray 25)).cell? ⟨g, 1, none⟩ = some (.int .i64 id) := hP.cell 1
  have f18 : ((w.alloc (.cells (pkC code id Q A n c).toArray 25)).alloc (.cells (pkC code id Q A' n' c').toArray 25)).cell? ⟨g, 18, none⟩ = some (.slice A n c) := (hP.cell 18).trans (pkC_last code id Q A n c HQ.out)
  have g0 : ((w.alloc (.cells (pkC code id Q A n c).toArray 25)).alloc (.cells (pkC code id Q A' n' c').toArray 25)).cell? ⟨gr, 0, none⟩ = some (.int .i64 code) := hR.cell 0
  have g1 : ((w.alloc (.cells (pkC code id Q A n c).toArray 25)).alloc (.cells (pkC code id Q A' n' c').toArray 25)).cell? ⟨gr, 1, none⟩ = some (.int .i64 id) := hR.cell 1
  have g18 : ((w.alloc (.cells (pkC code id Q A n c).toArray 25)).alloc (.cells (pkC code id Q A' n' c').toArray 25)).cell? ⟨gr, 18, none⟩ = some (.slice A' n' c') := (hR.cell 18).trans (pkC_last code id Q A' n' c' HQ'.out)
  have HFQ := Lib.hid (pk_range hP HQ.out)
  have HGQ := Lib.hid (pk_range hR HQ'.out)
  clear hg hP hR hb0
  generalize (w.alloc (.cells (pkC code id Q A n c).toArray 25)).alloc (.cells (pkC code id Q A' n' c').toArray 25) = w1 at *
  go_wp2_with (first
    | ((with_reducible refine (?_ : wpList _ _ _ (Oper.mk (some 19) _ _ _ _ _ :: _) _ _)); go_loud (refine wpList_step (fun K hK => ?_); rw [if_pos (by rfl)]; refine wp_load_mid 22 (.tmp 18) rfl g 2 rfl (Q.map B8) _ (HFQ.out) Tryd.underlying22 rfl (inf16.trans (by rw [List.length_map, HQ.out])) ?_; apply hK))
    | ((with_reducible refine (?_ : wpList _ _ _ (Oper.mk (some 21) _ _ _ _ _ :: _) _ _)); go_loud (refine wpList_step (fun K hK => ?_); rw [if_pos (by rfl)]; refine wp_load_mid 22 (.tmp 20) rfl gr 2 rfl (Q.map B8) _ (HGQ.out) Tryd.underlying22 rfl (inf16.trans (by rw [List.length_map, HQ'.out])) ?_; apply hK))
    | (go_at_call 26; refine (HAT.out _ HBW.out).mono ?_; rintro e w2 ⟨rfl, hb2⟩))
  go_ret
  exact ⟨by rw [HZ.out]; rfl, HBW.out.trans (hb2.mono HBW.out.size)⟩
theorem same_e (code code' id id' : Int) (Q Q' : List UInt8) (A A' : Option Addr) (c c' n n' : Nat) (la lb : Attrs) (w : World) (hQ : Q.length = 16) (hQ' : Q'.length = 16) (hn : la.length = n) (hA : SIn w w.heap.size A c la) (hn' : lb.length = n') (hA' : SIn w w.heap.size A' c' lb) :
    Calls Tryd.prog 16 #[.agg (pkC code id Q A n c).toArray, .agg (pkC code' id' Q' A' n' c').toArray] w fun e w' => e = .returned (.bool (decide ((code, id, Q, la) = (code', id', Q', lb)))) ∧ Below w.heap.size w w' := by
  by_cases h0 : code = code'
  · by_cases h1 : id = id'
    · by_cases hq : Q = Q'
      · exact same_all code code' id id' Q Q' A A' c c' n n' la lb w hQ hQ' hn hA hn' hA' h0 h1 hq
      · exact same_auth code code' id id' Q Q' A A' c c' n n' la lb w hQ hQ' hn hA hn' hA' h0 h1 hq
    · exact same_id code code' id id' Q Q' A A' c c' n n' la lb w hQ hQ' hn hA hn' hA' h0 h1
  · exact same_code code code' id id' Q Q' A A' c c' n n' la lb w hQ hQ' hn hA hn' hA' h0
set_option maxRecDepth 100000 in
set_option maxHeartbeats 1000000 in
theorem rcode_e (code : Int) (w : World) :
    Calls Tryd.prog 46 #[.int .i64 code] w fun e w' => e = .returned (.bool (codeOK code)) ∧ Below w.heap.size w w' := by
  go_enter Tryd.func46, Tryd.ntmps46
  go_wp2
  all_goals (go_ret; refine ⟨?_, Below.refl _ _⟩; unfold codeOK; first | (simp [*, Bool.or_assoc]; done) | rfl)
end Go.Proofs.YtbomckbekcaemaaDoor
