/-
  The law's tame: a message, cut.
-/
import Derived.Test.YtagblbfbjemfhaaDoorJb
namespace Go.Proofs.YtagblbfbjemfhaaDoor
open Go.RowKit
open HelloMath (Msg zeroM)

theorem list32 {α : Type} (L : List α) (h : L.length = 32) : ∃ a0 a1 a2 a3 a4 a5 a6 a7 a8 a9 a10 a11 a12 a13 a14 a15 a16 a17 a18 a19 a20 a21 a22 a23 a24 a25 a26 a27 a28 a29 a30 a31, L = [a0, a1, a2, a3, a4, a5, a6, a7, a8, a9, a10, a11, a12, a13, a14, a15, a16, a17, a18, a19, a20, a21, a22, a23, a24, a25, a26, a27, a28, a29, a30, a31] := by
  obtain _ | ⟨a0, L⟩ := L
  · exact absurd h (by simp)
  obtain _ | ⟨a1, L⟩ := L
  · exact absurd h (by simp)
  obtain _ | ⟨a2, L⟩ := L
  · exact absurd h (by simp)
  obtain _ | ⟨a3, L⟩ := L
  · exact absurd h (by simp)
  obtain _ | ⟨a4, L⟩ := L
  · exact absurd h (by simp)
  obtain _ | ⟨a5, L⟩ := L
  · exact absurd h (by simp)
  obtain _ | ⟨a6, L⟩ := L
  · exact absurd h (by simp)
  obtain _ | ⟨a7, L⟩ := L
  · exact absurd h (by simp)
  obtain _ | ⟨a8, L⟩ := L
  · exact absurd h (by simp)
  obtain _ | ⟨a9, L⟩ := L
  · exact absurd h (by simp)
  obtain _ | ⟨a10, L⟩ := L
  · exact absurd h (by simp)
  obtain _ | ⟨a11, L⟩ := L
  · exact absurd h (by simp)
  obtain _ | ⟨a12, L⟩ := L
  · exact absurd h (by simp)
  obtain _ | ⟨a13, L⟩ := L
  · exact absurd h (by simp)
  obtain _ | ⟨a14, L⟩ := L
  · exact absurd h (by simp)
  obtain _ | ⟨a15, L⟩ := L
  · exact absurd h (by simp)
  obtain _ | ⟨a16, L⟩ := L
  · exact absurd h (by simp)
  obtain _ | ⟨a17, L⟩ := L
  · exact absurd h (by simp)
  obtain _ | ⟨a18, L⟩ := L
  · exact absurd h (by simp)
  obtain _ | ⟨a19, L⟩ := L
  · exact absurd h (by simp)
  obtain _ | ⟨a20, L⟩ := L
  · exact absurd h (by simp)
  obtain _ | ⟨a21, L⟩ := L
  · exact absurd h (by simp)
  obtain _ | ⟨a22, L⟩ := L
  · exact absurd h (by simp)
  obtain _ | ⟨a23, L⟩ := L
  · exact absurd h (by simp)
  obtain _ | ⟨a24, L⟩ := L
  · exact absurd h (by simp)
  obtain _ | ⟨a25, L⟩ := L
  · exact absurd h (by simp)
  obtain _ | ⟨a26, L⟩ := L
  · exact absurd h (by simp)
  obtain _ | ⟨a27, L⟩ := L
  · exact absurd h (by simp)
  obtain _ | ⟨a28, L⟩ := L
  · exact absurd h (by simp)
  obtain _ | ⟨a29, L⟩ := L
  · exact absurd h (by simp)
  obtain _ | ⟨a30, L⟩ := L
  · exact absurd h (by simp)
  obtain _ | ⟨a31, L⟩ := L
  · exact absurd h (by simp)
  obtain _ | ⟨_, _⟩ := L
  · exact ⟨a0, a1, a2, a3, a4, a5, a6, a7, a8, a9, a10, a11, a12, a13, a14, a15, a16, a17, a18, a19, a20, a21, a22, a23, a24, a25, a26, a27, a28, a29, a30, a31, rfl⟩
  · simp only [List.length_cons] at h; omega
set_option maxRecDepth 100000 in
theorem builtR' (a0 a1 a2 a3 a4 a5 a6 a7 a8 a9 a10 a11 a12 a13 a14 a15 a16 a17 a18 a19 a20 a21 a22 a23 a24 a25 a26 a27 a28 a29 a30 a31 b0 b1 b2 b3 b4 b5 b6 b7 b8 b9 b10 b11 b12 b13 b14 b15 b16 b17 b18 b19 b20 b21 b22 b23 b24 b25 b26 b27 b28 b29 b30 b31 : UInt8) (s1 s2 s3 s4 s5 : List UInt8) (A : Option Addr) (n c : Nat) (k li ag : Int) (ps re : Bool) : Tryd.prog.built 25 [(0, .int .i64 k), (1, .agg #[B8 a0, B8 a1, B8 a2, B8 a3, B8 a4, B8 a5, B8 a6, B8 a7, B8 a8, B8 a9, B8 a10, B8 a11, B8 a12, B8 a13, B8 a14, B8 a15, B8 a16, B8 a17, B8 a18, B8 a19, B8 a20, B8 a21, B8 a22, B8 a23, B8 a24, B8 a25, B8 a26, B8 a27, B8 a28, B8 a29, B8 a30, B8 a31]), (2, .agg #[B8 b0, B8 b1, B8 b2, B8 b3, B8 b4, B8 b5, B8 b6, B8 b7, B8 b8, B8 b9, B8 b10, B8 b11, B8 b12, B8 b13, B8 b14, B8 b15, B8 b16, B8 b17, B8 b18, B8 b19, B8 b20, B8 b21, B8 b22, B8 b23, B8 b24, B8 b25, B8 b26, B8 b27, B8 b28, B8 b29, B8 b30, B8 b31]), (3, TX s1), (4, TX s2), (5, TX s3), (6, TX s4), (7, TX s5), (8, (.slice A n c)), (9, .int .i64 li), (10, .int .i64 ag), (11, .bool ps), (12, .bool re)] = some [.int .i64 k, B8 a0, B8 a1, B8 a2, B8 a3, B8 a4, B8 a5, B8 a6, B8 a7, B8 a8, B8 a9, B8 a10, B8 a11, B8 a12, B8 a13, B8 a14, B8 a15, B8 a16, B8 a17, B8 a18, B8 a19, B8 a20, B8 a21, B8 a22, B8 a23, B8 a24, B8 a25, B8 a26, B8 a27, B8 a28, B8 a29, B8 a30, B8 a31, B8 b0, B8 b1, B8 b2, B8 b3, B8 b4, B8 b5, B8 b6, B8 b7, B8 b8, B8 b9, B8 b10, B8 b11, B8 b12, B8 b13, B8 b14, B8 b15, B8 b16, B8 b17, B8 b18, B8 b19, B8 b20, B8 b21, B8 b22, B8 b23, B8 b24, B8 b25, B8 b26, B8 b27, B8 b28, B8 b29, B8 b30, B8 b31, TX s1, TX s2, TX s3, TX s4, TX s5, (.slice A n c), .int .i64 li, .int .i64 ag, .bool ps, .bool re].toArray := by kernel_rfl
set_option maxRecDepth 100000 in
theorem builtR (R M : List UInt8) (hR : R.length = 32) (hM : M.length = 32) (s1 s2 s3 s4 s5 : List UInt8) (A : Option Addr) (n c : Nat) (k li ag : Int) (ps re : Bool) (m : Msg) (hm : m.kind = k ∧ m.rnd = R ∧ m.mark = M ∧ m.life = li ∧ m.age = ag ∧ m.psk = ps ∧ m.retry = re) : Tryd.prog.built 25 [(0, .int .i64 k), (1, .agg (R.map B8).toArray), (2, .agg (M.map B8).toArray), (3, TX s1), (4, TX s2), (5, TX s3), (6, TX s4), (7, TX s5), (8, (.slice A n c)), (9, .int .i64 li), (10, .int .i64 ag), (11, .bool ps), (12, .bool re)] = some (mC m (TX s1) (TX s2) (TX s3) (TX s4) (TX s5) (.slice A n c)).toArray := by
  obtain ⟨a0, a1, a2, a3, a4, a5, a6, a7, a8, a9, a10, a11, a12, a13, a14, a15, a16, a17, a18, a19, a20, a21, a22, a23, a24, a25, a26, a27, a28, a29, a30, a31, rfl⟩ := list32 R hR
  obtain ⟨b0, b1, b2, b3, b4, b5, b6, b7, b8, b9, b10, b11, b12, b13, b14, b15, b16, b17, b18, b19, b20, b21, b22, b23, b24, b25, b26, b27, b28, b29, b30, b31, rfl⟩ := list32 M hM
  obtain ⟨e0, e1, e2, e3, e4, e5, e6⟩ := hm
  unfold mC
  rw [e0, e1, e2, e3, e4, e5, e6]
  exact builtR' a0 a1 a2 a3 a4 a5 a6 a7 a8 a9 a10 a11 a12 a13 a14 a15 a16 a17 a18 a19 a20 a21 a22 a23 a24 a25 a26 a27 a28 a29 a30 a31 b0 b1 b2 b3 b4 b5 b6 b7 b8 b9 b10 b11 b12 b13 b14 b15 b16 b17 b18 b19 b20 b21 b22 b23 b24 b25 b26 b27 b28 b29 b30 b31 s1 s2 s3 s4 s5 A n c k li ag ps re
def tameM (m : Msg) : Msg := { m with ses := m.ses.take 2100, sha := m.sha.take 2100, tic := m.tic.take 2100, non := m.non.take 2100, sig := m.sig.take 2100, certs := cutP m.certs }
/-- a message of the call's own -/
def RIo (w : World) (D : Nat) (m : Msg) (cs : List Value) : Prop := (m.rnd.length = 32 ∧ m.mark.length = 32) ∧ ∃ vc, cs = rC m vc ∧ Strs w D vc m.certs
theorem RIo.rin {w : World} {D : Nat} {m : Msg} {cs : List Value} (h : RIo w D m cs) : RIn w m cs := by
  obtain ⟨hl, vc, e, hc⟩ := h
  exact ⟨hl, vc, e, hc.strR⟩
theorem RIo.kept {w w' : World} {D k : Nat} {m : Msg} {cs : List Value} (h : RIo w D m cs) (hg : w.grownBy w' (some k)) (hk : k < D) : RIo w' D m cs := by
  obtain ⟨hl, vc, e, hc⟩ := h
  exact ⟨hl, vc, e, hc.kept hg hk⟩
theorem exec_load_mid {P : Program} {w : World} {o : Oper} {a : Act} (ty : TypeId) (x : Operand) (ho : o.op = .load ty x) (b i : Nat) (hx : a.eval x = .pointer (some ⟨b, i, none⟩)) (cs : List Value) (d : TypeDesc) (hc : w.rangeAt b i cs) (hu : P.underlying ty = some d) (hd : d.isRow = true) (hi : (P.info? ty).map (·.size) = some cs.length) :
    (execOp a.eval o).run P w = .ok (.value (.agg cs.toArray)) w := by
  unfold execOp
  simp only [ho, hx, Instr.loadAt, Instr.sureAddr, Sem.run_bind, Sem.run_pure, Result.andThen_ok, run_loadVar_mid w b i ty cs d hc hu hd hi]
set_option maxRecDepth 100000 in
theorem zeroR : Zero Tryd.prog 25 (mC (zeroM 0) (TX []) (TX []) (TX []) (TX []) (TX []) (.slice none 0 0)) := ⟨_, _, rfl, rfl, by kernel_rfl⟩
theorem wp_store_blk {P : Program} {o : Oper} {a : Act} {w : World} {K : Act → World → Prop} {Q : Exit → Act → World → Prop} (ty : TypeId) (x y : Operand) (ho : o.op = .store ty x y) (hd : o.dst = none)
    (g : Nat) (cells : List Value) (hx : a.eval x = .pointer (some ⟨g, 0, none⟩)) (hy : a.eval y = .agg cells.toArray)
    (t : TypeId) (old : List Value) (hg : Blk w g t old) (hi : (P.info? ty).map (·.size) = some cells.length)
    (hold : old.length = cells.length) (h1 : cells.toArray.all (·.oneCell') = true)
    (h : ∀ w', Blk w' g t cells → w.grownBy w' (some g) → K a w') : o.wp P a w K Q :=
  wp_store_row ty x y ho g cells.toArray hx hy t old.toArray hg (by simpa using hi) (by simpa using hold) h1 (by rw [hd]; exact h _ (hg.row _) (grown_setRow _ _ _))
theorem infoR : (Tryd.prog.info? 25).map (·.size) = some 75 := by kernel_rfl
set_option maxRecDepth 100000 in
set_option maxHeartbeats 1000000 in
theorem tame_e (m : Msg) (cs : List Value) (w : World) (h : RIn w m cs) : Calls Tryd.prog 9 #[.agg cs.toArray] w fun e w' => ∃ cs', e = .returned (.agg cs'.toArray) ∧ RIo w' w.heap.size (tameM m) cs' ∧ Below w.heap.size w w' := by
  go_enter Tryd.func9, Tryd.ntmps9
  go_upto_region 0 with (fail)
  refine wp_region_lit ?_
  refine wpList_plain rfl (fun K hK => ?_)
  go_simp
  refine hK _ _ ?_
  clear hK K
  have b1 := Blk.new w 25 cs
  have hb1 : Below w.heap.size w (w.alloc (.cells cs.toArray 25)) := (Below.refl _ _).alloc (Nat.le_refl _) _
  have hM1 : RAt (w.alloc (.cells cs.toArray 25)) w.heap.size m := ⟨cs, b1, h.below hb1⟩
  have H0 := Lib.hid h
  obtain ⟨g1, hg1⟩ : ∃ g, g = w.heap.size := ⟨_, rfl⟩
  rw [← hg1] at hM1 b1
  simp only [← hg1]
  clear h
  generalize w.alloc (.cells cs.toArray 25) = w1 at *
  try simp only [Act.put, zSa, zSz, zSs]
  refine wpList_new_blk rfl 25 rfl _ zeroR ?_
  intro g2 w2 hg2 b2 hb2
  try simp only [Act.put, zSa, zSz, zSs]
  have HG2 := Lib.hid (show w.heap.size ≤ g2 ∧ g1 ≠ g2 by rw [hg2]; exact ⟨hb1.size, by have := b1.lt; omega⟩)
  have hM2 := hM1.below hb2
  have hb12 := hb1.trans (hb2.mono hb1.size)
  obtain ⟨vc, hvc, hsc⟩ := hM2.certs
  clear hg2 hM1 hb1 hg1
  go_upto_region 2 with (go_at_call 20; refine (func1_e vc m.certs _ hsc).mono ?_; rintro e w3 ⟨v3, rfl, hS3, hb3⟩)
  have HM := Lib.hid (fun (W : World) (hW : w3.grownBy W (some g2)) => (show RAt W g1 m from ⟨cs, ((b1.below hb2 b1.lt).below hb3 (Nat.lt_of_lt_of_le b1.lt hb2.size)).grown hW (fun e => HG2.out.2 (Option.some.inj e)), H0.out.below ((hb12.trans (hb3.mono hb12.size)).trans (grown_below hW HG2.out.1 (Nat.le_trans hb12.size hb3.size)))⟩))
  have HLN := Lib.hid hM2.lens
  have B2 := Lib.hid (b2.below hb3 b2.lt)
  have HB3 := Lib.hid (hb12.trans (hb3.mono hb12.size))
  have HG3 := Lib.hid b2.lt
  obtain ⟨A, c, e3⟩ := hS3.slice
  subst e3
  have HS3 := Lib.hid hS3
  clear hM2 hvc hsc hb3 b2 hb12 hS3 hb2 b1
  refine wp_region_noPanic ?_
  refine wp_region_held_drew (S := fun W => w3.grownBy W (some g2)) (by kernel_rfl) (by exact grown_drew (grown_refl w3 _)) (fun hHeld => ?_)
  refine wpAnyH_take (i := 0) (oi := ⟨_, _, _, _, _, _⟩) (v := ?_) rfl (by kernel_rfl) (by kernel_rfl) (by kernel_rfl) (fun _ _ _ h => h) (Or.inl ⟨by rfl, ?_⟩) hHeld ?_
  rotate_left 1
  · (intro W hSw; (try dsimp only at hSw); go_simp; try with_reducible rfl)
  try simp only [Act.put, zSa, zSz, zSs]
  refine wpAnyH_take (i := 1) (oi := ⟨_, _, _, _, _, _⟩) (v := ?_) rfl (by kernel_rfl) (by kernel_rfl) (by kernel_rfl) (fun _ _ _ h => h) (Or.inl ⟨by rfl, ?_⟩) hHeld ?_
  rotate_left 1
  · (intro W hSw; (try dsimp only at hSw); have hcc := (HM.out W hSw).kind; go_simp; try with_reducible rfl)
  try simp only [Act.put, zSa, zSz, zSs]
  refine wpAnyH_take (i := 2) (oi := ⟨_, _, _, _, _, _⟩) (v := ?_) rfl (by kernel_rfl) (by kernel_rfl) (by kernel_rfl) (fun _ _ _ h => h) (Or.inl ⟨by rfl, ?_⟩) hHeld ?_
  rotate_left 1
  · (intro W hSw; (try dsimp only at hSw); go_simp; try with_reducible rfl)
  try simp only [Act.put, zSa, zSz, zSs]
  refine wpAnyH_take (i := 3) (oi := ⟨_, _, _, _, _, _⟩) (v := ?_) rfl (by kernel_rfl) (by kernel_rfl) (by kernel_rfl) (fun _ _ _ h => h) (Or.inl ⟨by rfl, ?_⟩) hHeld ?_
  rotate_left 1
  · (intro W hSw; (try dsimp only at hSw); refine exec_load_mid 22 (.tmp 9) ?_ g1 1 ?_ (m.rnd.map B8) _ (HM.out W hSw).rnd Tryd.underlying22 rfl (info40.trans (by rw [List.length_map, HLN.out.1])) <;> rfl)
  try simp only [Act.put, zSa, zSz, zSs]
  refine wpAnyH_take (i := 4) (oi := ⟨_, _, _, _, _, _⟩) (v := ?_) rfl (by kernel_rfl) (by kernel_rfl) (by kernel_rfl) (fun _ _ _ h => h) (Or.inl ⟨by rfl, ?_⟩) hHeld ?_
  rotate_left 1
  · (intro W hSw; (try dsimp only at hSw); go_simp; try with_reducible rfl)
  try simp only [Act.put, zSa, zSz, zSs]
  refine wpAnyH_take (i := 5) (oi := ⟨_, _, _, _, _, _⟩) (v := ?_) rfl (by kernel_rfl) (by kernel_rfl) (by kernel_rfl) (fun _ _ _ h => h) (Or.inl ⟨by rfl, ?_⟩) hHeld ?_
  rotate_left 1
  · (intro W hSw; (try dsimp only at hSw); refine exec_load_mid 22 (.tmp 11) ?_ g1 33 ?_ (m.mark.map B8) _ (HM.out W hSw).mark Tryd.underlying22 rfl (info40.trans (by rw [List.length_map, HLN.out.2])) <;> rfl)
  try simp only [Act.put, zSa, zSz, zSs]
  refine wpAnyH_take (i := 6) (oi := ⟨_, _, _, _, _, _⟩) (v := ?_) rfl (by kernel_rfl) (by kernel_rfl) (by kernel_rfl) (fun _ _ _ h => h) (Or.inl ⟨by rfl, ?_⟩) hHeld ?_
  rotate_left 1
  · (intro W hSw; (try dsimp only at hSw); go_simp; try with_reducible rfl)
  try simp only [Act.put, zSa, zSz, zSs]
  refine wpAnyH_take (i := 7) (oi := ⟨_, _, _, _, _, _⟩) (v := ?_) rfl (by kernel_rfl) (by kernel_rfl) (by kernel_rfl) (fun _ _ _ h => h) (Or.inl ⟨by rfl, ?_⟩) hHeld ?_
  rotate_left 1
  · (intro W hSw; (try dsimp only at hSw); have hcc := (HM.out W hSw).ses; go_simp; try with_reducible rfl)
  try simp only [Act.put, zSa, zSz, zSs]
  refine wpAnyH_take (i := 9) (oi := ⟨_, _, _, _, _, _⟩) (v := ?_) rfl (by kernel_rfl) (by kernel_rfl) (by kernel_rfl) (fun _ _ _ h => h) (Or.inl ⟨by rfl, ?_⟩) hHeld ?_
  rotate_left 1
  · (intro W hSw; (try dsimp only at hSw); go_simp; try with_reducible rfl)
  try simp only [Act.put, zSa, zSz, zSs]
  refine wpAnyH_take (i := 10) (oi := ⟨_, _, _, _, _, _⟩) (v := ?_) rfl (by kernel_rfl) (by kernel_rfl) (by kernel_rfl) (fun _ _ _ h => h) (Or.inl ⟨by rfl, ?_⟩) hHeld ?_
  rotate_left 1
  · (intro W hSw; (try dsimp only at hSw); have hcc := (HM.out W hSw).sha; go_simp; try with_reducible rfl)
  try simp only [Act.put, zSa, zSz, zSs]
  refine wpAnyH_take (i := 12) (oi := ⟨_, _, _, _, _, _⟩) (v := ?_) rfl (by kernel_rfl) (by kernel_rfl) (by kernel_rfl) (fun _ _ _ h => h) (Or.inl ⟨by rfl, ?_⟩) hHeld ?_
  rotate_left 1
  · (intro W hSw; (try dsimp only at hSw); go_simp; try with_reducible rfl)
  try simp only [Act.put, zSa, zSz, zSs]
  refine wpAnyH_take (i := 13) (oi := ⟨_, _, _, _, _, _⟩) (v := ?_) rfl (by kernel_rfl) (by kernel_rfl) (by kernel_rfl) (fun _ _ _ h => h) (Or.inl ⟨by rfl, ?_⟩) hHeld ?_
  rotate_left 1
  · (intro W hSw; (try dsimp only at hSw); have hcc := (HM.out W hSw).tic; go_simp; try with_reducible rfl)
  try simp only [Act.put, zSa, zSz, zSs]
  refine wpAnyH_take (i := 15) (oi := ⟨_, _, _, _, _, _⟩) (v := ?_) rfl (by kernel_rfl) (by kernel_rfl) (by kernel_rfl) (fun _ _ _ h => h) (Or.inl ⟨by rfl, ?_⟩) hHeld ?_
  rotate_left 1
  · (intro W hSw; (try dsimp only at hSw); go_simp; try with_reducible rfl)
  try simp only [Act.put, zSa, zSz, zSs]
  refine wpAnyH_take (i := 16) (oi := ⟨_, _, _, _, _, _⟩) (v := ?_) rfl (by kernel_rfl) (by kernel_rfl) (by kernel_rfl) (fun _ _ _ h => h) (Or.inl ⟨by rfl, ?_⟩) hHeld ?_
  rotate_left 1
  · (intro W hSw; (try dsimp only at hSw); have hcc := (HM.out W hSw).non; go_simp; try with_reducible rfl)
  try simp only [Act.put, zSa, zSz, zSs]
  refine wpAnyH_take (i := 18) (oi := ⟨_, _, _, _, _, _⟩) (v := ?_) rfl (by kernel_rfl) (by kernel_rfl) (by kernel_rfl) (fun _ _ _ h => h) (Or.inl ⟨by rfl, ?_⟩) hHeld ?_
  rotate_left 1
  · (intro W hSw; (try dsimp only at hSw); go_simp; try with_reducible rfl)
  try simp only [Act.put, zSa, zSz, zSs]
  refine wpAnyH_take (i := 19) (oi := ⟨_, _, _, _, _, _⟩) (v := ?_) rfl (by kernel_rfl) (by kernel_rfl) (by kernel_rfl) (fun _ _ _ h => h) (Or.inl ⟨by rfl, ?_⟩) hHeld ?_
  rotate_left 1
  · (intro W hSw; (try dsimp only at hSw); have hcc := (HM.out W hSw).sig; go_simp; try with_reducible rfl)
  try simp only [Act.put, zSa, zSz, zSs]
  refine wpAnyH_take (i := 21) (oi := ⟨_, _, _, _, _, _⟩) (v := ?_) rfl (by kernel_rfl) (by kernel_rfl) (by kernel_rfl) (fun _ _ _ h => h) (Or.inl ⟨by rfl, ?_⟩) hHeld ?_
  rotate_left 1
  · (intro W hSw; (try dsimp only at hSw); go_simp; try with_reducible rfl)
  try simp only [Act.put, zSa, zSz, zSs]
  refine wpAnyH_take (i := 22) (oi := ⟨_, _, _, _, _, _⟩) (v := ?_) rfl (by kernel_rfl) (by kernel_rfl) (by kernel_rfl) (fun _ _ _ h => h) (Or.inl ⟨by rfl, ?_⟩) hHeld ?_
  rotate_left 1
  · (intro W hSw; (try dsimp only at hSw); go_simp; try with_reducible rfl)
  try simp only [Act.put, zSa, zSz, zSs]
  refine wpAnyH_take (i := 23) (oi := ⟨_, _, _, _, _, _⟩) (v := ?_) rfl (by kernel_rfl) (by kernel_rfl) (by kernel_rfl) (fun _ _ _ h => h) (Or.inl ⟨by rfl, ?_⟩) hHeld ?_
  rotate_left 1
  · (intro W hSw; (try dsimp only at hSw); have hcc := (HM.out W hSw).life; go_simp; try with_reducible rfl)
  try simp only [Act.put, zSa, zSz, zSs]
  refine wpAnyH_take (i := 24) (oi := ⟨_, _, _, _, _, _⟩) (v := ?_) rfl (by kernel_rfl) (by kernel_rfl) (by kernel_rfl) (fun _ _ _ h => h) (Or.inl ⟨by rfl, ?_⟩) hHeld ?_
  rotate_left 1
  · (intro W hSw; (try dsimp only at hSw); go_simp; try with_reducible rfl)
  try simp only [Act.put, zSa, zSz, zSs]
  refine wpAnyH_take (i := 25) (oi := ⟨_, _, _, _, _, _⟩) (v := ?_) rfl (by kernel_rfl) (by kernel_rfl) (by kernel_rfl) (fun _ _ _ h => h) (Or.inl ⟨by rfl, ?_⟩) hHeld ?_
  rotate_left 1
  · (intro W hSw; (try dsimp only at hSw); have hcc := (HM.out W hSw).age; go_simp; try with_reducible rfl)
  try simp only [Act.put, zSa, zSz, zSs]
  refine wpAnyH_take (i := 26) (oi := ⟨_, _, _, _, _, _⟩) (v := ?_) rfl (by kernel_rfl) (by kernel_rfl) (by kernel_rfl) (fun _ _ _ h => h) (Or.inl ⟨by rfl, ?_⟩) hHeld ?_
  rotate_left 1
  · (intro W hSw; (try dsimp only at hSw); go_simp; try with_reducible rfl)
  try simp only [Act.put, zSa, zSz, zSs]
  refine wpAnyH_take (i := 27) (oi := ⟨_, _, _, _, _, _⟩) (v := ?_) rfl (by kernel_rfl) (by kernel_rfl) (by kernel_rfl) (fun _ _ _ h => h) (Or.inl ⟨by rfl, ?_⟩) hHeld ?_
  rotate_left 1
  · (intro W hSw; (try dsimp only at hSw); have hcc := (HM.out W hSw).psk; go_simp; try with_reducible rfl)
  try simp only [Act.put, zSa, zSz, zSs]
  refine wpAnyH_take (i := 28) (oi := ⟨_, _, _, _, _, _⟩) (v := ?_) rfl (by kernel_rfl) (by kernel_rfl) (by kernel_rfl) (fun _ _ _ h => h) (Or.inl ⟨by rfl, ?_⟩) hHeld ?_
  rotate_left 1
  · (intro W hSw; (try dsimp only at hSw); go_simp; try with_reducible rfl)
  try simp only [Act.put, zSa, zSz, zSs]
  refine wpAnyH_take (i := 29) (oi := ⟨_, _, _, _, _, _⟩) (v := ?_) rfl (by kernel_rfl) (by kernel_rfl) (by kernel_rfl) (fun _ _ _ h => h) (Or.inl ⟨by rfl, ?_⟩) hHeld ?_
  rotate_left 1
  · (intro W hSw; (try dsimp only at hSw); have hcc := (HM.out W hSw).retry; go_simp; try with_reducible rfl)
  try simp only [Act.put, zSa, zSz, zSs]
  refine wpAnyH_ready (rs := [8]) (by kernel_rfl) (by simp) ?_
  refine AllReadyH.cons (o := ⟨_, _, _, _, _, _⟩) rfl (fun K hK => ?_) AllReadyH.nil
  go_simp
  go_at_call 21
  refine (short_e m.ses _).mono ?_
  rintro e w5 ⟨rfl, he5⟩
  obtain rfl := he5.symm
  try go_wp2_with fail
  refine hK.out _ _ hHeld (fun hHeld => ?_)
  clear hK K
  try simp only [Act.put, zSa, zSz, zSs]
  refine wpAnyH_ready (rs := [11]) (by kernel_rfl) (by simp) ?_
  refine AllReadyH.cons (o := ⟨_, _, _, _, _, _⟩) rfl (fun K hK => ?_) AllReadyH.nil
  go_simp
  go_at_call 21
  refine (short_e m.sha _).mono ?_
  rintro e w5 ⟨rfl, he5⟩
  obtain rfl := he5.symm
  try go_wp2_with fail
  refine hK.out _ _ hHeld (fun hHeld => ?_)
  clear hK K
  try simp only [Act.put, zSa, zSz, zSs]
  refine wpAnyH_ready (rs := [14]) (by kernel_rfl) (by simp) ?_
  refine AllReadyH.cons (o := ⟨_, _, _, _, _, _⟩) rfl (fun K hK => ?_) AllReadyH.nil
  go_simp
  go_at_call 21
  refine (short_e m.tic _).mono ?_
  rintro e w5 ⟨rfl, he5⟩
  obtain rfl := he5.symm
  try go_wp2_with fail
  refine hK.out _ _ hHeld (fun hHeld => ?_)
  clear hK K
  try simp only [Act.put, zSa, zSz, zSs]
  refine wpAnyH_ready (rs := [17]) (by kernel_rfl) (by simp) ?_
  refine AllReadyH.cons (o := ⟨_, _, _, _, _, _⟩) rfl (fun K hK => ?_) AllReadyH.nil
  go_simp
  go_at_call 21
  refine (short_e m.non _).mono ?_
  rintro e w5 ⟨rfl, he5⟩
  obtain rfl := he5.symm
  try go_wp2_with fail
  refine hK.out _ _ hHeld (fun hHeld => ?_)
  clear hK K
  try simp only [Act.put, zSa, zSz, zSs]
  refine wpAnyH_ready (rs := [20]) (by kernel_rfl) (by simp) ?_
  refine AllReadyH.cons (o := ⟨_, _, _, _, _, _⟩) rfl (fun K hK => ?_) AllReadyH.nil
  go_simp
  go_at_call 21
  refine (short_e m.sig _).mono ?_
  rintro e w5 ⟨rfl, he5⟩
  obtain rfl := he5.symm
  try go_wp2_with fail
  refine hK.out _ _ hHeld (fun hHeld => ?_)
  clear hK K
  try simp only [Act.put, zSa, zSz, zSs]
  refine wpAnyH_ready (rs := [30]) (by kernel_rfl) (by simp) ?_
  refine AllReadyH.cons (o := ⟨_, _, _, _, _, _⟩) rfl (fun K hK => ?_) AllReadyH.nil
  refine wp_builtV 25 _ rfl [(0, .int .i64 m.kind), (1, .agg (m.rnd.map B8).toArray), (2, .agg (m.mark.map B8).toArray), (3, TX (m.ses.take 2100)), (4, TX (m.sha.take 2100)), (5, TX (m.tic.take 2100)), (6, TX (m.non.take 2100)), (7, TX (m.sig.take 2100)), (8, .slice A (cutP m.certs).length c), (9, .int .i64 m.life), (10, .int .i64 m.age), (11, .bool m.psk), (12, .bool m.retry)] rfl _ (builtR m.rnd m.mark HLN.out.1 HLN.out.2 (m.ses.take 2100) (m.sha.take 2100) (m.tic.take 2100) (m.non.take 2100) (m.sig.take 2100) A (cutP m.certs).length c m.kind m.life m.age m.psk m.retry (tameM m) ⟨rfl, rfl, rfl, rfl, rfl, rfl, rfl⟩) ?_
  refine hK.out _ _ hHeld (fun hHeld => ?_)
  clear hK K
  obtain ⟨cz, hcz⟩ : ∃ cz, cz = mC (tameM m) (TX (m.ses.take 2100)) (TX (m.sha.take 2100)) (TX (m.tic.take 2100)) (TX (m.non.take 2100)) (TX (m.sig.take 2100)) (.slice A (cutP m.certs).length c) := ⟨_, rfl⟩
  simp only [← hcz]
  have HZ := Lib.hid (show RIn w3 (tameM m) cz from ⟨HLN.out, _, hcz, HS3.out.strR⟩)
  have HCZ := Lib.hid hcz
  clear hcz
  try simp only [Act.put, zSa, zSz, zSs]
  refine wpAnyH_ready (rs := [31]) (by kernel_rfl) (by simp) ?_
  refine AllReadyH.cons (o := ⟨_, _, _, _, _, _⟩) rfl (fun K hK => ?_) AllReadyH.nil
  refine wp_store_blk 25 (.tmp 2) (.tmp 37) rfl rfl g2 cz rfl rfl _ _ (B2.out.drewN 1) (infoR.trans (by rw [HZ.out.len])) (by rw [HZ.out.len, mC_length rfl rfl]) HZ.out.one ?_
  intro w6 b6 hg6
  refine hK.out _ _ (grown_from_drew hg6) (fun hHeld => ?_)
  clear hK K
  try simp only [Act.put, zSa, zSz, zSs]
  refine wpAnyH_done (by kernel_rfl) ?_ _
  refine NoPanic.normal ?_
  go_wp2
  refine bodyPost_ret (results_row1 rfl _ _ g2 0 cz _ rfl (rangeAt_of_blk b6) Tryd.underlying25 rfl (infoR.trans (by rw [HZ.out.len]))) rfl ?_
  exact ⟨cz, rfl, ⟨HLN.out, _, HCZ.out, (HS3.out.kept hHeld HG3.out).base_le (Nat.le_of_lt (Nat.lt_of_le_of_lt HG2.out.1 HG3.out))⟩, HB3.out.trans (grown_below hHeld HG2.out.1 HB3.out.size)⟩
end Go.Proofs.YtagblbfbjemfhaaDoor
