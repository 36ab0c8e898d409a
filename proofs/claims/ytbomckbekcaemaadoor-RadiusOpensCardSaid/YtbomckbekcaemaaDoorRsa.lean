/-
  The document's attributes: rows of a number and a text; the contracts of the law's attrs and told.
-/
import Derived.Test.YtbomckbekcaemaaDoorRdn
namespace Go.Proofs.YtbomckbekcaemaaDoor
open Go.RowKit

/-- The document's attributes that lie in a row of cells, two for each, below block B. -/
def SIn (w : World) (B : Nat) (A : Option Addr) (c : Nat) (la : Attrs) : Prop := la.length ≤ c ∧ c ≤ 9223372036854775807 ∧ (0 < la.length → ∃ gp op, A = some ⟨gp, op, none⟩ ∧ gp < B ∧
  ∀ j, j < la.length → w.cell? ⟨gp, op + j * 2, none⟩ = some (.int .i64 (la.getD j (0, [])).1) ∧ w.cell? ⟨gp, op + j * 2 + 1, none⟩ = some (.string ⟨(la.getD j (0, [])).2.toArray⟩))
theorem SIn.below {w w' : World} {B : Nat} {A : Option Addr} {c : Nat} {la : Attrs} (h : SIn w B A c la) (hb : Below B w w') : SIn w' B A c la :=
  ⟨h.1, h.2.1, fun h0 => by
    obtain ⟨gp, op, e, hl, hj⟩ := h.2.2 h0
    exact ⟨gp, op, e, hl, fun j hjl => ⟨(hb.cell (p := ⟨gp, op + j * 2, none⟩) hl).trans (hj j hjl).1, (hb.cell (p := ⟨gp, op + j * 2 + 1, none⟩) hl).trans (hj j hjl).2⟩⟩⟩
theorem SIn.weaken {w : World} {B B' : Nat} {A : Option Addr} {c : Nat} {la : Attrs} (h : SIn w B A c la) (hB : B ≤ B') : SIn w B' A c la :=
  ⟨h.1, h.2.1, fun h0 => by
    obtain ⟨gp, op, e, hl, hj⟩ := h.2.2 h0
    exact ⟨gp, op, e, Nat.lt_of_lt_of_le hl hB, hj⟩⟩
theorem SIn.up {w w' : World} {A : Option Addr} {c : Nat} {la : Attrs} (h : SIn w w.heap.size A c la) (hb : Below w.heap.size w w') : SIn w' w'.heap.size A c la := (h.below hb).weaken hb.size
/-- The cells of the document's attributes. -/
def cellsS (la : Attrs) : List Value := la.flatMap fun a => [.int .i64 a.1, .string ⟨a.2.toArray⟩]
theorem cellsS_length (la : Attrs) : (cellsS la).length = la.length * 2 := by
  unfold cellsS
  induction la with
  | nil => rfl
  | cons a la ih => rw [List.flatMap_cons, List.length_append, ih]; simp; omega
theorem cellsS_snoc (la : Attrs) (a : Int × List UInt8) : cellsS (la ++ [a]) = cellsS la ++ [.int .i64 a.1, .string ⟨a.2.toArray⟩] := by unfold cellsS; simp
theorem cellsS_at : ∀ (la : Attrs) (j : Nat), j < la.length → (cellsS la)[j * 2]? = some (.int .i64 (la.getD j (0, [])).1) ∧ (cellsS la)[j * 2 + 1]? = some (.string ⟨(la.getD j (0, [])).2.toArray⟩)
  | [], j, h => by simp at h
  | a :: la, 0, _ => ⟨rfl, rfl⟩
  | a :: la, j + 1, h => by
    have := cellsS_at la j (by simpa using h)
    have e : cellsS (a :: la) = .int .i64 a.1 :: .string ⟨a.2.toArray⟩ :: cellsS la := rfl
    rw [e, show (j + 1) * 2 = j * 2 + 1 + 1 by omega, show j * 2 + 1 + 1 + 1 = (j * 2 + 1) + 1 + 1 by omega, List.getElem?_cons_succ, List.getElem?_cons_succ, List.getElem?_cons_succ, List.getElem?_cons_succ, List.getD_cons_succ]
    exact this
/-- The document's attributes in a row of the call's own. -/
def SRow (w : World) (base : Nat) (v : Value) (la : Attrs) : Prop := w.ownsRow base 62 2 v la.length (cellsS la)
theorem SRow.nil (w : World) (base : Nat) : SRow w base (.slice none 0 0) [] := World.ownsRow_nil w base _ 2
theorem SRow.below {w w' : World} {base : Nat} {v : Value} {la : Attrs} (h : SRow w base v la) (hb : Below w.heap.size w w') : SRow w' base v la :=
  World.ownsRow.kept h (grown_of_below hb none) (by cases e : v.ownBlock with | none => exact .inl rfl | some k => exact .inr (by simp))
theorem SRow.lt {w : World} {base : Nat} {v : Value} {la : Attrs} (h : SRow w base v la) : ∀ k, v.ownBlock = some k → base ≤ k ∧ k < w.heap.size := World.ownsRow.lt h
theorem SRow.slice {w : World} {base : Nat} {v : Value} {la : Attrs} (h : SRow w base v la) : ∃ A c, v = .slice A la.length c ∧ SIn w w.heap.size A c la := by
  rcases h.2 with ⟨rfl, h0⟩ | ⟨g, cap, cur, rfl, hb, hg, hnc, hcm, hcs, ht⟩
  · exact ⟨none, 0, by rw [h0], by omega, by omega, fun h1 => by omega⟩
  · have hlt : g < w.heap.size := by
      rcases Nat.lt_or_ge g w.heap.size with hlt | hge
      · exact hlt
      · rw [Array.getElem?_eq_none hge] at hg; cases hg
    have hmx : cap ≤ 9223372036854775807 := by simpa [maxLen] using hcm
    have hlen := cellsS_length la
    refine ⟨some ⟨g, 0, none⟩, cap, rfl, hnc, hmx, fun _ => ⟨g, 0, rfl, hlt, fun j hj => ?_⟩⟩
    obtain ⟨h1, h2⟩ := cellsS_at la j hj
    exact ⟨by rw [Nat.zero_add, World.ownsRow.cellAt h (j * 2) (by omega)]; exact h1, by rw [Nat.zero_add, World.ownsRow.cellAt h (j * 2 + 1) (by omega)]; exact h2⟩
theorem row_belowS {w0 w w' : World} {v : Value} {la : Attrs} (h : Below w0.heap.size w0 w) (hr : SRow w w0.heap.size v la) (hg : w.grownBy w' v.ownBlock) : Below w0.heap.size w0 w' :=
  h.trans ⟨hg.os, hg.tape, hg.output, hg.size, fun k hk => hg.block k (Nat.lt_of_lt_of_le hk h.size) (fun e => by have := (hr.lt _ e.symm).1; omega)⟩
theorem infS : (Tryd.prog.info? 62).map (fun i => (i.zero, i.size, i.bytes)) = some (some (.agg #[.int .i64 0, .string ⟨#[]⟩]), 2, 24) := by kernel_rfl
theorem infS2 : (Tryd.prog.info? 62).map (·.size) = some 2 := by kernel_rfl
/-- One attribute more is put behind. -/
theorem wpList_append_s {ops : Array Oper} {rest : List Oper} {o : Oper} {a : Act} {w : World} {Q : Exit → Act → World → Prop} (hgd : o.guard = none) (s x : Operand) (ho : o.op = .call { callee := .builtin .append, args := #[s, x], argTypes := #[23, 23] })
    (base : Nat) (v : Value) (la : Attrs) (kd : Int) (vs : List UInt8) (g : Nat) (hs : a.eval s = v) (hown : SRow w base v la) (hbase : base ≤ w.heap.size) (hx : a.eval x = .slice (some ⟨g, 0, none⟩) 1 1) (hg : Blk w g 62 [.int .i64 kd, .string ⟨vs.toArray⟩]) (hn : la.length + 1 ≤ 1000000)
    (h : ∀ v' w', SRow w' base v' (la ++ [(kd, vs)]) → w.grownBy w' v.ownBlock → wpList Tryd.prog ops Q rest (a.put o.dst v') w') : wpList Tryd.prog ops Q (o :: rest) a w :=
  wpList_append_own (z := .agg #[.int .i64 0, .string ⟨#[]⟩]) (size := 2) (bytes := 24) Tryd.underlying23 infS rfl (by decide) (by decide) hgd s x ho base v la.length (cellsS la) hs hown hbase ⟨g, 0, none⟩ 1 1 hx [.int .i64 kd, .string ⟨vs.toArray⟩] rfl (news_at hg) (by intro u hu; simp at hu; rcases hu with rfl | rfl <;> rfl) hn
    (fun v' w' h2 h3 _ => h v' w' (by unfold SRow; rw [cellsS_snoc, List.length_append]; exact h2) h3)
theorem step_append_s {ops : Array Oper} {o : Oper} {a : Act} {w : World} {K : Act → World → Prop} {Q : Exit → Act → World → Prop} {E : Prop} (hgd : o.guard = none) (s x : Operand) (ho : o.op = .call { callee := .builtin .append, args := #[s, x], argTypes := #[23, 23] })
    (base : Nat) (v : Value) (la : Attrs) (kd : Int) (vs : List UInt8) (g : Nat) (hs : a.eval s = v) (hown : SRow w base v la) (hbase : base ≤ w.heap.size) (hx : a.eval x = .slice (some ⟨g, 0, none⟩) 1 1) (hg : Blk w g 62 [.int .i64 kd, .string ⟨vs.toArray⟩]) (hn : la.length + 1 ≤ 1000000)
    (h : ∀ v' w', SRow w' base v' (la ++ [(kd, vs)]) → w.grownBy w' v.ownBlock → K (a.put o.dst v') w') : if Region.wanted o (yielded ops a.tmps) = true then Oper.wp Tryd.prog o a w K Q else E :=
  step_append_own (z := .agg #[.int .i64 0, .string ⟨#[]⟩]) (size := 2) (bytes := 24) Tryd.underlying23 infS rfl (by decide) (by decide) hgd s x ho base v la.length (cellsS la) hs hown hbase ⟨g, 0, none⟩ 1 1 hx [.int .i64 kd, .string ⟨vs.toArray⟩] rfl (news_at hg) (by intro u hu; simp at hu; rcases hu with rfl | rfl <;> rfl) hn
    (fun v' w' h2 h3 _ => h v' w' (by unfold SRow; rw [cellsS_snoc, List.length_append]; exact h2) h3)
theorem step_bytes_of {ops : Array Oper} {o : Oper} {a : Act} {w : World} {K : Act → World → Prop} {Q : Exit → Act → World → Prop} {E : Prop} (hgd : o.guard = none) (x : Operand) (ho : o.op = .convert 9 26 x)
    (s : List UInt8) (hx : a.eval x = .string ⟨s.toArray⟩) (hn : s.length ≤ 1099511627776)
    (h : ∀ c w', Buf w' w.heap.size (some ⟨w.heap.size, 0, none⟩) s.length c s → Below w.heap.size w w' → K (a.put o.dst (.slice (some ⟨w.heap.size, 0, none⟩) s.length c)) w') : if Region.wanted o (yielded ops a.tmps) = true then Oper.wp Tryd.prog o a w K Q else E := by
  have hwt : Region.wanted o (yielded ops a.tmps) = true := by simp [Region.wanted, hgd]
  rw [if_pos hwt]
  have hr := run_bytes_of_string (P := Tryd.prog) w 9 26 5 ⟨s.toArray⟩ Tryd.underlying9 Tryd.underlying26 Tryd.underlying5
  have e : (⟨s.toArray⟩ : ByteArray).size = s.length := rfl
  have h1 := grownCap_ge w s.length 0 5
  have h2 := grownCap_le_maxLen w s.length 0 5 (by simp only [maxLen]; omega)
  rw [e] at hr
  have h3 := bytesRow_size s (grownCap w s.length 0 5) h1
  unfold Oper.wp execOp
  simp only [ho, hx, hr, Sem.run_bind, Result.andThen_ok, Sem.run_pure]
  refine h _ _ (Buf.made (w := w.drew) (n := s.length) _ _ _ _ (Nat.le_refl _) rfl h1 h2 h3 (.inl (by rw [h3]; exact Nat.le_refl _)) (fun j hj => bytesRow_at s _ j hj)) ?_
  exact (below_drewN (Below.refl _ _) 1).alloc (Nat.le_refl _) _
set_option maxRecDepth 100000 in
set_option maxHeartbeats 1000000 in
theorem attrs_e (A : Option Addr) (c n : Nat) (la : Attrs) (w : World) (hn : la.length = n) (hA : SIn w w.heap.size A c la) (hm : n ≤ 900000) (hv : ∀ j, j < la.length → (la.getD j (0, [])).2.length ≤ 1099511627776) :
    Calls Tryd.prog 32 #[.slice A n c] w (SaidAPost la w) := by
  have hmc : n ≤ c := by rw [← hn]; exact hA.1
  have HNM := Lib.hid (Nat.le_trans hmc hA.2.1)
  have hmc1 : (n : Int) ≤ (c : Int) := Int.ofNat_le.2 hmc
  have HN := Lib.hid hn
  have HA := Lib.hid hA
  clear hn hA hmc
  have HVV := Lib.hid hv
  have HM := Lib.hid hm
  clear hv hm
  go_enter Tryd.func32, Tryd.ntmps32
  go_wp2
  go_loopw [4, 3] (fun i lv wr => ∃ k : Nat, k ≤ n ∧ i = .int .i64 (k : Int) ∧ ARow wr w.heap.size lv (la.take k) ∧ Below w.heap.size w wr) (fun i _ _ => n - (intOf i).toNat)
  case atStart => exact ⟨0, Nat.zero_le _, rfl, ARow.nil _ _, Below.refl _ _⟩
  case round =>
    obtain ⟨k, hk, rfl, hAR, hbr⟩ := hrel
    by_cases hlt : k < n
    · skip
      have hd : (k : Int) < (n : Int) := by omega
      have hkr : k < la.length := by rw [HN.out]; exact hlt
      obtain ⟨gp, op, hAe, hgp, hrow⟩ := HA.out.2.2 (Nat.lt_of_le_of_lt (Nat.zero_le _) hkr)
      obtain ⟨h1, h2⟩ := hrow k hkr
      obtain ⟨kd, v, hkv⟩ : ∃ kd v, la.getD k (0, []) = (kd, v) := ⟨_, _, rfl⟩
      rw [hkv] at h1 h2
      have HC1 := Lib.hid (fun (W : World) (h : Below w.heap.size w W) => (show W.cell? ⟨gp, op + k * 2, none⟩ = some (.int .i64 kd) from (h.cell (p := ⟨gp, op + k * 2, none⟩) hgp).trans h1))
      have HC2 := Lib.hid (fun (W : World) (h : Below w.heap.size w W) => (show W.cell? ⟨gp, op + k * 2 + 1, none⟩ = some (.string ⟨v.toArray⟩) from (h.cell (p := ⟨gp, op + k * 2 + 1, none⟩) hgp).trans h2))
      obtain ⟨hk0, hkn, hkw⟩ := ix_at hlt HNM.out
      have HB := Lib.hid hbr
      have HK := Lib.hid (And.intro hkr hkv)
      have HW := Lib.hid hkw
      subst hAe
      have HAR := Lib.hid hAR
      have HVL := Lib.hid (show v.length ≤ 1099511627776 by have := HVV.out k hkr; rwa [hkv] at this)
      have HLL := Lib.hid (show (la.take k).length + 1 ≤ 1000000 by have := HM.out; rw [List.length_take]; omega)
      have HTK := Lib.hid (show la.take (k + 1) = la.take k ++ [(kd, v)] by rw [take_snocA la k hkr, hkv])
      clear hrow h1 h2 hkv hAR hbr hgp hkw hk hlt hkr
      go_upto_region 5 with (fail)
      clear hd
      refine wp_region_noPanic ?_
      refine wp_region_held_drew (S := fun W => Below w.heap.size w W) (by kernel_rfl) (by exact below_drewN HB.out 1) (fun hHeld => ?_)
      refine wpAnyH_take (i := 0) (oi := ⟨_, _, _, _, _, _⟩) (v := ?_) rfl (by kernel_rfl) (by kernel_rfl) (by kernel_rfl) (fun _ _ _ h => h) (Or.inl ⟨by rfl, ?_⟩) hHeld ?_
      rotate_left 1
      · (intro W hSw; (try dsimp only at hSw); go_simp; try with_reducible rfl)
      try simp only [Act.put, List.setIfInBounds_toArray, List.set_cons_zero, List.set_cons_succ]
      refine wpAnyH_take (i := 1) (oi := ⟨_, _, _, _, _, _⟩) (v := ?_) rfl (by kernel_rfl) (by kernel_rfl) (by kernel_rfl) (fun _ _ _ h => h) (Or.inl ⟨by rfl, ?_⟩) hHeld ?_
      rotate_left 1
      · (intro W hSw; (try dsimp only at hSw); go_simp; try with_reducible rfl)
      try simp only [Act.put, List.setIfInBounds_toArray, List.set_cons_zero, List.set_cons_succ]
      refine wpAnyH_take (i := 2) (oi := ⟨_, _, _, _, _, _⟩) (v := ?_) rfl (by kernel_rfl) (by kernel_rfl) (by kernel_rfl) (fun _ _ _ h => h) (Or.inl ⟨by rfl, ?_⟩) hHeld ?_
      rotate_left 1
      · (intro W hSw; (try dsimp only at hSw); go_simp; try with_reducible rfl)
      try simp only [Act.put, List.setIfInBounds_toArray, List.set_cons_zero, List.set_cons_succ]
      refine wpAnyH_take (i := 3) (oi := ⟨_, _, _, _, _, _⟩) (v := ?_) rfl (by kernel_rfl) (by kernel_rfl) (by kernel_rfl) (fun _ _ _ h => h) (Or.inl ⟨by rfl, ?_⟩) hHeld ?_
      rotate_left 1
      · (intro W hSw; (try dsimp only at hSw); go_simp; try with_reducible rfl)
      try simp only [Act.put, List.setIfInBounds_toArray, List.set_cons_zero, List.set_cons_succ]
      refine wpAnyH_take (i := 4) (oi := ⟨_, _, _, _, _, _⟩) (v := ?_) rfl (by kernel_rfl) (by kernel_rfl) (by kernel_rfl) (fun _ _ _ h => h) (Or.inl ⟨by rfl, ?_⟩) hHeld ?_
      rotate_left 1
      · (intro W hSw; (try dsimp only at hSw); go_simp; try with_reducible rfl)
      try simp only [Act.put, List.setIfInBounds_toArray, List.set_cons_zero, List.set_cons_succ]
      refine wpAnyH_take (i := 5) (oi := ⟨_, _, _, _, _, _⟩) (v := ?_) rfl (by kernel_rfl) (by kernel_rfl) (by kernel_rfl) (fun _ _ _ h => h) (Or.inl ⟨by rfl, ?_⟩) hHeld ?_
      rotate_left 1
      · (intro W hSw; (try dsimp only at hSw); have hcc := HC1.out W hSw; go_simp; try with_reducible rfl)
      try simp only [Act.put, List.setIfInBounds_toArray, List.set_cons_zero, List.set_cons_succ]
      refine wpAnyH_take (i := 6) (oi := ⟨_, _, _, _, _, _⟩) (v := ?_) rfl (by kernel_rfl) (by kernel_rfl) (by kernel_rfl) (fun _ _ _ h => h) (Or.inl ⟨by rfl, ?_⟩) hHeld ?_
      rotate_left 1
      · (intro W hSw; (try dsimp only at hSw); go_simp; try with_reducible rfl)
      try simp only [Act.put, List.setIfInBounds_toArray, List.set_cons_zero, List.set_cons_succ]
      refine wpAnyH_take (i := 7) (oi := ⟨_, _, _, _, _, _⟩) (v := ?_) rfl (by kernel_rfl) (by kernel_rfl) (by kernel_rfl) (fun _ _ _ h => h) (Or.inl ⟨by rfl, ?_⟩) hHeld ?_
      rotate_left 1
      · (intro W hSw; (try dsimp only at hSw); go_simp; try with_reducible rfl)
      try simp only [Act.put, List.setIfInBounds_toArray, List.set_cons_zero, List.set_cons_succ]
      refine wpAnyH_take (i := 8) (oi := ⟨_, _, _, _, _, _⟩) (v := ?_) rfl (by kernel_rfl) (by kernel_rfl) (by kernel_rfl) (fun _ _ _ h => h) (Or.inl ⟨by rfl, ?_⟩) hHeld ?_
      rotate_left 1
      · (intro W hSw; (try dsimp only at hSw); go_simp; try with_reducible rfl)
      try simp only [Act.put, List.setIfInBounds_toArray, List.set_cons_zero, List.set_cons_succ]
      refine wpAnyH_take (i := 9) (oi := ⟨_, _, _, _, _, _⟩) (v := ?_) rfl (by kernel_rfl) (by kernel_rfl) (by kernel_rfl) (fun _ _ _ h => h) (Or.inl ⟨by rfl, ?_⟩) hHeld ?_
      rotate_left 1
      · (intro W hSw; (try dsimp only at hSw); go_simp; try with_reducible rfl)
      try simp only [Act.put, List.setIfInBounds_toArray, List.set_cons_zero, List.set_cons_succ]
      refine wpAnyH_take (i := 10) (oi := ⟨_, _, _, _, _, _⟩) (v := ?_) rfl (by kernel_rfl) (by kernel_rfl) (by kernel_rfl) (fun _ _ _ h => h) (Or.inl ⟨by rfl, ?_⟩) hHeld ?_
      rotate_left 1
      · (intro W hSw; (try dsimp only at hSw); have hcc := HC2.out W hSw; go_simp; try with_reducible rfl)
      try simp only [Act.put, List.setIfInBounds_toArray, List.set_cons_zero, List.set_cons_succ]
      replace hHeld : Below w.heap.size w wr.drew := hHeld
      have hWd : Below wr.heap.size wr wr.drew := below_drewN (Below.refl _ _) 1
      generalize wr.drew = wd at *
      refine wpAnyH_ready (rs := [11]) (by kernel_rfl) (by simp) ?_
      refine AllReadyH.cons (o := ⟨_, _, _, _, _, _⟩) rfl (fun K hK => ?_) AllReadyH.nil
      refine step_bytes_of (by rfl) (.tmp 21) rfl v rfl HVL.out ?_
      intro c5 w5 hB5 hb5
      have hgd5 := hHeld.size
      have hW5 := hWd.trans (hb5.mono hWd.size)
      have hgr : wr.heap.size ≤ wd.heap.size := hWd.size
      refine hK.out _ _ (hHeld.trans (hb5.mono hgd5)) (fun hHeld => ?_)
      replace hHeld : Below w.heap.size w w5 := hHeld
      clear hK K hb5 hWd
      generalize wd.heap.size = g5 at *
      try simp only [Act.put, List.setIfInBounds_toArray, List.set_cons_zero, List.set_cons_succ]
      refine wpAnyH_take (i := 12) (oi := ⟨_, _, _, _, _, _⟩) (v := ?_) rfl (by kernel_rfl) (by kernel_rfl) (by kernel_rfl) (fun _ _ _ h => h) (Or.inl ⟨by rfl, ?_⟩) hHeld ?_
      rotate_left 1
      · (intro W hSw; (try dsimp only at hSw); go_simp; try with_reducible rfl)
      try simp only [Act.put, List.setIfInBounds_toArray, List.set_cons_zero, List.set_cons_succ]
      refine wpAnyH_ready (rs := [13]) (by kernel_rfl) (by simp) ?_
      refine AllReadyH.cons (o := ⟨_, _, _, _, _, _⟩) rfl (fun K hK => ?_) AllReadyH.nil
      go_simp
      have hal : Below w5.heap.size w5 (w5.alloc (.cells #[.int .i64 kd, .slice (some ⟨g5, 0, none⟩) v.length c5] 69)) := (Below.refl _ _).alloc (Nat.le_refl _) _
      have hns := news_at (Blk.new_of w5 69 #[.int .i64 kd, .slice (some ⟨g5, 0, none⟩) v.length c5] [.int .i64 kd, .slice (some ⟨g5, 0, none⟩) v.length c5] rfl)
      have hIx := (hB5.toIn (Nat.le_refl _)).up hal
      have hW6 := hW5.trans (hal.mono hW5.size)
      refine hK.out _ _ (hHeld.trans (hal.mono hHeld.size)) (fun hHeld => ?_)
      replace hHeld : Below w.heap.size w (w5.alloc (.cells #[.int .i64 kd, .slice (some ⟨g5, 0, none⟩) v.length c5] 69)) := hHeld
      clear hK K hal hW5 hB5
      generalize w5.heap.size = g6 at *
      generalize w5.alloc (.cells #[.int .i64 kd, .slice (some ⟨g5, 0, none⟩) v.length c5] 69) = w6 at *
      try simp only [Act.put, List.setIfInBounds_toArray, List.set_cons_zero, List.set_cons_succ]
      refine wpAnyH_ready (rs := [14]) (by kernel_rfl) (by simp) ?_
      refine AllReadyH.cons (o := ⟨_, _, _, _, _, _⟩) rfl (fun K hK => ?_) AllReadyH.nil
      obtain ⟨cells, hown, hcells⟩ := HAR.out.below hW6
      refine step_append_own (z := .agg #[.int .i64 0, .slice none 0 0]) (size := 2) (bytes := 32) Tryd.underlying28 infAttr rfl (by decide) (by decide) rfl (.tmp 11) (.tmp 24) rfl w.heap.size u3 (la.take k).length cells rfl hown hHeld.size ⟨g6, 0, none⟩ 1 1 rfl [.int .i64 kd, .slice (some ⟨g5, 0, none⟩) v.length c5] rfl hns (by intro u hu; simp at hu; rcases hu with rfl | rfl <;> rfl) HLL.out ?_
      intro v7 w7 hw7 hg7 hv7
      have hrl := fun (k : Nat) (e : u3.ownBlock = some k) => (HAR.out.lt k e)
      have HS7 := Lib.hid (ARow.snoc (kd := kd) (x := v) (Ax := some ⟨g5, 0, none⟩) (cx := c5) (HAR.out.below hW6) hw7 hg7 hv7 hIx (fun _ a e => ⟨fun e2 => by cases e; have h1 := (hrl _ e2).2; simp only at h1; omega, by cases e; simp only; omega⟩) cells rfl ⟨hown, hcells⟩)
      have hHeld7 := hHeld.trans (show Below w.heap.size w6 w7 from ⟨hg7.os, hg7.tape, hg7.output, hg7.size, fun k hk => hg7.block k (Nat.lt_of_lt_of_le hk hHeld.size) (fun e => by have := (hrl _ e.symm).1; omega)⟩)
      have HB7 := Lib.hid hHeld7
      refine hK.out _ _ hHeld7 (fun hHeld => ?_)
      clear hK K hown hcells hw7 hg7 hv7 hns hIx hgd5 hrl hW6 hHeld7 hgr
      try simp only [Act.put, List.setIfInBounds_toArray, List.set_cons_zero, List.set_cons_succ]
      refine wpAnyH_take (i := 15) (oi := ⟨_, _, _, _, _, _⟩) (v := ?_) rfl (by kernel_rfl) (by kernel_rfl) (by kernel_rfl) (fun _ _ _ h => h) (Or.inl ⟨by rfl, ?_⟩) hHeld ?_
      rotate_left 1
      · (intro W hSw; (try dsimp only at hSw); go_simp; try with_reducible rfl)
      try simp only [Act.put, List.setIfInBounds_toArray, List.set_cons_zero, List.set_cons_succ]
      refine wpAnyH_done (by kernel_rfl) ?_ _
      refine NoPanic.normal ?_
      clear hHeld
      go_wp2
      go_roundw
      case rel => exact ⟨k + 1, (by have := HK.out.1; have := HN.out; omega), by rw [HW.out], by rw [HTK.out]; exact HS7.out, HB7.out⟩
      case measure => exact ix_meas2 HK.out.1 HN.out HNM.out
    · have hd : ¬ (k : Int) < (n : Int) := by omega
      have hkn : k = la.length := by have := HN.out; omega
      rw [hkn, List.take_length] at hAR
      have HFIN := Lib.hid (And.intro hAR hbr)
      clear hAR hbr hk hlt hkn
      go_wp2
      go_ret
      exact ⟨_, rfl, HFIN.out.1, HFIN.out.2⟩
set_option maxRecDepth 100000 in
set_option maxHeartbeats 1000000 in
theorem told_e (A : Option Addr) (c n : Nat) (la : Attrs) (w : World) (hn : la.length = n) (hA : AIn w w.heap.size A c la) (hm : n ≤ 900000) :
    Calls Tryd.prog 27 #[.slice A n c] w fun e w' => ∃ v, e = .returned v ∧ SRow w' w.heap.size v la ∧ Below w.heap.size w w' := by
  have hmc : n ≤ c := by rw [← hn]; exact hA.1
  have HNM := Lib.hid (Nat.le_trans hmc hA.2.1)
  have hmc1 : (n : Int) ≤ (c : Int) := Int.ofNat_le.2 hmc
  have HN := Lib.hid hn
  have HA := Lib.hid hA
  clear hn hA hmc
  have HM := Lib.hid hm
  clear hm
  go_enter Tryd.func27, Tryd.ntmps27
  go_wp2
  go_loopw [4, 3] (fun i lv wr => ∃ k : Nat, k ≤ n ∧ i = .int .i64 (k : Int) ∧ SRow wr w.heap.size lv (la.take k) ∧ Below w.heap.size w wr) (fun i _ _ => n - (intOf i).toNat)
  case atStart => exact ⟨0, Nat.zero_le _, rfl, SRow.nil _ _, Below.refl _ _⟩
  case round =>
    obtain ⟨k, hk, rfl, hAR, hbr⟩ := hrel
    by_cases hlt : k < n
    · skip
      have hd : (k : Int) < (n : Int) := by omega
      have hkr : k < la.length := by rw [HN.out]; exact hlt
      obtain ⟨gp, op, hAe, hgp, hrow⟩ := HA.out.2.2 (Nat.lt_of_le_of_lt (Nat.zero_le _) hkr)
      obtain ⟨Aj, cj, h1, h2, h3⟩ := hrow k hkr
      obtain ⟨kd, v, hkv⟩ : ∃ kd v, la.getD k (0, []) = (kd, v) := ⟨_, _, rfl⟩
      rw [hkv] at h1 h2 h3
      obtain ⟨vl, hvl⟩ : ∃ vl, vl = v.length := ⟨_, rfl⟩
      simp only [← hvl] at h2
      have HC1 := Lib.hid (fun (W : World) (h : Below w.heap.size w W) => (show W.cell? ⟨gp, op + k * 2, none⟩ = some (.int .i64 kd) from (h.cell (p := ⟨gp, op + k * 2, none⟩) hgp).trans h1))
      have HC2 := Lib.hid (fun (W : World) (h : Below w.heap.size w W) => (show W.cell? ⟨gp, op + k * 2 + 1, none⟩ = some (.slice Aj vl cj) from (h.cell (p := ⟨gp, op + k * 2 + 1, none⟩) hgp).trans h2))
      obtain ⟨hk0, hkn, hkw⟩ := ix_at hlt HNM.out
      have HB := Lib.hid hbr
      have HK := Lib.hid (And.intro hkr hkv)
      have HW := Lib.hid hkw
      subst hAe
      have HVN := Lib.hid hvl.symm
      have HVI := Lib.hid (fun (W : World) (h : Below w.heap.size w W) => (show In W W.heap.size Aj cj v from h3.up h))
      have HAR := Lib.hid hAR
      have HLL := Lib.hid (show (la.take k).length + 1 ≤ 1000000 by have := HM.out; rw [List.length_take]; omega)
      have HTK := Lib.hid (show la.take (k + 1) = la.take k ++ [(kd, v)] by rw [take_snocA la k hkr, hkv])
      clear hrow h1 h2 h3 hkv hAR hbr hgp hkw hk hlt hkr hvl
      go_upto_region 5 with (fail)
      clear hd
      refine wp_region_noPanic ?_
      refine wp_region_held_drew (S := fun W => Below w.heap.size w W) (by kernel_rfl) (by exact below_drewN HB.out 1) (fun hHeld => ?_)
      refine wpAnyH_take (i := 0) (oi := ⟨_, _, _, _, _, _⟩) (v := ?_) rfl (by kernel_rfl) (by kernel_rfl) (by kernel_rfl) (fun _ _ _ h => h) (Or.inl ⟨by rfl, ?_⟩) hHeld ?_
      rotate_left 1
      · (intro W hSw; (try dsimp only at hSw); go_simp; try with_reducible rfl)
      try simp only [Act.put, List.setIfInBounds_toArray, List.set_cons_zero, List.set_cons_succ]
      refine wpAnyH_take (i := 1) (oi := ⟨_, _, _, _, _, _⟩) (v := ?_) rfl (by kernel_rfl) (by kernel_rfl) (by kernel_rfl) (fun _ _ _ h => h) (Or.inl ⟨by rfl, ?_⟩) hHeld ?_
      rotate_left 1
      · (intro W hSw; (try dsimp only at hSw); go_simp; try with_reducible rfl)
      try simp only [Act.put, List.setIfInBounds_toArray, List.set_cons_zero, List.set_cons_succ]
      refine wpAnyH_take (i := 2) (oi := ⟨_, _, _, _, _, _⟩) (v := ?_) rfl (by kernel_rfl) (by kernel_rfl) (by kernel_rfl) (fun _ _ _ h => h) (Or.inl ⟨by rfl, ?_⟩) hHeld ?_
      rotate_left 1
      · (intro W hSw; (try dsimp only at hSw); go_simp; try with_reducible rfl)
      try simp only [Act.put, List.setIfInBounds_toArray, List.set_cons_zero, List.set_cons_succ]
      refine wpAnyH_take (i := 3) (oi := ⟨_, _, _, _, _, _⟩) (v := ?_) rfl (by kernel_rfl) (by kernel_rfl) (by kernel_rfl) (fun _ _ _ h => h) (Or.inl ⟨by rfl, ?_⟩) hHeld ?_
      rotate_left 1
      · (intro W hSw; (try dsimp only at hSw); go_simp; try with_reducible rfl)
      try simp only [Act.put, List.setIfInBounds_toArray, List.set_cons_zero, List.set_cons_succ]
      refine wpAnyH_take (i := 4) (oi := ⟨_, _, _, _, _, _⟩) (v := ?_) rfl (by kernel_rfl) (by kernel_rfl) (by kernel_rfl) (fun _ _ _ h => h) (Or.inl ⟨by rfl, ?_⟩) hHeld ?_
      rotate_left 1
      · (intro W hSw; (try dsimp only at hSw); go_simp; try with_reducible rfl)
      try simp only [Act.put, List.setIfInBounds_toArray, List.set_cons_zero, List.set_cons_succ]
      refine wpAnyH_take (i := 5) (oi := ⟨_, _, _, _, _, _⟩) (v := ?_) rfl (by kernel_rfl) (by kernel_rfl) (by kernel_rfl) (fun _ _ _ h => h) (Or.inl ⟨by rfl, ?_⟩) hHeld ?_
      rotate_left 1
      · (intro W hSw; (try dsimp only at hSw); have hcc := HC1.out W hSw; go_simp; try with_reducible rfl)
      try simp only [Act.put, List.setIfInBounds_toArray, List.set_cons_zero, List.set_cons_succ]
      refine wpAnyH_take (i := 6) (oi := ⟨_, _, _, _, _, _⟩) (v := ?_) rfl (by kernel_rfl) (by kernel_rfl) (by kernel_rfl) (fun _ _ _ h => h) (Or.inl ⟨by rfl, ?_⟩) hHeld ?_
      rotate_left 1
      · (intro W hSw; (try dsimp only at hSw); go_simp; try with_reducible rfl)
      try simp only [Act.put, List.setIfInBounds_toArray, List.set_cons_zero, List.set_cons_succ]
      refine wpAnyH_take (i := 7) (oi := ⟨_, _, _, _, _, _⟩) (v := ?_) rfl (by kernel_rfl) (by kernel_rfl) (by kernel_rfl) (fun _ _ _ h => h) (Or.inl ⟨by rfl, ?_⟩) hHeld ?_
      rotate_left 1
      · (intro W hSw; (try dsimp only at hSw); go_simp; try with_reducible rfl)
      try simp only [Act.put, List.setIfInBounds_toArray, List.set_cons_zero, List.set_cons_succ]
      refine wpAnyH_take (i := 8) (oi := ⟨_, _, _, _, _, _⟩) (v := ?_) rfl (by kernel_rfl) (by kernel_rfl) (by kernel_rfl) (fun _ _ _ h => h) (Or.inl ⟨by rfl, ?_⟩) hHeld ?_
      rotate_left 1
      · (intro W hSw; (try dsimp only at hSw); go_simp; try with_reducible rfl)
      try simp only [Act.put, List.setIfInBounds_toArray, List.set_cons_zero, List.set_cons_succ]
      refine wpAnyH_take (i := 9) (oi := ⟨_, _, _, _, _, _⟩) (v := ?_) rfl (by kernel_rfl) (by kernel_rfl) (by kernel_rfl) (fun _ _ _ h => h) (Or.inl ⟨by rfl, ?_⟩) hHeld ?_
      rotate_left 1
      · (intro W hSw; (try dsimp only at hSw); go_simp; try with_reducible rfl)
      try simp only [Act.put, List.setIfInBounds_toArray, List.set_cons_zero, List.set_cons_succ]
      refine wpAnyH_take (i := 10) (oi := ⟨_, _, _, _, _, _⟩) (v := ?_) rfl (by kernel_rfl) (by kernel_rfl) (by kernel_rfl) (fun _ _ _ h => h) (Or.inl ⟨by rfl, ?_⟩) hHeld ?_
      rotate_left 1
      · (intro W hSw; (try dsimp only at hSw); have hcc := HC2.out W hSw; go_simp; try with_reducible rfl)
      try simp only [Act.put, List.setIfInBounds_toArray, List.set_cons_zero, List.set_cons_succ]
      refine wpAnyH_take (i := 11) (oi := ⟨_, _, _, _, _, _⟩) (v := ?_) rfl (by kernel_rfl) (by kernel_rfl) (by kernel_rfl) (fun _ _ _ h => h) (Or.inl ⟨by rfl, ?_⟩) hHeld ?_
      rotate_left 1
      · (intro W hSw; (try dsimp only at hSw); have hcv := conv_in HVN.out (HVI.out W hSw); go_simp; try with_reducible rfl)
      try simp only [Act.put, List.setIfInBounds_toArray, List.set_cons_zero, List.set_cons_succ]
      refine wpAnyH_take (i := 12) (oi := ⟨_, _, _, _, _, _⟩) (v := ?_) rfl (by kernel_rfl) (by kernel_rfl) (by kernel_rfl) (fun _ _ _ h => h) (Or.inl ⟨by rfl, ?_⟩) hHeld ?_
      rotate_left 1
      · (intro W hSw; (try dsimp only at hSw); go_simp; try with_reducible rfl)
      try simp only [Act.put, List.setIfInBounds_toArray, List.set_cons_zero, List.set_cons_succ]
      replace hHeld : Below w.heap.size w wr.drew := hHeld
      have hWd : Below wr.heap.size wr wr.drew := below_drewN (Below.refl _ _) 1
      generalize wr.drew = wd at *
      refine wpAnyH_ready (rs := [13]) (by kernel_rfl) (by simp) ?_
      refine AllReadyH.cons (o := ⟨_, _, _, _, _, _⟩) rfl (fun K hK => ?_) AllReadyH.nil
      go_simp
      have hal : Below wd.heap.size wd (wd.alloc (.cells #[.int .i64 kd, .string ⟨v.toArray⟩] 62)) := (Below.refl _ _).alloc (Nat.le_refl _) _
      have hBk := Blk.new_of wd 62 #[.int .i64 kd, .string ⟨v.toArray⟩] [.int .i64 kd, .string ⟨v.toArray⟩] rfl
      have hW6 := hWd.trans (hal.mono hWd.size)
      refine hK.out _ _ (hHeld.trans (hal.mono hHeld.size)) (fun hHeld => ?_)
      replace hHeld : Below w.heap.size w (wd.alloc (.cells #[.int .i64 kd, .string ⟨v.toArray⟩] 62)) := hHeld
      clear hK K hal hWd
      generalize wd.heap.size = g6 at *
      generalize wd.alloc (.cells #[.int .i64 kd, .string ⟨v.toArray⟩] 62) = w6 at *
      try simp only [Act.put, List.setIfInBounds_toArray, List.set_cons_zero, List.set_cons_succ]
      refine wpAnyH_ready (rs := [14]) (by kernel_rfl) (by simp) ?_
      refine AllReadyH.cons (o := ⟨_, _, _, _, _, _⟩) rfl (fun K hK => ?_) AllReadyH.nil
      refine step_append_s rfl (.tmp 11) (.tmp 24) rfl w.heap.size u3 (la.take k) kd v g6 rfl (HAR.out.below hW6) hHeld.size rfl hBk HLL.out ?_
      intro v7 w7 hS7 hg7
      have HS7 := Lib.hid hS7
      have hHeld7 := row_belowS hHeld (HAR.out.below hW6) hg7
      have HB7 := Lib.hid hHeld7
      refine hK.out _ _ hHeld7 (fun hHeld => ?_)
      clear hK K hS7 hg7 hBk hW6 hHeld7
      try simp only [Act.put, List.setIfInBounds_toArray, List.set_cons_zero, List.set_cons_succ]
      refine wpAnyH_take (i := 15) (oi := ⟨_, _, _, _, _, _⟩) (v := ?_) rfl (by kernel_rfl) (by kernel_rfl) (by kernel_rfl) (fun _ _ _ h => h) (Or.inl ⟨by rfl, ?_⟩) hHeld ?_
      rotate_left 1
      · (intro W hSw; (try dsimp only at hSw); go_simp; try with_reducible rfl)
      try simp only [Act.put, List.setIfInBounds_toArray, List.set_cons_zero, List.set_cons_succ]
      refine wpAnyH_done (by kernel_rfl) ?_ _
      refine NoPanic.normal ?_
      clear hHeld
      go_wp2
      go_roundw
      case rel => exact ⟨k + 1, (by have := HK.out.1; have := HN.out; omega), by rw [HW.out], by rw [HTK.out]; exact HS7.out, HB7.out⟩
      case measure => exact ix_meas2 HK.out.1 HN.out HNM.out
    · have hd : ¬ (k : Int) < (n : Int) := by omega
      have hkn : k = la.length := by have := HN.out; omega
      rw [hkn, List.take_length] at hAR
      have HFIN := Lib.hid (And.intro hAR hbr)
      clear hAR hbr hk hlt hkn
      go_wp2
      go_ret
      exact ⟨_, rfl, HFIN.out.1, HFIN.out.2⟩
end Go.Proofs.YtbomckbekcaemaaDoor
