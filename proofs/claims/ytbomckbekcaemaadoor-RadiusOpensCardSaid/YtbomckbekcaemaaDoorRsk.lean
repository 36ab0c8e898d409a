/-
  The contract of the document's with.
-/
import Derived.Test.YtbomckbekcaemaaDoorRsj
namespace Go.Proofs.YtbomckbekcaemaaDoor
open Go.RowKit

def withE (la : Attrs) (k : Nat) (v : List UInt8) : Attrs := if k = la.length then la ++ [(80, v)] else la.set k (80, v)
theorem srow_lit (w : World) : SRow (w.alloc (.cells #[] 62)) w.heap.size (.slice (some ⟨w.heap.size, 0, none⟩) 0 0) [] :=
  ⟨rfl, .inr ⟨w.heap.size, 0, #[], rfl, Nat.le_refl _, heap_alloc_new w _, Nat.le_refl _, by decide, rfl, rfl⟩⟩
theorem cellsS_cells {w : World} {gp op : Nat} {la : Attrs} (h : ∀ j, j < la.length → w.cell? ⟨gp, op + j * 2, none⟩ = some (.int .i64 (la.getD j (0, [])).1) ∧ w.cell? ⟨gp, op + j * 2 + 1, none⟩ = some (.string ⟨(la.getD j (0, [])).2.toArray⟩)) : ∀ j u, (cellsS la)[j]? = some u → w.cell? (Addr.add ⟨gp, op, none⟩ j) = some u := fun j u hj => by
  have hl : j < la.length * 2 := by have := (List.getElem?_eq_some_iff.1 hj).1; rwa [cellsS_length] at this
  have h2 := h (j / 2) (by omega)
  have h3 := cellsS_at la (j / 2) (by omega)
  rw [Addr.add_mid]
  rcases Nat.mod_two_eq_zero_or_one j with hm | hm
  · rw [show j = j / 2 * 2 by omega, h3.1] at hj
    rw [show op + j = op + j / 2 * 2 by omega, h2.1, hj]
  · rw [show j = j / 2 * 2 + 1 by omega, h3.2] at hj
    rw [show op + j = op + j / 2 * 2 + 1 by omega, h2.2, hj]
theorem cellsS_one (la : Attrs) : ∀ u ∈ cellsS la, u.oneCell' = true := by
  intro u hu
  unfold cellsS at hu
  simp only [List.mem_flatMap] at hu
  obtain ⟨a, _, hu⟩ := hu
  simp at hu
  rcases hu with rfl | rfl <;> rfl
/-- A row of strings that came in, put behind an empty row of the call's own. -/
theorem wpList_append_sin {ops : Array Oper} {rest : List Oper} {o : Oper} {a : Act} {w : World} {Q : Exit → Act → World → Prop} (hgd : o.guard = none) (s x : Operand) (ho : o.op = .call { callee := .builtin .append, args := #[s, x], argTypes := #[23, 23] })
    (base : Nat) (v : Value) (hs : a.eval s = v) (hown : SRow w base v []) (hbase : base ≤ w.heap.size) (A : Option Addr) (n c : Nat) (la : Attrs) (hx : a.eval x = .slice A n c) (hn : la.length = n) (hA : SIn w w.heap.size A c la) (hm : n ≤ 400000)
    (h : ∀ v' w', SRow w' base v' la → w.grownBy w' v.ownBlock → wpList Tryd.prog ops Q rest (a.put o.dst v') w') : wpList Tryd.prog ops Q (o :: rest) a w := by
  subst hn
  cases A with
  | some ad =>
    have hcl : ∀ j u, (cellsS la)[j]? = some u → w.cell? (ad.add j) = some u := by
      intro j u hj
      have hl : j < la.length * 2 := by have := (List.getElem?_eq_some_iff.1 hj).1; rwa [cellsS_length] at this
      obtain ⟨gp, op, e, _, hrow⟩ := hA.2.2 (by omega)
      cases e
      exact cellsS_cells hrow j u hj
    exact wpList_append_own (z := .agg #[.int .i64 0, .string ⟨#[]⟩]) (size := 2) (bytes := 24) Tryd.underlying23 infS rfl (by decide) (by decide) hgd s x ho base v 0 [] hs hown hbase ad la.length c hx (cellsS la) (cellsS_length la) hcl (cellsS_one la) (by omega)
      (fun v' w' h2 h3 _ => h v' w' (by unfold SRow; simpa using h2) h3)
  | none =>
    have h0 : la = [] := by
      rcases Nat.eq_zero_or_pos la.length with h0 | h0
      · exact List.eq_nil_of_length_eq_zero h0
      · obtain ⟨gp, op, e, _⟩ := hA.2.2 h0
        cases e
    subst h0
    obtain ⟨A', c', hv, hI⟩ := hown.slice
    subst hv
    obtain ⟨i, hi, _⟩ := Option.map_eq_some_iff.1 infS
    have hr := run_append_nothing (P := Tryd.prog) w 23 23 o.type 62 i Tryd.underlying23 hi A' 0 c' (Nat.zero_le _) (.slice none 0 c) (_root_.Go.Src.ofNil w Tryd.underlying23 c)
    refine wpList_plain hgd fun _ hK' => ?_
    unfold Oper.wp execOp
    simp only [ho, resolve, invoke, builtin, Sem.run_bind, Sem.run_pure, Result.andThen_ok, List.map_toArray, List.map_cons, List.map_nil, hs, hx, List.length_nil, hr]
    exact hK' _ _ (h _ _ hown (grown_refl _ _))
theorem srow_there {w : World} {base n c gp : Nat} {la : Attrs} {k : Nat} (h : SRow w base (.slice (some ⟨gp, 0, none⟩) n c) la) (hk : k < la.length) : w.there gp (k * 2) 2 := fun j hj => by
  obtain ⟨A', c', hv, _⟩ := h.slice
  cases hv
  have hl := cellsS_length la
  have h1 := World.ownsRow.cellAt h (k * 2 + j) (by omega)
  have h2 := World.ownsRow.frozenAt h (k * 2 + j)
  exact ⟨by rw [h1]; rw [List.getElem?_eq_getElem (by omega)]; rfl, h2⟩
theorem sin_set {w : World} {c gp : Nat} {la : Attrs} (h : SIn w w.heap.size (some ⟨gp, 0, none⟩) c la) (k : Nat) (hk : k < la.length) (hth : w.there gp (k * 2) 2) (kd : Int) (x : List UInt8) :
    SIn (w.setCells gp (k * 2) [.int .i64 kd, .string ⟨x.toArray⟩]) (w.setCells gp (k * 2) [.int .i64 kd, .string ⟨x.toArray⟩]).heap.size (some ⟨gp, 0, none⟩) c (la.set k (kd, x)) := by
  have hg := grown_setCells w gp (k * 2) [.int .i64 kd, .string ⟨x.toArray⟩]
  obtain ⟨gp', op', e, hl, hj⟩ := h.2.2 (by omega)
  cases e
  refine ⟨by rw [List.length_set]; exact h.1, h.2.1, fun _ => ⟨gp, 0, rfl, Nat.lt_of_lt_of_le hl hg.size, fun j hjl => ?_⟩⟩
  rw [List.length_set] at hjl
  have hin := World.cell?_setCells_in gp [.int .i64 kd, .string ⟨x.toArray⟩] (k * 2) w (fun i hi => (hth i hi).1)
  by_cases hjk : j = k
  · subst hjk
    have hgd : (la.set j (kd, x)).getD j (0, []) = (kd, x) := by
      rw [List.getD_eq_getElem?_getD, List.getElem?_set_self hjl]; rfl
    rw [hgd, Nat.zero_add]
    exact ⟨hin 0 (by simp), hin 1 (by simp)⟩
  · have hgd : (la.set k (kd, x)).getD j (0, []) = la.getD j (0, []) := by
      rw [List.getD_eq_getElem?_getD, List.getElem?_set_ne (by omega), ← List.getD_eq_getElem?_getD]
    rw [hgd]
    obtain ⟨h1, h2⟩ := hj j hjl
    refine ⟨?_, ?_⟩
    · rw [World.cell?_setCells_out gp _ (k * 2) w _ (fun _ _ => by simp; omega)]; exact h1
    · rw [World.cell?_setCells_out gp _ (k * 2) w _ (fun _ _ => by simp; omega)]; exact h2
theorem cell_of_block {w w' : World} {g : Nat} (h : w'.heap[g]? = w.heap[g]?) (o : Nat) : w'.cell? ⟨g, o, none⟩ = w.cell? ⟨g, o, none⟩ := by
  unfold World.cell?
  simp only [h]
theorem srow_some {w : World} {base n c : Nat} {A : Option Addr} {la : Attrs} (h : SRow w base (.slice A n c) la) (h0 : 0 < la.length) : ∃ gp, A = some ⟨gp, 0, none⟩ ∧ base ≤ gp ∧ n = la.length ∧ n ≤ c := by
  rcases h.2 with ⟨_, h1⟩ | ⟨g, cap, cur, e, hb, _, hnc, _⟩
  · omega
  · cases e
    exact ⟨g, rfl, hb, rfl, hnc⟩
theorem srow_sinK {w : World} {base m c : Nat} {A : Option Addr} {la : Attrs} (h : SRow w base (.slice A m c) la) : SIn w w.heap.size A c la := by
  obtain ⟨A', c', hv, hI⟩ := h.slice
  cases hv
  exact hI
theorem sin_grown {w w' : World} {g c : Nat} {A : Option Addr} {la : Attrs} (h : SIn w w.heap.size A c la) (hg : w.grownBy w' (some g)) (hne : ∀ ad, A = some ad → ad.block ≠ g) : SIn w' w'.heap.size A c la :=
  ⟨h.1, h.2.1, fun h0 => by
    obtain ⟨gp, op, e, hl, hj⟩ := h.2.2 h0
    have hb := hg.block gp hl (fun e2 => by injection e2 with e2; exact hne _ e e2)
    refine ⟨gp, op, e, Nat.lt_of_lt_of_le hl hg.size, fun j hjl => ?_⟩
    obtain ⟨h1, h2⟩ := hj j hjl
    exact ⟨(cell_of_block hb _).trans h1, (cell_of_block hb _).trans h2⟩⟩
set_option maxRecDepth 100000 in
set_option maxHeartbeats 1000000 in
theorem rwith_last (c n : Nat) (code id : Int) (Q : List UInt8) (A : Option Addr) (la : Attrs) (vv : List UInt8) (w : World) (hQ : Q.length = 16) (hn : la.length = n) (hA : SIn w w.heap.size A c la) (hm : n ≤ 400000) :
    Calls Tryd.prog 69 #[.agg (pkC code id Q A n c).toArray, .int .i64 (n : Int), .string ⟨vv.toArray⟩] w (fun e w' => ∃ A' c', e = .returned (.agg (pkC code id Q A' (withE la n vv).length c').toArray) ∧ SIn w' w'.heap.size A' c' (withE la n vv) ∧ Below w.heap.size w w') := by
  have HQ := Lib.hid hQ
  have HN := Lib.hid hn
  have HA := Lib.hid hA
  have HM := Lib.hid hm
  have hmc1 : (n : Int) ≤ (c : Int) := Int.ofNat_le.2 (by rw [← hn]; exact hA.1)
  clear hQ hn hA hm
  go_enter Tryd.func69, Tryd.ntmps69
  go_upto_region 1 with (fail)
  have hP := (Blk.new_of w 25 (pkC code id Q A n c).toArray (pkC code id Q A n c) rfl).alloc (.cells #[.int .i64 0, .int .i64 0, .int .u8 0, .int .u8 0, .int .u8 0, .int .u8 0, .int .u8 0, .int .u8 0, .int .u8 0, .int .u8 0, .int .u8 0, .int .u8 0, .int .u8 0, .int .u8 0, .int .u8 0, .int .u8 0, .int .u8 0, .int .u8 0, .slice none 0 0] 25)
  have hR := Blk.new2_of w (.cells (pkC code id Q A n c).toArray 25) 25 #[.int .i64 0, .int .i64 0, .int .u8 0, .int .u8 0, .int .u8 0, .int .u8 0, .int .u8 0, .int .u8 0, .int .u8 0, .int .u8 0, .int .u8 0, .int .u8 0, .int .u8 0, .int .u8 0, .int .u8 0, .int .u8 0, .int .u8 0, .int .u8 0, .slice none 0 0] (pkC 0 0 zQ none 0 0) rfl
  have hb0 : Below w.heap.size w ((w.alloc (.cells (pkC code id Q A n c).toArray 25)).alloc (.cells #[.int .i64 0, .int .i64 0, .int .u8 0, .int .u8 0, .int .u8 0, .int .u8 0, .int .u8 0, .int .u8 0, .int .u8 0, .int .u8 0, .int .u8 0, .int .u8 0, .int .u8 0, .int .u8 0, .int .u8 0, .int .u8 0, .int .u8 0, .int .u8 0, .slice none 0 0] 25)) := ((Below.refl _ _).alloc (Nat.le_refl _) _).alloc (by simp) _
  obtain ⟨gr, hgr⟩ : ∃ gr, gr = w.heap.size + 1 := ⟨_, rfl⟩
  obtain ⟨g, hg⟩ : ∃ g, g = w.heap.size := ⟨_, rfl⟩
  have HG := Lib.hid (show w.heap.size ≤ g ∧ g < gr by omega)
  rw [← hgr] at hR
  rw [← hg] at hP
  simp only [← hgr]
  clear hgr
  simp only [← hg]
  have HP := Lib.hid hP
  have HR := Lib.hid hR
  have HBW := Lib.hid hb0
  clear hg hP hR hb0
  generalize (w.alloc (.cells (pkC code id Q A n c).toArray 25)).alloc (.cells #[.int .i64 0, .int .i64 0, .int .u8 0, .int .u8 0, .int .u8 0, .int .u8 0, .int .u8 0, .int .u8 0, .int .u8 0, .int .u8 0, .int .u8 0, .int .u8 0, .int .u8 0, .int .u8 0, .int .u8 0, .int .u8 0, .int .u8 0, .int .u8 0, .slice none 0 0] 25) = w1 at *
  have HC0 := Lib.hid (fun (W : World) (h : Below w1.heap.size w1 W) => (show W.cell? ⟨g, 0, none⟩ = some (.int .i64 code) from (HP.out.below h HP.out.lt).cell 0))
  have HC1 := Lib.hid (fun (W : World) (h : Below w1.heap.size w1 W) => (show W.cell? ⟨g, 1, none⟩ = some (.int .i64 id) from (HP.out.below h HP.out.lt).cell 1))
  have HC18 := Lib.hid (fun (W : World) (h : Below w1.heap.size w1 W) => (show W.cell? ⟨g, 18, none⟩ = some (.slice A n c) from ((HP.out.below h HP.out.lt).cell 18).trans (pkC_last code id Q A n c HQ.out)))
  have hc18 := HC18.out w1 (Below.refl _ _)
  have hr0 := srow_lit w1
  have hal : Below w1.heap.size w1 (w1.alloc (.cells #[] 62)) := (Below.refl _ _).alloc (Nat.le_refl _) _
  have hA1 := (HA.out.up HBW.out).up hal
  have hc18a := HC18.out _ hal
  go_upto_region 2 with ((with_reducible refine (?_ : wpList _ _ _ (Oper.mk (some 11) _ _ _ _ _ :: _) _ _)); go_loud (refine wpList_append_sin rfl (.tmp 8) (.tmp 10) rfl w1.heap.size _ rfl hr0 hal.size A n c la rfl HN.out hA1 HM.out ?_); intro v2 w2 hS2 hg2)
  have hX2 := Below.grown hal hg2 hal.size (fun k e => (hr0.lt k e).1)
  obtain ⟨A2, c2, hv2, _⟩ := hS2.slice
  rw [HN.out] at hv2
  subst hv2
  have HS2 := Lib.hid hS2
  have HX2 := Lib.hid hX2
  clear hr0 hal hA1 hS2 hg2 hX2 hc18 hc18a
  go_upto_region 4 with ((with_reducible refine (?_ : wpList _ _ _ (Oper.mk (some 19) _ _ _ _ _ :: _) _ _)); go_loud (refine wpList_append_s rfl (.tmp 16) (.tmp 18) rfl w1.heap.size _ la 0 [] w2.heap.size rfl (HS2.out.below ((Below.refl w2.heap.size w2).alloc (Nat.le_refl _) (.cells #[.int .i64 0, .string ⟨#[]⟩] 62))) (Nat.le_trans HX2.out.size (by simp)) rfl (Blk.new_of w2 62 _ _ rfl) (by rw [HN.out]; have := HM.out; omega) ?_); intro v3 w3 hS3 hg3)
  have hal : Below w1.heap.size w1 (w2.alloc (.cells #[.int .i64 0, .string ⟨#[]⟩] 62)) := HX2.out.alloc HX2.out.size _
  have hX3 := Below.grown hal hg3 hal.size (fun k e => (HS2.out.lt k e).1)
  obtain ⟨n3, hn3⟩ : ∃ n3, n3 = (la ++ [((0 : Int), ([] : List UInt8))]).length := ⟨_, rfl⟩
  have hn31 : n3 = n + 1 := by rw [hn3, List.length_append, HN.out]; rfl
  obtain ⟨lz, hlz⟩ : ∃ lz, lz = la ++ [((0 : Int), ([] : List UInt8))] := ⟨_, rfl⟩
  have HLZ := Lib.hid (show withE la n vv = lz.set n (80, vv) by unfold withE; rw [if_pos HN.out.symm, hlz, ← HN.out]; simp)
  rw [← hlz] at hS3 hn3
  have hkl : n < lz.length := by omega
  clear hlz hal hg3
  obtain ⟨A3, c3, hv3, _⟩ := hS3.slice
  rw [← hn3] at hv3
  subst hv3
  clear hn3
  obtain ⟨gp, hA3, hgpb, hn33, hnc3⟩ := srow_some hS3 (by omega)
  subst hA3
  have hth := srow_there hS3 hkl
  have HS4 := Lib.hid (sin_set (srow_sinK hS3) n hkl hth 80 vv)
  have HX4 := Lib.hid (Below.grown hX3 (grown_setCells w3 gp (n * 2) [.int .i64 80, .string ⟨vv.toArray⟩]) hX3.size (fun q e => by cases e; exact hgpb))
  have HGP := Lib.hid (show gr < gp from Nat.lt_of_lt_of_le HR.out.lt hgpb)
  have hk3 : (n : Int) < (n3 : Int) := by omega
  have hk0 : (0 : Int) ≤ (n : Int) := by omega
  have hn3c : (n3 : Int) ≤ (c3 : Int) := by omega
  have HL3 := Lib.hid (show (withE la n vv).length = n3 by rw [HLZ.out, List.length_set, hn33])
  clear hS3 hX3 hkl hn33 hgpb hnc3
  clear hn31
  go_upto_region 5 with ((with_reducible refine (?_ : wpList _ _ _ (Oper.mk none _ _ _ _ _ :: _) _ _)); go_loud (refine wpList_store_mid rfl 62 (.tmp 24) (.tmp 23) rfl gp (n * 2) #[.int .i64 80, .string ⟨vv.toArray⟩] rfl rfl hth infS2 (by simp [Value.oneCell']) ?_))
  rw [← HLZ.out] at HS4
  replace HX4 : Hid (Below w1.heap.size w1 (w3.setCells gp (n * 2) [.int .i64 80, .string ⟨vv.toArray⟩])) := HX4
  generalize w3.setCells gp (n * 2) [.int .i64 80, .string ⟨vv.toArray⟩] = w4 at *
  have hP4 := HP.out.below HX4.out HP.out.lt
  have hc18 : w4.cell? ⟨g, 18, none⟩ = some (.slice A n c) := HC18.out w4 HX4.out
  have hf18 := hP4.frozen 18
  clear hth hP4 hk3 hk0
  go_upto_region 6 with (fail)
  have hP7 := (HP.out.below HX4.out HP.out.lt).set_ 18 (.slice (some ⟨gp, 0, none⟩) n3 c3)
  rw [pkC_set _ _ _ _ _ _ _ _ _ HQ.out] at hP7
  have hg7 : w4.grownBy (w4.setCell ⟨g, 18, none⟩ (.slice (some ⟨gp, 0, none⟩) n3 c3)) (some g) := grown_setCell (grown_refl w4 _) (.inl rfl) _
  have HR7 := Lib.hid ((HR.out.below HX4.out HR.out.lt).grown hg7 (fun e => by have := HG.out.2; injection e with e; omega))
  have HS7 := Lib.hid (sin_grown HS4.out hg7 (fun ad e => by cases e; have := HGP.out; have := HG.out.2; simp only; omega))
  have HB7 := Lib.hid ((HBW.out.trans (HX4.out.mono HBW.out.size)).setCell (p := ⟨g, 18, none⟩) HG.out.1 (.slice (some ⟨gp, 0, none⟩) n3 c3))
  clear hc18 hf18 hg7
  generalize w4.setCell ⟨g, 18, none⟩ (.slice (some ⟨gp, 0, none⟩) n3 c3) = w7 at *
  go_wp2_with (first
    | ((with_reducible refine (?_ : wpList _ _ _ (Oper.mk (some 27) _ _ _ _ _ :: _) _ _)); go_loud (refine wpList_load_blk rfl 25 (.tmp 3) rfl g rfl _ _ _ (hP7) Tryd.underlying25 rfl (infRP.trans (by rw [pkC_length _ _ _ _ _ _ HQ.out])) ?_))
    | ((with_reducible refine (?_ : wpList _ _ _ (Oper.mk none _ _ _ _ _ :: _) _ _)); go_loud (refine wpList_store_blk rfl 25 (.tmp 6) (.tmp 27) rfl rfl gr (pkC code id Q (some ⟨gp, 0, none⟩) n3 c3) rfl rfl _ _ (HR7.out) (infRP.trans (by rw [pkC_length _ _ _ _ _ _ HQ.out])) (by rw [pkC_length _ _ _ _ _ _ HQ.out]; rfl) (pk_one _ _ _ _ _ _) ?_); intro wz hPz hgz))
  refine bodyPost_ret (v := .agg _) (results_cell_row rfl _ _ gr 25 _ (0, 0) _ rfl hPz.raw Tryd.underlying25 rfl (infRP.trans (by rw [List.size_toArray, pkC_length _ _ _ _ _ _ HQ.out]))) rfl ?_
  exact ⟨some ⟨gp, 0, none⟩, c3, by rw [HL3.out], sin_grown HS7.out hgz (fun ad e => by cases e; have := HGP.out; simp only; omega), below_new HB7.out hgz (Nat.le_trans HG.out.1 (Nat.le_of_lt HG.out.2)) HB7.out.size⟩
set_option maxRecDepth 100000 in
set_option maxHeartbeats 1000000 in
theorem rwith_mid (c n k : Nat) (code id : Int) (Q : List UInt8) (A : Option Addr) (la : Attrs) (vv : List UInt8) (w : World) (hQ : Q.length = 16) (hn : la.length = n) (hA : SIn w w.heap.size A c la) (hm : n ≤ 400000) (hk : k < n) :
    Calls Tryd.prog 69 #[.agg (pkC code id Q A n c).toArray, .int .i64 (k : Int), .string ⟨vv.toArray⟩] w (fun e w' => ∃ A' c', e = .returned (.agg (pkC code id Q A' (withE la k vv).length c').toArray) ∧ SIn w' w'.heap.size A' c' (withE la k vv) ∧ Below w.heap.size w w') := by
  have HQ := Lib.hid hQ
  have HN := Lib.hid hn
  have HA := Lib.hid hA
  have HM := Lib.hid hm
  have hmc1 : (n : Int) ≤ (c : Int) := Int.ofNat_le.2 (by rw [← hn]; exact hA.1)
  clear hQ hn hA hm
  go_enter Tryd.func69, Tryd.ntmps69
  go_upto_region 1 with (fail)
  have hP := (Blk.new_of w 25 (pkC code id Q A n c).toArray (pkC code id Q A n c) rfl).alloc (.cells #[.int .i64 0, .int .i64 0, .int .u8 0, .int .u8 0, .int .u8 0, .int .u8 0, .int .u8 0, .int .u8 0, .int .u8 0, .int .u8 0, .int .u8 0, .int .u8 0, .int .u8 0, .int .u8 0, .int .u8 0, .int .u8 0, .int .u8 0, .int .u8 0, .slice none 0 0] 25)
  have hR := Blk.new2_of w (.cells (pkC code id Q A n c).toArray 25) 25 #[.int .i64 0, .int .i64 0, .int .u8 0, .int .u8 0, .int .u8 0, .int .u8 0, .int .u8 0, .int .u8 0, .int .u8 0, .int .u8 0, .int .u8 0, .int .u8 0, .int .u8 0, .int .u8 0, .int .u8 0, .int .u8 0, .int .u8 0, .int .u8 0, .slice none 0 0] (pkC 0 0 zQ none 0 0) rfl
  have hb0 : Below w.heap.size w ((w.alloc (.cells (pkC code id Q A n c).toArray 25)).alloc (.cells #[.int .i64 0, .int .i64 0, .int .u8 0, .int .u8 0, .int .u8 0, .int .u8 0, .int .u8 0, .int .u8 0, .int .u8 0, .int .u8 0, .int .u8 0, .int .u8 0, .int .u8 0, .int .u8 0, .int .u8 0, .int .u8 0, .int .u8 0, .int .u8 0, .slice none 0 0] 25)) := ((Below.refl _ _).alloc (Nat.le_refl _) _).alloc (by simp) _
  obtain ⟨gr, hgr⟩ : ∃ gr, gr = w.heap.size + 1 := ⟨_, rfl⟩
  obtain ⟨g, hg⟩ : ∃ g, g = w.heap.size := ⟨_, rfl⟩
  have HG := Lib.hid (show w.heap.size ≤ g ∧ g < gr by omega)
  rw [← hgr] at hR
  rw [← hg] at hP
  simp only [← hgr]
  clear hgr
  simp only [← hg]
  have HP := Lib.hid hP
  have HR := Lib.hid hR
  have HBW := Lib.hid hb0
  clear hg hP hR hb0
  generalize (w.alloc (.cells (pkC code id Q A n c).toArray 25)).alloc (.cells #[.int .i64 0, .int .i64 0, .int .u8 0, .int .u8 0, .int .u8 0, .int .u8 0, .int .u8 0, .int .u8 0, .int .u8 0, .int .u8 0, .int .u8 0, .int .u8 0, .int .u8 0, .int .u8 0, .int .u8 0, .int .u8 0, .int .u8 0, .int .u8 0, .slice none 0 0] 25) = w1 at *
  have HC0 := Lib.hid (fun (W : World) (h : Below w1.heap.size w1 W) => (show W.cell? ⟨g, 0, none⟩ = some (.int .i64 code) from (HP.out.below h HP.out.lt).cell 0))
  have HC1 := Lib.hid (fun (W : World) (h : Below w1.heap.size w1 W) => (show W.cell? ⟨g, 1, none⟩ = some (.int .i64 id) from (HP.out.below h HP.out.lt).cell 1))
  have HC18 := Lib.hid (fun (W : World) (h : Below w1.heap.size w1 W) => (show W.cell? ⟨g, 18, none⟩ = some (.slice A n c) from ((HP.out.below h HP.out.lt).cell 18).trans (pkC_last code id Q A n c HQ.out)))
  have hc18 := HC18.out w1 (Below.refl _ _)
  have hr0 := srow_lit w1
  have hal : Below w1.heap.size w1 (w1.alloc (.cells #[] 62)) := (Below.refl _ _).alloc (Nat.le_refl _) _
  have hA1 := (HA.out.up HBW.out).up hal
  have hc18a := HC18.out _ hal
  go_upto_region 2 with ((with_reducible refine (?_ : wpList _ _ _ (Oper.mk (some 11) _ _ _ _ _ :: _) _ _)); go_loud (refine wpList_append_sin rfl (.tmp 8) (.tmp 10) rfl w1.heap.size _ rfl hr0 hal.size A n c la rfl HN.out hA1 HM.out ?_); intro v2 w2 hS2 hg2)
  have hX2 := Below.grown hal hg2 hal.size (fun k e => (hr0.lt k e).1)
  obtain ⟨A2, c2, hv2, _⟩ := hS2.slice
  rw [HN.out] at hv2
  subst hv2
  have HS2 := Lib.hid hS2
  have HX2 := Lib.hid hX2
  clear hr0 hal hA1 hS2 hg2 hX2 hc18 hc18a
  have hX3 := HX2.out
  have hS3 := HS2.out
  have HLZ := Lib.hid (show withE la k vv = la.set k (80, vv) by unfold withE; rw [if_neg (by have := HN.out; omega)])
  have hkl : k < la.length := by rw [HN.out]; exact hk
  have hki : ¬ (k : Int) = (n : Int) := by omega
  go_upto_region 4 with (fail)
  obtain ⟨gp, hA3, hgpb, hn3, hnc3⟩ := srow_some hS3 (by omega)
  subst hA3
  have hth := srow_there hS3 hkl
  have HS4 := Lib.hid (sin_set (srow_sinK hS3) k hkl hth 80 vv)
  have HX4 := Lib.hid (Below.grown hX3 (grown_setCells w2 gp (k * 2) [.int .i64 80, .string ⟨vv.toArray⟩]) hX3.size (fun q e => by cases e; exact hgpb))
  have HGP := Lib.hid (show gr < gp from Nat.lt_of_lt_of_le HR.out.lt hgpb)
  have hk3 : (k : Int) < (n : Int) := by omega
  have hk0 : (0 : Int) ≤ (k : Int) := by omega
  have hnc : (n : Int) ≤ (c2 : Int) := by omega
  have HL3 := Lib.hid (show (withE la k vv).length = n by rw [HLZ.out, List.length_set, hn3])
  clear hS3 hX3 hkl hn3 hgpb hnc3
  clear hk
  go_upto_region 5 with ((with_reducible refine (?_ : wpList _ _ _ (Oper.mk none _ _ _ _ _ :: _) _ _)); go_loud (refine wpList_store_mid rfl 62 (.tmp 24) (.tmp 23) rfl gp (k * 2) #[.int .i64 80, .string ⟨vv.toArray⟩] rfl rfl hth infS2 (by simp [Value.oneCell']) ?_))
  rw [← HLZ.out] at HS4
  replace HX4 : Hid (Below w1.heap.size w1 (w2.setCells gp (k * 2) [.int .i64 80, .string ⟨vv.toArray⟩])) := HX4
  generalize w2.setCells gp (k * 2) [.int .i64 80, .string ⟨vv.toArray⟩] = w4 at *
  have hP4 := HP.out.below HX4.out HP.out.lt
  have hc18 : w4.cell? ⟨g, 18, none⟩ = some (.slice A n c) := HC18.out w4 HX4.out
  have hf18 := hP4.frozen 18
  clear hth hP4 hk3 hk0
  go_upto_region 6 with (fail)
  have hP7 := (HP.out.below HX4.out HP.out.lt).set_ 18 (.slice (some ⟨gp, 0, none⟩) n c2)
  rw [pkC_set _ _ _ _ _ _ _ _ _ HQ.out] at hP7
  have hg7 : w4.grownBy (w4.setCell ⟨g, 18, none⟩ (.slice (some ⟨gp, 0, none⟩) n c2)) (some g) := grown_setCell (grown_refl w4 _) (.inl rfl) _
  have HR7 := Lib.hid ((HR.out.below HX4.out HR.out.lt).grown hg7 (fun e => by have := HG.out.2; injection e with e; omega))
  have HS7 := Lib.hid (sin_grown HS4.out hg7 (fun ad e => by cases e; have := HGP.out; have := HG.out.2; simp only; omega))
  have HB7 := Lib.hid ((HBW.out.trans (HX4.out.mono HBW.out.size)).setCell (p := ⟨g, 18, none⟩) HG.out.1 (.slice (some ⟨gp, 0, none⟩) n c2))
  clear hc18 hf18 hg7
  generalize w4.setCell ⟨g, 18, none⟩ (.slice (some ⟨gp, 0, none⟩) n c2) = w7 at *
  go_wp2_with (first
    | ((with_reducible refine (?_ : wpList _ _ _ (Oper.mk (some 27) _ _ _ _ _ :: _) _ _)); go_loud (refine wpList_load_blk rfl 25 (.tmp 3) rfl g rfl _ _ _ (hP7) Tryd.underlying25 rfl (infRP.trans (by rw [pkC_length _ _ _ _ _ _ HQ.out])) ?_))
    | ((with_reducible refine (?_ : wpList _ _ _ (Oper.mk none _ _ _ _ _ :: _) _ _)); go_loud (refine wpList_store_blk rfl 25 (.tmp 6) (.tmp 27) rfl rfl gr (pkC code id Q (some ⟨gp, 0, none⟩) n c2) rfl rfl _ _ (HR7.out) (infRP.trans (by rw [pkC_length _ _ _ _ _ _ HQ.out])) (by rw [pkC_length _ _ _ _ _ _ HQ.out]; rfl) (pk_one _ _ _ _ _ _) ?_); intro wz hPz hgz))
  refine bodyPost_ret (v := .agg _) (results_cell_row rfl _ _ gr 25 _ (0, 0) _ rfl hPz.raw Tryd.underlying25 rfl (infRP.trans (by rw [List.size_toArray, pkC_length _ _ _ _ _ _ HQ.out]))) rfl ?_
  exact ⟨some ⟨gp, 0, none⟩, c2, by rw [HL3.out], sin_grown HS7.out hgz (fun ad e => by cases e; have := HGP.out; simp only; omega), below_new HB7.out hgz (Nat.le_trans HG.out.1 (Nat.le_of_lt HG.out.2)) HB7.out.size⟩
end Go.Proofs.YtbomckbekcaemaaDoor
