/-
  The contract of the document's open.
-/
import Derived.Test.YtbomckbekcaemaaDoorRso
import Derived.Test.YtbomckbekcaemaaDoorRsi
import Derived.Test.YtbomckbekcaemaaDoorRdn
namespace Go.Proofs.YtbomckbekcaemaaDoor
open Go.RowKit

theorem cntM_app (a b : Attrs) : cntM (a ++ b) = cntM a + cntM b := by unfold cntM; rw [List.filter_append, List.length_append]
theorem attrs_part {la : Attrs} {k : Nat} (hk : k < la.length) : la = la.take k ++ ([la.getD k (0, [])] ++ la.drop (k + 1)) := by
  conv => lhs; rw [← List.take_append_drop k la, List.drop_eq_getElem_cons hk]
  rw [List.getD_eq_getElem?_getD, List.getElem?_eq_getElem hk]
  rfl
theorem cntM_part {la : Attrs} {k : Nat} (hk : k < la.length) (h80 : (la.getD k (0, [])).1 = 80) : cntM la = cntM (la.take k) + 1 + cntM (la.drop (k + 1)) := by
  conv => lhs; rw [attrs_part hk]
  rw [cntM_app, cntM_app]
  have : cntM [la.getD k (0, [])] = 1 := by unfold cntM; rw [List.filter_cons, if_pos (by simpa using h80)]; rfl
  rw [this]; omega
theorem hasMark_none {la : Attrs} (h : cntM la = 0) : hasMark la = false := by rw [← cntM_has, h]; rfl
theorem hasMark_app (a b : Attrs) : hasMark (a ++ b) = (hasMark a || hasMark b) := by unfold hasMark; rw [List.any_append]
theorem marks_one {la : Attrs} {r : Int} (h1 : cntM la = 1) (hr : LastIx la r) : ∃ k : Nat, r = (k : Int) ∧ k < la.length ∧ markAt la = k ∧ hasMark (la.take k ++ la.drop (k + 1)) = false := by
  rcases hr with ⟨_, hno⟩ | ⟨k, rfl, hk, h80, _⟩
  · have := markAt_no hno
    have hm : hasMark la = false := by
      cases hh : hasMark la with
      | false => rfl
      | true =>
        unfold hasMark at hh
        obtain ⟨a, ha, h8⟩ := List.any_eq_true.1 hh
        obtain ⟨j, hj, e⟩ := List.mem_iff_getElem.1 ha
        exact absurd (by rw [List.getD_eq_getElem?_getD, List.getElem?_eq_getElem hj, Option.getD_some, e]; simpa using h8) (hno j hj)
    have := cntM_has la
    rw [hm, h1] at this
    exact absurd this (by decide)
  · have hp := cntM_part hk h80
    have h2 := hasMark_none (la := la.take k) (by omega)
    have h3 := hasMark_none (la := la.drop (k + 1)) (by omega)
    refine ⟨k, rfl, hk, markAt_at hk h80 (fun j hj => ?_), by rw [hasMark_app, h2, h3]; rfl⟩
    have := hasMark_no h2 j (by rw [List.length_take]; omega)
    rwa [List.getD_eq_getElem?_getD, List.getElem?_take_of_lt hj, ← List.getD_eq_getElem?_getD] at this
theorem marks_not {code id : Int} {Q : List UInt8} {la : Attrs} {sec : List UInt8} (h1 : ¬ cntM la = 1) : unmarkE code id Q la sec = (zeroPk, 5) := by
  unfold unmarkE
  rw [if_neg]
  rintro ⟨hk, _, hno, _⟩
  have h80 : (la.getD (markAt la) (0, [])).1 = 80 := by
    unfold markAt at hk ⊢
    have := List.findIdx_getElem (w := hk)
    rw [List.getD_eq_getElem?_getD, List.getElem?_eq_getElem hk, Option.getD_some]
    simpa using this
  have hp := cntM_part hk h80
  have h2 := cntM_has (la.take (markAt la) ++ la.drop (markAt la + 1))
  rw [hno] at h2
  have h3 := of_decide_eq_false h2
  rw [cntM_app] at h3
  omega
theorem ix_cutA2 (cp k1 op : Nat) : ∃ o, Hid ((cp = k1 ∧ o = op) ∨ (¬ cp = k1 ∧ o = op + k1 * 2)) := by
  by_cases h : cp = k1
  · exact ⟨op, Lib.hid (.inl ⟨h, rfl⟩)⟩
  · exact ⟨op + k1 * 2, Lib.hid (.inr ⟨h, rfl⟩)⟩
theorem SIn.take {w : World} {B c : Nat} {A : Option Addr} {la : Attrs} (h : SIn w B A c la) (k : Nat) : SIn w B A c (la.take k) := by
  refine ⟨Nat.le_trans (by rw [List.length_take]; omega) h.1, h.2.1, fun h0 => ?_⟩
  rw [List.length_take] at h0
  obtain ⟨gp, op, e, hg, hrow⟩ := h.2.2 (by omega)
  refine ⟨gp, op, e, hg, fun j hj => ?_⟩
  rw [List.length_take] at hj
  have := hrow j (by omega)
  rwa [show (la.take k).getD j (0, []) = la.getD j (0, []) by rw [List.getD_eq_getElem?_getD, List.getElem?_take_of_lt (by omega), ← List.getD_eq_getElem?_getD]]
theorem SIn.drop {w : World} {B c gp op o1 : Nat} {la : Attrs} (h : SIn w B (some ⟨gp, op, none⟩) c la) (k : Nat) (_hk : k ≤ la.length) (ho : (c = k ∧ o1 = op) ∨ (¬ c = k ∧ o1 = op + k * 2)) : SIn w B (some ⟨gp, o1, none⟩) (c - k) (la.drop k) := by
  have h1 := h.1
  refine ⟨by rw [List.length_drop]; omega, Nat.le_trans (Nat.sub_le _ _) h.2.1, fun h0 => ?_⟩
  rw [List.length_drop] at h0
  obtain ⟨gp', op', e, hg, hrow⟩ := h.2.2 (by omega)
  cases e
  rcases ho with ⟨hc, _⟩ | ⟨_, ho⟩
  · omega
  · subst ho
    refine ⟨gp, _, rfl, hg, fun j hj => ?_⟩
    rw [List.length_drop] at hj
    have := hrow (k + j) (by omega)
    rw [List.getD_eq_getElem?_getD, List.getElem?_drop, ← List.getD_eq_getElem?_getD, show op + k * 2 + j * 2 = op + (k + j) * 2 by omega]
    exact this
theorem step_append_sin {ops : Array Oper} {o : Oper} {a : Act} {w : World} {K : Act → World → Prop} {Q : Exit → Act → World → Prop} {E : Prop} (hgd : o.guard = none) (s x : Operand) (ho : o.op = .call { callee := .builtin .append, args := #[s, x], argTypes := #[23, 23] })
    (base : Nat) (v : Value) (lb : Attrs) (hs : a.eval s = v) (hown : SRow w base v lb) (hbase : base ≤ w.heap.size) (A : Option Addr) (n c : Nat) (la : Attrs) (hx : a.eval x = .slice A n c) (hn : la.length = n) (hA : SIn w w.heap.size A c la) (hm : lb.length + n ≤ 1000000)
    (h : ∀ v' w', SRow w' base v' (lb ++ la) → w.grownBy w' v.ownBlock → K (a.put o.dst v') w') : if Region.wanted o (yielded ops a.tmps) = true then Oper.wp Tryd.prog o a w K Q else E := by
  subst hn
  cases A with
  | some ad =>
    have hcl : ∀ j u, (cellsS la)[j]? = some u → w.cell? (ad.add j) = some u := by
      intro j u hj
      have hl : j < la.length * 2 := by have := (List.getElem?_eq_some_iff.1 hj).1; rwa [cellsS_length] at this
      obtain ⟨gp, op, e, _, hrow⟩ := hA.2.2 (by omega)
      cases e
      exact cellsS_cells hrow j u hj
    exact step_append_own (z := .agg #[.int .i64 0, .string ⟨#[]⟩]) (size := 2) (bytes := 24) Tryd.underlying23 infS rfl (by decide) (by decide) hgd s x ho base v lb.length (cellsS lb) hs hown hbase ad la.length c hx (cellsS la) (cellsS_length la) hcl (cellsS_one la) hm
      (fun v' w' h2 h3 _ => h v' w' (by unfold SRow; unfold cellsS at h2 ⊢; rw [List.flatMap_append, List.length_append]; exact h2) h3)
  | none =>
    have h0 : la = [] := by
      rcases Nat.eq_zero_or_pos la.length with h0 | h0
      · exact List.eq_nil_of_length_eq_zero h0
      · obtain ⟨gp, op, e, _⟩ := hA.2.2 h0
        cases e
    subst h0
    obtain ⟨A', c', hv, hI⟩ := hown.slice
    subst hv
    obtain ⟨i, hi, _⟩ := Option.map_eq_some_iff.1 infS
    have hr := run_append_nothing (P := Tryd.prog) w 23 23 o.type 62 i Tryd.underlying23 hi A' lb.length c' hI.1 (.slice none 0 c) (_root_.Go.Src.ofNil w Tryd.underlying23 c)
    have hwt : Region.wanted o (yielded ops a.tmps) = true := by simp [Region.wanted, hgd]
    rw [if_pos hwt]
    unfold Oper.wp execOp
    simp only [ho, resolve, invoke, builtin, Sem.run_bind, Sem.run_pure, Result.andThen_ok, List.map_toArray, List.map_cons, List.map_nil, hs, hx, List.length_nil, hr]
    exact h _ _ (by rw [List.append_nil]; exact hown) (grown_refl _ _)
set_option maxRecDepth 100000 in
set_option maxHeartbeats 2000000 in
theorem ropen_not (c n : Nat) (code id : Int) (Q : List UInt8) (A : Option Addr) (la : Attrs) (sec : List UInt8) (w : World) (hQ : Q.length = 16) (hn : la.length = n) (hA : SIn w w.heap.size A c la) (hm : n ≤ 400000) (hs : sec.length ≤ 1000000) (hok : pkOK code id la = true) (h1 : ¬ cntM la = 1) :
    Calls Tryd.prog 56 #[.agg (pkC code id Q A n c).toArray, .string ⟨sec.toArray⟩] w (RPkPost (unmarkE code id Q la sec) w) := by
  have HZ := Lib.hid (marks_not (code := code) (id := id) (Q := Q) (sec := sec) h1)
  have hne : ¬ (cntM la : Int) = 1 := by omega
  clear h1
  have HQ := Lib.hid hQ
  have HN := Lib.hid (And.intro hn (And.intro hA (And.intro hm (And.intro hs hok))))
  have HMK := Lib.hid (fun (W : World) (h : Below w.heap.size w W) => rmarks_e c n code id Q A la W hQ hn (hA.up h))
  clear hQ hn hA hm hs hok
  go_enter Tryd.func56, Tryd.ntmps56
  go_upto_region 1 with (fail)
  have hP := (Blk.new_of w 25 (pkC code id Q A n c).toArray (pkC code id Q A n c) rfl).alloc (.cells #[.int .i64 0, .int .i64 0, .int .u8 0, .int .u8 0, .int .u8 0, .int .u8 0, .int .u8 0, .int .u8 0, .int .u8 0, .int .u8 0, .int .u8 0, .int .u8 0, .int .u8 0, .int .u8 0, .int .u8 0, .int .u8 0, .int .u8 0, .int .u8 0, .slice none 0 0] 25)
  have hR := Blk.new2_of w (.cells (pkC code id Q A n c).toArray 25) 25 #[.int .i64 0, .int .i64 0, .int .u8 0, .int .u8 0, .int .u8 0, .int .u8 0, .int .u8 0, .int .u8 0, .int .u8 0, .int .u8 0, .int .u8 0, .int .u8 0, .int .u8 0, .int .u8 0, .int .u8 0, .int .u8 0, .int .u8 0, .int .u8 0, .slice none 0 0] (pkC 0 0 zQ none 0 0) rfl
  have hb0 : Below w.heap.size w ((w.alloc (.cells (pkC code id Q A n c).toArray 25)).alloc (.cells #[.int .i64 0, .int .i64 0, .int .u8 0, .int .u8 0, .int .u8 0, .int .u8 0, .int .u8 0, .int .u8 0, .int .u8 0, .int .u8 0, .int .u8 0, .int .u8 0, .int .u8 0, .int .u8 0, .int .u8 0, .int .u8 0, .int .u8 0, .int .u8 0, .slice none 0 0] 25)) := ((Below.refl _ _).alloc (Nat.le_refl _) _).alloc (by simp) _
  obtain ⟨gr, hgr⟩ : ∃ gr, gr = w.heap.size + 1 := ⟨_, rfl⟩
  obtain ⟨g, hg⟩ : ∃ g, g = w.heap.size := ⟨_, rfl⟩
  have HG := Lib.hid (show w.heap.size ≤ g ∧ g < gr by omega)
  rw [← hgr] at hR
  rw [← hg] at hP
  simp only [← hgr]
  clear hgr
  simp only [← hg]
  have hp1 := hP
  have HP1 := Lib.hid hP
  have HR1 := Lib.hid hR
  have HX1 := Lib.hid hb0
  clear hg hP hR hb0
  generalize (w.alloc (.cells (pkC code id Q A n c).toArray 25)).alloc (.cells #[.int .i64 0, .int .i64 0, .int .u8 0, .int .u8 0, .int .u8 0, .int .u8 0, .int .u8 0, .int .u8 0, .int .u8 0, .int .u8 0, .int .u8 0, .int .u8 0, .int .u8 0, .int .u8 0, .int .u8 0, .int .u8 0, .int .u8 0, .int .u8 0, .slice none 0 0] 25) = w1 at *
  go_upto_region 2 with (first
    | ((with_reducible refine (?_ : wpList _ _ _ (Oper.mk (some 11) _ _ _ _ _ :: _) _ _)); go_loud (refine wpList_load_blk rfl 25 (.tmp 2) rfl g rfl _ _ _ (hp1) Tryd.underlying25 rfl (infRP.trans (by rw [pkC_length _ _ _ _ _ _ HQ.out])) ?_))
    | (go_at_call 50; refine (HMK.out _ HX1.out).mono ?_; rintro e w2 ⟨r, rfl, hr, hb2⟩))
  have HX2 := Lib.hid (HX1.out.trans (hb2.mono HX1.out.size))
  have HP2 := Lib.hid (HP1.out.below hb2 HP1.out.lt)
  have HR2 := Lib.hid (HR1.out.below hb2 HR1.out.lt)
  have HLR := Lib.hid hr
  clear hp1 hb2 hr
  generalize cntM la = q at *
  go_wp2_with ((with_reducible refine (?_ : wpList _ _ _ (Oper.mk none _ _ _ _ _ :: _) _ _)); go_loud (refine wpList_store_blk rfl 25 (.tmp 4) (.tmp 27) rfl rfl gr (pkC 0 0 zQ none 0 0) rfl rfl _ _ (HR2.out) (infRP) (rfl) (pk_one _ _ _ _ _ _) ?_); intro wz hPz hgz)
  refine bodyPost_ret (v := .tuple #[.agg _, _]) (results_cs rfl _ _ gr 25 _ _ _ rfl rfl hPz Tryd.underlying25 rfl infRP) rfl ?_
  exact ⟨none, 0, 0, by rw [HZ.out] <;> rfl, by rw [HZ.out]; exact SRow.nil _ _, by rw [HZ.out]; rfl, below_new HX2.out hgz (Nat.le_trans HG.out.1 (Nat.le_of_lt HG.out.2)) (HX2.out).size⟩
set_option maxRecDepth 100000 in
set_option maxHeartbeats 4000000 in
theorem ropen_one (c n : Nat) (code id : Int) (Q : List UInt8) (A : Option Addr) (la : Attrs) (sec : List UInt8) (w : World) (hQ : Q.length = 16) (hn : la.length = n) (hA : SIn w w.heap.size A c la) (hm : n ≤ 400000) (hs : sec.length ≤ 1000000) (hok : pkOK code id la = true) (h1 : cntM la = 1) :
    Calls Tryd.prog 56 #[.agg (pkC code id Q A n c).toArray, .string ⟨sec.toArray⟩] w (RPkPost (unmarkE code id Q la sec) w) := by
  have hmk := fun r => marks_one (r := r) h1
  have HQ := Lib.hid hQ
  have HMO := Lib.hid hmk
  clear hmk
  have HN := Lib.hid (And.intro hn (And.intro hA (And.intro hm (And.intro hs hok))))
  have HMK := Lib.hid (fun (W : World) (h : Below w.heap.size w W) => (show Calls Tryd.prog 50 #[.agg (pkC code id Q A n c).toArray] W (fun e w' => ∃ r, e = .returned (.tuple #[.int .i64 1, .int .i64 r]) ∧ LastIx la r ∧ Below W.heap.size W w') by have := rmarks_e c n code id Q A la W hQ hn (hA.up h); rw [h1] at this; exact this))
  clear hQ hn hA hm hs hok
  go_enter Tryd.func56, Tryd.ntmps56
  go_upto_region 1 with (fail)
  have hP := (Blk.new_of w 25 (pkC code id Q A n c).toArray (pkC code id Q A n c) rfl).alloc (.cells #[.int .i64 0, .int .i64 0, .int .u8 0, .int .u8 0, .int .u8 0, .int .u8 0, .int .u8 0, .int .u8 0, .int .u8 0, .int .u8 0, .int .u8 0, .int .u8 0, .int .u8 0, .int .u8 0, .int .u8 0, .int .u8 0, .int .u8 0, .int .u8 0, .slice none 0 0] 25)
  have hR := Blk.new2_of w (.cells (pkC code id Q A n c).toArray 25) 25 #[.int .i64 0, .int .i64 0, .int .u8 0, .int .u8 0, .int .u8 0, .int .u8 0, .int .u8 0, .int .u8 0, .int .u8 0, .int .u8 0, .int .u8 0, .int .u8 0, .int .u8 0, .int .u8 0, .int .u8 0, .int .u8 0, .int .u8 0, .int .u8 0, .slice none 0 0] (pkC 0 0 zQ none 0 0) rfl
  have hb0 : Below w.heap.size w ((w.alloc (.cells (pkC code id Q A n c).toArray 25)).alloc (.cells #[.int .i64 0, .int .i64 0, .int .u8 0, .int .u8 0, .int .u8 0, .int .u8 0, .int .u8 0, .int .u8 0, .int .u8 0, .int .u8 0, .int .u8 0, .int .u8 0, .int .u8 0, .int .u8 0, .int .u8 0, .int .u8 0, .int .u8 0, .int .u8 0, .slice none 0 0] 25)) := ((Below.refl _ _).alloc (Nat.le_refl _) _).alloc (by simp) _
  obtain ⟨gr, hgr⟩ : ∃ gr, gr = w.heap.size + 1 := ⟨_, rfl⟩
  obtain ⟨g, hg⟩ : ∃ g, g = w.heap.size := ⟨_, rfl⟩
  have HG := Lib.hid (show w.heap.size ≤ g ∧ g < gr by omega)
  rw [← hgr] at hR
  rw [← hg] at hP
  simp only [← hgr]
  clear hgr
  simp only [← hg]
  have hp1 := hP
  have HP1 := Lib.hid hP
  have HR1 := Lib.hid hR
  have HX1 := Lib.hid hb0
  clear hg hP hR hb0
  generalize (w.alloc (.cells (pkC code id Q A n c).toArray 25)).alloc (.cells #[.int .i64 0, .int .i64 0, .int .u8 0, .int .u8 0, .int .u8 0, .int .u8 0, .int .u8 0, .int .u8 0, .int .u8 0, .int .u8 0, .int .u8 0, .int .u8 0, .int .u8 0, .int .u8 0, .int .u8 0, .int .u8 0, .int .u8 0, .int .u8 0, .slice none 0 0] 25) = w1 at *
  go_upto_region 2 with (first
    | ((with_reducible refine (?_ : wpList _ _ _ (Oper.mk (some 11) _ _ _ _ _ :: _) _ _)); go_loud (refine wpList_load_blk rfl 25 (.tmp 2) rfl g rfl _ _ _ (hp1) Tryd.underlying25 rfl (infRP.trans (by rw [pkC_length _ _ _ _ _ _ HQ.out])) ?_))
    | (go_at_call 50; refine (HMK.out _ HX1.out).mono ?_; rintro e w2 ⟨r, rfl, hr, hb2⟩))
  have HX2 := Lib.hid (HX1.out.trans (hb2.mono HX1.out.size))
  have HP2 := Lib.hid (HP1.out.below hb2 HP1.out.lt)
  have HR2 := Lib.hid (HR1.out.below hb2 HR1.out.lt)
  have HLR := Lib.hid hr
  clear hp1 hb2 hr
  obtain ⟨k, hrk, hkr, hka, hno⟩ := HMO.out r HLR.out
  subst hrk
  clear h1
  obtain ⟨hn, hA, hm, hs, hok⟩ := HN.out
  obtain ⟨gp, op, hAe, hgp, hrow⟩ := hA.2.2 (Nat.lt_of_le_of_lt (Nat.zero_le _) hkr)
  subst hAe
  obtain ⟨_, h2⟩ := hrow k hkr
  obtain ⟨v, hv⟩ : ∃ v, v = (la.getD k (0, [])).2 := ⟨_, rfl⟩
  rw [← hv] at h2
  obtain ⟨vl, hvl⟩ : ∃ vl, v.length = vl := ⟨_, rfl⟩
  obtain ⟨k1, hk1⟩ : ∃ k1, k1 = k + 1 := ⟨_, rfl⟩
  have HE := Lib.hid (show unmarkE code id Q la sec = if vl = 16 ∧ v = hmacQ sec (pkB code id Q (la.set k (80, zQ))) then ((code, id, Q, la.take k ++ la.drop k1), 0) else (zeroPk, 5) by
    unfold unmarkE
    rw [hka, ← hv, hno, hvl, hk1]
    simp [hkr])
  have HGP := Lib.hid hgp
  have HCV := Lib.hid h2
  have HKR := Lib.hid (And.intro hkr (And.intro hk1 (And.intro hv hvl)))
  have hc18 : w2.cell? ⟨g, 18, none⟩ = some (.slice (some ⟨gp, op, none⟩) n c) := (HP2.out.cell 18).trans (pkC_last code id Q _ n c HQ.out)
  have hcv : w2.cell? ⟨gp, op + k * 2 + 1, none⟩ = some (.string ⟨v.toArray⟩) := (HX2.out.cell (p := ⟨gp, op + k * 2 + 1, none⟩) hgp).trans h2
  have hvs : (⟨v.toArray⟩ : ByteArray).size = vl := by show v.toArray.size = vl; simpa using hvl
  have hk0 : (0 : Int) ≤ (k : Int) := by omega
  have hkn : (k : Int) < (n : Int) := by omega
  clear hrow h2 hv hvl hk1 hno hka hgp hn hA hm hs hok hkr
  by_cases h16 : vl = 16
  · subst h16
    obtain ⟨hkr, hk1, hv, hvl⟩ := HKR.out
    obtain ⟨hn, hA, hm, hs, hok⟩ := HN.out
    have hok2 : pkOK code id (la.set k (80, zQ)) = true := by
      have hat := attrs_set hkr (by rw [← hv]; exact hvl) (pk_ranges hok).2.2
      unfold pkOK at hok ⊢
      rw [hat]
      simp only [Bool.and_eq_true] at hok ⊢
      exact ⟨hok.1, trivial⟩
    obtain ⟨V, hV⟩ : ∃ V, pkB code id Q (la.set k (80, zQ)) = V := ⟨_, rfl⟩
    have hW : writeE code id Q (la.set k (80, zQ)) = (V, 0) := by unfold writeE; rw [if_pos hok2, hV]
    have hVl : V.length ≤ 4096 := by have := writeE_small code id Q (la.set k (80, zQ)) HQ.out; rw [hW] at this; exact this
    obtain ⟨MM, hMM⟩ : ∃ MM, hmacQ sec V = MM := ⟨_, rfl⟩
    have HWT := Lib.hid (fun (W : World) (h : Below w.heap.size w W) => (show Calls Tryd.prog 69 #[.agg (pkC code id Q (some ⟨gp, op, none⟩) n c).toArray, .int .i64 (k : Int), .string ⟨zQ.toArray⟩] W (fun e w' => ∃ A' c', e = .returned (.agg (pkC code id Q A' n c').toArray) ∧ SIn w' w'.heap.size A' c' (la.set k (80, zQ)) ∧ Below W.heap.size W w') by
      have := rwith_e c n k code id Q (some ⟨gp, op, none⟩) la zQ W HQ.out hn (hA.up h) hm (by omega)
      have he : withE la k zQ = la.set k (80, zQ) := by unfold withE; rw [if_neg (by omega)]
      rw [he, List.length_set, hn] at this
      exact this))
    have HRW := Lib.hid (fun (W : World) (A : Option Addr) (c : Nat) (h : SIn W W.heap.size A c (la.set k (80, zQ))) => (show Calls Tryd.prog 14 #[.agg (pkC code id Q A n c).toArray] W (fun e w' => e = .returned (.tuple #[.string ⟨V.toArray⟩, .int .i64 0]) ∧ Below W.heap.size W w') by
      have := rwrite_e c n code id Q A (la.set k (80, zQ)) W HQ.out (by rw [List.length_set, hn]) h
      rw [hW] at this
      exact this))
    have HMC := Lib.hid (fun (W : World) => (show Calls Tryd.prog 71 #[.string ⟨sec.toArray⟩, .string ⟨V.toArray⟩] W (fun e w' => e = .returned (.string ⟨MM.toArray⟩) ∧ Below W.heap.size W w') by have := refMacQ_any sec V W (by omega) (by omega); rwa [hMM] at this))
    have HE2 := Lib.hid (show unmarkE code id Q la sec = if v = MM then ((code, id, Q, la.take k ++ la.drop k1), 0) else (zeroPk, 5) by
      rw [HE.out, hV, hMM]
      simp)
    obtain ⟨o1, HO1⟩ := ix_cutA2 c k1 op
    have hlen : k1 ≤ n ∧ n ≤ c ∧ n ≤ 400000 := ⟨by omega, by rw [← hn]; exact hA.1, hm⟩
    have HAT0 := Lib.hid (hA.take k)
    have HAD0 := Lib.hid (hA.drop k1 (by omega) HO1.out)
    have HLT := Lib.hid (show (la.take k).length = k ∧ (la.drop k1).length = n - k1 by rw [List.length_take, List.length_drop]; omega)
    have HLM := Lib.hid (show k ≤ 400000 ∧ n - k1 ≤ 400000 by omega)
    obtain ⟨e1, e2, e3, e4, e5, e6, e7, e8, e9⟩ := ix_k1 hk1 (show k < n by omega) hlen.2.1 hlen.2.2
    clear hkr hk1 hv hvl hn hA hm hs hok hok2 hV hW hVl hMM hlen
    go_upto_region 4 with (fail)
    clear hc18 hcv hvs
    have HXw2 := HX2
    refine wp_region_noPanic ?_
    refine wp_region_held_drew (S := fun W => Below w2.heap.size w2 W) (by kernel_rfl) (by exact below_drewN (Below.refl _ _) 1) (fun hHeld => ?_)
    replace hHeld : Below w2.heap.size w2 w2.drew := hHeld
    have HXwd := Lib.hid (HXw2.out.trans (hHeld.mono HXw2.out.size))
    have HYwd := Lib.hid (show Below w2.heap.size w2 w2.drew from hHeld)
    generalize w2.drew = wd at *
    refine anyH_mono (S' := fun W => Below wd.heap.size wd W) (fun W h => hHeld.trans (h.mono hHeld.size)) _ _ _ _ ?_
    clear hHeld
    have hHeld : Below wd.heap.size wd wd := Below.refl _ _
    refine' wpAnyH_take (i := 0) (oi := ⟨_, _, _, _, _, _⟩) rfl (by kernel_rfl) (by kernel_rfl) (by kernel_rfl) (fun _ _ _ h => h) (yieldsIf_load_mid (by rfl) 25 _ rfl g 0 rfl (pkC code id Q (some ⟨gp, op, none⟩) n c) _ (fun W hSw => rangeAt_of_blk ((HP2.out).below (HYwd.out.trans (hSw.mono HYwd.out.size)) (HP2.out).lt)) Tryd.underlying25 rfl (infRP.trans (by rw [pkC_length _ _ _ _ _ _ HQ.out]))) hHeld ?_
    try simp only [Act.put, List.setIfInBounds_toArray, List.set_cons_zero, List.set_cons_succ]
    refine wpAnyH_take (i := 1) (oi := ⟨_, _, _, _, _, _⟩) (v := ?_) rfl (by kernel_rfl) (by kernel_rfl) (by kernel_rfl) (fun _ _ _ h => h) (Or.inl ⟨by rfl, ?_⟩) hHeld ?_
    rotate_left 1
    · (intro W hSw; (try dsimp only at hSw); go_simp; try with_reducible rfl)
    try simp only [Act.put, List.setIfInBounds_toArray, List.set_cons_zero, List.set_cons_succ]
    refine wpAnyH_ready (rs := [2]) (by kernel_rfl) (by simp) ?_
    refine AllReadyH.cons (o := ⟨_, _, _, _, _, _⟩) rfl (fun K hK => ?_) AllReadyH.nil
    go_simp
    go_at_call 70
    refine (rzero_e _).mono ?_
    rintro e wa ⟨rfl, hba⟩
    try go_wp2_with fail
    have hszx := hHeld.size
    refine hK.out _ _ (hHeld.trans (hba.mono hszx)) (fun hHeld => ?_)
    clear hK K hszx
    replace hHeld : Below wd.heap.size wd wa := hHeld
    have HXwa := Lib.hid (HXwd.out.trans (hHeld.mono HXwd.out.size))
    have HYwa := Lib.hid (HYwd.out.trans (hHeld.mono HYwd.out.size))
    try simp only [Act.put, List.setIfInBounds_toArray, List.set_cons_zero, List.set_cons_succ]
    refine anyH_mono (S' := fun W => Below wa.heap.size wa W) (fun W h => hHeld.trans (h.mono hHeld.size)) _ _ _ _ ?_
    clear hHeld
    have hHeld : Below wa.heap.size wa wa := Below.refl _ _
    refine wpAnyH_ready (rs := [3]) (by kernel_rfl) (by simp) ?_
    refine AllReadyH.cons (o := ⟨_, _, _, _, _, _⟩) rfl (fun K hK => ?_) AllReadyH.nil
    go_simp
    go_at_call 69
    refine (HWT.out _ HXwa.out).mono ?_
    rintro e wb ⟨Ab, cb, rfl, hIb, hbb⟩
    try go_wp2_with fail
    have hszx := hHeld.size
    refine hK.out _ _ (hHeld.trans (hbb.mono hszx)) (fun hHeld => ?_)
    clear hK K hszx
    replace hHeld : Below wa.heap.size wa wb := hHeld
    have HXwb := Lib.hid (HXwa.out.trans (hHeld.mono HXwa.out.size))
    have HYwb := Lib.hid (HYwa.out.trans (hHeld.mono HYwa.out.size))
    have HIb := Lib.hid hIb
    clear hIb
    try simp only [Act.put, List.setIfInBounds_toArray, List.set_cons_zero, List.set_cons_succ]
    refine anyH_mono (S' := fun W => Below wb.heap.size wb W) (fun W h => hHeld.trans (h.mono hHeld.size)) _ _ _ _ ?_
    clear hHeld
    have hHeld : Below wb.heap.size wb wb := Below.refl _ _
    refine wpAnyH_ready (rs := [4]) (by kernel_rfl) (by simp) ?_
    refine AllReadyH.cons (o := ⟨_, _, _, _, _, _⟩) rfl (fun K hK => ?_) AllReadyH.nil
    go_simp
    go_at_call 14
    refine (HRW.out _ _ _ HIb.out).mono ?_
    rintro e wc ⟨rfl, hbe⟩
    try go_wp2_with fail
    have hszx := hHeld.size
    refine hK.out _ _ (hHeld.trans (hbe.mono hszx)) (fun hHeld => ?_)
    clear hK K hszx
    replace hHeld : Below wb.heap.size wb wc := hHeld
    have HXwc := Lib.hid (HXwb.out.trans (hHeld.mono HXwb.out.size))
    have HYwc := Lib.hid (HYwb.out.trans (hHeld.mono HYwb.out.size))
    try simp only [Act.put, List.setIfInBounds_toArray, List.set_cons_zero, List.set_cons_succ]
    refine anyH_mono (S' := fun W => Below wc.heap.size wc W) (fun W h => hHeld.trans (h.mono hHeld.size)) _ _ _ _ ?_
    clear hHeld
    have hHeld : Below wc.heap.size wc wc := Below.refl _ _
    refine wpAnyH_take (i := 5) (oi := ⟨_, _, _, _, _, _⟩) (v := ?_) rfl (by kernel_rfl) (by kernel_rfl) (by kernel_rfl) (fun _ _ _ h => h) (Or.inl ⟨by rfl, ?_⟩) hHeld ?_
    rotate_left 1
    · (intro W hSw; (try dsimp only at hSw); go_simp; try with_reducible rfl)
    try simp only [Act.put, List.setIfInBounds_toArray, List.set_cons_zero, List.set_cons_succ]
    refine wpAnyH_take (i := 6) (oi := ⟨_, _, _, _, _, _⟩) (v := ?_) rfl (by kernel_rfl) (by kernel_rfl) (by kernel_rfl) (fun _ _ _ h => h) (Or.inl ⟨by rfl, ?_⟩) hHeld ?_
    rotate_left 1
    · (intro W hSw; (try dsimp only at hSw); go_simp; try with_reducible rfl)
    try simp only [Act.put, List.setIfInBounds_toArray, List.set_cons_zero, List.set_cons_succ]
    refine wpAnyH_take (i := 7) (oi := ⟨_, _, _, _, _, _⟩) (v := ?_) rfl (by kernel_rfl) (by kernel_rfl) (by kernel_rfl) (fun _ _ _ h => h) (Or.inl ⟨by rfl, ?_⟩) hHeld ?_
    rotate_left 1
    · (intro W hSw; (try dsimp only at hSw); go_simp; try with_reducible rfl)
    try simp only [Act.put, List.setIfInBounds_toArray, List.set_cons_zero, List.set_cons_succ]
    refine wpAnyH_take (i := 8) (oi := ⟨_, _, _, _, _, _⟩) (v := ?_) rfl (by kernel_rfl) (by kernel_rfl) (by kernel_rfl) (fun _ _ _ h => h) (Or.inl ⟨by rfl, ?_⟩) hHeld ?_
    rotate_left 1
    · (intro W hSw; (try dsimp only at hSw); go_simp; try with_reducible rfl)
    try simp only [Act.put, List.setIfInBounds_toArray, List.set_cons_zero, List.set_cons_succ]
    refine wpAnyH_take (i := 9) (oi := ⟨_, _, _, _, _, _⟩) (v := ?_) rfl (by kernel_rfl) (by kernel_rfl) (by kernel_rfl) (fun _ _ _ h => h) (Or.inl ⟨by rfl, ?_⟩) hHeld ?_
    rotate_left 1
    · (intro W hSw; (try dsimp only at hSw); go_simp; try with_reducible rfl)
    try simp only [Act.put, List.setIfInBounds_toArray, List.set_cons_zero, List.set_cons_succ]
    refine wpAnyH_done (by kernel_rfl) ?_ _
    refine NoPanic.normal ?_
    clear hHeld
    have HPc := Lib.hid (HP2.out.below HYwc.out HP2.out.lt)
    have HRc := Lib.hid (HR2.out.below HYwc.out HR2.out.lt)
    clear HIb
    go_upto_region 5 with (fail)
    refine wp_region_noPanic ?_
    refine wp_region_held_drew (S := fun W => Below wc.heap.size wc W) (by kernel_rfl) (by exact below_drewN (Below.refl _ _) 1) (fun hHeld => ?_)
    replace hHeld : Below wc.heap.size wc wc.drew := hHeld
    have HXwh := Lib.hid (HXwc.out.trans (hHeld.mono HXwc.out.size))
    have HYwh := Lib.hid (show Below wc.heap.size wc wc.drew from hHeld)
    generalize wc.drew = wh at *
    refine anyH_mono (S' := fun W => Below wh.heap.size wh W) (fun W h => hHeld.trans (h.mono hHeld.size)) _ _ _ _ ?_
    clear hHeld
    have hHeld : Below wh.heap.size wh wh := Below.refl _ _
    refine wpAnyH_take (i := 0) (oi := ⟨_, _, _, _, _, _⟩) (v := ?_) rfl (by kernel_rfl) (by kernel_rfl) (by kernel_rfl) (fun _ _ _ h => h) (Or.inl ⟨by rfl, ?_⟩) hHeld ?_
    rotate_left 1
    · (intro W hSw; (try dsimp only at hSw); go_simp; try with_reducible rfl)
    try simp only [Act.put, List.setIfInBounds_toArray, List.set_cons_zero, List.set_cons_succ]
    refine wpAnyH_take (i := 1) (oi := ⟨_, _, _, _, _, _⟩) (v := ?_) rfl (by kernel_rfl) (by kernel_rfl) (by kernel_rfl) (fun _ _ _ h => h) (Or.inl ⟨by rfl, ?_⟩) hHeld ?_
    rotate_left 1
    · (intro W hSw; (try dsimp only at hSw); go_simp; try with_reducible rfl)
    try simp only [Act.put, List.setIfInBounds_toArray, List.set_cons_zero, List.set_cons_succ]
    refine wpAnyH_take (i := 3) (oi := ⟨_, _, _, _, _, _⟩) (v := ?_) rfl (by kernel_rfl) (by kernel_rfl) (by kernel_rfl) (fun _ _ _ h => h) (Or.inl ⟨by rfl, ?_⟩) hHeld ?_
    rotate_left 1
    · (intro W hSw; (try dsimp only at hSw); go_simp; try with_reducible rfl)
    try simp only [Act.put, List.setIfInBounds_toArray, List.set_cons_zero, List.set_cons_succ]
    refine wpAnyH_take (i := 4) (oi := ⟨_, _, _, _, _, _⟩) (v := ?_) rfl (by kernel_rfl) (by kernel_rfl) (by kernel_rfl) (fun _ _ _ h => h) (Or.inl ⟨by rfl, ?_⟩) hHeld ?_
    rotate_left 1
    · (intro W hSw; (try dsimp only at hSw); have hcd : W.cell? ⟨g, 18, none⟩ = some (.slice (some ⟨gp, op, none⟩) n c) := (((HPc.out).below (HYwh.out.trans (hSw.mono HYwh.out.size)) (HPc.out).lt).cell 18).trans (pkC_last code id Q _ n c HQ.out); go_simp; try with_reducible rfl)
    try simp only [Act.put, List.setIfInBounds_toArray, List.set_cons_zero, List.set_cons_succ]
    refine wpAnyH_take (i := 5) (oi := ⟨_, _, _, _, _, _⟩) (v := ?_) rfl (by kernel_rfl) (by kernel_rfl) (by kernel_rfl) (fun _ _ _ h => h) (Or.inl ⟨by rfl, ?_⟩) hHeld ?_
    rotate_left 1
    · (intro W hSw; (try dsimp only at hSw); go_simp; try with_reducible rfl)
    try simp only [Act.put, List.setIfInBounds_toArray, List.set_cons_zero, List.set_cons_succ]
    refine wpAnyH_take (i := 6) (oi := ⟨_, _, _, _, _, _⟩) (v := ?_) rfl (by kernel_rfl) (by kernel_rfl) (by kernel_rfl) (fun _ _ _ h => h) (Or.inl ⟨by rfl, ?_⟩) hHeld ?_
    rotate_left 1
    · (intro W hSw; (try dsimp only at hSw); go_simp; try with_reducible rfl)
    try simp only [Act.put, List.setIfInBounds_toArray, List.set_cons_zero, List.set_cons_succ]
    refine wpAnyH_take (i := 7) (oi := ⟨_, _, _, _, _, _⟩) (v := ?_) rfl (by kernel_rfl) (by kernel_rfl) (by kernel_rfl) (fun _ _ _ h => h) (Or.inl ⟨by rfl, ?_⟩) hHeld ?_
    rotate_left 1
    · (intro W hSw; (try dsimp only at hSw); go_simp; try with_reducible rfl)
    try simp only [Act.put, List.setIfInBounds_toArray, List.set_cons_zero, List.set_cons_succ]
    refine wpAnyH_take (i := 8) (oi := ⟨_, _, _, _, _, _⟩) (v := ?_) rfl (by kernel_rfl) (by kernel_rfl) (by kernel_rfl) (fun _ _ _ h => h) (Or.inl ⟨by rfl, ?_⟩) hHeld ?_
    rotate_left 1
    · (intro W hSw; (try dsimp only at hSw); have hce : W.cell? ⟨gp, op + k * 2 + 1, none⟩ = some (.string ⟨v.toArray⟩) := ((HXwh.out.trans (hSw.mono HXwh.out.size)).cell (p := ⟨gp, op + k * 2 + 1, none⟩) HGP.out).trans HCV.out; go_simp; try with_reducible rfl)
    try simp only [Act.put, List.setIfInBounds_toArray, List.set_cons_zero, List.set_cons_succ]
    refine wpAnyH_ready (rs := [2]) (by kernel_rfl) (by simp) ?_
    refine AllReadyH.cons (o := ⟨_, _, _, _, _, _⟩) rfl (fun K hK => ?_) AllReadyH.nil
    go_simp
    go_at_call 71
    refine (HMC.out _).mono ?_
    rintro e wi ⟨rfl, hbm⟩
    try go_wp2_with fail
    have hszx := hHeld.size
    refine hK.out _ _ (hHeld.trans (hbm.mono hszx)) (fun hHeld => ?_)
    clear hK K hszx
    replace hHeld : Below wh.heap.size wh wi := hHeld
    have HXwi := Lib.hid (HXwh.out.trans (hHeld.mono HXwh.out.size))
    have HYwi := Lib.hid (HYwh.out.trans (hHeld.mono HYwh.out.size))
    try simp only [Act.put, List.setIfInBounds_toArray, List.set_cons_zero, List.set_cons_succ]
    refine anyH_mono (S' := fun W => Below wi.heap.size wi W) (fun W h => hHeld.trans (h.mono hHeld.size)) _ _ _ _ ?_
    clear hHeld
    have hHeld : Below wi.heap.size wi wi := Below.refl _ _
    refine wpAnyH_take (i := 9) (oi := ⟨_, _, _, _, _, _⟩) (v := ?_) rfl (by kernel_rfl) (by kernel_rfl) (by kernel_rfl) (fun _ _ _ h => h) (Or.inl ⟨by rfl, ?_⟩) hHeld ?_
    rotate_left 1
    · (intro W hSw; (try dsimp only at hSw); go_simp; try with_reducible rfl)
    try simp only [Act.put, List.setIfInBounds_toArray, List.set_cons_zero, List.set_cons_succ]
    refine wpAnyH_done (by kernel_rfl) ?_ _
    refine NoPanic.normal ?_
    clear hHeld
    have HPi := Lib.hid (HPc.out.below HYwi.out HPc.out.lt)
    have HRi := Lib.hid (HRc.out.below HYwi.out HRc.out.lt)
    by_cases hvm : v = MM
    · subst hvm
      have HZ := Lib.hid (show unmarkE code id Q la sec = ((code, id, Q, la.take k ++ la.drop k1), 0) by rw [HE2.out, if_pos rfl])
      have HAT := Lib.hid (HAT0.out.up HXwi.out)
      have HAD := Lib.hid (HAD0.out.up HXwi.out)
      have HYwi0 := Lib.hid (Below.refl wi.heap.size wi)
      rw [beq_self_eq_true v, Bool.not_true]
      go_upto_region 7 with (fail)
      refine wp_region_noPanic ?_
      refine wp_region_but (S := fun W => Below wi.heap.size wi W) 13 (by kernel_rfl) (by exact below_drewN (Below.refl _ _) 1) (fun hHeld => ?_)
      refine but_take (i := 1) (oi := ⟨_, _, _, _, _, _⟩) (v := ?_) rfl (by kernel_rfl) (by kernel_rfl) (by kernel_rfl) (by kernel_rfl) (fun _ _ _ h => h) (Or.inl ⟨by rfl, ?_⟩) hHeld ?_
      rotate_left 1
      · (intro W hSw; (try dsimp only at hSw); go_simp; try with_reducible rfl)
      try simp only [Act.put, List.setIfInBounds_toArray, List.set_cons_zero, List.set_cons_succ]
      refine but_take (i := 2) (oi := ⟨_, _, _, _, _, _⟩) (v := ?_) rfl (by kernel_rfl) (by kernel_rfl) (by kernel_rfl) (by kernel_rfl) (fun _ _ _ h => h) (Or.inl ⟨by rfl, ?_⟩) hHeld ?_
      rotate_left 1
      · (intro W hSw; (try dsimp only at hSw); have hcd : W.cell? ⟨g, 18, none⟩ = some (.slice (some ⟨gp, op, none⟩) n c) := (((HPi.out).below (HYwi0.out.trans (hSw.mono HYwi0.out.size)) (HPi.out).lt).cell 18).trans (pkC_last code id Q _ n c HQ.out); go_simp; try with_reducible rfl)
      try simp only [Act.put, List.setIfInBounds_toArray, List.set_cons_zero, List.set_cons_succ]
      refine but_take (i := 3) (oi := ⟨_, _, _, _, _, _⟩) (v := ?_) rfl (by kernel_rfl) (by kernel_rfl) (by kernel_rfl) (by kernel_rfl) (fun _ _ _ h => h) (Or.inl ⟨by rfl, ?_⟩) hHeld ?_
      rotate_left 1
      · (intro W hSw; (try dsimp only at hSw); go_simp; try with_reducible rfl)
      try simp only [Act.put, List.setIfInBounds_toArray, List.set_cons_zero, List.set_cons_succ]
      refine but_take (i := 4) (oi := ⟨_, _, _, _, _, _⟩) (v := .slice (some ⟨gp, op, none⟩) k c) rfl (by kernel_rfl) (by kernel_rfl) (by kernel_rfl) (by kernel_rfl) (fun _ _ _ h => h) (Or.inl ⟨by rfl, ?_⟩) hHeld ?_
      · (intro W hSw; go_simp)
      try simp only [Act.put, List.setIfInBounds_toArray, List.set_cons_zero, List.set_cons_succ]
      refine but_take (i := 6) (oi := ⟨_, _, _, _, _, _⟩) (v := ?_) rfl (by kernel_rfl) (by kernel_rfl) (by kernel_rfl) (by kernel_rfl) (fun _ _ _ h => h) (Or.inl ⟨by rfl, ?_⟩) hHeld ?_
      rotate_left 1
      · (intro W hSw; (try dsimp only at hSw); go_simp; try with_reducible rfl)
      try simp only [Act.put, List.setIfInBounds_toArray, List.set_cons_zero, List.set_cons_succ]
      refine but_take (i := 7) (oi := ⟨_, _, _, _, _, _⟩) (v := ?_) rfl (by kernel_rfl) (by kernel_rfl) (by kernel_rfl) (by kernel_rfl) (fun _ _ _ h => h) (Or.inl ⟨by rfl, ?_⟩) hHeld ?_
      rotate_left 1
      · (intro W hSw; (try dsimp only at hSw); have hcd : W.cell? ⟨g, 18, none⟩ = some (.slice (some ⟨gp, op, none⟩) n c) := (((HPi.out).below (HYwi0.out.trans (hSw.mono HYwi0.out.size)) (HPi.out).lt).cell 18).trans (pkC_last code id Q _ n c HQ.out); go_simp; try with_reducible rfl)
      try simp only [Act.put, List.setIfInBounds_toArray, List.set_cons_zero, List.set_cons_succ]
      refine but_take (i := 8) (oi := ⟨_, _, _, _, _, _⟩) (v := ?_) rfl (by kernel_rfl) (by kernel_rfl) (by kernel_rfl) (by kernel_rfl) (fun _ _ _ h => h) (Or.inl ⟨by rfl, ?_⟩) hHeld ?_
      rotate_left 1
      · (intro W hSw; (try dsimp only at hSw); go_simp; try with_reducible rfl)
      try simp only [Act.put, List.setIfInBounds_toArray, List.set_cons_zero, List.set_cons_succ]
      refine but_take (i := 9) (oi := ⟨_, _, _, _, _, _⟩) (v := ?_) rfl (by kernel_rfl) (by kernel_rfl) (by kernel_rfl) (by kernel_rfl) (fun _ _ _ h => h) (Or.inl ⟨by rfl, ?_⟩) hHeld ?_
      rotate_left 1
      · (intro W hSw; (try dsimp only at hSw); go_simp; try with_reducible rfl)
      try simp only [Act.put, List.setIfInBounds_toArray, List.set_cons_zero, List.set_cons_succ]
      refine but_take (i := 10) (oi := ⟨_, _, _, _, _, _⟩) (v := .slice (some ⟨gp, o1, none⟩) (n - k1) (c - k1)) rfl (by kernel_rfl) (by kernel_rfl) (by kernel_rfl) (by kernel_rfl) (fun _ _ _ h => h) (Or.inl ⟨by rfl, ?_⟩) hHeld ?_
      · (intro W hSw; rcases HO1.out with ⟨hcx, hox⟩ | ⟨hcx, hox⟩ <;> subst hox <;> first | (subst hcx; go_simp; done) | go_simp)
      try simp only [Act.put, List.setIfInBounds_toArray, List.set_cons_zero, List.set_cons_succ]
      replace hHeld : Below wi.heap.size wi wi.drew := hHeld
      generalize wi.drew = wq at *
      refine but_ready (i := 0) (o := ⟨_, _, _, _, _, _⟩) (by kernel_rfl) rfl (fun K hK => ?_)
      go_simp
      have hla : Below wq.heap.size wq (wq.alloc (.cells #[] 62)) := (Below.refl _ _).alloc (Nat.le_refl _) _
      have hr0 := srow_lit wq
      have hszx := hHeld.size
      replace hr0 := hr0.base hszx
      refine hK.out _ _ (hHeld.trans (hla.mono hszx)) (fun hHeld => ?_)
      clear hK K hszx
      replace hHeld : Below wi.heap.size wi (wq.alloc (.cells #[] 62)) := hHeld
      clear hla
      generalize wq.heap.size = gl at *
      generalize wq.alloc (.cells #[] 62) = wr at *
      try simp only [Act.put, List.setIfInBounds_toArray, List.set_cons_zero, List.set_cons_succ]
      refine but_ready (i := 5) (o := ⟨_, _, _, _, _, _⟩) (by kernel_rfl) rfl (fun K hK => ?_)
      refine step_append_sin rfl (.tmp 47) (.tmp 51) rfl wi.heap.size _ [] rfl hr0 hHeld.size (some ⟨gp, op, none⟩) k c (la.take k) rfl HLT.out.1 (HAT.out.up hHeld) (by have := HLM.out; simp only [List.length_nil]; omega) ?_
      intro v5 ws hr5 hg5
      rw [List.nil_append] at hr5
      have hH5 := row_belowS hHeld hr0 hg5
      refine hK.out _ _ hH5 (fun hHeld => ?_)
      clear hK K hr0 hg5 hH5
      replace hHeld : Below wi.heap.size wi ws := hHeld
      try simp only [Act.put, List.setIfInBounds_toArray, List.set_cons_zero, List.set_cons_succ]
      refine but_ready (i := 11) (o := ⟨_, _, _, _, _, _⟩) (by kernel_rfl) rfl (fun K hK => ?_)
      refine step_append_sin rfl (.tmp 52) (.tmp 57) rfl wi.heap.size _ (la.take k) rfl hr5 hHeld.size (some ⟨gp, o1, none⟩) (n - k1) (c - k1) (la.drop k1) rfl HLT.out.2 (HAD.out.up hHeld) (by have := HLM.out; have := HLT.out; omega) ?_
      intro v6 wt hr6 hg6
      have hH6 := row_belowS hHeld hr5 hg6
      obtain ⟨A6, c6, hv6, _⟩ := hr6.slice
      obtain ⟨n6, hn6⟩ : ∃ n6, (la.take k ++ la.drop k1).length = n6 := ⟨_, rfl⟩
      rw [hn6] at hv6
      subst hv6
      refine hK.out _ _ hH6 (fun hHeld => ?_)
      clear hK K hr5 hg6 hH6
      replace hHeld : Below wi.heap.size wi wt := hHeld
      try simp only [Act.put, List.setIfInBounds_toArray, List.set_cons_zero, List.set_cons_succ]
      refine but_take (i := 12) (oi := ⟨_, _, _, _, _, _⟩) (v := ?_) rfl (by kernel_rfl) (by kernel_rfl) (by kernel_rfl) (by kernel_rfl) (fun _ _ _ h => h) (Or.inl ⟨by rfl, ?_⟩) hHeld ?_
      rotate_left 1
      · (intro W hSw; (try dsimp only at hSw); go_simp; try with_reducible rfl)
      try simp only [Act.put, List.setIfInBounds_toArray, List.set_cons_zero, List.set_cons_succ]
      refine but_last (o := ⟨_, _, _, _, _, _⟩) (by kernel_rfl) rfl (by kernel_rfl) (fun K hK => ?_)
      have hP6 := HPi.out.below hHeld HPi.out.lt
      have hc18 : wt.cell? ⟨g, 18, none⟩ = some (.slice (some ⟨gp, op, none⟩) n c) := (hP6.cell 18).trans (pkC_last code id Q _ n c HQ.out)
      have hf18 := hP6.frozen 18
      go_simp
      refine hK.out _ _ ?_
      clear hK K hc18 hf18
      refine NoPanic.normal ?_
      have hPs := hP6.set_ 18 (.slice A6 n6 c6)
      rw [pkC_set _ _ _ _ _ _ _ _ _ HQ.out] at hPs
      have hgs : wt.grownBy (wt.setCell ⟨g, 18, none⟩ (.slice A6 n6 c6)) (some g) := grown_setCell (grown_refl wt _) (.inl rfl) _
      have hgw : g < wi.heap.size := HPi.out.lt
      have HS8 := Lib.hid (hr6.grown hgs hgw)
      have HR8 := Lib.hid ((HRi.out.below hHeld HRi.out.lt).grown hgs (fun e => by have := HG.out.2; injection e with e; omega))
      have HXs := Lib.hid (below_new (HXwi.out.trans (hHeld.mono HXwi.out.size)) hgs HG.out.1 (Nat.le_trans HXwi.out.size hHeld.size))
      clear hHeld hP6 hr6 hgs
      generalize wt.setCell ⟨g, 18, none⟩ (.slice A6 n6 c6) = wu at *
      go_wp2_with (first
        | ((with_reducible refine (?_ : wpList _ _ _ (Oper.mk (some 60) _ _ _ _ _ :: _) _ _)); go_loud (refine wpList_load_blk rfl 25 (.tmp 2) rfl g rfl _ _ _ (hPs) Tryd.underlying25 rfl (infRP.trans (by rw [pkC_length _ _ _ _ _ _ HQ.out])) ?_))
        | ((with_reducible refine (?_ : wpList _ _ _ (Oper.mk none _ _ _ _ _ :: _) _ _)); go_loud (refine wpList_store_blk rfl 25 (.tmp 4) (.tmp 60) rfl rfl gr (pkC code id Q A6 n6 c6) rfl rfl _ _ (HR8.out) (infRP.trans (by rw [pkC_length _ _ _ _ _ _ HQ.out])) (by rw [pkC_length _ _ _ _ _ _ HQ.out]; rfl) (pk_one _ _ _ _ _ _) ?_); intro wz hPz hgz))
      refine bodyPost_ret (v := .tuple #[.agg _, _]) (results_cs rfl _ _ gr 25 _ _ _ rfl rfl hPz Tryd.underlying25 rfl (infRP.trans (by rw [pkC_length _ _ _ _ _ _ HQ.out]))) rfl ?_
      exact ⟨A6, n6, c6, by rw [HZ.out] <;> rfl, by rw [HZ.out]; exact (HS8.out.grown hgz HRi.out.lt).base HXwi.out.size, by rw [HZ.out]; exact HQ.out, below_new HXs.out hgz (Nat.le_trans HG.out.1 (Nat.le_of_lt HG.out.2)) HXs.out.size⟩
    · have HZ := Lib.hid (show unmarkE code id Q la sec = (zeroPk, 5) by rw [HE2.out, if_neg hvm])
      have hvn : ¬ MM = v := fun e => hvm e.symm
      have hvb : (MM == v) = false := by simpa using hvn
      rw [hvb, Bool.not_false]
      clear hvb hvn
      go_wp2_with ((with_reducible refine (?_ : wpList _ _ _ (Oper.mk none _ _ _ _ _ :: _) _ _)); go_loud (refine wpList_store_blk rfl 25 (.tmp 4) (.tmp 46) rfl rfl gr (pkC 0 0 zQ none 0 0) rfl rfl _ _ (HRi.out) (infRP) (rfl) (pk_one _ _ _ _ _ _) ?_); intro wz hPz hgz)
      refine bodyPost_ret (v := .tuple #[.agg _, _]) (results_cs rfl _ _ gr 25 _ _ _ rfl rfl hPz Tryd.underlying25 rfl infRP) rfl ?_
      exact ⟨none, 0, 0, by rw [HZ.out] <;> rfl, by rw [HZ.out]; exact SRow.nil _ _, by rw [HZ.out]; rfl, below_new HXwi.out hgz (Nat.le_trans HG.out.1 (Nat.le_of_lt HG.out.2)) (HXwi.out).size⟩
  · have HZ := Lib.hid (show unmarkE code id Q la sec = (zeroPk, 5) by rw [HE.out, if_neg]; exact fun h => h16 h.1)
    have hne : ¬ (vl : Int) = 16 := by omega
    go_wp2_with ((with_reducible refine (?_ : wpList _ _ _ (Oper.mk none _ _ _ _ _ :: _) _ _)); go_loud (refine wpList_store_blk rfl 25 (.tmp 4) (.tmp 27) rfl rfl gr (pkC 0 0 zQ none 0 0) rfl rfl _ _ (HR2.out) (infRP) (rfl) (pk_one _ _ _ _ _ _) ?_); intro wz hPz hgz)
    refine bodyPost_ret (v := .tuple #[.agg _, _]) (results_cs rfl _ _ gr 25 _ _ _ rfl rfl hPz Tryd.underlying25 rfl infRP) rfl ?_
    exact ⟨none, 0, 0, by rw [HZ.out] <;> rfl, by rw [HZ.out]; exact SRow.nil _ _, by rw [HZ.out]; rfl, below_new HX2.out hgz (Nat.le_trans HG.out.1 (Nat.le_of_lt HG.out.2)) (HX2.out).size⟩
theorem ropen_e (c n : Nat) (code id : Int) (Q : List UInt8) (A : Option Addr) (la : Attrs) (sec : List UInt8) (w : World) (hQ : Q.length = 16) (hn : la.length = n) (hA : SIn w w.heap.size A c la) (hm : n ≤ 400000) (hs : sec.length ≤ 1000000) (hok : pkOK code id la = true) :
    Calls Tryd.prog 56 #[.agg (pkC code id Q A n c).toArray, .string ⟨sec.toArray⟩] w (RPkPost (unmarkE code id Q la sec) w) := by
  by_cases h1 : cntM la = 1
  · exact ropen_one c n code id Q A la sec w hQ hn hA hm hs hok h1
  · exact ropen_not c n code id Q A la sec w hQ hn hA hm hs hok h1
end Go.Proofs.YtbomckbekcaemaaDoor
