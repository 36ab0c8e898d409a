/-
  Joined: Sy, St, Se.
-/
import Derived.Test.YtagblbfbjemfhaaDoorLd
import Derived.Test.YtagblbfbjemfhaaDoorLa
import Derived.Great.Ranges
import Derived.Laws.StructEq
namespace Go.Proofs.YtagblbfbjemfhaaDoor
open Go.RowKit

section
variable {P : Program} {Q : Exit → Act → World → Prop}
theorem wpList_steps {l : List Oper} {T0 : Array Value} {ds0 : List Deferred} {w0 : World} (m : Nat) (J : List (List Nat)) (Je : List Nat) (Rs : List (Value → World → Prop)) (fill : (Nat → Value) → Array Value)
    (hm : m ≤ l.length) (hok : regionOK l.toArray T0.size = true) (hJ : ∀ i, ∀ j ∈ J.getD i [], j < i) (hJe : ∀ j ∈ Je, j < m)
    (hfill : ∀ u, fillU T0 ((l.take m).map (·.dst)) u 0 = fill u)
    (hstep : StepsFrom P Q w0 fill l.toArray ds0 Rs Rs J (l.take m))
    (hR : AllLast Rs)
    (hend : ∀ (u : Nat → Value) (w : World), Below w0.heap.size w0 w → Facts Rs u w Je → wpList P l.toArray Q (l.drop m) ⟨fill u, ds0⟩ w) :
    ∀ (d k : Nat) (a : Act) (w : World), k + d = m → a.defers = ds0 → AgreeBut T0 ((l.take m).map (·.dst)) a.tmps → Below w0.heap.size w0 w →
      (∀ j o, j < k → l[j]? = some o → nthR Rs j (slotOf a.tmps o.dst) w) → wpList P l.toArray Q (l.drop k) a w := by
  have hu : ∀ (a : Act), a.defers = ds0 → AgreeBut T0 ((l.take m).map (·.dst)) a.tmps → ∃ u : Nat → Value, a = ⟨fill u, ds0⟩ ∧ ∀ i o, l[i]? = some o → u i = slotOf a.tmps o.dst := by
    intro a hds hag
    refine ⟨fun i => slotOf a.tmps ((l[i]?).bind (·.dst)), ?_, fun i o ho => by (show slotOf a.tmps ((l[i]?).bind (·.dst)) = _); rw [ho]; rfl⟩
    have := fillU_eq ((l.take m).map (·.dst)) T0 a.tmps (fun i => slotOf a.tmps ((l[i]?).bind (·.dst))) 0 hag (fun j d hj => by
      have hjm : j < m := by
        have := (List.getElem?_eq_some_iff.1 hj).1
        simp at this
        omega
      rw [List.getElem?_map, List.getElem?_take, if_pos hjm] at hj
      rw [Nat.zero_add]
      cases ho : l[j]? with
      | none => rw [ho] at hj; cases hj
      | some o => rw [ho] at hj; cases hj; rfl)
    rw [← hfill, this, ← hds]
  intro d
  induction d with
  | zero =>
    intro k a w hk hds hag hb hf
    obtain rfl : k = m := by omega
    obtain ⟨u, rfl, hus⟩ := hu a hds hag
    refine hend u w hb (facts_of fun j hj => ?_)
    have hjm := hJe j hj
    obtain ⟨o, ho⟩ : ∃ o, l[j]? = some o := ⟨_, List.getElem?_eq_getElem (by omega)⟩
    rw [hus j o ho]
    exact hf j o hjm ho
  | succ d ih =>
    intro k a w hk hds hag hb hf
    have hkl : k < l.length := by omega
    obtain ⟨o, ho⟩ : ∃ o, l[k]? = some o := ⟨_, List.getElem?_eq_getElem hkl⟩
    have hdr : l.drop k = o :: l.drop (k + 1) := by
      rw [List.drop_eq_getElem_cons hkl]
      congr 1
      exact (List.getElem?_eq_some_iff.1 ho).2
    obtain ⟨u, hau, hus⟩ := hu a hds hag
    have hoA : l.toArray[k]? = some o := by simpa using ho
    have hot : (l.take m)[k]? = some o := by rw [List.getElem?_take, if_pos (by omega)]; exact ho
    rw [hdr]
    refine wpList_step fun K hK => ?_
    have hfacts : Facts Rs u w (J.getD k []) := facts_of fun j hj => by
      have hjk := hJ k j hj
      obtain ⟨p, hp⟩ : ∃ p, l[j]? = some p := ⟨_, List.getElem?_eq_getElem (by omega)⟩
      rw [hus j p hp]
      exact hf j p hjk hp
    have := hstep.spec k o hot u w hb hfacts K (fun a' w' v ha hb' hr => by
      rw [← hau] at ha
      subst ha
      refine hK _ _ (ih (k + 1) _ w' (by omega) ?_ ?_ (hb.trans (hb'.mono hb.size)) fun j p hj hp => ?_)
      · cases hd : o.dst <;> simp [Act.put, hds]
      · cases hd : o.dst with
        | none => exact hag
        | some d =>
          refine ⟨by simp [Act.put, hag.1], fun x hx => ?_⟩
          have hdk : d ≠ x := fun e => hx (by
            subst e
            rw [List.mem_map]
            exact ⟨o, List.mem_of_getElem? hot, hd⟩)
          simp only [Act.put, Array.getElem?_setIfInBounds, if_neg hdk]
          exact hag.2 x hx
      · by_cases e : j = k
        · subst e
          rw [ho] at hp; cases hp
          cases hd : o.dst with
          | none => rw [hd] at hr; exact hr
          | some d =>
            rw [hd] at hr
            have hdn := ((regionOK_spec hok hoA).2 d hd).1
            have hsz : d < a.tmps.size := by rw [hag.1]; exact hdn
            simp only [slotOf, Act.put, Array.getD_eq_getD_getElem?, Array.getElem?_setIfInBounds, if_true, if_pos hsz, Option.getD_some]
            exact hr
        · have hpA : l.toArray[j]? = some p := by simpa using hp
          have hs : slotOf (a.put o.dst v).tmps p.dst = slotOf a.tmps p.dst := by
            cases hd : o.dst with
            | none => rfl
            | some d =>
              cases hpd : p.dst with
              | none => rfl
              | some d' =>
                have hnd : d ≠ d' := fun e' => by
                  have := regionOK_ne hok hoA hpA (Ne.symm e) hd
                  rw [hpd, e'] at this
                  exact this rfl
                simp [slotOf, Act.put, Array.getD_eq_getD_getElem?, hnd]
          rw [hs]
          exact hR.spec j _ _ _ (hf j p (by omega) hp) hb')
    rw [← hau] at this
    have hat : fill u = a.tmps := by rw [hau]
    rw [hat] at this
    exact this
/-- What is asked of the ones before is of the ones before. -/
def textOK : Nat → List (List Nat) → Bool
  | _, [] => true
  | i, js :: J => (js.all fun j => decide (j < i)) && textOK (i + 1) J
theorem textOK_spec : ∀ (J : List (List Nat)) (n : Nat), textOK n J = true → ∀ i, ∀ j ∈ J.getD i [], j < n + i
  | [], n, _, i, j, hj => by simp at hj
  | js :: J, n, h, 0, j, hj => by
    simp only [textOK, Bool.and_eq_true] at h
    have := List.all_eq_true.1 h.1 j (by simpa using hj)
    simpa using this
  | js :: J, n, h, i + 1, j, hj => by
    simp only [textOK, Bool.and_eq_true] at h
    have := textOK_spec J (n + 1) h.2 i j (by simpa using hj)
    omega
/-- A plain region: the first m by steps, the rest as it stands. -/
theorem wp_plain_once {l : List Oper} {id : Nat} {T0 : Array Value} {ds0 : List Deferred} {w0 : World} (m : Nat) (J : List (List Nat)) (Je : List Nat) (Rs : List (Value → World → Prop)) (fill : (Nat → Value) → Array Value)
    (hok : regionOK l.toArray T0.size = true) (hJ : (decide (m ≤ l.length) && textOK 0 J && Je.all fun j => decide (j < m)) = true)
    (hfill : ∀ u, fillU T0 ((l.take m).map (·.dst)) u 0 = fill u)
    (hstep : StepsFrom P Q w0 fill l.toArray ds0 Rs Rs J (l.take m))
    (hR : AllLast Rs)
    (hend : ∀ (u : Nat → Value) (w : World), Below w0.heap.size w0 w → Facts Rs u w Je → wpList P l.toArray Q (l.drop m) ⟨fill u, ds0⟩ w) :
    (Code.region id l.toArray false).wp P Q ⟨T0, ds0⟩ w0 := by
  simp only [Bool.and_eq_true, decide_eq_true_eq] at hJ
  refine wp_region_list ?_
  have := wpList_steps m J Je Rs fill hJ.1.1 hok (fun i j hj => by have := textOK_spec J 0 hJ.1.2 i j hj; omega) (fun j hj => by simpa using List.all_eq_true.1 hJ.2 j hj) hfill hstep hR hend m 0 ⟨T0, ds0⟩ w0 (by omega) rfl ⟨rfl, fun _ _ => rfl⟩ (Below.refl _ _) (fun j o hj _ => absurd hj (by omega))
  simpa using this
end
section
variable {P : Program} {ops : Array Oper} {rest : List Oper} {o : Oper} {a : Act} {w : World} {Q : Exit → Act → World → Prop}
/-- What a new variable of a type holds. -/
def Zero (P : Program) (t : TypeId) (cs : List Value) : Prop := ∃ i z, P.info? t = some i ∧ i.zero = some z ∧ z.cells = cs.toArray
theorem wpList_box_blk (hg : o.guard = none) (t : TypeId) (x : Operand) (ho : o.op = .box t x) (cs : List Value) (hx : (a.eval x).cells = cs.toArray)
    (h : ∀ g w', g = w.heap.size → Blk w' g t cs → Below w.heap.size w w' → wpList P ops Q rest (a.put o.dst (.pointer (some ⟨g, 0, none⟩))) w') : wpList P ops Q (o :: rest) a w :=
  Go.Great.wpList_boxTo hg t x ho o.dst rfl w.heap.size rfl cs.toArray hx (h _ _ rfl (Blk.new w t cs) ((Below.refl _ _).alloc (Nat.le_refl _) _))
theorem wpList_new_blk (hg : o.guard = none) (t : TypeId) (ho : o.op = .alloc t) (cs : List Value) (hz : Zero P t cs)
    (h : ∀ g w', g = w.heap.size → Blk w' g t cs → Below w.heap.size w w' → wpList P ops Q rest (a.put o.dst (.pointer (some ⟨g, 0, none⟩))) w') : wpList P ops Q (o :: rest) a w := by
  obtain ⟨i, z, h1, h2, h3⟩ := hz
  refine wpList_plain hg fun K hK => ?_
  unfold Oper.wp execOp
  simp [ho, Instr.alloc, zeroValue, typeInfo, h1, h2, newVar, newRow, go_sem]
  have h4 : Blk (w.alloc (.cells z.cells t)) w.heap.size t cs := by rw [h3]; exact Blk.new w t cs
  exact hK _ _ (h _ _ rfl h4 ((Below.refl _ _).alloc (Nat.le_refl _) _))
theorem wpList_assign_to (hg : o.guard = none) (x : Operand) (ho : o.op = .assign x) (v : Value) (hv : a.eval x = v) (h : wpList P ops Q rest (a.put o.dst v) w) : wpList P ops Q (o :: rest) a w :=
  wpList_plain hg fun K hK => BigFrame.wp_assign x ho (by rw [hv]; exact hK _ _ h)
end
section
variable {P : Program} {o : Oper} {a : Act} {w : World} {K : Act → World → Prop} {Q : Exit → Act → World → Prop} {t rt : TypeId} {x y : Operand} {xs ys : Array Value} {b : Bool}
theorem wp_eqlA (ho : o.op = .binOp .eql t x y rt) (hx : a.eval x = .agg xs) (hy : a.eval y = .agg ys) (hm : P.eqGuardType P.depth t = false) (he : (Op.equalIn 10000 t (.agg xs) (.agg ys)).run P w = .ok b w) (h : K (a.put o.dst (.bool b)) w) : o.wp P a w K Q := by
  have he' : (Op.equalIn Op.maxDepth t (.agg xs) (.agg ys)).run P w = .ok b w := he
  unfold Oper.wp execOp
  simp only [ho, hx, hy, Sem.run_bind, run_eqGuard_agg w _ _ _ _ _ _ hm, Result.andThen_ok, binOp, Op.equal, he', Sem.run_pure]
  exact h
theorem wp_neqA (ho : o.op = .binOp .neq t x y rt) (hx : a.eval x = .agg xs) (hy : a.eval y = .agg ys) (hm : P.eqGuardType P.depth t = false) (he : (Op.equalIn 10000 t (.agg xs) (.agg ys)).run P w = .ok b w) (h : K (a.put o.dst (.bool (!b))) w) : o.wp P a w K Q := by
  have he' : (Op.equalIn Op.maxDepth t (.agg xs) (.agg ys)).run P w = .ok b w := he
  unfold Oper.wp execOp
  simp only [ho, hx, hy, Sem.run_bind, run_eqGuard_agg w _ _ _ _ _ _ hm, Result.andThen_ok, binOp, Op.equal, he', Sem.run_pure]
  exact h
end
end Go.Proofs.YtagblbfbjemfhaaDoor
