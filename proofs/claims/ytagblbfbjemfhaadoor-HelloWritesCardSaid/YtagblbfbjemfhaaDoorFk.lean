/-
  Regions walked once, over a frame in which old cells say the same while a block's marks may turn.
-/
import Derived.Test.YtagblbfbjemfhaaDoorSl
import Derived.Deep.Draws
namespace Go.Proofs.YtagblbfbjemfhaaDoor
open Go.RowKit

/-- No cell of the block is marked, nor will one be by the mark behind its end. -/
def Unmarked (w : World) (k : Nat) : Prop := ∃ C t lo hi, w.heap[k]? = some (.cells C t (lo, hi)) ∧ (lo = hi ∨ C.size ≤ lo)
/-- Below B nothing has turned, and what cells said they say. -/
structure CB (B : Nat) (w w' : World) : Prop where
  below : Below B w w'
  cells : ∀ a : Addr, a.block < w.heap.size → w'.cell? a = w.cell? a
  unm : ∀ k, k < w.heap.size → Unmarked w k → Unmarked w' k
  fro : ∀ a : Addr, a.block < w.heap.size → (w.cell? a).isSome = true → w.frozen? a = false → w'.frozen? a = false
theorem CB.refl (B : Nat) (w : World) : CB B w w := ⟨Below.refl _ _, fun _ _ => rfl, fun _ _ h => h, fun _ _ _ h => h⟩
theorem CB.of {B : Nat} {w w' : World} (h : Below w.heap.size w w') (hB : B ≤ w.heap.size) : CB B w w' :=
  ⟨h.mono hB, fun _ ha => h.cell ha, fun k hk ⟨C, t, lo, hi, e, h1⟩ => ⟨C, t, lo, hi, (h.block k hk).trans e, h1⟩, fun a ha _ h1 => by unfold World.frozen? at h1 ⊢; rw [h.block _ ha]; exact h1⟩
section
variable {P : Program} {Q : Exit → Act → World → Prop}
theorem wpAny_freeK {ops : Array Oper} {D : List (List Nat)} {T0 : Array Value} {ds0 : List Deferred} {w0 : World} {R : Nat → Value → World → Prop} (m : Nat) (Z : List Nat)
    (hok : regionOK ops T0.size = true) (hD : depsOK ops D = true) (ht : tailOK ops D m Z = true)
    (hstr : strayOK ops m Z = true) (hQ : Z ≠ [] → ∀ c a d v w, Q (.panic c) (Act.put a d v) w → Q (.panic c) a w)
    (hyl : ∀ z ∈ Z, ∀ o, z < m → ops[z]? = some o → ∀ (u : Nat → Value) (w : World), Below w0.heap.size w0 w → (∀ j ∈ D.getD z [], j < m → R j (u j) w) →
      ∃ v, Yields P ops o v ⟨fillU T0 ((ops.toList.take m).map (·.dst)) u 0, ds0⟩ ∧ R z (if o.dst = none then undef else v) w)
    (hR : ∀ i v w w', R i v w → CB w0.heap.size w w' → R i v w')
    (hstep : ∀ i o, i < m → ops[i]? = some o → ∀ (u : Nat → Value) (w : World), Below w0.heap.size w0 w → (∀ j ∈ D.getD i [], j < m → R j (u j) w) →
      ∀ K : Act → World → Prop, (∀ a' w' v, a' = (⟨fillU T0 ((ops.toList.take m).map (·.dst)) u 0, ds0⟩ : Act).put o.dst v → CB w0.heap.size w w' → (R i (if o.dst = none then undef else v) w') → K a' w') →
      if Region.wanted o (yielded ops (fillU T0 ((ops.toList.take m).map (·.dst)) u 0)) then Oper.wp P o ⟨fillU T0 ((ops.toList.take m).map (·.dst)) u 0, ds0⟩ w K Q else K ((⟨fillU T0 ((ops.toList.take m).map (·.dst)) u 0, ds0⟩ : Act).put o.dst undef) w)
    (hend : ∀ (u : Nat → Value) (w : World), Below w0.heap.size w0 w → (∀ j, j < m → R j (u j) w) → wpList P ops Q (ops.toList.drop m) ⟨fillU T0 ((ops.toList.take m).map (·.dst)) u 0, ds0⟩ w) :
    ∀ (fuel : Nat) (listed : Array Bool) (a : Act) (w : World), Mid m ops T0 ds0 w0 R listed a w → ops.size ≤ fuel + cnt listed → wpAny P .any ops Q fuel listed a w := by
  have hmle : m ≤ ops.size := by
    unfold tailOK at ht
    simp only [Bool.and_eq_true, decide_eq_true_eq] at ht
    exact ht.1.1
  have hfill : ∀ (listed : Array Bool) (a : Act) (w : World), Mid m ops T0 ds0 w0 R listed a w → ∃ u : Nat → Value, a = ⟨fillU T0 ((ops.toList.take m).map (·.dst)) u 0, ds0⟩ ∧ ∀ i o, ops[i]? = some o → u i = slotOf a.tmps o.dst := by
    intro listed a w hm
    refine ⟨fun i => slotOf a.tmps ((ops[i]?).bind (·.dst)), ?_, fun i o ho => by (show slotOf a.tmps ((ops[i]?).bind (·.dst)) = _); rw [ho]; rfl⟩
    have := fillU_eq ((ops.toList.take m).map (·.dst)) T0 a.tmps (fun i => slotOf a.tmps ((ops[i]?).bind (·.dst))) 0 hm.agree (fun j d hj => by
      have hjm : j < m := by
        have := (List.getElem?_eq_some_iff.1 hj).1
        simp at this
        omega
      rw [List.getElem?_map, List.getElem?_take, if_pos hjm, Array.getElem?_toList] at hj
      rw [Nat.zero_add]
      cases ho : ops[j]? with
      | none => rw [ho] at hj; cases hj
      | some o => rw [ho] at hj; cases hj; rfl)
    rw [this, ← hm.defers]
  have fin : ∀ (fuel : Nat) (listed : Array Bool) (a : Act) (w : World), Mid m ops T0 ds0 w0 R listed a w → ops.size ≤ fuel + cnt listed → (∀ i, i < m → listed.getD i false = true) → wpAny P .any ops Q fuel listed a w := by
    intro fuel listed a w hm hf hall
    obtain ⟨u, hu, hus⟩ := hfill listed a w hm
    have hcm := cnt_le_of hm.tail
    refine wpAny_tail hok ht (ops.size - m) m fuel listed a w (by omega) (Nat.le_refl _) hm.size hall hm.tail (by omega) ?_
    rw [hu]
    refine hend u w hm.ext fun j hj => ?_
    obtain ⟨o, ho⟩ : ∃ o, ops[j]? = some o := ⟨_, Array.getElem?_eq_getElem (by omega)⟩
    rw [hus j o ho]
    exact hm.holds j o ho (hall j hj)
  -- nobody of the tail may come up while one of the others has not
  have hlow : ∀ (listed : Array Bool) (a : Act) (w : World), Mid m ops T0 ds0 w0 R listed a w → (¬ ∀ i, i < m → i ∉ Z → listed.getD i false = true) → ∀ i ∈ Region.ready .any ops listed, i < m := by
    intro listed a w hm hn i hi
    rcases Nat.lt_or_ge i m with h | h
    · exact h
    · exfalso
      obtain ⟨h0, o, ho, hall⟩ := mem_ready.1 hi
      have hi2 : i < ops.size := (Array.getElem?_eq_some_iff.1 ho).1
      unfold tailOK at ht
      simp only [Bool.and_eq_true] at ht
      rcases Nat.lt_or_ge m i with h' | h'
      · have := List.all_eq_true.1 ht.2 i (List.mem_range.2 hi2)
        rw [ho] at this
        simp only [Bool.or_eq_true, decide_eq_true_eq] at this
        rcases this with hx | hx
        · omega
        · obtain ⟨e, he, hb⟩ := Array.any_eq_true'.1 hx
          simp only [Bool.and_eq_true, beq_iff_eq] at hb
          have h1 := hall e he hb.1
          rw [hm.tail e.on (by omega)] at h1
          cases h1
      · obtain rfl : i = m := by omega
        refine hn fun j hj hjz => ?_
        have := List.all_eq_true.1 ht.1.2 j (List.mem_range.2 hj)
        simp only [Bool.or_eq_true, decide_eq_true_eq, List.contains_iff_mem] at this
        rcases this with (hx | hx) | hx
        · omega
        · exact absurd hx hjz
        · exact deps_listed hok hD hm i o ho hall j hx
  have hfactsG : ∀ (listed : Array Bool) (a : Act) (w : World) (u : Nat → Value), Mid m ops T0 ds0 w0 R listed a w → (∀ i o, ops[i]? = some o → u i = slotOf a.tmps o.dst) → ∀ i ∈ Region.ready .any ops listed, ∀ j ∈ D.getD i [], j < m → R j (u j) w := by
    intro listed a w u hm hus i hi j hj _
    obtain ⟨h0, o, ho, hall⟩ := mem_ready.1 hi
    have hl := deps_listed hok hD hm i o ho hall j hj
    have hj1 : j < ops.size := by
      rw [← hm.size]
      rcases Nat.lt_or_ge j listed.size with h | h
      · exact h
      · simp [Array.getD_eq_getD_getElem?, Array.getElem?_eq_none h] at hl
    obtain ⟨p, hp⟩ : ∃ p, ops[j]? = some p := ⟨_, Array.getElem?_eq_getElem hj1⟩
    rw [hus j p hp]
    exact hm.holds j p hp hl
  have hmidG : ∀ (listed : Array Bool) (a : Act) (w : World) (i : Nat) (o : Oper), Mid m ops T0 ds0 w0 R listed a w → ops[i]? = some o → i < m → (∀ e ∈ o.after, Region.binds .any e = true → listed.getD e.on false = true) →
      ∀ (v : Value) (w' : World), CB w0.heap.size w w' → R i (if o.dst = none then undef else v) w' → Mid m ops T0 ds0 w0 R (listed.setIfInBounds i true) (a.put o.dst v) w' := by
    intro listed a w i o hm ho him hall
    intro v w' hb hr
    have hnin : ∀ j p, ops[j]? = some p → j ≠ i → slotOf (a.put o.dst v).tmps p.dst = slotOf a.tmps p.dst := by
      intro j p hp hne
      cases hd : o.dst with
      | none => rfl
      | some d =>
        cases hpd : p.dst with
        | none => rfl
        | some d' =>
          have hnd : d ≠ d' := fun e => by
            have := regionOK_ne hok ho hp (Ne.symm hne) hd
            rw [hpd, e] at this
            exact this rfl
          simp [slotOf, Act.put, Array.getD_eq_getD_getElem?, hnd]
    refine ⟨by simp [hm.size], ?_, ?_, ?_, hm.ext.trans hb.below, ?_, ?_⟩
    · cases hd : o.dst <;> simp [Act.put, hm.defers]
    · cases hd : o.dst with
      | none => exact hm.agree
      | some d =>
        refine ⟨by simp [Act.put, hm.agree.1], fun k hk => ?_⟩
        have hdk : d ≠ k := fun e => hk (by
          subst e
          rw [List.mem_map]
          refine ⟨o, List.mem_of_getElem? (i := i) ?_, hd⟩
          rw [List.getElem?_take, if_pos him]
          simpa using ho)
        simp only [Act.put, Array.getElem?_setIfInBounds, if_neg hdk]
        exact hm.agree.2 k hk
    · intro j hj
      have := hm.tail j hj
      simp only [Array.getD_eq_getD_getElem?, Array.getElem?_setIfInBounds] at this ⊢
      rw [if_neg (by omega)]
      exact this
    · intro j p hp hl e he hb'
      have : listed.getD e.on false = true := by
        rcases getD_true_set hl with rfl | hl
        · rw [ho] at hp; cases hp
          exact hall e he hb'
        · exact hm.closed j p hp hl e he hb'
      exact getD_set_true this
    · intro j p hp hl
      by_cases e : j = i
      · subst e
        rw [ho] at hp; cases hp
        cases hd : o.dst with
        | none => rw [hd] at hr; exact hr
        | some d =>
          rw [hd] at hr
          have hdn := ((regionOK_spec hok ho).2 d hd).1
          have hsz : d < a.tmps.size := by rw [hm.agree.1]; exact hdn
          simp only [slotOf, Act.put, Array.getD_eq_getD_getElem?, Array.getElem?_setIfInBounds, if_true, if_pos hsz, Option.getD_some]
          simpa using hr
      · rw [hnin j p hp e]
        rcases getD_true_set hl with h | hl
        · exact absurd h e
        · exact hR j _ _ _ (hm.holds j p hp hl) hb
  intro fuel
  induction fuel with
  | zero =>
    intro listed a w hm hf
    by_cases hall : ∀ i, i < m → listed.getD i false = true
    · exact fin 0 listed a w hm hf hall
    · exfalso
      obtain ⟨i, _, hi⟩ := some_ready hok hm.size hmle hall
      obtain ⟨h0, o, ho, _⟩ := mem_ready.1 hi
      have hi2 : i < listed.size := by
        rw [hm.size]; exact (Array.getElem?_eq_some_iff.1 ho).1
      have hf0 : listed[i]? = some false := by
        rw [Array.getElem?_eq_getElem hi2]
        simp only [Array.getD_eq_getD_getElem?, Array.getElem?_eq_getElem hi2, Option.getD_some] at h0
        rw [h0]
      have h1 := cnt_set hf0
      have h2 := cnt_le (listed.setIfInBounds i true)
      simp only [Array.size_setIfInBounds] at h2
      have := hm.size
      omega
  | succ fuel ih =>
    intro listed a w hm hf
    by_cases hall : ∀ i, i < m → listed.getD i false = true
    · exact fin (fuel + 1) listed a w hm hf hall
    by_cases hnz : ∀ i, i < m → i ∉ Z → listed.getD i false = true
    · -- only stray ones are left: one of them is taken first
      obtain ⟨z, hzm, hz⟩ := some_ready hok hm.size hmle hall
      obtain ⟨h0, o, ho, hall2⟩ := mem_ready.1 hz
      have hi2 : z < listed.size := by rw [hm.size]; exact (Array.getElem?_eq_some_iff.1 ho).1
      have hf0 : listed[z]? = some false := by
        rw [Array.getElem?_eq_getElem hi2]
        simp only [Array.getD_eq_getD_getElem?, Array.getElem?_eq_getElem hi2, Option.getD_some] at h0
        rw [h0]
      have hzZ : z ∈ Z := by
        apply Classical.byContradiction
        intro h
        have := hnz z hzm h
        simp only [Array.getD_eq_getD_getElem?, hf0, Option.getD_some] at this
        cases this
      obtain ⟨u, hu, hus⟩ := hfill listed a w hm
      obtain ⟨v, hy, hr⟩ := hyl z hzZ o hzm ho u w hm.ext (hfactsG listed a w u hm hus z hz)
      rw [← hu] at hy
      unfold strayOK at hstr
      have hne : Z.isEmpty = false := by cases Z with | nil => cases hzZ | cons _ _ => rfl
      rw [hne, Bool.false_or, Bool.and_eq_true] at hstr
      have hcnt : ops.size ≤ fuel + cnt (listed.setIfInBounds z true) := by rw [cnt_set hf0]; omega
      refine wpAny_first ho (Region.noSelect_spec hstr.1) (fun c a w h => hQ (List.ne_nil_of_mem hzZ) c a _ _ w h) fuel listed a w ?_ hz hy (ih _ _ _ (hmidG listed a w z o hm ho hzm hall2 v w (CB.refl _ _) hr) hcnt)
      intro j oj hoj hjz hun hno
      have h1 := List.all_eq_true.1 hstr.2 z hzZ
      rw [ho] at h1
      have h2 := List.all_eq_true.1 h1 j (List.mem_range.2 (Array.getElem?_eq_some_iff.1 hoj).1)
      rw [hoj] at h2
      simp only [Bool.or_eq_true, Bool.and_eq_true, beq_iff_eq, decide_eq_true_eq, Bool.not_eq_true', List.contains_eq_mem, decide_eq_false_iff_not] at h2
      rcases h2 with (h2 | ⟨h2, h3⟩) | (h2 | h2)
      · exact absurd h2 hjz
      · have h4 := hnz j h2 (by simpa using h3)
        have hj2 : j < listed.size := by rw [hm.size]; exact (Array.getElem?_eq_some_iff.1 hoj).1
        simp only [Array.getD_eq_getD_getElem?, Array.getElem?_eq_getElem hj2, Option.getD_some] at h4 hun
        rw [h4] at hun
        cases hun
      · obtain ⟨e, he, hb⟩ := Array.any_eq_true'.1 h2
        simp only [Bool.and_eq_true, beq_iff_eq] at hb
        exact absurd hb.2 (hno e he hb.1)
      · exact h2
    refine ⟨fun hr => ?_, fun i hi => ?_⟩
    · obtain ⟨i, _, hi⟩ := some_ready hok hm.size hmle hall
      rw [hr] at hi
      cases hi
    have him := hlow listed a w hm hnz i hi
    clear hall hnz
    obtain ⟨h0, o, ho, hall⟩ := mem_ready.1 hi
    have hi1 : i < ops.size := (Array.getElem?_eq_some_iff.1 ho).1
    have hi2 : i < listed.size := by rw [hm.size]; exact hi1
    have hf0 : listed[i]? = some false := by
      rw [Array.getElem?_eq_getElem hi2]
      simp only [Array.getD_eq_getD_getElem?, Array.getElem?_eq_getElem hi2, Option.getD_some] at h0
      rw [h0]
    obtain ⟨u, hu, hus⟩ := hfill listed a w hm
    have hfacts := hfactsG listed a w u hm hus i hi
    have hmid := hmidG listed a w i o hm ho him hall
    have hcnt : ops.size ≤ fuel + cnt (listed.setIfInBounds i true) := by rw [cnt_set hf0]; omega
    refine wpOp_step ho fun K hK => ?_
    have := hstep i o him ho u w hm.ext hfacts K (fun a' w' v ha hb hr => by
      subst ha
      rw [← hu]
      exact hK _ _ (ih _ _ _ (hmid v w' hb hr) hcnt))
    rw [← hu] at this
    have hat : fillU T0 ((ops.toList.take m).map (·.dst)) u 0 = a.tmps := by rw [hu]
    rw [hat] at this
    exact this

theorem wp_region_freeK {ops : Array Oper} {id : Nat} {T0 : Array Value} {ds0 : List Deferred} {w0 : World} (m : Nat) (Z : List Nat) (D : List (List Nat)) (R : Nat → Value → World → Prop) (hmix : P.follows .mixedOrders = true)
    (hok : regionOK ops T0.size = true) (hD : depsOK ops D = true) (ht : tailOK ops D m Z = true)
    (hstr : strayOK ops m Z = true) (hQ : Z ≠ [] → ∀ c a d v w, Q (.panic c) (Act.put a d v) w → Q (.panic c) a w)
    (hyl : ∀ z ∈ Z, ∀ o, z < m → ops[z]? = some o → ∀ (u : Nat → Value) (w : World), Below w0.heap.size w0 w → (∀ j ∈ D.getD z [], j < m → R j (u j) w) →
      ∃ v, Yields P ops o v ⟨fillU T0 ((ops.toList.take m).map (·.dst)) u 0, ds0⟩ ∧ R z (if o.dst = none then undef else v) w)
    (hR : ∀ i v w w', R i v w → CB w0.heap.size w w' → R i v w')
    (hstep : ∀ i o, i < m → ops[i]? = some o → ∀ (u : Nat → Value) (w : World), Below w0.heap.size w0 w → (∀ j ∈ D.getD i [], j < m → R j (u j) w) →
      ∀ K : Act → World → Prop, (∀ a' w' v, a' = (⟨fillU T0 ((ops.toList.take m).map (·.dst)) u 0, ds0⟩ : Act).put o.dst v → CB w0.heap.size w w' → (R i (if o.dst = none then undef else v) w') → K a' w') →
      if Region.wanted o (yielded ops (fillU T0 ((ops.toList.take m).map (·.dst)) u 0)) then Oper.wp P o ⟨fillU T0 ((ops.toList.take m).map (·.dst)) u 0, ds0⟩ w K Q else K ((⟨fillU T0 ((ops.toList.take m).map (·.dst)) u 0, ds0⟩ : Act).put o.dst undef) w)
    (hend : ∀ (u : Nat → Value) (w : World), Below w0.heap.size w0 w → (∀ j, j < m → R j (u j) w) → wpList P ops Q (ops.toList.drop m) ⟨fillU T0 ((ops.toList.take m).map (·.dst)) u 0, ds0⟩ w) :
    (Code.region id ops true).wp P Q ⟨T0, ds0⟩ w0 := by
  refine wp_region_any hmix ?_
  refine wpAny_freeK m Z hok hD ht hstr hQ hyl hR hstep hend ops.size _ _ _ ⟨by simp, rfl, ⟨rfl, fun _ _ => rfl⟩, ?_, ?_, ?_, ?_⟩ (by omega)
  · intro i _
    rcases Nat.lt_or_ge i ops.size with h | h
    · simp [Array.getD_eq_getD_getElem?, h]
    · simp [Array.getD_eq_getD_getElem?, Nat.not_lt.2 h]
  · exact (Below.refl _ _).drew
  · intro i o ho hl
    rcases Nat.lt_or_ge i ops.size with h | h
    · simp [Array.getD_eq_getD_getElem?, h] at hl
    · simp [Array.getD_eq_getD_getElem?, Nat.not_lt.2 h] at hl
  · intro i o ho hl
    rcases Nat.lt_or_ge i ops.size with h | h
    · simp [Array.getD_eq_getD_getElem?, h] at hl
    · simp [Array.getD_eq_getD_getElem?, Nat.not_lt.2 h] at hl
/-- It still holds where nothing that was there has turned. -/
def LastsK (w0 : World) (r : Value → World → Prop) : Prop := ∀ v w w', r v w → CB w0.heap.size w w' → r v w'
def AllLastK (w0 : World) : List (Value → World → Prop) → Prop
  | [] => True
  | r :: rs => LastsK w0 r ∧ AllLastK w0 rs
theorem AllLastK.nil {w0 : World} : AllLastK w0 [] := trivial
theorem AllLastK.is {w0 : World} {x : Value} {rs : List (Value → World → Prop)} (h : AllLastK w0 rs) : AllLastK w0 (Is x :: rs) := ⟨fun _ _ _ h _ => h, h⟩
theorem AllLastK.cons {w0 : World} {r : Value → World → Prop} {rs : List (Value → World → Prop)} (h0 : LastsK w0 r) (h : AllLastK w0 rs) : AllLastK w0 (r :: rs) := ⟨h0, h⟩
theorem AllLastK.spec {w0 : World} : ∀ {rs : List (Value → World → Prop)}, AllLastK w0 rs → ∀ i v w w', nthR rs i v w → CB w0.heap.size w w' → nthR rs i v w'
  | [], _, _, _, _, _, _, _ => trivial
  | _ :: _, h, 0, v, w, w', hr, hb => h.1 v w w' hr hb
  | _ :: _, h, i + 1, v, w, w', hr, hb => AllLastK.spec h.2 i v w w' hr hb
/-- One operation's step. -/
def StepGoalK (P : Program) (Q : Exit → Act → World → Prop) (w0 : World) (fill : (Nat → Value) → Array Value) (ops : Array Oper) (ds0 : List Deferred) (Rs : List (Value → World → Prop)) (r : Value → World → Prop) (js : List Nat) (o : Oper) : Prop :=
  ∀ (u : Nat → Value) (w : World), Below w0.heap.size w0 w → Facts Rs u w js →
    ∀ K : Act → World → Prop, (∀ a' w' v, a' = (⟨fill u, ds0⟩ : Act).put o.dst v → CB w0.heap.size w w' → r (outOf o.dst v) w' → K a' w') →
      if Region.wanted o (yielded ops (fill u)) then Oper.wp P o ⟨fill u, ds0⟩ w K Q else K ((⟨fill u, ds0⟩ : Act).put o.dst undef) w
/-- All the steps. -/
def StepsFromK (P : Program) (Q : Exit → Act → World → Prop) (w0 : World) (fill : (Nat → Value) → Array Value) (ops : Array Oper) (ds0 : List Deferred) (Rs : List (Value → World → Prop)) : List (Value → World → Prop) → List (List Nat) → List Oper → Prop
  | _, _, [] => True
  | r :: rs, js :: D, o :: l => StepGoalK P Q w0 fill ops ds0 Rs r js o ∧ StepsFromK P Q w0 fill ops ds0 Rs rs D l
  | _, _, _ => False
theorem StepsFromK.spec {w0 : World} {fill : (Nat → Value) → Array Value} {ops : Array Oper} {ds0 : List Deferred} {Rs : List (Value → World → Prop)} : ∀ {l : List Oper} {rs : List (Value → World → Prop)} {D : List (List Nat)},
    StepsFromK P Q w0 fill ops ds0 Rs rs D l → ∀ i o, l[i]? = some o → StepGoalK P Q w0 fill ops ds0 Rs (nthR rs i) (D.getD i []) o
  | [], _, _, _, i, o, ho => by simp at ho
  | o' :: l, r :: rs, js :: D, h, 0, o, ho => by
    simp only [List.getElem?_cons_zero, Option.some.injEq] at ho
    subst ho
    exact h.1
  | o' :: l, r :: rs, js :: D, h, i + 1, o, ho => StepsFromK.spec (l := l) h.2 i o (by simpa using ho)
  | o' :: l, [], _, h, _, _, _ => h.elim
  | o' :: l, _ :: _, [], h, _, _, _ => h.elim

/-- A stray one's step. -/
def StrayGoalK (P : Program) (w0 : World) (fill : (Nat → Value) → Array Value) (ops : Array Oper) (ds0 : List Deferred) (Rs : List (Value → World → Prop)) (r : Value → World → Prop) (js : List Nat) (o : Oper) : Prop :=
  ∀ (u : Nat → Value) (w : World), Below w0.heap.size w0 w → Facts Rs u w js → ∃ v, Yields P ops o v ⟨fill u, ds0⟩ ∧ r (outOf o.dst v) w
def AllStrayK (P : Program) (w0 : World) (fill : (Nat → Value) → Array Value) (l : List Oper) (ds0 : List Deferred) (Rs : List (Value → World → Prop)) (J : List (List Nat)) : List Nat → Prop
  | [] => True
  | z :: Z => (∀ o, l[z]? = some o → StrayGoalK P w0 fill l.toArray ds0 Rs (nthR Rs z) (J.getD z []) o) ∧ AllStrayK P w0 fill l ds0 Rs J Z
theorem AllStrayK.spec {w0 : World} {fill : (Nat → Value) → Array Value} {l : List Oper} {ds0 : List Deferred} {Rs : List (Value → World → Prop)} {J : List (List Nat)} : ∀ {Z : List Nat}, AllStrayK P w0 fill l ds0 Rs J Z → ∀ z ∈ Z, ∀ o, l[z]? = some o → StrayGoalK P w0 fill l.toArray ds0 Rs (nthR Rs z) (J.getD z []) o
  | [], _, z, hz => by cases hz
  | y :: Z, h, z, hz => by
    rcases List.mem_cons.1 hz with rfl | hz
    · exact h.1
    · exact AllStrayK.spec h.2 z hz

theorem wp_region_once_tailK {l : List Oper} {id : Nat} {T0 : Array Value} {ds0 : List Deferred} {w0 : World} (m : Nat) (Z : List Nat) (D J : List (List Nat)) (Je : List Nat) (Rs : List (Value → World → Prop)) (fill : (Nat → Value) → Array Value) (hmix : P.follows .mixedOrders = true)
    (hok : regionOK l.toArray T0.size = true) (hD : depsOK l.toArray D = true) (ht : tailOK l.toArray D m Z = true) (hJ : partsOK D J = true) (hJe : ((Je.all fun j => decide (j < m)) && J.all fun js => js.all fun j => decide (j < m)) = true)
    (hstr : strayOK l.toArray m Z = true) (hQ : Z ≠ [] → ∀ c a d v w, Q (.panic c) (Act.put a d v) w → Q (.panic c) a w)
    (hfill : ∀ u, fillU T0 ((l.take m).map (·.dst)) u 0 = fill u)
    (hstep : StepsFromK P Q w0 fill l.toArray ds0 Rs Rs J (l.take m))
    (hyl : AllStrayK P w0 fill l ds0 Rs J Z)
    (hR : AllLastK w0 Rs)
    (hend : ∀ (u : Nat → Value) (w : World), Below w0.heap.size w0 w → Facts Rs u w Je → wpList P l.toArray Q (l.drop m) ⟨fill u, ds0⟩ w) :
    (Code.region id l.toArray true).wp P Q ⟨T0, ds0⟩ w0 := by
  simp only [Bool.and_eq_true] at hJe
  have hjm : ∀ i j, j ∈ J.getD i [] → j < m := fun i j hj => by
    rcases Nat.lt_or_ge i J.length with h | h
    · have hg : J.getD i [] ∈ J := by
        rw [List.getD_eq_getElem?_getD, List.getElem?_eq_getElem h]
        exact List.getElem_mem h
      simpa using List.all_eq_true.1 (List.all_eq_true.1 hJe.2 _ hg) j hj
    · rw [List.getD_eq_getElem?_getD, List.getElem?_eq_none h] at hj
      cases hj
  refine wp_region_freeK m Z D (nthR Rs) hmix hok hD ht hstr hQ (fun z hz o hzm ho u w hb hd => ?_) hR.spec (fun i o him ho u w hb hd => ?_) (fun u w hb h => ?_)
  · have ho' : l[z]? = some o := by simpa using ho
    obtain ⟨v, hy, hr⟩ := hyl.spec z hz o ho' u w hb (facts_of fun j hj => hd j (partsOK_spec hJ z j hj) (hjm z j hj))
    refine ⟨v, ?_, by rw [outOf_eq]; exact hr⟩
    rw [← hfill u] at hy
    exact hy
  · have ho' : (l.take m)[i]? = some o := by
      rw [List.getElem?_take, if_pos him]
      simpa using ho
    have := hstep.spec i o ho' u w hb (facts_of fun j hj => hd j (partsOK_spec hJ i j hj) (hjm i j hj))
    unfold StepGoalK at *
    simp only [outOf_eq]
    rw [← hfill u] at this
    exact this
  · have := hend u w hb (facts_of fun j hj => h j (by simpa using List.all_eq_true.1 hJe.1 j hj))
    rw [← hfill u] at this
    simpa using this
theorem wpList_stepsK {l : List Oper} {T0 : Array Value} {ds0 : List Deferred} {w0 : World} (m : Nat) (J : List (List Nat)) (Je : List Nat) (Rs : List (Value → World → Prop)) (fill : (Nat → Value) → Array Value)
    (hm : m ≤ l.length) (hok : regionOK l.toArray T0.size = true) (hJ : ∀ i, ∀ j ∈ J.getD i [], j < i) (hJe : ∀ j ∈ Je, j < m)
    (hfill : ∀ u, fillU T0 ((l.take m).map (·.dst)) u 0 = fill u)
    (hstep : StepsFromK P Q w0 fill l.toArray ds0 Rs Rs J (l.take m))
    (hR : AllLastK w0 Rs)
    (hend : ∀ (u : Nat → Value) (w : World), Below w0.heap.size w0 w → Facts Rs u w Je → wpList P l.toArray Q (l.drop m) ⟨fill u, ds0⟩ w) :
    ∀ (d k : Nat) (a : Act) (w : World), k + d = m → a.defers = ds0 → AgreeBut T0 ((l.take m).map (·.dst)) a.tmps → Below w0.heap.size w0 w →
      (∀ j o, j < k → l[j]? = some o → nthR Rs j (slotOf a.tmps o.dst) w) → wpList P l.toArray Q (l.drop k) a w := by
  have hu : ∀ (a : Act), a.defers = ds0 → AgreeBut T0 ((l.take m).map (·.dst)) a.tmps → ∃ u : Nat → Value, a = ⟨fill u, ds0⟩ ∧ ∀ i o, l[i]? = some o → u i = slotOf a.tmps o.dst := by
    intro a hds hag
    refine ⟨fun i => slotOf a.tmps ((l[i]?).bind (·.dst)), ?_, fun i o ho => by (show slotOf a.tmps ((l[i]?).bind (·.dst)) = _); rw [ho]; rfl⟩
    have := fillU_eq ((l.take m).map (·.dst)) T0 a.tmps (fun i => slotOf a.tmps ((l[i]?).bind (·.dst))) 0 hag (fun j d hj => by
      have hjm : j < m := by
        have := (List.getElem?_eq_some_iff.1 hj).1
        simp at this
        omega
      rw [List.getElem?_map, List.getElem?_take, if_pos hjm] at hj
      rw [Nat.zero_add]
      cases ho : l[j]? with
      | none => rw [ho] at hj; cases hj
      | some o => rw [ho] at hj; cases hj; rfl)
    rw [← hfill, this, ← hds]
  intro d
  induction d with
  | zero =>
    intro k a w hk hds hag hb hf
    obtain rfl : k = m := by omega
    obtain ⟨u, rfl, hus⟩ := hu a hds hag
    refine hend u w hb (facts_of fun j hj => ?_)
    have hjm := hJe j hj
    obtain ⟨o, ho⟩ : ∃ o, l[j]? = some o := ⟨_, List.getElem?_eq_getElem (by omega)⟩
    rw [hus j o ho]
    exact hf j o hjm ho
  | succ d ih =>
    intro k a w hk hds hag hb hf
    have hkl : k < l.length := by omega
    obtain ⟨o, ho⟩ : ∃ o, l[k]? = some o := ⟨_, List.getElem?_eq_getElem hkl⟩
    have hdr : l.drop k = o :: l.drop (k + 1) := by
      rw [List.drop_eq_getElem_cons hkl]
      congr 1
      exact (List.getElem?_eq_some_iff.1 ho).2
    obtain ⟨u, hau, hus⟩ := hu a hds hag
    have hoA : l.toArray[k]? = some o := by simpa using ho
    have hot : (l.take m)[k]? = some o := by rw [List.getElem?_take, if_pos (by omega)]; exact ho
    rw [hdr]
    refine wpList_step fun K hK => ?_
    have hfacts : Facts Rs u w (J.getD k []) := facts_of fun j hj => by
      have hjk := hJ k j hj
      obtain ⟨p, hp⟩ : ∃ p, l[j]? = some p := ⟨_, List.getElem?_eq_getElem (by omega)⟩
      rw [hus j p hp]
      exact hf j p hjk hp
    have := hstep.spec k o hot u w hb hfacts K (fun a' w' v ha hb' hr => by
      rw [← hau] at ha
      subst ha
      refine hK _ _ (ih (k + 1) _ w' (by omega) ?_ ?_ (hb.trans hb'.below) fun j p hj hp => ?_)
      · cases hd : o.dst <;> simp [Act.put, hds]
      · cases hd : o.dst with
        | none => exact hag
        | some d =>
          refine ⟨by simp [Act.put, hag.1], fun x hx => ?_⟩
          have hdk : d ≠ x := fun e => hx (by
            subst e
            rw [List.mem_map]
            exact ⟨o, List.mem_of_getElem? hot, hd⟩)
          simp only [Act.put, Array.getElem?_setIfInBounds, if_neg hdk]
          exact hag.2 x hx
      · by_cases e : j = k
        · subst e
          rw [ho] at hp; cases hp
          cases hd : o.dst with
          | none => rw [hd] at hr; exact hr
          | some d =>
            rw [hd] at hr
            have hdn := ((regionOK_spec hok hoA).2 d hd).1
            have hsz : d < a.tmps.size := by rw [hag.1]; exact hdn
            simp only [slotOf, Act.put, Array.getD_eq_getD_getElem?, Array.getElem?_setIfInBounds, if_true, if_pos hsz, Option.getD_some]
            exact hr
        · have hpA : l.toArray[j]? = some p := by simpa using hp
          have hs : slotOf (a.put o.dst v).tmps p.dst = slotOf a.tmps p.dst := by
            cases hd : o.dst with
            | none => rfl
            | some d =>
              cases hpd : p.dst with
              | none => rfl
              | some d' =>
                have hnd : d ≠ d' := fun e' => by
                  have := regionOK_ne hok hoA hpA (Ne.symm e) hd
                  rw [hpd, e'] at this
                  exact this rfl
                simp [slotOf, Act.put, Array.getD_eq_getD_getElem?, hnd]
          rw [hs]
          exact hR.spec j _ _ _ (hf j p (by omega) hp) hb')
    rw [← hau] at this
    have hat : fill u = a.tmps := by rw [hau]
    rw [hat] at this
    exact this
/-- A plain region: the first m by steps, the rest as it stands. -/
theorem wp_plain_onceK {l : List Oper} {id : Nat} {T0 : Array Value} {ds0 : List Deferred} {w0 : World} (m : Nat) (J : List (List Nat)) (Je : List Nat) (Rs : List (Value → World → Prop)) (fill : (Nat → Value) → Array Value)
    (hok : regionOK l.toArray T0.size = true) (hJ : (decide (m ≤ l.length) && textOK 0 J && Je.all fun j => decide (j < m)) = true)
    (hfill : ∀ u, fillU T0 ((l.take m).map (·.dst)) u 0 = fill u)
    (hstep : StepsFromK P Q w0 fill l.toArray ds0 Rs Rs J (l.take m))
    (hR : AllLastK w0 Rs)
    (hend : ∀ (u : Nat → Value) (w : World), Below w0.heap.size w0 w → Facts Rs u w Je → wpList P l.toArray Q (l.drop m) ⟨fill u, ds0⟩ w) :
    (Code.region id l.toArray false).wp P Q ⟨T0, ds0⟩ w0 := by
  simp only [Bool.and_eq_true, decide_eq_true_eq] at hJ
  refine wp_region_list ?_
  have := wpList_stepsK m J Je Rs fill hJ.1.1 hok (fun i j hj => by have := textOK_spec J 0 hJ.1.2 i j hj; omega) (fun j hj => by simpa using List.all_eq_true.1 hJ.2 j hj) hfill hstep hR hend m 0 ⟨T0, ds0⟩ w0 (by omega) rfl ⟨rfl, fun _ _ => rfl⟩ (Below.refl _ _) (fun j o hj _ => absurd hj (by omega))
  simpa using this
end
end Go.Proofs.YtagblbfbjemfhaaDoor
