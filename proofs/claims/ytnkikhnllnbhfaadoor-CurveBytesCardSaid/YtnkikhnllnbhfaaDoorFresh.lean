/-
  Fresh.
-/
import Derived.Test.YtnkikhnllnbhfaaDoorFree
namespace Go.Proofs.YtnkikhnllnbhfaaDoor
open Go.RowKit
section
variable {P : Program} {Q : Exit → Act → World → Prop}
/-- As Mid; and what was made anew is known, and apart. -/
structure MidF (Fl : List Bool) (m : Nat) (ops : Array Oper) (T0 : Array Value) (ds0 : List Deferred) (w0 : World) (R : Nat → Value → World → Prop) (listed : Array Bool) (a : Act) (w : World) : Prop extends Mid m ops T0 ds0 w0 R listed a w where
  known : ∀ i, Fl.getD i false = true → ∀ o, ops[i]? = some o → listed.getD i false = true → ∃ g, slotOf a.tmps o.dst = .pointer (some ⟨g, 0, none⟩) ∧ g < w.heap.size
  apart : ∀ i j, Fl.getD i false = true → Fl.getD j false = true → i ≠ j → ∀ o p, ops[i]? = some o → ops[j]? = some p → listed.getD i false = true → listed.getD j false = true → slotOf a.tmps o.dst ≠ slotOf a.tmps p.dst
/-- A value is a place made between two worlds. -/
def Anew (v : Value) (w w' : World) : Prop := ∃ g, v = .pointer (some ⟨g, 0, none⟩) ∧ w.heap.size ≤ g ∧ g < w'.heap.size

theorem wpAny_fresh (Fl : List Bool) {ops : Array Oper} {D : List (List Nat)} {T0 : Array Value} {ds0 : List Deferred} {w0 : World} {R : Nat → Value → World → Prop} (m : Nat) (Z : List Nat)
    (hok : regionOK ops T0.size = true) (hD : depsOK ops D = true) (ht : tailOK ops D m Z = true)
    (hstr : strayOK ops m Z = true) (hZF : ∀ z ∈ Z, Fl.getD z false = false) (hQ : Z ≠ [] → ∀ c a d v w, Q (.panic c) (Act.put a d v) w → Q (.panic c) a w)
    (hyl : ∀ z ∈ Z, ∀ o, z < m → ops[z]? = some o → ∀ (u : Nat → Value) (w : World), Below w0.heap.size w0 w → (∀ j ∈ D.getD z [], j < m → R j (u j) w) →
      ∃ v, Yields P ops o v ⟨fillU T0 ((ops.toList.take m).map (·.dst)) u 0, ds0⟩ ∧ R z (if o.dst = none then undef else v) w)
    (hR : ∀ i v w w', R i v w → Below w.heap.size w w' → R i v w')
    (hstep : ∀ i o, i < m → ops[i]? = some o → ∀ (u : Nat → Value) (w : World), Below w0.heap.size w0 w → (∀ j ∈ D.getD i [], j < m → R j (u j) w) →
      ∀ K : Act → World → Prop, (∀ a' w' v, a' = (⟨fillU T0 ((ops.toList.take m).map (·.dst)) u 0, ds0⟩ : Act).put o.dst v → Below w.heap.size w w' → (R i (if o.dst = none then undef else v) w') → (Fl.getD i false = true → Anew (if o.dst = none then undef else v) w w') → K a' w') →
      if Region.wanted o (yielded ops (fillU T0 ((ops.toList.take m).map (·.dst)) u 0)) then Oper.wp P o ⟨fillU T0 ((ops.toList.take m).map (·.dst)) u 0, ds0⟩ w K Q else K ((⟨fillU T0 ((ops.toList.take m).map (·.dst)) u 0, ds0⟩ : Act).put o.dst undef) w)
    (hend : ∀ (u : Nat → Value) (w : World), Below w0.heap.size w0 w → (∀ j, j < m → R j (u j) w) → (∀ i j, Fl.getD i false = true → Fl.getD j false = true → i ≠ j → i < m → j < m → u i ≠ u j) → wpList P ops Q (ops.toList.drop m) ⟨fillU T0 ((ops.toList.take m).map (·.dst)) u 0, ds0⟩ w) :
    ∀ (fuel : Nat) (listed : Array Bool) (a : Act) (w : World), MidF Fl m ops T0 ds0 w0 R listed a w → ops.size ≤ fuel + cnt listed → wpAny P .any ops Q fuel listed a w := by
  have hmle : m ≤ ops.size := by
    unfold tailOK at ht
    simp only [Bool.and_eq_true, decide_eq_true_eq] at ht
    exact ht.1.1
  have hfill : ∀ (listed : Array Bool) (a : Act) (w : World), MidF Fl m ops T0 ds0 w0 R listed a w → ∃ u : Nat → Value, a = ⟨fillU T0 ((ops.toList.take m).map (·.dst)) u 0, ds0⟩ ∧ ∀ i o, ops[i]? = some o → u i = slotOf a.tmps o.dst := by
    intro listed a w hm
    refine ⟨fun i => slotOf a.tmps ((ops[i]?).bind (·.dst)), ?_, fun i o ho => by (show slotOf a.tmps ((ops[i]?).bind (·.dst)) = _); rw [ho]; rfl⟩
    have := fillU_eq ((ops.toList.take m).map (·.dst)) T0 a.tmps (fun i => slotOf a.tmps ((ops[i]?).bind (·.dst))) 0 hm.agree (fun j d hj => by
      have hjm : j < m := by
        have := (List.getElem?_eq_some_iff.1 hj).1
        simp at this
        omega
      rw [List.getElem?_map, List.getElem?_take, if_pos hjm, Array.getElem?_toList] at hj
      rw [Nat.zero_add]
      cases ho : ops[j]? with
      | none => rw [ho] at hj; cases hj
      | some o => rw [ho] at hj; cases hj; rfl)
    rw [this, ← hm.defers]
  have fin : ∀ (fuel : Nat) (listed : Array Bool) (a : Act) (w : World), MidF Fl m ops T0 ds0 w0 R listed a w → ops.size ≤ fuel + cnt listed → (∀ i, i < m → listed.getD i false = true) → wpAny P .any ops Q fuel listed a w := by
    intro fuel listed a w hm hf hall
    obtain ⟨u, hu, hus⟩ := hfill listed a w hm
    have hcm := cnt_le_of hm.tail
    refine wpAny_tail hok ht (ops.size - m) m fuel listed a w (by omega) (Nat.le_refl _) hm.size hall hm.tail (by omega) ?_
    rw [hu]
    refine hend u w hm.ext (fun j hj => ?_) (fun i j hi hj hne him hjm => ?_)
    · obtain ⟨o, ho⟩ : ∃ o, ops[j]? = some o := ⟨_, Array.getElem?_eq_getElem (by omega)⟩
      rw [hus j o ho]
      exact hm.holds j o ho (hall j hj)
    · obtain ⟨o, ho⟩ : ∃ o, ops[i]? = some o := ⟨_, Array.getElem?_eq_getElem (by omega)⟩
      obtain ⟨p, hp⟩ : ∃ p, ops[j]? = some p := ⟨_, Array.getElem?_eq_getElem (by omega)⟩
      rw [hus i o ho, hus j p hp]
      exact hm.apart i j hi hj hne o p ho hp (hall i him) (hall j hjm)
  -- nobody of the tail may come up while one of the others has not
  have hlow : ∀ (listed : Array Bool) (a : Act) (w : World), MidF Fl m ops T0 ds0 w0 R listed a w → (¬ ∀ i, i < m → i ∉ Z → listed.getD i false = true) → ∀ i ∈ Region.ready .any ops listed, i < m := by
    intro listed a w hm hn i hi
    rcases Nat.lt_or_ge i m with h | h
    · exact h
    · exfalso
      obtain ⟨h0, o, ho, hall⟩ := mem_ready.1 hi
      have hi2 : i < ops.size := (Array.getElem?_eq_some_iff.1 ho).1
      unfold tailOK at ht
      simp only [Bool.and_eq_true] at ht
      rcases Nat.lt_or_ge m i with h' | h'
      · have := List.all_eq_true.1 ht.2 i (List.mem_range.2 hi2)
        rw [ho] at this
        simp only [Bool.or_eq_true, decide_eq_true_eq] at this
        rcases this with hx | hx
        · omega
        · obtain ⟨e, he, hb⟩ := Array.any_eq_true'.1 hx
          simp only [Bool.and_eq_true, beq_iff_eq] at hb
          have h1 := hall e he hb.1
          rw [hm.tail e.on (by omega)] at h1
          cases h1
      · obtain rfl : i = m := by omega
        refine hn fun j hj hjz => ?_
        have := List.all_eq_true.1 ht.1.2 j (List.mem_range.2 hj)
        simp only [Bool.or_eq_true, decide_eq_true_eq, List.contains_iff_mem] at this
        rcases this with (hx | hx) | hx
        · omega
        · exact absurd hx hjz
        · exact deps_listed hok hD hm.toMid i o ho hall j hx
  have hfactsG : ∀ (listed : Array Bool) (a : Act) (w : World) (u : Nat → Value), MidF Fl m ops T0 ds0 w0 R listed a w → (∀ i o, ops[i]? = some o → u i = slotOf a.tmps o.dst) → ∀ i ∈ Region.ready .any ops listed, ∀ j ∈ D.getD i [], j < m → R j (u j) w := by
    intro listed a w u hm hus i hi j hj _
    obtain ⟨h0, o, ho, hall⟩ := mem_ready.1 hi
    have hl := deps_listed hok hD hm.toMid i o ho hall j hj
    have hj1 : j < ops.size := by
      rw [← hm.size]
      rcases Nat.lt_or_ge j listed.size with h | h
      · exact h
      · simp [Array.getD_eq_getD_getElem?, Array.getElem?_eq_none h] at hl
    obtain ⟨p, hp⟩ : ∃ p, ops[j]? = some p := ⟨_, Array.getElem?_eq_getElem hj1⟩
    rw [hus j p hp]
    exact hm.holds j p hp hl
  have hmidG : ∀ (listed : Array Bool) (a : Act) (w : World) (i : Nat) (o : Oper), MidF Fl m ops T0 ds0 w0 R listed a w → ops[i]? = some o → i < m → (∀ e ∈ o.after, Region.binds .any e = true → listed.getD e.on false = true) →
      ∀ (v : Value) (w' : World), Below w.heap.size w w' → R i (if o.dst = none then undef else v) w' → (Fl.getD i false = true → Anew (if o.dst = none then undef else v) w w') → MidF Fl m ops T0 ds0 w0 R (listed.setIfInBounds i true) (a.put o.dst v) w' := by
    intro listed a w i o hm ho him hall
    intro v w' hb hr hfr
    have hnin : ∀ j p, ops[j]? = some p → j ≠ i → slotOf (a.put o.dst v).tmps p.dst = slotOf a.tmps p.dst := by
      intro j p hp hne
      cases hd : o.dst with
      | none => rfl
      | some d =>
        cases hpd : p.dst with
        | none => rfl
        | some d' =>
          have hnd : d ≠ d' := fun e => by
            have := regionOK_ne hok ho hp (Ne.symm hne) hd
            rw [hpd, e] at this
            exact this rfl
          simp [slotOf, Act.put, Array.getD_eq_getD_getElem?, hnd]
    have hslot : slotOf (a.put o.dst v).tmps o.dst = (if o.dst = none then undef else v) := by
      cases hd : o.dst with
      | none => rfl
      | some d =>
        have hdn := ((regionOK_spec hok ho).2 d hd).1
        have hsz : d < a.tmps.size := by rw [hm.agree.1]; exact hdn
        simp only [slotOf, Act.put, Array.getD_eq_getD_getElem?, Array.getElem?_setIfInBounds, if_true, if_pos hsz, Option.getD_some]
        simp
    refine ⟨⟨by simp [hm.size], ?_, ?_, ?_, hm.ext.trans (hb.mono hm.ext.size), ?_, ?_⟩, ?_, ?_⟩
    · cases hd : o.dst <;> simp [Act.put, hm.defers]
    · cases hd : o.dst with
      | none => exact hm.agree
      | some d =>
        refine ⟨by simp [Act.put, hm.agree.1], fun k hk => ?_⟩
        have hdk : d ≠ k := fun e => hk (by
          subst e
          rw [List.mem_map]
          refine ⟨o, List.mem_of_getElem? (i := i) ?_, hd⟩
          rw [List.getElem?_take, if_pos him]
          simpa using ho)
        simp only [Act.put, Array.getElem?_setIfInBounds, if_neg hdk]
        exact hm.agree.2 k hk
    · intro j hj
      have := hm.tail j hj
      simp only [Array.getD_eq_getD_getElem?, Array.getElem?_setIfInBounds] at this ⊢
      rw [if_neg (by omega)]
      exact this
    · intro j p hp hl e he hb'
      have : listed.getD e.on false = true := by
        rcases getD_true_set hl with rfl | hl
        · rw [ho] at hp; cases hp
          exact hall e he hb'
        · exact hm.closed j p hp hl e he hb'
      exact getD_set_true this
    · intro j p hp hl
      by_cases e : j = i
      · subst e
        rw [ho] at hp; cases hp
        cases hd : o.dst with
        | none => rw [hd] at hr; exact hr
        | some d =>
          rw [hd] at hr
          have hdn := ((regionOK_spec hok ho).2 d hd).1
          have hsz : d < a.tmps.size := by rw [hm.agree.1]; exact hdn
          simp only [slotOf, Act.put, Array.getD_eq_getD_getElem?, Array.getElem?_setIfInBounds, if_true, if_pos hsz, Option.getD_some]
          simpa using hr
      · rw [hnin j p hp e]
        rcases getD_true_set hl with h | hl
        · exact absurd h e
        · exact hR j _ _ _ (hm.holds j p hp hl) hb
    · intro j hjF p hp hl
      by_cases e : j = i
      · subst e
        rw [ho] at hp; cases hp
        obtain ⟨g, hg, _, h2⟩ := hfr hjF
        exact ⟨g, hslot.trans hg, h2⟩
      · rw [hnin j p hp e]
        rcases getD_true_set hl with h | hl
        · exact absurd h e
        · obtain ⟨g, hg, h2⟩ := hm.known j hjF p hp hl
          exact ⟨g, hg, Nat.lt_of_lt_of_le h2 hb.size⟩
    · have key : ∀ j, Fl.getD j false = true → Fl.getD i false = true → j ≠ i → ∀ p, ops[j]? = some p → (listed.setIfInBounds i true).getD j false = true → slotOf (a.put o.dst v).tmps p.dst ≠ slotOf (a.put o.dst v).tmps o.dst := by
        intro j hjF hiF e p hp hl
        obtain ⟨g, hg, h1, _⟩ := hfr hiF
        rcases getD_true_set hl with h | hl
        · exact absurd h e
        · obtain ⟨g', hg', h2⟩ := hm.known j hjF p hp hl
          rw [hnin j p hp e, hslot, hg, hg']
          intro h
          simp at h <;> omega
      intro j k hjF hkF hne p q hp hq hl hl2
      by_cases e : j = i
      · subst e
        rw [ho] at hp; cases hp
        exact fun h => key k hkF hjF (Ne.symm hne) q hq hl2 h.symm
      · by_cases e2 : k = i
        · subst e2
          rw [ho] at hq; cases hq
          exact key j hjF hkF e p hp hl
        · rw [hnin j p hp e, hnin k q hq e2]
          rcases getD_true_set hl with h | hl
          · exact absurd h e
          · rcases getD_true_set hl2 with h | hl2
            · exact absurd h e2
            · exact hm.apart j k hjF hkF hne p q hp hq hl hl2
  intro fuel
  induction fuel with
  | zero =>
    intro listed a w hm hf
    by_cases hall : ∀ i, i < m → listed.getD i false = true
    · exact fin 0 listed a w hm hf hall
    · exfalso
      obtain ⟨i, _, hi⟩ := some_ready hok hm.size hmle hall
      obtain ⟨h0, o, ho, _⟩ := mem_ready.1 hi
      have hi2 : i < listed.size := by
        rw [hm.size]; exact (Array.getElem?_eq_some_iff.1 ho).1
      have hf0 : listed[i]? = some false := by
        rw [Array.getElem?_eq_getElem hi2]
        simp only [Array.getD_eq_getD_getElem?, Array.getElem?_eq_getElem hi2, Option.getD_some] at h0
        rw [h0]
      have h1 := cnt_set hf0
      have h2 := cnt_le (listed.setIfInBounds i true)
      simp only [Array.size_setIfInBounds] at h2
      have := hm.size
      omega
  | succ fuel ih =>
    intro listed a w hm hf
    by_cases hall : ∀ i, i < m → listed.getD i false = true
    · exact fin (fuel + 1) listed a w hm hf hall
    by_cases hnz : ∀ i, i < m → i ∉ Z → listed.getD i false = true
    · -- only stray ones are left: one of them is taken first
      obtain ⟨z, hzm, hz⟩ := some_ready hok hm.size hmle hall
      obtain ⟨h0, o, ho, hall2⟩ := mem_ready.1 hz
      have hi2 : z < listed.size := by rw [hm.size]; exact (Array.getElem?_eq_some_iff.1 ho).1
      have hf0 : listed[z]? = some false := by
        rw [Array.getElem?_eq_getElem hi2]
        simp only [Array.getD_eq_getD_getElem?, Array.getElem?_eq_getElem hi2, Option.getD_some] at h0
        rw [h0]
      have hzZ : z ∈ Z := by
        apply Classical.byContradiction
        intro h
        have := hnz z hzm h
        simp only [Array.getD_eq_getD_getElem?, hf0, Option.getD_some] at this
        cases this
      obtain ⟨u, hu, hus⟩ := hfill listed a w hm
      obtain ⟨v, hy, hr⟩ := hyl z hzZ o hzm ho u w hm.ext (hfactsG listed a w u hm hus z hz)
      rw [← hu] at hy
      unfold strayOK at hstr
      have hne : Z.isEmpty = false := by cases Z with | nil => cases hzZ | cons _ _ => rfl
      rw [hne, Bool.false_or, Bool.and_eq_true] at hstr
      have hcnt : ops.size ≤ fuel + cnt (listed.setIfInBounds z true) := by rw [cnt_set hf0]; omega
      refine wpAny_first ho (Region.noSelect_spec hstr.1) (fun c a w h => hQ (List.ne_nil_of_mem hzZ) c a _ _ w h) fuel listed a w ?_ hz hy (ih _ _ _ (hmidG listed a w z o hm ho hzm hall2 v w (Below.refl _ _) hr (fun h => by rw [hZF z hzZ] at h; cases h)) hcnt)
      intro j oj hoj hjz hun hno
      have h1 := List.all_eq_true.1 hstr.2 z hzZ
      rw [ho] at h1
      have h2 := List.all_eq_true.1 h1 j (List.mem_range.2 (Array.getElem?_eq_some_iff.1 hoj).1)
      rw [hoj] at h2
      simp only [Bool.or_eq_true, Bool.and_eq_true, beq_iff_eq, decide_eq_true_eq, Bool.not_eq_true', List.contains_eq_mem, decide_eq_false_iff_not] at h2
      rcases h2 with (h2 | ⟨h2, h3⟩) | (h2 | h2)
      · exact absurd h2 hjz
      · have h4 := hnz j h2 (by simpa using h3)
        have hj2 : j < listed.size := by rw [hm.size]; exact (Array.getElem?_eq_some_iff.1 hoj).1
        simp only [Array.getD_eq_getD_getElem?, Array.getElem?_eq_getElem hj2, Option.getD_some] at h4 hun
        rw [h4] at hun
        cases hun
      · obtain ⟨e, he, hb⟩ := Array.any_eq_true'.1 h2
        simp only [Bool.and_eq_true, beq_iff_eq] at hb
        exact absurd hb.2 (hno e he hb.1)
      · exact h2
    refine ⟨fun hr => ?_, fun i hi => ?_⟩
    · obtain ⟨i, _, hi⟩ := some_ready hok hm.size hmle hall
      rw [hr] at hi
      cases hi
    have him := hlow listed a w hm hnz i hi
    clear hall hnz
    obtain ⟨h0, o, ho, hall⟩ := mem_ready.1 hi
    have hi1 : i < ops.size := (Array.getElem?_eq_some_iff.1 ho).1
    have hi2 : i < listed.size := by rw [hm.size]; exact hi1
    have hf0 : listed[i]? = some false := by
      rw [Array.getElem?_eq_getElem hi2]
      simp only [Array.getD_eq_getD_getElem?, Array.getElem?_eq_getElem hi2, Option.getD_some] at h0
      rw [h0]
    obtain ⟨u, hu, hus⟩ := hfill listed a w hm
    have hfacts := hfactsG listed a w u hm hus i hi
    have hmid := hmidG listed a w i o hm ho him hall
    have hcnt : ops.size ≤ fuel + cnt (listed.setIfInBounds i true) := by rw [cnt_set hf0]; omega
    refine wpOp_step ho fun K hK => ?_
    have := hstep i o him ho u w hm.ext hfacts K (fun a' w' v ha hb hr hfr => by
      subst ha
      rw [← hu]
      exact hK _ _ (ih _ _ _ (hmid v w' hb hr hfr) hcnt))
    rw [← hu] at this
    have hat : fillU T0 ((ops.toList.take m).map (·.dst)) u 0 = a.tmps := by rw [hu]
    rw [hat] at this
    exact this

theorem wp_region_freeF (Fl : List Bool) {ops : Array Oper} {id : Nat} {T0 : Array Value} {ds0 : List Deferred} {w0 : World} (m : Nat) (Z : List Nat) (D : List (List Nat)) (R : Nat → Value → World → Prop) (hmix : P.follows .mixedOrders = true)
    (hok : regionOK ops T0.size = true) (hD : depsOK ops D = true) (ht : tailOK ops D m Z = true)
    (hstr : strayOK ops m Z = true) (hZF : ∀ z ∈ Z, Fl.getD z false = false) (hQ : Z ≠ [] → ∀ c a d v w, Q (.panic c) (Act.put a d v) w → Q (.panic c) a w)
    (hyl : ∀ z ∈ Z, ∀ o, z < m → ops[z]? = some o → ∀ (u : Nat → Value) (w : World), Below w0.heap.size w0 w → (∀ j ∈ D.getD z [], j < m → R j (u j) w) →
      ∃ v, Yields P ops o v ⟨fillU T0 ((ops.toList.take m).map (·.dst)) u 0, ds0⟩ ∧ R z (if o.dst = none then undef else v) w)
    (hR : ∀ i v w w', R i v w → Below w.heap.size w w' → R i v w')
    (hstep : ∀ i o, i < m → ops[i]? = some o → ∀ (u : Nat → Value) (w : World), Below w0.heap.size w0 w → (∀ j ∈ D.getD i [], j < m → R j (u j) w) →
      ∀ K : Act → World → Prop, (∀ a' w' v, a' = (⟨fillU T0 ((ops.toList.take m).map (·.dst)) u 0, ds0⟩ : Act).put o.dst v → Below w.heap.size w w' → (R i (if o.dst = none then undef else v) w') → (Fl.getD i false = true → Anew (if o.dst = none then undef else v) w w') → K a' w') →
      if Region.wanted o (yielded ops (fillU T0 ((ops.toList.take m).map (·.dst)) u 0)) then Oper.wp P o ⟨fillU T0 ((ops.toList.take m).map (·.dst)) u 0, ds0⟩ w K Q else K ((⟨fillU T0 ((ops.toList.take m).map (·.dst)) u 0, ds0⟩ : Act).put o.dst undef) w)
    (hend : ∀ (u : Nat → Value) (w : World), Below w0.heap.size w0 w → (∀ j, j < m → R j (u j) w) → (∀ i j, Fl.getD i false = true → Fl.getD j false = true → i ≠ j → i < m → j < m → u i ≠ u j) → wpList P ops Q (ops.toList.drop m) ⟨fillU T0 ((ops.toList.take m).map (·.dst)) u 0, ds0⟩ w) :
    (Code.region id ops true).wp P Q ⟨T0, ds0⟩ w0 := by
  refine wp_region_any hmix ?_
  refine wpAny_fresh Fl m Z hok hD ht hstr hZF hQ hyl hR hstep hend ops.size _ _ _ ⟨⟨by simp, rfl, ⟨rfl, fun _ _ => rfl⟩, ?_, ?_, ?_, ?_⟩, ?_, ?_⟩ (by omega)
  · intro i _
    rcases Nat.lt_or_ge i ops.size with h | h
    · simp [Array.getD_eq_getD_getElem?, h]
    · simp [Array.getD_eq_getD_getElem?, Nat.not_lt.2 h]
  · exact (Below.refl _ _).drew
  · intro i o ho hl
    rcases Nat.lt_or_ge i ops.size with h | h
    · simp [Array.getD_eq_getD_getElem?, h] at hl
    · simp [Array.getD_eq_getD_getElem?, Nat.not_lt.2 h] at hl
  · intro i o ho hl
    rcases Nat.lt_or_ge i ops.size with h | h
    · simp [Array.getD_eq_getD_getElem?, h] at hl
    · simp [Array.getD_eq_getD_getElem?, Nat.not_lt.2 h] at hl
  · intro i _ o ho hl
    rcases Nat.lt_or_ge i ops.size with h | h
    · simp [Array.getD_eq_getD_getElem?, h] at hl
    · simp [Array.getD_eq_getD_getElem?, Nat.not_lt.2 h] at hl
  · intro i j _ _ _ o p ho hp hl
    rcases Nat.lt_or_ge i ops.size with h | h
    · simp [Array.getD_eq_getD_getElem?, h] at hl
    · simp [Array.getD_eq_getD_getElem?, Nat.not_lt.2 h] at hl

/-- The step of one that makes a new block. -/
def StepNew (P : Program) (Q : Exit → Act → World → Prop) (w0 : World) (fill : (Nat → Value) → Array Value) (ops : Array Oper) (ds0 : List Deferred) (Rs : List (Value → World → Prop)) (r : Value → World → Prop) (js : List Nat) (o : Oper) : Prop :=
  ∀ (u : Nat → Value) (w : World), Below w0.heap.size w0 w → Facts Rs u w js →
    ∀ K : Act → World → Prop, (∀ a' w' v, a' = (⟨fill u, ds0⟩ : Act).put o.dst v → Below w.heap.size w w' → r (outOf o.dst v) w' → Anew (outOf o.dst v) w w' → K a' w') →
      if Region.wanted o (yielded ops (fill u)) then Oper.wp P o ⟨fill u, ds0⟩ w K Q else K ((⟨fill u, ds0⟩ : Act).put o.dst undef) w
/-- All the steps. -/
def StepsNew (P : Program) (Q : Exit → Act → World → Prop) (w0 : World) (fill : (Nat → Value) → Array Value) (ops : Array Oper) (ds0 : List Deferred) (Rs : List (Value → World → Prop)) : List Bool → List (Value → World → Prop) → List (List Nat) → List Oper → Prop
  | _, _, _, [] => True
  | true :: fs, r :: rs, js :: D, o :: l => StepNew P Q w0 fill ops ds0 Rs r js o ∧ StepsNew P Q w0 fill ops ds0 Rs fs rs D l
  | false :: fs, r :: rs, js :: D, o :: l => StepGoal P Q w0 fill ops ds0 Rs r js o ∧ StepsNew P Q w0 fill ops ds0 Rs fs rs D l
  | _, _, _, _ => False
theorem StepsNew.spec {w0 : World} {fill : (Nat → Value) → Array Value} {ops : Array Oper} {ds0 : List Deferred} {Rs : List (Value → World → Prop)} : ∀ {l : List Oper} {fs : List Bool} {rs : List (Value → World → Prop)} {D : List (List Nat)},
    StepsNew P Q w0 fill ops ds0 Rs fs rs D l → ∀ i o, l[i]? = some o → (fs.getD i false = true → StepNew P Q w0 fill ops ds0 Rs (nthR rs i) (D.getD i []) o) ∧ (fs.getD i false = false → StepGoal P Q w0 fill ops ds0 Rs (nthR rs i) (D.getD i []) o)
  | [], _, _, _, _, i, o, ho => by simp at ho
  | o' :: l, true :: fs, r :: rs, js :: D, h, 0, o, ho => by
    simp only [List.getElem?_cons_zero, Option.some.injEq] at ho
    subst ho
    exact ⟨fun _ => h.1, (fun h' => by cases h')⟩
  | o' :: l, false :: fs, r :: rs, js :: D, h, 0, o, ho => by
    simp only [List.getElem?_cons_zero, Option.some.injEq] at ho
    subst ho
    exact ⟨(fun h' => by cases h'), fun _ => h.1⟩
  | o' :: l, true :: fs, r :: rs, js :: D, h, i + 1, o, ho => StepsNew.spec (l := l) h.2 i o (by simpa using ho)
  | o' :: l, false :: fs, r :: rs, js :: D, h, i + 1, o, ho => StepsNew.spec (l := l) h.2 i o (by simpa using ho)
  | o' :: l, [], _, _, h, _, _, _ => h.elim
  | o' :: l, true :: _, [], _, h, _, _, _ => h.elim
  | o' :: l, false :: _, [], _, h, _, _, _ => h.elim
  | o' :: l, true :: _, _ :: _, [], h, _, _, _ => h.elim
  | o' :: l, false :: _, _ :: _, [], h, _, _, _ => h.elim

theorem wp_region_fresh (Fl : List Bool) {l : List Oper} {id : Nat} {T0 : Array Value} {ds0 : List Deferred} {w0 : World} (m : Nat) (Z : List Nat) (D J : List (List Nat)) (Je : List Nat) (Rs : List (Value → World → Prop)) (fill : (Nat → Value) → Array Value) (hmix : P.follows .mixedOrders = true)
    (hok : regionOK l.toArray T0.size = true) (hD : depsOK l.toArray D = true) (ht : tailOK l.toArray D m Z = true) (hJ : partsOK D J = true) (hJe : ((Je.all fun j => decide (j < m)) && J.all fun js => js.all fun j => decide (j < m)) = true)
    (hstr : strayOK l.toArray m Z = true) (hZF : (Z.all fun z => !Fl.getD z false) = true) (hQ : Z ≠ [] → ∀ c a d v w, Q (.panic c) (Act.put a d v) w → Q (.panic c) a w)
    (hfill : ∀ u, fillU T0 ((l.take m).map (·.dst)) u 0 = fill u)
    (hstep : StepsNew P Q w0 fill l.toArray ds0 Rs Fl Rs J (l.take m))
    (hyl : AllStray P w0 fill l ds0 Rs J Z)
    (hR : AllLast Rs)
    (hend : ∀ (u : Nat → Value) (w : World), Below w0.heap.size w0 w → Facts Rs u w Je → (∀ i j, Fl.getD i false = true → Fl.getD j false = true → i ≠ j → i < m → j < m → u i ≠ u j) → wpList P l.toArray Q (l.drop m) ⟨fill u, ds0⟩ w) :
    (Code.region id l.toArray true).wp P Q ⟨T0, ds0⟩ w0 := by
  simp only [Bool.and_eq_true] at hJe
  have hjm : ∀ i j, j ∈ J.getD i [] → j < m := fun i j hj => by
    rcases Nat.lt_or_ge i J.length with h | h
    · have hg : J.getD i [] ∈ J := by
        rw [List.getD_eq_getElem?_getD, List.getElem?_eq_getElem h]
        exact List.getElem_mem h
      simpa using List.all_eq_true.1 (List.all_eq_true.1 hJe.2 _ hg) j hj
    · rw [List.getD_eq_getElem?_getD, List.getElem?_eq_none h] at hj
      cases hj
  refine wp_region_freeF Fl m Z D (nthR Rs) hmix hok hD ht hstr (fun z hz => by have := List.all_eq_true.1 hZF z hz; simpa using this) hQ (fun z hz o hzm ho u w hb hd => ?_) hR.spec (fun i o him ho u w hb hd => ?_) (fun u w hb h hne => ?_)
  · have ho' : l[z]? = some o := by simpa using ho
    obtain ⟨v, hy, hr⟩ := hyl.spec z hz o ho' u w hb (facts_of fun j hj => hd j (partsOK_spec hJ z j hj) (hjm z j hj))
    refine ⟨v, ?_, by rw [outOf_eq]; exact hr⟩
    rw [← hfill u] at hy
    exact hy
  · have ho' : (l.take m)[i]? = some o := by
      rw [List.getElem?_take, if_pos him]
      simpa using ho
    simp only [outOf_eq]
    cases hf : Fl.getD i false with
    | true =>
      have := (hstep.spec i o ho').1 hf u w hb (facts_of fun j hj => hd j (partsOK_spec hJ i j hj) (hjm i j hj))
      rw [← hfill u] at this
      intro K hK
      exact this K fun a' w' v h1 h2 h3 h4 => hK a' w' v h1 h2 h3 fun _ => h4
    | false =>
      have := (hstep.spec i o ho').2 hf u w hb (facts_of fun j hj => hd j (partsOK_spec hJ i j hj) (hjm i j hj))
      rw [← hfill u] at this
      intro K hK
      exact this K fun a' w' v h1 h2 h3 => hK a' w' v h1 h2 h3 fun h => by cases h
  · have := hend u w hb (facts_of fun j hj => h j (by simpa using List.all_eq_true.1 hJe.1 j hj)) hne
    rw [← hfill u] at this
    simpa using this
end
end Go.Proofs.YtnkikhnllnbhfaaDoor
