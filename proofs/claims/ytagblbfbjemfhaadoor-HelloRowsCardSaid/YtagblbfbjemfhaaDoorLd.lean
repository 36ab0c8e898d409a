/-
  Joined: Free, Tail, TailMove, Fresh.
-/
import Derived.Test.YtagblbfbjemfhaaDoorProg
import Derived.Deep.MidRow
import Derived.Maps.AppendAt
import Derived.Deep.AppendLies
import Derived.Laws.CopyRow
import Derived.Deep.RegionHeld3
import Derived.Below
import Derived.StillTail
import Derived.Deep.Quiet
import Derived.RegionTactic
import Derived.Test.YtagblbfbjemfhaaDoorLa
import Derived.Test.YtagblbfbjemfhaaDoorLb
import Derived.Test.YtagblbfbjemfhaaDoorLc
namespace Go.Proofs.YtagblbfbjemfhaaDoor
section
open Go.RowKit
section
variable {P : Program} {Q : Exit → Act → World → Prop}
/-- What a slot holds. -/
def slotOf (tm : Array Value) : Option Tmp → Value
  | some d => tm.getD d undef
  | none => undef
/-- Slots filled one by one. -/
def fillU (T : Array Value) : List (Option Tmp) → (Nat → Value) → Nat → Array Value
  | [], _, _ => T
  | some d :: ds, u, k => fillU (T.setIfInBounds d (u k)) ds u (k + 1)
  | none :: ds, u, k => fillU T ds u (k + 1)
/-- Apart from some slots two rows are alike. -/
def AgreeBut (T : Array Value) (ds : List (Option Tmp)) (tm : Array Value) : Prop := tm.size = T.size ∧ ∀ k, some k ∉ ds → tm[k]? = T[k]?

theorem fillU_eq : ∀ (ds : List (Option Tmp)) (T tm : Array Value) (u : Nat → Value) (k : Nat), AgreeBut T ds tm → (∀ j d, ds[j]? = some d → u (k + j) = slotOf tm d) → fillU T ds u k = tm
  | [], T, tm, u, k, h, _ => by
    unfold fillU
    exact (Array.ext_getElem? fun i => h.2 i (by simp)).symm
  | some d :: ds, T, tm, u, k, h, hu => by
    unfold fillU
    refine fillU_eq ds _ tm u (k + 1) ⟨by simpa using h.1, fun x hx => ?_⟩ (fun j e he => by rw [show k + 1 + j = k + (j + 1) by omega]; exact hu (j + 1) e (by simpa using he))
    have h0 := hu 0 (some d) rfl
    rw [Nat.add_zero] at h0
    rw [h0, Array.getElem?_setIfInBounds]
    by_cases e : d = x
    · subst e
      rw [if_pos rfl, ← h.1]
      by_cases hd : d < tm.size
      · rw [if_pos hd]; simp [slotOf, hd]
      · rw [if_neg hd]; exact Array.getElem?_eq_none (Nat.le_of_not_lt hd)
    · rw [if_neg e]
      exact h.2 x (by simp only [List.mem_cons, not_or]; exact ⟨fun h => e (Option.some.inj h).symm, hx⟩)
  | none :: ds, T, tm, u, k, h, hu => by
    unfold fillU
    refine fillU_eq ds T tm u (k + 1) ⟨h.1, fun x hx => h.2 x ?_⟩ (fun j e he => by rw [show k + 1 + j = k + (j + 1) by omega]; exact hu (j + 1) e (by simpa using he))
    simp only [List.mem_cons, not_or]
    exact ⟨fun h => (by cases h), hx⟩

/-- Whom an operation waits for, through others. -/
def depsOK (ops : Array Oper) (D : List (List Nat)) : Bool :=
  (List.range ops.size).all fun i => match ops[i]? with
    | none => false
    | some o => (D.getD i []).all fun j => o.after.any fun e => Region.binds .any e && (e.on == j || (D.getD e.on []).contains j)
/-- Nobody waits for a later one; no two write one slot; all slots are there. -/
def regionOK (ops : Array Oper) (n : Nat) : Bool :=
  ((List.range ops.size).all fun i => match ops[i]? with
    | none => false
    | some o => (o.after.all fun e => !Region.binds .any e || decide (e.on < i)) && (match o.dst with | none => true | some d => decide (d < n) && (List.range i).all fun j => match ops[j]? with | none => true | some p => p.dst != some d))

theorem regionOK_spec {ops : Array Oper} {n : Nat} (h : regionOK ops n = true) {i : Nat} {o : Oper} (ho : ops[i]? = some o) :
    (∀ e ∈ o.after, Region.binds .any e = true → e.on < i) ∧ (∀ d, o.dst = some d → d < n ∧ ∀ j p, j < i → ops[j]? = some p → p.dst ≠ some d) := by
  have hi : i < ops.size := (Array.getElem?_eq_some_iff.1 ho).1
  have h1 := List.all_eq_true.1 h i (List.mem_range.2 hi)
  rw [ho] at h1
  simp only [Bool.and_eq_true] at h1
  refine ⟨fun e he hb => ?_, fun d hd => ?_⟩
  · have := Array.all_eq_true'.1 h1.1 e he
    rw [hb] at this
    simpa using this
  · have h2 := h1.2
    rw [hd] at h2
    simp only [Bool.and_eq_true, decide_eq_true_eq] at h2
    refine ⟨h2.1, fun j p hj hp => ?_⟩
    have := List.all_eq_true.1 h2.2 j (List.mem_range.2 hj)
    rw [hp] at this
    simpa using this

theorem regionOK_ne {ops : Array Oper} {n : Nat} (h : regionOK ops n = true) {i j : Nat} {o p : Oper} (ho : ops[i]? = some o) (hp : ops[j]? = some p) (hne : i ≠ j) {d : Tmp} (hd : o.dst = some d) : p.dst ≠ some d := by
  rcases Nat.lt_or_gt_of_ne hne with h' | h'
  · exact fun e => (((regionOK_spec h hp).2 d e).2 i o h' ho) hd
  · exact ((regionOK_spec h ho).2 d hd).2 j p h' hp

/-- The state of a region on its way. -/
structure Mid (m : Nat) (ops : Array Oper) (T0 : Array Value) (ds0 : List Deferred) (w0 : World) (R : Nat → Value → World → Prop) (listed : Array Bool) (a : Act) (w : World) : Prop where
  size : listed.size = ops.size
  defers : a.defers = ds0
  agree : AgreeBut T0 ((ops.toList.take m).map (·.dst)) a.tmps
  tail : ∀ i, m ≤ i → listed.getD i false = false
  ext : Below w0.heap.size w0 w
  closed : ∀ i o, ops[i]? = some o → listed.getD i false = true → ∀ e ∈ o.after, Region.binds .any e = true → listed.getD e.on false = true
  holds : ∀ i o, ops[i]? = some o → listed.getD i false = true → R i (slotOf a.tmps o.dst) w

theorem getD_true_set {l : Array Bool} {i j : Nat} (h : (l.setIfInBounds i true).getD j false = true) : j = i ∨ l.getD j false = true := by
  by_cases e : j = i
  · exact .inl e
  · right
    simp only [Array.getD_eq_getD_getElem?, Array.getElem?_setIfInBounds] at h ⊢
    rwa [if_neg (fun x => e x.symm)] at h

theorem deps_listed {ops : Array Oper} {D : List (List Nat)} {n m : Nat} (hok : regionOK ops n = true) (hD : depsOK ops D = true) {T0 : Array Value} {ds0 : List Deferred} {w0 : World} {R : Nat → Value → World → Prop} {listed : Array Bool} {a : Act} {w : World} (hm : Mid m ops T0 ds0 w0 R listed a w) :
    ∀ (i : Nat) (o : Oper), ops[i]? = some o → (∀ e ∈ o.after, Region.binds .any e = true → listed.getD e.on false = true) → ∀ j ∈ D.getD i [], listed.getD j false = true := by
  intro i
  induction i using Nat.strongRecOn with
  | ind i ih =>
    intro o ho hall j hj
    have hi : i < ops.size := (Array.getElem?_eq_some_iff.1 ho).1
    have h1 := List.all_eq_true.1 hD i (List.mem_range.2 hi)
    rw [ho] at h1
    have h2 := List.all_eq_true.1 h1 j hj
    obtain ⟨e, he, hb⟩ := Array.any_eq_true'.1 h2
    simp only [Bool.and_eq_true, Bool.or_eq_true, beq_iff_eq, List.contains_iff_mem] at hb
    have hl := hall e he hb.1
    rcases hb.2 with rfl | hb2
    · exact hl
    · have hlt := (regionOK_spec hok ho).1 e he hb.1
      have hsz : e.on < ops.size := by omega
      obtain ⟨p, hp⟩ : ∃ p, ops[e.on]? = some p := ⟨_, Array.getElem?_eq_getElem hsz⟩
      exact ih e.on hlt p hp (hm.closed e.on p hp hl) j hb2

theorem first_ready {ops : Array Oper} {n : Nat} (hok : regionOK ops n = true) {listed : Array Bool} (hs : listed.size = ops.size) {i : Nat} (hi : i < ops.size) (hl : listed.getD i false = false) (hb : ∀ j, j < i → listed.getD j false = true) : i ∈ Region.ready .any ops listed := by
  obtain ⟨o, ho⟩ : ∃ o, ops[i]? = some o := ⟨_, Array.getElem?_eq_getElem hi⟩
  rw [mem_ready]
  refine ⟨?_, o, ho, fun e he hbd => hb e.on ((regionOK_spec hok ho).1 e he hbd)⟩
  simp only [Array.getD_eq_getD_getElem?, Array.getElem?_eq_getElem (show i < listed.size by omega)] at hl ⊢
  exact hl
/-- Some of the first ones have not come up: the least of them may. -/
theorem some_ready {ops : Array Oper} {n m : Nat} (hok : regionOK ops n = true) {listed : Array Bool} (hs : listed.size = ops.size) (hm : m ≤ ops.size) (hn : ¬ ∀ i, i < m → listed.getD i false = true) : ∃ i, i < m ∧ i ∈ Region.ready .any ops listed := by
  have : ∀ k, k ≤ m → (∀ j, j < k → listed.getD j false = true) ∨ ∃ i, i < k ∧ i ∈ Region.ready .any ops listed := by
    intro k
    induction k with
    | zero => intro _; left; intro j hj; omega
    | succ k ih =>
      intro hk
      rcases ih (by omega) with h | ⟨i, hi, hr⟩
      · cases hl : listed.getD k false with
        | true =>
          left
          intro j hj
          rcases Nat.lt_or_ge j k with h' | h'
          · exact h j h'
          · obtain rfl : j = k := by omega
            exact hl
        | false => exact .inr ⟨k, by omega, first_ready hok hs (by omega) hl h⟩
      · exact .inr ⟨i, by omega, hr⟩
  rcases this m (Nat.le_refl _) with h | h
  · exact absurd h hn
  · exact h

/-- How many have come up. -/
def cnt (l : Array Bool) : Nat := (l.toList.filter (· = true)).length
theorem filter_set_true : ∀ (l : List Bool) (i : Nat), l[i]? = some false → ((l.set i true).filter (· = true)).length = (l.filter (· = true)).length + 1
  | [], i, h => by simp at h
  | b :: l, 0, h => by
    simp only [List.getElem?_cons_zero, Option.some.injEq] at h
    subst h
    simp
  | b :: l, i + 1, h => by
    simp only [List.getElem?_cons_succ] at h
    have := filter_set_true l i h
    cases b <;> simp [List.set] at * <;> omega
theorem cnt_set {l : Array Bool} {i : Nat} (h : l[i]? = some false) : cnt (l.setIfInBounds i true) = cnt l + 1 := by
  unfold cnt
  rw [Array.toList_setIfInBounds]
  exact filter_set_true l.toList i (by simpa using h)
theorem cnt_le (l : Array Bool) : cnt l ≤ l.size := by
  unfold cnt
  exact Nat.le_trans (List.length_filter_le _ _) (by simp)

theorem filter_none : ∀ (l : List Bool) (m : Nat), (∀ i, m ≤ i → l.getD i false = false) → (l.filter (· = true)).length ≤ m
  | [], m, _ => by simp
  | b :: l, 0, h => by
    have h0 := h 0 (Nat.le_refl _)
    simp only [List.getD_cons_zero] at h0
    subst h0
    have := filter_none l 0 (fun i _ => by have := h (i + 1) (Nat.zero_le _); simpa using this)
    simpa using this
  | b :: l, m + 1, h => by
    have := filter_none l m (fun i hi => by have := h (i + 1) (by omega); simpa using this)
    cases b
    · rw [List.filter_cons_of_neg (by decide)]; omega
    · rw [List.filter_cons_of_pos (by decide), List.length_cons]; omega
theorem cnt_le_of {l : Array Bool} {m : Nat} (h : ∀ i, m ≤ i → l.getD i false = false) : cnt l ≤ m := by
  unfold cnt
  exact filter_none l.toList m (fun i hi => by have := h i hi; simpa [Array.getD_eq_getD_getElem?, List.getD_eq_getElem?_getD] using this)

/-- The last ones come one behind the other, behind all others. -/
def tailOK (ops : Array Oper) (D : List (List Nat)) (m : Nat) (Z : List Nat) : Bool :=
  decide (m ≤ ops.size) && ((List.range m).all fun j => decide (ops.size ≤ m) || Z.contains j || (D.getD m []).contains j) &&
  ((List.range ops.size).all fun i => decide (i ≤ m) || match ops[i]? with | none => false | some o => o.after.any fun e => Region.binds .any e && e.on == i - 1)

/-- Who may come behind the tail's beginning: worldless ones that nobody minds. -/
def strayOK (ops : Array Oper) (m : Nat) (Z : List Nat) : Bool :=
  Z.isEmpty || (Region.noSelect ops && Z.all fun z => match ops[z]? with
    | none => false
    | some oz => (List.range ops.size).all fun j => j == z || (decide (j < m) && !Z.contains j) || match ops[j]? with
      | none => true
      | some oj => (oj.after.any fun e => Region.binds .any e && e.on == z) || oz.apart ops oj)

theorem wpAny_tail {ops : Array Oper} {n m : Nat} {D : List (List Nat)} {Z : List Nat} (hok : regionOK ops n = true) (ht : tailOK ops D m Z = true) :
    ∀ (d k fuel : Nat) (listed : Array Bool) (a : Act) (w : World), k + d = ops.size → m ≤ k → listed.size = ops.size → (∀ i, i < k → listed.getD i false = true) → (∀ i, k ≤ i → listed.getD i false = false) → d ≤ fuel →
      wpList P ops Q (ops.toList.drop k) a w → wpAny P .any ops Q fuel listed a w := by
  have hchain : ∀ i o, m < i → ops[i]? = some o → ∃ e ∈ o.after, Region.binds .any e = true ∧ e.on = i - 1 := by
    intro i o hi ho
    have hi2 : i < ops.size := (Array.getElem?_eq_some_iff.1 ho).1
    unfold tailOK at ht
    simp only [Bool.and_eq_true] at ht
    have := List.all_eq_true.1 ht.2 i (List.mem_range.2 hi2)
    rw [ho] at this
    simp only [Bool.or_eq_true, decide_eq_true_eq] at this
    rcases this with h | h
    · omega
    · obtain ⟨e, he, hb⟩ := Array.any_eq_true'.1 h
      simp only [Bool.and_eq_true, beq_iff_eq] at hb
      exact ⟨e, he, hb.1, hb.2⟩
  intro d
  induction d with
  | zero =>
    intro k fuel listed a w hk _ hs hl _ _ h
    have hr : Region.ready .any ops listed = [] := by
      rw [List.eq_nil_iff_forall_not_mem]
      intro i hi
      obtain ⟨h0, o, ho, _⟩ := mem_ready.1 hi
      have hi2 : i < ops.size := (Array.getElem?_eq_some_iff.1 ho).1
      have := hl i (by omega)
      simp only [Array.getD_eq_getD_getElem?, Array.getElem?_eq_getElem (show i < listed.size by omega), Option.getD_some] at h0 this
      rw [h0] at this
      cases this
    have hd : ops.toList.drop k = [] := List.drop_eq_nil_of_le (by simp; omega)
    rw [hd] at h
    cases fuel with
    | zero => exact ⟨hr, h⟩
    | succ f => exact ⟨fun _ => h, by rw [hr]; simp⟩
  | succ d ih =>
    intro k fuel listed a w hk hmk hs hl hu hf h
    have hk2 : k < ops.size := by omega
    obtain ⟨o, ho⟩ : ∃ o, ops[k]? = some o := ⟨_, Array.getElem?_eq_getElem hk2⟩
    obtain ⟨f, rfl⟩ : ∃ f, fuel = f + 1 := ⟨fuel - 1, by omega⟩
    have hkr := first_ready hok hs hk2 (hu k (Nat.le_refl _)) hl
    refine ⟨fun hr => (by rw [hr] at hkr; cases hkr), fun i hi => ?_⟩
    obtain rfl : i = k := by
      obtain ⟨h0, p, hp, hall⟩ := mem_ready.1 hi
      have hi2 : i < listed.size := by rw [hs]; exact (Array.getElem?_eq_some_iff.1 hp).1
      rcases Nat.lt_trichotomy i k with h' | h' | h'
      · have := hl i h'
        simp only [Array.getD_eq_getD_getElem?, Array.getElem?_eq_getElem hi2, Option.getD_some] at h0 this
        rw [h0] at this
        cases this
      · exact h'
      · obtain ⟨e, he, hb, heo⟩ := hchain i p (by omega) hp
        have h1 := hall e he hb
        rw [hu e.on (by omega)] at h1
        cases h1
    have hdr : ops.toList.drop i = o :: ops.toList.drop (i + 1) := by
      rw [List.drop_eq_getElem_cons (by simpa using hk2)]
      congr 1
      have := (Array.getElem?_eq_some_iff.1 ho).2
      simpa using this
    rw [hdr] at h
    have hnext : ∀ a' w', wpList P ops Q (ops.toList.drop (i + 1)) a' w' → wpAny P .any ops Q f (listed.setIfInBounds i true) a' w' := fun a' w' h' =>
      ih (i + 1) f _ a' w' (by omega) (by omega) (by simp [hs]) (fun j hj => by
        rcases Nat.lt_or_ge j i with h' | h'
        · exact getD_set_true (hl j h')
        · obtain rfl : j = i := by omega
          simp [Array.getD_eq_getD_getElem?, hs, hk2]) (fun j hj => by
        have := hu j (by omega)
        simp only [Array.getD_eq_getD_getElem?, Array.getElem?_setIfInBounds] at this ⊢
        rw [if_neg (by omega)]
        exact this) (by omega) h'
    unfold wpOp
    simp only [ho]
    unfold wpList at h
    split
    · rename_i hw
      rw [if_pos hw] at h
      exact h.imp (Oper.wp_mono hnext) id
    · rename_i hw
      rw [if_neg hw] at h
      exact hnext _ _ h

theorem wpAny_free {ops : Array Oper} {D : List (List Nat)} {T0 : Array Value} {ds0 : List Deferred} {w0 : World} {R : Nat → Value → World → Prop} (m : Nat) (Z : List Nat)
    (hok : regionOK ops T0.size = true) (hD : depsOK ops D = true) (ht : tailOK ops D m Z = true)
    (hstr : strayOK ops m Z = true) (hQ : Z ≠ [] → ∀ c a d v w, Q (.panic c) (Act.put a d v) w → Q (.panic c) a w)
    (hyl : ∀ z ∈ Z, ∀ o, z < m → ops[z]? = some o → ∀ (u : Nat → Value) (w : World), Below w0.heap.size w0 w → (∀ j ∈ D.getD z [], j < m → R j (u j) w) →
      ∃ v, Yields P ops o v ⟨fillU T0 ((ops.toList.take m).map (·.dst)) u 0, ds0⟩ ∧ R z (if o.dst = none then undef else v) w)
    (hR : ∀ i v w w', R i v w → Below w.heap.size w w' → R i v w')
    (hstep : ∀ i o, i < m → ops[i]? = some o → ∀ (u : Nat → Value) (w : World), Below w0.heap.size w0 w → (∀ j ∈ D.getD i [], j < m → R j (u j) w) →
      ∀ K : Act → World → Prop, (∀ a' w' v, a' = (⟨fillU T0 ((ops.toList.take m).map (·.dst)) u 0, ds0⟩ : Act).put o.dst v → Below w.heap.size w w' → (R i (if o.dst = none then undef else v) w') → K a' w') →
      if Region.wanted o (yielded ops (fillU T0 ((ops.toList.take m).map (·.dst)) u 0)) then Oper.wp P o ⟨fillU T0 ((ops.toList.take m).map (·.dst)) u 0, ds0⟩ w K Q else K ((⟨fillU T0 ((ops.toList.take m).map (·.dst)) u 0, ds0⟩ : Act).put o.dst undef) w)
    (hend : ∀ (u : Nat → Value) (w : World), Below w0.heap.size w0 w → (∀ j, j < m → R j (u j) w) → wpList P ops Q (ops.toList.drop m) ⟨fillU T0 ((ops.toList.take m).map (·.dst)) u 0, ds0⟩ w) :
    ∀ (fuel : Nat) (listed : Array Bool) (a : Act) (w : World), Mid m ops T0 ds0 w0 R listed a w → ops.size ≤ fuel + cnt listed → wpAny P .any ops Q fuel listed a w := by
  have hmle : m ≤ ops.size := by
    unfold tailOK at ht
    simp only [Bool.and_eq_true, decide_eq_true_eq] at ht
    exact ht.1.1
  have hfill : ∀ (listed : Array Bool) (a : Act) (w : World), Mid m ops T0 ds0 w0 R listed a w → ∃ u : Nat → Value, a = ⟨fillU T0 ((ops.toList.take m).map (·.dst)) u 0, ds0⟩ ∧ ∀ i o, ops[i]? = some o → u i = slotOf a.tmps o.dst := by
    intro listed a w hm
    refine ⟨fun i => slotOf a.tmps ((ops[i]?).bind (·.dst)), ?_, fun i o ho => by (show slotOf a.tmps ((ops[i]?).bind (·.dst)) = _); rw [ho]; rfl⟩
    have := fillU_eq ((ops.toList.take m).map (·.dst)) T0 a.tmps (fun i => slotOf a.tmps ((ops[i]?).bind (·.dst))) 0 hm.agree (fun j d hj => by
      have hjm : j < m := by
        have := (List.getElem?_eq_some_iff.1 hj).1
        simp at this
        omega
      rw [List.getElem?_map, List.getElem?_take, if_pos hjm, Array.getElem?_toList] at hj
      rw [Nat.zero_add]
      cases ho : ops[j]? with
      | none => rw [ho] at hj; cases hj
      | some o => rw [ho] at hj; cases hj; rfl)
    rw [this, ← hm.defers]
  have fin : ∀ (fuel : Nat) (listed : Array Bool) (a : Act) (w : World), Mid m ops T0 ds0 w0 R listed a w → ops.size ≤ fuel + cnt listed → (∀ i, i < m → listed.getD i false = true) → wpAny P .any ops Q fuel listed a w := by
    intro fuel listed a w hm hf hall
    obtain ⟨u, hu, hus⟩ := hfill listed a w hm
    have hcm := cnt_le_of hm.tail
    refine wpAny_tail hok ht (ops.size - m) m fuel listed a w (by omega) (Nat.le_refl _) hm.size hall hm.tail (by omega) ?_
    rw [hu]
    refine hend u w hm.ext fun j hj => ?_
    obtain ⟨o, ho⟩ : ∃ o, ops[j]? = some o := ⟨_, Array.getElem?_eq_getElem (by omega)⟩
    rw [hus j o ho]
    exact hm.holds j o ho (hall j hj)
  -- nobody of the tail may come up while one of the others has not
  have hlow : ∀ (listed : Array Bool) (a : Act) (w : World), Mid m ops T0 ds0 w0 R listed a w → (¬ ∀ i, i < m → i ∉ Z → listed.getD i false = true) → ∀ i ∈ Region.ready .any ops listed, i < m := by
    intro listed a w hm hn i hi
    rcases Nat.lt_or_ge i m with h | h
    · exact h
    · exfalso
      obtain ⟨h0, o, ho, hall⟩ := mem_ready.1 hi
      have hi2 : i < ops.size := (Array.getElem?_eq_some_iff.1 ho).1
      unfold tailOK at ht
      simp only [Bool.and_eq_true] at ht
      rcases Nat.lt_or_ge m i with h' | h'
      · have := List.all_eq_true.1 ht.2 i (List.mem_range.2 hi2)
        rw [ho] at this
        simp only [Bool.or_eq_true, decide_eq_true_eq] at this
        rcases this with hx | hx
        · omega
        · obtain ⟨e, he, hb⟩ := Array.any_eq_true'.1 hx
          simp only [Bool.and_eq_true, beq_iff_eq] at hb
          have h1 := hall e he hb.1
          rw [hm.tail e.on (by omega)] at h1
          cases h1
      · obtain rfl : i = m := by omega
        refine hn fun j hj hjz => ?_
        have := List.all_eq_true.1 ht.1.2 j (List.mem_range.2 hj)
        simp only [Bool.or_eq_true, decide_eq_true_eq, List.contains_iff_mem] at this
        rcases this with (hx | hx) | hx
        · omega
        · exact absurd hx hjz
        · exact deps_listed hok hD hm i o ho hall j hx
  have hfactsG : ∀ (listed : Array Bool) (a : Act) (w : World) (u : Nat → Value), Mid m ops T0 ds0 w0 R listed a w → (∀ i o, ops[i]? = some o → u i = slotOf a.tmps o.dst) → ∀ i ∈ Region.ready .any ops listed, ∀ j ∈ D.getD i [], j < m → R j (u j) w := by
    intro listed a w u hm hus i hi j hj _
    obtain ⟨h0, o, ho, hall⟩ := mem_ready.1 hi
    have hl := deps_listed hok hD hm i o ho hall j hj
    have hj1 : j < ops.size := by
      rw [← hm.size]
      rcases Nat.lt_or_ge j listed.size with h | h
      · exact h
      · simp [Array.getD_eq_getD_getElem?, Array.getElem?_eq_none h] at hl
    obtain ⟨p, hp⟩ : ∃ p, ops[j]? = some p := ⟨_, Array.getElem?_eq_getElem hj1⟩
    rw [hus j p hp]
    exact hm.holds j p hp hl
  have hmidG : ∀ (listed : Array Bool) (a : Act) (w : World) (i : Nat) (o : Oper), Mid m ops T0 ds0 w0 R listed a w → ops[i]? = some o → i < m → (∀ e ∈ o.after, Region.binds .any e = true → listed.getD e.on false = true) →
      ∀ (v : Value) (w' : World), Below w.heap.size w w' → R i (if o.dst = none then undef else v) w' → Mid m ops T0 ds0 w0 R (listed.setIfInBounds i true) (a.put o.dst v) w' := by
    intro listed a w i o hm ho him hall
    intro v w' hb hr
    have hnin : ∀ j p, ops[j]? = some p → j ≠ i → slotOf (a.put o.dst v).tmps p.dst = slotOf a.tmps p.dst := by
      intro j p hp hne
      cases hd : o.dst with
      | none => rfl
      | some d =>
        cases hpd : p.dst with
        | none => rfl
        | some d' =>
          have hnd : d ≠ d' := fun e => by
            have := regionOK_ne hok ho hp (Ne.symm hne) hd
            rw [hpd, e] at this
            exact this rfl
          simp [slotOf, Act.put, Array.getD_eq_getD_getElem?, hnd]
    refine ⟨by simp [hm.size], ?_, ?_, ?_, hm.ext.trans (hb.mono hm.ext.size), ?_, ?_⟩
    · cases hd : o.dst <;> simp [Act.put, hm.defers]
    · cases hd : o.dst with
      | none => exact hm.agree
      | some d =>
        refine ⟨by simp [Act.put, hm.agree.1], fun k hk => ?_⟩
        have hdk : d ≠ k := fun e => hk (by
          subst e
          rw [List.mem_map]
          refine ⟨o, List.mem_of_getElem? (i := i) ?_, hd⟩
          rw [List.getElem?_take, if_pos him]
          simpa using ho)
        simp only [Act.put, Array.getElem?_setIfInBounds, if_neg hdk]
        exact hm.agree.2 k hk
    · intro j hj
      have := hm.tail j hj
      simp only [Array.getD_eq_getD_getElem?, Array.getElem?_setIfInBounds] at this ⊢
      rw [if_neg (by omega)]
      exact this
    · intro j p hp hl e he hb'
      have : listed.getD e.on false = true := by
        rcases getD_true_set hl with rfl | hl
        · rw [ho] at hp; cases hp
          exact hall e he hb'
        · exact hm.closed j p hp hl e he hb'
      exact getD_set_true this
    · intro j p hp hl
      by_cases e : j = i
      · subst e
        rw [ho] at hp; cases hp
        cases hd : o.dst with
        | none => rw [hd] at hr; exact hr
        | some d =>
          rw [hd] at hr
          have hdn := ((regionOK_spec hok ho).2 d hd).1
          have hsz : d < a.tmps.size := by rw [hm.agree.1]; exact hdn
          simp only [slotOf, Act.put, Array.getD_eq_getD_getElem?, Array.getElem?_setIfInBounds, if_true, if_pos hsz, Option.getD_some]
          simpa using hr
      · rw [hnin j p hp e]
        rcases getD_true_set hl with h | hl
        · exact absurd h e
        · exact hR j _ _ _ (hm.holds j p hp hl) hb
  intro fuel
  induction fuel with
  | zero =>
    intro listed a w hm hf
    by_cases hall : ∀ i, i < m → listed.getD i false = true
    · exact fin 0 listed a w hm hf hall
    · exfalso
      obtain ⟨i, _, hi⟩ := some_ready hok hm.size hmle hall
      obtain ⟨h0, o, ho, _⟩ := mem_ready.1 hi
      have hi2 : i < listed.size := by
        rw [hm.size]; exact (Array.getElem?_eq_some_iff.1 ho).1
      have hf0 : listed[i]? = some false := by
        rw [Array.getElem?_eq_getElem hi2]
        simp only [Array.getD_eq_getD_getElem?, Array.getElem?_eq_getElem hi2, Option.getD_some] at h0
        rw [h0]
      have h1 := cnt_set hf0
      have h2 := cnt_le (listed.setIfInBounds i true)
      simp only [Array.size_setIfInBounds] at h2
      have := hm.size
      omega
  | succ fuel ih =>
    intro listed a w hm hf
    by_cases hall : ∀ i, i < m → listed.getD i false = true
    · exact fin (fuel + 1) listed a w hm hf hall
    by_cases hnz : ∀ i, i < m → i ∉ Z → listed.getD i false = true
    · -- only stray ones are left: one of them is taken first
      obtain ⟨z, hzm, hz⟩ := some_ready hok hm.size hmle hall
      obtain ⟨h0, o, ho, hall2⟩ := mem_ready.1 hz
      have hi2 : z < listed.size := by rw [hm.size]; exact (Array.getElem?_eq_some_iff.1 ho).1
      have hf0 : listed[z]? = some false := by
        rw [Array.getElem?_eq_getElem hi2]
        simp only [Array.getD_eq_getD_getElem?, Array.getElem?_eq_getElem hi2, Option.getD_some] at h0
        rw [h0]
      have hzZ : z ∈ Z := by
        apply Classical.byContradiction
        intro h
        have := hnz z hzm h
        simp only [Array.getD_eq_getD_getElem?, hf0, Option.getD_some] at this
        cases this
      obtain ⟨u, hu, hus⟩ := hfill listed a w hm
      obtain ⟨v, hy, hr⟩ := hyl z hzZ o hzm ho u w hm.ext (hfactsG listed a w u hm hus z hz)
      rw [← hu] at hy
      unfold strayOK at hstr
      have hne : Z.isEmpty = false := by cases Z with | nil => cases hzZ | cons _ _ => rfl
      rw [hne, Bool.false_or, Bool.and_eq_true] at hstr
      have hcnt : ops.size ≤ fuel + cnt (listed.setIfInBounds z true) := by rw [cnt_set hf0]; omega
      refine wpAny_first ho (Region.noSelect_spec hstr.1) (fun c a w h => hQ (List.ne_nil_of_mem hzZ) c a _ _ w h) fuel listed a w ?_ hz hy (ih _ _ _ (hmidG listed a w z o hm ho hzm hall2 v w (Below.refl _ _) hr) hcnt)
      intro j oj hoj hjz hun hno
      have h1 := List.all_eq_true.1 hstr.2 z hzZ
      rw [ho] at h1
      have h2 := List.all_eq_true.1 h1 j (List.mem_range.2 (Array.getElem?_eq_some_iff.1 hoj).1)
      rw [hoj] at h2
      simp only [Bool.or_eq_true, Bool.and_eq_true, beq_iff_eq, decide_eq_true_eq, Bool.not_eq_true', List.contains_eq_mem, decide_eq_false_iff_not] at h2
      rcases h2 with (h2 | ⟨h2, h3⟩) | (h2 | h2)
      · exact absurd h2 hjz
      · have h4 := hnz j h2 (by simpa using h3)
        have hj2 : j < listed.size := by rw [hm.size]; exact (Array.getElem?_eq_some_iff.1 hoj).1
        simp only [Array.getD_eq_getD_getElem?, Array.getElem?_eq_getElem hj2, Option.getD_some] at h4 hun
        rw [h4] at hun
        cases hun
      · obtain ⟨e, he, hb⟩ := Array.any_eq_true'.1 h2
        simp only [Bool.and_eq_true, beq_iff_eq] at hb
        exact absurd hb.2 (hno e he hb.1)
      · exact h2
    refine ⟨fun hr => ?_, fun i hi => ?_⟩
    · obtain ⟨i, _, hi⟩ := some_ready hok hm.size hmle hall
      rw [hr] at hi
      cases hi
    have him := hlow listed a w hm hnz i hi
    clear hall hnz
    obtain ⟨h0, o, ho, hall⟩ := mem_ready.1 hi
    have hi1 : i < ops.size := (Array.getElem?_eq_some_iff.1 ho).1
    have hi2 : i < listed.size := by rw [hm.size]; exact hi1
    have hf0 : listed[i]? = some false := by
      rw [Array.getElem?_eq_getElem hi2]
      simp only [Array.getD_eq_getD_getElem?, Array.getElem?_eq_getElem hi2, Option.getD_some] at h0
      rw [h0]
    obtain ⟨u, hu, hus⟩ := hfill listed a w hm
    have hfacts := hfactsG listed a w u hm hus i hi
    have hmid := hmidG listed a w i o hm ho him hall
    have hcnt : ops.size ≤ fuel + cnt (listed.setIfInBounds i true) := by rw [cnt_set hf0]; omega
    refine wpOp_step ho fun K hK => ?_
    have := hstep i o him ho u w hm.ext hfacts K (fun a' w' v ha hb hr => by
      subst ha
      rw [← hu]
      exact hK _ _ (ih _ _ _ (hmid v w' hb hr) hcnt))
    rw [← hu] at this
    have hat : fillU T0 ((ops.toList.take m).map (·.dst)) u 0 = a.tmps := by rw [hu]
    rw [hat] at this
    exact this

theorem wp_region_free {ops : Array Oper} {id : Nat} {T0 : Array Value} {ds0 : List Deferred} {w0 : World} (m : Nat) (Z : List Nat) (D : List (List Nat)) (R : Nat → Value → World → Prop) (hmix : P.follows .mixedOrders = true)
    (hok : regionOK ops T0.size = true) (hD : depsOK ops D = true) (ht : tailOK ops D m Z = true)
    (hstr : strayOK ops m Z = true) (hQ : Z ≠ [] → ∀ c a d v w, Q (.panic c) (Act.put a d v) w → Q (.panic c) a w)
    (hyl : ∀ z ∈ Z, ∀ o, z < m → ops[z]? = some o → ∀ (u : Nat → Value) (w : World), Below w0.heap.size w0 w → (∀ j ∈ D.getD z [], j < m → R j (u j) w) →
      ∃ v, Yields P ops o v ⟨fillU T0 ((ops.toList.take m).map (·.dst)) u 0, ds0⟩ ∧ R z (if o.dst = none then undef else v) w)
    (hR : ∀ i v w w', R i v w → Below w.heap.size w w' → R i v w')
    (hstep : ∀ i o, i < m → ops[i]? = some o → ∀ (u : Nat → Value) (w : World), Below w0.heap.size w0 w → (∀ j ∈ D.getD i [], j < m → R j (u j) w) →
      ∀ K : Act → World → Prop, (∀ a' w' v, a' = (⟨fillU T0 ((ops.toList.take m).map (·.dst)) u 0, ds0⟩ : Act).put o.dst v → Below w.heap.size w w' → (R i (if o.dst = none then undef else v) w') → K a' w') →
      if Region.wanted o (yielded ops (fillU T0 ((ops.toList.take m).map (·.dst)) u 0)) then Oper.wp P o ⟨fillU T0 ((ops.toList.take m).map (·.dst)) u 0, ds0⟩ w K Q else K ((⟨fillU T0 ((ops.toList.take m).map (·.dst)) u 0, ds0⟩ : Act).put o.dst undef) w)
    (hend : ∀ (u : Nat → Value) (w : World), Below w0.heap.size w0 w → (∀ j, j < m → R j (u j) w) → wpList P ops Q (ops.toList.drop m) ⟨fillU T0 ((ops.toList.take m).map (·.dst)) u 0, ds0⟩ w) :
    (Code.region id ops true).wp P Q ⟨T0, ds0⟩ w0 := by
  refine wp_region_any hmix ?_
  refine wpAny_free m Z hok hD ht hstr hQ hyl hR hstep hend ops.size _ _ _ ⟨by simp, rfl, ⟨rfl, fun _ _ => rfl⟩, ?_, ?_, ?_, ?_⟩ (by omega)
  · intro i _
    rcases Nat.lt_or_ge i ops.size with h | h
    · simp [Array.getD_eq_getD_getElem?, h]
    · simp [Array.getD_eq_getD_getElem?, Nat.not_lt.2 h]
  · exact (Below.refl _ _).drew
  · intro i o ho hl
    rcases Nat.lt_or_ge i ops.size with h | h
    · simp [Array.getD_eq_getD_getElem?, h] at hl
    · simp [Array.getD_eq_getD_getElem?, Nat.not_lt.2 h] at hl
  · intro i o ho hl
    rcases Nat.lt_or_ge i ops.size with h | h
    · simp [Array.getD_eq_getD_getElem?, h] at hl
    · simp [Array.getD_eq_getD_getElem?, Nat.not_lt.2 h] at hl
/-- A row of relations, by number. -/
def nthR : List (Value → World → Prop) → Nat → Value → World → Prop
  | [], _ => fun _ _ => True
  | r :: _, 0 => r
  | _ :: rs, k + 1 => nthR rs k
/-- What an operation leaves in its slot. -/
def outOf : Option Tmp → Value → Value
  | some _, v => v
  | none, _ => undef
theorem outOf_eq (d : Option Tmp) (v : Value) : (if d = none then undef else v) = outOf d v := by cases d <;> simp [outOf]
/-- The value is this one. -/
def Is (x : Value) : Value → World → Prop := fun v _ => v = x
theorem IsOut {d : Tmp} {x : Value} {w : World} : Is x (outOf (some d) x) w := rfl
theorem IsNone {v : Value} {w : World} : Is undef (outOf none v) w := rfl
/-- It still holds where nothing that was there has turned. -/
def Lasts (r : Value → World → Prop) : Prop := ∀ v w w', r v w → Below w.heap.size w w' → r v w'
def AllLast : List (Value → World → Prop) → Prop
  | [] => True
  | r :: rs => Lasts r ∧ AllLast rs
theorem AllLast.nil : AllLast [] := trivial
theorem AllLast.is {x : Value} {rs : List (Value → World → Prop)} (h : AllLast rs) : AllLast (Is x :: rs) := ⟨fun _ _ _ h _ => h, h⟩
theorem AllLast.cons {r : Value → World → Prop} {rs : List (Value → World → Prop)} (h0 : Lasts r) (h : AllLast rs) : AllLast (r :: rs) := ⟨h0, h⟩
theorem AllLast.spec : ∀ {rs : List (Value → World → Prop)}, AllLast rs → ∀ i v w w', nthR rs i v w → Below w.heap.size w w' → nthR rs i v w'
  | [], _, _, _, _, _, _, _ => trivial
  | _ :: _, h, 0, v, w, w', hr, hb => h.1 v w w' hr hb
  | _ :: _, h, i + 1, v, w, w', hr, hb => AllLast.spec h.2 i v w w' hr hb
/-- What is known of those on which an operation waits. -/
def Facts (Rs : List (Value → World → Prop)) (u : Nat → Value) (w : World) : List Nat → Prop
  | [] => True
  | j :: js => nthR Rs j (u j) w ∧ Facts Rs u w js
theorem facts_of {Rs : List (Value → World → Prop)} {u : Nat → Value} {w : World} : ∀ {js : List Nat}, (∀ j ∈ js, nthR Rs j (u j) w) → Facts Rs u w js
  | [], _ => trivial
  | j :: _, h => ⟨h j (List.mem_cons_self ..), facts_of fun i hi => h i (List.mem_cons_of_mem _ hi)⟩
/-- One operation's step. -/
def StepGoal (P : Program) (Q : Exit → Act → World → Prop) (w0 : World) (fill : (Nat → Value) → Array Value) (ops : Array Oper) (ds0 : List Deferred) (Rs : List (Value → World → Prop)) (r : Value → World → Prop) (js : List Nat) (o : Oper) : Prop :=
  ∀ (u : Nat → Value) (w : World), Below w0.heap.size w0 w → Facts Rs u w js →
    ∀ K : Act → World → Prop, (∀ a' w' v, a' = (⟨fill u, ds0⟩ : Act).put o.dst v → Below w.heap.size w w' → r (outOf o.dst v) w' → K a' w') →
      if Region.wanted o (yielded ops (fill u)) then Oper.wp P o ⟨fill u, ds0⟩ w K Q else K ((⟨fill u, ds0⟩ : Act).put o.dst undef) w
/-- All the steps. -/
def StepsFrom (P : Program) (Q : Exit → Act → World → Prop) (w0 : World) (fill : (Nat → Value) → Array Value) (ops : Array Oper) (ds0 : List Deferred) (Rs : List (Value → World → Prop)) : List (Value → World → Prop) → List (List Nat) → List Oper → Prop
  | _, _, [] => True
  | r :: rs, js :: D, o :: l => StepGoal P Q w0 fill ops ds0 Rs r js o ∧ StepsFrom P Q w0 fill ops ds0 Rs rs D l
  | _, _, _ => False
theorem StepsFrom.spec {w0 : World} {fill : (Nat → Value) → Array Value} {ops : Array Oper} {ds0 : List Deferred} {Rs : List (Value → World → Prop)} : ∀ {l : List Oper} {rs : List (Value → World → Prop)} {D : List (List Nat)},
    StepsFrom P Q w0 fill ops ds0 Rs rs D l → ∀ i o, l[i]? = some o → StepGoal P Q w0 fill ops ds0 Rs (nthR rs i) (D.getD i []) o
  | [], _, _, _, i, o, ho => by simp at ho
  | o' :: l, r :: rs, js :: D, h, 0, o, ho => by
    simp only [List.getElem?_cons_zero, Option.some.injEq] at ho
    subst ho
    exact h.1
  | o' :: l, r :: rs, js :: D, h, i + 1, o, ho => StepsFrom.spec (l := l) h.2 i o (by simpa using ho)
  | o' :: l, [], _, h, _, _, _ => h.elim
  | o' :: l, _ :: _, [], h, _, _, _ => h.elim

/-- What is asked of the others is part of what waits. -/
def partsOK : List (List Nat) → List (List Nat) → Bool
  | _, [] => true
  | d :: D, j :: J => (j.all fun x => d.contains x) && partsOK D J
  | [], j :: J => j.isEmpty && partsOK [] J
theorem partsOK_spec : ∀ {D J : List (List Nat)}, partsOK D J = true → ∀ i, ∀ j ∈ J.getD i [], j ∈ D.getD i []
  | _, [], _, i, j, hj => by simp at hj
  | d :: D, x :: J, h, 0, j, hj => by
    simp only [partsOK, Bool.and_eq_true] at h
    have := List.all_eq_true.1 h.1 j (by simpa using hj)
    simpa using this
  | d :: D, x :: J, h, i + 1, j, hj => by
    simp only [partsOK, Bool.and_eq_true] at h
    have := partsOK_spec h.2 i j (by simpa using hj)
    simpa using this
  | [], x :: J, h, 0, j, hj => by
    simp only [partsOK, Bool.and_eq_true] at h
    have : x = [] := by simpa using h.1
    rw [this] at hj
    simp at hj
  | [], x :: J, h, i + 1, j, hj => by
    simp only [partsOK, Bool.and_eq_true] at h
    have := partsOK_spec h.2 i j (by simpa using hj)
    simp at this

/-- A stray one's step. -/
def StrayGoal (P : Program) (w0 : World) (fill : (Nat → Value) → Array Value) (ops : Array Oper) (ds0 : List Deferred) (Rs : List (Value → World → Prop)) (r : Value → World → Prop) (js : List Nat) (o : Oper) : Prop :=
  ∀ (u : Nat → Value) (w : World), Below w0.heap.size w0 w → Facts Rs u w js → ∃ v, Yields P ops o v ⟨fill u, ds0⟩ ∧ r (outOf o.dst v) w
def AllStray (P : Program) (w0 : World) (fill : (Nat → Value) → Array Value) (l : List Oper) (ds0 : List Deferred) (Rs : List (Value → World → Prop)) (J : List (List Nat)) : List Nat → Prop
  | [] => True
  | z :: Z => (∀ o, l[z]? = some o → StrayGoal P w0 fill l.toArray ds0 Rs (nthR Rs z) (J.getD z []) o) ∧ AllStray P w0 fill l ds0 Rs J Z
theorem AllStray.spec {w0 : World} {fill : (Nat → Value) → Array Value} {l : List Oper} {ds0 : List Deferred} {Rs : List (Value → World → Prop)} {J : List (List Nat)} : ∀ {Z : List Nat}, AllStray P w0 fill l ds0 Rs J Z → ∀ z ∈ Z, ∀ o, l[z]? = some o → StrayGoal P w0 fill l.toArray ds0 Rs (nthR Rs z) (J.getD z []) o
  | [], _, z, hz => by cases hz
  | y :: Z, h, z, hz => by
    rcases List.mem_cons.1 hz with rfl | hz
    · exact h.1
    · exact AllStray.spec h.2 z hz

theorem wp_region_once_tail {l : List Oper} {id : Nat} {T0 : Array Value} {ds0 : List Deferred} {w0 : World} (m : Nat) (Z : List Nat) (D J : List (List Nat)) (Je : List Nat) (Rs : List (Value → World → Prop)) (fill : (Nat → Value) → Array Value) (hmix : P.follows .mixedOrders = true)
    (hok : regionOK l.toArray T0.size = true) (hD : depsOK l.toArray D = true) (ht : tailOK l.toArray D m Z = true) (hJ : partsOK D J = true) (hJe : ((Je.all fun j => decide (j < m)) && J.all fun js => js.all fun j => decide (j < m)) = true)
    (hstr : strayOK l.toArray m Z = true) (hQ : Z ≠ [] → ∀ c a d v w, Q (.panic c) (Act.put a d v) w → Q (.panic c) a w)
    (hfill : ∀ u, fillU T0 ((l.take m).map (·.dst)) u 0 = fill u)
    (hstep : StepsFrom P Q w0 fill l.toArray ds0 Rs Rs J (l.take m))
    (hyl : AllStray P w0 fill l ds0 Rs J Z)
    (hR : AllLast Rs)
    (hend : ∀ (u : Nat → Value) (w : World), Below w0.heap.size w0 w → Facts Rs u w Je → wpList P l.toArray Q (l.drop m) ⟨fill u, ds0⟩ w) :
    (Code.region id l.toArray true).wp P Q ⟨T0, ds0⟩ w0 := by
  simp only [Bool.and_eq_true] at hJe
  have hjm : ∀ i j, j ∈ J.getD i [] → j < m := fun i j hj => by
    rcases Nat.lt_or_ge i J.length with h | h
    · have hg : J.getD i [] ∈ J := by
        rw [List.getD_eq_getElem?_getD, List.getElem?_eq_getElem h]
        exact List.getElem_mem h
      simpa using List.all_eq_true.1 (List.all_eq_true.1 hJe.2 _ hg) j hj
    · rw [List.getD_eq_getElem?_getD, List.getElem?_eq_none h] at hj
      cases hj
  refine wp_region_free m Z D (nthR Rs) hmix hok hD ht hstr hQ (fun z hz o hzm ho u w hb hd => ?_) hR.spec (fun i o him ho u w hb hd => ?_) (fun u w hb h => ?_)
  · have ho' : l[z]? = some o := by simpa using ho
    obtain ⟨v, hy, hr⟩ := hyl.spec z hz o ho' u w hb (facts_of fun j hj => hd j (partsOK_spec hJ z j hj) (hjm z j hj))
    refine ⟨v, ?_, by rw [outOf_eq]; exact hr⟩
    rw [← hfill u] at hy
    exact hy
  · have ho' : (l.take m)[i]? = some o := by
      rw [List.getElem?_take, if_pos him]
      simpa using ho
    have := hstep.spec i o ho' u w hb (facts_of fun j hj => hd j (partsOK_spec hJ i j hj) (hjm i j hj))
    unfold StepGoal at *
    simp only [outOf_eq]
    rw [← hfill u] at this
    exact this
  · have := hend u w hb (facts_of fun j hj => h j (by simpa using List.all_eq_true.1 hJe.1 j hj))
    rw [← hfill u] at this
    simpa using this
/-- The whole region: no tail. -/
theorem wp_region_once {l : List Oper} {id : Nat} {T0 : Array Value} {ds0 : List Deferred} {w0 : World} (D J : List (List Nat)) (Je : List Nat) (Rs : List (Value → World → Prop)) (fill : (Nat → Value) → Array Value) (hmix : P.follows .mixedOrders = true)
    (hok : regionOK l.toArray T0.size = true) (hD : depsOK l.toArray D = true) (ht : tailOK l.toArray D l.length [] = true) (hJ : partsOK D J = true) (hJe : ((Je.all fun j => decide (j < l.length)) && J.all fun js => js.all fun j => decide (j < l.length)) = true)
    (hfill : ∀ u, fillU T0 (l.map (·.dst)) u 0 = fill u)
    (hstep : StepsFrom P Q w0 fill l.toArray ds0 Rs Rs J l)
    (hR : AllLast Rs)
    (hend : ∀ (u : Nat → Value) (w : World), Below w0.heap.size w0 w → Facts Rs u w Je → Q .normal ⟨fill u, ds0⟩ w) :
    (Code.region id l.toArray true).wp P Q ⟨T0, ds0⟩ w0 :=
  wp_region_once_tail l.length [] D J Je Rs fill hmix hok hD ht hJ hJe rfl (fun h => absurd rfl h) (by rw [List.take_length]; exact hfill) (by rw [List.take_length]; exact hstep) trivial hR (fun u w hb h => by rw [List.drop_length]; exact hend u w hb h)
end
end
section
section
variable {P : Program} {ops : Array Oper} {md : Region.Mode} {C : World → Prop} {n : Nat}
/-- Whatever order the first n operations come in, L holds behind them. -/
def HeadQ (P : Program) (md : Region.Mode) (ops : Array Oper) (C : World → Prop) (n : Nat) (L : Array Bool → Act → Prop) : Nat → Array Bool → Act → Prop
  | 0, listed, a => L listed a
  | f + 1, listed, a => Region.ready md ops listed ≠ [] ∧ ∀ i ∈ Region.ready md ops listed, i < n ∧ qOp P ops C i (HeadQ P md ops C n L f (listed.setIfInBounds i true)) a

theorem HeadQ.any {g : Nat} {L : Array Bool → Act → Prop} {Q : Exit → Act → World → Prop} (hL : ∀ listed a w, C w → L listed a → wpAny P md ops Q g listed a w) (f : Nat) :
    ∀ (listed : Array Bool) (a : Act) (w : World), C w → HeadQ P md ops C n L f listed a → wpAny P md ops Q (f + g) listed a w := by
  induction f with
  | zero => intro listed a w hw h; rw [Nat.zero_add]; exact hL _ _ _ hw h
  | succ f ih =>
    intro listed a w hw h
    rw [Nat.add_right_comm]
    exact ⟨fun h0 => absurd h0 h.1, fun i hi => wpOp_of_qOp hw (fun a' w' hw' h' => ih _ a' w' hw' h') (h.2 i hi).2⟩

/-- An operation of the first n that may come up may be taken at once. -/
theorem HeadQ.take {i : Nat} {oi : Oper} {v : Value} {L : Array Bool → Act → Prop} (hi : ops[i]? = some oi) (hsel : ∀ (j : Nat) (o : Oper) cs b, ops[j]? = some o → o.op ≠ .select cs b)
    (hs : Region.sinkB md ops n = true) (hc : Region.chainB md ops n = true) (hn : n < ops.size) (hin : i < n) (hL : ∀ listed a, L listed a → ∀ j ∈ Region.ready md ops listed, n ≤ j) (f : Nat) :
    ∀ (listed : Array Bool) (a : Act), HeadInv md ops n listed →
      (∀ j oj, ops[j]? = some oj → j ≠ i → listed.getD j true = false → (∀ e ∈ oj.after, Region.binds md e = true → e.on ≠ i) → oi.apart ops oj = true) →
      i ∈ Region.ready md ops listed → YieldsIn P ops C oi v a → HeadQ P md ops C n L f (listed.setIfInBounds i true) (a.put oi.dst v) → HeadQ P md ops C n L (f + 1) listed a := by
  have low : ∀ listed, HeadInv md ops n listed → i ∈ Region.ready md ops listed → ∀ j ∈ Region.ready md ops listed, j < n := fun listed inv hr j hj => by
    by_cases hjn : j < n
    · exact hjn
    · exact absurd hj (tail_waits hs hc hn inv _ i rfl hin (mem_ready.1 hr).1 j (Nat.le_of_not_lt hjn))
  induction f with
  | zero =>
    intro listed a inv _ hr hy H
    refine ⟨List.ne_nil_of_mem hr, fun j hj => ⟨low listed inv hr j hj, ?_⟩⟩
    rcases Nat.decEq j i with hji | rfl
    · exact absurd (low listed inv hr j hj) (Nat.not_lt.2 (hL _ _ H j (ready_mono hj hji)))
    · exact hy.qOp hi H
  | succ f ih =>
    intro listed a inv hfree hr hy H
    refine ⟨List.ne_nil_of_mem hr, fun j hj => ⟨low listed inv hr j hj, ?_⟩⟩
    rcases Nat.decEq j i with hji | rfl
    · obtain ⟨hun, oj, hoj, hall⟩ := mem_ready.1 hj
      have hno : ∀ e ∈ oj.after, Region.binds md e = true → e.on ≠ i := fun e he hb heq => by
        have h1 := hall e he hb
        rw [heq, getD_both (mem_ready.1 hr).1] at h1
        exact Bool.noConfusion h1
      have step := qOp_put hoj (hfree j oj hoj hji hun hno) (fun cs b => hsel i oi cs b hi) (fun cs b => hsel j oj cs b hoj) hy (H.2 j (ready_mono hj hji)).2
      refine qOp_mono (fun a' h => ih _ a' (inv.set hj (low listed inv hr j hj)) (fun k ok hk hki hl he => hfree k ok hk hki ?_ he) (ready_mono hr (Ne.symm hji)) h.1 ?_) step
      · rcases Nat.decEq j k with hjk | rfl
        · rwa [getD_set_ne true hjk] at hl
        · exact hun
      · rw [Array.setIfInBounds_comm _ _ hji]; exact h.2
    · exact hy.qOp hi H

theorem HeadQ.walk {g : Nat} {q : Act → Prop} (hsel : Region.noSelect ops = true) (hs : Region.sinkB md ops n = true) (hc : Region.chainB md ops n = true) (hn : n < ops.size) (l : List Oper) :
    ∀ (k : Nat) (listed : Array Bool) (a : Act), (∀ j, j < l.length → l[j]? = ops[k + j]?) → k + l.length = n → HeadInv md ops n listed → Region.lexHead md ops g l.length k listed = true → wpQuiet P ops C q l a →
      HeadQ P md ops C n (fun listed' a' => Region.seqB md ops g n listed' = true ∧ q a') l.length listed a := by
  induction l with
  | nil =>
    intro k listed a _ hk _ hB h
    obtain rfl : k = n := hk
    exact ⟨hB, h⟩
  | cons o l ih =>
    intro k listed a hl hk inv hB h
    have h0 : ops[k]? = some o := (hl 0 (Nat.zero_lt_succ _)).symm
    rw [List.length_cons] at hk
    rw [List.length_cons, Region.lexHead, Bool.and_eq_true, Bool.and_eq_true] at hB
    have hr : k ∈ Region.ready md ops listed := by simpa using hB.1.1
    obtain ⟨v, hy, hK⟩ := yieldsIn_of_qOp (P := P) (C := C) (K := wpQuiet P ops C q l) (a := a) h0 (by unfold qOp; simp only [h0]; exact h)
    refine HeadQ.take h0 (Region.noSelect_spec hsel) hs hc hn (by omega) (fun _ _ hL => seqB_ready hL.1) _ listed a inv (Region.free_spec h0 hB.1.2) hr hy ?_
    refine ih (k + 1) _ _ (fun j hj => ?_) (by omega) (inv.set hr (by omega)) hB.2 hK
    have := hl (j + 1) (by simpa using hj)
    rwa [List.getElem?_cons_succ, show k + (j + 1) = k + 1 + j by omega] at this
end
theorem wp_region_quiet_tail {P : Program} {id : Nat} {Q : Exit → Act → World → Prop} {a : Act} {w : World} {l : List Oper} (n : Nat) (hm : P.follows .mixedOrders = true) (hB : Region.lexTailB .any l.toArray n = true)
    (h : wpQuiet P l.toArray (fun w' => ∃ k, w' = w.drewN k) (fun a' => ∀ k, wpList P l.toArray Q (l.drop n) a' (w.drewN k)) (l.take n) a) : (Code.region id l.toArray true).wp P Q a w := by
  unfold Region.lexTailB at hB
  simp only [Bool.and_eq_true, decide_eq_true_eq] at hB
  obtain ⟨⟨⟨⟨hsel, hn⟩, hs⟩, hc⟩, hlex⟩ := hB
  have ht : (l.take n).length = n := by simp at hn ⊢; omega
  have hd : (l.drop n).length = l.toArray.size - n := by simp
  have inv : HeadInv .any l.toArray n (Array.replicate l.toArray.size false) :=
    ⟨by simp, fun j oj _ hl => (by rw [getD_replicate_false] at hl; exact Bool.noConfusion hl), fun t _ ht => getD_in (by simpa using ht) (getD_replicate_false _ _)⟩
  refine wp_region_any hm ?_
  have H := HeadQ.walk (P := P) (C := fun w' => ∃ k, w' = w.drewN k) (g := l.toArray.size - n) hsel hs hc hn (l.take n) 0 _ a (fun j hj => by rw [ht] at hj; simp [hj]) (by rw [ht, Nat.zero_add]) inv (by rw [ht]; exact hlex) h
  have h2 := HeadQ.any (Q := Q) (g := l.toArray.size - n) (fun listed a' w' hw hL => by
    obtain ⟨k, rfl⟩ := hw
    have := wpAny_of_seq (md := .any) (Q' := Q) (l.drop n) n listed a' (w.drewN k) (fun j => by simp [List.getElem?_drop]) (by rw [hd]; exact hL.1) (hL.2 k)
    rwa [hd] at this) _ _ _ (w.drewN 1) ⟨1, rfl⟩ H
  rw [ht, Nat.add_sub_cancel' (Nat.le_of_lt hn)] at h2
  exact h2

end
section
/-- From operation m on, each of the first n is waited for by a later one, n at the most. -/
def sinkFrom (md : Region.Mode) (ops : Array Oper) (m n : Nat) : Bool :=
  (List.range n).all fun i => decide (i < m) || (List.range (n + 1)).any fun j => decide (i < j) && Region.waitsFor md ops j i

section
variable {P : Program} {ops : Array Oper} {md : Region.Mode} {C : World → Prop} {m n : Nat}
theorem unlisted_waits {listed : Array Bool} (hs : sinkFrom md ops m n = true) (hc : Region.chainB md ops n = true) (hn : n < ops.size) (inv : HeadInv md ops n listed) (t : Nat) (ht : n ≤ t) (hr : t ∈ Region.ready md ops listed) :
    ∀ (d i : Nat), d = n - i → m ≤ i → i < n → listed.getD i true = true := by
  obtain ⟨_, ot, hot, hall⟩ := mem_ready.1 hr
  have htn : t = n := by
    have hlt : t < ops.size := (Array.getElem?_eq_some_iff.1 hot).1
    have h1 := List.all_eq_true.1 hc t (List.mem_range.2 hlt)
    simp only [Bool.or_eq_true, decide_eq_true_eq] at h1
    rcases h1 with h1 | h1
    · omega
    · obtain ⟨o', ho', e, he, hb, hon⟩ := Region.waitsFor_spec h1
      obtain rfl : o' = ot := Option.some.inj (ho'.symm.trans hot)
      have h2 := hall e he hb
      rw [hon] at h2
      by_cases h3 : t = n
      · exact h3
      · rw [getD_both (inv.tail (t - 1) (by omega) (by omega))] at h2
        exact Bool.noConfusion h2
  intro d
  induction d using Nat.strongRecOn with
  | _ d ih =>
    intro i hd hm hi
    cases hl : listed.getD i true with
    | true => rfl
    | false =>
      have h1 := List.all_eq_true.1 hs i (List.mem_range.2 hi)
      simp only [Bool.or_eq_true, decide_eq_true_eq] at h1
      rcases h1 with h1 | h1
      · omega
      · obtain ⟨j, hj, hj2⟩ := List.any_eq_true.1 h1
        simp only [Bool.and_eq_true, decide_eq_true_eq] at hj2
        have hjn : j ≤ n := by have := List.mem_range.1 hj; omega
        obtain ⟨oj, hoj, e, he, hb, hon⟩ := Region.waitsFor_spec hj2.2
        have hli : listed.getD i false = true := by
          rcases Nat.lt_or_ge j n with hlt | hge
          · have h3 := ih (n - j) (by omega) j rfl (by omega) hlt
            have h4 : listed.getD j false = true := by
              rcases Bool.eq_false_or_eq_true (listed.getD j false) with h5 | h5
              · exact h5
              · have := getD_in (by rw [inv.size]; omega) h5
                rw [h3] at this; exact Bool.noConfusion this
            rw [← hon]; exact inv.closed j oj hoj h4 e he hb
          · obtain rfl : j = t := by omega
            obtain rfl : oj = ot := Option.some.inj (hoj.symm.trans hot)
            rw [← hon]; exact hall e he hb
        rw [getD_both hl] at hli
        exact Bool.noConfusion hli

theorem HeadQ.take_from {i : Nat} {oi : Oper} {v : Value} {L : Array Bool → Act → Prop} (hi : ops[i]? = some oi) (hsel : ∀ (j : Nat) (o : Oper) cs b, ops[j]? = some o → o.op ≠ .select cs b)
    (hs : sinkFrom md ops m n = true) (hc : Region.chainB md ops n = true) (hn : n < ops.size) (him : m ≤ i) (hin : i < n) (hL : ∀ listed a, L listed a → ∀ j ∈ Region.ready md ops listed, n ≤ j) (f : Nat) :
    ∀ (listed : Array Bool) (a : Act), HeadInv md ops n listed →
      (∀ j oj, ops[j]? = some oj → j ≠ i → listed.getD j true = false → (∀ e ∈ oj.after, Region.binds md e = true → e.on ≠ i) → oi.apart ops oj = true) →
      i ∈ Region.ready md ops listed → YieldsIn P ops C oi v a → HeadQ P md ops C n L f (listed.setIfInBounds i true) (a.put oi.dst v) → HeadQ P md ops C n L (f + 1) listed a := by
  have low : ∀ listed, HeadInv md ops n listed → i ∈ Region.ready md ops listed → ∀ j ∈ Region.ready md ops listed, j < n := fun listed inv hr j hj => by
    by_cases hjn : j < n
    · exact hjn
    · have := unlisted_waits hs hc hn inv j (Nat.le_of_not_lt hjn) hj _ i rfl him hin
      rw [(mem_ready.1 hr).1] at this
      exact Bool.noConfusion this
  induction f with
  | zero =>
    intro listed a inv _ hr hy H
    refine ⟨List.ne_nil_of_mem hr, fun j hj => ⟨low listed inv hr j hj, ?_⟩⟩
    rcases Nat.decEq j i with hji | rfl
    · exact absurd (low listed inv hr j hj) (Nat.not_lt.2 (hL _ _ H j (ready_mono hj hji)))
    · exact hy.qOp hi H
  | succ f ih =>
    intro listed a inv hfree hr hy H
    refine ⟨List.ne_nil_of_mem hr, fun j hj => ⟨low listed inv hr j hj, ?_⟩⟩
    rcases Nat.decEq j i with hji | rfl
    · obtain ⟨hun, oj, hoj, hall⟩ := mem_ready.1 hj
      have hno : ∀ e ∈ oj.after, Region.binds md e = true → e.on ≠ i := fun e he hb heq => by
        have h1 := hall e he hb
        rw [heq, getD_both (mem_ready.1 hr).1] at h1
        exact Bool.noConfusion h1
      have step := qOp_put hoj (hfree j oj hoj hji hun hno) (fun cs b => hsel i oi cs b hi) (fun cs b => hsel j oj cs b hoj) hy (H.2 j (ready_mono hj hji)).2
      refine qOp_mono (fun a' h => ih _ a' (inv.set hj (low listed inv hr j hj)) (fun k ok hk hki hl he => hfree k ok hk hki ?_ he) (ready_mono hr (Ne.symm hji)) h.1 ?_) step
      · rcases Nat.decEq j k with hjk | rfl
        · rwa [getD_set_ne true hjk] at hl
        · exact hun
      · rw [Array.setIfInBounds_comm _ _ hji]; exact h.2
    · exact hy.qOp hi H

theorem HeadQ.walk_from {g : Nat} {q : Act → Prop} (hsel : Region.noSelect ops = true) (hs : sinkFrom md ops m n = true) (hc : Region.chainB md ops n = true) (hn : n < ops.size) (l : List Oper) :
    ∀ (k : Nat) (listed : Array Bool) (a : Act), m ≤ k → (∀ j, j < l.length → l[j]? = ops[k + j]?) → k + l.length = n → HeadInv md ops n listed → Region.lexHead md ops g l.length k listed = true → wpQuiet P ops C q l a →
      HeadQ P md ops C n (fun listed' a' => Region.seqB md ops g n listed' = true ∧ q a') l.length listed a := by
  induction l with
  | nil =>
    intro k listed a _ _ hk _ hB h
    obtain rfl : k = n := hk
    exact ⟨hB, h⟩
  | cons o l ih =>
    intro k listed a hmk hl hk inv hB h
    have h0 : ops[k]? = some o := (hl 0 (Nat.zero_lt_succ _)).symm
    rw [List.length_cons] at hk
    rw [List.length_cons, Region.lexHead, Bool.and_eq_true, Bool.and_eq_true] at hB
    have hr : k ∈ Region.ready md ops listed := by simpa using hB.1.1
    obtain ⟨v, hy, hK⟩ := yieldsIn_of_qOp (P := P) (C := C) (K := wpQuiet P ops C q l) (a := a) h0 (by unfold qOp; simp only [h0]; exact h)
    refine HeadQ.take_from h0 (Region.noSelect_spec hsel) hs hc hn hmk (by omega) (fun _ _ hL => seqB_ready hL.1) _ listed a inv (Region.free_spec h0 hB.1.2) hr hy ?_
    refine ih (k + 1) _ _ (by omega) (fun j hj => ?_) (by omega) (inv.set hr (by omega)) hB.2 hK
    have := hl (j + 1) (by simpa using hj)
    rwa [List.getElem?_cons_succ, show k + (j + 1) = k + 1 + j by omega] at this
end
/-- What is asked of the operations' waiting. -/
def moveTailB (ops : Array Oper) (n : Nat) : Bool :=
  Region.noSelect ops && decide (0 < n) && decide (n < ops.size) && sinkFrom .any ops 1 n && Region.chainB .any ops n && Region.free .any ops (Array.replicate ops.size false) 0 && (Region.ready .any ops (Array.replicate ops.size false)).contains 0
    && Region.lexHead .any ops (ops.size - n) (n - 1) 1 ((Array.replicate ops.size false).setIfInBounds 0 true)

theorem wp_region_move_tail {P : Program} {id : Nat} {Q : Exit → Act → World → Prop} {a : Act} {w : World} {l : List Oper} (n : Nat) (o : Oper) (x : Operand) (hm : P.follows .mixedOrders = true) (hB : moveTailB l.toArray n = true)
    (ho : l[0]? = some o) (hx : o.op = .move x) (hg : o.guard = none)
    (h : wpQuiet P l.toArray (fun w' => ∃ k, w' = w.drewN k) (fun a' => ∀ k, wpList P l.toArray (NoPanic Q) (l.drop n) a' (w.drewN k)) ((l.take n).drop 1) (a.put o.dst (a.eval x))) : (Code.region id l.toArray true).wp P Q a w := by
  unfold moveTailB at hB
  simp only [Bool.and_eq_true, decide_eq_true_eq] at hB
  obtain ⟨⟨⟨⟨⟨⟨⟨hsel, h0n⟩, hn⟩, hs⟩, hc⟩, hf⟩, hr⟩, hlex⟩ := hB
  have ht : ((l.take n).drop 1).length = n - 1 := by simp at hn ⊢; omega
  have hd : (l.drop n).length = l.toArray.size - n := by simp
  have hr' : 0 ∈ Region.ready .any l.toArray (Array.replicate l.toArray.size false) := by simpa using hr
  have ho' : l.toArray[0]? = some o := by simpa using ho
  have inv : HeadInv .any l.toArray n (Array.replicate l.toArray.size false) :=
    ⟨by simp, fun j oj _ hl => (by rw [getD_replicate_false] at hl; exact Bool.noConfusion hl), fun t _ ht => getD_in (by simpa using ht) (getD_replicate_false _ _)⟩
  refine wp_region_noPanic (wp_region_any hm ?_)
  have hz : l.toArray.size = (n - 1 + (l.toArray.size - n)) + 1 := by omega
  have hy : Yields P l.toArray o (a.eval x) a := .inl ⟨by simp [Region.wanted, hg], fun w => by
    unfold execOp
    simp only [hx]
    rfl⟩
  have H := HeadQ.walk_from (P := P) (md := .any) (C := fun w' => ∃ k, w' = w.drewN k) (g := l.toArray.size - n) hsel hs hc hn ((l.take n).drop 1) 1 ((Array.replicate l.toArray.size false).setIfInBounds 0 true) (a.put o.dst (a.eval x)) (Nat.le_refl _) (fun j hj => by
    rw [ht] at hj
    rw [Nat.add_comm 1 j]
    simp [show j + 1 < n by omega]) (by rw [ht]; omega) (inv.set hr' h0n) (by rw [ht]; exact hlex) h
  have h2 := HeadQ.any (Q := NoPanic Q) (g := l.toArray.size - n) (fun listed a' w' hw hL => by
    obtain ⟨k, rfl⟩ := hw
    have := wpAny_of_seq (md := .any) (Q' := NoPanic Q) (l.drop n) n listed a' (w.drewN k) (fun j => by simp [List.getElem?_drop]) (by rw [hd]; exact hL.1) (hL.2 k)
    rwa [hd] at this) _ _ _ (w.drewN 1) ⟨1, rfl⟩ H
  rw [ht] at h2
  have h3 := wpAny_take (md := .any) ho' hsel hf hr (fun c a w hp => hp) hy h2
  rw [← hz] at h3
  exact h3

end
section
open Go.RowKit
section
variable {P : Program} {Q : Exit → Act → World → Prop}
/-- As Mid; and what was made anew is known, and apart. -/
structure MidF (Fl : List Bool) (m : Nat) (ops : Array Oper) (T0 : Array Value) (ds0 : List Deferred) (w0 : World) (R : Nat → Value → World → Prop) (listed : Array Bool) (a : Act) (w : World) : Prop extends Mid m ops T0 ds0 w0 R listed a w where
  known : ∀ i, Fl.getD i false = true → ∀ o, ops[i]? = some o → listed.getD i false = true → ∃ g, slotOf a.tmps o.dst = .pointer (some ⟨g, 0, none⟩) ∧ g < w.heap.size
  apart : ∀ i j, Fl.getD i false = true → Fl.getD j false = true → i ≠ j → ∀ o p, ops[i]? = some o → ops[j]? = some p → listed.getD i false = true → listed.getD j false = true → slotOf a.tmps o.dst ≠ slotOf a.tmps p.dst
/-- A value is a place made between two worlds. -/
def Anew (v : Value) (w w' : World) : Prop := ∃ g, v = .pointer (some ⟨g, 0, none⟩) ∧ w.heap.size ≤ g ∧ g < w'.heap.size

theorem wpAny_fresh (Fl : List Bool) {ops : Array Oper} {D : List (List Nat)} {T0 : Array Value} {ds0 : List Deferred} {w0 : World} {R : Nat → Value → World → Prop} (m : Nat) (Z : List Nat)
    (hok : regionOK ops T0.size = true) (hD : depsOK ops D = true) (ht : tailOK ops D m Z = true)
    (hstr : strayOK ops m Z = true) (hZF : ∀ z ∈ Z, Fl.getD z false = false) (hQ : Z ≠ [] → ∀ c a d v w, Q (.panic c) (Act.put a d v) w → Q (.panic c) a w)
    (hyl : ∀ z ∈ Z, ∀ o, z < m → ops[z]? = some o → ∀ (u : Nat → Value) (w : World), Below w0.heap.size w0 w → (∀ j ∈ D.getD z [], j < m → R j (u j) w) →
      ∃ v, Yields P ops o v ⟨fillU T0 ((ops.toList.take m).map (·.dst)) u 0, ds0⟩ ∧ R z (if o.dst = none then undef else v) w)
    (hR : ∀ i v w w', R i v w → Below w.heap.size w w' → R i v w')
    (hstep : ∀ i o, i < m → ops[i]? = some o → ∀ (u : Nat → Value) (w : World), Below w0.heap.size w0 w → (∀ j ∈ D.getD i [], j < m → R j (u j) w) →
      ∀ K : Act → World → Prop, (∀ a' w' v, a' = (⟨fillU T0 ((ops.toList.take m).map (·.dst)) u 0, ds0⟩ : Act).put o.dst v → Below w.heap.size w w' → (R i (if o.dst = none then undef else v) w') → (Fl.getD i false = true → Anew (if o.dst = none then undef else v) w w') → K a' w') →
      if Region.wanted o (yielded ops (fillU T0 ((ops.toList.take m).map (·.dst)) u 0)) then Oper.wp P o ⟨fillU T0 ((ops.toList.take m).map (·.dst)) u 0, ds0⟩ w K Q else K ((⟨fillU T0 ((ops.toList.take m).map (·.dst)) u 0, ds0⟩ : Act).put o.dst undef) w)
    (hend : ∀ (u : Nat → Value) (w : World), Below w0.heap.size w0 w → (∀ j, j < m → R j (u j) w) → (∀ i j, Fl.getD i false = true → Fl.getD j false = true → i ≠ j → i < m → j < m → u i ≠ u j) → wpList P ops Q (ops.toList.drop m) ⟨fillU T0 ((ops.toList.take m).map (·.dst)) u 0, ds0⟩ w) :
    ∀ (fuel : Nat) (listed : Array Bool) (a : Act) (w : World), MidF Fl m ops T0 ds0 w0 R listed a w → ops.size ≤ fuel + cnt listed → wpAny P .any ops Q fuel listed a w := by
  have hmle : m ≤ ops.size := by
    unfold tailOK at ht
    simp only [Bool.and_eq_true, decide_eq_true_eq] at ht
    exact ht.1.1
  have hfill : ∀ (listed : Array Bool) (a : Act) (w : World), MidF Fl m ops T0 ds0 w0 R listed a w → ∃ u : Nat → Value, a = ⟨fillU T0 ((ops.toList.take m).map (·.dst)) u 0, ds0⟩ ∧ ∀ i o, ops[i]? = some o → u i = slotOf a.tmps o.dst := by
    intro listed a w hm
    refine ⟨fun i => slotOf a.tmps ((ops[i]?).bind (·.dst)), ?_, fun i o ho => by (show slotOf a.tmps ((ops[i]?).bind (·.dst)) = _); rw [ho]; rfl⟩
    have := fillU_eq ((ops.toList.take m).map (·.dst)) T0 a.tmps (fun i => slotOf a.tmps ((ops[i]?).bind (·.dst))) 0 hm.agree (fun j d hj => by
      have hjm : j < m := by
        have := (List.getElem?_eq_some_iff.1 hj).1
        simp at this
        omega
      rw [List.getElem?_map, List.getElem?_take, if_pos hjm, Array.getElem?_toList] at hj
      rw [Nat.zero_add]
      cases ho : ops[j]? with
      | none => rw [ho] at hj; cases hj
      | some o => rw [ho] at hj; cases hj; rfl)
    rw [this, ← hm.defers]
  have fin : ∀ (fuel : Nat) (listed : Array Bool) (a : Act) (w : World), MidF Fl m ops T0 ds0 w0 R listed a w → ops.size ≤ fuel + cnt listed → (∀ i, i < m → listed.getD i false = true) → wpAny P .any ops Q fuel listed a w := by
    intro fuel listed a w hm hf hall
    obtain ⟨u, hu, hus⟩ := hfill listed a w hm
    have hcm := cnt_le_of hm.tail
    refine wpAny_tail hok ht (ops.size - m) m fuel listed a w (by omega) (Nat.le_refl _) hm.size hall hm.tail (by omega) ?_
    rw [hu]
    refine hend u w hm.ext (fun j hj => ?_) (fun i j hi hj hne him hjm => ?_)
    · obtain ⟨o, ho⟩ : ∃ o, ops[j]? = some o := ⟨_, Array.getElem?_eq_getElem (by omega)⟩
      rw [hus j o ho]
      exact hm.holds j o ho (hall j hj)
    · obtain ⟨o, ho⟩ : ∃ o, ops[i]? = some o := ⟨_, Array.getElem?_eq_getElem (by omega)⟩
      obtain ⟨p, hp⟩ : ∃ p, ops[j]? = some p := ⟨_, Array.getElem?_eq_getElem (by omega)⟩
      rw [hus i o ho, hus j p hp]
      exact hm.apart i j hi hj hne o p ho hp (hall i him) (hall j hjm)
  -- nobody of the tail may come up while one of the others has not
  have hlow : ∀ (listed : Array Bool) (a : Act) (w : World), MidF Fl m ops T0 ds0 w0 R listed a w → (¬ ∀ i, i < m → i ∉ Z → listed.getD i false = true) → ∀ i ∈ Region.ready .any ops listed, i < m := by
    intro listed a w hm hn i hi
    rcases Nat.lt_or_ge i m with h | h
    · exact h
    · exfalso
      obtain ⟨h0, o, ho, hall⟩ := mem_ready.1 hi
      have hi2 : i < ops.size := (Array.getElem?_eq_some_iff.1 ho).1
      unfold tailOK at ht
      simp only [Bool.and_eq_true] at ht
      rcases Nat.lt_or_ge m i with h' | h'
      · have := List.all_eq_true.1 ht.2 i (List.mem_range.2 hi2)
        rw [ho] at this
        simp only [Bool.or_eq_true, decide_eq_true_eq] at this
        rcases this with hx | hx
        · omega
        · obtain ⟨e, he, hb⟩ := Array.any_eq_true'.1 hx
          simp only [Bool.and_eq_true, beq_iff_eq] at hb
          have h1 := hall e he hb.1
          rw [hm.tail e.on (by omega)] at h1
          cases h1
      · obtain rfl : i = m := by omega
        refine hn fun j hj hjz => ?_
        have := List.all_eq_true.1 ht.1.2 j (List.mem_range.2 hj)
        simp only [Bool.or_eq_true, decide_eq_true_eq, List.contains_iff_mem] at this
        rcases this with (hx | hx) | hx
        · omega
        · exact absurd hx hjz
        · exact deps_listed hok hD hm.toMid i o ho hall j hx
  have hfactsG : ∀ (listed : Array Bool) (a : Act) (w : World) (u : Nat → Value), MidF Fl m ops T0 ds0 w0 R listed a w → (∀ i o, ops[i]? = some o → u i = slotOf a.tmps o.dst) → ∀ i ∈ Region.ready .any ops listed, ∀ j ∈ D.getD i [], j < m → R j (u j) w := by
    intro listed a w u hm hus i hi j hj _
    obtain ⟨h0, o, ho, hall⟩ := mem_ready.1 hi
    have hl := deps_listed hok hD hm.toMid i o ho hall j hj
    have hj1 : j < ops.size := by
      rw [← hm.size]
      rcases Nat.lt_or_ge j listed.size with h | h
      · exact h
      · simp [Array.getD_eq_getD_getElem?, Array.getElem?_eq_none h] at hl
    obtain ⟨p, hp⟩ : ∃ p, ops[j]? = some p := ⟨_, Array.getElem?_eq_getElem hj1⟩
    rw [hus j p hp]
    exact hm.holds j p hp hl
  have hmidG : ∀ (listed : Array Bool) (a : Act) (w : World) (i : Nat) (o : Oper), MidF Fl m ops T0 ds0 w0 R listed a w → ops[i]? = some o → i < m → (∀ e ∈ o.after, Region.binds .any e = true → listed.getD e.on false = true) →
      ∀ (v : Value) (w' : World), Below w.heap.size w w' → R i (if o.dst = none then undef else v) w' → (Fl.getD i false = true → Anew (if o.dst = none then undef else v) w w') → MidF Fl m ops T0 ds0 w0 R (listed.setIfInBounds i true) (a.put o.dst v) w' := by
    intro listed a w i o hm ho him hall
    intro v w' hb hr hfr
    have hnin : ∀ j p, ops[j]? = some p → j ≠ i → slotOf (a.put o.dst v).tmps p.dst = slotOf a.tmps p.dst := by
      intro j p hp hne
      cases hd : o.dst with
      | none => rfl
      | some d =>
        cases hpd : p.dst with
        | none => rfl
        | some d' =>
          have hnd : d ≠ d' := fun e => by
            have := regionOK_ne hok ho hp (Ne.symm hne) hd
            rw [hpd, e] at this
            exact this rfl
          simp [slotOf, Act.put, Array.getD_eq_getD_getElem?, hnd]
    have hslot : slotOf (a.put o.dst v).tmps o.dst = (if o.dst = none then undef else v) := by
      cases hd : o.dst with
      | none => rfl
      | some d =>
        have hdn := ((regionOK_spec hok ho).2 d hd).1
        have hsz : d < a.tmps.size := by rw [hm.agree.1]; exact hdn
        simp only [slotOf, Act.put, Array.getD_eq_getD_getElem?, Array.getElem?_setIfInBounds, if_true, if_pos hsz, Option.getD_some]
        simp
    refine ⟨⟨by simp [hm.size], ?_, ?_, ?_, hm.ext.trans (hb.mono hm.ext.size), ?_, ?_⟩, ?_, ?_⟩
    · cases hd : o.dst <;> simp [Act.put, hm.defers]
    · cases hd : o.dst with
      | none => exact hm.agree
      | some d =>
        refine ⟨by simp [Act.put, hm.agree.1], fun k hk => ?_⟩
        have hdk : d ≠ k := fun e => hk (by
          subst e
          rw [List.mem_map]
          refine ⟨o, List.mem_of_getElem? (i := i) ?_, hd⟩
          rw [List.getElem?_take, if_pos him]
          simpa using ho)
        simp only [Act.put, Array.getElem?_setIfInBounds, if_neg hdk]
        exact hm.agree.2 k hk
    · intro j hj
      have := hm.tail j hj
      simp only [Array.getD_eq_getD_getElem?, Array.getElem?_setIfInBounds] at this ⊢
      rw [if_neg (by omega)]
      exact this
    · intro j p hp hl e he hb'
      have : listed.getD e.on false = true := by
        rcases getD_true_set hl with rfl | hl
        · rw [ho] at hp; cases hp
          exact hall e he hb'
        · exact hm.closed j p hp hl e he hb'
      exact getD_set_true this
    · intro j p hp hl
      by_cases e : j = i
      · subst e
        rw [ho] at hp; cases hp
        cases hd : o.dst with
        | none => rw [hd] at hr; exact hr
        | some d =>
          rw [hd] at hr
          have hdn := ((regionOK_spec hok ho).2 d hd).1
          have hsz : d < a.tmps.size := by rw [hm.agree.1]; exact hdn
          simp only [slotOf, Act.put, Array.getD_eq_getD_getElem?, Array.getElem?_setIfInBounds, if_true, if_pos hsz, Option.getD_some]
          simpa using hr
      · rw [hnin j p hp e]
        rcases getD_true_set hl with h | hl
        · exact absurd h e
        · exact hR j _ _ _ (hm.holds j p hp hl) hb
    · intro j hjF p hp hl
      by_cases e : j = i
      · subst e
        rw [ho] at hp; cases hp
        obtain ⟨g, hg, _, h2⟩ := hfr hjF
        exact ⟨g, hslot.trans hg, h2⟩
      · rw [hnin j p hp e]
        rcases getD_true_set hl with h | hl
        · exact absurd h e
        · obtain ⟨g, hg, h2⟩ := hm.known j hjF p hp hl
          exact ⟨g, hg, Nat.lt_of_lt_of_le h2 hb.size⟩
    · have key : ∀ j, Fl.getD j false = true → Fl.getD i false = true → j ≠ i → ∀ p, ops[j]? = some p → (listed.setIfInBounds i true).getD j false = true → slotOf (a.put o.dst v).tmps p.dst ≠ slotOf (a.put o.dst v).tmps o.dst := by
        intro j hjF hiF e p hp hl
        obtain ⟨g, hg, h1, _⟩ := hfr hiF
        rcases getD_true_set hl with h | hl
        · exact absurd h e
        · obtain ⟨g', hg', h2⟩ := hm.known j hjF p hp hl
          rw [hnin j p hp e, hslot, hg, hg']
          intro h
          simp at h <;> omega
      intro j k hjF hkF hne p q hp hq hl hl2
      by_cases e : j = i
      · subst e
        rw [ho] at hp; cases hp
        exact fun h => key k hkF hjF (Ne.symm hne) q hq hl2 h.symm
      · by_cases e2 : k = i
        · subst e2
          rw [ho] at hq; cases hq
          exact key j hjF hkF e p hp hl
        · rw [hnin j p hp e, hnin k q hq e2]
          rcases getD_true_set hl with h | hl
          · exact absurd h e
          · rcases getD_true_set hl2 with h | hl2
            · exact absurd h e2
            · exact hm.apart j k hjF hkF hne p q hp hq hl hl2
  intro fuel
  induction fuel with
  | zero =>
    intro listed a w hm hf
    by_cases hall : ∀ i, i < m → listed.getD i false = true
    · exact fin 0 listed a w hm hf hall
    · exfalso
      obtain ⟨i, _, hi⟩ := some_ready hok hm.size hmle hall
      obtain ⟨h0, o, ho, _⟩ := mem_ready.1 hi
      have hi2 : i < listed.size := by
        rw [hm.size]; exact (Array.getElem?_eq_some_iff.1 ho).1
      have hf0 : listed[i]? = some false := by
        rw [Array.getElem?_eq_getElem hi2]
        simp only [Array.getD_eq_getD_getElem?, Array.getElem?_eq_getElem hi2, Option.getD_some] at h0
        rw [h0]
      have h1 := cnt_set hf0
      have h2 := cnt_le (listed.setIfInBounds i true)
      simp only [Array.size_setIfInBounds] at h2
      have := hm.size
      omega
  | succ fuel ih =>
    intro listed a w hm hf
    by_cases hall : ∀ i, i < m → listed.getD i false = true
    · exact fin (fuel + 1) listed a w hm hf hall
    by_cases hnz : ∀ i, i < m → i ∉ Z → listed.getD i false = true
    · -- only stray ones are left: one of them is taken first
      obtain ⟨z, hzm, hz⟩ := some_ready hok hm.size hmle hall
      obtain ⟨h0, o, ho, hall2⟩ := mem_ready.1 hz
      have hi2 : z < listed.size := by rw [hm.size]; exact (Array.getElem?_eq_some_iff.1 ho).1
      have hf0 : listed[z]? = some false := by
        rw [Array.getElem?_eq_getElem hi2]
        simp only [Array.getD_eq_getD_getElem?, Array.getElem?_eq_getElem hi2, Option.getD_some] at h0
        rw [h0]
      have hzZ : z ∈ Z := by
        apply Classical.byContradiction
        intro h
        have := hnz z hzm h
        simp only [Array.getD_eq_getD_getElem?, hf0, Option.getD_some] at this
        cases this
      obtain ⟨u, hu, hus⟩ := hfill listed a w hm
      obtain ⟨v, hy, hr⟩ := hyl z hzZ o hzm ho u w hm.ext (hfactsG listed a w u hm hus z hz)
      rw [← hu] at hy
      unfold strayOK at hstr
      have hne : Z.isEmpty = false := by cases Z with | nil => cases hzZ | cons _ _ => rfl
      rw [hne, Bool.false_or, Bool.and_eq_true] at hstr
      have hcnt : ops.size ≤ fuel + cnt (listed.setIfInBounds z true) := by rw [cnt_set hf0]; omega
      refine wpAny_first ho (Region.noSelect_spec hstr.1) (fun c a w h => hQ (List.ne_nil_of_mem hzZ) c a _ _ w h) fuel listed a w ?_ hz hy (ih _ _ _ (hmidG listed a w z o hm ho hzm hall2 v w (Below.refl _ _) hr (fun h => by rw [hZF z hzZ] at h; cases h)) hcnt)
      intro j oj hoj hjz hun hno
      have h1 := List.all_eq_true.1 hstr.2 z hzZ
      rw [ho] at h1
      have h2 := List.all_eq_true.1 h1 j (List.mem_range.2 (Array.getElem?_eq_some_iff.1 hoj).1)
      rw [hoj] at h2
      simp only [Bool.or_eq_true, Bool.and_eq_true, beq_iff_eq, decide_eq_true_eq, Bool.not_eq_true', List.contains_eq_mem, decide_eq_false_iff_not] at h2
      rcases h2 with (h2 | ⟨h2, h3⟩) | (h2 | h2)
      · exact absurd h2 hjz
      · have h4 := hnz j h2 (by simpa using h3)
        have hj2 : j < listed.size := by rw [hm.size]; exact (Array.getElem?_eq_some_iff.1 hoj).1
        simp only [Array.getD_eq_getD_getElem?, Array.getElem?_eq_getElem hj2, Option.getD_some] at h4 hun
        rw [h4] at hun
        cases hun
      · obtain ⟨e, he, hb⟩ := Array.any_eq_true'.1 h2
        simp only [Bool.and_eq_true, beq_iff_eq] at hb
        exact absurd hb.2 (hno e he hb.1)
      · exact h2
    refine ⟨fun hr => ?_, fun i hi => ?_⟩
    · obtain ⟨i, _, hi⟩ := some_ready hok hm.size hmle hall
      rw [hr] at hi
      cases hi
    have him := hlow listed a w hm hnz i hi
    clear hall hnz
    obtain ⟨h0, o, ho, hall⟩ := mem_ready.1 hi
    have hi1 : i < ops.size := (Array.getElem?_eq_some_iff.1 ho).1
    have hi2 : i < listed.size := by rw [hm.size]; exact hi1
    have hf0 : listed[i]? = some false := by
      rw [Array.getElem?_eq_getElem hi2]
      simp only [Array.getD_eq_getD_getElem?, Array.getElem?_eq_getElem hi2, Option.getD_some] at h0
      rw [h0]
    obtain ⟨u, hu, hus⟩ := hfill listed a w hm
    have hfacts := hfactsG listed a w u hm hus i hi
    have hmid := hmidG listed a w i o hm ho him hall
    have hcnt : ops.size ≤ fuel + cnt (listed.setIfInBounds i true) := by rw [cnt_set hf0]; omega
    refine wpOp_step ho fun K hK => ?_
    have := hstep i o him ho u w hm.ext hfacts K (fun a' w' v ha hb hr hfr => by
      subst ha
      rw [← hu]
      exact hK _ _ (ih _ _ _ (hmid v w' hb hr hfr) hcnt))
    rw [← hu] at this
    have hat : fillU T0 ((ops.toList.take m).map (·.dst)) u 0 = a.tmps := by rw [hu]
    rw [hat] at this
    exact this

theorem wp_region_freeF (Fl : List Bool) {ops : Array Oper} {id : Nat} {T0 : Array Value} {ds0 : List Deferred} {w0 : World} (m : Nat) (Z : List Nat) (D : List (List Nat)) (R : Nat → Value → World → Prop) (hmix : P.follows .mixedOrders = true)
    (hok : regionOK ops T0.size = true) (hD : depsOK ops D = true) (ht : tailOK ops D m Z = true)
    (hstr : strayOK ops m Z = true) (hZF : ∀ z ∈ Z, Fl.getD z false = false) (hQ : Z ≠ [] → ∀ c a d v w, Q (.panic c) (Act.put a d v) w → Q (.panic c) a w)
    (hyl : ∀ z ∈ Z, ∀ o, z < m → ops[z]? = some o → ∀ (u : Nat → Value) (w : World), Below w0.heap.size w0 w → (∀ j ∈ D.getD z [], j < m → R j (u j) w) →
      ∃ v, Yields P ops o v ⟨fillU T0 ((ops.toList.take m).map (·.dst)) u 0, ds0⟩ ∧ R z (if o.dst = none then undef else v) w)
    (hR : ∀ i v w w', R i v w → Below w.heap.size w w' → R i v w')
    (hstep : ∀ i o, i < m → ops[i]? = some o → ∀ (u : Nat → Value) (w : World), Below w0.heap.size w0 w → (∀ j ∈ D.getD i [], j < m → R j (u j) w) →
      ∀ K : Act → World → Prop, (∀ a' w' v, a' = (⟨fillU T0 ((ops.toList.take m).map (·.dst)) u 0, ds0⟩ : Act).put o.dst v → Below w.heap.size w w' → (R i (if o.dst = none then undef else v) w') → (Fl.getD i false = true → Anew (if o.dst = none then undef else v) w w') → K a' w') →
      if Region.wanted o (yielded ops (fillU T0 ((ops.toList.take m).map (·.dst)) u 0)) then Oper.wp P o ⟨fillU T0 ((ops.toList.take m).map (·.dst)) u 0, ds0⟩ w K Q else K ((⟨fillU T0 ((ops.toList.take m).map (·.dst)) u 0, ds0⟩ : Act).put o.dst undef) w)
    (hend : ∀ (u : Nat → Value) (w : World), Below w0.heap.size w0 w → (∀ j, j < m → R j (u j) w) → (∀ i j, Fl.getD i false = true → Fl.getD j false = true → i ≠ j → i < m → j < m → u i ≠ u j) → wpList P ops Q (ops.toList.drop m) ⟨fillU T0 ((ops.toList.take m).map (·.dst)) u 0, ds0⟩ w) :
    (Code.region id ops true).wp P Q ⟨T0, ds0⟩ w0 := by
  refine wp_region_any hmix ?_
  refine wpAny_fresh Fl m Z hok hD ht hstr hZF hQ hyl hR hstep hend ops.size _ _ _ ⟨⟨by simp, rfl, ⟨rfl, fun _ _ => rfl⟩, ?_, ?_, ?_, ?_⟩, ?_, ?_⟩ (by omega)
  · intro i _
    rcases Nat.lt_or_ge i ops.size with h | h
    · simp [Array.getD_eq_getD_getElem?, h]
    · simp [Array.getD_eq_getD_getElem?, Nat.not_lt.2 h]
  · exact (Below.refl _ _).drew
  · intro i o ho hl
    rcases Nat.lt_or_ge i ops.size with h | h
    · simp [Array.getD_eq_getD_getElem?, h] at hl
    · simp [Array.getD_eq_getD_getElem?, Nat.not_lt.2 h] at hl
  · intro i o ho hl
    rcases Nat.lt_or_ge i ops.size with h | h
    · simp [Array.getD_eq_getD_getElem?, h] at hl
    · simp [Array.getD_eq_getD_getElem?, Nat.not_lt.2 h] at hl
  · intro i _ o ho hl
    rcases Nat.lt_or_ge i ops.size with h | h
    · simp [Array.getD_eq_getD_getElem?, h] at hl
    · simp [Array.getD_eq_getD_getElem?, Nat.not_lt.2 h] at hl
  · intro i j _ _ _ o p ho hp hl
    rcases Nat.lt_or_ge i ops.size with h | h
    · simp [Array.getD_eq_getD_getElem?, h] at hl
    · simp [Array.getD_eq_getD_getElem?, Nat.not_lt.2 h] at hl

/-- The step of one that makes a new block. -/
def StepNew (P : Program) (Q : Exit → Act → World → Prop) (w0 : World) (fill : (Nat → Value) → Array Value) (ops : Array Oper) (ds0 : List Deferred) (Rs : List (Value → World → Prop)) (r : Value → World → Prop) (js : List Nat) (o : Oper) : Prop :=
  ∀ (u : Nat → Value) (w : World), Below w0.heap.size w0 w → Facts Rs u w js →
    ∀ K : Act → World → Prop, (∀ a' w' v, a' = (⟨fill u, ds0⟩ : Act).put o.dst v → Below w.heap.size w w' → r (outOf o.dst v) w' → Anew (outOf o.dst v) w w' → K a' w') →
      if Region.wanted o (yielded ops (fill u)) then Oper.wp P o ⟨fill u, ds0⟩ w K Q else K ((⟨fill u, ds0⟩ : Act).put o.dst undef) w
/-- All the steps. -/
def StepsNew (P : Program) (Q : Exit → Act → World → Prop) (w0 : World) (fill : (Nat → Value) → Array Value) (ops : Array Oper) (ds0 : List Deferred) (Rs : List (Value → World → Prop)) : List Bool → List (Value → World → Prop) → List (List Nat) → List Oper → Prop
  | _, _, _, [] => True
  | true :: fs, r :: rs, js :: D, o :: l => StepNew P Q w0 fill ops ds0 Rs r js o ∧ StepsNew P Q w0 fill ops ds0 Rs fs rs D l
  | false :: fs, r :: rs, js :: D, o :: l => StepGoal P Q w0 fill ops ds0 Rs r js o ∧ StepsNew P Q w0 fill ops ds0 Rs fs rs D l
  | _, _, _, _ => False
theorem StepsNew.spec {w0 : World} {fill : (Nat → Value) → Array Value} {ops : Array Oper} {ds0 : List Deferred} {Rs : List (Value → World → Prop)} : ∀ {l : List Oper} {fs : List Bool} {rs : List (Value → World → Prop)} {D : List (List Nat)},
    StepsNew P Q w0 fill ops ds0 Rs fs rs D l → ∀ i o, l[i]? = some o → (fs.getD i false = true → StepNew P Q w0 fill ops ds0 Rs (nthR rs i) (D.getD i []) o) ∧ (fs.getD i false = false → StepGoal P Q w0 fill ops ds0 Rs (nthR rs i) (D.getD i []) o)
  | [], _, _, _, _, i, o, ho => by simp at ho
  | o' :: l, true :: fs, r :: rs, js :: D, h, 0, o, ho => by
    simp only [List.getElem?_cons_zero, Option.some.injEq] at ho
    subst ho
    exact ⟨fun _ => h.1, (fun h' => by cases h')⟩
  | o' :: l, false :: fs, r :: rs, js :: D, h, 0, o, ho => by
    simp only [List.getElem?_cons_zero, Option.some.injEq] at ho
    subst ho
    exact ⟨(fun h' => by cases h'), fun _ => h.1⟩
  | o' :: l, true :: fs, r :: rs, js :: D, h, i + 1, o, ho => StepsNew.spec (l := l) h.2 i o (by simpa using ho)
  | o' :: l, false :: fs, r :: rs, js :: D, h, i + 1, o, ho => StepsNew.spec (l := l) h.2 i o (by simpa using ho)
  | o' :: l, [], _, _, h, _, _, _ => h.elim
  | o' :: l, true :: _, [], _, h, _, _, _ => h.elim
  | o' :: l, false :: _, [], _, h, _, _, _ => h.elim
  | o' :: l, true :: _, _ :: _, [], h, _, _, _ => h.elim
  | o' :: l, false :: _, _ :: _, [], h, _, _, _ => h.elim

theorem wp_region_fresh (Fl : List Bool) {l : List Oper} {id : Nat} {T0 : Array Value} {ds0 : List Deferred} {w0 : World} (m : Nat) (Z : List Nat) (D J : List (List Nat)) (Je : List Nat) (Rs : List (Value → World → Prop)) (fill : (Nat → Value) → Array Value) (hmix : P.follows .mixedOrders = true)
    (hok : regionOK l.toArray T0.size = true) (hD : depsOK l.toArray D = true) (ht : tailOK l.toArray D m Z = true) (hJ : partsOK D J = true) (hJe : ((Je.all fun j => decide (j < m)) && J.all fun js => js.all fun j => decide (j < m)) = true)
    (hstr : strayOK l.toArray m Z = true) (hZF : (Z.all fun z => !Fl.getD z false) = true) (hQ : Z ≠ [] → ∀ c a d v w, Q (.panic c) (Act.put a d v) w → Q (.panic c) a w)
    (hfill : ∀ u, fillU T0 ((l.take m).map (·.dst)) u 0 = fill u)
    (hstep : StepsNew P Q w0 fill l.toArray ds0 Rs Fl Rs J (l.take m))
    (hyl : AllStray P w0 fill l ds0 Rs J Z)
    (hR : AllLast Rs)
    (hend : ∀ (u : Nat → Value) (w : World), Below w0.heap.size w0 w → Facts Rs u w Je → (∀ i j, Fl.getD i false = true → Fl.getD j false = true → i ≠ j → i < m → j < m → u i ≠ u j) → wpList P l.toArray Q (l.drop m) ⟨fill u, ds0⟩ w) :
    (Code.region id l.toArray true).wp P Q ⟨T0, ds0⟩ w0 := by
  simp only [Bool.and_eq_true] at hJe
  have hjm : ∀ i j, j ∈ J.getD i [] → j < m := fun i j hj => by
    rcases Nat.lt_or_ge i J.length with h | h
    · have hg : J.getD i [] ∈ J := by
        rw [List.getD_eq_getElem?_getD, List.getElem?_eq_getElem h]
        exact List.getElem_mem h
      simpa using List.all_eq_true.1 (List.all_eq_true.1 hJe.2 _ hg) j hj
    · rw [List.getD_eq_getElem?_getD, List.getElem?_eq_none h] at hj
      cases hj
  refine wp_region_freeF Fl m Z D (nthR Rs) hmix hok hD ht hstr (fun z hz => by have := List.all_eq_true.1 hZF z hz; simpa using this) hQ (fun z hz o hzm ho u w hb hd => ?_) hR.spec (fun i o him ho u w hb hd => ?_) (fun u w hb h hne => ?_)
  · have ho' : l[z]? = some o := by simpa using ho
    obtain ⟨v, hy, hr⟩ := hyl.spec z hz o ho' u w hb (facts_of fun j hj => hd j (partsOK_spec hJ z j hj) (hjm z j hj))
    refine ⟨v, ?_, by rw [outOf_eq]; exact hr⟩
    rw [← hfill u] at hy
    exact hy
  · have ho' : (l.take m)[i]? = some o := by
      rw [List.getElem?_take, if_pos him]
      simpa using ho
    simp only [outOf_eq]
    cases hf : Fl.getD i false with
    | true =>
      have := (hstep.spec i o ho').1 hf u w hb (facts_of fun j hj => hd j (partsOK_spec hJ i j hj) (hjm i j hj))
      rw [← hfill u] at this
      intro K hK
      exact this K fun a' w' v h1 h2 h3 h4 => hK a' w' v h1 h2 h3 fun _ => h4
    | false =>
      have := (hstep.spec i o ho').2 hf u w hb (facts_of fun j hj => hd j (partsOK_spec hJ i j hj) (hjm i j hj))
      rw [← hfill u] at this
      intro K hK
      exact this K fun a' w' v h1 h2 h3 => hK a' w' v h1 h2 h3 fun h => by cases h
  · have := hend u w hb (facts_of fun j hj => h j (by simpa using List.all_eq_true.1 hJe.1 j hj)) hne
    rw [← hfill u] at this
    simpa using this
end
end
end Go.Proofs.YtagblbfbjemfhaaDoor
