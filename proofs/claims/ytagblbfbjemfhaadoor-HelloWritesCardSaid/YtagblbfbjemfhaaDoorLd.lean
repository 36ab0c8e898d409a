/-
  Joined: Free, Tail, TailMove, Fresh.
-/
import Derived.Test.YtagblbfbjemfhaaDoorProg
import Derived.Deep.MidRow
import Derived.Maps.AppendAt
import Derived.Deep.AppendLies
import Derived.Laws.CopyRow
import Derived.Deep.RegionHeld3
import Derived.Below
import Derived.StillTail
import Derived.Deep.Quiet
import Derived.RegionTactic
import Derived.Test.YtagblbfbjemfhaaDoorLa
import Derived.Test.YtagblbfbjemfhaaDoorLb
import Derived.Test.YtagblbfbjemfhaaDoorLc
namespace Go.Proofs.YtagblbfbjemfhaaDoor
section
open Go.RowKit
section
variable {P : Program} {Q : Exit → Act → World → Prop}
/-- What a slot holds. -/
def slotOf (tm : Array Value) : Option Tmp → Value
  | some d => tm.getD d undef
  | none => undef
/-- Slots filled one by one. -/
def fillU (T : Array Value) : List (Option Tmp) → (Nat → Value) → Nat → Array Value
  | [], _, _ => T
  | some d :: ds, u, k => fillU (T.setIfInBounds d (u k)) ds u (k + 1)
  | none :: ds, u, k => fillU T ds u (k + 1)
/-- Apart from some slots two rows are alike. -/
def AgreeBut (T : Array Value) (ds : List (Option Tmp)) (tm : Array Value) : Prop := tm.size = T.size ∧ ∀ k, some k ∉ ds → tm[k]? = T[k]?

theorem fillU_eq : ∀ (ds : List (Option Tmp)) (T tm : Array Value) (u : Nat → Value) (k : Nat), AgreeBut T ds tm → (∀ j d, ds[j]? = some d → u (k + j) = slotOf tm d) → fillU T ds u k = tm
  | [], T, tm, u, k, h, _ => by
    unfold fillU
    exact (Array.ext_getElem? fun i => h.2 i (by simp)).symm
  | some d :: ds, T, tm, u, k, h, hu => by
    unfold fillU
    refine fillU_eq ds _ tm u (k + 1) ⟨by simpa using h.1, fun x hx => ?_⟩ (fun j e he => by rw [show k + 1 + j = k + (j + 1) by omega]; exact hu (j + 1) e (by simpa using he))
    have h0 := hu 0 (some d) rfl
    rw [Nat.add_zero] at h0
    rw [h0, Array.getElem?_setIfInBounds]
    by_cases e : d = x
    · subst e
      rw [if_pos rfl, ← h.1]
      by_cases hd : d < tm.size
      · rw [if_pos hd]; simp [slotOf, hd]
      · rw [if_neg hd]; exact Array.getElem?_eq_none (Nat.le_of_not_lt hd)
    · rw [if_neg e]
      exact h.2 x (by simp only [List.mem_cons, not_or]; exact ⟨fun h => e (Option.some.inj h).symm, hx⟩)
  | none :: ds, T, tm, u, k, h, hu => by
    unfold fillU
    refine fillU_eq ds T tm u (k + 1) ⟨h.1, fun x hx => h.2 x ?_⟩ (fun j e he => by rw [show k + 1 + j = k + (j + 1) by omega]; exact hu (j + 1) e (by simpa using he))
    simp only [List.mem_cons, not_or]
    exact ⟨fun h => (by cases h), hx⟩

/-- Whom an operation waits for, through others. -/
def depsOK (ops : Array Oper) (D : List (List Nat)) : Bool :=
  (List.range ops.size).all fun i => match ops[i]? with
    | none => false
    | some o => (D.getD i []).all fun j => o.after.any fun e => Region.binds .any e && (e.on == j || (D.getD e.on []).contains j)
/-- Nobody waits for a later one; no two write one slot; all slots are there. -/
def regionOK (ops : Array Oper) (n : Nat) : Bool :=
  ((List.range ops.size).all fun i => match ops[i]? with
    | none => false
    | some o => (o.after.all fun e => !Region.binds .any e || decide (e.on < i)) && (match o.dst with | none => true | some d => decide (d < n) && (List.range i).all fun j => match ops[j]? with | none => true | some p => p.dst != some d))

theorem regionOK_spec {ops : Array Oper} {n : Nat} (h : regionOK ops n = true) {i : Nat} {o : Oper} (ho : ops[i]? = some o) :
    (∀ e ∈ o.after, Region.binds .any e = true → e.on < i) ∧ (∀ d, o.dst = some d → d < n ∧ ∀ j p, j < i → ops[j]? = some p → p.dst ≠ some d) := by
  have hi : i < ops.size := (Array.getElem?_eq_some_iff.1 ho).1
  have h1 := List.all_eq_true.1 h i (List.mem_range.2 hi)
  rw [ho] at h1
  simp only [Bool.and_eq_true] at h1
  refine ⟨fun e he hb => ?_, fun d hd => ?_⟩
  · have := Array.all_eq_true'.1 h1.1 e he
    rw [hb] at this
    simpa using this
  · have h2 := h1.2
    rw [hd] at h2
    simp only [Bool.and_eq_true, decide_eq_true_eq] at h2
    refine ⟨h2.1, fun j p hj hp => ?_⟩
    have := List.all_eq_true.1 h2.2 j (List.mem_range.2 hj)
    rw [hp] at this
    simpa using this

theorem regionOK_ne {ops : Array Oper} {n : Nat} (h : regionOK ops n = true) {i j : Nat} {o p : Oper} (ho : ops[i]? = some o) (hp : ops[j]? = some p) (hne : i ≠ j) {d : Tmp} (hd : o.dst = some d) : p.dst ≠ some d := by
  rcases Nat.lt_or_gt_of_ne hne with h' | h'
  · exact fun e => (((regionOK_spec h hp).2 d e).2 i o h' ho) hd
  · exact ((regionOK_spec h ho).2 d hd).2 j p h' hp

/-- The state of a region on its way. -/
structure Mid (m : Nat) (ops : Array Oper) (T0 : Array Value) (ds0 : List Deferred) (w0 : World) (R : Nat → Value → World → Prop) (listed : Array Bool) (a : Act) (w : World) : Prop where
  size : listed.size = ops.size
  defers : a.defers = ds0
  agree : AgreeBut T0 ((ops.toList.take m).map (·.dst)) a.tmps
  tail : ∀ i, m ≤ i → listed.getD i false = false
  ext : Below w0.heap.size w0 w
  closed : ∀ i o, ops[i]? = some o → listed.getD i false = true → ∀ e ∈ o.after, Region.binds .any e = true → listed.getD e.on false = true
  holds : ∀ i o, ops[i]? = some o → listed.getD i false = true → R i (slotOf a.tmps o.dst) w

theorem getD_true_set {l : Array Bool} {i j : Nat} (h : (l.setIfInBounds i true).getD j false = true) : j = i ∨ l.getD j false = true := by
  by_cases e : j = i
  · exact .inl e
  · right
    simp only [Array.getD_eq_getD_getElem?, Array.getElem?_setIfInBounds] at h ⊢
    rwa [if_neg (fun x => e x.symm)] at h

theorem deps_listed {ops : Array Oper} {D : List (List Nat)} {n m : Nat} (hok : regionOK ops n = true) (hD : depsOK ops D = true) {T0 : Array Value} {ds0 : List Deferred} {w0 : World} {R : Nat → Value → World → Prop} {listed : Array Bool} {a : Act} {w : World} (hm : Mid m ops T0 ds0 w0 R listed a w) :
    ∀ (i : Nat) (o : Oper), ops[i]? = some o → (∀ e ∈ o.after, Region.binds .any e = true → listed.getD e.on false = true) → ∀ j ∈ D.getD i [], listed.getD j false = true := by
  intro i
  induction i using Nat.strongRecOn with
  | ind i ih =>
    intro o ho hall j hj
    have hi : i < ops.size := (Array.getElem?_eq_some_iff.1 ho).1
    have h1 := List.all_eq_true.1 hD i (List.mem_range.2 hi)
    rw [ho] at h1
    have h2 := List.all_eq_true.1 h1 j hj
    obtain ⟨e, he, hb⟩ := Array.any_eq_true'.1 h2
    simp only [Bool.and_eq_true, Bool.or_eq_true, beq_iff_eq, List.contains_iff_mem] at hb
    have hl := hall e he hb.1
    rcases hb.2 with rfl | hb2
    · exact hl
    · have hlt := (regionOK_spec hok ho).1 e he hb.1
      have hsz : e.on < ops.size := by omega
      obtain ⟨p, hp⟩ : ∃ p, ops[e.on]? = some p := ⟨_, Array.getElem?_eq_getElem hsz⟩
      exact ih e.on hlt p hp (hm.closed e.on p hp hl) j hb2

theorem first_ready {ops : Array Oper} {n : Nat} (hok : regionOK ops n = true) {listed : Array Bool} (hs : listed.size = ops.size) {i : Nat} (hi : i < ops.size) (hl : listed.getD i false = false) (hb : ∀ j, j < i → listed.getD j false = true) : i ∈ Region.ready .any ops listed := by
  obtain ⟨o, ho⟩ : ∃ o, ops[i]? = some o := ⟨_, Array.getElem?_eq_getElem hi⟩
  rw [mem_ready]
  refine ⟨?_, o, ho, fun e he hbd => hb e.on ((regionOK_spec hok ho).1 e he hbd)⟩
  simp only [Array.getD_eq_getD_getElem?, Array.getElem?_eq_getElem (show i < listed.size by omega)] at hl ⊢
  exact hl
/-- Some of the first ones have not come up: the least of them may. -/
theorem some_ready {ops : Array Oper} {n m : Nat} (hok : regionOK ops n = true) {listed : Array Bool} (hs : listed.size = ops.size) (hm : m ≤ ops.size) (hn : ¬ ∀ i, i < m → listed.getD i false = true) : ∃ i, i < m ∧ i ∈ Region.ready .any ops listed := by
  have : ∀ k, k ≤ m → (∀ j, j < k → listed.getD j false = true) ∨ ∃ i, i < k ∧ i ∈ Region.ready .any ops listed := by
    intro k
    induction k with
    | zero => intro _; left; intro j hj; omega
    | succ k ih =>
      intro hk
      rcases ih (by omega) with h | ⟨i, hi, hr⟩
      · cases hl : listed.getD k false with
        | true =>
          left
          intro j hj
          rcases Nat.lt_or_ge j k with h' | h'
          · exact h j h'
          · obtain rfl : j = k := by omega
            exact hl
        | false => exact .inr ⟨k, by omega, first_ready hok hs (by omega) hl h⟩
      · exact .inr ⟨i, by omega, hr⟩
  rcases this m (Nat.le_refl _) with h | h
  · exact absurd h hn
  · exact h

/-- How many have come up. -/
def cnt (l : Array Bool) : Nat := (l.toList.filter (· = true)).length
theorem filter_set_true : ∀ (l : List Bool) (i : Nat), l[i]? = some false → ((l.set i true).filter (· = true)).length = (l.filter (· = true)).length + 1
  | [], i, h => by simp at h
  | b :: l, 0, h => by
    simp only [List.getElem?_cons_zero, Option.some.injEq] at h
    subst h
    simp
  | b :: l, i + 1, h => by
    simp only [List.getElem?_cons_succ] at h
    have := filter_set_true l i h
    cases b <;> simp [List.set] at * <;> omega
theorem cnt_set {l : Array Bool} {i : Nat} (h : l[i]? = some false) : cnt (l.setIfInBounds i true) = cnt l + 1 := by
  unfold cnt
  rw [Array.toList_setIfInBounds]
  exact filter_set_true l.toList i (by simpa using h)
theorem cnt_le (l : Array Bool) : cnt l ≤ l.size := by
  unfold cnt
  exact Nat.le_trans (List.length_filter_le _ _) (by simp)

theorem filter_none : ∀ (l : List Bool) (m : Nat), (∀ i, m ≤ i → l.getD i false = false) → (l.filter (· = true)).length ≤ m
  | [], m, _ => by simp
  | b :: l, 0, h => by
    have h0 := h 0 (Nat.le_refl _)
    simp only [List.getD_cons_zero] at h0
    subst h0
    have := filter_none l 0 (fun i _ => by have := h (i + 1) (Nat.zero_le _); simpa using this)
    simpa using this
  | b :: l, m + 1, h => by
    have := filter_none l m (fun i hi => by have := h (i + 1) (by omega); simpa using this)
    cases b
    · rw [List.filter_cons_of_neg (by decide)]; omega
    · rw [List.filter_cons_of_pos (by decide), List.length_cons]; omega
theorem cnt_le_of {l : Array Bool} {m : Nat} (h : ∀ i, m ≤ i → l.getD i false = false) : cnt l ≤ m := by
  unfold cnt
  exact filter_none l.toList m (fun i hi => by have := h i hi; simpa [Array.getD_eq_getD_getElem?, List.getD_eq_getElem?_getD] using this)

/-- The last ones come one behind the other, behind all others. -/
def tailOK (ops : Array Oper) (D : List (List Nat)) (m : Nat) (Z : List Nat) : Bool :=
  decide (m ≤ ops.size) && ((List.range m).all fun j => decide (ops.size ≤ m) || Z.contains j || (D.getD m []).contains j) &&
  ((List.range ops.size).all fun i => decide (i ≤ m) || match ops[i]? with | none => false | some o => o.after.any fun e => Region.binds .any e && e.on == i - 1)

/-- Who may come behind the tail's beginning: worldless ones that nobody minds. -/
def strayOK (ops : Array Oper) (m : Nat) (Z : List Nat) : Bool :=
  Z.isEmpty || (Region.noSelect ops && Z.all fun z => match ops[z]? with
    | none => false
    | some oz => (List.range ops.size).all fun j => j == z || (decide (j < m) && !Z.contains j) || match ops[j]? with
      | none => true
      | some oj => (oj.after.any fun e => Region.binds .any e && e.on == z) || oz.apart ops oj)

theorem wpAny_tail {ops : Array Oper} {n m : Nat} {D : List (List Nat)} {Z : List Nat} (hok : regionOK ops n = true) (ht : tailOK ops D m Z = true) :
    ∀ (d k fuel : Nat) (listed : Array Bool) (a : Act) (w : World), k + d = ops.size → m ≤ k → listed.size = ops.size → (∀ i, i < k → listed.getD i false = true) → (∀ i, k ≤ i → listed.getD i false = false) → d ≤ fuel →
      wpList P ops Q (ops.toList.drop k) a w → wpAny P .any ops Q fuel listed a w := by
  have hchain : ∀ i o, m < i → ops[i]? = some o → ∃ e ∈ o.after, Region.binds .any e = true ∧ e.on = i - 1 := by
    intro i o hi ho
    have hi2 : i < ops.size := (Array.getElem?_eq_some_iff.1 ho).1
    unfold tailOK at ht
    simp only [Bool.and_eq_true] at ht
    have := List.all_eq_true.1 ht.2 i (List.mem_range.2 hi2)
    rw [ho] at this
    simp only [Bool.or_eq_true, decide_eq_true_eq] at this
    rcases this with h | h
    · omega
    · obtain ⟨e, he, hb⟩ := Array.any_eq_true'.1 h
      simp only [Bool.and_eq_true, beq_iff_eq] at hb
      exact ⟨e, he, hb.1, hb.2⟩
  intro d
  induction d with
  | zero =>
    intro k fuel listed a w hk _ hs hl _ _ h
    have hr : Region.ready .any ops listed = [] := by
      rw [List.eq_nil_iff_forall_not_mem]
      intro i hi
      obtain ⟨h0, o, ho, _⟩ := mem_ready.1 hi
      have hi2 : i < ops.size := (Array.getElem?_eq_some_iff.1 ho).1
      have := hl i (by omega)
      simp only [Array.getD_eq_getD_getElem?, Array.getElem?_eq_getElem (show i < listed.size by omega), Option.getD_some] at h0 this
      rw [h0] at this
      cases this
    have hd : ops.toList.drop k = [] := List.drop_eq_nil_of_le (by simp; omega)
    rw [hd] at h
    cases fuel with
    | zero => exact ⟨hr, h⟩
    | succ f => exact ⟨fun _ => h, by rw [hr]; simp⟩
  | succ d ih =>
    intro k fuel listed a w hk hmk hs hl hu hf h
    have hk2 : k < ops.size := by omega
    obtain ⟨o, ho⟩ : ∃ o, ops[k]? = some o := ⟨_, Array.getElem?_eq_getElem hk2⟩
    obtain ⟨f, rfl⟩ : ∃ f, fuel = f + 1 := ⟨fuel - 1, by omega⟩
    have hkr := first_ready hok hs hk2 (hu k (Nat.le_refl _)) hl
    refine ⟨fun hr => (by rw [hr] at hkr; cases hkr), fun i hi => ?_⟩
    obtain rfl : i = k := by
      obtain ⟨h0, p, hp, hall⟩ := mem_ready.1 hi
      have hi2 : i < listed.size := by rw [hs]; exact (Array.getElem?_eq_some_iff.1 hp).1
      rcases Nat.lt_trichotomy i k with h' | h' | h'
      · have := hl i h'
        simp only [Array.getD_eq_getD_getElem?, Array.getElem?_eq_getElem hi2, Option.getD_some] at h0 this
        rw [h0] at this
        cases this
      · exact h'
      · obtain ⟨e, he, hb, heo⟩ := hchain i p (by omega) hp
        have h1 := hall e he hb
        rw [hu e.on (by omega)] at h1
        cases h1
    have hdr : ops.toList.drop i = o :: ops.toList.drop (i + 1) := by
      rw [List.drop_eq_getElem_cons (by simpa using hk2)]
      congr 1
      have := (Array.getElem?_eq_some_iff.1 ho).2
      simpa using this
    rw [hdr] at h
    have hnext : ∀ a' w', wpList P ops Q (ops.toList.drop (i + 1)) a' w' → wpAny P .any ops Q f (listed.setIfInBounds i true) a' w' := fun a' w' h' =>
      ih (i + 1) f _ a' w' (by omega) (by omega) (by simp [hs]) (fun j hj => by
        rcases Nat.lt_or_ge j i with h' | h'
        · exact getD_set_true (hl j h')
        · obtain rfl : j = i := by omega
          simp [Array.getD_eq_getD_getElem?, hs, hk2]) (fun j hj => by
        have := hu j (by omega)
        simp only [Array.getD_eq_getD_getElem?, Array.getElem?_setIfInBounds] at this ⊢
        rw [if_neg (by omega)]
        exact this) (by omega) h'
    unfold wpOp
    simp only [ho]
    unfold wpList at h
    split
    · rename_i hw
      rw [if_pos hw] at h
      exact h.imp (Oper.wp_mono hnext) id
    · rename_i hw
      rw [if_neg hw] at h
      exact hnext _ _ h

/-- A row of relations, by number. -/
def nthR : List (Value → World → Prop) → Nat → Value → World → Prop
  | [], _ => fun _ _ => True
  | r :: _, 0 => r
  | _ :: rs, k + 1 => nthR rs k
/-- What an operation leaves in its slot. -/
def outOf : Option Tmp → Value → Value
  | some _, v => v
  | none, _ => undef
theorem outOf_eq (d : Option Tmp) (v : Value) : (if d = none then undef else v) = outOf d v := by cases d <;> simp [outOf]
/-- The value is this one. -/
def Is (x : Value) : Value → World → Prop := fun v _ => v = x
theorem IsOut {d : Tmp} {x : Value} {w : World} : Is x (outOf (some d) x) w := rfl
/-- It still holds where nothing that was there has turned. -/
def Lasts (r : Value → World → Prop) : Prop := ∀ v w w', r v w → Below w.heap.size w w' → r v w'
def AllLast : List (Value → World → Prop) → Prop
  | [] => True
  | r :: rs => Lasts r ∧ AllLast rs
/-- What is known of those on which an operation waits. -/
def Facts (Rs : List (Value → World → Prop)) (u : Nat → Value) (w : World) : List Nat → Prop
  | [] => True
  | j :: js => nthR Rs j (u j) w ∧ Facts Rs u w js
theorem facts_of {Rs : List (Value → World → Prop)} {u : Nat → Value} {w : World} : ∀ {js : List Nat}, (∀ j ∈ js, nthR Rs j (u j) w) → Facts Rs u w js
  | [], _ => trivial
  | j :: _, h => ⟨h j (List.mem_cons_self ..), facts_of fun i hi => h i (List.mem_cons_of_mem _ hi)⟩
/-- One operation's step. -/
def StepGoal (P : Program) (Q : Exit → Act → World → Prop) (w0 : World) (fill : (Nat → Value) → Array Value) (ops : Array Oper) (ds0 : List Deferred) (Rs : List (Value → World → Prop)) (r : Value → World → Prop) (js : List Nat) (o : Oper) : Prop :=
  ∀ (u : Nat → Value) (w : World), Below w0.heap.size w0 w → Facts Rs u w js →
    ∀ K : Act → World → Prop, (∀ a' w' v, a' = (⟨fill u, ds0⟩ : Act).put o.dst v → Below w.heap.size w w' → r (outOf o.dst v) w' → K a' w') →
      if Region.wanted o (yielded ops (fill u)) then Oper.wp P o ⟨fill u, ds0⟩ w K Q else K ((⟨fill u, ds0⟩ : Act).put o.dst undef) w
/-- All the steps. -/
def StepsFrom (P : Program) (Q : Exit → Act → World → Prop) (w0 : World) (fill : (Nat → Value) → Array Value) (ops : Array Oper) (ds0 : List Deferred) (Rs : List (Value → World → Prop)) : List (Value → World → Prop) → List (List Nat) → List Oper → Prop
  | _, _, [] => True
  | r :: rs, js :: D, o :: l => StepGoal P Q w0 fill ops ds0 Rs r js o ∧ StepsFrom P Q w0 fill ops ds0 Rs rs D l
  | _, _, _ => False
/-- What is asked of the others is part of what waits. -/
def partsOK : List (List Nat) → List (List Nat) → Bool
  | _, [] => true
  | d :: D, j :: J => (j.all fun x => d.contains x) && partsOK D J
  | [], j :: J => j.isEmpty && partsOK [] J
theorem partsOK_spec : ∀ {D J : List (List Nat)}, partsOK D J = true → ∀ i, ∀ j ∈ J.getD i [], j ∈ D.getD i []
  | _, [], _, i, j, hj => by simp at hj
  | d :: D, x :: J, h, 0, j, hj => by
    simp only [partsOK, Bool.and_eq_true] at h
    have := List.all_eq_true.1 h.1 j (by simpa using hj)
    simpa using this
  | d :: D, x :: J, h, i + 1, j, hj => by
    simp only [partsOK, Bool.and_eq_true] at h
    have := partsOK_spec h.2 i j (by simpa using hj)
    simpa using this
  | [], x :: J, h, 0, j, hj => by
    simp only [partsOK, Bool.and_eq_true] at h
    have : x = [] := by simpa using h.1
    rw [this] at hj
    simp at hj
  | [], x :: J, h, i + 1, j, hj => by
    simp only [partsOK, Bool.and_eq_true] at h
    have := partsOK_spec h.2 i j (by simpa using hj)
    simp at this

/-- A stray one's step. -/
def StrayGoal (P : Program) (w0 : World) (fill : (Nat → Value) → Array Value) (ops : Array Oper) (ds0 : List Deferred) (Rs : List (Value → World → Prop)) (r : Value → World → Prop) (js : List Nat) (o : Oper) : Prop :=
  ∀ (u : Nat → Value) (w : World), Below w0.heap.size w0 w → Facts Rs u w js → ∃ v, Yields P ops o v ⟨fill u, ds0⟩ ∧ r (outOf o.dst v) w
def AllStray (P : Program) (w0 : World) (fill : (Nat → Value) → Array Value) (l : List Oper) (ds0 : List Deferred) (Rs : List (Value → World → Prop)) (J : List (List Nat)) : List Nat → Prop
  | [] => True
  | z :: Z => (∀ o, l[z]? = some o → StrayGoal P w0 fill l.toArray ds0 Rs (nthR Rs z) (J.getD z []) o) ∧ AllStray P w0 fill l ds0 Rs J Z
end
end
section
section
variable {P : Program} {ops : Array Oper} {md : Region.Mode} {C : World → Prop} {n : Nat}
/-- Whatever order the first n operations come in, L holds behind them. -/
def HeadQ (P : Program) (md : Region.Mode) (ops : Array Oper) (C : World → Prop) (n : Nat) (L : Array Bool → Act → Prop) : Nat → Array Bool → Act → Prop
  | 0, listed, a => L listed a
  | f + 1, listed, a => Region.ready md ops listed ≠ [] ∧ ∀ i ∈ Region.ready md ops listed, i < n ∧ qOp P ops C i (HeadQ P md ops C n L f (listed.setIfInBounds i true)) a

end
end
section
/-- From operation m on, each of the first n is waited for by a later one, n at the most. -/
def sinkFrom (md : Region.Mode) (ops : Array Oper) (m n : Nat) : Bool :=
  (List.range n).all fun i => decide (i < m) || (List.range (n + 1)).any fun j => decide (i < j) && Region.waitsFor md ops j i

section
variable {P : Program} {ops : Array Oper} {md : Region.Mode} {C : World → Prop} {m n : Nat}
end
/-- What is asked of the operations' waiting. -/
def moveTailB (ops : Array Oper) (n : Nat) : Bool :=
  Region.noSelect ops && decide (0 < n) && decide (n < ops.size) && sinkFrom .any ops 1 n && Region.chainB .any ops n && Region.free .any ops (Array.replicate ops.size false) 0 && (Region.ready .any ops (Array.replicate ops.size false)).contains 0
    && Region.lexHead .any ops (ops.size - n) (n - 1) 1 ((Array.replicate ops.size false).setIfInBounds 0 true)

end
section
open Go.RowKit
section
variable {P : Program} {Q : Exit → Act → World → Prop}
/-- As Mid; and what was made anew is known, and apart. -/
structure MidF (Fl : List Bool) (m : Nat) (ops : Array Oper) (T0 : Array Value) (ds0 : List Deferred) (w0 : World) (R : Nat → Value → World → Prop) (listed : Array Bool) (a : Act) (w : World) : Prop extends Mid m ops T0 ds0 w0 R listed a w where
  known : ∀ i, Fl.getD i false = true → ∀ o, ops[i]? = some o → listed.getD i false = true → ∃ g, slotOf a.tmps o.dst = .pointer (some ⟨g, 0, none⟩) ∧ g < w.heap.size
  apart : ∀ i j, Fl.getD i false = true → Fl.getD j false = true → i ≠ j → ∀ o p, ops[i]? = some o → ops[j]? = some p → listed.getD i false = true → listed.getD j false = true → slotOf a.tmps o.dst ≠ slotOf a.tmps p.dst
/-- A value is a place made between two worlds. -/
def Anew (v : Value) (w w' : World) : Prop := ∃ g, v = .pointer (some ⟨g, 0, none⟩) ∧ w.heap.size ≤ g ∧ g < w'.heap.size

/-- The step of one that makes a new block. -/
def StepNew (P : Program) (Q : Exit → Act → World → Prop) (w0 : World) (fill : (Nat → Value) → Array Value) (ops : Array Oper) (ds0 : List Deferred) (Rs : List (Value → World → Prop)) (r : Value → World → Prop) (js : List Nat) (o : Oper) : Prop :=
  ∀ (u : Nat → Value) (w : World), Below w0.heap.size w0 w → Facts Rs u w js →
    ∀ K : Act → World → Prop, (∀ a' w' v, a' = (⟨fill u, ds0⟩ : Act).put o.dst v → Below w.heap.size w w' → r (outOf o.dst v) w' → Anew (outOf o.dst v) w w' → K a' w') →
      if Region.wanted o (yielded ops (fill u)) then Oper.wp P o ⟨fill u, ds0⟩ w K Q else K ((⟨fill u, ds0⟩ : Act).put o.dst undef) w
/-- All the steps. -/
def StepsNew (P : Program) (Q : Exit → Act → World → Prop) (w0 : World) (fill : (Nat → Value) → Array Value) (ops : Array Oper) (ds0 : List Deferred) (Rs : List (Value → World → Prop)) : List Bool → List (Value → World → Prop) → List (List Nat) → List Oper → Prop
  | _, _, _, [] => True
  | true :: fs, r :: rs, js :: D, o :: l => StepNew P Q w0 fill ops ds0 Rs r js o ∧ StepsNew P Q w0 fill ops ds0 Rs fs rs D l
  | false :: fs, r :: rs, js :: D, o :: l => StepGoal P Q w0 fill ops ds0 Rs r js o ∧ StepsNew P Q w0 fill ops ds0 Rs fs rs D l
  | _, _, _, _ => False
end
end
end Go.Proofs.YtagblbfbjemfhaaDoor
