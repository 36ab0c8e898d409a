/-
  No program: a region as in Tail, whose first operation is a mere move that nothing but the last operations wait for.
-/
import Derived.Test.YtefbjhdcmgonbaaTail
import Derived.RegionTactic
import Derived.Deep.RegionHeld3
namespace Go.Proofs.Ytefbjhdcmgonbaa

/-- From operation m on, each of the first n is waited for by a later one, n at the most. -/
def sinkFrom (md : Region.Mode) (ops : Array Oper) (m n : Nat) : Bool :=
  (List.range n).all fun i => decide (i < m) || (List.range (n + 1)).any fun j => decide (i < j) && Region.waitsFor md ops j i

section
variable {P : Program} {ops : Array Oper} {md : Region.Mode} {C : World → Prop} {m n : Nat}

theorem unlisted_waits {listed : Array Bool} (hs : sinkFrom md ops m n = true) (hc : Region.chainB md ops n = true) (hn : n < ops.size) (inv : HeadInv md ops n listed) (t : Nat) (ht : n ≤ t) (hr : t ∈ Region.ready md ops listed) :
    ∀ (d i : Nat), d = n - i → m ≤ i → i < n → listed.getD i true = true := by
  obtain ⟨_, ot, hot, hall⟩ := mem_ready.1 hr
  have htn : t = n := by
    have hlt : t < ops.size := (Array.getElem?_eq_some_iff.1 hot).1
    have h1 := List.all_eq_true.1 hc t (List.mem_range.2 hlt)
    simp only [Bool.or_eq_true, decide_eq_true_eq] at h1
    rcases h1 with h1 | h1
    · omega
    · obtain ⟨o', ho', e, he, hb, hon⟩ := Region.waitsFor_spec h1
      obtain rfl : o' = ot := Option.some.inj (ho'.symm.trans hot)
      have h2 := hall e he hb
      rw [hon] at h2
      by_cases h3 : t = n
      · exact h3
      · rw [getD_both (inv.tail (t - 1) (by omega) (by omega))] at h2
        exact Bool.noConfusion h2
  intro d
  induction d using Nat.strongRecOn with
  | _ d ih =>
    intro i hd hm hi
    cases hl : listed.getD i true with
    | true => rfl
    | false =>
      have h1 := List.all_eq_true.1 hs i (List.mem_range.2 hi)
      simp only [Bool.or_eq_true, decide_eq_true_eq] at h1
      rcases h1 with h1 | h1
      · omega
      · obtain ⟨j, hj, hj2⟩ := List.any_eq_true.1 h1
        simp only [Bool.and_eq_true, decide_eq_true_eq] at hj2
        have hjn : j ≤ n := by have := List.mem_range.1 hj; omega
        obtain ⟨oj, hoj, e, he, hb, hon⟩ := Region.waitsFor_spec hj2.2
        have hli : listed.getD i false = true := by
          rcases Nat.lt_or_ge j n with hlt | hge
          · have h3 := ih (n - j) (by omega) j rfl (by omega) hlt
            have h4 : listed.getD j false = true := by
              rcases Bool.eq_false_or_eq_true (listed.getD j false) with h5 | h5
              · exact h5
              · have := getD_in (by rw [inv.size]; omega) h5
                rw [h3] at this; exact Bool.noConfusion this
            rw [← hon]; exact inv.closed j oj hoj h4 e he hb
          · obtain rfl : j = t := by omega
            obtain rfl : oj = ot := Option.some.inj (hoj.symm.trans hot)
            rw [← hon]; exact hall e he hb
        rw [getD_both hl] at hli
        exact Bool.noConfusion hli

theorem HeadQ.take_from {i : Nat} {oi : Oper} {v : Value} {L : Array Bool → Act → Prop} (hi : ops[i]? = some oi) (hsel : ∀ (j : Nat) (o : Oper) cs b, ops[j]? = some o → o.op ≠ .select cs b)
    (hs : sinkFrom md ops m n = true) (hc : Region.chainB md ops n = true) (hn : n < ops.size) (him : m ≤ i) (hin : i < n) (hL : ∀ listed a, L listed a → ∀ j ∈ Region.ready md ops listed, n ≤ j) (f : Nat) :
    ∀ (listed : Array Bool) (a : Act), HeadInv md ops n listed →
      (∀ j oj, ops[j]? = some oj → j ≠ i → listed.getD j true = false → (∀ e ∈ oj.after, Region.binds md e = true → e.on ≠ i) → oi.apart ops oj = true) →
      i ∈ Region.ready md ops listed → YieldsIn P ops C oi v a → HeadQ P md ops C n L f (listed.setIfInBounds i true) (a.put oi.dst v) → HeadQ P md ops C n L (f + 1) listed a := by
  have low : ∀ listed, HeadInv md ops n listed → i ∈ Region.ready md ops listed → ∀ j ∈ Region.ready md ops listed, j < n := fun listed inv hr j hj => by
    by_cases hjn : j < n
    · exact hjn
    · have := unlisted_waits hs hc hn inv j (Nat.le_of_not_lt hjn) hj _ i rfl him hin
      rw [(mem_ready.1 hr).1] at this
      exact Bool.noConfusion this
  induction f with
  | zero =>
    intro listed a inv _ hr hy H
    refine ⟨List.ne_nil_of_mem hr, fun j hj => ⟨low listed inv hr j hj, ?_⟩⟩
    rcases Nat.decEq j i with hji | rfl
    · exact absurd (low listed inv hr j hj) (Nat.not_lt.2 (hL _ _ H j (ready_mono hj hji)))
    · exact hy.qOp hi H
  | succ f ih =>
    intro listed a inv hfree hr hy H
    refine ⟨List.ne_nil_of_mem hr, fun j hj => ⟨low listed inv hr j hj, ?_⟩⟩
    rcases Nat.decEq j i with hji | rfl
    · obtain ⟨hun, oj, hoj, hall⟩ := mem_ready.1 hj
      have hno : ∀ e ∈ oj.after, Region.binds md e = true → e.on ≠ i := fun e he hb heq => by
        have h1 := hall e he hb
        rw [heq, getD_both (mem_ready.1 hr).1] at h1
        exact Bool.noConfusion h1
      have step := qOp_put hoj (hfree j oj hoj hji hun hno) (fun cs b => hsel i oi cs b hi) (fun cs b => hsel j oj cs b hoj) hy (H.2 j (ready_mono hj hji)).2
      refine qOp_mono (fun a' h => ih _ a' (inv.set hj (low listed inv hr j hj)) (fun k ok hk hki hl he => hfree k ok hk hki ?_ he) (ready_mono hr (Ne.symm hji)) h.1 ?_) step
      · rcases Nat.decEq j k with hjk | rfl
        · rwa [getD_set_ne true hjk] at hl
        · exact hun
      · rw [Array.setIfInBounds_comm _ _ hji]; exact h.2
    · exact hy.qOp hi H

theorem HeadQ.walk_from {g : Nat} {q : Act → Prop} (hsel : Region.noSelect ops = true) (hs : sinkFrom md ops m n = true) (hc : Region.chainB md ops n = true) (hn : n < ops.size) (l : List Oper) :
    ∀ (k : Nat) (listed : Array Bool) (a : Act), m ≤ k → (∀ j, j < l.length → l[j]? = ops[k + j]?) → k + l.length = n → HeadInv md ops n listed → Region.lexHead md ops g l.length k listed = true → wpQuiet P ops C q l a →
      HeadQ P md ops C n (fun listed' a' => Region.seqB md ops g n listed' = true ∧ q a') l.length listed a := by
  induction l with
  | nil =>
    intro k listed a _ _ hk _ hB h
    obtain rfl : k = n := hk
    exact ⟨hB, h⟩
  | cons o l ih =>
    intro k listed a hmk hl hk inv hB h
    have h0 : ops[k]? = some o := (hl 0 (Nat.zero_lt_succ _)).symm
    rw [List.length_cons] at hk
    rw [List.length_cons, Region.lexHead, Bool.and_eq_true, Bool.and_eq_true] at hB
    have hr : k ∈ Region.ready md ops listed := by simpa using hB.1.1
    obtain ⟨v, hy, hK⟩ := yieldsIn_of_qOp (P := P) (C := C) (K := wpQuiet P ops C q l) (a := a) h0 (by unfold qOp; simp only [h0]; exact h)
    refine HeadQ.take_from h0 (Region.noSelect_spec hsel) hs hc hn hmk (by omega) (fun _ _ hL => seqB_ready hL.1) _ listed a inv (Region.free_spec h0 hB.1.2) hr hy ?_
    refine ih (k + 1) _ _ (by omega) (fun j hj => ?_) (by omega) (inv.set hr (by omega)) hB.2 hK
    have := hl (j + 1) (by simpa using hj)
    rwa [List.getElem?_cons_succ, show k + (j + 1) = k + 1 + j by omega] at this
end

/-- What is asked of the operations' waiting. -/
def moveTailB (ops : Array Oper) (n : Nat) : Bool :=
  Region.noSelect ops && decide (0 < n) && decide (n < ops.size) && sinkFrom .any ops 1 n && Region.chainB .any ops n && Region.free .any ops (Array.replicate ops.size false) 0 && (Region.ready .any ops (Array.replicate ops.size false)).contains 0
    && Region.lexHead .any ops (ops.size - n) (n - 1) 1 ((Array.replicate ops.size false).setIfInBounds 0 true)

theorem wp_region_move_tail {P : Program} {id : Nat} {Q : Exit → Act → World → Prop} {a : Act} {w : World} {l : List Oper} (n : Nat) (o : Oper) (x : Operand) (hm : P.follows .mixedOrders = true) (hB : moveTailB l.toArray n = true)
    (ho : l[0]? = some o) (hx : o.op = .move x) (hg : o.guard = none)
    (h : wpQuiet P l.toArray (fun w' => ∃ k, w' = w.drewN k) (fun a' => ∀ k, wpList P l.toArray (NoPanic Q) (l.drop n) a' (w.drewN k)) ((l.take n).drop 1) (a.put o.dst (a.eval x))) : (Code.region id l.toArray true).wp P Q a w := by
  unfold moveTailB at hB
  simp only [Bool.and_eq_true, decide_eq_true_eq] at hB
  obtain ⟨⟨⟨⟨⟨⟨⟨hsel, h0n⟩, hn⟩, hs⟩, hc⟩, hf⟩, hr⟩, hlex⟩ := hB
  have ht : ((l.take n).drop 1).length = n - 1 := by simp at hn ⊢; omega
  have hd : (l.drop n).length = l.toArray.size - n := by simp
  have hr' : 0 ∈ Region.ready .any l.toArray (Array.replicate l.toArray.size false) := by simpa using hr
  have ho' : l.toArray[0]? = some o := by simpa using ho
  have inv : HeadInv .any l.toArray n (Array.replicate l.toArray.size false) :=
    ⟨by simp, fun j oj _ hl => (by rw [getD_replicate_false] at hl; exact Bool.noConfusion hl), fun t _ ht => getD_in (by simpa using ht) (getD_replicate_false _ _)⟩
  refine wp_region_noPanic (wp_region_any hm ?_)
  have hz : l.toArray.size = (n - 1 + (l.toArray.size - n)) + 1 := by omega
  have hy : Yields P l.toArray o (a.eval x) a := .inl ⟨by simp [Region.wanted, hg], fun w => by
    unfold execOp
    simp only [hx]
    rfl⟩
  have H := HeadQ.walk_from (P := P) (md := .any) (C := fun w' => ∃ k, w' = w.drewN k) (g := l.toArray.size - n) hsel hs hc hn ((l.take n).drop 1) 1 ((Array.replicate l.toArray.size false).setIfInBounds 0 true) (a.put o.dst (a.eval x)) (Nat.le_refl _) (fun j hj => by
    rw [ht] at hj
    rw [Nat.add_comm 1 j]
    simp [show j + 1 < n by omega]) (by rw [ht]; omega) (inv.set hr' h0n) (by rw [ht]; exact hlex) h
  have h2 := HeadQ.any (Q := NoPanic Q) (g := l.toArray.size - n) (fun listed a' w' hw hL => by
    obtain ⟨k, rfl⟩ := hw
    have := wpAny_of_seq (md := .any) (Q' := NoPanic Q) (l.drop n) n listed a' (w.drewN k) (fun j => by simp [List.getElem?_drop]) (by rw [hd]; exact hL.1) (hL.2 k)
    rwa [hd] at this) _ _ _ (w.drewN 1) ⟨1, rfl⟩ H
  rw [ht] at h2
  have h3 := wpAny_take (md := .any) ho' hsel hf hr (fun c a w hp => hp) hy h2
  rw [← hz] at h3
  exact h3
end Go.Proofs.Ytefbjhdcmgonbaa
