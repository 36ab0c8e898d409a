/-
  What comes in: the document's attributes and packets; the contract of the document's Same.
-/
import Derived.Test.YtbomckbekcaemaaDoorRsd
import Derived.Deep.Strs
import Derived.LaidMore
namespace Go.Proofs.YtbomckbekcaemaaDoor
open Go.RowKit Go.ChangeShapes Go.WideShapes Go.ChangeAt

/-- A region that draws its order may go on under a stronger condition. -/
theorem anyH_mono {P : Program} {md : Region.Mode} {ops : Array Oper} {Q : Exit → Act → World → Prop} {S S' : World → Prop} (h : ∀ W, S' W → S W) :
    ∀ (fuel : Nat) (listed : Array Bool) (a : Act) (w : World), wpAnyH P md ops Q S' fuel listed a w → wpAnyH P md ops Q S fuel listed a w
  | 0, _, _, _, hh => hh
  | fuel + 1, _, _, _, hh => ⟨hh.1, fun i hi => wpOp_mono (fun _ _ h' => ⟨h _ h'.1, anyH_mono h fuel _ _ _ h'.2⟩) (hh.2 i hi)⟩
theorem sin_of_trod {H : Type} {enc : TypeId × Value → H} {W : World} {a : Option Addr} {len cap : Nat} {d : DataW H} {p : List MemPlace}
    (h : DataW.Trod enc Tryd.prog W 0 (fun _ => true) true 23 (.slice a len cap) d p) : ∃ la : Attrs, la.length = len ∧ SIn W W.heap.size a cap la := by
  obtain ⟨fuel, hf⟩ := h
  have c2 : Tryd.prog.cellsOf 62 = 2 := by kernel_rfl
  have k0 : Tryd.prog.cellsOf 3 = 1 := by kernel_rfl
  have k1 : Tryd.prog.cellsOf 9 = 1 := by kernel_rfl
  rcases Go.Deep.open_slice Tryd.underlying23 hf with ⟨hcs, _⟩ | ⟨x, l, c, m, n, D, Pl, hcs, _, hl, hm, hmm, _, hx⟩
  · simp [Value.cells] at hcs
    obtain ⟨rfl, rfl, rfl⟩ := hcs
    exact ⟨[], rfl, by simp, by omega, fun h => absurd h (by simp)⟩
  · simp [Value.cells] at hcs
    obtain ⟨rfl, rfl, rfl⟩ := hcs
    simp only [if_true] at hmm
    subst hmm
    have hadd : ∀ a b : Nat, (x.add a).add b = x.add (a + b) := fun a b => by
      unfold Addr.add
      by_cases ha : a = 0 <;> by_cases hb : b = 0 <;> simp [ha, hb, Nat.add_assoc]
    have each : ∀ i, i < len → ∃ t : Int × List UInt8, W.cell? (x.add (i * 2)) = some (.int .i64 t.1) ∧ W.cell? (x.add (i * 2 + 1)) = some (.string ⟨t.2.toArray⟩) := fun i hi => by
      obtain ⟨cs', h1, h2⟩ := hx i (by omega)
      rw [c2] at h1
      obtain ⟨y0, y1, q, _, hl2, e0, e1⟩ := Go.ChangeShapes.trod_struct2 Tryd.underlying62 h2
      rw [c2] at hl2
      have h0 : DataW.trod enc Tryd.prog W 0 (fun _ => true) true q 3 ((cs'.drop 0).take (Tryd.prog.cellsOf 3)) = some y0 := e0
      have h3 : DataW.trod enc Tryd.prog W 0 (fun _ => true) true q 9 ((cs'.drop 1).take (Tryd.prog.cellsOf 9)) = some y1 := e1
      rw [k0] at h0
      rw [k1] at h3
      clear e0 e1 h2
      obtain ⟨u0, u1, rfl⟩ : ∃ u0 u1, cs' = [u0, u1] := by
        clear h0 h3 h1
        match cs', hl2 with
        | [a, b], _ => exact ⟨a, b, rfl⟩
      clear hl2
      have e0' : DataW.trod enc Tryd.prog W 0 (fun _ => true) true q 3 [u0] = some y0 := h0
      have e1' : DataW.trod enc Tryd.prog W 0 (fun _ => true) true q 9 [u1] = some y1 := h3
      obtain ⟨z0, f0, _, _⟩ := DataW.trod_int Tryd.underlying3 e0'
      obtain ⟨s, f1, _, _⟩ := DataW.trod_string Tryd.underlying9 e1'
      injection f0 with f0
      injection f1 with f1
      have hc := World.cells?_some h1
      have g0 := hc.2.2 0 (by omega)
      have g1 := hc.2.2 1 (by omega)
      refine ⟨(z0, s.data.toList), ?_, ?_⟩
      · simpa [Addr.add, f0] using g0
      · have g1' : W.cell? ((x.add (i * 2)).add 1) = some u1 := by simpa using g1
        rw [hadd, f1] at g1'
        exact g1'
    obtain ⟨T, hT⟩ : ∃ T : Nat → Int × List UInt8, ∀ i, i < len → W.cell? (x.add (i * 2)) = some (.int .i64 (T i).1) ∧ W.cell? (x.add (i * 2 + 1)) = some (.string ⟨(T i).2.toArray⟩) :=
      ⟨fun i => if h : i < len then Classical.choose (each i h) else (0, []), fun i hi => by simp only [dif_pos hi]; exact Classical.choose_spec (each i hi)⟩
    refine ⟨(List.range len).map T, by simp, by simpa using hl, by simpa [maxLen] using hm, fun h0 => ?_⟩
    have h0' : 0 < len := by simpa using h0
    obtain ⟨b, off, spot⟩ := x
    have hspot : spot = none := by
      obtain ⟨h, _⟩ := hT 0 h0'
      simpa [Addr.add] using World.cell?_spot h
    subst hspot
    refine ⟨b, off, rfl, ?_, fun j hj => ?_⟩
    · obtain ⟨h, _⟩ := hT 0 h0'
      have := block_lt_of_cell h
      simpa [Addr.add] using this
    · have hj' : j < len := by simpa using hj
      have e : ((List.range len).map T).getD j (0, []) = T j := by
        rw [List.getD_eq_getElem?_getD, List.getElem?_map, List.getElem?_range hj']; rfl
      rw [e]
      obtain ⟨h1, h2⟩ := hT j hj'
      rw [add_row] at h1 h2
      exact ⟨h1, by rw [Nat.add_assoc]; exact h2⟩
theorem sin_of_cells {H : Type} {enc : TypeId × Value → H} {W : World} {cs : List Value} {x : DataW H × List MemPlace} {fuel : Nat}
    (hf : DataW.trod enc Tryd.prog W 0 (fun _ => true) true fuel 23 cs = some x) : ∃ (a : Option Addr) (n c : Nat) (la : Attrs), cs = [.slice a n c] ∧ la.length = n ∧ SIn W W.heap.size a c la := by
  rcases Go.Deep.open_slice Tryd.underlying23 hf with ⟨hcs, _⟩ | ⟨y, l, c, m, n, D, Pl, hcs, _⟩
  · obtain ⟨xs, h1, h2⟩ := sin_of_trod (enc := enc) (W := W) (a := none) (len := 0) (cap := 0) (d := x.1) (p := x.2) ⟨fuel, by rw [hcs] at hf; exact hf⟩
    exact ⟨none, 0, 0, xs, hcs, h1, h2⟩
  · obtain ⟨xs, h1, h2⟩ := sin_of_trod (enc := enc) (W := W) (a := some y) (len := l) (cap := c) (d := x.1) (p := x.2) ⟨fuel, by rw [hcs] at hf; exact hf⟩
    exact ⟨some y, l, c, xs, hcs, h1, h2⟩
theorem split19 (L : List Value) (h : L.length = 19) : L = (L.drop 0).take 1 ++ ((L.drop 1).take 1 ++ ((L.drop 2).take 16 ++ (L.drop 18).take 1)) := by
  have s : ∀ a b, L.drop a = (L.drop a).take b ++ L.drop (a + b) := fun a b => by
    conv => lhs; rw [← List.take_append_drop b (L.drop a), List.drop_drop]
  conv => lhs; rw [show L = L.drop 0 from rfl, s 0 1, s (0 + 1) 1, s (0 + 1 + 1) 16, s (0 + 1 + 1 + 16) 1, List.drop_eq_nil_of_le (show L.length ≤ 0 + 1 + 1 + 16 + 1 by omega), List.append_nil]
/-- A packet that comes in. -/
theorem rpk_of_trod {H : Type} {enc : TypeId × Value → H} {W : World} {v : Value} {d : DataW H} {p : List MemPlace}
    (h : DataW.Trod enc Tryd.prog W 0 (fun _ => true) true 25 v d p) : ∃ (code id : Int) (Q : List UInt8) (A : Option Addr) (n c : Nat) (la : Attrs),
      v = .agg (pkC code id Q A n c).toArray ∧ Q.length = 16 ∧ la.length = n ∧ SIn W W.heap.size A c la := by
  obtain ⟨fuel, hf⟩ := h
  obtain ⟨xs, m, _, _, hl, hlen, hp⟩ := DataW.trod_struct Tryd.underlying25 hf
  have c19 : Tryd.prog.cellsOf 25 = 19 := by kernel_rfl
  rw [c19] at hl
  obtain ⟨cl, rfl⟩ : ∃ cl, v = .agg cl := by
    cases v with
    | agg cl => exact ⟨cl, rfl⟩
    | _ => simp [Value.cells] at hl
  simp only [Value.cells] at hp hl
  match xs, hlen with
  | [y0, y1, y2, y3], _ =>
    have k0 : Tryd.prog.cellsOf 3 = 1 := by kernel_rfl
    have k1 : Tryd.prog.cellsOf 23 = 1 := by kernel_rfl
    have k3 : Tryd.prog.cellsOf 22 = 16 := by kernel_rfl
    have h0 : DataW.trod enc Tryd.prog W 0 (fun _ => true) true m 3 ((cl.toList.drop 0).take (Tryd.prog.cellsOf 3)) = some y0 := hp 0 _ rfl
    have h1 : DataW.trod enc Tryd.prog W 0 (fun _ => true) true m 3 ((cl.toList.drop 1).take (Tryd.prog.cellsOf 3)) = some y1 := hp 1 _ rfl
    have h2 : DataW.trod enc Tryd.prog W 0 (fun _ => true) true m 22 ((cl.toList.drop 2).take (Tryd.prog.cellsOf 22)) = some y2 := hp 2 _ rfl
    have h3 : DataW.trod enc Tryd.prog W 0 (fun _ => true) true m 23 ((cl.toList.drop 18).take (Tryd.prog.cellsOf 23)) = some y3 := hp 3 _ rfl
    rw [k0] at h0 h1
    rw [k1] at h3
    rw [k3] at h2
    obtain ⟨code, eC, _, _⟩ := DataW.trod_int Tryd.underlying3 h0
    obtain ⟨id, eI, _, _⟩ := DataW.trod_int Tryd.underlying3 h1
    obtain ⟨Q, hQ, eQ⟩ := bytes16_of_trod (v := .agg ((cl.toList.drop 2).take 16).toArray) (d := y2.1) (p := y2.2) ⟨m, by simpa [Value.cells] using h2⟩
    obtain ⟨A, n, c, la, eA, hn, hA⟩ := sin_of_cells h3
    have eQ2 : (cl.toList.drop 2).take 16 = Q.map B8 := by
      have := congrArg (fun v => match v with | Value.agg a => a.toList | _ => []) eQ
      simpa using this
    refine ⟨code, id, Q, A, n, c, la, ?_, hQ, hn, hA⟩
    refine congrArg Value.agg ?_
    apply Array.toList_inj.1
    have e5 := split19 cl.toList hl
    rw [eC, eI, eQ2, eA] at e5
    rw [e5]
    rfl
theorem joinA_split (b : List UInt8) : joinA (splitA b) = b := by
  generalize hn : b.length = n
  induction n using Nat.strongRecOn generalizing b with
  | _ n ih =>
    by_cases h : 0 < b.length
    · rw [splitA_more h]
      have := ih (b.drop 253).length (by rw [List.length_drop]; omega) (b.drop 253) rfl
      unfold joinA at this ⊢
      rw [List.filter_cons_of_pos (by simp), List.flatMap_cons, this, List.take_append_drop]
    · rw [splitA_none h, List.eq_nil_of_length_eq_zero (show b.length = 0 by omega)]; rfl
theorem findA_cons (a : Int × List UInt8) (la : Attrs) (kind : Int) : findA (a :: la) kind = if a.1 = kind then some a.2 else findA la kind := by
  unfold findA
  by_cases h : a.1 = kind
  · rw [if_pos h, List.find?_cons_of_pos (by simpa using h)]; rfl
  · rw [if_neg h, List.find?_cons_of_neg (by simpa using h)]
end Go.Proofs.YtbomckbekcaemaaDoor
