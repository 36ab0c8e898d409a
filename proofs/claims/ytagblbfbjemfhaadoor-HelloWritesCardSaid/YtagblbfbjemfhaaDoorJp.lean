/-
  What the rows of layer 13 give the walks: the listed row of bytes; messages that come in.
-/
import Derived.Test.YtagblbfbjemfhaaDoorRows
import Derived.Test.YtagblbfbjemfhaaDoorTie
import Derived.Test.YtagblbfbjemfhaaDoorCards
import Derived.Test.YtagblbfbjemfhaaDoorJh
import Derived.ProofKit
import Derived.OpenShut
import Derived.LaidMore
import Derived.Lib.LaidTab
import Derived.SevenTiedAt
import Derived.Stop.Joined
import Derived.Deep.Strs
namespace Go.Proofs.YtagblbfbjemfhaaDoor
open Go.ChangeShapes Go.WideShapes Go.ChangeAt Go.RowKit
open HelloMath (Msg special)

def laidHash : List (String × DataW Unit) := [("tollgate/hello.retried", Rows.laid_tollgate_hello_retried)]
theorem retried_data : (Rows.laid_tollgate_hello_retried : DataW Unit) = Lib.tabData .u8 (special.map fun x => (x.toNat : Int)) := by kernel_rfl
theorem range_of_var {W : World} {name : String} {arr : Array Value} {cs : List Value} {g : Nat} (h : W.var? Tryd.prog name = some arr) (he : arr.toList = cs) (hg : Tryd.prog.globalNamed name = some g) : W.rangeAt g 0 cs := fun j v hv => by
  subst he
  have := World.var?_cell hg h j
  rw [Nat.zero_add, this]
  simpa using hv
theorem tabH_of_laid {W : World} (h : laidMetH Tryd.prog laidHash W) : TabH W := by
  rw [MakeChecks.laidMetH_plain _ _ _ (by kernel_rfl)] at h
  unfold laidHash at h
  rw [retried_data] at h
  have h1 := Lib.tabIs_of_head (g := 0) (t := 22) (e := 5) (n := 32) (by kernel_rfl) (by kernel_rfl) Tryd.underlying22 Tryd.underlying5 (by kernel_rfl) (by kernel_rfl) h
  have h2 : W.rangeAt 0 0 (special.map B8) := range_of_var (name := "tollgate/hello.retried") h1 (by rw [List.map_map]; rfl) (by kernel_rfl)
  refine ⟨h2, ?_⟩
  have h3 := h2 0 (B8 (special.getD 0 0)) rfl
  exact block_lt_of_cell h3
theorem door_met (os : Os) (args : Array Value) : laidMetH Tryd.prog laidHash ((World.doorLaid Tryd.prog 400 os).forCall (fun _ _ => 0) ⟨#[], args, []⟩).memory :=
  laidMetH_of_parts3 (fuel := 8) (laidMet_of_run' 8 (by kernel_rfl) (by kernel_rfl)) (by kernel_rfl) (by kernel_rfl)
theorem strs_of_trod {H : Type} {enc : TypeId × Value → H} {W : World} {a : Option Addr} {len cap : Nat} {d : DataW H} {p : List MemPlace}
    (h : DataW.Trod enc Tryd.prog W 0 (fun _ => true) true 23 (.slice a len cap) d p) : ∃ ps : List (List UInt8), ps.length = len ∧ StrR W (.slice a len cap) ps := by
  obtain ⟨fuel, hf⟩ := h
  have k1 : Tryd.prog.cellsOf 9 = 1 := by kernel_rfl
  rcases Go.Deep.open_slice Tryd.underlying23 hf with ⟨hcs, _⟩ | ⟨x, l, c, m, n, D, Pl, hcs, _, hl, hm, hmm, _, hx⟩
  · simp [Value.cells] at hcs
    obtain ⟨rfl, rfl, rfl⟩ := hcs
    exact ⟨[], rfl, none, 0, rfl, by simp, fun h => absurd h (by simp)⟩
  · simp [Value.cells] at hcs
    obtain ⟨rfl, rfl, rfl⟩ := hcs
    simp only [if_true] at hmm
    subst hmm
    have each : ∀ i, i < len → ∃ t : List UInt8, W.cell? (x.add i) = some (.string ⟨t.toArray⟩) := fun i hi => by
      obtain ⟨cs', h1, h2⟩ := hx i (by omega)
      rw [k1] at h1
      obtain ⟨s, f1, _, _⟩ := DataW.trod_string Tryd.underlying9 h2
      have hc := World.cells?_some h1
      have g0 := hc.2.2 0 (by omega)
      refine ⟨s.data.toList, ?_⟩
      simpa [Addr.add, f1, Nat.mul_one] using g0
    obtain ⟨T, hT⟩ : ∃ T : Nat → List UInt8, ∀ i, i < len → W.cell? (x.add i) = some (.string ⟨(T i).toArray⟩) :=
      ⟨fun i => if h : i < len then Classical.choose (each i h) else [], fun i hi => by simp only [dif_pos hi]; exact Classical.choose_spec (each i hi)⟩
    refine ⟨(List.range len).map T, by simp, some x, _, by simp; rfl, ⟨by simpa using hl, by simpa [maxLen] using hm⟩, fun h0 => ?_⟩
    have h0' : 0 < len := by simpa using h0
    obtain ⟨b, off, spot⟩ := x
    have hspot : spot = none := by
      have h := hT 0 h0'
      simpa [Addr.add] using World.cell?_spot h
    subst hspot
    refine ⟨b, off, rfl, ?_, fun j hj => ?_⟩
    · have h := hT 0 h0'
      have := block_lt_of_cell h
      simpa [Addr.add] using this
    · have hj' : j < len := by simpa using hj
      have e : ((List.range len).map T).getD j [] = T j := by
        rw [List.getD_eq_getElem?_getD, List.getElem?_map, List.getElem?_range hj']; rfl
      rw [e]
      have h1 := hT j hj'
      rw [add_row] at h1
      exact h1
theorem strs_of_cells {H : Type} {enc : TypeId × Value → H} {W : World} {cs : List Value} {x : DataW H × List MemPlace} {fuel : Nat}
    (hf : DataW.trod enc Tryd.prog W 0 (fun _ => true) true fuel 23 cs = some x) : ∃ (v : Value) (ps : List (List UInt8)), cs = [v] ∧ StrR W v ps := by
  rcases Go.Deep.open_slice Tryd.underlying23 hf with ⟨hcs, _⟩ | ⟨y, l, c, m, n, D, Pl, hcs, _⟩
  · obtain ⟨xs, h1, h2⟩ := strs_of_trod (enc := enc) (W := W) (a := none) (len := 0) (cap := 0) (d := x.1) (p := x.2) ⟨fuel, by rw [hcs] at hf; exact hf⟩
    exact ⟨_, xs, hcs, h2⟩
  · obtain ⟨xs, h1, h2⟩ := strs_of_trod (enc := enc) (W := W) (a := some y) (len := l) (cap := c) (d := x.1) (p := x.2) ⟨fuel, by rw [hcs] at hf; exact hf⟩
    exact ⟨_, xs, hcs, h2⟩
theorem split75 (L : List Value) (h : L.length = 75) : L = (L.drop 0).take 1 ++ ((L.drop 1).take 32 ++ ((L.drop 33).take 32 ++ ((L.drop 65).take 1 ++ ((L.drop 66).take 1 ++ ((L.drop 67).take 1 ++ ((L.drop 68).take 1 ++ ((L.drop 69).take 1 ++ ((L.drop 70).take 1 ++ ((L.drop 71).take 1 ++ ((L.drop 72).take 1 ++ ((L.drop 73).take 1 ++ ((L.drop 74).take 1)))))))))))) := by
  have s : ∀ a b, L.drop a = (L.drop a).take b ++ L.drop (a + b) := fun a b => by
    conv => lhs; rw [← List.take_append_drop b (L.drop a), List.drop_drop]
  conv => lhs; rw [show L = L.drop 0 from rfl, s 0 1, show 0 + 1 = 1 from rfl, s 1 32, show 1 + 32 = 33 from rfl, s 33 32, show 33 + 32 = 65 from rfl, s 65 1, show 65 + 1 = 66 from rfl, s 66 1, show 66 + 1 = 67 from rfl, s 67 1, show 67 + 1 = 68 from rfl, s 68 1, show 68 + 1 = 69 from rfl, s 69 1, show 69 + 1 = 70 from rfl, s 70 1, show 70 + 1 = 71 from rfl, s 71 1, show 71 + 1 = 72 from rfl, s 72 1, show 72 + 1 = 73 from rfl, s 73 1, show 73 + 1 = 74 from rfl, s 74 1, List.drop_eq_nil_of_le (show L.length ≤ 74 + 1 by omega), List.append_nil]
/-- A message that comes in. -/
theorem rmsg_of_trod {H : Type} {enc : TypeId × Value → H} {W : World} {v : Value} {d : DataW H} {p : List MemPlace}
    (h : DataW.Trod enc Tryd.prog W 0 (fun _ => true) true 25 v d p) : ∃ (m : Msg) (cs : List Value), v = .agg cs.toArray ∧ RIn W m cs := by
  obtain ⟨fuel, hf⟩ := h
  obtain ⟨xs, m, _, _, hl, hlen, hp⟩ := DataW.trod_struct Tryd.underlying25 hf
  have c75 : Tryd.prog.cellsOf 25 = 75 := by kernel_rfl
  rw [c75] at hl
  obtain ⟨cl, rfl⟩ : ∃ cl, v = .agg cl := by
    cases v with
    | agg cl => exact ⟨cl, rfl⟩
    | _ => simp [Value.cells] at hl
  simp only [Value.cells] at hp hl
  match xs, hlen with
  | [y0, y1, y2, y3, y4, y5, y6, y7, y8, y9, y10, y11, y12], _ =>
    have h0 : DataW.trod enc Tryd.prog W 0 (fun _ => true) true m 3 ((cl.toList.drop 0).take 1) = some y0 := hp 0 _ rfl
    have h1 : DataW.trod enc Tryd.prog W 0 (fun _ => true) true m 22 ((cl.toList.drop 1).take 32) = some y1 := hp 1 _ rfl
    have h2 : DataW.trod enc Tryd.prog W 0 (fun _ => true) true m 22 ((cl.toList.drop 33).take 32) = some y2 := hp 2 _ rfl
    have h3 : DataW.trod enc Tryd.prog W 0 (fun _ => true) true m 9 ((cl.toList.drop 65).take 1) = some y3 := hp 3 _ rfl
    have h4 : DataW.trod enc Tryd.prog W 0 (fun _ => true) true m 9 ((cl.toList.drop 66).take 1) = some y4 := hp 4 _ rfl
    have h5 : DataW.trod enc Tryd.prog W 0 (fun _ => true) true m 9 ((cl.toList.drop 67).take 1) = some y5 := hp 5 _ rfl
    have h6 : DataW.trod enc Tryd.prog W 0 (fun _ => true) true m 9 ((cl.toList.drop 68).take 1) = some y6 := hp 6 _ rfl
    have h7 : DataW.trod enc Tryd.prog W 0 (fun _ => true) true m 9 ((cl.toList.drop 69).take 1) = some y7 := hp 7 _ rfl
    have h8 : DataW.trod enc Tryd.prog W 0 (fun _ => true) true m 23 ((cl.toList.drop 70).take 1) = some y8 := hp 8 _ rfl
    have h9 : DataW.trod enc Tryd.prog W 0 (fun _ => true) true m 3 ((cl.toList.drop 71).take 1) = some y9 := hp 9 _ rfl
    have h10 : DataW.trod enc Tryd.prog W 0 (fun _ => true) true m 3 ((cl.toList.drop 72).take 1) = some y10 := hp 10 _ rfl
    have h11 : DataW.trod enc Tryd.prog W 0 (fun _ => true) true m 4 ((cl.toList.drop 73).take 1) = some y11 := hp 11 _ rfl
    have h12 : DataW.trod enc Tryd.prog W 0 (fun _ => true) true m 4 ((cl.toList.drop 74).take 1) = some y12 := hp 12 _ rfl
    obtain ⟨z0, e0, _, _⟩ := DataW.trod_int Tryd.underlying3 h0
    obtain ⟨z1, l1, q1⟩ := bytes32_of_trod (v := .agg ((cl.toList.drop 1).take 32).toArray) (d := y1.1) (p := y1.2) ⟨m, by simpa [Value.cells] using h1⟩
    have e1 : (cl.toList.drop 1).take 32 = z1.map B8 := by
      have := congrArg (fun v => match v with | Value.agg a => a.toList | _ => []) q1
      simpa using this
    obtain ⟨z2, l2, q2⟩ := bytes32_of_trod (v := .agg ((cl.toList.drop 33).take 32).toArray) (d := y2.1) (p := y2.2) ⟨m, by simpa [Value.cells] using h2⟩
    have e2 : (cl.toList.drop 33).take 32 = z2.map B8 := by
      have := congrArg (fun v => match v with | Value.agg a => a.toList | _ => []) q2
      simpa using this
    obtain ⟨z3, e3, _, _⟩ := DataW.trod_string Tryd.underlying9 h3
    obtain ⟨z4, e4, _, _⟩ := DataW.trod_string Tryd.underlying9 h4
    obtain ⟨z5, e5, _, _⟩ := DataW.trod_string Tryd.underlying9 h5
    obtain ⟨z6, e6, _, _⟩ := DataW.trod_string Tryd.underlying9 h6
    obtain ⟨z7, e7, _, _⟩ := DataW.trod_string Tryd.underlying9 h7
    obtain ⟨z8, ps, e8, hps⟩ := strs_of_cells h8
    obtain ⟨z9, e9, _, _⟩ := DataW.trod_int Tryd.underlying3 h9
    obtain ⟨z10, e10, _, _⟩ := DataW.trod_int Tryd.underlying3 h10
    obtain ⟨z11, e11, _⟩ := DataW.trod_bool Tryd.underlying4 h11
    obtain ⟨z12, e12, _⟩ := DataW.trod_bool Tryd.underlying4 h12
    refine ⟨⟨z0, z1, z2, z3.data.toList, z4.data.toList, z5.data.toList, z6.data.toList, z7.data.toList, ps, z9, z10, z11, z12⟩, cl.toList, rfl, ⟨l1, l2⟩, z8, ?_, hps⟩
    have e := split75 cl.toList hl
    rw [e0, e1, e2, e3, e4, e5, e6, e7, e8, e9, e10, e11, e12] at e
    rw [e]
    rfl
end Go.Proofs.YtagblbfbjemfhaaDoor
