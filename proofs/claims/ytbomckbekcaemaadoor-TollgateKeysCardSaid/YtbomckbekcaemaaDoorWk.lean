/-
  Joined: Few, HidesW, BufB, BufC, RwsB, KeepB, NarrB, Gy, Rc1, Rc3, Rc3, RBaresW, Gx.
-/
import Derived.Test.YtbomckbekcaemaaDoorWb
import Derived.Lib.MinMax
import Derived.BigRegion
import Derived.StillTailTactics
import Derived.Deep.RegionHeld3
import Derived.Deep.QuietTactic
import Derived.BigQuiet
import Derived.Test.YtbomckbekcaemaaDoorWi
import Derived.Test.YtbomckbekcaemaaDoorWj
import Derived.Test.YtbomckbekcaemaaDoorWc
import Derived.Test.YtbomckbekcaemaaDoorWa
import Derived.Deep.AppendSrc
import Derived.Deep.Upon
import Derived.Laws.IdiomStrings
import Derived.Stop.BytesEq
import Derived.Deep.Matrix
import Derived.Deep.AppendLies
import Derived.OpenShut
import Derived.ProofKit
import Derived.Test.YtbomckbekcaemaaDoorRows
import Derived.WalkKit
import Derived.ShutString
import Derived.ChangeOld
import Derived.Below
import Derived.Lib.LazyBuf
namespace Go.Proofs.YtbomckbekcaemaaDoor
section
open Go.RowKit
/-- No more than m rows, of no more than e bytes each. -/
def few (m e : Nat) (ps : List (List UInt8)) : List (List UInt8) := (ps.take m).map (·.take e)
theorem few_snoc (e k : Nat) (ps : List (List UInt8)) (hk : k < ps.length) : few (k + 1) e ps = few k e ps ++ [(ps.getD k []).take e] := by
  unfold few
  rw [List.take_succ_eq_append_getElem hk, List.map_append, List.getD_eq_getElem?_getD, List.getElem?_eq_getElem hk]
  rfl

theorem flatten_snoc (ps : List (List UInt8)) (k : Nat) (hk : k < ps.length) : (ps.take (k + 1)).flatten = (ps.take k).flatten ++ ps.getD k [] := by
  rw [List.take_succ_eq_append_getElem hk, List.flatten_append, List.getD_eq_getElem?_getD, List.getElem?_eq_getElem hk]; simp
theorem flatten_le (ps : List (List UInt8)) (k : Nat) : (ps.take k).flatten.length ≤ ps.flatten.length := by
  have h := congrArg List.length (congrArg List.flatten (List.take_append_drop k ps))
  rw [List.flatten_append, List.length_append] at h
  omega
theorem few_flatten_le (m e : Nat) (ps : List (List UInt8)) : (few m e ps).flatten.length ≤ m * e := by
  have h : ∀ qs : List (List UInt8), ((qs.map (·.take e)).flatten).length ≤ qs.length * e := fun qs => by
    induction qs with
    | nil => simp
    | cons q r ih => simp only [List.map_cons, List.flatten_cons, List.length_append, List.length_take, List.length_cons, Nat.add_mul, Nat.one_mul]; omega
  unfold few
  refine Nat.le_trans (h _) (Nat.mul_le_mul_right e ?_)
  rw [List.length_take]; omega
theorem few_length (m e : Nat) (ps : List (List UInt8)) : (few m e ps).length ≤ m := by
  unfold few; rw [List.length_map, List.length_take]; omega

theorem PIn.weaken {w : World} {B B' : Nat} {A : Option Addr} {c : Nat} {ps : List (List UInt8)} (h : PIn w B A c ps) (hB : B ≤ B') : PIn w B' A c ps :=
  ⟨h.1, h.2.1, fun h0 => by
    obtain ⟨gp, op, e, hl, hj⟩ := h.2.2 h0
    refine ⟨gp, op, e, by omega, fun j hjl => ?_⟩
    obtain ⟨Aj, cj, hc, hi⟩ := hj j hjl
    refine ⟨Aj, cj, hc, hi.1, hi.2.1, fun h0 => ?_⟩
    obtain ⟨gb, ob, e, hb, hby⟩ := hi.2.2 h0
    exact ⟨gb, ob, e, by omega, hby⟩⟩
/-- Rows that came in as they are seen from a later world. -/
theorem PIn.up {w w' : World} {A : Option Addr} {c : Nat} {ps : List (List UInt8)} (h : PIn w w.heap.size A c ps) (hb : Below w.heap.size w w') : PIn w' w'.heap.size A c ps := (h.below hb).weaken hb.size
end
section
open Go.RowKit
/-- What Show makes of bytes. -/
def shownAs (sec beg b : List UInt8) : List UInt8 := if b.length % 16 = 0 then hDone true sec beg b (b.length / 16) else []
theorem show_all (As Ab A : Option Addr) (cs cb c : Nat) (sec beg b : List UInt8) (w : World) (is : In w w.heap.size As cs sec) (ib : In w w.heap.size Ab cb beg) (i0 : In w w.heap.size A c b) (ht : TabsQ w)
    (hs : sec.length ≤ 1000000) (hbl : beg.length ≤ 1000000) (hb : b.length ≤ 1000000) :
    Calls Tryd.prog 80 #[.slice As sec.length cs, .slice Ab beg.length cb, .slice A b.length c] w fun e w' => ∃ A' c', e = .returned (.slice A' (shownAs sec beg b).length c') ∧ In w' w'.heap.size A' c' (shownAs sec beg b) ∧ Below w.heap.size w w' := by
  unfold shownAs
  by_cases h : b.length % 16 = 0
  · rw [if_pos h]
    have hN : b.length = 16 * (b.length / 16) := by omega
    have hl := hDone_length (back := true) (sec := sec) (beg := beg) (P := b) (k := b.length / 16) (by omega)
    rw [← hN] at hl
    refine (show_any As Ab A cs cb c w.heap.size (b.length / 16) b.length sec beg b w (Nat.le_refl _) is ib i0 ht hs hbl hb hN rfl).mono ?_
    rintro e w' ⟨rfl, hB, hbw⟩
    refine ⟨_, b.length, by rw [hl], ?_, hbw⟩
    exact in_of_blk (o := 0) hB (by rw [List.drop_zero, List.take_of_length_le (Nat.le_of_eq hl)]) hl (Nat.le_refl _) (by omega)
  · rw [if_neg h]
    refine (show_bad As Ab A _ _ cs cb c b.length w h hb).mono ?_
    rintro e w' ⟨rfl, hbw⟩
    exact ⟨none, 0, rfl, ⟨Nat.le_refl _, by omega, fun h => absurd h (by simp)⟩, hbw⟩
theorem refShow_all (sec beg b : List UInt8) (w : World) (hs : sec.length ≤ 1000000) (hbl : beg.length ≤ 1000000) (hb : b.length ≤ 1000000) :
    Calls Tryd.prog 59 #[.string ⟨sec.toArray⟩, .string ⟨beg.toArray⟩, .string ⟨b.toArray⟩, .bool true] w fun e w' => e = .returned (.string ⟨(shownAs sec beg b).toArray⟩) ∧ Below w.heap.size w w' := by
  unfold shownAs
  by_cases h : b.length % 16 = 0
  · rw [if_pos h]
    have := refHide_true sec beg b b ((b.length + 15) / 16) w hs hbl hb rfl (by rw [show 16 * ((b.length + 15) / 16) - b.length = 0 by omega]; simp) h
    rw [show (b.length + 15) / 16 = b.length / 16 by omega] at this
    exact this
  · rw [if_neg h]
    exact refHide_bad sec beg b w hb h

end
section
open Go.RowKit
end
section
open Go.RowKit
theorem in_weak {w : World} {B B' c : Nat} {A : Option Addr} {xs : List UInt8} (h : In w B A c xs) (hB : B ≤ B') : In w B' A c xs :=
  ⟨h.1, h.2.1, fun h0 => by
    obtain ⟨gb, ob, e, hb, hby⟩ := h.2.2 h0
    exact ⟨gb, ob, e, by omega, hby⟩⟩
theorem in_up {w w' : World} {c : Nat} {A : Option Addr} {xs : List UInt8} (h : In w w.heap.size A c xs) (hb : Below w.heap.size w w') : In w' w'.heap.size A c xs := in_weak (h.below hb) hb.size
theorem in_blk {w : World} {g n : Nat} {t : TypeId} {xs : List UInt8} (h : Blk w g t (xs.map B8)) (hn : xs.length = n) (hm : n < 1000) : In w w.heap.size (some ⟨g, 0, none⟩) n xs :=
  ⟨by omega, by omega, fun _ => ⟨g, 0, rfl, h.lt, fun j hj => by rw [Nat.zero_add]; exact h.at8 j hj⟩⟩
theorem in_nil (w : World) (c : Nat) (hc : c ≤ 9223372036854775807) (A : Option Addr) : In w w.heap.size A c [] := ⟨Nat.zero_le _, hc, fun h => absurd h (by simp)⟩

end
section
open Go.RowKit
end
section
open Go.RowKit
end
section
open Go.ChangeShapes Go.WideShapes Go.ChangeAt Go.RowKit
/-- The number that a value is. -/
def intIn : Option Value → Int
  | some (.int _ n) => n
  | _ => 0
set_option maxRecDepth 100000 in
/-- An array of numbers that reads comes in as numbers that fit. -/
theorem ints_of_trod {H : Type} {enc : TypeId × Value → H} {W : World} {v : Value} {d : DataW H} {p : List MemPlace} {t e : TypeId} {n : Nat} {k : IntKind} (hn : 2 ≤ n)
    (ht : Tryd.prog.underlying t = some (.array n e)) (he : Tryd.prog.underlying e = some (.int k)) (c1 : Tryd.prog.cellsOf e = 1) (cn : Tryd.prog.cellsOf t = n)
    (h : DataW.Trod enc Tryd.prog W 0 (fun _ => true) true t v d p) : ∃ xs : List Int, xs.length = n ∧ v = .agg (xs.map (Value.int k)).toArray ∧ ∀ i, i < n → (Lit.int k (xs.getD i 0)).wf = true := by
  obtain ⟨fuel, hf⟩ := h
  obtain ⟨ys, m, _, _, hcl, hyl, hel⟩ := DataW.trod_array ht hf
  rw [cn] at hcl
  have hone : ∀ i, i < n → ∃ z : Int, v.cells.toList[i]? = some (.int k z) ∧ (Lit.int k z).wf = true := fun i hi => by
    have h1 := hel i hi
    rw [c1, Nat.mul_one] at h1
    rw [List.getElem?_eq_getElem (by omega)] at h1
    obtain ⟨z, e1, _, hw⟩ := DataW.trod_int he h1
    refine ⟨z, ?_, hw⟩
    have e2 := congrArg (fun l => l[0]?) e1
    simpa [List.getElem?_take, List.getElem?_drop] using e2
  have hv : ∃ cs, v = .agg cs := by
    cases v with
    | agg cs => exact ⟨cs, rfl⟩
    | _ => simp [Value.cells] at hcl; omega
  obtain ⟨cs, rfl⟩ := hv
  simp only [Value.cells] at hone hcl
  refine ⟨(List.range n).map fun i => intIn cs.toList[i]?, by simp, ?_, fun i hi => ?_⟩
  · congr 1
    apply Array.toList_inj.1
    apply List.ext_getElem?
    intro i
    by_cases hi : i < n
    · obtain ⟨z, e, _⟩ := hone i hi
      rw [e]
      simp only [List.map_map, List.getElem?_map, List.getElem?_range hi, Option.map_some, Function.comp, e, intIn]
    · rw [List.getElem?_eq_none (by omega), List.getElem?_eq_none (by simp; omega)]
  · obtain ⟨z, e, hw⟩ := hone i hi
    rw [List.getD_eq_getElem?_getD]
    simp only [List.getElem?_map, List.getElem?_range hi, Option.map_some, e, intIn, Option.getD_some]
    exact hw
theorem wf_u64 {z : Int} (h : (Lit.int .u64 z).wf = true) : 0 ≤ z ∧ z < 18446744073709551616 := by
  have := h
  simp [Lit.wf, IntKind.min, IntKind.max, IntKind.signed, IntKind.bits] at this
  omega
theorem wf_i64 {z : Int} (h : (Lit.int .i64 z).wf = true) : -9223372036854775808 ≤ z ∧ z ≤ 9223372036854775807 := by
  have := h
  simp [Lit.wf, IntKind.min, IntKind.max, IntKind.signed, IntKind.bits] at this
  omega
theorem wf_u32 {z : Int} (h : (Lit.int .u32 z).wf = true) : 0 ≤ z ∧ z < 4294967296 := by
  have := h
  simp [Lit.wf, IntKind.min, IntKind.max, IntKind.signed, IntKind.bits] at this
  omega
theorem bytes16_of_trod {H : Type} {enc : TypeId × Value → H} {W : World} {v : Value} {d : DataW H} {p : List MemPlace}
    (h : DataW.Trod enc Tryd.prog W 0 (fun _ => true) true 22 v d p) : ∃ xs : List UInt8, xs.length = 16 ∧ v = .agg (xs.map B8).toArray := by
  obtain ⟨xs, hl, rfl, hw⟩ := ints_of_trod (n := 16) (by decide) Tryd.underlying22 Tryd.underlying5 (by kernel_rfl) (by kernel_rfl) h
  refine ⟨xs.map fun z => UInt8.ofNat z.toNat, by rw [List.length_map, hl], ?_⟩
  congr 2
  rw [List.map_map]
  apply List.map_congr_left
  intro z hz
  obtain ⟨i, hi, rfl⟩ := List.getElem_of_mem hz
  have h1 := hw i (by omega)
  rw [List.getD_eq_getElem?_getD, List.getElem?_eq_getElem hi] at h1
  simp [Lit.wf, IntKind.min, IntKind.max, IntKind.signed, IntKind.bits] at h1
  show Value.int .u8 xs[i] = .int .u8 (((UInt8.ofNat xs[i].toNat).toNat : Nat) : Int)
  congr 1
  rw [UInt8.toNat_ofNat']
  omega

end
section
open Go.RowKit
theorem in_drop {w : World} {B gb ob c : Nat} {xs : List UInt8} (h : In w B (some ⟨gb, ob, none⟩) c xs) (k : Nat) (hk : k ≤ xs.length) :
    In w B (if c = k then some ⟨gb, ob, none⟩ else some ⟨gb, ob + k, none⟩) (c - k) (xs.drop k) :=
  ⟨by have := h.1; rw [List.length_drop]; omega, by have := h.2.1; omega, fun h0 => by
    rw [List.length_drop] at h0
    obtain ⟨g', o', e, hl, hby⟩ := h.2.2 (by omega)
    cases e
    have hc := h.1
    refine ⟨gb, ob + k, if_neg (by omega), hl, fun j hj => ?_⟩
    rw [List.length_drop] at hj
    have := hby (k + j) (by omega)
    rw [Nat.add_assoc, this]
    simp [List.getD_eq_getElem?_getD, List.getElem?_drop]⟩
end
section
open Go.RowKit
theorem wrap_ofNat (n : Nat) : IntKind.u8.wrap (n : Int) = ((UInt8.ofNat n).toNat : Int) := by
  rw [IntKind.wrap_u8]; simp
theorem buf_lit (w : World) (xs : List UInt8) (n : Nat) (t : TypeId) (hn : xs.length = n) (hm : n < 1000) : Buf (w.alloc (.cells (xs.map B8).toArray t)) w.heap.size (some ⟨w.heap.size, 0, none⟩) n n xs :=
  Buf.made _ t _ _ (Nat.le_refl _) hn (Nat.le_refl _) (by unfold maxLen; omega) (by simpa using hn) (.inr rfl) (fun j hj => by
    rw [List.getElem?_toArray]
    exact getD_map8 xs j (by omega))
end
section
open Go.RowKit
theorem eql_nil_slice (w : World) (a : Option Addr) (l c : Nat) : (binOp .eql 26 (.slice a l c) (.slice none 0 0)).run Tryd.prog w = .ok (.bool a.isNone) w := by
  exact _root_.Go.run_eql_slice_nil w _ _ a l c Tryd.underlying26
theorem src_at {w : World} {A : Option Addr} {g n c : Nat} {s : List UInt8} (h : Src w g A s) (hs : s.length = n) : _root_.Go.Src Tryd.prog 1 26 (.slice A n c) s.length (s.map B8) w := by
  have := src_in' (c := c) h
  rwa [hs] at this ⊢
end
section
open Go.RowKit
set_option maxRecDepth 100000 in
set_option maxHeartbeats 1000000 in
theorem clone_e (A : Option Addr) (c n : Nat) (b : List UInt8) (w : World) (hn : b.length = n) (iB : In w w.heap.size A c b) (hm : n < 1000000) :
    Calls Tryd.prog 57 #[.slice A n c] w fun e w' => ∃ A' c', e = .returned (.slice A' n c') ∧ Buf w' w.heap.size A' n c' b ∧ Below w.heap.size w w' := by
  go_enter Tryd.func57, Tryd.ntmps57
  cases A with
  | none =>
    have hb0 : b = [] := by
      rcases Nat.eq_zero_or_pos b.length with h | h
      · exact List.eq_nil_of_length_eq_zero h
      · obtain ⟨_, _, e, _⟩ := iB.2.2 h
        cases e
    subst hb0
    obtain rfl : n = 0 := by simpa using hn.symm
    have hnil := fun W => eql_nil_slice W none 0 c
    go_wp2
    go_ret
    exact ⟨none, 0, rfl, Buf.nil _ _, Below.refl _ _⟩
  | some ad =>
    have hBe := buf_empty w
    have IB := Lib.hid iB
    have HN := Lib.hid hn
    clear iB hn
    have hnil := fun W => eql_nil_slice W (some ad) n c
    go_wp2_with ((with_reducible refine (?_ : wpList _ _ _ (Oper.mk (some 7) _ _ _ _ _ :: _) _ _)); go_loud (refine wpList_append_far rfl (.tmp 5) (.tmp 6) 26 rfl (w.heap.size) _ 0 _ [] b _ rfl hBe rfl (src_at ((in_up IB.out ((Below.refl _ _).alloc (Nat.le_refl _) _)).src (Nat.le_refl _)) HN.out) (by rw [HN.out]; omega) (by simp) n (by rw [HN.out]; omega) ?_); intro A5 c5 w5 hB5 hg5 _; have hbw5 := below_own ((Below.refl _ _).alloc (Nat.le_refl _) _) hBe hg5 (Nat.le_refl _) (by simp))
    go_ret
    exact ⟨A5, c5, rfl, hB5, hbw5⟩
end
section
open Go.RowKit
theorem buf_zeros (w : World) (n : Nat) (hm : n ≤ 1000000) : Buf (w.alloc (.cells ((List.replicate n (0 : UInt8)).map B8).toArray 5)) w.heap.size (some ⟨w.heap.size, 0, none⟩) n n (List.replicate n 0) :=
  Buf.made _ _ _ _ (Nat.le_refl _) List.length_replicate (Nat.le_refl _) (by unfold maxLen; omega) (by simp) (.inr rfl) (fun j hj => by
    rw [List.getElem?_toArray]
    exact getD_map8 _ j (by rw [List.length_replicate]; exact hj))
end
section
open Go.RowKit
end
end Go.Proofs.YtbomckbekcaemaaDoor
