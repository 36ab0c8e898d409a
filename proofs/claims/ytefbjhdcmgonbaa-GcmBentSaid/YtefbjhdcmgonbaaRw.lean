/-
  The reference of the blocks: the keys of all rounds, walked.
-/
import Derived.Test.YtefbjhdcmgonbaaRk
import Derived.Laws.AppendOwn
import Derived.Test.YtefbjhdcmgonbaaBufB
import Derived.Deep.MidRow
import Derived.Deep.DeepCutAuto
namespace Go.Proofs.Ytefbjhdcmgonbaa
open Go.RowKit

theorem infoW4 : (Try.prog.info? 87).map (fun i => (i.zero, i.size, i.bytes)) = some (some (.agg #[.int .u8 0, .int .u8 0, .int .u8 0, .int .u8 0]), 4, 4) := by kernel_rfl
theorem infoW4s : (Try.prog.info? 87).map (·.size) = some 4 := by kernel_rfl
theorem madeCells_w4 (R : Nat) : madeCells #[.int .u8 0, .int .u8 0, .int .u8 0, .int .u8 0] (R * 4) = ((List.replicate (4 * R) (0 : UInt8)).map B8).toArray := by
  unfold madeCells
  apply Array.toList_inj.1
  rw [Array.toList_map, Array.toList_range, List.map_replicate]
  apply List.ext_getElem
  · simp; omega
  · intro i h1 h2
    simp
    have : i % 4 = 0 ∨ i % 4 = 1 ∨ i % 4 = 2 ∨ i % 4 = 3 := by omega
    rcases this with h | h | h | h <;> rw [h] <;> rfl
theorem run_make_w4 (R : Nat) (hn : R ≤ 1000) (Z : List UInt8) (hZ : Z = List.replicate (4 * R) 0) (w : World) :
    (Instr.makeSlice 86 (.int .i64 (R : Int)) (.int .i64 (R : Int))).run Try.prog w = .ok (.slice (some ⟨w.heap.size, 0, none⟩) R R) (w.alloc (.cells (Z.map B8).toArray 87)) := by
  obtain ⟨i, hi, hz, hs, hb⟩ := info_parts infoW4
  have h := run_make (P := Try.prog) w 86 87 i _ Try.underlying86 hi hz .i64 .i64 R R (by omega) (by omega) (by rw [hb]; omega) (by omega)
  rw [h, hs, hZ]
  simp only [Int.toNat_natCast]
  rw [show Value.cells (.agg #[.int .u8 0, .int .u8 0, .int .u8 0, .int .u8 0]) = #[.int .u8 0, .int .u8 0, .int .u8 0, .int .u8 0] from rfl, madeCells_w4]
theorem str_get (P : List UInt8) (i : Nat) (h : i < P.length) : (⟨P.toArray⟩ : ByteArray)[i]'(show i < P.length from h) = P.getD i 0 := by
  show P.toArray[i] = _
  simp [List.getD_eq_getElem?_getD, List.getElem?_eq_getElem h]
theorem index_str (P : List UInt8) (k : Nat) (hk : k < P.length) (W : World) :
    (Instr.index 9 (.string ⟨P.toArray⟩) (.int .i64 (k : Int))).run Try.prog W = .ok (.int .u8 (P.getD k 0).toNat) W := by
  have h := str_get P k hk
  have h' : (⟨P.toArray⟩ : ByteArray)[k]? = some (P.getD k 0) := by rw [← h]; exact getElem?_pos (⟨P.toArray⟩ : ByteArray) k hk
  simp [Instr.index, asIntOf, run_underlying Try.underlying9, h']
theorem tab_of (x : UInt8) : tabR.getD x.toNat 0 = boxR x := by
  rw [tabR_get _ (u8_lt x)]
  congr 1
  exact u8_ext (by rw [UInt8.toNat_ofNat', Nat.mod_eq_of_lt (u8_lt x)])
/-- Four bytes go into a row. -/
theorem set4 (F Z : List UInt8) (i : Nat) (a b c d : UInt8) (hF : 4 * i + 4 ≤ F.length) (hZ : F.length = Z.length) (h : wordB F i = [a, b, c, d]) :
    F.take (4 * i) ++ [a, b, c, d] ++ (F.take (4 * i) ++ Z.drop (4 * i)).drop (4 * i + 4) = F.take (4 * i + 4) ++ Z.drop (4 * i + 4) := by
  have e : F.take (4 * i + 4) = F.take (4 * i) ++ [a, b, c, d] := by
    unfold wordB at h
    simp only [List.cons.injEq, and_true] at h
    obtain ⟨rfl, rfl, rfl, rfl⟩ := h
    rw [show 4 * i + 4 = 4 * i + 1 + 1 + 1 + 1 by omega]
    have g : ∀ k, k < 4 → F[4 * i + k]? = some (F.getD (4 * i + k) 0) := fun k hk => by
      rw [List.getD_eq_getElem?_getD, List.getElem?_eq_getElem (by omega)]; rfl
    rw [List.take_add_one, List.take_add_one, List.take_add_one, List.take_add_one, show 4 * i + 1 + 1 + 1 = 4 * i + 3 by omega, show 4 * i + 1 + 1 = 4 * i + 2 by omega, g 3 (by omega), g 2 (by omega), g 1 (by omega)]
    have g0 := g 0 (by omega)
    rw [Nat.add_zero] at g0
    rw [g0]
    simp
  rw [e]
  have hl : (F.take (4 * i)).length = 4 * i := by simp; omega
  rw [List.drop_append, hl, show 4 * i + 4 - 4 * i = 4 by omega, List.drop_drop, show 4 * i + 4 = 4 * i + 4 from rfl]
  rw [List.drop_eq_nil_of_le (by rw [hl]; omega), List.nil_append]
theorem Blk.there {w : World} {g : Nat} {t : TypeId} {cs : List Value} (h : Blk w g t cs) (o n : Nat) (ho : o + n ≤ cs.length) : w.there g o n := fun j hj =>
  ⟨by rw [h.cell, List.getElem?_eq_getElem (by omega)]; rfl, h.frozen _⟩
theorem set_mid (cs : List Value) (o : Nat) (v : Value) (r : List Value) (h : o + (r.length + 1) ≤ cs.length) :
    (cs.set o v).take (o + 1) ++ r ++ (cs.set o v).drop (o + 1 + r.length) = cs.take o ++ v :: r ++ cs.drop (o + (r.length + 1)) := by
  have h1 : (cs.set o v).take (o + 1) = cs.take o ++ [v] := by
    rw [List.take_add_one, List.take_set_of_le (Nat.le_refl o), List.getElem?_set_self (by omega)]; rfl
  have h2 : (cs.set o v).drop (o + 1 + r.length) = cs.drop (o + (r.length + 1)) := by
    rw [List.drop_set_of_lt (by omega), show o + 1 + r.length = o + (r.length + 1) by omega]
  rw [h1, h2]; simp
theorem Blk.mid {g : Nat} {t : TypeId} : ∀ (vs : List Value) (o : Nat) (cs : List Value) (w : World), Blk w g t cs → o + vs.length ≤ cs.length → Blk (w.setCells g o vs) g t (cs.take o ++ vs ++ cs.drop (o + vs.length))
  | [], o, cs, w, h, _ => by
    have : cs.take o ++ [] ++ cs.drop (o + ([] : List Value).length) = cs := by simp
    rw [this]; exact h
  | v :: r, o, cs, w, h, ho => by
    rw [List.length_cons] at ho
    have := Blk.mid r (o + 1) (cs.set o v) (w.setCell ⟨g, o, none⟩ v) (h.set_ o v) (by rw [List.length_set]; omega)
    rw [set_mid cs o v r ho] at this
    exact this
theorem words_set (F Z : List UInt8) (m : Nat) (a b c d : UInt8) (hF : 4 * m + 4 ≤ F.length) (hZ : F.length = Z.length) (h : wordB F m = [a, b, c, d]) :
    ((F.take (4 * m) ++ Z.drop (4 * m)).map B8).take (m * 4) ++ [B8 a, B8 b, B8 c, B8 d] ++ ((F.take (4 * m) ++ Z.drop (4 * m)).map B8).drop (m * 4 + 4) = (F.take (4 * (m + 1)) ++ Z.drop (4 * (m + 1))).map B8 := by
  rw [Nat.mul_comm m 4, show 4 * (m + 1) = 4 * m + 4 by omega, ← set4 F Z m a b c d hF hZ h, ← List.map_take, ← List.map_drop, List.take_append_of_le_length (by simp; omega), List.take_take, Nat.min_self]
  simp
theorem rangeAt_word {w : World} {g o m i : Nat} {t : TypeId} {F Z : List UInt8} (h : Blk w g t ((F.take (4 * m) ++ Z.drop (4 * m)).map B8)) (hi : i < m) (hF : 4 * m ≤ F.length) (ho : o = i * 4) : w.rangeAt g o ((wordB F i).map B8) := fun j v hv => by
  subst ho
  have hj : j < 4 := by
    have := (List.getElem?_eq_some_iff.1 hv).1
    simpa [wordB] using this
  have hv' : v = B8 (F.getD (4 * i + j) 0) := by
    rcases four_k hj with rfl | rfl | rfl | rfl <;> simp [wordB] at hv <;> exact hv.symm
  rw [h.cell, hv', List.getElem?_map, List.getElem?_append_left (by simp; omega), List.getElem?_take, if_pos (by omega), Nat.mul_comm i 4, List.getD_eq_getElem?_getD, List.getElem?_eq_getElem (by omega)]
  rfl
theorem getD_into (F Z : List UInt8) (n i : Nat) (hi : i < n) (hF : n ≤ F.length) : (F.take n ++ Z.drop n).getD i 0 = F.getD i 0 := by
  rw [List.getD_eq_getElem?_getD, List.getElem?_append_left (by simp; omega), List.getElem?_take, if_pos hi, ← List.getD_eq_getElem?_getD]
theorem keys_ix (k q s r p T : Nat) (h : k = 4 * q + s) (hs : s < 4) (hq : q < 4) (hp : p = 4 * r + q) (hr : r ≤ 60) (hT : 4 * r + 4 ≤ T) :
    (k : Int) / 4 = (q : Int) ∧ (k : Int) % 4 = (s : Int) ∧ (k : Int).tdiv 4 = (q : Int) ∧ (k : Int).tmod 4 = (s : Int) ∧ wrap64 (4 * (r : Int)) = 4 * (r : Int) ∧ wrap64 (4 * (r : Int) + (q : Int)) = (p : Int) ∧ 4 * (r : Int) + (q : Int) = (p : Int) ∧
    (0 : Int) ≤ (k : Int) ∧ (k : Int) < 16 ∧ (0 : Int) ≤ (p : Int) ∧ (p : Int) < (T : Int) ∧ (0 : Int) ≤ (s : Int) ∧ (s : Int) < 4 := by
  refine ⟨by omega, by omega, ?_, ?_, ?_, ?_, by omega, by omega, by omega, by omega, by omega, by omega, by omega⟩
  · rw [Int.tdiv_eq_ediv_of_nonneg (by omega)]; omega
  · rw [Int.tmod_eq_emod_of_nonneg (by omega)]; omega
  · unfold wrap64; omega
  · unfold wrap64; omega
theorem infoW16 : (Try.prog.info? 42).map (fun i => (i.zero, i.size, i.bytes)) = some (some (BV zero16), 16, 16) := by kernel_rfl
theorem run_build16' (a0 a1 a2 a3 a4 a5 a6 a7 a8 a9 a10 a11 a12 a13 a14 a15 : UInt8) (W : World) : (Instr.buildSlice 61 1 #[(0, BV [a0, a1, a2, a3, a4, a5, a6, a7, a8, a9, a10, a11, a12, a13, a14, a15])]).run Try.prog W = .ok (.slice (some ⟨W.heap.size, 0, none⟩) 1 1) (W.alloc (.cells ([a0, a1, a2, a3, a4, a5, a6, a7, a8, a9, a10, a11, a12, a13, a14, a15].map B8).toArray 42)) := by kernel_rfl
theorem run_build16 (R : List UInt8) (hR : R.length = 16) (W : World) : (Instr.buildSlice 61 1 #[(0, BV R)]).run Try.prog W = .ok (.slice (some ⟨W.heap.size, 0, none⟩) 1 1) (W.alloc (.cells (R.map B8).toArray 42)) := by
  match R, hR with
  | [a0, a1, a2, a3, a4, a5, a6, a7, a8, a9, a10, a11, a12, a13, a14, a15], _ => exact run_build16' a0 a1 a2 a3 a4 a5 a6 a7 a8 a9 a10 a11 a12 a13 a14 a15 W
theorem wpList_build16 {ops : Array Oper} {rest : List Oper} {o : Oper} {a : Act} {w : World} {Q : Exit → Act → World → Prop} (hgd : o.guard = none) (x : Operand) (ho : o.op = .buildSlice 61 1 #[(0, x)]) (R : List UInt8) (hR : R.length = 16) (hx : a.eval x = BV R)
    (h : wpList Try.prog ops Q rest (a.put o.dst (.slice (some ⟨w.heap.size, 0, none⟩) 1 1)) (w.alloc (.cells (R.map B8).toArray 42))) : wpList Try.prog ops Q (o :: rest) a w := by
  refine wpList_plain hgd fun K hK' => ?_
  unfold Oper.wp execOp
  simp only [ho, Sem.run_bind, Sem.run_pure, Result.andThen_ok, List.map_toArray, List.map_cons, List.map_nil, hx, run_build16 R hR]
  exact hK' _ _ h
theorem owns_base {w : World} {base base' size n : Nat} {e : TypeId} {v : Value} {xs : List Value} (h : w.ownsRow base e size v n xs) (hb : base' ≤ base) : w.ownsRow base' e size v n xs := by
  refine ⟨h.1, ?_⟩
  rcases h.2 with hn | ⟨g, cap, cur, e1, hbg, r⟩
  · exact .inl hn
  · exact .inr ⟨g, cap, cur, e1, by omega, r⟩
theorem newB_length (n i : Nat) (c x0 x1 x2 x3 : UInt8) : (newB n i c [x0, x1, x2, x3]).length = 4 := by
  unfold newB
  split
  · rfl
  · split <;> rfl
end Go.Proofs.Ytefbjhdcmgonbaa
