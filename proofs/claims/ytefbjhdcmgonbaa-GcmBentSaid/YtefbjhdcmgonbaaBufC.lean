/-
  (What XIn, XBuf and XEndO say without package hash.) Bytes that came in, below a block; append from whatever source; bytes of a string; a string of bytes.
-/
import Derived.Test.YtefbjhdcmgonbaaBufB
import Derived.Test.YtefbjhdcmgonbaaFold
import Derived.Lib.MinMax
import Derived.Stop.BytesEq
namespace Go.Proofs.Ytefbjhdcmgonbaa
open Go.RowKit

/-- Bytes that came in, below block B. -/
def In (w : World) (B : Nat) (A : Option Addr) (c : Nat) (xs : List UInt8) : Prop := xs.length ≤ c ∧ c ≤ 9223372036854775807 ∧ (0 < xs.length → ∃ gb ob, A = some ⟨gb, ob, none⟩ ∧ gb < B ∧ Bytes w gb ob xs)
theorem In.src {w : World} {B g : Nat} {A : Option Addr} {c : Nat} {xs : List UInt8} (h : In w B A c xs) (hg : B ≤ g) : Src w g A xs := fun h0 => by
  obtain ⟨gb, ob, e, hb, hby⟩ := h.2.2 h0
  exact ⟨gb, ob, e, by omega, hby⟩
theorem In.below {w w' : World} {B : Nat} {A : Option Addr} {c : Nat} {xs : List UInt8} (h : In w B A c xs) (hb : Below B w w') : In w' B A c xs :=
  ⟨h.1, h.2.1, fun h0 => by
    obtain ⟨gb, ob, e, hl, hby⟩ := h.2.2 h0
    exact ⟨gb, ob, e, hl, hby.below hb hl⟩⟩
theorem In.take {w : World} {B : Nat} {A : Option Addr} {c : Nat} {xs : List UInt8} (h : In w B A c xs) (k : Nat) : In w B A c (xs.take k) :=
  ⟨by have := h.1; rw [List.length_take]; omega, h.2.1, fun h0 => by
    obtain ⟨gb, ob, e, hl, hby⟩ := h.2.2 (by rw [List.length_take] at h0; omega)
    exact ⟨gb, ob, e, hl, hby.take k⟩⟩
theorem Src.alloc {w : World} {g : Nat} {A : Option Addr} {xs : List UInt8} (h : Src w g A xs) (o : Obj) : Src (w.alloc o) g A xs := h.keep (grown_alloc (grown_refl _ _) _)

theorem size8 (w : World) : (sizeOf 5).run Try.prog w = .ok 1 w := by
  obtain ⟨i, hi, hz, hs, hb⟩ := info_parts infoB
  simp [sizeOf, typeInfo, hi, hs]
def Parts (w : World) (g : Nat) (A : Option Addr) (ps : List (List UInt8)) : Prop := 0 < ps.length → ∃ gp op, A = some ⟨gp, op, none⟩ ∧ gp ≠ g ∧
  ∀ j, j < ps.length → ∃ Aj cj, w.cell? ⟨gp, op + j, none⟩ = some (.slice Aj (ps.getD j []).length cj) ∧ (ps.getD j []).length ≤ cj ∧ cj ≤ 9223372036854775807 ∧ Src w g Aj (ps.getD j [])
theorem Parts.keep {w w' : World} {g : Nat} {A : Option Addr} {ps : List (List UInt8)} (h : Parts w g A ps) (hg : w.grownBy w' (some g)) : Parts w' g A ps := fun h0 => by
  obtain ⟨gp, op, e, hn, hj⟩ := h h0
  refine ⟨gp, op, e, hn, fun j hjl => ?_⟩
  obtain ⟨Aj, cj, hc, h1, h2, h3⟩ := hj j hjl
  exact ⟨Aj, cj, (World.cell?_of_block (w := w) (a := ⟨gp, op + j, none⟩) (hg.block gp (block_lt_of_cell hc) (by simp; omega))).trans hc, h1, h2, h3.keep hg⟩
theorem cell_past (w : World) (g i j : Nat) (h : i ≠ j) (x : Value) : (w.setCell ⟨g, i, none⟩ x).cell? ⟨g, j, none⟩ = w.cell? ⟨g, j, none⟩ :=
  World.cell?_setCell_other w ⟨g, i, none⟩ ⟨g, j, none⟩ x (fun e => by injection e; omega)
theorem frozen_past (w : World) (p q : Addr) (x : Value) : (w.setCell p x).frozen? q = w.frozen? q := by simp

theorem Buf.src {w : World} {base n c g : Nat} {A : Option Addr} {bs : List UInt8} (h : Buf w base A n c bs) (hg : ∀ k, A = some ⟨k, 0, none⟩ → k ≠ g) : Src w g A bs := fun h0 => by
  rcases h.2 with ⟨_, hn, _⟩ | ⟨k, rfl, _, hlt, _, _, hby, _⟩
  · have := h.1; omega
  · exact ⟨k, 0, rfl, hg k rfl, hby⟩
theorem Buf.toIn {w : World} {base n c B : Nat} {A : Option Addr} {bs : List UInt8} (h : Buf w base A n c bs) (hB : w.heap.size ≤ B) : In w B A c bs := by
  refine ⟨by rw [h.1]; exact h.le.1, h.le.2, fun h0 => ?_⟩
  rcases h.2 with ⟨_, hn, _⟩ | ⟨k, rfl, _, hlt, _, _, hby, _⟩
  · have := h.1; omega
  · exact ⟨k, 0, rfl, by omega, hby⟩
/-- A source of bytes that came in. -/
theorem src_in {w : World} {A : Option Addr} {g c : Nat} {ys : List UInt8} (h : Src w g A ys) (hc : A = none → ys = []) : _root_.Go.Src Try.prog 1 24 (.slice A ys.length c) ys.length (ys.map B8) w := by
  cases A with
  | none =>
    obtain rfl := hc rfl
    exact _root_.Go.Src.ofNil w Try.underlying24 c
  | some ad =>
    refine _root_.Go.Src.ofSlice w Try.underlying24 ad ys.length c _ (by simp) (fun j u hu => ?_) (oneB8 _)
    have hj : j < ys.length := by have := (List.getElem?_eq_some_iff.1 hu).1; simpa using this
    obtain ⟨gb, ob, e, _, hby⟩ := h (by omega)
    rw [getD_map8 ys j hj] at hu
    rw [← Option.some.inj hu, Option.some.inj e, add_row]
    exact hby j hj
theorem src_in' {w : World} {A : Option Addr} {g c : Nat} {ys : List UInt8} (h : Src w g A ys) : _root_.Go.Src Try.prog 1 24 (.slice A ys.length c) ys.length (ys.map B8) w := by
  refine src_in h fun hA => ?_
  rcases Nat.eq_zero_or_pos ys.length with h0 | h0
  · exact List.eq_nil_of_length_eq_zero h0
  · obtain ⟨_, _, e, _⟩ := h h0
    rw [hA] at e; cases e
/-- A source that is a string. -/
theorem src_string (w : World) (s : List UInt8) : _root_.Go.Src Try.prog 1 9 (.string ⟨s.toArray⟩) s.length (s.map B8) w := by
  have h := _root_.Go.Src.ofString (P := Try.prog) w Try.underlying9 ⟨s.toArray⟩
  have e : byteCells ⟨s.toArray⟩ = s.map B8 := by simp [byteCells]
  rw [e] at h
  exact h

theorem bytesRow_at (s : List UInt8) (cap j : Nat) (hj : j < s.length) : (bytesRow ⟨s.toArray⟩ cap)[j]? = some (B8 (s.getD j 0)) := by
  unfold bytesRow
  rw [Array.getElem?_append_left (by simpa using hj)]
  simp [List.getD_eq_getElem?_getD, List.getElem?_eq_getElem hj]
theorem bytesRow_size (s : List UInt8) (cap : Nat) (h : s.length ≤ cap) : (bytesRow ⟨s.toArray⟩ cap).size = cap := by
  have e : (⟨s.toArray⟩ : ByteArray).size = s.length := rfl
  unfold bytesRow
  simp [e]; omega
/-- The bytes of a string: a row of the call's own. -/
theorem wpList_bytes_of {ops : Array Oper} {rest : List Oper} {o : Oper} {a : Act} {w : World} {Q : Exit → Act → World → Prop} (hgd : o.guard = none) (x : Operand) (ho : o.op = .convert 9 24 x)
    (s : List UInt8) (hx : a.eval x = .string ⟨s.toArray⟩) (hn : s.length ≤ 1099511627776)
    (h : ∀ c w', Buf w' w.heap.size (some ⟨w.heap.size, 0, none⟩) s.length c s → Below w.heap.size w w' → wpList Try.prog ops Q rest (a.put o.dst (.slice (some ⟨w.heap.size, 0, none⟩) s.length c)) w') : wpList Try.prog ops Q (o :: rest) a w := by
  refine wpList_plain hgd fun K hK' => ?_
  have hr := run_bytes_of_string (P := Try.prog) w 9 24 5 ⟨s.toArray⟩ Try.underlying9 Try.underlying24 Try.underlying5
  have e : (⟨s.toArray⟩ : ByteArray).size = s.length := rfl
  have h1 := grownCap_ge w s.length 0 5
  have h2 := grownCap_le_maxLen w s.length 0 5 (by simp only [maxLen]; omega)
  rw [e] at hr
  have h3 := bytesRow_size s (grownCap w s.length 0 5) h1
  unfold Oper.wp execOp
  simp only [ho, hx, hr, Sem.run_bind, Result.andThen_ok, Sem.run_pure]
  refine hK' _ _ (h _ _ (Buf.made (w := w.drew) (n := s.length) _ _ _ _ (Nat.le_refl _) rfl h1 h2 h3 (.inl (by rw [h3]; exact Nat.le_refl _)) (fun j hj => bytesRow_at s _ j hj)) ?_)
  exact (below_drewN (Below.refl _ _) 1).alloc (Nat.le_refl _) _
/-- The string of a row of bytes. -/
theorem wpList_string_of {ops : Array Oper} {rest : List Oper} {o : Oper} {a : Act} {w : World} {Q : Exit → Act → World → Prop} (hgd : o.guard = none) (x : Operand) (ho : o.op = .convert 24 9 x)
    (s : List UInt8) (A : Option Addr) (c g : Nat) (hx : a.eval x = .slice A s.length c) (hs : Src w g A s)
    (h : wpList Try.prog ops Q rest (a.put o.dst (.string ⟨s.toArray⟩)) w) : wpList Try.prog ops Q (o :: rest) a w := by
  refine wpList_plain hgd fun K hK' => ?_
  have hr : (convert 24 9 (.slice A s.length c)).run Try.prog w = .ok (.string ⟨s.toArray⟩) w := by
    rcases Nat.eq_zero_or_pos s.length with h0 | h0
    · obtain rfl : s = [] := List.eq_nil_of_length_eq_zero h0
      rw [run_convert_bytes_string w _ _ _ A _ c Try.underlying24 Try.underlying5 Try.underlying9]
      cases A <;> rfl
    · obtain ⟨gb, ob, rfl, _, hby⟩ := hs h0
      refine run_convert_bytes_back w 24 9 5 ⟨gb, ob, none⟩ c s Try.underlying24 Try.underlying5 Try.underlying9 (fun j hj => ?_)
      rw [add_row, hby j hj]
      simp [List.getD_eq_getElem?_getD, List.getElem?_eq_getElem hj]
  unfold Oper.wp execOp
  simp only [ho, hx, hr, Sem.run_bind, Result.andThen_ok, Sem.run_pure]
  exact hK' _ _ h
theorem conv_in {W : World} {B n c : Nat} {A : Option Addr} {y : List UInt8} (hn : y.length = n) (h : In W B A c y) : (convert 24 9 (.slice A n c)).run Try.prog W = .ok (.string ⟨y.toArray⟩) W := by
  subst hn
  rcases Nat.eq_zero_or_pos y.length with h0 | h0
  · obtain rfl : y = [] := List.eq_nil_of_length_eq_zero h0
    rw [run_convert_bytes_string W _ _ _ A _ c Try.underlying24 Try.underlying5 Try.underlying9]
    cases A <;> rfl
  · obtain ⟨gb, ob, rfl, _, hby⟩ := h.2.2 h0
    refine run_convert_bytes_back W 24 9 5 ⟨gb, ob, none⟩ c y Try.underlying24 Try.underlying5 Try.underlying9 (fun j hj => ?_)
    rw [add_row, hby j hj]
    simp [List.getD_eq_getElem?_getD, List.getElem?_eq_getElem hj]
theorem bytes_append (x y : List UInt8) : (⟨x.toArray⟩ ++ ⟨y.toArray⟩ : ByteArray) = ⟨(x ++ y).toArray⟩ := by
  apply ByteArray.ext
  simp
theorem in_weak {w : World} {B B' c : Nat} {A : Option Addr} {xs : List UInt8} (h : In w B A c xs) (hB : B ≤ B') : In w B' A c xs :=
  ⟨h.1, h.2.1, fun h0 => by
    obtain ⟨gb, ob, e, hb, hby⟩ := h.2.2 h0
    exact ⟨gb, ob, e, by omega, hby⟩⟩
theorem in_up {w w' : World} {c : Nat} {A : Option Addr} {xs : List UInt8} (h : In w w.heap.size A c xs) (hb : Below w.heap.size w w') : In w' w'.heap.size A c xs := in_weak (h.below hb) hb.size
theorem in_blk {w : World} {g n : Nat} {t : TypeId} {xs : List UInt8} (h : Blk w g t (xs.map B8)) (hn : xs.length = n) (hm : n < 1000) : In w w.heap.size (some ⟨g, 0, none⟩) n xs :=
  ⟨by omega, by omega, fun _ => ⟨g, 0, rfl, h.lt, fun j hj => by rw [Nat.zero_add]; exact h.at8 j hj⟩⟩
theorem in_of_blk {w W : World} {g n : Nat} {t : TypeId} {xs : List UInt8} (h : Blk w g t (xs.map B8)) (hn : xs.length = n) (hm : n < 1000) (hb : Below w.heap.size w W) : In W W.heap.size (some ⟨g, 0, none⟩) n xs := in_blk (h.below hb h.lt) hn hm
theorem in_nil (w : World) (c : Nat) (hc : c ≤ 9223372036854775807) (A : Option Addr) : In w w.heap.size A c [] := ⟨Nat.zero_le _, hc, fun h => absurd h (by simp)⟩
end Go.Proofs.Ytefbjhdcmgonbaa
