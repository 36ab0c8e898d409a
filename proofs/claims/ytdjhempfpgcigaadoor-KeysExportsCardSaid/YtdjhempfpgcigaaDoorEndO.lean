/-
  Plain words for a statement's last line: what the worlds behind its calls have in common.
-/
import Derived.Test.YtdjhempfpgcigaaDoorKeep
import Derived.Lib.SlBytesConst
import Derived.Lib.SmallJoins
import Derived.Deep.RegionHeld3
namespace Go.Proofs.YtdjhempfpgcigaaDoor
open Go.RowKit

section
variable {w0 W W' : World} {g : Nat} {cs : List Value}
theorem held_step (hg : g < w0.heap.size) (h : W.rangeAt g 0 cs ∧ Below w0.heap.size w0 W) (hb : Below W.heap.size W W') : W'.rangeAt g 0 cs ∧ Below w0.heap.size w0 W' :=
  ⟨fun j v hv => (hb.cell (p := ⟨g, 0 + j, none⟩) (Nat.lt_of_lt_of_le hg h.2.size)).trans (h.1 j v hv), h.2.trans (hb.mono h.2.size)⟩
theorem held_alloc (hg : g < w0.heap.size) (h : W.rangeAt g 0 cs ∧ Below w0.heap.size w0 W) (o : Obj) : (W.alloc o).rangeAt g 0 cs ∧ Below w0.heap.size w0 (W.alloc o) :=
  held_step hg h ((Below.refl _ _).alloc (Nat.le_refl _) o)
theorem held_drew (h : W.rangeAt g 0 cs ∧ Below w0.heap.size w0 W) : W.drew.rangeAt g 0 cs ∧ Below w0.heap.size w0 W.drew := ⟨fun j v hv => h.1 j v hv, below_drewN h.2 1⟩
end
theorem u64_wrap_nat (n : Int) : IntKind.u64.wrap n = ((n % 18446744073709551616).toNat : Int) := by
  simp [IntKind.wrap, IntKind.signed, IntKind.bits]
  omega
/-- One part, in the world behind the making of the row of parts. -/
theorem parts_in {W : World} {B g gp k c : Nat} {A : Option Addr} {b : List UInt8} (hl : b.length = k) (hc : W.cell? ⟨gp, 0, none⟩ = some (.slice A k c)) (h : In W B A c b) (hB : B ≤ g) (hg : W.heap.size ≤ g) : Parts W g (some ⟨gp, 0, none⟩) [b] := by
  subst hl
  exact Parts.one hc (by have := block_lt_of_cell hc; simp only at this; omega) h.1 h.2.1 (h.src hB)
theorem of_one {W : World} {B gp k c : Nat} {A : Option Addr} {b : List UInt8} (hl : b.length = k) (hn : k < 549755813888) (ht : Tabs W) (hc : W.cell? ⟨gp, 0, none⟩ = some (.slice A k c)) (h : In W B A c b) (hB : B ≤ W.heap.size) :
    Calls Tryd.prog 25 #[.slice (some ⟨gp, 0, none⟩) 1 1] W fun e w' => e = .returned (.agg ((sha b).map B8).toArray) ∧ Below W.heap.size W w' := by
  have := Of_any 1 (some ⟨gp, 0, none⟩) [b] W (by simp; omega) (by simp) (by omega) (fun g hg => parts_in hl hc h (by omega) hg) ht
  simpa using this
theorem conv_row {W : World} {g : Nat} {y : List UInt8} {n : Nat} (hn : y.length = n) (h : W.rangeAt g 0 (y.map B8)) (c : Nat) : (convert 26 9 (.slice (some ⟨g, 0, none⟩) n c)).run Tryd.prog W = .ok (.string ⟨y.toArray⟩) W := by
  subst hn
  refine run_convert_bytes_back W 26 9 5 ⟨g, 0, none⟩ c y Tryd.underlying26 Tryd.underlying5 Tryd.underlying9 (fun j hj => ?_)
  rw [add_row, h j (B8 y[j]) (by simp [hj])]
theorem conv_in {W : World} {B n c : Nat} {A : Option Addr} {y : List UInt8} (hn : y.length = n) (h : In W B A c y) : (convert 26 9 (.slice A n c)).run Tryd.prog W = .ok (.string ⟨y.toArray⟩) W := by
  subst hn
  rcases Nat.eq_zero_or_pos y.length with h0 | h0
  · obtain rfl : y = [] := List.eq_nil_of_length_eq_zero h0
    rw [run_convert_bytes_string W _ _ _ A _ c Tryd.underlying26 Tryd.underlying5 Tryd.underlying9]
    cases A <;> rfl
  · obtain ⟨gb, ob, rfl, _, hby⟩ := h.2.2 h0
    refine run_convert_bytes_back W 26 9 5 ⟨gb, ob, none⟩ c y Tryd.underlying26 Tryd.underlying5 Tryd.underlying9 (fun j hj => ?_)
    rw [add_row, hby j hj]
    simp [List.getD_eq_getElem?_getD, List.getElem?_eq_getElem hj]
theorem bytes_append (x y : List UInt8) : (⟨x.toArray⟩ ++ ⟨y.toArray⟩ : ByteArray) = ⟨(x ++ y).toArray⟩ := by
  apply ByteArray.ext
  simp
end Go.Proofs.YtdjhempfpgcigaaDoor
