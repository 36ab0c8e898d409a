/-
  Plain words for what comes in: bytes below a block, parts of one, two and three slices; the comparison of sums.
-/
import Derived.Test.YtdjhempfpgcigaaDoorSum
import Derived.Lib.MinMax
import Derived.Stop.BytesEq
namespace Go.Proofs.YtdjhempfpgcigaaDoor
open Go.RowKit

/-- Bytes that came in, below block B. -/
def In (w : World) (B : Nat) (A : Option Addr) (c : Nat) (xs : List UInt8) : Prop := xs.length ≤ c ∧ c ≤ 9223372036854775807 ∧ (0 < xs.length → ∃ gb ob, A = some ⟨gb, ob, none⟩ ∧ gb < B ∧ Bytes w gb ob xs)
theorem In.src {w : World} {B g : Nat} {A : Option Addr} {c : Nat} {xs : List UInt8} (h : In w B A c xs) (hg : B ≤ g) : Src w g A xs := fun h0 => by
  obtain ⟨gb, ob, e, hb, hby⟩ := h.2.2 h0
  exact ⟨gb, ob, e, by omega, hby⟩
theorem In.below {w w' : World} {B : Nat} {A : Option Addr} {c : Nat} {xs : List UInt8} (h : In w B A c xs) (hb : Below B w w') : In w' B A c xs :=
  ⟨h.1, h.2.1, fun h0 => by
    obtain ⟨gb, ob, e, hl, hby⟩ := h.2.2 h0
    exact ⟨gb, ob, e, hl, hby.below hb hl⟩⟩
theorem In.take {w : World} {B : Nat} {A : Option Addr} {c : Nat} {xs : List UInt8} (h : In w B A c xs) (k : Nat) : In w B A c (xs.take k) :=
  ⟨by have := h.1; rw [List.length_take]; omega, h.2.1, fun h0 => by
    obtain ⟨gb, ob, e, hl, hby⟩ := h.2.2 (by rw [List.length_take] at h0; omega)
    exact ⟨gb, ob, e, hl, hby.take k⟩⟩
theorem Src.alloc {w : World} {g : Nat} {A : Option Addr} {xs : List UInt8} (h : Src w g A xs) (o : Obj) : Src (w.alloc o) g A xs := h.keep (grown_alloc (grown_refl _ _) _)

theorem parts1 {w : World} {B g : Nat} {A : Option Addr} {c : Nat} {b : List UInt8} (t : TypeId) (h : In w B A c b) (hg : g ≠ w.heap.size) (hB : B ≤ g) :
    Parts (w.alloc (.cells #[.slice A b.length c] t)) g (some ⟨w.heap.size, 0, none⟩) [b] := fun _ =>
  ⟨w.heap.size, 0, rfl, by omega, fun j hj => by
    have hC := Blk.new_of w t #[.slice A b.length c] _ rfl
    obtain rfl : j = 0 := by have : j < 1 := hj; omega
    exact ⟨A, c, hC.cell 0, h.1, h.2.1, (h.src hB).alloc _⟩⟩
theorem parts2 {w : World} {B g : Nat} {A A' : Option Addr} {c c' : Nat} {b b' : List UInt8} (t : TypeId) (h : In w B A c b) (h' : In w B A' c' b') (hg : g ≠ w.heap.size) (hB : B ≤ g) :
    Parts (w.alloc (.cells #[.slice A b.length c, .slice A' b'.length c'] t)) g (some ⟨w.heap.size, 0, none⟩) [b, b'] := fun _ =>
  ⟨w.heap.size, 0, rfl, by omega, fun j hj => by
    have hC := Blk.new_of w t #[.slice A b.length c, .slice A' b'.length c'] _ rfl
    obtain rfl | rfl : j = 0 ∨ j = 1 := by have : j < 2 := hj; omega
    · exact ⟨A, c, hC.cell 0, h.1, h.2.1, (h.src hB).alloc _⟩
    · exact ⟨A', c', hC.cell 1, h'.1, h'.2.1, (h'.src hB).alloc _⟩⟩
theorem parts3 {w : World} {B g : Nat} {A A' A'' : Option Addr} {c c' c'' : Nat} {b b' b'' : List UInt8} (t : TypeId) (h : In w B A c b) (h' : In w B A' c' b') (h'' : In w B A'' c'' b'') (hg : g ≠ w.heap.size) (hB : B ≤ g) :
    Parts (w.alloc (.cells #[.slice A b.length c, .slice A' b'.length c', .slice A'' b''.length c''] t)) g (some ⟨w.heap.size, 0, none⟩) [b, b', b''] := fun _ =>
  ⟨w.heap.size, 0, rfl, by omega, fun j hj => by
    have hC := Blk.new_of w t #[.slice A b.length c, .slice A' b'.length c', .slice A'' b''.length c''] _ rfl
    obtain rfl | rfl | rfl : j = 0 ∨ j = 1 ∨ j = 2 := by have : j < 3 := hj; omega
    · exact ⟨A, c, hC.cell 0, h.1, h.2.1, (h.src hB).alloc _⟩
    · exact ⟨A', c', hC.cell 1, h'.1, h'.2.1, (h'.src hB).alloc _⟩
    · exact ⟨A'', c'', hC.cell 2, h''.1, h''.2.1, (h''.src hB).alloc _⟩⟩
theorem HeldN.lt {w : World} {g : Nat} {t : TypeId} {m : List UInt8} (h : HeldN w g t m) : g < w.heap.size := by
  obtain ⟨_, _, _, hs, _⟩ := h; exact hs.lt
theorem HeldN.below {w w' : World} {g : Nat} {t : TypeId} {m : List UInt8} (h : HeldN w g t m) (hb : Below w.heap.size w w') : HeldN w' g t m := by
  obtain ⟨s, R, hR, hs, hm⟩ := h
  exact ⟨s, R, hR, hs.below hb hs.lt, hm⟩
theorem HeldN.grown {w w' : World} {g g' : Nat} {t : TypeId} {m : List UInt8} (h : HeldN w g t m) (hb : w.grownBy w' (some g')) (hne : g ≠ g') : HeldN w' g t m := by
  obtain ⟨s, R, hR, hs, hm⟩ := h
  exact ⟨s, R, hR, hs.grown hb (by simpa using hne), hm⟩
theorem HeldN.alloc {w : World} {g : Nat} {t : TypeId} {m : List UInt8} (h : HeldN w g t m) (o : Obj) : HeldN (w.alloc o) g t m := h.below ((Below.refl _ _).alloc (Nat.le_refl _) _)

theorem size8 (w : World) : (sizeOf 5).run Tryd.prog w = .ok 1 w := by
  obtain ⟨i, hi, hz, hs, hb⟩ := info_parts infoB
  simp [sizeOf, typeInfo, hi, hs]
theorem eq32 (L : List UInt8) (h : L.length = 32) (W : World) : (binOp .eql 22 (.agg (L.map B8).toArray) (.agg (L.map B8).toArray)).run Tryd.prog W = .ok (.bool true) W := by
  have := run_eql_bytes (P := Tryd.prog) W 22 5 32 Tryd.underlying22 Tryd.underlying5 size8 L L h h
  rw [beq_self_eq_true] at this
  exact this

end Go.Proofs.YtdjhempfpgcigaaDoor
