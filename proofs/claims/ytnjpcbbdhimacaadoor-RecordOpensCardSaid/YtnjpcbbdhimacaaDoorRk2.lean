/-
 Two halves beside each other; rows of numbers that come in.
-/
import Derived.Test.YtnjpcbbdhimacaaDoorRx2
namespace Go.Proofs.YtnjpcbbdhimacaaDoor
open Go.RowKit Go.ChangeShapes Go.WideShapes Go.ChangeAt

theorem blk_ne {w : World} {g g' : Nat} {t t' : TypeId} {cs cs' : List Value} (h : Blk w g t cs) (h' : Blk w g' t' cs') (ht : t ≠ t') : g ≠ g' := fun e => by
 subst e
 have := h.symm.trans h'
 injection this with this
 injection this with _ h2 _
 exact ht h2
theorem HalfAt.grown {w w' : World} {gh gx gk gr R u g : Nat} {L : List UInt32} {iv : List UInt8} {cs : List Value} (h : HalfAt w gh gx gk gr R L iv u) (hh : Blk w g 74 cs) (hg : w.grownBy w' (some g)) (hne : gh ≠ g) : HalfAt w' gh gx gk gr R L iv u :=
 ⟨h.half.grown hg (by simpa using hne), h.box.grown hg (blk_ne h.box.box hh (by decide)) (blk_ne h.box.key.key hh (by decide)) (blk_ne h.box.key.rounds hh (by decide)), h.len, h.far⟩
/-- Numbers that came in. -/
def IIn (w : World) (B : Nat) (A : Option Addr) (c n : Nat) (zs : List Int) : Prop := n ≤ c ∧ c ≤ 9223372036854775807 ∧ (0 < n → ∃ gb ob, A = some ⟨gb, ob, none⟩ ∧ gb < B ∧ ∀ j, j < n → w.cell? ⟨gb, ob + j, none⟩ = some (.int .i64 (zs.getD j 0)))
theorem IIn.below {w w' : World} {B : Nat} {A : Option Addr} {c n : Nat} {bs : List Int} (h : IIn w B A c n bs) (hb : Below B w w') : IIn w' B A c n bs :=
 ⟨h.1, h.2.1, fun h0 => by
  obtain ⟨gb, ob, e, hl, hj⟩ := h.2.2 h0
  exact ⟨gb, ob, e, hl, fun j hjn => (hb.cell (p := ⟨gb, ob + j, none⟩) hl).trans (hj j hjn)⟩⟩
/-- A slice of numbers that reads comes in as numbers. -/
theorem iin_of_trod {H : Type} {enc : TypeId × Value → H} {W : World} {a : Option Addr} {len cap : Nat} {d : DataW H} {p : List MemPlace}
  (h : DataW.Trod enc Tryd.prog W 0 (fun _ => true) true 43 (.slice a len cap) d p) : ∃ zs : List Int, IIn W W.heap.size a cap len zs := by
 obtain ⟨fuel, hf⟩ := h
 rcases open_ints Tryd.underlying43 Tryd.underlying3 (by kernel_rfl) hf with ⟨hcs, _⟩ | ⟨x, l, c, zs, hcs, _, hl, hm, hz, _, hcell, hwz⟩
 ·
  simp [Value.cells] at hcs
  obtain ⟨rfl, rfl, rfl⟩ := hcs
  exact ⟨[], by omega, by omega, fun h => absurd h (by simp)⟩
 ·
  simp [Value.cells] at hcs
  obtain ⟨rfl, rfl, rfl⟩ := hcs
  have hzc : zs.length = cap := by simpa using hz
  refine ⟨zs, hl, by simpa [maxLen] using hm, fun h0 => ?_⟩
  obtain ⟨b, off, rfl, hc⟩ := ints_at hcell (by omega)
  exact ⟨b, off, rfl, block_lt_of_cell (hc 0 (by omega)), fun j hj => hc j (by omega)⟩
end Go.Proofs.YtnjpcbbdhimacaaDoor
