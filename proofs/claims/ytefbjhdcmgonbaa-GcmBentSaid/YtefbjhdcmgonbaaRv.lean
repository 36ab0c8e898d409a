/-
  The reference of the blocks: Seal, walked.
-/
import Derived.Test.YtefbjhdcmgonbaaRs
import Derived.Test.YtefbjhdcmgonbaaRw2
namespace Go.Proofs.Ytefbjhdcmgonbaa
open Go.RowKit

theorem owns_bytes {w : World} {base n : Nat} {v : Value} {L : List UInt8} (h : w.ownsRow base 42 16 v n (L.map B8)) (hn : 0 < n) :
    ∃ g c, v = .slice (some ⟨g, 0, none⟩) n c ∧ base ≤ g ∧ g < w.heap.size ∧ n ≤ c ∧ Bytes w g 0 L := by
  rcases h.2 with ⟨_, h0⟩ | ⟨g, cap, cur, e, hb, hg, hc, _⟩
  · omega
  · refine ⟨g, cap, e, hb, (Array.getElem?_eq_some_iff.1 hg).1, hc, fun j hj => ?_⟩
    have := h.cells (g := g) (by rw [e]; rfl) j _ (getD_map8 L j hj)
    rw [add_row] at this
    exact this
theorem mul2_ix (k q s c a p : Nat) (h : k = 4 * q + s) (hs : s < 4) (hq : q < 4) (hc : c = 4 * q) (t : Nat) (ti : Int) (hti : ti = (t : Int)) (ht : t < 4) (ha : a = (s + t) % 4) (hp : p = c + a) :
    IntKind.i64.wrap ((k : Int) + ti) = (k : Int) + ti ∧ ((k : Int) + ti) % 4 = (a : Int) ∧ ((k : Int) + ti).tmod 4 = (a : Int) ∧
    IntKind.i64.wrap ((c : Int) + (a : Int)) = (p : Int) ∧ (0 : Int) ≤ (p : Int) ∧ (p : Int) < 16 := by
  subst hti
  have e : ((k : Int) + (t : Int)) % 4 = (a : Int) := by omega
  refine ⟨by rw [IntKind.wrap_i64]; omega, e, ?_, by rw [IntKind.wrap_i64]; omega, by omega, by omega⟩
  rw [Int.tmod_eq_emod_of_nonneg (by omega), e]
theorem sub_ix (k s q : Nat) (hk : k < 16) (hs : s = k % 4) (hq : q = (k + 4 * s) % 16) :
    (k : Int) % 4 = (s : Int) ∧ (k : Int).tmod 4 = (s : Int) ∧ wrap64 (4 * (s : Int)) = 4 * (s : Int) ∧ wrap64 ((k : Int) + 4 * (s : Int)) = (k : Int) + 4 * (s : Int) ∧ ((k : Int) + 4 * (s : Int)) % 16 = (q : Int) ∧ ((k : Int) + 4 * (s : Int)).tmod 16 = (q : Int) ∧
    (0 : Int) ≤ (k : Int) ∧ (k : Int) < 16 ∧ (0 : Int) ≤ (q : Int) ∧ (q : Int) < 16 ∧ (0 : Int) ≤ (k : Int) + 4 * (s : Int) := by
  have e : ((k : Int) + 4 * (s : Int)) % 16 = (q : Int) := by omega
  refine ⟨by omega, ?_, ?_, ?_, e, ?_, by omega, by omega, by omega, by omega, by omega⟩
  · rw [Int.tmod_eq_emod_of_nonneg (by omega)]; omega
  · unfold wrap64; omega
  · unfold wrap64; omega
  · rw [Int.tmod_eq_emod_of_nonneg (by omega), e]
theorem col_ix (k q : Nat) (hk : k < 16) (hq : q = k / 4) : (k : Int) / 4 = (q : Int) ∧ (k : Int).tdiv 4 = (q : Int) ∧ wrap64 ((q : Int) * 4) = ((4 * q : Nat) : Int) ∧ (q : Int) * 4 = ((4 * q : Nat) : Int) := by
  refine ⟨by omega, ?_, ?_, by omega⟩
  · rw [Int.tdiv_eq_ediv_of_nonneg (by omega)]; omega
  · unfold wrap64; omega
theorem Bytes.far {w : World} {g o : Nat} {bs : List UInt8} (h : Bytes w g o bs) {p : Addr} (hp : g ≠ p.block) (u : Value) : Bytes (w.setCell p u) g o bs :=
  fun j hj => (World.cell?_of_block (a := ⟨g, o + j, none⟩) (Below.heap_setCell w p u g hp)).trans (h j hj)
theorem Bytes.grown {w w' : World} {g o : Nat} {bs : List UInt8} {row : Option Nat} (h : Bytes w g o bs) (hg : w.grownBy w' row) (hl : g < w.heap.size) (hr : some g ≠ row) : Bytes w' g o bs :=
  fun j hj => (World.cell?_of_block (a := ⟨g, o + j, none⟩) (hg.block g hl hr)).trans (h j hj)
/-- What stays beside the blocks that are written. -/
structure SFr (w : World) (g4 g5 gk : Nat) (Z X FF : List UInt8) (wr : World) : Prop where
  r : Blk wr g4 42 (Z.map B8)
  t : Blk wr g5 59 (X.map B8)
  k : Bytes wr gk 0 FF
  b : Below w.heap.size w wr
  l : gk < wr.heap.size
theorem SFr.far {w wr : World} {g4 g5 gk : Nat} {Z X FF : List UInt8} (h : SFr w g4 g5 gk Z X FF wr) {p : Addr} (hp : g4 ≠ p.block ∧ g5 ≠ p.block ∧ gk ≠ p.block ∧ w.heap.size ≤ p.block) (u : Value) : SFr w g4 g5 gk Z X FF (wr.setCell p u) :=
  ⟨h.r.far hp.1 u, h.t.far hp.2.1 u, h.k.far hp.2.2.1 u, h.b.setCell hp.2.2.2 u, by simpa using h.l⟩
theorem SFr.alloc {w wr : World} {g4 g5 gk : Nat} {Z X FF : List UInt8} (h : SFr w g4 g5 gk Z X FF wr) (o : Obj) : SFr w g4 g5 gk Z X FF (wr.alloc o) :=
  ⟨h.r.alloc o, h.t.alloc o, h.k.below ((Below.refl _ _).alloc (Nat.le_refl _) o) h.l, h.b.alloc h.b.size o, by simp; exact Nat.lt_succ_of_lt h.l⟩
theorem SFr.below {w wr wx : World} {g4 g5 gk : Nat} {Z X FF : List UInt8} (h : SFr w g4 g5 gk Z X FF wr) (hb : Below wr.heap.size wr wx) : SFr w g4 g5 gk Z X FF wx :=
  ⟨h.r.below hb h.r.lt, h.t.below hb h.t.lt, h.k.below hb h.l, h.b.trans (hb.mono h.b.size), Nat.lt_of_lt_of_le h.l hb.size⟩
theorem SFr.grown {w wr wx : World} {g4 g5 gk g : Nat} {Z X FF : List UInt8} (h : SFr w g4 g5 gk Z X FF wr) (hg : wr.grownBy wx (some g)) (hp : g4 ≠ g ∧ g5 ≠ g ∧ gk ≠ g ∧ w.heap.size ≤ g) : SFr w g4 g5 gk Z X FF wx :=
  ⟨h.r.grown hg (by simp; exact hp.1), h.t.grown hg (by simp; exact hp.2.1), h.k.grown hg h.l (by simp; exact hp.2.2.1), below_new h.b hg hp.2.2.2 h.b.size, Nat.lt_of_lt_of_le h.l hg.size⟩
theorem SFr.new {w wr : World} {g4 g5 gk : Nat} {Z X FF : List UInt8} (h : SFr w g4 g5 gk Z X FF wr) : g4 ≠ wr.heap.size ∧ g5 ≠ wr.heap.size ∧ gk ≠ wr.heap.size ∧ w.heap.size ≤ wr.heap.size := by
  have h1 := h.r.lt
  have h2 := h.t.lt
  have h3 := h.l
  have h4 := h.b.size
  omega
end Go.Proofs.Ytefbjhdcmgonbaa
