/-
  Bytes that come in, and a copy of them.
-/
import Derived.Test.YtpieepaggfiajaaSealsW
import Derived.Test.YtpieepaggfiajaaNarrB
import Derived.Lib.MinMax
namespace Go.Proofs.Ytpieepaggfiajaa
open Go.ChangeShapes Go.WideShapes Go.ChangeAt Go.RowKit

theorem src_ink {w : World} {B c n : Nat} {A : Option Addr} {xs : List UInt8} (h : InK w B A c xs) (hn : xs.length = n) : _root_.Go.Src Try.prog 1 24 (.slice A n c) n (xs.map B8) w := by
  subst hn
  rcases Nat.eq_zero_or_pos xs.length with h0 | h0
  · obtain rfl := List.eq_nil_of_length_eq_zero h0
    cases A with
    | none => exact _root_.Go.Src.ofNil w Try.underlying24 c
    | some a => exact _root_.Go.Src.ofSlice w Try.underlying24 a 0 c [] (by simp) (fun j u hu => by simp at hu) (fun u hu => by simp at hu)
  · obtain ⟨gb, ob, rfl, _, hby⟩ := h.2.2 h0
    refine _root_.Go.Src.ofSlice w Try.underlying24 ⟨gb, ob, none⟩ xs.length c _ (by simp) (fun j u hu => ?_) (oneB8 _)
    have hj : j < xs.length := by have := (List.getElem?_eq_some_iff.1 hu).1; simpa using this
    rw [getD_map8 xs j hj] at hu
    rw [← Option.some.inj hu, add_row]
    exact hby j hj
theorem InK.take {w : World} {B : Nat} {A : Option Addr} {c : Nat} {xs : List UInt8} (h : InK w B A c xs) (k : Nat) : InK w B A c (xs.take k) :=
  ⟨Nat.le_trans (by rw [List.length_take]; omega) h.1, h.2.1, fun h0 => by
    obtain ⟨gb, ob, e, hl, hby⟩ := h.2.2 (by rw [List.length_take] at h0; omega)
    refine ⟨gb, ob, e, hl, fun j hj => ?_⟩
    rw [List.length_take] at hj
    rw [hby j (by omega)]
    congr 3
    rw [List.getD_eq_getElem?_getD, List.getD_eq_getElem?_getD, List.getElem?_take, if_pos (by omega)]⟩
theorem buf_empty (w : World) : Buf (w.alloc (.cells #[] 5)) w.heap.size (some ⟨w.heap.size, 0, none⟩) 0 0 [] :=
  Buf.made (w := w) #[] 5 0 0 (Nat.le_refl _) rfl (Nat.le_refl _) (by decide) rfl (.inr rfl) (fun j hj => by omega)
structure RowOk (w : World) (g n : Nat) : Prop where
  l : g < w.heap.size
  c : ∀ j, j < n → ∃ y : UInt8, w.cell? ⟨g, j, none⟩ = some (.int .u8 (y.toNat : Int))
  f : ∀ j, j < n → w.frozen? ⟨g, j, none⟩ = false
theorem RowOk.set {w : World} {g n : Nat} (h : RowOk w g n) (i : Nat) (v : UInt8) : RowOk (w.setCell ⟨g, i, none⟩ (.int .u8 (v.toNat : Int))) g n := by
  refine ⟨by simpa using h.l, fun j hj => ?_, fun j hj => ?_⟩
  · by_cases hji : j = i
    · subst hji
      have h1 : ∀ k, k < [Value.int .u8 (v.toNat : Int)].length → (w.cell? ⟨g, j + k, none⟩).isSome = true := fun k hk => by
        have h0 : k = 0 := by simpa using hk
        subst h0
        obtain ⟨y, hy⟩ := h.c j hj
        rw [Nat.add_zero, hy]; rfl
      exact ⟨v, World.cell?_setCells_in g [.int .u8 (v.toNat : Int)] j w h1 0 (by simp)⟩
    · obtain ⟨y, hy⟩ := h.c j hj
      have h1 := World.cell?_setCells_out g [.int .u8 (v.toNat : Int)] i w ⟨g, j, none⟩ (fun _ _ => by
        show j < i ∨ i + 1 ≤ j
        omega)
      exact ⟨y, h1.trans hy⟩
  · have := World.frozen?_setCells g [.int .u8 (v.toNat : Int)] i w ⟨g, j, none⟩
    exact this.trans (h.f j hj)
theorem Buf.ok {w : World} {base n c g : Nat} {bs : List UInt8} (h : Buf w base (some ⟨g, 0, none⟩) n c bs) (_h0 : 0 < n) : RowOk w g n := by
  rcases h.2 with ⟨e, _⟩ | ⟨k, e, hb, hlt, h1, h2, hby, hall⟩
  · cases e
  · injection e with e; injection e with e; subst e
    refine ⟨hlt, fun j hj => ⟨bs.getD j 0, ?_⟩, fun j hj => (hall j (by omega)).2⟩
    have := hby j (by rw [h.1]; exact hj)
    rw [Nat.zero_add] at this
    exact this
theorem RowOk.below {w w' : World} {g n : Nat} (h : RowOk w g n) (hb : Below w.heap.size w w') : RowOk w' g n :=
  ⟨Nat.lt_of_lt_of_le h.l hb.size, fun j hj => by
    obtain ⟨y, hy⟩ := h.c j hj
    exact ⟨y, (World.cell?_of_block (a := ⟨g, j, none⟩) (hb.block g h.l)).trans hy⟩, fun j hj => (World.frozen?_of_block (a := ⟨g, j, none⟩) (hb.block g h.l)).trans (h.f j hj)⟩
theorem Buf.toInK {w : World} {base n c B0 : Nat} {A : Option Addr} {bs : List UInt8} (h : Buf w base A n c bs) (hB : w.heap.size ≤ B0) : InK w B0 A c bs := by
  refine ⟨by rw [h.1]; exact h.le.1, h.le.2, fun h0 => ?_⟩
  rcases h.2 with ⟨_, hn, _⟩ | ⟨k, rfl, _, hlt, _, _, hby, _⟩
  · have := h.1; omega
  · exact ⟨k, 0, rfl, by omega, hby⟩
theorem not_round {w : World} {gk gr g1 n R : Nat} {L : List UInt32} (hk : KeyAt w gk gr R L) (h : RowOk w g1 n) (h0 : 0 < n) (hR : 0 < R) : g1 ≠ gr := by
  intro e
  subst e
  obtain ⟨y, hy⟩ := h.c 0 h0
  have hl := hk.len
  have := hk.rounds.at32 0 (by omega)
  rw [hy] at this
  cases this
theorem r_xor255 (a : UInt8) : bits .xor .u8 (a.toNat : Int) 255 = ((a ^^^ 255).toNat : Int) := r_xor a 255
theorem none_any (w : World) : Calls Try.prog 12 #[] w fun e w' => e = .returned (.pointer none) ∧ w' = w := by
  go_enter Try.func12, Try.ntmps12
  go_wp2
  go_ret
  exact ⟨rfl, rfl⟩
/-- A slice of bytes that reads comes in as bytes. -/
theorem ink_of_trod {H : Type} {enc : TypeId × Value → H} {W : World} {a : Option Addr} {len cap : Nat} {d : DataW H} {p : List MemPlace}
    (h : DataW.Trod enc Try.prog W 0 (fun _ => true) true 24 (.slice a len cap) d p) : ∃ xs : List UInt8, xs.length = len ∧ InK W W.heap.size a cap xs := by
  obtain ⟨fuel, hf⟩ := h
  rcases open_ints Try.underlying24 Try.underlying5 (by kernel_rfl) hf with ⟨hcs, _⟩ | ⟨x, l, c, zs, hcs, _, hl, hm, hz, _, hcell, hwz⟩
  · simp [Value.cells] at hcs
    obtain ⟨rfl, rfl, rfl⟩ := hcs
    exact ⟨[], rfl, by simp, by omega, fun h => absurd h (by simp)⟩
  · simp [Value.cells] at hcs
    obtain ⟨rfl, rfl, rfl⟩ := hcs
    have hzc : zs.length = cap := by simpa using hz
    refine ⟨(zs.take len).map fun n => UInt8.ofNat n.toNat, by simp; omega, by simp; omega, by simpa [maxLen] using hm, fun h0 => ?_⟩
    have h0' : 0 < zs.length := by simp at h0; omega
    obtain ⟨b, off, rfl, hc⟩ := ints_at hcell h0'
    refine ⟨b, off, rfl, block_lt_of_cell (hc 0 h0'), fun j hj => ?_⟩
    have hj' : j < zs.length := by simp at hj; omega
    have hjl : j < len := by simp at hj; omega
    rw [hc j hj']
    have hw := hwz (zs.getD j 0) (by rw [List.getD_eq_getElem?_getD, List.getElem?_eq_getElem hj']; exact List.getElem_mem _)
    have hb : 0 ≤ zs.getD j 0 ∧ zs.getD j 0 ≤ 255 := by simpa [Lit.wf, IntKind.min, IntKind.max, IntKind.signed, IntKind.bits] using hw
    have e : ((zs.take len).map fun n => UInt8.ofNat n.toNat).getD j 0 = UInt8.ofNat (zs.getD j 0).toNat := by
      simp [List.getD_eq_getElem?_getD, hjl, List.getElem?_eq_getElem hj']
    rw [e]
    have e2 : ((UInt8.ofNat (zs.getD j 0).toNat).toNat : Int) = zs.getD j 0 := by
      rw [UInt8.toNat_ofNat']
      omega
    rw [e2]
end Go.Proofs.Ytpieepaggfiajaa
