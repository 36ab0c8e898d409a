/-
  Plain words for rows of bytes that a call makes: make, append of one byte, what is owned reads as bytes.
-/
import Derived.Test.YtdjhempfpgcigaaDoorProg
import Derived.Test.YtdjhempfpgcigaaDoorFold
import Derived.Maps.AppendAt
import Derived.Deep.AppendLies
namespace Go.Proofs.YtdjhempfpgcigaaDoor
open Go.RowKit

theorem infoB : (Tryd.prog.info? 5).map (fun i => (i.zero, i.size, i.bytes)) = some (some (.int .u8 0), 1, 1) := by kernel_rfl

/-- What the slice value v owns, from block base on, is just these bytes. -/
def Own (w : World) (base : Nat) (v : Value) (bs : List UInt8) : Prop := w.ownsRow base 5 1 v bs.length (bs.map B8)

theorem madeCells_zeros (c : Nat) : madeCells #[.int .u8 0] c = ((List.replicate c (0 : UInt8)).map B8).toArray := by
  have h := toList_madeCells_one (.int .u8 0) c
  apply Array.toList_inj.1
  rw [h, List.map_replicate]; rfl

theorem run_make_bytes (kl kc : IntKind) (n c : Nat) (hnc : n ≤ c) (hc : c ≤ 1099511627776) (w : World) :
    (Instr.makeSlice 26 (.int kl (n : Int)) (.int kc (c : Int))).run Tryd.prog w = .ok (.slice (some ⟨w.heap.size, 0, none⟩) n c) (w.alloc (.cells ((List.replicate c (0 : UInt8)).map B8).toArray 5)) := by
  obtain ⟨i, hi, hz, hs, hb⟩ := info_parts infoB
  have h := run_make (P := Tryd.prog) w 26 5 i (.int .u8 0) Tryd.underlying26 hi hz kl kc n c (by omega) (by omega) (by rw [hb]; omega) (by omega)
  rw [h, hs]
  simp only [Int.toNat_natCast, Nat.mul_one]
  rw [show Value.cells (.int .u8 0) = #[.int .u8 0] from rfl, madeCells_zeros]

theorem Own.form {w : World} {base : Nat} {v : Value} {bs : List UInt8} (h : Own w base v bs) (h0 : 0 < bs.length) :
    ∃ g c, v = .slice (some ⟨g, 0, none⟩) bs.length c ∧ base ≤ g ∧ g < w.heap.size ∧ bs.length ≤ c ∧ c ≤ maxLen ∧ Bytes w g 0 bs := by
  obtain ⟨hlen, hown⟩ := h
  rcases hown with ⟨_, hn⟩ | ⟨g, cap, cur, hv, hb, hg, hnc, hcm, hcs, ht⟩
  · omega
  · have hlt : g < w.heap.size := by
      rcases Nat.lt_or_ge g w.heap.size with hlt | hge
      · exact hlt
      · rw [Array.getElem?_eq_none hge] at hg; cases hg
    refine ⟨g, cap, hv, hb, hlt, hnc, hcm, fun j hj => ?_⟩
    rw [Nat.zero_add, cell_of_row w g j cur _ _ hg]
    have h1 : (cur.toList.take (bs.length * 1))[j]? = some (B8 (bs.getD j 0)) := by rw [ht]; exact getD_map8 bs j hj
    rw [List.getElem?_take] at h1
    split at h1
    · rw [← h1]; simp
    · cases h1
theorem Own.slice {w : World} {base : Nat} {v : Value} {bs : List UInt8} (h : Own w base v bs) :
    ∃ A c, v = .slice A bs.length c ∧ bs.length ≤ c ∧ c ≤ 9223372036854775807 ∧ ∀ g, g < base → Src w g A bs := by
  rcases Nat.eq_zero_or_pos bs.length with h0 | h0
  · rcases h.2 with ⟨hv, _⟩ | ⟨g, cap, cur, hv, _, _, hnc, hcm, _⟩
    · exact ⟨none, 0, by rw [hv, h0], by omega, by omega, fun g _ hp => by omega⟩
    · exact ⟨_, cap, hv, hnc, by simpa [maxLen] using hcm, fun g _ hp => by omega⟩
  · obtain ⟨g, c, hv, hb, _, hc, hcm, hby⟩ := h.form h0
    exact ⟨_, c, hv, hc, by simpa [maxLen] using hcm, fun g' hg' _ => ⟨g, 0, rfl, by omega, hby⟩⟩

theorem Own.alloc {w : World} {base : Nat} {v : Value} {bs : List UInt8} (h : Own w base v bs) (o : Obj) : Own (w.alloc o) base v bs := World.ownsRow.alloc h o
theorem Own.drewN {w : World} {base : Nat} {v : Value} {bs : List UInt8} (h : Own w base v bs) (n : Nat) : Own (w.drewN n) base v bs := h
theorem Own.nil (w : World) (base : Nat) : Own w base (.slice none 0 0) [] := World.ownsRow_nil w base _ 1
theorem Own.made (w : World) (g n c : Nat) (bs zs : List UInt8) (hg : Blk w g 5 ((bs ++ zs).map B8)) (hn : bs.length = n) (hc : bs.length + zs.length = c) (hcm : c ≤ maxLen) (base : Nat) (hb : base ≤ g) :
    Own w base (.slice (some ⟨g, 0, none⟩) n c) bs := by
  subst hn
  refine ⟨by simp, .inr ⟨g, c, _, rfl, hb, hg, by omega, hcm, by simp; omega, ?_⟩⟩
  simp
theorem le_alloc {w : World} {B : Nat} (h : B ≤ w.heap.size) (o : Obj) : B ≤ (w.alloc o).heap.size := by simp; omega
/-- One byte more behind a row of the call's own. -/
theorem wpList_append_byte {ops : Array Oper} {rest : List Oper} {o : Oper} {a : Act} {w : World} {Q : Exit → Act → World → Prop} (hgd : o.guard = none) (s x : Operand)
    (ho : o.op = .call { callee := .builtin .append, args := #[s, x], argTypes := #[26, 26] })
    (base : Nat) (v : Value) (bs : List UInt8) (hs : a.eval s = v) (hown : Own w base v bs)
    (gx : Nat) (y : UInt8) (hx : a.eval x = .slice (some ⟨gx, 0, none⟩) 1 1) (hc : w.cell? ⟨gx, 0, none⟩ = some (B8 y))
    (hn : bs.length ≤ 1099511627776) (hbase : base ≤ w.heap.size)
    (h : ∀ v' w', Own w' base v' (bs ++ [y]) → Below base w w' → w.grownBy w' v.ownBlock → wpList Tryd.prog ops Q rest (a.put o.dst v') w') : wpList Tryd.prog ops Q (o :: rest) a w := by
  obtain ⟨i, hi, hz, hsz, hb⟩ := info_parts infoB
  refine wpList_append_own w hgd s x 26 ho base 5 i (.int .u8 0) 1 1 Tryd.underlying26 hi hz hsz hb rfl (by decide) v bs.length (bs.map B8) hs hown ⟨gx, 0, none⟩ 1 1 [B8 y] hx rfl ?_ ?_ (by simp only [maxLen]; omega) (by omega) hbase ?_
  · intro j u hj
    match j, hj with
    | 0, hj => simp at hj; subst hj; simpa [Addr.add] using hc
    | j + 1, hj => simp at hj
  · intro u hu; simp at hu; subst hu; rfl
  · intro v' w' hown' hg _
    refine h v' w' ?_ ?_ hg
    · have e : (bs ++ [y]).map B8 = bs.map B8 ++ [B8 y] := by simp
      unfold Own
      rw [e, List.length_append]; exact hown'
    · exact ⟨hg.os, hg.tape, hg.output, hg.size, fun k hk => hg.block k (by omega) (fun e => by have := (hown.lt k e.symm).1; omega)⟩
end Go.Proofs.YtdjhempfpgcigaaDoor
