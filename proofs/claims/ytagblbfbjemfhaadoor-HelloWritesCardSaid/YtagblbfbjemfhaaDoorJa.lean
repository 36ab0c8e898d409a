/-
  Rows of strings; the reference's message in memory; the law's short and func1.
-/
import Derived.Test.YtagblbfbjemfhaaDoorIe
namespace Go.Proofs.YtagblbfbjemfhaaDoor
open Go.RowKit
open HelloMath (Msg)

theorem infoStr : (Tryd.prog.info? 9).map (fun i => (i.zero, i.size, i.bytes)) = some (some (.string ⟨#[]⟩), 1, 16) := by kernel_rfl
/-- Strings of the call's own, behind a slice of its own. -/
def Strs (w : World) (base : Nat) (v : Value) (ps : List (List UInt8)) : Prop := w.ownsRow base 9 1 v ps.length (ps.map fun p => .string ⟨p.toArray⟩)
theorem Strs.nil (w : World) (base : Nat) : Strs w base (.slice none 0 0) [] := World.ownsRow_nil w base _ 1
theorem Strs.below {w w' : World} {base : Nat} {v : Value} {ps : List (List UInt8)} (h : Strs w base v ps) (hg : Below w.heap.size w w') : Strs w' base v ps :=
  World.ownsRow.kept h (grown_of_below hg none) (by
    cases e : v.ownBlock with
    | none => exact .inl rfl
    | some k => exact .inr (by simp))
theorem Strs.row {w : World} {base : Nat} {v : Value} {ps : List (List UInt8)} (h : Strs w base v ps) (h0 : 0 < ps.length) : ∃ gp c, v = .slice (some ⟨gp, 0, none⟩) ps.length c ∧ ps.length ≤ c ∧ c ≤ 9223372036854775807 ∧ base ≤ gp ∧ gp < w.heap.size ∧
    ∀ j, j < ps.length → w.cell? ⟨gp, j, none⟩ = some (.string ⟨(ps.getD j []).toArray⟩) := by
  rcases h.2 with ⟨_, h1⟩ | ⟨g, cap, cur, rfl, hb, hg, hnc, hcm, hcs, ht⟩
  · omega
  · have hlt : g < w.heap.size := by
      rcases Nat.lt_or_ge g w.heap.size with hlt | hge
      · exact hlt
      · rw [Array.getElem?_eq_none hge] at hg; cases hg
    refine ⟨g, cap, rfl, hnc, by simpa [maxLen] using hcm, hb, hlt, fun j hj => ?_⟩
    rw [World.ownsRow.cellAt h j (by omega), List.getElem?_map, List.getElem?_eq_getElem hj, List.getD_eq_getElem?_getD, List.getElem?_eq_getElem hj]
    rfl
theorem wpList_append_str {ops : Array Oper} {rest : List Oper} {o : Oper} {a : Act} {w0 w : World} {Q : Exit → Act → World → Prop} (hgd : o.guard = none) (s x : Operand)
    (ho : o.op = .call { callee := .builtin .append, args := #[s, x], argTypes := #[23, 23] })
    (base : Nat) (v : Value) (ps : List (List UInt8)) (hs : a.eval s = v) (hv : Strs w0 base v ps) (hbl : Below w0.heap.size w0 w) (hbase : base ≤ w0.heap.size)
    (gx : Nat) (hx : a.eval x = .slice (some ⟨gx, 0, none⟩) 1 1) (y : List UInt8) (hc : w.cell? ⟨gx, 0, none⟩ = some (.string ⟨y.toArray⟩))
    (hn : ps.length ≤ 1000000)
    (h : ∀ v' w', Strs w' base v' (ps ++ [y]) → Below base w w' → wpList Tryd.prog ops Q rest (a.put o.dst v') w') : wpList Tryd.prog ops Q (o :: rest) a w := by
  obtain ⟨i, hi, hz, hsz, hby⟩ := info_parts infoStr
  have hown : Strs w base v ps := hv.below hbl
  have hlt : ∀ k, v.ownBlock = some k → base ≤ k ∧ k < w.heap.size := World.ownsRow.lt hown
  have hsize := hbl.size
  refine wpList_append_lies w hgd s x 23 ho base 9 i _ 1 16 Tryd.underlying23 hi hz hsz hby rfl (by decide) v ps.length _ hs hown ⟨gx, 0, none⟩ 1 1 [.string ⟨y.toArray⟩] hx rfl ?_ ?_ (by decide) (by simp only [maxLen]; omega) (by omega) (by omega) w.heap.size rfl ?_
  · intro j u hj
    match j, hj with
    | 0, hj => simp at hj; subst hj; simpa [Addr.add] using hc
    | j + 1, hj => simp at hj
  · intro u hu; simp at hu; subst hu; rfl
  · intro g cap w' hown' hg hgo hlt'
    refine h _ w' ?_ ⟨hg.os, hg.tape, hg.output, hg.size, fun k hk => hg.block k (by omega) (fun e => by have := (hlt k e.symm).1; omega)⟩
    unfold Strs
    rw [List.length_append, List.map_append]
    exact hown'
theorem extract_to (b : List UInt8) (m : Nat) : (⟨b.toArray⟩ : ByteArray).extract 0 m = ⟨(b.take m).toArray⟩ := by
  apply ByteArray.ext
  rw [ByteArray.data_extract]
  simp
/-- strings that somebody may read -/
def StrR (w : World) (v : Value) (ps : List (List UInt8)) : Prop := ∃ A c, v = .slice A ps.length c ∧ (ps.length ≤ c ∧ c ≤ 9223372036854775807) ∧ (0 < ps.length → ∃ g o, A = some ⟨g, o, none⟩ ∧ g < w.heap.size ∧ ∀ j, j < ps.length → w.cell? ⟨g, o + j, none⟩ = some (.string ⟨(ps.getD j []).toArray⟩))
theorem StrR.below {w w' : World} {v : Value} {ps : List (List UInt8)} (h : StrR w v ps) (hb : Below w.heap.size w w') : StrR w' v ps := by
  obtain ⟨A, c, e, hl, h⟩ := h
  refine ⟨A, c, e, hl, fun h0 => ?_⟩
  obtain ⟨g, o, eA, hg, hj⟩ := h h0
  exact ⟨g, o, eA, Nat.lt_of_lt_of_le hg hb.size, fun j hjl => (hb.cell (p := ⟨g, o + j, none⟩) hg).trans (hj j hjl)⟩
theorem Strs.strR {w : World} {base : Nat} {v : Value} {ps : List (List UInt8)} (h : Strs w base v ps) : StrR w v ps := by
  rcases Nat.eq_zero_or_pos ps.length with h0 | h0
  · rcases h.2 with ⟨h1, _⟩ | ⟨g, cap, cur, rfl, hb, hg, hnc, hcm, hcs, ht⟩
    · exact ⟨none, 0, by rw [h1, h0], by omega, fun h => by omega⟩
    · exact ⟨_, _, rfl, ⟨hnc, by simpa [maxLen] using hcm⟩, fun h => by omega⟩
  · obtain ⟨gp, c, rfl, h1, h2, h3, h4, h5⟩ := h.row h0
    exact ⟨_, _, rfl, ⟨h1, h2⟩, fun _ => ⟨gp, 0, rfl, h4, fun j hj => by rw [Nat.zero_add]; exact h5 j hj⟩⟩
theorem Strs.slice {w : World} {base : Nat} {v : Value} {ps : List (List UInt8)} (h : Strs w base v ps) : ∃ A c, v = .slice A ps.length c := by
  obtain ⟨A, c, e, _⟩ := h.strR
  exact ⟨A, c, e⟩
theorem Strs.base_le {w : World} {base base' : Nat} {v : Value} {ps : List (List UInt8)} (h : Strs w base v ps) (hb : base' ≤ base) : Strs w base' v ps :=
  ⟨h.1, h.2.imp id (fun ⟨g, cap, cur, e, hg, r⟩ => ⟨g, cap, cur, e, Nat.le_trans hb hg, r⟩)⟩
theorem Strs.kept {w w' : World} {base g : Nat} {v : Value} {ps : List (List UInt8)} (h : Strs w base v ps) (hg : w.grownBy w' (some g)) (hlt : g < base) : Strs w' base v ps :=
  World.ownsRow.kept h hg (by
    cases e : v.ownBlock with
    | none => exact .inl rfl
    | some k => exact .inr (fun e2 => by have h1 := (World.ownsRow.lt h k e).1; cases e2; omega))

abbrev TX (l : List UInt8) : Value := .string ⟨l.toArray⟩
/-- the cells of the reference's message -/
def rC (m : Msg) (vc : Value) : List Value := mC m (TX m.ses) (TX m.sha) (TX m.tic) (TX m.non) (TX m.sig) vc
def RIn (w : World) (m : Msg) (cs : List Value) : Prop := (m.rnd.length = 32 ∧ m.mark.length = 32) ∧ ∃ vc, cs = rC m vc ∧ StrR w vc m.certs
theorem RIn.below {w w' : World} {m : Msg} {cs : List Value} (h : RIn w m cs) (hb : Below w.heap.size w w') : RIn w' m cs := by
  obtain ⟨hl, vc, e, hc⟩ := h
  exact ⟨hl, vc, e, hc.below hb⟩
theorem RIn.len {w : World} {m : Msg} {cs : List Value} (h : RIn w m cs) : cs.length = 75 := by
  obtain ⟨hl, vc, rfl, hc⟩ := h
  exact mC_length hl.1 hl.2
theorem RIn.one {w : World} {m : Msg} {cs : List Value} (h : RIn w m cs) : cs.toArray.all (·.oneCell') = true := by
  obtain ⟨hl, vc, rfl, A, c, rfl, hc⟩ := h
  exact one_mC rfl rfl rfl rfl rfl rfl
/-- the reference's message in a block -/
def RAt (w : World) (g : Nat) (m : Msg) : Prop := ∃ cs, Blk w g 25 cs ∧ RIn w m cs
theorem RAt.below {w w' : World} {g : Nat} {m : Msg} (h : RAt w g m) (hb : Below w.heap.size w w') : RAt w' g m := by
  obtain ⟨cs, h1, h2⟩ := h
  exact ⟨cs, h1.below hb h1.lt, h2.below hb⟩
section
variable {w : World} {g : Nat} {m : Msg}
theorem RAt.lens (h : RAt w g m) : m.rnd.length = 32 ∧ m.mark.length = 32 := by
  obtain ⟨cs, _, hl, _⟩ := h
  exact hl
theorem RAt.lt (h : RAt w g m) : g < w.heap.size := by
  obtain ⟨cs, hb, _⟩ := h
  exact hb.lt
theorem RAt.kind (h : RAt w g m) : w.cell? ⟨g, 0, none⟩ = some (.int .i64 m.kind) := by
  obtain ⟨cs, hb, hl, vc, rfl, _⟩ := h
  exact hb.cell 0
theorem RAt.ses (h : RAt w g m) : w.cell? ⟨g, 65, none⟩ = some (TX m.ses) := by
  obtain ⟨cs, hb, hl, vc, rfl, _⟩ := h
  exact (hb.cell (65 + 0)).trans (mC_get hl.1 hl.2 0)
theorem RAt.sha (h : RAt w g m) : w.cell? ⟨g, 66, none⟩ = some (TX m.sha) := by
  obtain ⟨cs, hb, hl, vc, rfl, _⟩ := h
  exact (hb.cell (65 + 1)).trans (mC_get hl.1 hl.2 1)
theorem RAt.tic (h : RAt w g m) : w.cell? ⟨g, 67, none⟩ = some (TX m.tic) := by
  obtain ⟨cs, hb, hl, vc, rfl, _⟩ := h
  exact (hb.cell (65 + 2)).trans (mC_get hl.1 hl.2 2)
theorem RAt.non (h : RAt w g m) : w.cell? ⟨g, 68, none⟩ = some (TX m.non) := by
  obtain ⟨cs, hb, hl, vc, rfl, _⟩ := h
  exact (hb.cell (65 + 3)).trans (mC_get hl.1 hl.2 3)
theorem RAt.sig (h : RAt w g m) : w.cell? ⟨g, 69, none⟩ = some (TX m.sig) := by
  obtain ⟨cs, hb, hl, vc, rfl, _⟩ := h
  exact (hb.cell (65 + 4)).trans (mC_get hl.1 hl.2 4)
theorem RAt.life (h : RAt w g m) : w.cell? ⟨g, 71, none⟩ = some (.int .i64 m.life) := by
  obtain ⟨cs, hb, hl, vc, rfl, _⟩ := h
  exact (hb.cell (65 + 6)).trans (mC_get hl.1 hl.2 6)
theorem RAt.age (h : RAt w g m) : w.cell? ⟨g, 72, none⟩ = some (.int .i64 m.age) := by
  obtain ⟨cs, hb, hl, vc, rfl, _⟩ := h
  exact (hb.cell (65 + 7)).trans (mC_get hl.1 hl.2 7)
theorem RAt.psk (h : RAt w g m) : w.cell? ⟨g, 73, none⟩ = some (.bool m.psk) := by
  obtain ⟨cs, hb, hl, vc, rfl, _⟩ := h
  exact (hb.cell (65 + 8)).trans (mC_get hl.1 hl.2 8)
theorem RAt.retry (h : RAt w g m) : w.cell? ⟨g, 74, none⟩ = some (.bool m.retry) := by
  obtain ⟨cs, hb, hl, vc, rfl, _⟩ := h
  exact (hb.cell (65 + 9)).trans (mC_get hl.1 hl.2 9)
theorem RAt.certs (h : RAt w g m) : ∃ v, w.cell? ⟨g, 70, none⟩ = some v ∧ StrR w v m.certs := by
  obtain ⟨cs, hb, hl, vc, rfl, hc⟩ := h
  exact ⟨vc, (hb.cell (65 + 5)).trans (mC_get hl.1 hl.2 5), hc⟩
theorem RAt.rnd (h : RAt w g m) : w.rangeAt g 1 (m.rnd.map B8) := by
  obtain ⟨cs, hb, hl, vc, rfl, _⟩ := h
  intro j v hv
  have hj : j < 32 := by have := (List.getElem?_eq_some_iff.1 hv).1; rw [List.length_map, hl.1] at this; exact this
  rw [hb.cell, rC, mC_rnd hl.1 j hj, hv]
theorem RAt.mark (h : RAt w g m) : w.rangeAt g 33 (m.mark.map B8) := by
  obtain ⟨cs, hb, hl, vc, rfl, _⟩ := h
  intro j v hv
  have hj : j < 32 := by have := (List.getElem?_eq_some_iff.1 hv).1; rw [List.length_map, hl.2] at this; exact this
  rw [hb.cell, rC, mC_mark hl.1 hl.2 j hj, hv]
end
theorem min_short {n q : Nat} (hq : q = min n 2100) : (if (n : Int) ≤ 2100 then (n : Int) else 2100) = (q : Int) ∧ (q : Int) ≤ (n : Int) ∧ (0 : Int) ≤ (q : Int) := by
  refine ⟨?_, by omega, by omega⟩
  split <;> omega
theorem min_short2 {n q : Nat} (hq : q = min n 2100) : min (n : Int) 2100 = (q : Int) := by omega
theorem take_short (l : List UInt8) {q : Nat} (hq : q = min l.length 2100) : l.take q = l.take 2100 := by
  rw [hq]
  rcases Nat.le_total l.length 2100 with h | h
  · rw [Nat.min_eq_left h, List.take_of_length_le (Nat.le_refl _), List.take_of_length_le h]
  · rw [Nat.min_eq_right h]
set_option maxRecDepth 100000 in
set_option maxHeartbeats 1000000 in
theorem short_e (l : List UInt8) (w : World) : Calls Tryd.prog 21 #[.string ⟨l.toArray⟩] w fun e w' => e = .returned (.string ⟨(l.take 2100).toArray⟩) ∧ w' = w := by
  obtain ⟨q, hq⟩ : ∃ q, q = min l.length 2100 := ⟨_, rfl⟩
  have HT := Lib.hid (take_short l hq)
  obtain ⟨h1, h2, h3⟩ := min_short hq
  have h4 := min_short2 hq
  have hex := extract_to l q
  clear hq
  obtain ⟨n, hn⟩ : ∃ n, l.length = n := ⟨_, rfl⟩
  rw [hn] at h1 h2 h4
  have hsz : (⟨l.toArray⟩ : ByteArray).size = n := hn
  clear hn
  go_enter Tryd.func21, Tryd.ntmps21
  go_wp2
  go_ret
  rw [← HT.out]
  exact ⟨by first | rfl | (rw [← hex]; rfl), rfl⟩
end Go.Proofs.YtagblbfbjemfhaaDoor
