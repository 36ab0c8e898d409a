/-
  The walk of the statement HashParts: whatever bytes come in, the call answers true and turns nothing that was there.
-/
import Derived.Test.YtdpfcbkmkmccgaaDoorCopy
import Derived.Lib.MinMax
import Derived.Stop.BytesEq
namespace Go.Proofs.YtdpfcbkmkmccgaaDoor
open Go.RowKit

/-- Bytes that came in, below block B. -/
def In (w : World) (B : Nat) (A : Option Addr) (c : Nat) (xs : List UInt8) : Prop := xs.length ≤ c ∧ c ≤ 9223372036854775807 ∧ (0 < xs.length → ∃ gb ob, A = some ⟨gb, ob, none⟩ ∧ gb < B ∧ Bytes w gb ob xs)
theorem In.src {w : World} {B g : Nat} {A : Option Addr} {c : Nat} {xs : List UInt8} (h : In w B A c xs) (hg : B ≤ g) : Src w g A xs := fun h0 => by
  obtain ⟨gb, ob, e, hb, hby⟩ := h.2.2 h0
  exact ⟨gb, ob, e, by omega, hby⟩
theorem In.below {w w' : World} {B : Nat} {A : Option Addr} {c : Nat} {xs : List UInt8} (h : In w B A c xs) (hb : Below B w w') : In w' B A c xs :=
  ⟨h.1, h.2.1, fun h0 => by
    obtain ⟨gb, ob, e, hl, hby⟩ := h.2.2 h0
    exact ⟨gb, ob, e, hl, hby.below hb hl⟩⟩
theorem In.take {w : World} {B : Nat} {A : Option Addr} {c : Nat} {xs : List UInt8} (h : In w B A c xs) (k : Nat) : In w B A c (xs.take k) :=
  ⟨by have := h.1; rw [List.length_take]; omega, h.2.1, fun h0 => by
    obtain ⟨gb, ob, e, hl, hby⟩ := h.2.2 (by rw [List.length_take] at h0; omega)
    exact ⟨gb, ob, e, hl, hby.take k⟩⟩
theorem Src.alloc {w : World} {g : Nat} {A : Option Addr} {xs : List UInt8} (h : Src w g A xs) (o : Obj) : Src (w.alloc o) g A xs := h.keep (grown_alloc (grown_refl _ _) _)

theorem parts1 {w : World} {B g : Nat} {A : Option Addr} {c : Nat} {b : List UInt8} (t : TypeId) (h : In w B A c b) (hg : g ≠ w.heap.size) (hB : B ≤ g) :
    Parts (w.alloc (.cells #[.slice A b.length c] t)) g (some ⟨w.heap.size, 0, none⟩) [b] := fun _ =>
  ⟨w.heap.size, 0, rfl, by omega, fun j hj => by
    have hC := Blk.new_of w t #[.slice A b.length c] _ rfl
    obtain rfl : j = 0 := by have : j < 1 := hj; omega
    exact ⟨A, c, hC.cell 0, h.1, h.2.1, (h.src hB).alloc _⟩⟩
theorem parts2 {w : World} {B g : Nat} {A A' : Option Addr} {c c' : Nat} {b b' : List UInt8} (t : TypeId) (h : In w B A c b) (h' : In w B A' c' b') (hg : g ≠ w.heap.size) (hB : B ≤ g) :
    Parts (w.alloc (.cells #[.slice A b.length c, .slice A' b'.length c'] t)) g (some ⟨w.heap.size, 0, none⟩) [b, b'] := fun _ =>
  ⟨w.heap.size, 0, rfl, by omega, fun j hj => by
    have hC := Blk.new_of w t #[.slice A b.length c, .slice A' b'.length c'] _ rfl
    obtain rfl | rfl : j = 0 ∨ j = 1 := by have : j < 2 := hj; omega
    · exact ⟨A, c, hC.cell 0, h.1, h.2.1, (h.src hB).alloc _⟩
    · exact ⟨A', c', hC.cell 1, h'.1, h'.2.1, (h'.src hB).alloc _⟩⟩
theorem parts3 {w : World} {B g : Nat} {A A' A'' : Option Addr} {c c' c'' : Nat} {b b' b'' : List UInt8} (t : TypeId) (h : In w B A c b) (h' : In w B A' c' b') (h'' : In w B A'' c'' b'') (hg : g ≠ w.heap.size) (hB : B ≤ g) :
    Parts (w.alloc (.cells #[.slice A b.length c, .slice A' b'.length c', .slice A'' b''.length c''] t)) g (some ⟨w.heap.size, 0, none⟩) [b, b', b''] := fun _ =>
  ⟨w.heap.size, 0, rfl, by omega, fun j hj => by
    have hC := Blk.new_of w t #[.slice A b.length c, .slice A' b'.length c', .slice A'' b''.length c''] _ rfl
    obtain rfl | rfl | rfl : j = 0 ∨ j = 1 ∨ j = 2 := by have : j < 3 := hj; omega
    · exact ⟨A, c, hC.cell 0, h.1, h.2.1, (h.src hB).alloc _⟩
    · exact ⟨A', c', hC.cell 1, h'.1, h'.2.1, (h'.src hB).alloc _⟩
    · exact ⟨A'', c'', hC.cell 2, h''.1, h''.2.1, (h''.src hB).alloc _⟩⟩
theorem HeldN.lt {w : World} {g : Nat} {t : TypeId} {m : List UInt8} (h : HeldN w g t m) : g < w.heap.size := by
  obtain ⟨_, _, _, hs, _⟩ := h; exact hs.lt
theorem HeldN.below {w w' : World} {g : Nat} {t : TypeId} {m : List UInt8} (h : HeldN w g t m) (hb : Below w.heap.size w w') : HeldN w' g t m := by
  obtain ⟨s, R, hR, hs, hm⟩ := h
  exact ⟨s, R, hR, hs.below hb hs.lt, hm⟩
theorem HeldN.grown {w w' : World} {g g' : Nat} {t : TypeId} {m : List UInt8} (h : HeldN w g t m) (hb : w.grownBy w' (some g')) (hne : g ≠ g') : HeldN w' g t m := by
  obtain ⟨s, R, hR, hs, hm⟩ := h
  exact ⟨s, R, hR, hs.grown hb (by simpa using hne), hm⟩
theorem HeldN.alloc {w : World} {g : Nat} {t : TypeId} {m : List UInt8} (h : HeldN w g t m) (o : Obj) : HeldN (w.alloc o) g t m := h.below ((Below.refl _ _).alloc (Nat.le_refl _) _)

theorem size8 (w : World) : (sizeOf 5).run Tryd.prog w = .ok 1 w := by
  obtain ⟨i, hi, hz, hs, hb⟩ := info_parts infoB
  simp [sizeOf, typeInfo, hi, hs]
theorem eq32 (L : List UInt8) (h : L.length = 32) (W : World) : (binOp .eql 24 (.agg (L.map B8).toArray) (.agg (L.map B8).toArray)).run Tryd.prog W = .ok (.bool true) W := by
  have := run_eql_bytes (P := Tryd.prog) W 24 5 32 Tryd.underlying24 Tryd.underlying5 size8 L L h h
  rw [beq_self_eq_true] at this
  exact this

set_option maxRecDepth 100000 in
set_option maxHeartbeats 1000000 in
theorem hashParts_walk (A B C : Option Addr) (ca cb cc : Nat) (xa xb xc : List UInt8) (w : World)
    (ia : In w w.heap.size A ca xa) (ib : In w w.heap.size B cb xb) (ic : In w w.heap.size C cc xc) (ht : Tabs w) :
    Calls Tryd.prog 5 #[.slice A xa.length ca, .slice B xb.length cb, .slice C xc.length cc] w fun e w' => e = .returned (.bool true) ∧ Below w.heap.size w w' := by
  have ma : min (xa.length : Int) 200 = ((xa.take 200).length : Int) := by rw [List.length_take]; omega
  have mb : min (xb.length : Int) 200 = ((xb.take 200).length : Int) := by rw [List.length_take]; omega
  have mc : min (xc.length : Int) 200 = ((xc.take 200).length : Int) := by rw [List.length_take]; omega
  have ja := ia.take 200
  have jb := ib.take 200
  have jc := ic.take 200
  have la2 : (xa.take 200).length ≤ 200 := by rw [List.length_take]; omega
  have lb2 : (xb.take 200).length ≤ 200 := by rw [List.length_take]; omega
  have lc2 : (xc.take 200).length ≤ 200 := by rw [List.length_take]; omega
  obtain ⟨ha, hca, _⟩ := ia
  obtain ⟨hb, hcb, _⟩ := ib
  obtain ⟨hc, hcc, _⟩ := ic
  have ka := ja.1
  have kb := jb.1
  have kc := jc.1
  generalize xa.take 200 = ya at *
  generalize xb.take 200 = yb at *
  generalize xc.take 200 = yc at *
  have ht0 := ht.lt0
  have ht1 := ht.lt1
  go_enter Tryd.func5, Tryd.ntmps5
  go_wp2_with fail
  go_quiet (fail)
  go_wp2_with fail
  clear ma mb mc
  have hb0 := below_drewN (Below.refl w.heap.size w) nq
  have hz0 : w.heap.size ≤ (w.drewN nq).heap.size := Nat.le_refl _
  generalize w.drewN nq = w0 at *
  refine (new_any _).mono ?_
  rintro e w1 ⟨rfl, hs1, hb1⟩
  replace hb1 := hb0.trans (hb1.mono hz0)
  generalize w0.heap.size = gs at *
  have hs := HeldN.new hs1
  have hl1 := hs.lt
  clear hs1 hb0
  go_wp2_with fail
  refine (Put_any gs 1 _ [] [ya] _ (by simp; omega) (by simp) (by omega) (parts1 27 (ja.below hb1) (by omega) hz0) (hs.alloc _) ((ht.below hb1).below ((Below.refl _ _).alloc (Nat.le_refl _) _)) (by omega) (by omega)).mono ?_
  rintro e w2 ⟨rfl, hg2, hh2⟩
  have hb2 := below_new (hb1.alloc (by omega) _) hg2 hz0 (by simp; omega)
  replace hs := HeldN.of_held hh2
  simp only [List.nil_append, List.flatten_cons, List.flatten_nil, List.append_nil] at hs
  have hl2 := hs.lt
  clear hh2 hg2 hb1 hl1
  go_wp2_with fail
  refine (sums_any _ (ht.below hb2)).mono ?_
  rintro e w3 ⟨rfl, hb3⟩
  replace hs := hs.below hb3
  replace hb3 := hb2.trans (hb3.mono hb2.size)
  have hl3 := hs.lt
  clear hb2 hl2
  go_wp2_with fail
  refine (Copy_any gs _ _ hs).mono ?_
  rintro e w4 ⟨rfl, hs', hb4⟩
  replace hs := hs.below hb4
  have hgt : gs < w3.heap.size := hl3
  replace hb4 := hb3.trans (hb4.mono hb3.size)
  have hz3 : w.heap.size ≤ w3.heap.size := hb3.size
  generalize w3.heap.size = gt at *
  have hl4 := hs'.lt
  clear hb3 hl3
  go_wp2_with fail
  refine (Put_any gs 1 _ ya [yb] _ (by simp; omega) (by simp) (by omega) (parts1 27 (jb.below hb4) (by omega) hz0) (hs.alloc _) ((ht.below hb4).below ((Below.refl _ _).alloc (Nat.le_refl _) _)) (by omega) (by omega)).mono ?_
  rintro e w5 ⟨rfl, hg5, hh5⟩
  replace hs' := (hs'.alloc _).grown hg5 (by omega)
  have hb5 := below_new (hb4.alloc (by omega) _) hg5 hz0 (by simp; omega)
  replace hs := HeldN.of_held hh5
  simp only [List.flatten_cons, List.flatten_nil, List.append_nil] at hs
  have hl5 := hs'.lt
  clear hh5 hg5 hb4 hl4
  go_wp2_with fail
  refine (Put_any gt 2 _ ya [yc, yb] _ (by simp; omega) (by simp) (by omega) (parts2 27 (jc.below hb5) (jb.below hb5) (by omega) hz3) (hs'.alloc _) ((ht.below hb5).below ((Below.refl _ _).alloc (Nat.le_refl _) _)) (by omega) (by omega)).mono ?_
  rintro e w6 ⟨rfl, hg6, hh6⟩
  replace hs := (hs.alloc _).grown hg6 (by omega)
  have hb6 := below_new (hb5.alloc (by omega) _) hg6 hz3 (by simp; omega)
  replace hs' := HeldN.of_held hh6
  simp only [List.flatten_cons, List.flatten_nil, List.append_nil] at hs'
  have hl6 := hs'.lt
  clear hh6 hg6 hb5 hl5
  go_wp2_with fail
  refine (Sum_held gs _ _ (by simp; omega) hs (ht.below hb6)).mono ?_
  rintro e w7 ⟨rfl, hb7⟩
  replace hs := hs.below hb7
  replace hs' := hs'.below hb7
  replace hb7 := hb6.trans (hb7.mono hb6.size)
  have hl7 := hs'.lt
  clear hb6 hl6
  go_wp2_with fail
  refine (Of_any 2 _ [ya, yb] _ (by simp; omega) (by simp) (by omega) (fun g hg => parts2 27 (ja.below hb7) (jb.below hb7) (by simp at hg; omega) (by simp at hg; omega)) ((ht.below hb7).below ((Below.refl _ _).alloc (Nat.le_refl _) _))).mono ?_
  rintro e w8 ⟨rfl, hb8⟩
  replace hb8 := ((Below.refl w7.heap.size w7).alloc (Nat.le_refl _) _).trans (hb8.mono (by simp))
  replace hs := hs.below hb8
  replace hs' := hs'.below hb8
  replace hb8 := hb7.trans (hb8.mono hb7.size)
  have hl8 := hs'.lt
  clear hb7 hl7
  have hq1 := eq32 (sha (ya ++ yb)) (sha_length _)
  simp only [List.flatten_cons, List.flatten_nil, List.append_nil]
  go_wp2_with fail
  refine (Sum_held gt _ _ (by simp; omega) hs' (ht.below hb8)).mono ?_
  rintro e w9 ⟨rfl, hb9⟩
  replace hs := hs.below hb9
  replace hs' := hs'.below hb9
  replace hb9 := hb8.trans (hb9.mono hb8.size)
  have hl9 := hs'.lt
  clear hb8 hl8
  go_wp2_with fail
  refine (Of_any 3 _ [ya, yc, yb] _ (by simp; omega) (by simp) (by omega) (fun g hg => parts3 27 (ja.below hb9) (jc.below hb9) (jb.below hb9) (by simp at hg; omega) (by simp at hg; omega)) ((ht.below hb9).below ((Below.refl _ _).alloc (Nat.le_refl _) _))).mono ?_
  rintro e w10 ⟨rfl, hb10⟩
  replace hb10 := ((Below.refl w9.heap.size w9).alloc (Nat.le_refl _) _).trans (hb10.mono (by simp))
  replace hs := hs.below hb10
  replace hs' := hs'.below hb10
  replace hb10 := hb9.trans (hb10.mono hb9.size)
  clear hb9 hl9 hq1
  have hq2 := eq32 (sha (ya ++ (yc ++ yb))) (sha_length _)
  simp only [List.flatten_cons, List.flatten_nil, List.append_nil]
  go_wp2_with fail
  refine (Size_any gs _ _ (by simp; omega) hs).mono ?_
  rintro e w11 ⟨rfl, rfl⟩
  have n1 : (((ya ++ yb).length : Nat) : Int) = (ya.length : Int) + (yb.length : Int) := by rw [List.length_append]; omega
  rw [n1]
  go_wp2_with fail
  refine (Size_any gt _ _ (by simp; omega) hs').mono ?_
  rintro e w12 ⟨rfl, rfl⟩
  have n2 : (((ya ++ (yc ++ yb)).length : Nat) : Int) = (ya.length : Int) + (yb.length : Int) + (yc.length : Int) := by rw [List.length_append, List.length_append]; omega
  rw [n2]
  go_wp2
  go_ret
  exact ⟨rfl, hb10⟩
end Go.Proofs.YtdpfcbkmkmccgaaDoor
