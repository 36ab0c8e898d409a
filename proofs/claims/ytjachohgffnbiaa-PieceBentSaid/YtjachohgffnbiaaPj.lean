/-
  The contracts of the reference's take and Take of layer 17.
-/
import Derived.Test.YtjachohgffnbiaaPSplitsW
import Derived.Deep.QuietTactic
namespace Go.Proofs.Ytjachohgffnbiaa
open Go.RowKit

/-- A state that a joiner comes to. -/
def Fine (F : List UInt8) (C : Nat) : Prop := F.length ≤ 32768 ∧ C ≤ 32768 ∧ (F = [] → C = 0)
/-- The reference's joiner. -/
def RJoin (w : World) (g : Nat) (F : List UInt8) (C : Nat) : Prop := Blk w g 41 [.bool (!F.isEmpty), .int .i64 (C : Int), .string ⟨F.toArray⟩]
theorem str_get (P : List UInt8) (i : Nat) (h : i < P.length) : (⟨P.toArray⟩ : ByteArray)[i]'(show i < P.length from h) = P.getD i 0 := by
  rw [List.getD_eq_getElem?_getD, List.getElem?_eq_getElem h]; rfl
/-- The reference tells the flight so far of each piece that is well. -/
def rtold (E : List UInt8 × Bool × Nat × List UInt8 × Nat) : List UInt8 := if E.2.1 = false ∧ E.2.2.1 = 0 then E.2.2.2.1 else E.1
/-- What comes of a piece that is told to be wrong, or makes the flight whole. -/
def RPost (E : List UInt8 × Bool × Nat × List UInt8 × Nat) (g : Nat) (w : World) (e : Ending) (w' : World) : Prop :=
  e = .returned (.tuple #[.string ⟨(rtold E).toArray⟩, .bool E.2.1, .int .i64 (E.2.2.1 : Int)]) ∧ (∃ v0 v1 v2, Blk w' g 41 [v0, v1, v2]) ∧ (E.2.1 = false → E.2.2.1 = 0 → RJoin w' g E.2.2.2.1 E.2.2.2.2) ∧ Chg (fun k => k = g) w w'
theorem chg_drewN (S : Nat → Prop) (w : World) (n : Nat) : Chg S w (w.drewN n) := ⟨rfl, rfl, rfl, Nat.le_refl _, fun _ _ _ => rfl⟩
theorem chg_cell (g i : Nat) (w : World) (v : Value) : Chg (fun k => k = g) w (w.setCell ⟨g, i, none⟩ v) := chg_of_grown (grown_setCell (g := g) (p := ⟨g, i, none⟩) (grown_refl w _) (.inl rfl) v) (fun k e => by injection e with e; exact e.symm)
theorem hL_ge (f : UInt8) : decide ((128 : Int) ≤ (f.toNat : Int)) = hL f := by unfold hL; rw [Bool.eq_iff_iff]; simp; omega
theorem take_tail {F b : List UInt8} {C : Nat} (h : (partsE b).2.2.2 ≠ 0) : takeE F C b = ([], false, (partsE b).2.2.2, [], 0) := by
  unfold takeE; rw [if_pos h]
theorem take_fine {F h : List UInt8} {C T q : Nat} {f : UInt8} {mo : Bool} {E : List UInt8 × Bool × Nat × List UInt8 × Nat} (hE : E = if (joinE F C f q h).1 ≠ 0 then ([], false, (joinE F C f q h).1, [], 0) else if mo = true then ([], false, 0, (joinE F C f q h).2) else ((joinE F C f q h).2.1, true, 0, [], 0)) (hmay : mayB F.length f = true) (hmo : hM f = mo) (hT : (if F.length = 0 then q else C) = T) :
    E = if 32768 < T then ([], false, 4, [], 0) else if T < F.length + h.length ∨ (F.length + h.length < T ∧ mo = false) ∨ (h.length = 0 ∧ mo = true) then ([], false, 2, [], 0) else if mo = true then ([], false, 0, F ++ h, T) else (F ++ h, true, 0, [], 0) := by
  have hj : joinE F C f q h = if 32768 < T then (4, F, C) else if T < F.length + h.length ∨ (F.length + h.length < T ∧ mo = false) ∨ (h.length = 0 ∧ mo = true) then (2, F, C) else (0, F ++ h, T) := by
    unfold joinE; rw [hmay, if_neg (by decide), hT, hmo]
  subst hE
  rw [hj]
  by_cases h1 : 32768 < T
  · simp only [if_pos h1]; rfl
  · by_cases h2 : T < F.length + h.length ∨ (F.length + h.length < T ∧ mo = false) ∨ (h.length = 0 ∧ mo = true)
    · simp only [if_neg h1, if_pos h2]; rfl
    · simp only [if_neg h1, if_neg h2]; rfl
theorem ix_small (a : Nat) (h : a < 1000000) : IntKind.i64.wrap (a : Int) = (a : Int) ∧ wrap64 (a : Int) = (a : Int) := ⟨by rw [IntKind.wrap_i64]; omega, by unfold wrap64; omega⟩
theorem str_app (P Q : List UInt8) : (⟨P.toArray⟩ : ByteArray) ++ ⟨Q.toArray⟩ = ⟨(P ++ Q).toArray⟩ := by
  apply ByteArray.ext
  rw [ByteArray.data_append]
  simp
set_option maxRecDepth 100000 in
set_option maxHeartbeats 1000000 in
theorem rtake_bad (g : Nat) (F b : List UInt8) (C n : Nat) (w : World) (hJ : RJoin w g F C) (hn : b.length = n) (hm : n < 900000) (hF : Fine F C) (hw : b.length = 0 ∨ (hL (b.getD 0 0) = true ∧ b.length < 5) ∨ mayB F.length (b.getD 0 0) = false) :
    Calls Try.prog 25 #[.pointer (some ⟨g, 0, none⟩), .string ⟨b.toArray⟩] w (RPost (takeE F C b) g w) := by
  obtain ⟨E, hE⟩ : ∃ E, takeE F C b = E := ⟨_, rfl⟩
  rw [hE]
  have hlen : (b.length : Int) = (n : Int) := by omega
  have g0 : w.cell? ⟨g, 0, none⟩ = some (.bool (!F.isEmpty)) := hJ.cell 0
  have g1 : w.cell? ⟨g, 1, none⟩ = some (.int .i64 (C : Int)) := hJ.cell 1
  have g2 : w.cell? ⟨g, 2, none⟩ = some (.string ⟨F.toArray⟩) := hJ.cell 2
  have HJ := Lib.hid hJ
  have HN := Lib.hid hn
  by_cases h0 : n = 0
  · obtain rfl : b = [] := List.eq_nil_of_length_eq_zero (by omega)
    have HZ := Lib.hid (show E = ([], false, 3, [], 0) by rw [← hE]; rfl)
    clear hE hlen hn g0 g1 g2 h0
    go_enter Try.func25, Try.ntmps25
    go_wp2
    go_ret3
    refine ⟨by rw [HZ.out] <;> rfl, ⟨_, _, _, HJ.out⟩, fun _ h => (by rw [HZ.out] at h; cases h), Chg.refl _ _⟩
  have hb1 : ¬ b = [] := fun e => by subst e; exact h0 (by simpa using hn.symm)
  have hb2 : b.isEmpty = false := by simpa using hb1
  have hb3 : (b == []) = false := by simpa using hb1
  have q0 : 0 < b.length := by omega
  have s0 := str_get b 0 q0
  obtain ⟨f, hf⟩ : ∃ f, f = b.getD 0 0 := ⟨_, rfl⟩
  rw [← hf] at s0
  have hx1 := extract_from b 1 b.length (Nat.le_refl _)
  obtain ⟨X, hXd⟩ : ∃ X, X = b.drop 1 := ⟨_, rfl⟩
  rw [← hXd] at hx1
  obtain ⟨m, hmm⟩ : ∃ m, m = X.length := ⟨_, rfl⟩
  have hlx : (X.length : Int) = (m : Int) := by omega
  have hbf : b = f :: X := by
    cases b with
    | nil => exact absurd rfl hb1
    | cons a r => rw [hf, hXd]; rfl
  have hge := hL_ge f
  obtain ⟨mo, hmo⟩ : ∃ mo, hM f = mo := ⟨_, rfl⟩
  obtain ⟨am, haM, haM2⟩ : ∃ am : Int, bits .and .u8 (f.toNat : Int) 64 = am ∧ (am != 0) = mo := ⟨_, and_M f, by rw [hmo]; cases mo <;> rfl⟩
  obtain ⟨ax, haX, haX2⟩ : ∃ ax : Int, bits .and .u8 (f.toNat : Int) 63 = ax ∧ (ax != 0) = hX f := ⟨_, and_X f, by unfold hX; rw [Bool.eq_iff_iff]; simp; omega⟩
  have h0n : 0 < n := by omega
  have h1n : (1 : Int) ≤ (n : Int) := by omega
  have HW := Lib.hid (show (hL f = true ∧ X.length < 4) ∨ mayB F.length f = false by
    rcases hw with h | h | h
    · exact absurd (hn.symm.trans h) h0
    · rw [hf, hXd, List.length_drop]; exact .inl ⟨h.1, by omega⟩
    · rw [hf]; exact .inr h)
  clear hw
  by_cases hshort : hL f = true ∧ X.length < 4
  · have HZ := Lib.hid (show E = ([], false, 3, [], 0) by
      rw [← hE]
      refine (take_tail (F := F) (C := C) (b := b) ?_).trans ?_
      · unfold partsE; rw [if_neg (by omega), ← hf, hshort.1, if_neg (by decide), if_pos (by rw [hXd, List.length_drop] at hshort; omega)]; decide
      · unfold partsE; rw [if_neg (by omega), ← hf, hshort.1, if_neg (by decide), if_pos (by rw [hXd, List.length_drop] at hshort; omega)])
    have hl := hshort.1
    have hlt : (m : Int) < 4 := by omega
    rw [hl] at hge
    clear hE hn g0 g1 g2 hmm hXd hf hbf hF hshort hl haM2 HW
    go_enter Try.func25, Try.ntmps25
    go_wp2
    go_ret3
    exact ⟨by rw [HZ.out] <;> rfl, ⟨_, _, _, HJ.out⟩, fun _ h => (by rw [HZ.out] at h; cases h), Chg.refl _ _⟩
  have hm9 : X.length < 900000 := by rw [hXd, List.length_drop]; omega
  obtain ⟨hh, hhh⟩ : ∃ h, h = (partsE b).2.2.1 := ⟨_, rfl⟩
  obtain ⟨qq, hqq⟩ : ∃ q, q = (partsE b).2.1 := ⟨_, rfl⟩
  have hpe : partsE b = (f, qq, hh, 0) := by
    rw [hqq, hhh]
    unfold partsE
    rw [if_neg (by omega), ← hf]
    cases hl : hL f
    · rw [if_pos rfl]
    · rw [if_neg (by decide), if_neg (by intro h; exact hshort ⟨hl, by rw [hXd, List.length_drop]; exact h⟩)]
  have hE2 : E = if (joinE F C f qq hh).1 ≠ 0 then ([], false, (joinE F C f qq hh).1, [], 0) else if hM f = true then ([], false, 0, (joinE F C f qq hh).2) else ((joinE F C f qq hh).2.1, true, 0, [], 0) := by
    rw [← hE]; unfold takeE; rw [hpe, if_neg (by simp)]
  clear hE
  rw [hmo] at hE2
  have HE2 := Lib.hid hE2
  have HPC := Lib.hid (show (hL f = false → hh = X ∧ qq = m) ∧ (hL f = true → hh = X.drop 4 ∧ qq = cntTo X 4) by
    have e := hpe
    unfold partsE at e
    rw [if_neg (by omega), ← hf] at e
    refine ⟨fun hl => ?_, fun hl => ?_⟩
    · rw [if_pos hl] at e
      injection e with _ e; injection e with e1 e; injection e with e2 _
      exact ⟨by rw [← e2, hXd], by rw [← e1, hmm, hXd, List.length_drop]⟩
    · rw [if_neg (by rw [hl]; decide), if_neg (by intro h; exact hshort ⟨hl, by rw [hXd, List.length_drop]; exact h⟩)] at e
      injection e with _ e; injection e with e1 e; injection e with e2 _
      exact ⟨by rw [← e2, hXd, List.drop_drop], by rw [← e1, hXd]⟩)
  have HMO := Lib.hid hmo
  have HHX := Lib.hid (And.intro hhh (And.intro hqq hXd))
  have HFN := Lib.hid hF
  have HBN := Lib.hid (And.intro hn hmm)
  clear hE2 hpe hhh hqq hn hF hf hbf hXd hmm
  have hmay := HW.out.resolve_left hshort
  clear HW
  · have HZ := Lib.hid (show E = ([], false, 2, [], 0) by
      rw [HE2.out, show joinE F C f qq hh = (2, F, C) by unfold joinE; rw [if_pos hmay]]; rfl)
    unfold mayB at hmay
    cases hx : hX f
    · rw [hx] at haX2
      rw [hx, if_neg (by decide)] at hmay
      by_cases hF0 : F = []
      · rw [hF0, if_pos (show ([] : List UInt8).length = 0 from rfl)] at hmay
        have hg0 : F.isEmpty = true := by rw [hF0]; rfl
        rw [hg0] at g0
        obtain ⟨hl, hm2⟩ : hL f = false ∧ hM f = true := by simpa using hmay
        have hmo2 : mo = true := by rw [← hmo]; exact hm2
        rw [hl] at hge
        rw [hmo2] at haM2
        clear hm2 hmo2 hg0 hmay hx hl hF0 hshort hmo
        go_enter Try.func25, Try.ntmps25
        go_wp2
        go_ret3
        exact ⟨by rw [HZ.out] <;> rfl, ⟨_, _, _, HJ.out⟩, fun _ h => (by rw [HZ.out] at h; cases h), Chg.refl _ _⟩
      · rw [if_neg (fun h => hF0 (List.eq_nil_of_length_eq_zero h))] at hmay
        have hg0 : F.isEmpty = false := by simpa using hF0
        rw [hg0] at g0
        have hl : hL f = true := by simpa using hmay
        have hlt : ¬ (m : Int) < 4 := fun h => hshort ⟨hl, by omega⟩
        rw [hl] at hge
        clear hg0 hmay hx hl hF0 hshort hmo
        go_enter Try.func25, Try.ntmps25
        go_wp2
        go_ret3
        exact ⟨by rw [HZ.out] <;> rfl, ⟨_, _, _, HJ.out⟩, fun _ h => (by rw [HZ.out] at h; cases h), Chg.refl _ _⟩
    · rw [hx] at haX2
      cases hl : hL f
      · rw [hl] at hge
        clear hmay hx hl hshort hmo
        go_enter Try.func25, Try.ntmps25
        go_wp2
        go_ret3
        exact ⟨by rw [HZ.out] <;> rfl, ⟨_, _, _, HJ.out⟩, fun _ h => (by rw [HZ.out] at h; cases h), Chg.refl _ _⟩
      · rw [hl] at hge
        have hlt : ¬ (m : Int) < 4 := fun h => hshort ⟨hl, by omega⟩
        clear hmay hx hl hshort hmo
        go_enter Try.func25, Try.ntmps25
        go_wp2
        go_ret3
        exact ⟨by rw [HZ.out] <;> rfl, ⟨_, _, _, HJ.out⟩, fun _ h => (by rw [HZ.out] at h; cases h), Chg.refl _ _⟩
end Go.Proofs.Ytjachohgffnbiaa
