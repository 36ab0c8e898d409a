/-
  The contracts of the statements' own words for rows: no more than some of them, of no more bytes each; all of them, one behind the other.
-/
import Derived.Test.YtiebdglnkbpajaaRwsB
import Derived.Lib.MinMax
import Derived.BigRegion
import Derived.StillTailTactics
import Derived.Deep.RegionHeld3
import Derived.Deep.QuietTactic
import Derived.BigQuiet
namespace Go.Proofs.Ytiebdglnkbpajaa
open Go.RowKit

/-- No more than m rows, of no more than e bytes each. -/
def few (m e : Nat) (ps : List (List UInt8)) : List (List UInt8) := (ps.take m).map (·.take e)
theorem few_snoc (e k : Nat) (ps : List (List UInt8)) (hk : k < ps.length) : few (k + 1) e ps = few k e ps ++ [(ps.getD k []).take e] := by
  unfold few
  rw [List.take_succ_eq_append_getElem hk, List.map_append, List.getD_eq_getElem?_getD, List.getElem?_eq_getElem hk]
  rfl

set_option maxRecDepth 100000 in
set_option maxHeartbeats 2000000 in
theorem few_any (A : Option Addr) (c m e B : Nat) (ps : List (List UInt8)) (w : World) (hB : B ≤ w.heap.size) (hA : PIn w B A c ps) (hm : m < 1000) (he : e < 1000) :
    Calls Try.prog 11 #[.slice A ps.length c, .int .i64 m, .int .i64 e] w fun r w' => ∃ v, r = .returned v ∧ Rws w' w.heap.size v (few m e ps) ∧ Below w.heap.size w w' := by
  obtain ⟨hpc, hcm, _⟩ := id hA
  go_enter Try.func11, Try.ntmps11
  go_wp2
  go_loopw [7, 8] (fun v i wr => ∃ k : Nat, k ≤ ps.length ∧ k ≤ m ∧ i = .int .i64 k ∧ Rws wr w.heap.size v (few k e ps) ∧ Below w.heap.size w wr) (fun _ i _ => m - (intOf i).toNat)
  case atStart => exact ⟨0, by omega, by omega, rfl, Rws.nil _ _, Below.refl _ _⟩
  case round =>
    obtain ⟨k, hk, hkm, rfl, hv, hb⟩ := hrel
    by_cases hlt : k < ps.length ∧ k < m
    · obtain ⟨h1, h2⟩ := hlt
      have hd1 : decide ((k : Int) < (ps.length : Int)) = true := by simp; omega
      have hd2 : decide ((k : Int) < (m : Int)) = true := by simp; omega
      obtain ⟨gp, op, rfl, hgp, hj⟩ := (hA.below (hb.mono hB)).2.2 (by omega)
      obtain ⟨Aj, cj, hc, hi⟩ := hj k h1
      have HF := Lib.hid (few_snoc e k ps h1)
      have hfl : (few k e ps).length ≤ 1000000 := by unfold few; rw [List.length_map, List.length_take]; omega
      obtain ⟨y, hy⟩ : ∃ y, y = ps.getD k [] := ⟨_, rfl⟩
      rw [← hy] at hc hi HF
      clear hy hj
      obtain ⟨z, hz⟩ : ∃ z, z = y.take e := ⟨_, rfl⟩
      have hit := hi.take e
      rw [← hz] at hit HF
      have hmin : min (y.length : Int) (e : Int) = (z.length : Int) := by rw [hz, List.length_take]; omega
      have hle : (z.length : Int) ≤ (cj : Int) := by have := hi.1; rw [hz, List.length_take]; omega
      have hl0 : (0 : Int) ≤ (z.length : Int) := by omega
      have hle2 : z.length ≤ cj := by omega
      have hl1000 : z.length < 1000 := by rw [hz, List.length_take]; omega
      have hk0 : (0 : Int) ≤ (k : Int) := by omega
      have hkl : (k : Int) < (ps.length : Int) := by omega
      have HC := Lib.hid (fun (W : World) (h : Below w.heap.size w W) => (show W.cell? ⟨gp, op + k, none⟩ = some (.slice Aj y.length cj) ∧ Below w.heap.size w W from
        ⟨(h.cell (p := ⟨gp, op + k, none⟩) (show gp < w.heap.size by omega)).trans ((hb.cell (p := ⟨gp, op + k, none⟩) (show gp < w.heap.size by omega)).symm.trans hc), h⟩))
      have hbs := hb.size
      have hbuf : Buf (wr.drew.alloc (.cells #[] 5)) wr.heap.size (some ⟨wr.heap.size, 0, none⟩) 0 0 [] := Buf.made (w := wr.drew) #[] 5 0 0 (Nat.le_refl _) rfl (Nat.le_refl _) (by decide) rfl (.inr rfl) (fun j hj => by omega)
      have hbl0 : Below wr.heap.size wr (wr.drew.alloc (.cells #[] 5)) := (below_drewN (Below.refl wr.heap.size wr) 1).alloc (Nat.le_refl _) _
      have hsrc : _root_.Go.Src Try.prog 1 29 (.slice Aj z.length cj) z.length (z.map B8) (wr.drew.alloc (.cells #[] 5)) := src_in' ((hit.below (hbl0.mono (by omega))).src (g := wr.heap.size) (by omega))
      clear hz h1 hc hi hit hA
      go_wp2
      go_region_held3 (fun w' => w'.cell? ⟨gp, op + k, none⟩ = some (.slice Aj y.length cj) ∧ Below w.heap.size w w')
        (first | exact HC.out _ (below_drewN hb 1) | exact HC.out _ ((below_drewN hb 1).alloc hbs _) | exact HC.out _ (by assumption) | exact HC.out _ (hbA2 _))
        (first
          | (refine step_append_bufm rfl (.tmp 21) (.tmp 33) 29 rfl wr.heap.size _ 0 0 [] z _ rfl hbuf rfl hsrc (by omega) (by simp) z.length (by omega) ?_; intro A1 c1 w1 hB1 hg1;
             have hbl1 := below_own hbl0 hbuf hg1 (Nat.le_refl _) (by simp); have hbA := hb.trans (hbl1.mono hbs); have hbA2 := fun X => hbA.alloc hbA.size X; clear hg1)
          | (refine step_append_rws rfl (.tmp 20) (.tmp 35) rfl w.heap.size _ (few k e ps) rfl hv (hbl1.alloc hbl1.size _) hbs w1.heap.size rfl z A1 c1 (new_cell _ _ _) (hB1.alloc _) hfl ?_; intro v2 w2 hv2 hb2 hg2;
             have hbB := (hbA.alloc hbA.size _).trans hb2; clear hg2))
      all_goals
        go_wp2
        go_roundw
        case rel => exact ⟨k + 1, by omega, by omega, by go_num, by rw [HF.out]; exact hv2, hbB⟩
        case measure => simp [intOf]; omega
    · have hkk : few k e ps = few m e ps := by
        unfold few
        by_cases h : k < ps.length
        · rw [show k = m by omega]
        · rw [List.take_of_length_le (by omega), List.take_of_length_le (by omega)]
      by_cases h1 : k < ps.length
      · have hd1 : decide ((k : Int) < (ps.length : Int)) = true := by simp; omega
        have hd2 : decide ((k : Int) < (m : Int)) = false := by simp; omega
        go_wp2
        go_ret
        exact ⟨_, rfl, by rw [← hkk]; exact hv, hb⟩
      · have hd1 : decide ((k : Int) < (ps.length : Int)) = false := by simp; omega
        go_wp2
        go_ret
        exact ⟨_, rfl, by rw [← hkk]; exact hv, hb⟩

theorem flatten_snoc (ps : List (List UInt8)) (k : Nat) (hk : k < ps.length) : (ps.take (k + 1)).flatten = (ps.take k).flatten ++ ps.getD k [] := by
  rw [List.take_succ_eq_append_getElem hk, List.flatten_append, List.getD_eq_getElem?_getD, List.getElem?_eq_getElem hk]; simp
theorem flatten_le (ps : List (List UInt8)) (k : Nat) : (ps.take k).flatten.length ≤ ps.flatten.length := by
  have h := congrArg List.length (congrArg List.flatten (List.take_append_drop k ps))
  rw [List.flatten_append, List.length_append] at h
  omega
theorem few_flatten_le (m e : Nat) (ps : List (List UInt8)) : (few m e ps).flatten.length ≤ m * e := by
  have h : ∀ qs : List (List UInt8), ((qs.map (·.take e)).flatten).length ≤ qs.length * e := fun qs => by
    induction qs with
    | nil => simp
    | cons q r ih => simp only [List.map_cons, List.flatten_cons, List.length_append, List.length_take, List.length_cons, Nat.add_mul, Nat.one_mul]; omega
  unfold few
  refine Nat.le_trans (h _) (Nat.mul_le_mul_right e ?_)
  rw [List.length_take]; omega
theorem few_length (m e : Nat) (ps : List (List UInt8)) : (few m e ps).length ≤ m := by
  unfold few; rw [List.length_map, List.length_take]; omega

theorem PIn.weaken {w : World} {B B' : Nat} {A : Option Addr} {c : Nat} {ps : List (List UInt8)} (h : PIn w B A c ps) (hB : B ≤ B') : PIn w B' A c ps :=
  ⟨h.1, h.2.1, fun h0 => by
    obtain ⟨gp, op, e, hl, hj⟩ := h.2.2 h0
    refine ⟨gp, op, e, by omega, fun j hjl => ?_⟩
    obtain ⟨Aj, cj, hc, hi⟩ := hj j hjl
    refine ⟨Aj, cj, hc, hi.1, hi.2.1, fun h0 => ?_⟩
    obtain ⟨gb, ob, e, hb, hby⟩ := hi.2.2 h0
    exact ⟨gb, ob, e, by omega, hby⟩⟩
/-- Rows that came in as they are seen from a later world. -/
theorem PIn.up {w w' : World} {A : Option Addr} {c : Nat} {ps : List (List UInt8)} (h : PIn w w.heap.size A c ps) (hb : Below w.heap.size w w') : PIn w' w'.heap.size A c ps := (h.below hb).weaken hb.size
theorem few_here {A : Option Addr} {c m e : Nat} {ps qs : List (List UInt8)} {w : World} (hA : PIn w w.heap.size A c ps) (hm : m < 1000) (he : e < 1000) (hq : few m e ps = qs) :
    Calls Try.prog 11 #[.slice A ps.length c, .int .i64 m, .int .i64 e] w fun r w' => ∃ A' c', r = .returned (.slice A' qs.length c') ∧ Rws w' w.heap.size (.slice A' qs.length c') qs ∧ PIn w' w'.heap.size A' c' qs ∧ Below w.heap.size w w' := by
  refine (few_any A c m e w.heap.size ps w (Nat.le_refl _) hA hm he).mono ?_
  rintro r w' ⟨v, rfl, hv, hb⟩
  rw [hq] at hv
  obtain ⟨A', c', rfl, hp, _⟩ := hv.slice
  exact ⟨A', c', rfl, hv, hp, hb⟩
end Go.Proofs.Ytiebdglnkbpajaa
