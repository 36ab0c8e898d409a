/-
 Rd5.
-/
import Derived.Test.YtnjpcbbdhimacaaDoorKm
import Derived.Test.YtnjpcbbdhimacaaDoorKh
namespace Go.Proofs.YtnjpcbbdhimacaaDoor
open Go.RowKit
set_option maxRecDepth 100000 in
set_option maxHeartbeats 1000000 in
theorem rseal_e (n nh nb : Nat) (hn : n = 4 ∨ n = 8) (key N P bes : List UInt8) (w : World) (hl : key.length = 4 * n) (hN : N.length = 12) (lp : P.length = nh) (lb : bes.length = nb) (hh : nh < 1000000) (hb : nb < 1000000) :
  Calls Tryd.prog 19 #[.string ⟨key.toArray⟩, BV N, .string ⟨P.toArray⟩, .string ⟨bes.toArray⟩] w fun e w' => e = .returned (.string ⟨(boxE (keyL n key) (n + 7) N P bes).toArray⟩) ∧ Below w.heap.size w w' := by
 have ktn := fun W => turn_e n nh hn key N P W hl hN lp hh
 have hml : (maskE (keyL n key) (n + 7) N P).length = nh := by rw [maskE_length, lp]
 have ktg := fun W => rtag_e n nh nb hn key N (maskE (keyL n key) (n + 7) N P) bes W hl hN hml lb hh hb
 have htl := tagE_length (keyL n key) (n + 7) N (maskE (keyL n key) (n + 7) N P) bes
 unfold boxE
 generalize tagE (keyL n key) (n + 7) N (maskE (keyL n key) (n + 7) N P) bes = T at *
 generalize maskE (keyL n key) (n + 7) N P = M at *
 have hap := bytes_append M T
 have hcl : ¬ 9223372036854775807 < M.length + T.length := by omega
 have HTN := Lib.hid ktn
 have HTG := Lib.hid ktg
 have HN := Lib.hid hN
 clear ktn ktg hml htl hN lp lb hh hb hl hn
 go_enter Tryd.func19, Tryd.ntmps19
 have hA := Blk.new_of w 48 _ (N.map B8) rfl
 have hbw : Below w.heap.size w (w.alloc (.cells (N.map B8).toArray 48)) := (Below.refl _ _).alloc (Nat.le_refl _) _
 go_wp2_with (first
  | ((with_reducible refine (?_ : wpList _ _ _ (Oper.mk (some 11) _ _ _ _ _ :: _) _ _)); go_loud (refine wpList_load_blk rfl 48 (.tmp 5) rfl (w.heap.size) rfl 48 _ _ hA Tryd.underlying48 rfl (info12.trans (by rw [List.length_map, HN.out])) ?_))
  | ((with_reducible refine (?_ : wpList _ _ _ (Oper.mk (some 16) _ _ _ _ _ :: _) _ _)); go_loud (refine wpList_load_blk rfl 48 (.tmp 5) rfl (w.heap.size) rfl 48 _ _ hA Tryd.underlying48 rfl (info12.trans (by rw [List.length_map, HN.out])) ?_))
  | (go_at_call 42; go_loud (refine (HTN.out _).mono ?_); rintro e w2 ⟨rfl, hb2⟩; replace hA := hA.below hb2 hA.lt; replace hbw := hbw.trans (hb2.mono hbw.size); clear hb2)
  | (go_at_call 43; go_loud (refine (HTG.out _).mono ?_); rintro e w3 ⟨rfl, hb3⟩; replace hbw := hbw.trans (hb3.mono hbw.size); clear hb3))
 go_ret
 exact ⟨by first | rw [hap] | rfl, hbw⟩

end Go.Proofs.YtnjpcbbdhimacaaDoor
