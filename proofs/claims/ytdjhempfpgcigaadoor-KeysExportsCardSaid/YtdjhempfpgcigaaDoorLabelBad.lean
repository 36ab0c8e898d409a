/-
  Label of a count outside its range, and Derive of a name that is too long.
-/
import Derived.Test.YtdjhempfpgcigaaDoorDerive
import Derived.Test.YtdjhempfpgcigaaDoorDerives0
import Derived.Test.YtdjhempfpgcigaaDoorFree
namespace Go.Proofs.YtdjhempfpgcigaaDoor
open Go.RowKit

set_option maxRecDepth 100000 in
set_option maxHeartbeats 4000000 in
theorem label_out (A : Option Addr) (c : Nat) (n : Int) (key label context : List UInt8) (w : World) (hk : key.length = 32) (hi : In w w.heap.size A c context) (hn : n < 0 ∨ 8160 < n) (hl : label.length ≤ 249) (hc : context.length ≤ 255) :
    Calls Tryd.prog 27 #[.agg (key.map B8).toArray, .string ⟨label.toArray⟩, .slice A context.length c, .int .i64 n] w fun e w' => e = .returned (.tuple #[.slice none 0 0, .int .i64 1]) ∧ Below w.heap.size w w' := by
  have hd : decide ((249 : Int) < (label.length : Int)) = false := by simp; omega
  have hd2 : decide ((255 : Int) < (context.length : Int)) = false := by simp; omega
  have HK := Lib.hid hk
  clear hk
  go_enter Tryd.func27, Tryd.ntmps27
  obtain ⟨h3, hh3⟩ : ∃ h3 : List UInt8, h3 = [UInt8.ofNat (n / 256 % 256).toNat, UInt8.ofNat (n % 256).toNat, UInt8.ofNat (6 + label.length)] := ⟨_, rfl⟩
  have hl3 : h3.length = 3 := by rw [hh3]; rfl
  have hb00 : ∀ X Y : Obj, Below w.heap.size w ((w.alloc X).alloc Y) := fun X Y => ((Below.refl _ _).alloc (Nat.le_refl _) _).alloc (by simp) _
  have hB0 : Buf ((w.alloc (.cells (key.map B8).toArray 22)).alloc (.cells #[.int .u8 (n / 256 % 256), .int .u8 (n % 256), .int .u8 (6 + (label.length : Int))] 5)) (w.heap.size + 1) (some ⟨w.heap.size + 1, 0, none⟩) 3 3 h3 := by
    have := Buf.made (w := w.alloc (.cells (key.map B8).toArray 22)) (base := w.heap.size + 1) (n := 3) (c := 3) (bs := h3) #[.int .u8 (n / 256 % 256), .int .u8 (n % 256), .int .u8 (6 + (label.length : Int))] 5 0 0 (by simp) hl3 (Nat.le_refl _) (by decide) rfl (.inr rfl) (fun j hj => by
      obtain rfl | rfl | rfl : j = 0 ∨ j = 1 ∨ j = 2 := by omega
      · rw [hh3]; simp; omega
      · rw [hh3]; simp; omega
      · rw [hh3]; simp; omega)
    rw [size_alloc] at this
    exact this
  clear hh3 hl3
  have hcn : (context.length : Int) = ((UInt8.ofNat context.length).toNat : Int) := by simp; omega
  have HCN := Lib.hid hcn
  clear hcn
  have hz0 : ∀ X Y : Obj, w.heap.size + 1 ≤ ((w.alloc X).alloc Y).heap.size := fun X Y => by rw [size_alloc, size_alloc]; omega
  go_wp2_with (first
    | ((with_reducible refine (?_ : wpList _ _ _ (Oper.mk (some 30) _ _ _ _ _ :: _) _ _)); go_loud (refine wpList_append_far rfl (.tmp 29) _ 9 rfl (w.heap.size + 1) _ 3 3 h3 tls13 _ rfl hB0 rfl (src_string _ tls13) (by decide) (hz0 _ _) 9 (by decide) ?_); intro A1 c1 w1 hB1 hg1 _;
       have hb1 := below_own (hb00 _ _) hB0 hg1 (Nat.le_succ _) (hb00 _ _).size; have hz1 := Nat.le_trans (hz0 _ _) hg1.size; have hK1 := ((Blk.new_of w 22 _ (key.map B8) rfl).alloc (.cells #[.int .u8 (n / 256 % 256), .int .u8 (n % 256), .int .u8 (6 + (label.length : Int))] 5)).grown hg1 (ownOf_fresh hB0 (Nat.lt_succ_self _)); clear hg1 hB0 hb00 hz0)
    | ((with_reducible refine (?_ : wpList _ _ _ (Oper.mk (some 33) _ _ _ _ _ :: _) _ _)); go_loud (refine wpList_append_far rfl (.tmp 31) (.tmp 32) 9 rfl (w.heap.size + 1) _ 9 _ (h3 ++ tls13) label _ rfl hB1 rfl (src_string _ label) (by omega) hz1 (9 + label.length) rfl ?_); intro A2 c2 w2 hB2 hg2 _;
       have hb2 := below_own hb1 hB1 hg2 (Nat.le_succ _) hb1.size; have hz2 := Nat.le_trans hz1 hg2.size; have hK2 := hK1.grown hg2 (ownOf_fresh hB1 (Nat.lt_succ_self _)); clear hg2 hB1 hb1 hz1 hK1)
    | ((with_reducible refine (?_ : wpList _ _ _ (Oper.mk (some 39) _ _ _ _ _ :: _) _ _)); go_loud (refine wpList_append_far rfl (.tmp 34) (.tmp 38) 26 rfl (w.heap.size + 1) _ (9 + label.length) _ (h3 ++ tls13 ++ label) [UInt8.ofNat context.length] _ rfl (hB2.alloc _) rfl (src_byte ((new_cell _ _ _).trans (congrArg (fun z => some (Value.int .u8 z)) HCN.out))) (by simp only [List.length_cons, List.length_nil]; omega) (le_alloc hz2 _) (9 + label.length + 1) rfl ?_); intro A3 c3 w3 hB3 hg3 _;
       have hb3 := below_own (hb2.alloc hb2.size _) (hB2.alloc _) hg3 (Nat.le_succ _) (le_alloc hb2.size _); have hz3 := Nat.le_trans (le_alloc hz2 _) hg3.size; have hK3 := (hK2.alloc _).grown hg3 (ownOf_fresh hB2 (Nat.lt_succ_self _)); clear hg3 hB2 hb2 hz2 hK2)
    | ((with_reducible refine (?_ : wpList _ _ _ (Oper.mk (some 42) _ _ _ _ _ :: _) _ _)); go_loud (refine wpList_append_far rfl (.tmp 40) (.tmp 41) 26 rfl (w.heap.size + 1) _ (9 + label.length + 1) _ (h3 ++ tls13 ++ label ++ [UInt8.ofNat context.length]) context _ rfl hB3 rfl (src_in' ((hi.up hb3).src (Nat.le_refl _))) (by omega) hz3 (9 + label.length + 1 + context.length) rfl ?_); intro A4 c4 w4 hB4 hg4 _;
       have hb4 := below_own hb3 hB3 hg4 (Nat.le_succ _) hb3.size; have hz4 := Nat.le_trans hz3 hg4.size; have hK4 := hK3.grown hg4 (ownOf_fresh hB3 (Nat.lt_succ_self _)); clear hg4 hB3 hb3 hz3 hK3)
    | ((with_reducible refine (?_ : wpList _ _ _ (Oper.mk (some 43) _ _ _ _ _ :: _) _ _)); go_loud (refine wpList_load_blk rfl 22 (.tmp 4) rfl w.heap.size rfl 22 _ _ hK4 Tryd.underlying22 rfl (info32.trans (by rw [List.length_map, HK.out])) ?_)))
  have hil : (h3 ++ tls13 ++ label ++ [UInt8.ofNat context.length] ++ context).length = 9 + label.length + 1 + context.length := hB4.1
  have he := expand_bad (key.map B8) A4 c4 (h3 ++ tls13 ++ label ++ [UInt8.ofNat context.length] ++ context) n w4 hn
  rw [hil] at he
  refine he.mono ?_
  rintro e w5 ⟨rfl, hb5⟩
  go_wp2
  go_ret2
  exact ⟨rfl, hb4.trans (hb5.mono hb4.size)⟩

set_option maxRecDepth 100000 in
set_option maxHeartbeats 4000000 in
theorem derive_bad (key label sum : List UInt8) (w : World) (hk : key.length = 32) (hs : sum.length = 32) (hl : 249 < label.length) :
    Calls Tryd.prog 26 #[.agg (key.map B8).toArray, .string ⟨label.toArray⟩, .agg (sum.map B8).toArray] w fun e w' => e = .returned (.agg ((List.replicate 32 (0 : UInt8)).map B8).toArray) ∧ Below w.heap.size w w' := by
  have HK := Lib.hid hk
  have HSS := Lib.hid hs
  have hlb := fun (W : World) => label_bad (key.map B8) (some ⟨w.heap.size + 1, 0, none⟩) 32 label sum 32 W (.inl hl)
  rw [hs] at hlb
  have HLB := Lib.hid hlb
  clear hk hs hlb
  go_enter Tryd.func26, Tryd.ntmps26
  go_wp2
  have hK3 : Blk (((w.alloc (.cells (key.map B8).toArray 22)).alloc (.cells (sum.map B8).toArray 22)).alloc (.cells #[Value.int .u8 0, Value.int .u8 0, Value.int .u8 0, Value.int .u8 0, Value.int .u8 0, Value.int .u8 0, Value.int .u8 0, Value.int .u8 0, Value.int .u8 0, Value.int .u8 0, Value.int .u8 0, Value.int .u8 0, Value.int .u8 0, Value.int .u8 0, Value.int .u8 0, Value.int .u8 0, Value.int .u8 0, Value.int .u8 0, Value.int .u8 0, Value.int .u8 0, Value.int .u8 0, Value.int .u8 0, Value.int .u8 0, Value.int .u8 0, Value.int .u8 0, Value.int .u8 0, Value.int .u8 0, Value.int .u8 0, Value.int .u8 0, Value.int .u8 0, Value.int .u8 0, Value.int .u8 0] 22)) w.heap.size 22 (key.map B8) := ((Blk.new_of w _ _ _ rfl).alloc _).alloc _
  have hR3 : Blk (((w.alloc (.cells (key.map B8).toArray 22)).alloc (.cells (sum.map B8).toArray 22)).alloc (.cells #[Value.int .u8 0, Value.int .u8 0, Value.int .u8 0, Value.int .u8 0, Value.int .u8 0, Value.int .u8 0, Value.int .u8 0, Value.int .u8 0, Value.int .u8 0, Value.int .u8 0, Value.int .u8 0, Value.int .u8 0, Value.int .u8 0, Value.int .u8 0, Value.int .u8 0, Value.int .u8 0, Value.int .u8 0, Value.int .u8 0, Value.int .u8 0, Value.int .u8 0, Value.int .u8 0, Value.int .u8 0, Value.int .u8 0, Value.int .u8 0, Value.int .u8 0, Value.int .u8 0, Value.int .u8 0, Value.int .u8 0, Value.int .u8 0, Value.int .u8 0, Value.int .u8 0, Value.int .u8 0] 22)) (w.heap.size + 1 + 1) 22 ((List.replicate 32 (0 : UInt8)).map B8) := Blk.new3_of w _ _ _ _ _ (by rfl)
  have hb3 : Below w.heap.size w (((w.alloc (.cells (key.map B8).toArray 22)).alloc (.cells (sum.map B8).toArray 22)).alloc (.cells #[Value.int .u8 0, Value.int .u8 0, Value.int .u8 0, Value.int .u8 0, Value.int .u8 0, Value.int .u8 0, Value.int .u8 0, Value.int .u8 0, Value.int .u8 0, Value.int .u8 0, Value.int .u8 0, Value.int .u8 0, Value.int .u8 0, Value.int .u8 0, Value.int .u8 0, Value.int .u8 0, Value.int .u8 0, Value.int .u8 0, Value.int .u8 0, Value.int .u8 0, Value.int .u8 0, Value.int .u8 0, Value.int .u8 0, Value.int .u8 0, Value.int .u8 0, Value.int .u8 0, Value.int .u8 0, Value.int .u8 0, Value.int .u8 0, Value.int .u8 0, Value.int .u8 0, Value.int .u8 0] 22)) := (((Below.refl _ _).alloc (Nat.le_refl _) _).alloc (by simp) _).alloc (by simp; omega) _
  generalize ((w.alloc (.cells (key.map B8).toArray 22)).alloc (.cells (sum.map B8).toArray 22)).alloc (.cells #[Value.int .u8 0, Value.int .u8 0, Value.int .u8 0, Value.int .u8 0, Value.int .u8 0, Value.int .u8 0, Value.int .u8 0, Value.int .u8 0, Value.int .u8 0, Value.int .u8 0, Value.int .u8 0, Value.int .u8 0, Value.int .u8 0, Value.int .u8 0, Value.int .u8 0, Value.int .u8 0, Value.int .u8 0, Value.int .u8 0, Value.int .u8 0, Value.int .u8 0, Value.int .u8 0, Value.int .u8 0, Value.int .u8 0, Value.int .u8 0, Value.int .u8 0, Value.int .u8 0, Value.int .u8 0, Value.int .u8 0, Value.int .u8 0, Value.int .u8 0, Value.int .u8 0, Value.int .u8 0] 22) = w3 at *
  have hlK := hK3.lt
  have hlR := hR3.lt
  have HR := Lib.hid (fun (W : World) (h : Below w3.heap.size w3 W) => rangeAt_of_blk (hK3.below h hlK))
  have hu := Tryd.underlying22
  have hi32 : (Tryd.prog.info? 22).map (·.size) = some (key.map B8).length := info32.trans (by rw [List.length_map, HK.out])
  clear hK3
  apply wp_region_once (D := [[], [], [], [0, 1, 2], [0, 1, 2, 3], [0, 1, 2, 3, 4], [0, 1, 2, 3, 4], [0, 1, 2, 3, 4, 5], [0, 1, 2, 3, 4, 5, 6, 7]]) (J := [[], [], [], [0, 1, 2], [3], [4], [4], [5], [6]]) (Je := [7, 8]) (Rs := [Is _, Is _, Is _, Is _, Is _, Is _, Is _, Is _, Is _])
  · kernel_rfl
  · kernel_rfl
  · kernel_rfl
  · kernel_rfl
  · kernel_rfl
  · kernel_rfl
  · intro u
    simp only [List.map_cons, List.map_nil, fillU, List.setIfInBounds_toArray, List.set_cons_zero, List.set_cons_succ, Nat.zero_add, Nat.reduceAdd]
    exact rfl
  · skip
    refine ⟨fun u W hb hd K hK => ?_, ?_⟩
    · clear hd
      rw [if_pos (by rfl)]
      refine wp_load_mid 22 (.tmp 3) rfl (w.heap.size) 0 rfl (key.map B8) _ (HR.out W hb) hu rfl hi32 ?_
      exact hK _ _ _ rfl (Below.refl _ _) IsOut
    refine ⟨fun u W hb hd K hK => ?_, ?_⟩
    · clear hd
      go_simp
      apply hK
      · simp only [Act.put, List.setIfInBounds_toArray, List.set_cons_zero, List.set_cons_succ]
        exact rfl
      · exact Below.refl _ _
      · exact IsOut
    refine ⟨fun u W hb hd K hK => ?_, ?_⟩
    · clear hd
      go_simp
      apply hK
      · simp only [Act.put, List.setIfInBounds_toArray, List.set_cons_zero, List.set_cons_succ]
        exact rfl
      · exact Below.refl _ _
      · exact IsOut
    refine ⟨fun u W hb hd K hK => ?_, ?_⟩
    · simp only [Facts, nthR, Is, and_true] at hd
      simp only [hd] at hK ⊢
      clear hd
      go_simp
      refine (HLB.out W).mono ?_
      rintro e wy ⟨rfl, hby⟩
      exact hK _ _ _ rfl hby IsOut
    refine ⟨fun u W hb hd K hK => ?_, ?_⟩
    · simp only [Facts, nthR, Is, and_true] at hd
      simp only [hd] at hK ⊢
      clear hd
      go_simp
      apply hK
      · simp only [Act.put, List.setIfInBounds_toArray, List.set_cons_zero, List.set_cons_succ]
        exact rfl
      · exact Below.refl _ _
      · exact IsOut
    refine ⟨fun u W hb hd K hK => ?_, ?_⟩
    · simp only [Facts, nthR, Is, and_true] at hd
      simp only [hd] at hK ⊢
      clear hd
      go_simp
      apply hK
      · simp only [Act.put, List.setIfInBounds_toArray, List.set_cons_zero, List.set_cons_succ]
        exact rfl
      · exact Below.refl _ _
      · exact IsOut
    refine ⟨fun u W hb hd K hK => ?_, ?_⟩
    · simp only [Facts, nthR, Is, and_true] at hd
      simp only [hd] at hK ⊢
      clear hd
      go_simp
      apply hK
      · simp only [Act.put, List.setIfInBounds_toArray, List.set_cons_zero, List.set_cons_succ]
        exact rfl
      · exact Below.refl _ _
      · exact IsOut
    refine ⟨fun u W hb hd K hK => ?_, ?_⟩
    · simp only [Facts, nthR, Is, and_true] at hd
      simp only [hd] at hK ⊢
      clear hd
      go_simp
      apply hK
      · simp only [Act.put, List.setIfInBounds_toArray, List.set_cons_zero, List.set_cons_succ]
        exact rfl
      · exact Below.refl _ _
      · exact IsOut
    refine ⟨fun u W hb hd K hK => ?_, ?_⟩
    · simp only [Facts, nthR, Is, and_true] at hd
      simp only [hd] at hK ⊢
      clear hd
      go_simp
      apply hK
      · simp only [Act.put, List.setIfInBounds_toArray, List.set_cons_zero, List.set_cons_succ]
        exact rfl
      · exact Below.refl _ _
      · exact IsOut
    exact trivial
  · exact (.is (.is (.is (.is (.is (.is (.is (.is (.is .nil)))))))))
  · intro u W hb hd
    simp only [Facts, nthR, Is, and_true] at hd
    simp only [hd]
    have hR5 := hR3.below hb hlR
    have hbw := hb3.trans (hb.mono hb3.size)
    go_wp2_with ((with_reducible refine (?_ : wpList _ _ _ (Oper.mk none (.store 22 _ _) _ _ _ _ :: _) _ _)); go_loud (refine wpList_store_blk rfl 22 (.tmp 6) (.tmp 18) rfl rfl (w.heap.size + 1 + 1) ((List.replicate 32 (0 : UInt8)).map B8) rfl rfl 22 _ hR5 (info32.trans (by rw [List.length_map, List.length_replicate])) (by rw [List.length_map, List.length_replicate]) (one8 _) ?_); intro w6 hR6 hg6)
    refine bodyPost_ret (v := .agg _) (results_cell_row rfl _ _ (w.heap.size + 1 + 1) 22 _ (0, 0) _ rfl hR6.raw Tryd.underlying22 rfl (info32.trans (by simp))) rfl ⟨rfl, below_new hbw hg6 (by omega) hbw.size⟩
end Go.Proofs.YtdjhempfpgcigaaDoor
