/-
  The contracts of package keys: Export, Again; and of the document's.
-/
import Derived.Test.YtdjhempfpgcigaaDoorKs
namespace Go.Proofs.YtdjhempfpgcigaaDoor
open Go.RowKit

def xpL : List UInt8 := [101, 120, 112, 111, 114, 116, 101, 114]
def rsL : List UInt8 := [114, 101, 115, 117, 109, 112, 116, 105, 111, 110]
def xpOut (t m : List UInt8) (n : Int) : List UInt8 := if 0 ≤ n then expand t (labelInfo xpL m n.toNat) n.toNat else []
def xpErr (n : Int) : Nat := if 0 ≤ n then 0 else 1
/-- What Export answers: the bytes, and the error. -/
def exOut (lab key ctx : List UInt8) (n : Int) : List UInt8 := if lab.length ≤ 249 then xpOut (deriveS lab key sha0) (sha ctx) n else []
def exErr (lab : List UInt8) (n : Int) : Nat := if lab.length ≤ 249 then xpErr n else 1
def agS (key ctx : List UInt8) : List UInt8 := if ctx.length ≤ 255 then deriveS rsL key ctx else zero32
theorem agS_length (key ctx : List UInt8) : (agS key ctx).length = 32 := by
  unfold agS; split
  · exact deriveS_length _ _ _
  · rfl

theorem label_xp (t m : List UInt8) (A : Option Addr) (c : Nat) (n : Int) (w : World) (hk : t.length = 32) (hi : In w w.heap.size A c m) (hm : m.length = 32) (hn : n ≤ 8160) (ht : Tabs w) :
    Calls Tryd.prog 27 #[.agg (t.map B8).toArray, .string ⟨#[101, 120, 112, 111, 114, 116, 101, 114]⟩, .slice A 32 c, .int .i64 n] w fun e w' => ∃ A' n' c', e = .returned (.tuple #[.slice A' n' c', .int .i64 (xpErr n : Nat)]) ∧ (xpOut t m n).length = n' ∧ In w' w'.heap.size A' c' (xpOut t m n) ∧ Below w.heap.size w w' := by
  unfold xpErr xpOut
  by_cases h : 0 ≤ n
  · obtain ⟨N, rfl⟩ : ∃ N : Nat, n = (N : Int) := ⟨n.toNat, by omega⟩
    rw [if_pos h, if_pos h]
    have := label_any A c N t xpL m w hk hi (by decide) (by omega) (by omega) ht
    rw [hm] at this
    refine this.mono ?_
    rintro e w' ⟨g, rfl, hg, hB, hb⟩
    exact ⟨some ⟨g, 0, none⟩, N, N, rfl, expand_length _ _ _, ⟨by rw [Int.toNat_natCast, expand_length]; exact Nat.le_refl _, by omega, fun _ => ⟨g, 0, rfl, hB.lt, fun j hj => by rw [Nat.zero_add]; exact hB.at8 j hj⟩⟩, hb⟩
  · rw [if_neg h, if_neg h]
    have := label_out A c n t xpL m w hk hi (.inl (by omega)) (by decide) (by omega)
    rw [hm] at this
    refine this.mono ?_
    rintro e w' ⟨rfl, hb⟩
    exact ⟨none, 0, 0, rfl, rfl, ⟨Nat.le_refl _, by omega, fun h => absurd h (by simp)⟩, hb⟩
theorem refLabel_xp (t m : List UInt8) (n : Int) (w : World) (hk : t.length = 32) (hm : m.length = 32) (hn : n ≤ 8160) :
    Calls Tryd.prog 37 #[.string ⟨t.toArray⟩, .string ⟨#[101, 120, 112, 111, 114, 116, 101, 114]⟩, .string ⟨m.toArray⟩, .int .i64 n] w fun e w' => e = .returned (.tuple #[.string ⟨(xpOut t m n).toArray⟩, .int .i64 (xpErr n : Nat)]) ∧ Below w.heap.size w w' := by
  unfold xpErr xpOut
  by_cases h : 0 ≤ n
  · obtain ⟨N, rfl⟩ : ∃ N : Nat, n = (N : Int) := ⟨n.toNat, by omega⟩
    rw [if_pos h, if_pos h]
    exact refLabel_any N t xpL m w (by omega) (by omega) (by decide) (by omega)
  · rw [if_neg h, if_neg h]
    exact refLabel_bad t xpL m n w (.inl (by omega)) (by decide)

set_option maxRecDepth 100000 in
set_option maxHeartbeats 1000000 in
theorem export_near (lab key ctx : List UInt8) (A : Option Addr) (c : Nat) (n : Int) (w : World) (hk : key.length = 32) (ia : In w w.heap.size A c ctx) (hl : lab.length ≤ 249) (hcl : ctx.length ≤ 1000) (hn : n ≤ 8160) (ht : Tabs w) :
    Calls Tryd.prog 21 #[.agg (key.map B8).toArray, .string ⟨lab.toArray⟩, .slice A ctx.length c, .int .i64 n] w fun e w' => ∃ A' n' c', e = .returned (.tuple #[.slice A' n' c', .int .i64 (xpErr n : Nat)]) ∧ (xpOut (deriveS lab key sha0) (sha ctx) n).length = n' ∧ In w' w'.heap.size A' c' (xpOut (deriveS lab key sha0) (sha ctx) n) ∧ Below w.heap.size w w' := by
  have hde := fun (W : World) (h : Tabs W) => derive_lab lab key sha0 W hk sha0_length hl h
  have hdl := deriveS_length lab key sha0
  have hsl := sha_length ctx
  generalize deriveS lab key sha0 = D at *
  obtain ⟨S, hS⟩ : ∃ S, S = sha ctx := ⟨_, rfl⟩
  rw [← hS] at hsl ⊢
  have hlx := fun (W : World) (g : Nat) (h : In W W.heap.size (some ⟨g, 0, none⟩) 32 S) (ht : Tabs W) => label_xp D S (some ⟨g, 0, none⟩) 32 n W hdl h hsl hn ht
  generalize xpOut D S n = OUT at *
  generalize xpErr n = er at *
  have hd1 : decide ((249 : Int) < (lab.length : Int)) = false := by simp; omega
  have hz : ∀ W : World, (zeroValue 22).run Tryd.prog W = .ok (.agg (zero32.map B8).toArray) W := fun W => by kernel_rfl
  obtain ⟨Z, hZ⟩ : ∃ Z, Z = zero32 := ⟨_, rfl⟩
  have HZL := Lib.hid (show Z.length = 32 by rw [hZ]; rfl)
  rw [← hZ] at hz
  have HDE := Lib.hid hde
  have HLX := Lib.hid hlx
  have HSL := Lib.hid hsl
  have HS := Lib.hid hS
  have HK := Lib.hid hk
  have HCL := Lib.hid hcl
  clear hde hdl hsl hlx hS hk hZ hcl hl hn
  go_enter Tryd.func21, Tryd.ntmps21
  have hb2 := fun X => ((Below.refl w.heap.size w).alloc (Nat.le_refl _) (.cells (key.map B8).toArray 22)).alloc (by simp) X
  have hA := fun X => ((Blk.new_of w 22 _ (key.map B8) rfl).alloc X)
  go_wp2_with (first
    | (go_at_call 25; refine (of_one (b := ctx) rfl (by have := HCL.out; omega) (ht.below (hb2 _)) (cell2 _ _ _ _) (in_up ia (hb2 _)) (Nat.le_refl _)).mono ?_; rintro e w2 ⟨rfl, hb⟩; rw [← HS.out]; have hK2 := (hA _).below hb (hA _).lt; have hbw := (hb2 _).trans (hb.mono (hb2 _).size); clear hb hA hb2)
    | (refine wpList_store_blk rfl 22 (.tmp 10) (.tmp 16) rfl rfl (w2.heap.size) _ rfl rfl 22 _ (Blk.new_of w2 22 _ _ rfl) (info32.trans (by rw [List.length_map, HSL.out])) (by rw [List.length_map, List.length_map, HSL.out, HZL.out]) (one8 _) ?_; intro w3 hS3 hg3; have hb' := below_new ((Below.refl w2.heap.size w2).alloc (Nat.le_refl _) _) hg3 (Nat.le_refl _) (by simp); replace hK2 := hK2.below hb' hK2.lt; replace hbw := hbw.trans (hb'.mono hbw.size); clear hb' hg3))
  generalize w2.heap.size = gs at *
  clear hz hd1
  apply wp_region_once (D := [[], [], [], [0, 1, 2], [], [], [0, 1, 2, 3, 4, 5], [0, 1, 2, 3, 4, 5, 6], [0, 1, 2, 3, 4, 5, 6], [0, 1, 2, 3, 4, 5, 6, 7, 8], [0, 1, 2, 3, 4, 5, 6, 7, 8, 9]]) (J := [[], [], [], [0, 1, 2], [], [], [3, 4, 5], [6], [6], [7], [8]]) (Je := [9, 10]) (Rs := [Is _, Is _, Is _, Is _, Is _, Is _, fun v V => ∃ (A' : Option Addr) (n' c' : Nat), v = .tuple #[.slice A' n' c', .int .i64 (er : Nat)] ∧ OUT.length = n' ∧ In V V.heap.size A' c' OUT, fun v V => ∃ (A' : Option Addr) (n' c' : Nat), v = .slice A' n' c' ∧ OUT.length = n' ∧ In V V.heap.size A' c' OUT, Is _, fun v V => ∃ (A' : Option Addr) (n' c' : Nat), v = .slice A' n' c' ∧ OUT.length = n' ∧ In V V.heap.size A' c' OUT, Is _])
  · kernel_rfl
  · kernel_rfl
  · kernel_rfl
  · kernel_rfl
  · kernel_rfl
  · kernel_rfl
  · intro u
    simp only [List.map_cons, List.map_nil, fillU, List.setIfInBounds_toArray, List.set_cons_zero, List.set_cons_succ, Nat.zero_add, Nat.reduceAdd]
    exact rfl
  · skip
    refine ⟨fun u W hb hd K hK => ?_, ?_⟩
    · clear hd
      rw [if_pos (by rfl)]
      refine wp_load_mid 22 (.tmp 4) rfl (w.heap.size) 0 rfl (key.map B8) _ (rangeAt_of_blk (hK2.below hb hK2.lt)) Tryd.underlying22 rfl (info32.trans (by rw [List.length_map, HK.out])) ?_
      exact hK _ _ _ rfl (Below.refl _ _) IsOut
    refine ⟨fun u W hb hd K hK => ?_, ?_⟩
    · clear hd
      go_simp
      apply hK
      · simp only [Act.put, List.setIfInBounds_toArray, List.set_cons_zero, List.set_cons_succ]
        exact rfl
      · exact Below.refl _ _
      · exact IsOut
    refine ⟨fun u W hb hd K hK => ?_, ?_⟩
    · clear hd
      go_simp
      refine (of_nil _ ((ht.below hbw).below hb)).mono ?_
      rintro e wy ⟨rfl, hby⟩
      exact hK _ _ _ rfl hby IsOut
    refine ⟨fun u W hb hd K hK => ?_, ?_⟩
    · simp only [Facts, nthR, Is, and_true] at hd
      simp only [hd] at hK ⊢
      clear hd
      go_simp
      refine (HDE.out _ ((ht.below hbw).below hb)).mono ?_
      rintro e wy ⟨rfl, hby⟩
      exact hK _ _ _ rfl hby IsOut
    refine ⟨fun u W hb hd K hK => ?_, ?_⟩
    · clear hd
      go_simp
      apply hK
      · simp only [Act.put, List.setIfInBounds_toArray, List.set_cons_zero, List.set_cons_succ]
        exact rfl
      · exact Below.refl _ _
      · exact IsOut
    refine ⟨fun u W hb hd K hK => ?_, ?_⟩
    · clear hd
      go_simp
      apply hK
      · simp only [Act.put, List.setIfInBounds_toArray, List.set_cons_zero, List.set_cons_succ]
        exact rfl
      · exact Below.refl _ _
      · exact IsOut
    refine ⟨fun u W hb hd K hK => ?_, ?_⟩
    · simp only [Facts, nthR, Is, and_true] at hd
      simp only [hd] at hK ⊢
      clear hd
      go_simp
      refine (HLX.out _ _ (in_of_blk hS3 HSL.out hb) ((ht.below hbw).below hb)).mono ?_
      rintro e wy ⟨A', n', c', rfl, hn', hi', hby⟩
      exact hK _ _ _ rfl hby ⟨A', n', c', rfl, hn', hi'⟩
    refine ⟨fun u W hb hd K hK => ?_, ?_⟩
    · simp only [Facts, nthR, and_true] at hd
      obtain ⟨A', n', c', h6, hn', hi'⟩ := hd
      simp only [h6] at hK ⊢
      clear h6
      go_simp
      apply hK
      · simp only [Act.put, List.setIfInBounds_toArray, List.set_cons_zero, List.set_cons_succ]
        exact rfl
      · exact Below.refl _ _
      · exact ⟨A', n', c', rfl, hn', hi'⟩
    refine ⟨fun u W hb hd K hK => ?_, ?_⟩
    · simp only [Facts, nthR, and_true] at hd
      obtain ⟨A', n', c', h6, hn', hi'⟩ := hd
      simp only [h6] at hK ⊢
      clear h6
      go_simp
      apply hK
      · simp only [Act.put, List.setIfInBounds_toArray, List.set_cons_zero, List.set_cons_succ]
        exact rfl
      · exact Below.refl _ _
      · exact IsOut
    refine ⟨fun u W hb hd K hK => ?_, ?_⟩
    · simp only [Facts, nthR, and_true] at hd
      obtain ⟨A', n', c', h6, hn', hi'⟩ := hd
      simp only [h6] at hK ⊢
      clear h6
      go_simp
      apply hK
      · simp only [Act.put, List.setIfInBounds_toArray, List.set_cons_zero, List.set_cons_succ]
        exact rfl
      · exact Below.refl _ _
      · exact ⟨A', n', c', rfl, hn', hi'⟩
    refine ⟨fun u W hb hd K hK => ?_, ?_⟩
    · simp only [Facts, nthR, Is, and_true] at hd
      simp only [hd] at hK ⊢
      clear hd
      go_simp
      apply hK
      · simp only [Act.put, List.setIfInBounds_toArray, List.set_cons_zero, List.set_cons_succ]
        exact rfl
      · exact Below.refl _ _
      · exact IsOut
    exact trivial
  · exact (.is (.is (.is (.is (.is (.is (.cons (fun v V V' ⟨A', n', c', h1, h2, h3⟩ hb => ⟨A', n', c', h1, h2, in_up h3 hb⟩) (.cons (fun v V V' ⟨A', n', c', h1, h2, h3⟩ hb => ⟨A', n', c', h1, h2, in_up h3 hb⟩) (.is (.cons (fun v V V' ⟨A', n', c', h1, h2, h3⟩ hb => ⟨A', n', c', h1, h2, in_up h3 hb⟩) (.is .nil)))))))))))
  · intro u W hb hd
    simp only [Facts, nthR, Is, and_true] at hd
    obtain ⟨⟨A', n', c', h9, hn', hi'⟩, h10⟩ := hd
    simp only [h9, h10]
    clear h9 h10
    go_wp2
    go_ret2
    exact ⟨A', n', c', rfl, hn', hi', hbw.trans (hb.mono hbw.size)⟩

set_option maxRecDepth 100000 in
set_option maxHeartbeats 1000000 in
theorem export_far (lab key ctx : List UInt8) (A : Option Addr) (c : Nat) (n : Int) (w : World) (hl : ¬ lab.length ≤ 249) :
    Calls Tryd.prog 21 #[.agg (key.map B8).toArray, .string ⟨lab.toArray⟩, .slice A ctx.length c, .int .i64 n] w fun e w' => e = .returned (.tuple #[.slice none 0 0, .int .i64 1]) ∧ Below w.heap.size w w' := by
  have hd1 : decide ((249 : Int) < (lab.length : Int)) = true := by simp; omega
  go_enter Tryd.func21, Tryd.ntmps21
  go_wp2
  go_ret2
  exact ⟨rfl, (Below.refl _ _).alloc (Nat.le_refl _) _⟩
theorem export_all (lab key ctx : List UInt8) (A : Option Addr) (c : Nat) (n : Int) (w : World) (hk : key.length = 32) (ia : In w w.heap.size A c ctx) (hcl : ctx.length ≤ 1000) (hn : n ≤ 8160) (ht : Tabs w) :
    Calls Tryd.prog 21 #[.agg (key.map B8).toArray, .string ⟨lab.toArray⟩, .slice A ctx.length c, .int .i64 n] w fun e w' => ∃ A' n' c', e = .returned (.tuple #[.slice A' n' c', .int .i64 (exErr lab n : Nat)]) ∧ (exOut lab key ctx n).length = n' ∧ In w' w'.heap.size A' c' (exOut lab key ctx n) ∧ Below w.heap.size w w' := by
  unfold exErr exOut
  by_cases h : lab.length ≤ 249
  · rw [if_pos h, if_pos h]; exact export_near lab key ctx A c n w hk ia h hcl hn ht
  · rw [if_neg h, if_neg h]
    refine (export_far lab key ctx A c n w h).mono ?_
    rintro e w' ⟨rfl, hb⟩
    exact ⟨none, 0, 0, rfl, rfl, ⟨Nat.le_refl _, by omega, fun h => absurd h (by simp)⟩, hb⟩

set_option maxRecDepth 100000 in
set_option maxHeartbeats 1000000 in
theorem refExport_all (lab key ctx : List UInt8) (n : Int) (w : World) (hk : key.length = 32) (hcl : ctx.length ≤ 1000) (hn : n ≤ 8160) :
    Calls Tryd.prog 22 #[.string ⟨key.toArray⟩, .string ⟨lab.toArray⟩, .string ⟨ctx.toArray⟩, .int .i64 n] w fun e w' => e = .returned (.tuple #[.string ⟨(exOut lab key ctx n).toArray⟩, .int .i64 (exErr lab n : Nat)]) ∧ Below w.heap.size w w' := by
  unfold exErr exOut
  by_cases h : lab.length ≤ 249
  · rw [if_pos h, if_pos h]
    have hd1 : decide ((249 : Int) < (lab.length : Int)) = false := by simp; omega
    have hdl := deriveS_length lab key sha0
    have hde := fun (W : World) => refDerive_ok lab key sha0 W (by omega) h (by rw [sha0_length]; decide)
    have hsl := sha_length ctx
    have hsu := fun (W : World) => refSum_any ctx W (by omega)
    obtain ⟨D, hD⟩ : ∃ D, D = deriveS lab key sha0 := ⟨_, rfl⟩
    obtain ⟨S, hS⟩ : ∃ S, S = sha ctx := ⟨_, rfl⟩
    rw [← hD] at hdl hde ⊢
    rw [← hS] at hsl hsu ⊢
    have hlx := fun (W : World) => refLabel_xp D S n W hdl hsl hn
    clear hD hS hdl hsl h
    generalize xpOut D S n = OUT at *
    generalize xpErr n = er at *
    go_enter Tryd.func22, Tryd.ntmps22
    go_wp2_with fail
    refine (refSum_nil _).mono ?_
    rintro e w1 ⟨rfl, hb1⟩
    go_wp2_with fail
    refine (hde _).mono ?_
    rintro e w2 ⟨rfl, hb2⟩
    go_wp2_with fail
    refine (hsu _).mono ?_
    rintro e w3 ⟨rfl, hb3⟩
    go_wp2_with fail
    refine (hlx _).mono ?_
    rintro e w4 ⟨rfl, hb4⟩
    replace hb2 := hb1.trans (hb2.mono hb1.size)
    replace hb3 := hb2.trans (hb3.mono hb2.size)
    replace hb4 := hb3.trans (hb4.mono hb3.size)
    go_wp2
    go_ret2
    exact ⟨rfl, hb4⟩
  · rw [if_neg h, if_neg h]
    have hd1 : decide ((249 : Int) < (lab.length : Int)) = true := by simp; omega
    go_enter Tryd.func22, Tryd.ntmps22
    go_wp2
    go_ret2
    exact ⟨rfl, Below.refl _ _⟩

set_option maxRecDepth 100000 in
set_option maxHeartbeats 1000000 in
theorem again_ok (key ctx : List UInt8) (A : Option Addr) (c : Nat) (w : World) (hk : key.length = 32) (ia : In w w.heap.size A c ctx) (hcl : ctx.length ≤ 255) (ht : Tabs w) :
    Calls Tryd.prog 23 #[.agg (key.map B8).toArray, .slice A ctx.length c] w fun e w' => e = .returned (.agg ((deriveS rsL key ctx).map B8).toArray) ∧ Below w.heap.size w w' := by
  have hla := fun (W : World) (ia : In W W.heap.size A c ctx) (ht : Tabs W) => (show Calls Tryd.prog 27 #[.agg (key.map B8).toArray, .string ⟨#[114, 101, 115, 117, 109, 112, 116, 105, 111, 110]⟩, .slice A ctx.length c, .int .i64 32] W fun e w' => ∃ g, e = .returned (.tuple #[.slice (some ⟨g, 0, none⟩) 32 32, .int .i64 0]) ∧ W.heap.size ≤ g ∧ Blk w' g 5 ((deriveS rsL key ctx).map B8) ∧ Below W.heap.size W w' from label_any A c 32 key rsL ctx W hk ia (by decide) hcl (by decide) ht)
  have hxl := deriveS_length rsL key ctx
  generalize deriveS rsL key ctx = X at *
  have hz : ∀ W : World, (zeroValue 22).run Tryd.prog W = .ok (.agg (zero32.map B8).toArray) W := fun W => by kernel_rfl
  obtain ⟨Z, hZ⟩ : ∃ Z, Z = zero32 := ⟨_, rfl⟩
  have HZL := Lib.hid (show Z.length = 32 by rw [hZ]; rfl)
  rw [← hZ] at hz
  have harr : ∀ (g : Nat) (W : World), (Instr.arrayAt 22 (.slice (some ⟨g, 0, none⟩) 32 32)).run Tryd.prog W = .ok (.pointer (some ⟨g, 0, none⟩)) W := fun g W => by kernel_rfl
  have HLA := Lib.hid hla
  have HXL := Lib.hid hxl
  have HK := Lib.hid hk
  clear hla hxl hk hZ hcl
  have hA : Blk ((w.alloc (.cells (key.map B8).toArray 22)).alloc (.cells (Z.map B8).toArray 22)) w.heap.size 22 _ := (Blk.new_of w 22 _ _ rfl).alloc _
  have hB : Blk ((w.alloc (.cells (key.map B8).toArray 22)).alloc (.cells (Z.map B8).toArray 22)) (w.heap.size + 1) 22 _ := Blk.new2_of w (.cells (key.map B8).toArray 22) 22 _ _ rfl
  have hbw : Below w.heap.size w ((w.alloc (.cells (key.map B8).toArray 22)).alloc (.cells (Z.map B8).toArray 22)) := ((Below.refl w.heap.size w).alloc (Nat.le_refl _) _).alloc (by simp) _
  go_enter Tryd.func23, Tryd.ntmps23
  go_wp2_with (first
    | ((with_reducible refine (?_ : wpList _ _ _ (Oper.mk (some 8) _ _ _ _ _ :: _) _ _)); go_loud (refine wpList_load_blk rfl 22 (.tmp 2) rfl (w.heap.size) rfl 22 _ _ hA Tryd.underlying22 rfl (info32.trans (by rw [List.length_map, HK.out])) ?_))
    | (go_at_call 27; go_loud (refine (HLA.out _ (in_up ia hbw) (ht.below hbw)).mono ?_); rintro e w2 ⟨g, rfl, hg, hG, hb2⟩; replace hB := hB.below hb2 hB.lt; replace hbw := hbw.trans (hb2.mono hbw.size); clear hb2)
    | ((with_reducible refine (?_ : wpList _ _ _ (Oper.mk (some 18) _ _ _ _ _ :: _) _ _)); go_loud (refine wpList_load_blk rfl 22 (.tmp 17) rfl g rfl 5 _ _ hG Tryd.underlying22 rfl (info32.trans (by rw [List.length_map, HXL.out])) ?_))
    | (refine wpList_store_blk rfl 22 (.tmp 4) (.tmp 18) rfl rfl (w.heap.size + 1) _ rfl rfl 22 _ hB (info32.trans (by rw [List.length_map, HXL.out])) (by rw [List.length_map, List.length_map, HXL.out, HZL.out]) (one8 _) ?_; intro w7 hR7 hg7))
  refine bodyPost_ret (v := .agg _) (results_cell_row rfl _ _ (w.heap.size + 1) 22 _ (0, 0) _ rfl hR7.raw Tryd.underlying22 rfl (info32.trans (by rw [List.size_toArray, List.length_map, HXL.out]))) rfl ⟨rfl, below_new hbw hg7 (by omega) hbw.size⟩

set_option maxRecDepth 100000 in
set_option maxHeartbeats 1000000 in
theorem again_bad (key ctx : List UInt8) (A : Option Addr) (c : Nat) (w : World) (hk : key.length = 32) (hcl : ¬ ctx.length ≤ 255) :
    Calls Tryd.prog 23 #[.agg (key.map B8).toArray, .slice A ctx.length c] w fun e w' => e = .returned (.agg (zero32.map B8).toArray) ∧ Below w.heap.size w w' := by
  have hla := fun (W : World) => label_bad (key.map B8) A c rsL ctx 32 W (.inr (by omega))
  have hz : ∀ W : World, (zeroValue 22).run Tryd.prog W = .ok (.agg (zero32.map B8).toArray) W := fun W => by kernel_rfl
  obtain ⟨Z, hZ⟩ : ∃ Z, Z = zero32 := ⟨_, rfl⟩
  have HZL := Lib.hid (show Z.length = 32 by rw [hZ]; rfl)
  rw [← hZ] at hz
  have HLA := Lib.hid hla
  have HK := Lib.hid hk
  rw [← hZ]
  clear hla hk hZ hcl
  have hA : Blk ((w.alloc (.cells (key.map B8).toArray 22)).alloc (.cells (Z.map B8).toArray 22)) w.heap.size 22 _ := (Blk.new_of w 22 _ _ rfl).alloc _
  have hB : Blk ((w.alloc (.cells (key.map B8).toArray 22)).alloc (.cells (Z.map B8).toArray 22)) (w.heap.size + 1) 22 _ := Blk.new2_of w (.cells (key.map B8).toArray 22) 22 _ _ rfl
  have hbw : Below w.heap.size w ((w.alloc (.cells (key.map B8).toArray 22)).alloc (.cells (Z.map B8).toArray 22)) := ((Below.refl w.heap.size w).alloc (Nat.le_refl _) _).alloc (by simp) _
  have hzz := HZL.out
  go_enter Tryd.func23, Tryd.ntmps23
  go_wp2_with (first
    | ((with_reducible refine (?_ : wpList _ _ _ (Oper.mk (some 8) _ _ _ _ _ :: _) _ _)); go_loud (refine wpList_load_blk rfl 22 (.tmp 2) rfl (w.heap.size) rfl 22 _ _ hA Tryd.underlying22 rfl (info32.trans (by rw [List.length_map, HK.out])) ?_))
    | (go_at_call 27; refine (HLA.out _).mono ?_; rintro e w2 ⟨rfl, hb2⟩; replace hB := hB.below hb2 hB.lt; replace hbw := hbw.trans (hb2.mono hbw.size); clear hb2)
    | (refine wpList_store_blk rfl 22 (.tmp 4) (.tmp 15) rfl rfl (w.heap.size + 1) _ rfl rfl 22 _ hB (info32.trans (by rw [List.length_map, HZL.out])) rfl (one8 _) ?_; intro w7 hR7 hg7))
  refine bodyPost_ret (v := .agg _) (results_cell_row rfl _ _ (w.heap.size + 1) 22 _ (0, 0) _ rfl hR7.raw Tryd.underlying22 rfl (info32.trans (by rw [List.size_toArray, List.length_map, HZL.out]))) rfl ⟨rfl, below_new hbw hg7 (by omega) hbw.size⟩
theorem again_all (key ctx : List UInt8) (A : Option Addr) (c : Nat) (w : World) (hk : key.length = 32) (ia : In w w.heap.size A c ctx) (ht : Tabs w) :
    Calls Tryd.prog 23 #[.agg (key.map B8).toArray, .slice A ctx.length c] w fun e w' => e = .returned (.agg ((agS key ctx).map B8).toArray) ∧ Below w.heap.size w w' := by
  unfold agS
  by_cases h : ctx.length ≤ 255
  · rw [if_pos h]; exact again_ok key ctx A c w hk ia h ht
  · rw [if_neg h]; exact again_bad key ctx A c w hk h
set_option maxRecDepth 100000 in
set_option maxHeartbeats 1000000 in
theorem refAgain_all (key ctx : List UInt8) (w : World) (hk : key.length = 32) :
    Calls Tryd.prog 24 #[.string ⟨key.toArray⟩, .string ⟨ctx.toArray⟩] w fun e w' => e = .returned (.string ⟨(agS key ctx).toArray⟩) ∧ Below w.heap.size w w' := by
  have hd : ∀ W : World, Calls Tryd.prog 34 #[.string ⟨key.toArray⟩, .string ⟨#[114, 101, 115, 117, 109, 112, 116, 105, 111, 110]⟩, .string ⟨ctx.toArray⟩] W fun e w' => e = .returned (.string ⟨(agS key ctx).toArray⟩) ∧ Below W.heap.size W w' := fun W => by
    unfold agS
    by_cases h : ctx.length ≤ 255
    · rw [if_pos h]; exact refDerive_ok rsL key ctx W (by omega) (by decide) h
    · rw [if_neg h]; exact refDerive_bad rsL key ctx W (.inr (by omega)) (by decide)
  go_enter Tryd.func24, Tryd.ntmps24
  go_wp2_with fail
  refine (hd _).mono ?_
  rintro e w1 ⟨rfl, hb1⟩
  go_wp2
  go_ret
  exact ⟨rfl, hb1⟩
end Go.Proofs.YtdjhempfpgcigaaDoor
