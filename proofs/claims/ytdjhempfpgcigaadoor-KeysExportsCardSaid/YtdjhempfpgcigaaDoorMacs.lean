/-
  The contract of the statements' own look at RFC 4231's second mark, and of Extract.
-/
import Derived.Test.YtdjhempfpgcigaaDoorMac
import Derived.Lib.SlBytesConst
import Derived.Lib.SmallJoins
namespace Go.Proofs.YtdjhempfpgcigaaDoor
open Go.RowKit

def jefe : List UInt8 := [74, 101, 102, 101]
def whatDo : List UInt8 := [119, 104, 97, 116, 32, 100, 111, 32, 121, 97, 32, 119, 97, 110, 116, 32]
def forNothing : List UInt8 := [102, 111, 114, 32, 110, 111, 116, 104, 105, 110, 103, 63]
theorem hmac_jefe : ((hmac jefe (whatDo ++ forNothing)).getD 0 0, (hmac jefe (whatDo ++ forNothing)).getD 1 0, (hmac jefe (whatDo ++ forNothing)).getD 31 0) = (0x5B, 0xDC, 0x43) := by decide +kernel

theorem bytes_row {w : World} {g : Nat} {k : List UInt8} {t : TypeId} {f : Nat × Nat} (h : w.heap[g]? = some (.cells (k.map B8).toArray t f)) : Bytes w g 0 k := fun j hj => by
  rw [Nat.zero_add, cell_of_row w g j _ t f h]
  simpa using getD_map8 k j hj
theorem heap3 (w : World) (X Y Z : Obj) : (((w.alloc X).alloc Y).alloc Z).heap[w.heap.size]? = some X ∧ (((w.alloc X).alloc Y).alloc Z).heap[w.heap.size + 1]? = some Y ∧ (((w.alloc X).alloc Y).alloc Z).heap[w.heap.size + 1 + 1]? = some Z := by
  have h1 := heap_alloc_new w X
  have h2 := heap_alloc_new (w.alloc X) Y
  have h3 := heap_alloc_new ((w.alloc X).alloc Y) Z
  rw [size_alloc] at h2
  rw [size_alloc, size_alloc] at h3
  refine ⟨?_, ?_, h3⟩
  · rw [heap_alloc_old _ _ (show w.heap.size < _ by simp; omega), heap_alloc_old _ _ (show w.heap.size < _ by simp), h1]
  · rw [heap_alloc_old _ _ (show w.heap.size + 1 < _ by simp), h2]

set_option maxRecDepth 100000 in
set_option maxHeartbeats 1000000 in
theorem macs_any (w : World) (ht : Tabs w) :
    Calls Tryd.prog 28 #[] w fun e w' => e = .returned (.bool true) ∧ Below w.heap.size w w' := by
  have kc := fun (w : World) (C : Array Value) (n c : Nat) => Lib.run_convert_bytes_const (P := Tryd.prog) w 26 5 C n c Tryd.underlying26 Tryd.underlying5
  have kc2 := fun (X : Obj) (C : Array Value) (n c : Nat) => Joins.run_convert_bytes_const_at (P := Tryd.prog) (w.alloc X) 26 5 C n c (w.heap.size + 1) (by simp) Tryd.underlying26 Tryd.underlying5
  have kc3 := fun (X Y : Obj) (C : Array Value) (n c : Nat) => Joins.run_convert_bytes_const_at (P := Tryd.prog) ((w.alloc X).alloc Y) 26 5 C n c (w.heap.size + 1 + 1) (by simp) Tryd.underlying26 Tryd.underlying5
  have ht0 := ht.lt0
  have ht1 := ht.lt1
  go_enter Tryd.func28, Tryd.ntmps28
  go_wp2_with fail
  clear kc kc2 kc3
  have hH := heap3 w (.cells (jefe.map B8).toArray 5 (4, 5)) (.cells (whatDo.map B8).toArray 5 (16, 17)) (.cells (forNothing.map B8).toArray 5 (12, 13))
  generalize hW : ((w.alloc (.cells (jefe.map B8).toArray 5 (4, 5))).alloc (.cells (whatDo.map B8).toArray 5 (16, 17))).alloc (.cells (forNothing.map B8).toArray 5 (12, 13)) = W at hH
  have hb0 : Below w.heap.size w W := by rw [← hW]; exact ((((Below.refl w.heap.size w).alloc (Nat.le_refl _) _).alloc (by simp) _).alloc (by simp; omega) _)
  have hs0 : W.heap.size = w.heap.size + 1 + 1 + 1 := by rw [← hW]; simp
  have b1 := bytes_row hH.1
  have b2 := bytes_row hH.2.1
  have b3 := bytes_row hH.2.2
  have hk : In (W.alloc (.cells #[.slice (some ⟨w.heap.size + 1, 0, none⟩) 16 16, .slice (some ⟨w.heap.size + 1 + 1, 0, none⟩) 12 12] 26)) (w.heap.size + 1) (some ⟨w.heap.size, 0, none⟩) 4 jefe := ⟨by decide, by decide, fun _ => ⟨w.heap.size, 0, rfl, Nat.lt_succ_self _, b1.below ((Below.refl _ _).alloc (Nat.le_refl _) _) (by omega)⟩⟩
  have hP : ∀ g, (W.alloc (.cells #[.slice (some ⟨w.heap.size + 1, 0, none⟩) 16 16, .slice (some ⟨w.heap.size + 1 + 1, 0, none⟩) 12 12] 26)).heap.size ≤ g → Parts (W.alloc (.cells #[.slice (some ⟨w.heap.size + 1, 0, none⟩) 16 16, .slice (some ⟨w.heap.size + 1 + 1, 0, none⟩) 12 12] 26)) g (some ⟨w.heap.size + 1 + 1 + 1, 0, none⟩) [whatDo, forNothing] := fun g hg => by
    rw [size_alloc] at hg
    have h := parts2 (w := W) (B := w.heap.size + 1 + 1 + 1) (g := g) (A := some ⟨w.heap.size + 1, 0, none⟩) (A' := some ⟨w.heap.size + 1 + 1, 0, none⟩) (c := 16) (c' := 12) (b := whatDo) (b' := forNothing) 26 ⟨by decide, by decide, fun _ => ⟨_, 0, rfl, by omega, b2⟩⟩ ⟨by decide, by decide, fun _ => ⟨_, 0, rfl, by omega, b3⟩⟩ (by omega) (by omega)
    rw [hs0] at h
    exact h
  have hT : Tabs (W.alloc (.cells #[.slice (some ⟨w.heap.size + 1, 0, none⟩) 16 16, .slice (some ⟨w.heap.size + 1 + 1, 0, none⟩) 12 12] 26)) := (ht.below hb0).below ((Below.refl _ _).alloc (Nat.le_refl _) _)
  have hM := macOf_any (some ⟨w.heap.size, 0, none⟩) (some ⟨w.heap.size + 1 + 1 + 1, 0, none⟩) 4 2 (w.heap.size + 1) jefe [whatDo, forNothing] _ (by rw [size_alloc]; omega) hk (by decide) hT (by decide) (by decide) (by decide) hP
  rw [← hW] at hM
  refine hM.mono ?_
  rintro e w1 ⟨rfl, hb1⟩
  have e3 : ([whatDo, forNothing] : List (List UInt8)).flatten = whatDo ++ forNothing := rfl
  rw [e3]
  have hb2 : Below w.heap.size w w1 := (hb0.alloc hb0.size _).trans ((hW ▸ hb1).mono (by rw [size_alloc]; omega))
  clear hb1 hM hP hT hk b1 b2 b3 hH e3 hs0 hb0
  obtain ⟨X, hX⟩ : ∃ X, X = hmac jefe (whatDo ++ forNothing) := ⟨_, rfl⟩
  rw [← hX]
  have hl : X.length = 32 := by rw [hX]; exact hmac_length _ _
  have hj := hmac_jefe
  rw [← hX] at hj
  simp only [Prod.mk.injEq] at hj
  obtain ⟨x0, x1, x31⟩ := hj
  have HL := Lib.hid hl
  have X0 := Lib.hid x0
  have X1 := Lib.hid x1
  have X31 := Lib.hid x31
  clear hX hl x0 x1 x31
  go_wp2_with (refine wpList_store_blk rfl 22 (.tmp 1) (.tmp 9) rfl rfl w1.heap.size _ rfl rfl 22 ((List.replicate 32 (0 : UInt8)).map B8) (Blk.new_of w1 _ _ _ (by rfl)) (info32.trans (by rw [List.length_map, HL.out])) (by rw [List.length_map, List.length_map, HL.out]; rfl) (one8 _) ?_; intro w2 hs2 hg2; have c0 := hs2.at8 0 (by rw [HL.out]; decide); rw [X0.out] at c0; have c1 := hs2.at8 1 (by rw [HL.out]; decide); rw [X1.out] at c1; have c31 := hs2.at8 31 (by rw [HL.out]; decide); rw [X31.out] at c31)
  go_ret
  exact ⟨rfl, below_new (hb2.alloc hb2.size _) hg2 hb2.size (by have := hb2.size; simp; omega)⟩

set_option maxRecDepth 100000 in
set_option maxHeartbeats 1000000 in
theorem extract_any (A A' : Option Addr) (c c' B : Nat) (key m : List UInt8) (w : World) (hB : B ≤ w.heap.size) (ik : In w B A c key) (im : In w B A' c' m) (hn : key.length < 549755813888) (hm : m.length < 549755813000) (ht : Tabs w) :
    Calls Tryd.prog 29 #[.slice A key.length c, .slice A' m.length c'] w fun e w' => e = .returned (.agg ((hmac key m).map B8).toArray) ∧ Below w.heap.size w w' := by
  have hp : ∀ X : Obj, ∀ g, ((w.alloc X).alloc (.cells #[.slice A' m.length c'] 26)).heap.size ≤ g → Parts ((w.alloc X).alloc (.cells #[.slice A' m.length c'] 26)) g (some ⟨w.heap.size + 1, 0, none⟩) [m] := fun X g hg => by
    have h := parts1 (w := w.alloc X) (B := B) (g := g) 26 (im.below ((Below.refl _ _).alloc hB _)) (by simp at hg ⊢; omega) (by simp at hg; omega)
    rwa [size_alloc] at h
  have hT : ∀ X Y : Obj, Tabs ((w.alloc X).alloc Y) := fun X Y => ht.below (((Below.refl _ w).alloc (Nat.le_refl _) X).alloc (by simp) Y)
  have hI : ∀ X Y : Obj, In ((w.alloc X).alloc Y) B A c key := fun X Y => ik.below (((Below.refl B w).alloc hB X).alloc (by simp; omega) Y)
  go_enter Tryd.func29, Tryd.ntmps29
  go_wp2_with fail
  refine (macOf_any A _ c 1 B key [m] _ (by simp; omega) (hI _ _) hn (hT _ _) (by simpa using hm) (by simp) (by omega) (hp _)).mono ?_
  rintro e w1 ⟨rfl, hb1⟩
  simp only [List.flatten_cons, List.flatten_nil, List.append_nil]
  have hR := (((Blk.new_of w 22 _ ((List.replicate 32 (0 : UInt8)).map B8) (by rfl)).alloc _).below hb1 (by simp; omega))
  have hb2 := (((Below.refl w.heap.size w).alloc (Nat.le_refl _) _).alloc (by simp) _).trans (hb1.mono (by simp; omega))
  have hl := hmac_length key m
  obtain ⟨X, hX⟩ : ∃ X, X = hmac key m := ⟨_, rfl⟩
  rw [← hX] at hl ⊢
  have HX := Lib.hid hX
  clear hX hp hT hI
  go_wp2_with (refine wpList_store_blk rfl 22 (.tmp 4) (.tmp 8) rfl rfl w.heap.size _ rfl rfl 22 _ hR (info32.trans (by rw [List.length_map, hl])) (by rw [List.length_map, List.length_map, hl]; rfl) (one8 _) ?_; intro w3 hR3 hg3)
  refine bodyPost_ret (v := .agg _) (results_cell_row rfl _ _ w.heap.size 22 _ (0, 0) _ rfl hR3.raw Tryd.underlying22 rfl (info32.trans (by simp [hl]))) rfl ⟨by rw [HX.out], below_new hb2 hg3 (Nat.le_refl _) hb2.size⟩
end Go.Proofs.YtdjhempfpgcigaaDoor
