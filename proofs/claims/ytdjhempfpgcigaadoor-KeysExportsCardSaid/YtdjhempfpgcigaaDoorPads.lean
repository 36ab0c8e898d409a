/-
  The contract of the two blocks that begin HMAC's two sums, for every key.
-/
import Derived.Test.YtdjhempfpgcigaaDoorIn
import Derived.Deep.RegionHeld3
namespace Go.Proofs.YtdjhempfpgcigaaDoor
open Go.RowKit

/-- A key as one block: its sum, if it has more than 64 bytes; filled up with noughts. -/
def padKey (key : List UInt8) : List UInt8 :=
  let k := if 64 < key.length then sha key else key
  k ++ List.replicate (64 - k.length) 0
theorem padKey_length (key : List UInt8) : (padKey key).length = 64 := by
  unfold padKey
  by_cases h : 64 < key.length
  · simp [h, sha_length]
  · simp [h]; omega
/-- A block put together with one byte, after k places. -/
def xorTo (c : UInt8) (pk : List UInt8) : Nat → List UInt8
  | 0 => List.replicate 64 0
  | k + 1 => (xorTo c pk k).set k (pk.getD k 0 ^^^ c)
theorem xorTo_length (c : UInt8) (pk : List UInt8) (k : Nat) : (xorTo c pk k).length = 64 := by
  induction k with
  | zero => simp [xorTo]
  | succ k ih => simp [xorTo, ih]
theorem b_xor (a b : UInt8) : bits .xor .u8 (a.toNat : Int) (b.toNat : Int) = ((a ^^^ b).toNat : Int) := by
  rw [u8_xor_nat _ _ (u8_lt a) (u8_lt b), UInt8.toNat_xor]
theorem b_xor54 (a : UInt8) : bits .xor .u8 (a.toNat : Int) (54 : Int) = ((a ^^^ 54).toNat : Int) := b_xor a 54
theorem b_xor92 (a : UInt8) : bits .xor .u8 (a.toNat : Int) (92 : Int) = ((a ^^^ 92).toNat : Int) := b_xor a 92

theorem info64b : (Tryd.prog.info? 55).map (·.size) = some 64 := by kernel_rfl
theorem index_bytes (n : Nat) (t : TypeId) (L : List UInt8) (hL : L.length = n) (ht : Tryd.prog.underlying t = some (.array n 5)) (k : Nat) (hk : k < n) (W : World) :
    (Instr.index t (.agg (L.map B8).toArray) (.int .i64 (k : Int))).run Tryd.prog W = .ok (.int .u8 (L.getD k 0).toNat) W := by
  simp [Instr.index, asIntOf, run_underlying ht, part, isAgg, run_underlying Tryd.underlying5, List.getD_eq_getElem?_getD, List.getElem?_eq_getElem (show k < L.length by omega)]
  intro h
  omega

theorem rangeAt_of_blk {w : World} {g : Nat} {t : TypeId} {cs : List Value} (h : Blk w g t cs) : w.rangeAt g 0 cs := fun j v hv => by
  rw [Nat.zero_add, h.cell, hv]
theorem there_of_blk {w : World} {g : Nat} {t : TypeId} {cs : List Value} (h : Blk w g t cs) : w.there g 0 cs.length := fun j hj => by
  rw [Nat.zero_add]
  exact ⟨by rw [h.cell, List.getElem?_eq_getElem hj]; rfl, h.frozen j⟩
theorem below_setCells {B g : Nat} (hB : B ≤ g) : ∀ (vs : List Value) (o : Nat) (a w : World), Below B a w → Below B a (w.setCells g o vs)
  | [], _, _, _, h => h
  | v :: r, o, a, w, h => by
    rw [World.setCells]
    exact below_setCells hB r (o + 1) a _ (h.setCell hB v)

theorem splice_zeros (k : List UInt8) : splice ((List.replicate 64 (0 : UInt8)).map B8) 0 (k.map B8) = (k ++ List.replicate (64 - k.length) 0).map B8 := by
  have e : (List.replicate 64 (0 : UInt8)).map B8 = List.replicate 64 (B8 0) := List.map_replicate
  rw [splice_eq, e, Nat.zero_add, List.length_map, List.drop_replicate, List.take_zero, List.nil_append, List.map_append, List.map_replicate]
theorem results_two {P : Program} {fn : Func} {p q : Tmp} {ty tz : TypeId} (h : fn.results = #[.cell p ty, .cell q tz]) (tmps : Array Value) (w : World) (g g' o o' : Nat) (cs cs' : List Value) (d d' : TypeDesc)
    (hp : tmps.getD p undef = .pointer (some ⟨g, o, none⟩)) (hq : tmps.getD q undef = .pointer (some ⟨g', o', none⟩)) (hc : w.rangeAt g o cs) (hc' : w.rangeAt g' o' cs')
    (hu : P.underlying ty = some d) (hd : d.isRow = true) (hi : (P.info? ty).map (·.size) = some cs.length)
    (hu' : P.underlying tz = some d') (hd' : d'.isRow = true) (hi' : (P.info? tz).map (·.size) = some cs'.length) :
    (results fn tmps).run P w = .ok (.tuple #[.agg cs.toArray, .agg cs'.toArray]) w := by
  have hp' : tmps[p]?.getD undef = .pointer (some ⟨g, o, none⟩) := by simpa using hp
  have hq' : tmps[q]?.getD undef = .pointer (some ⟨g', o', none⟩) := by simpa using hq
  simp [results, h, hp', hq', asAddr, run_loadVar_mid w g o ty cs d hc hu hd hi, run_loadVar_mid w g' o' tz cs' d' hc' hu' hd' hi']
theorem padKey_short (key : List UInt8) (h : key.length ≤ 64) : key ++ List.replicate (64 - key.length) 0 = padKey key := by
  simp [padKey, show ¬ 64 < key.length by omega]
theorem padKey_long (key : List UInt8) (h : 64 < key.length) : sha key ++ List.replicate (64 - (sha key).length) 0 = padKey key := by
  simp [padKey, h]

set_option maxRecDepth 100000 in
set_option maxHeartbeats 1000000 in
theorem pads_short (A : Option Addr) (c B : Nat) (key : List UInt8) (w : World) (hB : B ≤ w.heap.size) (ik : In w B A c key) (hk : key.length ≤ 64) :
    Calls Tryd.prog 42 #[.slice A key.length c] w fun e w' => e = .returned (.tuple #[.agg ((xorTo 54 (padKey key) 64).map B8).toArray, .agg ((xorTo 92 (padKey key) 64).map B8).toArray]) ∧ Below w.heap.size w w' := by
  have hd : decide ((64 : Int) < (key.length : Int)) = false := by simp; omega
  have hsrc0 : ∀ X Y Z : Obj, Src (((w.alloc X).alloc Y).alloc Z) (w.heap.size + 1 + 1) A key := fun X Y Z => ((((ik.src (show B ≤ w.heap.size + 1 + 1 by omega)).alloc X).alloc Y).alloc Z)
  have HP : Hid (∀ X Y Z : Obj, 0 < (key.map B8).length → ∃ gb ob, A = some ⟨gb, ob, none⟩ ∧ ∀ j v, (key.map B8)[j]? = some v → (((w.alloc X).alloc Y).alloc Z).cell? ⟨gb, ob + j, none⟩ = some v) := fun X Y Z hp => (Src.cells (x := ⟨0, 0, none⟩) (hsrc0 X Y Z) hp).2
  have hsp := (splice_zeros key).trans (congrArg (List.map B8) (padKey_short key hk))
  have hpl := padKey_length key
  generalize padKey key = pk at *
  have HSP := Lib.hid hsp
  have HPL := Lib.hid hpl
  clear hsp hpl hsrc0
  go_enter Tryd.func42, Tryd.ntmps42
  go_wp2_with (first
    | ((with_reducible refine (?_ : wpList _ _ _ (Oper.mk (some 19) _ _ _ _ _ :: _) _ _)); go_loud (refine wpList_copy_blk rfl (.tmp 17) (.tmp 18) 26 26 rfl 5 Tryd.underlying26 info8 _ _ _ _ _ _ (by rfl) (by rfl) (w.heap.size + 1 + 1) 0 ((List.replicate 64 (0 : UInt8)).map B8) 55 (Blk.new3_of w _ _ _ _ _ (by rfl)) (key.map B8) (by rw [List.length_map]; exact (Nat.min_eq_left (by omega)).symm) (fun hp => ⟨rfl, HP.out _ _ _ hp⟩) (by simp; omega) (oneB8 _) ?_); intro w1 hK hg1; rw [HSP.out] at hK;
        have hI : Blk w1 w.heap.size 55 ((xorTo 54 pk 0).map B8) := (((Blk.new_of w 55 _ ((List.replicate 64 (0 : UInt8)).map B8) (by rfl)).alloc _).alloc _).grown hg1 (by simp; omega);
        have hO : Blk w1 (w.heap.size + 1) 55 ((xorTo 92 pk 0).map B8) := ((Blk.new2_of w _ 55 _ ((List.replicate 64 (0 : UInt8)).map B8) (by rfl)).alloc _).grown hg1 (by simp);
        have hb : Below w.heap.size w w1 := below_new ((((Below.refl w.heap.size w).alloc (Nat.le_refl _) _).alloc (by simp) _).alloc (by simp; omega) _) hg1 (by omega) (by simp; omega);
        clear hg1 HP)
    | ((with_reducible refine (?_ : wpList _ _ _ (Oper.mk (some 20) _ _ _ _ _ :: _) _ _)); go_loud (refine wpList_load_blk rfl 55 (.tmp 4) rfl (w.heap.size + 1 + 1) rfl 55 _ _ hK Tryd.underlying55 rfl (info64b.trans (by rw [List.length_map, HPL.out])) ?_)))
  go_loopw [21] (fun i wr => ∃ k : Nat, k ≤ 64 ∧ i = .int .i64 k ∧ Blk wr w.heap.size 55 ((xorTo 54 pk k).map B8) ∧ Blk wr (w.heap.size + 1) 55 ((xorTo 92 pk k).map B8) ∧ Below w.heap.size w wr) (fun i _ => 64 - (intOf i).toNat)
  case atStart => exact ⟨0, by omega, rfl, hI, hO, hb⟩
  case round =>
    obtain ⟨k, hk, rfl, hI', hO', hb'⟩ := hrel
    clear hI hO hb hK
    by_cases hlt : k < 64
    · have hd2 : decide ((k : Int) < 64) = true := by simp; omega
      have hix := index_bytes 64 55 pk HPL.out Tryd.underlying55 k hlt
      obtain ⟨x, hx⟩ : ∃ x, x = pk.getD k 0 := ⟨_, rfl⟩
      rw [← hx] at hix
      have HX := Lib.hid hx
      clear hx
      have l1 := xorTo_length 54 pk k
      have l2 := xorTo_length 92 pk k
      have c0 := hI'.at8 k (by omega)
      have f0 := hI'.frozen k
      have c1 := hO'.at8 k (by omega)
      have f1 := hO'.frozen k
      have c2 := fun X => ((hO'.far (p := ⟨w.heap.size, k, none⟩) (by simp) X).at8 k (by omega))
      clear l1 l2
      go_wp2
      go_roundw
      case rel =>
        have e1 : xorTo 54 pk (k + 1) = (xorTo 54 pk k).set k (x ^^^ 54) := by rw [HX.out]; rfl
        have e2 : xorTo 92 pk (k + 1) = (xorTo 92 pk k).set k (x ^^^ 92) := by rw [HX.out]; rfl
        refine ⟨k + 1, by omega, by go_num, ?_, ?_, ?_⟩
        · rw [e1, b_xor54, b_xor92, ← map_set8]
          exact (hI'.set_ k _).far (by simp) _
        · rw [e2, b_xor54, b_xor92, ← map_set8]
          exact (hO'.far (by simp) _).set_ k _
        · exact (hb'.setCell (by simp) _).setCell (by simp) _
      case measure => simp [intOf]; omega
    · have hd2 : decide ((k : Int) < 64) = false := by simp; omega
      obtain rfl : k = 64 := by omega
      have l1 := xorTo_length 54 pk 64
      have l2 := xorTo_length 92 pk 64
      have h1 := oneB8 (xorTo 54 pk 64)
      have h2 := oneB8 (xorTo 92 pk 64)
      have hi1 : (Tryd.prog.info? 55).map (·.size) = some ((xorTo 54 pk 64).map B8).length := info64b.trans (by rw [List.length_map, l1])
      have hi2 : (Tryd.prog.info? 55).map (·.size) = some ((xorTo 92 pk 64).map B8).length := info64b.trans (by rw [List.length_map, l2])
      obtain ⟨z1, hz1⟩ : ∃ z, z = (xorTo 54 pk 64).map B8 := ⟨_, rfl⟩
      obtain ⟨z2, hz2⟩ : ∃ z, z = (xorTo 92 pk 64).map B8 := ⟨_, rfl⟩
      rw [← hz1] at hI' h1 hi1
      rw [← hz2] at hO' h2 hi2
      have HZ1 := Lib.hid hz1
      have HZ2 := Lib.hid hz2
      clear hz1 hz2 l1 l2
      go_wp2
      have hv1 : wr.drew.rangeAt w.heap.size 0 z1 := rangeAt_of_blk hI'.drew
      have hv2 : wr.drew.rangeAt (w.heap.size + 1) 0 z2 := rangeAt_of_blk hO'.drew
      have ht1 : wr.drew.there w.heap.size 0 z1.length := there_of_blk hI'.drew
      have ht2 : wr.drew.there (w.heap.size + 1) 0 z2.length := there_of_blk hO'.drew
      have hbd : Below w.heap.size w wr.drew := below_drewN hb' 1
      refine wp_region_held_drew (S := fun w' => (w'.rangeAt w.heap.size 0 z1 ∧ w'.rangeAt (w.heap.size + 1) 0 z2) ∧ (w'.there w.heap.size 0 z1.length ∧ w'.there (w.heap.size + 1) 0 z2.length) ∧ Below w.heap.size w w') (by kernel_rfl) ⟨⟨hv1, hv2⟩, ⟨ht1, ht2⟩, hbd⟩ (fun hHeld => ?_)
      refine' wpAnyH_take (i := 0) rfl (by kernel_rfl) (by kernel_rfl) (by kernel_rfl) (fun _ _ _ h => h) (yieldsIf_load_mid (by rfl) _ _ rfl w.heap.size 0 rfl z1 _ (fun w h => h.1.1) Tryd.underlying55 rfl hi1) hHeld ?_
      refine' wpAnyH_take (i := 1) rfl (by kernel_rfl) (by kernel_rfl) (by kernel_rfl) (fun _ _ _ h => h) (yieldsIf_load_mid (by rfl) _ _ rfl (w.heap.size + 1) 0 rfl z2 _ (fun w h => h.1.2) Tryd.underlying55 rfl hi2) hHeld ?_
      refine wpAnyH_ready (rs := [2]) (by kernel_rfl) (by simp) ?_
      refine AllReadyH.cons rfl (fun K hK => ?_) AllReadyH.nil
      rw [if_pos (by rfl)]
      refine wp_store_mid _ _ _ rfl w.heap.size 0 z1.toArray rfl rfl (by simpa using ht1) (by simpa using hi1) (all_oneCell_toArray h1) ?_
      refine hK.out _ _ ⟨⟨World.rangeAt_setCells_same _ _ _ _ ht1, World.rangeAt_setCells_apart hv2 _ _ _ (.inl (by simp))⟩, ⟨World.there_setCells ht1 _ _ _, World.there_setCells ht2 _ _ _⟩, below_setCells (Nat.le_refl _) _ _ _ _ hbd⟩ (fun hHeld => ?_)
      clear hK K
      generalize (wr.drew.setCells w.heap.size 0 z1.toArray.toList) = w2 at *
      clear hv1 hv2 ht1 ht2 hbd
      obtain ⟨⟨hv1, hv2⟩, ⟨ht1, ht2⟩, hbd⟩ := hHeld
      refine wpAnyH_ready (rs := [3]) (by kernel_rfl) (by simp) ?_
      refine AllReadyH.cons rfl (fun K hK => ?_) AllReadyH.nil
      rw [if_pos (by rfl)]
      refine wp_store_mid _ _ _ rfl (w.heap.size + 1) 0 z2.toArray rfl rfl (by simpa using ht2) (by simpa using hi2) (all_oneCell_toArray h2) ?_
      refine hK.out _ _ ⟨⟨World.rangeAt_setCells_apart hv1 _ _ _ (.inl (by simp)), World.rangeAt_setCells_same _ _ _ _ ht2⟩, ⟨World.there_setCells ht1 _ _ _, World.there_setCells ht2 _ _ _⟩, below_setCells (by omega) _ _ _ _ hbd⟩ (fun hHeld => ?_)
      clear hK K
      generalize (w2.setCells (w.heap.size + 1) 0 z2.toArray.toList) = w3 at *
      obtain ⟨⟨hv1, hv2⟩, _, hbd⟩ := hHeld
      refine wpAnyH_done (by kernel_rfl) ?_ _
      go_wp2
      refine bodyPost_ret (results_two rfl _ _ w.heap.size (w.heap.size + 1) 0 0 z1 z2 _ _ rfl rfl hv1 hv2 Tryd.underlying55 rfl hi1 Tryd.underlying55 rfl hi2) rfl ⟨by rw [HZ1.out, HZ2.out], hbd⟩
end Go.Proofs.YtdjhempfpgcigaaDoor
