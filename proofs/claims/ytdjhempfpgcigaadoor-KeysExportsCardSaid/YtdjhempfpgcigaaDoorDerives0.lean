/-
  What the walk of the statement MacDerives needs.
-/
import Derived.Test.YtdjhempfpgcigaaDoorDerive
import Derived.Test.YtdjhempfpgcigaaDoorKeep
namespace Go.Proofs.YtdjhempfpgcigaaDoor
open Go.RowKit

theorem padKey_sha (k : List UInt8) (h : 64 < k.length) : padKey (sha k) = padKey k := by
  rw [← padKey_long k h, ← padKey_short (sha k) (by rw [sha_length]; omega)]
theorem hmac_sha (k m : List UInt8) (h : 64 < k.length) : hmac (sha k) m = hmac k m := by
  unfold hmac; rw [padKey_sha k h]
theorem cell_past_alloc {w : World} {u : Value} {g : Nat} (h : w.cell? ⟨g, 0, none⟩ = some u) (o : Obj) : (w.alloc o).cell? ⟨g, 0, none⟩ = some u :=
  (((Below.refl w.heap.size w).alloc (Nat.le_refl _) o).cell (p := ⟨g, 0, none⟩) (block_lt_of_cell (a := ⟨g, 0, none⟩) h)).trans h
theorem cell_through {w w' : World} {u : Value} {g : Nat} (h : w.cell? ⟨g, 0, none⟩ = some u) (hb : Below w.heap.size w w') : w'.cell? ⟨g, 0, none⟩ = some u :=
  (hb.cell (p := ⟨g, 0, none⟩) (block_lt_of_cell (a := ⟨g, 0, none⟩) h)).trans h
theorem cell2 (w : World) (X : Obj) (t : TypeId) (u : Value) : ((w.alloc X).alloc (.cells #[u] t)).cell? ⟨w.heap.size + 1, 0, none⟩ = some u := by
  have := new_cell (w.alloc X) t u
  rwa [size_alloc] at this
theorem mac_one {W : World} {A A' : Option Addr} {c c' n n' gp : Nat} {key m x : List UInt8} (ik : In W W.heap.size A c key) (hn : key.length = n) (im : In W W.heap.size A' c' m) (hn' : m.length = n') (hc : W.cell? ⟨gp, 0, none⟩ = some (.slice A' n' c')) (hk : n < 1000) (hm : n' < 1000) (hx : x = hmac key m) (ht : Tabs W) :
    Calls Tryd.prog 30 #[.slice A n c, .slice (some ⟨gp, 0, none⟩) 1 1] W fun e w' => e = .returned (.agg (x.map B8).toArray) ∧ Below W.heap.size W w' := by
  subst hn hx
  have := macOf_any A (some ⟨gp, 0, none⟩) c 1 W.heap.size key [m] W (Nat.le_refl _) ik (by omega) ht (by simp; omega) (by simp) (by omega) (fun g hg => parts_in hn' hc im hg hg)
  simpa using this

theorem in_blk {w : World} {g n : Nat} {t : TypeId} {xs : List UInt8} (h : Blk w g t (xs.map B8)) (hn : xs.length = n) (hm : n < 1000) : In w w.heap.size (some ⟨g, 0, none⟩) n xs :=
  ⟨by omega, by omega, fun _ => ⟨g, 0, rfl, h.lt, fun j hj => by rw [Nat.zero_add]; exact h.at8 j hj⟩⟩
theorem extract_here {W : World} {A A' : Option Addr} {c c' n n' : Nat} {key m x : List UInt8} (ik : In W W.heap.size A c key) (hn : key.length = n) (im : In W W.heap.size A' c' m) (hn' : m.length = n') (hk : n < 1000) (hm : n' < 1000) (hx : x = hmac key m) (ht : Tabs W) :
    Calls Tryd.prog 29 #[.slice A n c, .slice A' n' c'] W fun e w' => e = .returned (.agg (x.map B8).toArray) ∧ Below W.heap.size W w' := by
  subst hn hn' hx
  exact extract_any A A' c c' W.heap.size key m W (Nat.le_refl _) ik im (by omega) (by omega) ht

end Go.Proofs.YtdjhempfpgcigaaDoor
