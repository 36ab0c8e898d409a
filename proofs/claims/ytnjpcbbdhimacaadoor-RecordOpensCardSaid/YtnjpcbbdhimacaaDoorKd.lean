/-
 Joined: BufB, BufC, RwsB, KeepB.
-/
import Derived.Test.YtnjpcbbdhimacaaDoorKc
import Derived.Deep.AppendSrc
import Derived.Deep.Upon
import Derived.Laws.IdiomStrings
import Derived.Test.YtnjpcbbdhimacaaDoorJa
import Derived.Test.YtnjpcbbdhimacaaDoorJb
import Derived.Lib.MinMax
import Derived.Stop.BytesEq
import Derived.Test.YtnjpcbbdhimacaaDoorJd
import Derived.Deep.Matrix
import Derived.Deep.AppendLies
import Derived.OpenShut
import Derived.ProofKit
namespace Go.Proofs.YtnjpcbbdhimacaaDoor
section
open Go.RowKit
end
section
open Go.RowKit
theorem in_weak {w : World} {B B' c : Nat} {A : Option Addr} {xs : List UInt8} (h : In w B A c xs) (hB : B ≤ B') : In w B' A c xs :=
 ⟨h.1, h.2.1, fun h0 => by
  obtain ⟨gb, ob, e, hb, hby⟩ := h.2.2 h0
  exact ⟨gb, ob, e, by omega, hby⟩⟩
theorem in_up {w w' : World} {c : Nat} {A : Option Addr} {xs : List UInt8} (h : In w w.heap.size A c xs) (hb : Below w.heap.size w w') : In w' w'.heap.size A c xs := in_weak (h.below hb) hb.size
theorem in_of_blk {w W : World} {g n : Nat} {t : TypeId} {xs : List UInt8} (h : Blk w g t (xs.map B8)) (hn : xs.length = n) (hm : n < 1000) (hb : Below w.heap.size w W) : In W W.heap.size (some ⟨g, 0, none⟩) n xs := in_blk (h.below hb h.lt) hn hm
theorem in_nil (w : World) (c : Nat) (hc : c ≤ 9223372036854775807) (A : Option Addr) : In w w.heap.size A c [] := ⟨Nat.zero_le _, hc, fun h => absurd h (by simp)⟩

end
section
open Go.RowKit
end
section
open Go.RowKit
end
end Go.Proofs.YtnjpcbbdhimacaaDoor
