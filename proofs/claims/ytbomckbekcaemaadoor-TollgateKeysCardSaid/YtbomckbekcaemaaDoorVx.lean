/-
  Small laws that wrap's and radius's texts both use.
-/
import Derived.Test.YtbomckbekcaemaaDoorWk
import Derived.Deep.DeepCutAuto
import Derived.Deep.QuietTactic
import Derived.OwnWalk
namespace Go.Proofs.YtbomckbekcaemaaDoor
open Go.RowKit

theorem ofNat_toNat (n : Nat) (h : n < 256) : (UInt8.ofNat n).toNat = n := by rw [UInt8.toNat_ofNat']; omega
theorem step_append_far {ops : Array Oper} {o : Oper} {a : Act} {w : World} {K : Act → World → Prop} {Q : Exit → Act → World → Prop} {E : Prop} (hgd : o.guard = none) (s x : Operand) (tx : TypeId)
    (ho : o.op = .call { callee := .builtin .append, args := #[s, x], argTypes := #[26, tx] })
    (base : Nat) (A : Option Addr) (n c : Nat) (bs ys : List UInt8) (v : Value) (hs : a.eval s = .slice A n c) (hb : Buf w base A n c bs) (hx : a.eval x = v) (hsrc : _root_.Go.Src Tryd.prog 1 tx v ys.length (ys.map B8) w)
    (hn : n + ys.length ≤ 1099511627776) (hbase : base ≤ w.heap.size) (m : Nat) (hm : m = n + ys.length)
    (h : ∀ A' c' w', Buf w' base A' m c' (bs ++ ys) → w.grownBy w' (ownOf A) → Fresh w A A' → K (a.put o.dst (.slice A' m c')) w') : if Region.wanted o (yielded ops a.tmps) = true then Oper.wp Tryd.prog o a w K Q else E := by
  subst hm
  have hw : Region.wanted o (yielded ops a.tmps) = true := by simp [Region.wanted, hgd]
  rw [if_pos hw]
  obtain ⟨A', c', w', hr, h1, h2, _, h3⟩ := run_append_far tx o.type base A n c bs ys v w hb hsrc hn hbase
  unfold Oper.wp execOp
  simp only [ho, resolve, invoke, builtin, Sem.run_bind, Sem.run_pure, Result.andThen_ok, List.map_toArray, List.map_cons, List.map_nil, hs, hx, hr]
  exact h A' c' w' h1 h2 h3
theorem inf16 : (Tryd.prog.info? 22).map (·.size) = some 16 := by kernel_rfl
def WrapPost (E : List UInt8 × Nat) (w : World) (e : Ending) (w' : World) : Prop := ∃ A' M c', e = .returned (.tuple #[.slice A' M c', .int .i64 (E.2 : Int)]) ∧ Buf w' w.heap.size A' M c' E.1 ∧ Below w.heap.size w w'
theorem step_store_blk {ops : Array Oper} {o : Oper} {a : Act} {w : World} {K : Act → World → Prop} {Q : Exit → Act → World → Prop} {E : Prop} (hgd : o.guard = none) (ty : TypeId) (x y : Operand) (ho : o.op = .store ty x y) (hd : o.dst = none)
    (g : Nat) (cells : List Value) (hx : a.eval x = .pointer (some ⟨g, 0, none⟩)) (hy : a.eval y = .agg cells.toArray)
    (t : TypeId) (old : List Value) (hg : Blk w g t old) (hi : (Tryd.prog.info? ty).map (·.size) = some cells.length)
    (hold : old.length = cells.length) (h1 : cells.toArray.all (·.oneCell') = true)
    (h : ∀ w', Blk w' g t cells → w.grownBy w' (some g) → K a w') : if Region.wanted o (yielded ops a.tmps) = true then Oper.wp Tryd.prog o a w K Q else E := by
  have hw : Region.wanted o (yielded ops a.tmps) = true := by simp [Region.wanted, hgd]
  rw [if_pos hw]
  refine wp_store_row ty x y ho g cells.toArray hx hy t old.toArray hg (by simpa using hi) (by simpa using hold) h1 ?_
  rw [hd]
  exact h _ (hg.row _) (grown_setRow _ _ _)
theorem ix_byte (x : UInt8) : wrap64 (x.toNat : Int) = (x.toNat : Int) ∧ IntKind.i64.wrap (x.toNat : Int) = (x.toNat : Int) := by
  have hx := x.toNat_lt
  generalize x.toNat = a at *
  refine ⟨?_, ?_⟩
  · unfold wrap64; omega
  · rw [IntKind.wrap_i64]; omega
theorem equal_e (A B : Option Addr) (c d n m : Nat) (x y : List UInt8) (w : World) (hn : x.length = n) (hm : y.length = m) (iA : In w w.heap.size A c x) (iB : In w w.heap.size B d y) (r : Bool) (hr : (x == y) = r) :
    Calls Tryd.prog 48 #[.slice A n c, .slice B m d] w fun e w' => e = .returned (.bool r) ∧ w' = w := by
  have h1 := conv_in hn iA
  have h2 := conv_in hm iB
  have HR := Lib.hid hr
  clear hn hm iA iB hr
  go_enter Tryd.func48, Tryd.ntmps48
  go_wp2
  go_ret
  exact ⟨by rw [← HR.out] <;> rfl, rfl⟩
end Go.Proofs.YtbomckbekcaemaaDoor
