/-
  The walk of the statement PieceBent.
-/
import Derived.Test.YtjachohgffnbiaaPBentA
import Derived.Test.YtjachohgffnbiaaPBentB
import Derived.Test.YtjachohgffnbiaaPBentC
namespace Go.Proofs.Ytjachohgffnbiaa
open Go.ChangeShapes Go.WideShapes Go.ChangeAt Go.RowKit

theorem bytes3_of_trod {H : Type} {enc : TypeId × Value → H} {W : World} {v : Value} {d : DataW H} {p : List MemPlace}
    (h : DataW.Trod enc Try.prog W 0 (fun _ => true) true 45 v d p) : ∃ s0 s1 s2 : UInt8, v = .agg #[.int .u8 (s0.toNat : Int), .int .u8 (s1.toNat : Int), .int .u8 (s2.toNat : Int)] := by
  obtain ⟨xs, hl, rfl, hw⟩ := ints_of_trod (n := 3) (by decide) Try.underlying45 Try.underlying5 (by kernel_rfl) (by kernel_rfl) h
  match xs, hl with
  | [a, b, c], _ =>
    have h0 := hw 0 (by decide)
    have h1 := hw 1 (by decide)
    have h2 := hw 2 (by decide)
    simp [Lit.wf, IntKind.min, IntKind.max, IntKind.signed, IntKind.bits] at h0 h1 h2
    refine ⟨UInt8.ofNat a.toNat, UInt8.ofNat b.toNat, UInt8.ofNat c.toNat, ?_⟩
    show Value.agg #[.int .u8 a, .int .u8 b, .int .u8 c] = .agg #[.int .u8 (((UInt8.ofNat a.toNat).toNat : Nat) : Int), .int .u8 (((UInt8.ofNat b.toNat).toNat : Nat) : Int), .int .u8 (((UInt8.ofNat c.toNat).toNat : Nat) : Int)]
    rw [UInt8.toNat_ofNat', UInt8.toNat_ofNat', UInt8.toNat_ofNat', show ((a.toNat % 2 ^ 8 : Nat) : Int) = a by omega, show ((b.toNat % 2 ^ 8 : Nat) : Int) = b by omega, show ((c.toNat % 2 ^ 8 : Nat) : Int) = c by omega]
theorem pieceBent_walk (a b : Int) (b0 b1 b2 : UInt8) (w : World) :
    Calls Try.prog 5 #[.int .i64 a, .int .i64 b, .agg #[.int .u8 (b0.toNat : Int), .int .u8 (b1.toNat : Int), .int .u8 (b2.toNat : Int)]] w fun e w' => e = .returned (.bool true) ∧ Below w.heap.size w w' := by
  have h3 : (b1.toNat : Int).tmod 3 = ((b1.toNat % 3 : Nat) : Int) := by rw [Int.tmod_eq_emod_of_nonneg (Int.natCast_nonneg _)]; rfl
  have h4 : b1.toNat % 3 = 0 ∨ b1.toNat % 3 = 1 ∨ b1.toNat % 3 = 2 := by omega
  rcases h4 with h | h | h
  · exact pieceBent_0 a b b0 b1 b2 w (by rw [h3, h]; rfl)
  · exact pieceBent_1 a b b0 b1 b2 w (by rw [h3, h]; rfl)
  · exact pieceBent_2 a b b0 b1 b2 w (by rw [h3, h]; rfl)
end Go.Proofs.Ytjachohgffnbiaa
