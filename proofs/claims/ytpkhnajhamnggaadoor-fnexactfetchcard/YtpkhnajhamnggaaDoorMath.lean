/- Plain facts on numbers for chapter 1's bounds: masks by bits, and the search for the least E. No condition. -/
import Derived.WalkKit
import Derived.Laws.Bits128
namespace Go.Proofs.YtpkhnajhamnggaaDoor
open Go.RowKit

theorem i64_and7 (n : Int) : bits .and .i64 n 7 = n % 8 := by
  have h7 : (BitVec.ofInt 64 7).toNat = 2 ^ 3 - 1 := by decide
  have key : (BitVec.ofInt 64 n &&& BitVec.ofInt 64 7).toNat = (n % ((2 ^ 64 : Nat) : Int)).toNat % 2 ^ 3 := by
    rw [BitVec.toNat_and, BitVec.toNat_ofInt, h7, Nat.and_two_pow_sub_one_eq_mod]
  show IntKind.i64.wrap ((BitVec.ofInt 64 n &&& BitVec.ofInt 64 7).toNat : Nat) = n % 8
  rw [key, IntKind.wrap_i64]
  omega

theorem i64_and63 (n : Int) : bits .and .i64 n 63 = n % 64 := by
  have h7 : (BitVec.ofInt 64 63).toNat = 2 ^ 6 - 1 := by decide
  have key : (BitVec.ofInt 64 n &&& BitVec.ofInt 64 63).toNat = (n % ((2 ^ 64 : Nat) : Int)).toNat % 2 ^ 6 := by
    rw [BitVec.toNat_and, BitVec.toNat_ofInt, h7, Nat.and_two_pow_sub_one_eq_mod]
  show IntKind.i64.wrap ((BitVec.ofInt 64 n &&& BitVec.ofInt 64 63).toNat : Nat) = n % 64
  rw [key, IntKind.wrap_i64]
  omega

/-- Is it a Packed? -/
def pokB (E B L : Int) : Bool := decide (0 ≤ E ∧ E ≤ 6 ∧ 0 ≤ B ∧ B ≤ 63 ∧ 0 ≤ L ∧ L ≤ 63)

/-- Are they bounds? -/
def bokB (a b : Int) : Bool := decide (0 ≤ a ∧ a ≤ b ∧ b ≤ 4096)

def pB (a : Int) (k : Nat) : Int := a / 2 ^ k
def pL (a b : Int) (k : Nat) : Int := (b - a / 2 ^ k * 2 ^ k + 2 ^ k - 1) / 2 ^ k

/-- The search from k on, over f numbers. -/
def packGo (a b : Int) : Nat → Nat → Int × Int × Int × Bool
  | 0, _ => (0, 0, 0, false)
  | f + 1, k => if pB a k ≤ 63 ∧ pL a b k ≤ 63 then ((k : Int), pB a k, pL a b k, true) else packGo a b f (k + 1)

/-- What Pack answers of any two numbers. -/
def pk (a b : Int) : Int × Int × Int × Bool := if bokB a b then packGo a b 7 0 else (0, 0, 0, false)

theorem pk_ok {a b : Int} (h : bokB a b = true) : pk a b = packGo a b 7 0 := by simp [pk, h]
theorem pk_no {a b : Int} (h : bokB a b = false) : pk a b = (0, 0, 0, false) := by simp [pk, h]

theorem packGo_hit {a b : Int} (f k : Nat) (h1 : pB a k ≤ 63) (h2 : pL a b k ≤ 63) : packGo a b (f + 1) k = ((k : Int), pB a k, pL a b k, true) := by
  simp [packGo, h1, h2]
theorem packGo_miss {a b : Int} (f k : Nat) (h : ¬ (pB a k ≤ 63 ∧ pL a b k ≤ 63)) : packGo a b (f + 1) k = packGo a b f (k + 1) := by
  simp only [packGo, if_neg h]

theorem pB_nn {a : Int} (k : Nat) (h : 0 ≤ a) : 0 ≤ pB a k := Int.ediv_nonneg h (Int.pow_nonneg (by omega))

/-- A struct's value. -/
def pkV (p : Int × Int × Int × Bool) : Value := .agg #[.int .i64 p.1, .int .i64 p.2.1, .int .i64 p.2.2.1]

end Go.Proofs.YtpkhnajhamnggaaDoor
