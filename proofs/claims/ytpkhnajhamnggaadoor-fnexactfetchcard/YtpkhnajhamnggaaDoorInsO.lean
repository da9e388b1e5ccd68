/- InsOf of the specification and of the program at all numbers of 64 bits: both answer the same. -/
import Derived.Test.YtpkhnajhamnggaaDoorInsK
namespace Go.Proofs.YtpkhnajhamnggaaDoor
open Go.ChangeShapes Go.WideShapes Go.ChangeAt Go.RowKit

/-- Whether n is the word of a place. -/
def iofB (n : Int) : Bool := decide (0 ≤ n) && iokB (n % 16) (n / 16 % 8) (n / 128 % 8) (n / 1024 % 8) (n / 8192 - 128)
/-- The fields of what InsOf answers. -/
def iofO (n : Int) : Int := bif iofB n then n % 16 else 0
def iofR (n : Int) : Int := bif iofB n then n / 16 % 8 else 0
def iofA (n : Int) : Int := bif iofB n then n / 128 % 8 else 0
def iofC (n : Int) : Int := bif iofB n then n / 1024 % 8 else 0
def iofN (n : Int) : Int := bif iofB n then n / 8192 - 128 else 0
theorem back_math {n : Int} (_h : 0 ≤ n) : w32Z (n % 16) (n / 16 % 8) (n / 128 % 8) (n / 1024 % 8) (n / 8192 - 128) = n := by
  unfold w32Z
  omega
theorem rem_neg {n : Int} (h : ¬ 0 ≤ n) : ¬ (1 ≤ n.tmod 16 ∧ n.tmod 16 ≤ 15) := by
  have := Int.neg_tmod (a := -n) (b := 16)
  rw [Int.neg_neg] at this
  rw [this, Int.tmod_eq_emod_of_nonneg (by omega)]
  omega

end Go.Proofs.YtpkhnajhamnggaaDoor
