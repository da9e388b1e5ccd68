/- Plain facts on keys as numbers: who is covered by a covered one is covered; a key covers itself. -/
import Derived.Test.YtpkhnajhamnggaaDoorKeyX
namespace Go.Proofs.YtpkhnajhamnggaaDoor
open Go.RowKit

theorem and_comm64 (a b : Int) : bits .and .i64 a b = bits .and .i64 b a := by
  show IntKind.i64.wrap ((BitVec.ofInt 64 a &&& BitVec.ofInt 64 b).toNat : Nat) = IntKind.i64.wrap ((BitVec.ofInt 64 b &&& BitVec.ofInt 64 a).toNat : Nat)
  rw [BitVec.and_comm]

theorem and_ofInt (a b : Int) : BitVec.ofInt 64 (bits .and .i64 a b) = BitVec.ofInt 64 a &&& BitVec.ofInt 64 b := by
  show BitVec.ofInt 64 (IntKind.i64.wrap ((BitVec.ofInt 64 a &&& BitVec.ofInt 64 b).toNat : Nat)) = _
  generalize BitVec.ofInt 64 a &&& BitVec.ofInt 64 b = X
  apply BitVec.eq_of_toNat_eq
  rw [BitVec.toNat_ofInt, IntKind.wrap_i64]
  have := X.isLt
  omega

theorem and_of {p q : Int} (h : BitVec.ofInt 64 p &&& BitVec.ofInt 64 q = BitVec.ofInt 64 q) (h0 : 0 ≤ q) (h1 : q ≤ 63) : bits .and .i64 p q = q := by
  show IntKind.i64.wrap ((BitVec.ofInt 64 p &&& BitVec.ofInt 64 q).toNat : Nat) = q
  rw [h, BitVec.toNat_ofInt, IntKind.wrap_i64]
  omega

theorem of_and {p q : Int} (h : bits .and .i64 p q = q) : BitVec.ofInt 64 p &&& BitVec.ofInt 64 q = BitVec.ofInt 64 q := by
  rw [← and_ofInt, h]

theorem and_trans {p q r : Int} (h : bits .and .i64 p q = q) (g : bits .and .i64 q r = r) (h0 : 0 ≤ r) (h1 : r ≤ 63) : bits .and .i64 p r = r := by
  refine and_of ?_ h0 h1
  have a := of_and h
  have b := of_and g
  rw [← b, ← BitVec.and_assoc, a]

theorem and_left {p q : Int} (h0 : 0 ≤ bits .and .i64 p q) (h1 : bits .and .i64 p q ≤ 63) : bits .and .i64 p (bits .and .i64 p q) = bits .and .i64 p q := by
  refine and_of ?_ h0 h1
  rw [and_ofInt, ← BitVec.and_assoc, BitVec.and_self]
theorem and_right {p q : Int} (h0 : 0 ≤ bits .and .i64 p q) (h1 : bits .and .i64 p q ≤ 63) : bits .and .i64 q (bits .and .i64 p q) = bits .and .i64 p q := by
  rw [and_comm64 p q] at h0 h1 ⊢
  exact and_left h0 h1
theorem and_same {p : Int} (h0 : 0 ≤ p) (h1 : p ≤ 63) : bits .and .i64 p p = p := and_of BitVec.and_self h0 h1

theorem kok_of {b t p s : Int} (h : kokB b t p s = true) : bokB b t = true ∧ 0 ≤ p ∧ p ≤ 63 := by
  simp only [kokB, exB, Bool.and_eq_true, decide_eq_true_eq] at h
  exact ⟨h.1.1, h.2.1⟩
theorem cov_of {b t p s b' t' p' s' : Int} (h : covB b t p s b' t' p' s' = true) : kokB b t p s = true ∧ kokB b' t' p' s' = true ∧ b ≤ b' ∧ t' ≤ t ∧ bits .and .i64 p p' = p' := by
  simp only [covB, Bool.and_eq_true, decide_eq_true_eq, beq_iff_eq] at h
  exact ⟨h.1, h.2.1, h.2.2.1.1, h.2.2.1.2, h.2.2.2⟩
theorem cov_mk {b t p s b' t' p' s' : Int} (h1 : kokB b t p s = true) (h2 : kokB b' t' p' s' = true) (h3 : b ≤ b') (h4 : t' ≤ t) (h5 : bits .and .i64 p p' = p') : covB b t p s b' t' p' s' = true := by
  simp only [covB, Bool.and_eq_true, decide_eq_true_eq, beq_iff_eq]
  exact ⟨h1, h2, ⟨h3, h4⟩, h5⟩

theorem cov_trans {b t p s b' t' p' s' c u m r : Int} (h : covB b t p s b' t' p' s' = true) (g : covB b' t' p' s' c u m r = true) : covB b t p s c u m r = true := by
  obtain ⟨h1, _, h3, h4, h5⟩ := cov_of h
  obtain ⟨_, g2, g3, g4, g5⟩ := cov_of g
  obtain ⟨_, k0, k1⟩ := kok_of g2
  exact cov_mk h1 g2 (by omega) (by omega) (and_trans h5 g5 k0 k1)

theorem kok_root : kokB 0 4096 63 0 = true := by decide
theorem same_cov {b t p s : Int} (h : kokB b t p s = true) : covB b t p s b t p s = true := by
  obtain ⟨_, h0, h1⟩ := kok_of h
  exact cov_mk h h (by omega) (by omega) (and_same h0 h1)
end Go.Proofs.YtpkhnajhamnggaaDoor
