/- Plain facts on what is made of words: it is right, and under what it is made of. -/
import Derived.Test.YtehmlneaahbdoaaDoorSMade
import Derived.Test.YtehmlneaahbdoaaDoorWMath
import Derived.Test.YtehmlneaahbdoaaDoorBMath
namespace Go.Proofs.YtehmlneaahbdoaaDoor
open Go.ChangeShapes Go.WideShapes Go.ChangeAt Go.RowKit

theorem and_low {p q : Int} (h0 : 0 ≤ p) (h1 : p ≤ 63) : 0 ≤ bits .and .i64 p q ∧ bits .and .i64 p q ≤ 63 := by
  show 0 ≤ IntKind.i64.wrap ((BitVec.ofInt 64 p &&& BitVec.ofInt 64 q).toNat : Nat) ∧ IntKind.i64.wrap ((BitVec.ofInt 64 p &&& BitVec.ofInt 64 q).toNat : Nat) ≤ 63
  have h : (BitVec.ofInt 64 p &&& BitVec.ofInt 64 q).toNat ≤ (BitVec.ofInt 64 p).toNat := by
    rw [BitVec.toNat_and]; exact Nat.and_le_left
  rw [BitVec.toNat_ofInt] at h
  rw [IntKind.wrap_i64]
  omega

theorem made_ok {c : Bool} {b t p s : Int} (x : Int) (h : c = true → kokB b t p s = true) :
    wokB (x % 65536) c (bif c then b else 0) (bif c then t else 0) (bif c then p else 0) (bif c then s else 0) = true := by
  have h0 : 0 ≤ x % 65536 ∧ x % 65536 ≤ 65535 := by omega
  cases c
  · simp [wokB, h0]
  · simp [wokB, h0, h rfl]
theorem made_un {c : Bool} {b t p s n0 : Int} {i0 : Bool} {b0 t0 p0 s0 : Int} (h : c = true → i0 = true ∧ covB b0 t0 p0 s0 b t p s = true) :
    undB c (bif c then b else 0) (bif c then t else 0) (bif c then p else 0) (bif c then s else 0) [⟨n0, i0, b0, t0, p0, s0⟩] = true := by
  cases c
  · rfl
  · obtain ⟨h1, h2⟩ := h rfl
    simp [undB, ovB, h1, h2]

theorem kok_parts {b t p s : Int} (h : kokB b t p s = true) : exB b t = true ∧ bokB b t = true ∧ (0 ≤ p ∧ p ≤ 63) ∧ (0 ≤ s ∧ s ≤ 7) := by
  have g := (kok_of h).1
  simp only [kokB, Bool.and_eq_true, decide_eq_true_eq] at h
  exact ⟨h.1, g, h.2.1, h.2.2⟩
theorem kok_mk {b t p s : Int} (h : exB b t = true) (hp : 0 ≤ p ∧ p ≤ 63) (hs : 0 ≤ s ∧ s ≤ 7) : kokB b t p s = true := by
  simp [kokB, h, hp, hs]
theorem open_rk {n : Int} {i : Bool} {b t p s : Int} (h : openB n i b t p s = true) : i = true ∧ s = 0 ∧ kokB b t p s = true := by
  unfold openB at h
  simp only [Bool.and_eq_true, beq_iff_eq] at h
  exact ⟨(rk_of h.1).1, h.2, (rk_of h.1).2.2.2.2⟩

variable {n : Int} {i : Bool} {b t p s : Int}
theorem weak_made (m : Int) (h : openB n i b t p s = true) : kokB b t (bits .and .i64 p (m % 64)) s = true ∧ i = true ∧ covB b t p s b t (bits .and .i64 p (m % 64)) s = true := by
  obtain ⟨h1, h2, h3⟩ := open_rk h
  obtain ⟨k1, _, k3, k4⟩ := kok_parts h3
  have hp := and_low (q := m % 64) k3.1 k3.2
  have hk := kok_mk k1 hp k4
  exact ⟨hk, h1, cov_mk h3 hk (by omega) (by omega) (and_left hp.1 hp.2)⟩
theorem point_made (h : openB n i b t p s = true) : kokB b t p s = true ∧ i = true ∧ covB b t p s b t p s = true := by
  obtain ⟨h1, _, h3⟩ := open_rk h
  exact ⟨h3, h1, same_cov h3⟩
theorem narrow_made (m : Int) (h : narB n i b t p s m = true) : kokB (wd n (n + m)).1 (wd n (n + m)).2 p s = true ∧ i = true ∧ covB b t p s (wd n (n + m)).1 (wd n (n + m)).2 p s = true := by
  unfold narB at h
  simp only [Bool.and_eq_true, decide_eq_true_eq] at h
  obtain ⟨ho, _, hb, hl, hr⟩ := h
  obtain ⟨h1, _, h3⟩ := open_rk ho
  obtain ⟨_, _, k3, k4⟩ := kok_parts h3
  have hk := kok_mk (wd_all hb).2.2.2.2.1 k3 k4
  exact ⟨hk, h1, cov_mk h3 hk hl hr (and_same k3.1 k3.2)⟩
theorem may_of {n' : Int} {i' : Bool} {b' t' p' s' : Int} (h : mayB n' i' b' t' p' s' = true) : 1 ≤ n' ∧ n' ≤ 7 := by
  unfold mayB at h
  simp only [Bool.and_eq_true, decide_eq_true_eq] at h
  exact h.2.2.2
theorem seal_made {n' : Int} {i' : Bool} {b' t' p' s' : Int} (h : (openB n i b t p s && mayB n' i' b' t' p' s') = true) : kokB b t p n' = true ∧ i = true ∧ covB b t p s b t p n' = true := by
  rw [Bool.and_eq_true] at h
  obtain ⟨h1, _, h3⟩ := open_rk h.1
  obtain ⟨k1, _, k3, _⟩ := kok_parts h3
  have hs := may_of h.2
  have hk := kok_mk k1 k3 (s := n') (by omega)
  exact ⟨hk, h1, cov_mk h3 hk (by omega) (by omega) (and_same k3.1 k3.2)⟩
theorem open_made {n' : Int} {i' : Bool} {b' t' p' s' : Int} (h : opnB n i b t p s n' i' b' t' p' s' = true) : kokB b t p 0 = true ∧ i = true ∧ covB b t p s b t p 0 = true := by
  unfold opnB at h
  rw [Bool.and_eq_true] at h
  obtain ⟨h1, _, _, _, h3⟩ := rk_of h.1
  obtain ⟨k1, _, k3, _⟩ := kok_parts h3
  have hk := kok_mk k1 k3 (s := 0) (by omega)
  exact ⟨hk, h1, cov_mk h3 hk (by omega) (by omega) (and_same k3.1 k3.2)⟩
end Go.Proofs.YtehmlneaahbdoaaDoor
