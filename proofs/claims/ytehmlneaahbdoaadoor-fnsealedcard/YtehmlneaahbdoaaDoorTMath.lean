/- Who may with fewer may with more: what Try answers at a key, at the root and at no perms. -/
import Derived.Test.YtehmlneaahbdoaaDoorTryX
import Derived.Test.YtehmlneaahbdoaaDoorDMath
import Derived.Test.YtehmlneaahbdoaaDoorWordK
namespace Go.Proofs.YtehmlneaahbdoaaDoor
open Go.ChangeShapes Go.WideShapes Go.ChangeAt Go.RowKit

theorem trap_zero {c0 c1 c2 c3 : Bool} (h : trapZ c0 c1 c2 c3 = 0) : c0 = true ∧ c1 = false ∧ c2 = true ∧ c3 = true := by
  revert h
  cases c0 <;> cases c1 <;> cases c2 <;> cases c3 <;> decide
theorem try_zero {n : Int} {i : Bool} {b t p s m q : Int} (h : tryZ n i b t p s m q = 0) : rkB n i b t p s = true ∧ s = 0 ∧ bits .and .i64 p q = q ∧ b ≤ m ∧ m < t := by
  obtain ⟨h0, h1, h2, h3⟩ := trap_zero h
  exact ⟨h0, by simpa using h1, by simpa using h2, (of_decide_eq_true h3).1, (of_decide_eq_true h3).2⟩
theorem try_mk {n : Int} {i : Bool} {b t p s m q : Int} (h0 : rkB n i b t p s = true) (h1 : s = 0) (h2 : bits .and .i64 p q = q) (h3 : b ≤ m) (h4 : m < t) : tryZ n i b t p s m q = 0 := by
  unfold tryZ
  rw [h0, h2, decide_eq_true ⟨h3, h4⟩]
  subst h1
  simp [trapZ]
theorem and_zero (p : Int) : bits .and .i64 p 0 = 0 := by
  show IntKind.i64.wrap ((BitVec.ofInt 64 p &&& BitVec.ofInt 64 0).toNat : Nat) = 0
  simp
  decide
theorem try_none {n : Int} {i : Bool} {b t p s m q : Int} (h : tryZ n i b t p s m q = 0) : tryZ n i b t p s m 0 = 0 := by
  obtain ⟨h0, h1, _, h3, h4⟩ := try_zero h
  exact try_mk h0 h1 (and_zero p) h3 h4
theorem try_root {n : Int} {i : Bool} {b t p s m q : Int} (h : tryZ n i b t p s m q = 0) : tryZ (n % 65536) true 0 4096 63 0 m q = 0 := by
  obtain ⟨h0, h1, h2, h3, h4⟩ := try_zero h
  obtain ⟨_, hn, hn0, hn1, hk⟩ := rk_of h0
  obtain ⟨hb, hp0, hp1⟩ := kok_of hk
  have hb' := of_decide_eq_true hb
  have hq := and_low (q := q) hp0 hp1
  rw [h2] at hq
  refine try_mk ?_ rfl (and_trans (q := p) ?_ h2 hq.1 hq.2) (by omega) (by omega)
  · unfold rkB wokB
    rw [hn, kok_root, decide_eq_true ⟨hn0, hn1⟩]
    rfl
  · rw [and_comm64, i64_and63]
    omega
/-- What a Try that does not trap tells of the word. -/
theorem try_tells {n : Int} {i : Bool} {b t p s m q : Int} (h : tryZ n i b t p s m q = 0) : i = true ∧ s = 0 ∧ ¬ m < b ∧ ¬ t ≤ m := by
  obtain ⟨h0, h1, _, h3, h4⟩ := try_zero h
  obtain ⟨hi, _, _, _, _⟩ := rk_of h0
  exact ⟨hi, h1, by omega, by omega⟩
theorem kw_root (n : Int) (w : World) :
    Calls Tryd.prog 24 #[.agg #[.int .i64 0, .int .i64 4096, .int .i64 63, .int .i64 0], .int .i64 n] w fun e w' => e = .returned (.agg #[.int .i64 (n % 65536), .bool true, .int .i64 0, .int .i64 4096, .int .i64 63, .int .i64 0]) ∧ Below w.heap.size w w' := by
  have h := implKeyWord_any 0 4096 63 0 n w
  rw [kok_root] at h
  exact h
end Go.Proofs.YtehmlneaahbdoaaDoor
