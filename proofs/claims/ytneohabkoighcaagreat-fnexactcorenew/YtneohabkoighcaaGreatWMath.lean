/- Plain facts on words: what is made is right, a key is under itself, numbers go round; two words that are the same are equal. -/
import Derived.Test.YtneohabkoighcaaGreatKSame
import Derived.Test.YtneohabkoighcaaGreatWordL
namespace Go.Proofs.YtneohabkoighcaaGreat
open Go.ChangeShapes Go.WideShapes Go.ChangeAt Go.RowKit

theorem plain_ok (n : Int) : wokB (n % 65536) false 0 0 0 0 = true := by
  have h : 0 ≤ n % 65536 ∧ n % 65536 ≤ 65535 := by omega
  simp [wokB, h]
theorem keyword_ok (b t p s n : Int) : wokB (n % 65536) (kokB b t p s) (bif kokB b t p s then b else 0) (bif kokB b t p s then t else 0) (bif kokB b t p s then p else 0) (bif kokB b t p s then s else 0) = true := by
  have h : 0 ≤ n % 65536 ∧ n % 65536 ≤ 65535 := by omega
  cases hk : kokB b t p s
  · simp [wokB, h]
  · simp [wokB, h, hk]
theorem self_under {n : Int} {i : Bool} {b t p s : Int} (h : wokB n i b t p s = true) : undB i b t p s [⟨n, i, b, t, p, s⟩] = true := by
  cases i
  · rfl
  · simp only [wokB, Bool.and_eq_true, cond_true] at h
    simp [undB, ovB, same_cov h.2]
theorem round_go (n : Int) : wrap64 (n + 65536) % 65536 = n % 65536 := by
  unfold wrap64
  omega

theorem st_word : Tryz.prog.stoodInHeld 28 = false := by kernel_rfl
theorem eg_word : Tryz.prog.eqGuardType Tryz.prog.depth 28 = false := by kernel_rfl
theorem equalIn_key9 (a b c d : Int) (w : World) : (Op.equalIn 9999 26 (.agg #[.int .i64 a, .int .i64 b, .int .i64 c, .int .i64 d]) (.agg #[.int .i64 a, .int .i64 b, .int .i64 c, .int .i64 d])).run Tryz.prog w = .ok true w := by
  rw [run_equalIn_agg w 9998 26 _ _ (by kernel_rfl) st_key]
  simp only [Program.fieldsOf, Tryz.underlying26]
  have e3 : ∀ (x y : Int) (w : World), (Op.equalIn 9998 3 (.int .i64 x) (.int .i64 y)).run Tryz.prog w = .ok (x == y) w := fun x y w => run_equalIn_int w 9997 3 _ _ x y Tryz.underlying3
  simp [Op.eqFields, go_sem, e3]
theorem equalIn_word (n : Int) (i : Bool) (a b c d : Int) (w : World) : (Op.equalIn 10000 28 (.agg #[.int .i64 n, .bool i, .int .i64 a, .int .i64 b, .int .i64 c, .int .i64 d]) (.agg #[.int .i64 n, .bool i, .int .i64 a, .int .i64 b, .int .i64 c, .int .i64 d])).run Tryz.prog w = .ok true w := by
  rw [run_equalIn_agg w 9999 28 _ _ (by kernel_rfl) st_word]
  simp only [Program.fieldsOf, Tryz.underlying28]
  have e3 : ∀ (x y : Int) (w : World), (Op.equalIn 9999 3 (.int .i64 x) (.int .i64 y)).run Tryz.prog w = .ok (x == y) w := fun x y w => run_equalIn_int w 9998 3 _ _ x y Tryz.underlying3
  have e4 : ∀ (x y : Bool) (w : World), (Op.equalIn 9999 4 (.bool x) (.bool y)).run Tryz.prog w = .ok (x == y) w := fun x y w => run_equalIn_bool w 9998 4 x y Tryz.underlying4
  have e5 := equalIn_key9 a b c d
  simp [Op.eqFields, go_sem, e3, e4, e5]
theorem eql_word (n : Int) (i : Bool) (a b c d : Int) (w : World) : (binOp .eql 28 (.agg #[.int .i64 n, .bool i, .int .i64 a, .int .i64 b, .int .i64 c, .int .i64 d]) (.agg #[.int .i64 n, .bool i, .int .i64 a, .int .i64 b, .int .i64 c, .int .i64 d])).run Tryz.prog w = .ok (.bool true) w := by
  rw [run_eql_struct, equalIn_word]; rfl
theorem neq_word (n : Int) (i : Bool) (a b c d : Int) (w : World) : (binOp .neq 28 (.agg #[.int .i64 n, .bool i, .int .i64 a, .int .i64 b, .int .i64 c, .int .i64 d]) (.agg #[.int .i64 n, .bool i, .int .i64 a, .int .i64 b, .int .i64 c, .int .i64 d])).run Tryz.prog w = .ok (.bool false) w := by
  rw [run_neq_struct, equalIn_word]; rfl
end Go.Proofs.YtneohabkoighcaaGreat
