/- InsOk and Sets of the program at all places: they answer as the specification's. No condition. -/
import Derived.Test.YtpkhnajhamnggaaDoorInsM
import Derived.Test.YtpkhnajhamnggaaDoorInsS
namespace Go.Proofs.YtpkhnajhamnggaaDoor
open Go.ChangeShapes Go.WideShapes Go.ChangeAt Go.RowKit

theorem st_ins : Tryd.prog.stoodInHeld 29 = false := by kernel_rfl
theorem eg_ins : Tryd.prog.eqGuardType Tryd.prog.depth 29 = false := by kernel_rfl
/-- Whether two places are the same. -/
def eqB (o r a b n o' r' a' b' n' : Int) : Bool := o == o' && (r == r' && (a == a' && (b == b' && n == n')))
theorem equalIn_ins (o r a b n o' r' a' b' n' : Int) (w : World) : (Op.equalIn 10000 29 (.agg #[.int .i64 o, .int .i64 r, .int .i64 a, .int .i64 b, .int .i64 n]) (.agg #[.int .i64 o', .int .i64 r', .int .i64 a', .int .i64 b', .int .i64 n'])).run Tryd.prog w = .ok (eqB o r a b n o' r' a' b' n') w := by
  rw [run_equalIn_agg w 9999 29 _ _ (by kernel_rfl) st_ins]
  simp only [Program.fieldsOf, Tryd.underlying29]
  have e3 : ∀ (x y : Int) (w : World), (Op.equalIn 9999 3 (.int .i64 x) (.int .i64 y)).run Tryd.prog w = .ok (x == y) w := fun x y w => run_equalIn_int w 9998 3 _ _ x y Tryd.underlying3
  unfold eqB
  cases h1 : (o == o') <;> cases h2 : (r == r') <;> cases h3 : (a == a') <;> cases h4 : (b == b') <;> cases h5 : (n == n') <;> simp [Op.eqFields, go_sem, e3, h1, h2, h3, h4, h5]
theorem eql_ins (o r a b n o' r' a' b' n' : Int) (w : World) : (binOp .eql 29 (.agg #[.int .i64 o, .int .i64 r, .int .i64 a, .int .i64 b, .int .i64 n]) (.agg #[.int .i64 o', .int .i64 r', .int .i64 a', .int .i64 b', .int .i64 n'])).run Tryd.prog w = .ok (.bool (eqB o r a b n o' r' a' b' n')) w := by
  rw [run_eql_struct, equalIn_ins]; rfl
theorem neq_ins (o r a b n o' r' a' b' n' : Int) (w : World) : (binOp .neq 29 (.agg #[.int .i64 o, .int .i64 r, .int .i64 a, .int .i64 b, .int .i64 n]) (.agg #[.int .i64 o', .int .i64 r', .int .i64 a', .int .i64 b', .int .i64 n'])).run Tryd.prog w = .ok (.bool (!eqB o r a b n o' r' a' b' n')) w := by
  rw [run_neq_struct, equalIn_ins]; rfl

end Go.Proofs.YtpkhnajhamnggaaDoor
