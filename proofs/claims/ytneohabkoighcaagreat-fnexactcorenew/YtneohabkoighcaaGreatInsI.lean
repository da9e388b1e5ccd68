/- InsOk and Sets of the program at all places: they answer as the specification's. No condition. -/
import Derived.Test.YtneohabkoighcaaGreatInsM
import Derived.Test.YtneohabkoighcaaGreatInsS
namespace Go.Proofs.YtneohabkoighcaaGreat
open Go.ChangeShapes Go.WideShapes Go.ChangeAt Go.RowKit

theorem st_ins : Tryz.prog.stoodInHeld 49 = false := by kernel_rfl
theorem eg_ins : Tryz.prog.eqGuardType Tryz.prog.depth 49 = false := by kernel_rfl
/-- Whether two places are the same. -/
def eqB (o r a b n o' r' a' b' n' : Int) : Bool := o == o' && (r == r' && (a == a' && (b == b' && n == n')))
theorem equalIn_ins (o r a b n o' r' a' b' n' : Int) (w : World) : (Op.equalIn 10000 49 (.agg #[.int .i64 o, .int .i64 r, .int .i64 a, .int .i64 b, .int .i64 n]) (.agg #[.int .i64 o', .int .i64 r', .int .i64 a', .int .i64 b', .int .i64 n'])).run Tryz.prog w = .ok (eqB o r a b n o' r' a' b' n') w := by
  rw [run_equalIn_agg w 9999 49 _ _ (by kernel_rfl) st_ins]
  simp only [Program.fieldsOf, Tryz.underlying49]
  have e3 : ∀ (x y : Int) (w : World), (Op.equalIn 9999 3 (.int .i64 x) (.int .i64 y)).run Tryz.prog w = .ok (x == y) w := fun x y w => run_equalIn_int w 9998 3 _ _ x y Tryz.underlying3
  unfold eqB
  cases h1 : (o == o') <;> cases h2 : (r == r') <;> cases h3 : (a == a') <;> cases h4 : (b == b') <;> cases h5 : (n == n') <;> simp [Op.eqFields, go_sem, e3, h1, h2, h3, h4, h5]
theorem eql_ins (o r a b n o' r' a' b' n' : Int) (w : World) : (binOp .eql 49 (.agg #[.int .i64 o, .int .i64 r, .int .i64 a, .int .i64 b, .int .i64 n]) (.agg #[.int .i64 o', .int .i64 r', .int .i64 a', .int .i64 b', .int .i64 n'])).run Tryz.prog w = .ok (.bool (eqB o r a b n o' r' a' b' n')) w := by
  rw [run_eql_struct, equalIn_ins]; rfl
theorem neq_ins (o r a b n o' r' a' b' n' : Int) (w : World) : (binOp .neq 49 (.agg #[.int .i64 o, .int .i64 r, .int .i64 a, .int .i64 b, .int .i64 n]) (.agg #[.int .i64 o', .int .i64 r', .int .i64 a', .int .i64 b', .int .i64 n'])).run Tryz.prog w = .ok (.bool (!eqB o r a b n o' r' a' b' n')) w := by
  rw [run_neq_struct, equalIn_ins]; rfl

/-- Sets, by what placeOf and registerSet answer. -/
theorem sets_by (o r a b n z : Int) (v : Value) (hp : ∀ w, Calls Tryz.prog 100 #[.agg #[.int .i64 o, .int .i64 r, .int .i64 a, .int .i64 b, .int .i64 n]] w fun e w' => e = .returned (.tuple #[v, .bool true]) ∧ Below w.heap.size w w')
    (hs : ∀ w, Calls Tryz.prog 101 #[v] w fun e w' => e = .returned (.int .i64 z) ∧ Below w.heap.size w w') (w : World) :
    Calls Tryz.prog 72 #[.agg #[.int .i64 o, .int .i64 r, .int .i64 a, .int .i64 b, .int .i64 n]] w fun e w' => e = .returned (.int .i64 z) ∧ Below w.heap.size w w' := by
  have HP : Hid _ := hp
  have HS : Hid _ := hs
  clear hp hs
  go_enter Tryz.func72, Tryz.ntmps72
  go_wp2_with fail
  refine (HP.out _).mono ?_
  rintro e w1 ⟨rfl, hb1⟩
  have K1 : Hid (Below w.heap.size w w1) := ((Below.refl _ w).alloc (Nat.le_refl _) _).trans (hb1.mono (by simp))
  clear hb1 HP
  go_wp2_with fail
  refine (HS.out _).mono ?_
  rintro e w2 ⟨rfl, hb2⟩
  have K2 : Hid (Below w.heap.size w w2) := K1.out.trans (hb2.mono K1.out.size)
  clear hb2 HS K1
  go_wp2
  go_ret
  exact ⟨rfl, K2.out⟩

set_option maxHeartbeats 4000000 in
theorem implSets_any (o r a b n : Int) (w : World) :
    Calls Tryz.prog 72 #[.agg #[.int .i64 o, .int .i64 r, .int .i64 a, .int .i64 b, .int .i64 n]] w fun e w' => e = .returned (.int .i64 (setZ o r)) ∧ Below w.heap.size w w' := by
  have hp := placeOf_any o r a b n
  by_cases h : 1 ≤ o ∧ o ≤ 15
  · rcases op_cases h with rfl | rfl | rfl | rfl | rfl | rfl | rfl | rfl | rfl | rfl | rfl | rfl | rfl | rfl | rfl
    · exact sets_by _ r a b n _ _ hp (regSet_number r n) w
    · exact sets_by _ r a b n _ _ hp (regSet_two 2 r a b) w
    · exact sets_by _ r a b n _ _ hp (regSet_one 3 r a) w
    · exact sets_by _ r a b n _ _ hp (regSet_two 4 r a b) w
    · exact sets_by _ r a b n _ _ hp (regSet_two 5 r a b) w
    · exact sets_by _ r a b n _ _ hp (regSet_point r a b n) w
    · exact sets_by _ r a b n _ _ hp (regSet_two 7 r a b) w
    · exact sets_by _ r a b n _ _ hp (regSet_two 8 r a b) w
    · exact sets_by _ r a b n _ _ hp (regSet_one 9 r a) w
    · exact sets_by _ r a b n _ _ hp (regSet_load r a n) w
    · exact sets_by _ r a b n _ _ hp (regSet_store a b n) w
    · exact sets_by _ r a b n _ _ hp (regSet_one 12 r a) w
    · exact sets_by _ r a b n _ _ hp (regSet_zero a n) w
    · exact sets_by _ r a b n _ _ hp (regSet_gone a) w
    · exact sets_by _ r a b n _ _ hp regSet_halt w
  · rw [decide_eq_false h] at hp
    have hz : (bits .and .i64 0 1 != 0) = false := by decide
    have e : setZ o r = -1 := by simp [setZ, bitB, has_none h, hz]
    rw [e]
    have HP : Hid _ := hp
    clear hp e
    generalize plcV o r a b n = v at HP
    go_enter Tryz.func72, Tryz.ntmps72
    go_wp2_with fail
    refine (HP.out _).mono ?_
    rintro e w1 ⟨rfl, hb1⟩
    have K1 : Hid (Below w.heap.size w w1) := ((Below.refl _ w).alloc (Nat.le_refl _) _).trans (hb1.mono (by simp))
    clear hb1 HP
    go_wp2
    go_ret
    exact ⟨rfl, K1.out⟩
end Go.Proofs.YtneohabkoighcaaGreat
