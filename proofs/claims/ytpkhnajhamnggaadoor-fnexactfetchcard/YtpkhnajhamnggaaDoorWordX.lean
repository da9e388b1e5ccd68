/- WordOk, Plain, KeyWord and Bare of the specification and of the program, at all words: both answer the same. No condition. -/
import Derived.Test.YtpkhnajhamnggaaDoorKeyX
import Derived.Test.YtpkhnajhamnggaaDoorWord
namespace Go.Proofs.YtpkhnajhamnggaaDoor
open Go.ChangeShapes Go.WideShapes Go.ChangeAt Go.RowKit

/-- What WordOk answers. -/
def wokB (n : Int) (i : Bool) (b t p s : Int) : Bool :=
  decide (0 ≤ n ∧ n ≤ 65535) && bif i then kokB b t p s else (b == 0 && (t == 0 && (p == 0 && s == 0)))

theorem st_key : Tryd.prog.stoodInHeld 34 = false := by kernel_rfl
theorem eg_key : Tryd.prog.eqGuardType Tryd.prog.depth 34 = false := by kernel_rfl
theorem equalIn_key (a b c d a' b' c' d' : Int) (w : World) : (Op.equalIn 10000 34 (.agg #[.int .i64 a, .int .i64 b, .int .i64 c, .int .i64 d]) (.agg #[.int .i64 a', .int .i64 b', .int .i64 c', .int .i64 d'])).run Tryd.prog w = .ok (a == a' && (b == b' && (c == c' && d == d'))) w := by
  rw [run_equalIn_agg w 9999 34 _ _ (by kernel_rfl) st_key]
  simp only [Program.fieldsOf, Tryd.underlying34]
  have e3 : ∀ (x y : Int) (w : World), (Op.equalIn 9999 3 (.int .i64 x) (.int .i64 y)).run Tryd.prog w = .ok (x == y) w := fun x y w => run_equalIn_int w 9998 3 _ _ x y Tryd.underlying3
  cases h1 : (a == a') <;> cases h2 : (b == b') <;> cases h3 : (c == c') <;> cases h4 : (d == d') <;> simp [Op.eqFields, go_sem, e3, h1, h2, h3, h4]
theorem eql_key (a b c d a' b' c' d' : Int) (w : World) : (binOp .eql 34 (.agg #[.int .i64 a, .int .i64 b, .int .i64 c, .int .i64 d]) (.agg #[.int .i64 a', .int .i64 b', .int .i64 c', .int .i64 d'])).run Tryd.prog w = .ok (.bool (a == a' && (b == b' && (c == c' && d == d')))) w := by
  rw [run_eql_struct, equalIn_key]; rfl

set_option maxRecDepth 100000 in
set_option maxHeartbeats 1000000 in
theorem implWordOk_any (n : Int) (i : Bool) (b t p s : Int) (w : World) :
    Calls Tryd.prog 39 #[.agg #[.int .i64 n, .bool i, .int .i64 b, .int .i64 t, .int .i64 p, .int .i64 s]] w fun e w' => e = .returned (.bool (wokB n i b t p s)) ∧ Below w.heap.size w w' := by
  have eg := eg_key
  have q1 := equalIn_key
  have q2 := eql_key
  have s1 := implKeyOk_any b t p s
  have hn : decide (0 ≤ n ∧ n ≤ 65535) = (decide (0 ≤ n) && decide (n < 65536)) := by
    by_cases h0 : 0 ≤ n <;> by_cases h1 : n < 65536 <;> simp [h0, h1] <;> omega
  unfold wokB
  rw [hn]
  clear hn
  generalize kokB b t p s = x at s1 ⊢
  have S1 : Hid _ := s1
  clear s1
  by_cases h0 : 0 ≤ n <;> by_cases h1 : n < 65536 <;> try omega
  · cases i
    · simp only [h0, h1, decide_true, Bool.and_true, Bool.true_and, cond_false]
      go_enter Tryd.func39, Tryd.ntmps39
      go_wp2
      go_ret
      exact ⟨rfl, (Below.refl _ _).alloc (Nat.le_refl _) _⟩
    · simp only [h0, h1, decide_true, Bool.and_true, Bool.true_and, cond_true]
      go_enter Tryd.func39, Tryd.ntmps39
      go_wp2_with fail
      refine (S1.out _).mono ?_
      rintro e w1 ⟨rfl, hb1⟩
      have hB1 : Hid (Below w.heap.size w w1) := ((Below.refl _ w).alloc (Nat.le_refl _) _).trans (hb1.mono (by simp))
      clear hb1
      go_wp2
      go_ret
      exact ⟨rfl, hB1.out⟩
  all_goals
    simp only [h0, h1, decide_true, decide_false, Bool.false_and, Bool.and_false]
    go_enter Tryd.func39, Tryd.ntmps39
    go_wp2
    go_ret
    exact ⟨rfl, (Below.refl _ _).alloc (Nat.le_refl _) _⟩

set_option maxRecDepth 100000 in
set_option maxHeartbeats 1000000 in
theorem specWordOk_any (n : Int) (i : Bool) (b t p s : Int) (w : World) :
    Calls Tryd.prog 17 #[.agg #[.int .i64 n, .bool i, .int .i64 b, .int .i64 t, .int .i64 p, .int .i64 s]] w fun e w' => e = .returned (.bool (wokB n i b t p s)) ∧ Below w.heap.size w w' := by
  have eg := eg_key
  have q1 := equalIn_key
  have q2 := eql_key
  have s1 := specKeyOk_any b t p s
  have s2 := in_any n 0 65535
  have hu : undef = Value.tuple #[] := rfl
  unfold wokB
  generalize kokB b t p s = x at s1 ⊢
  generalize decide (0 ≤ n ∧ n ≤ 65535) = y at s2 ⊢
  have S1 : Hid _ := s1
  have S2 : Hid _ := s2
  clear s1 s2
  go_enter Tryd.func17, Tryd.ntmps17
  go_wp2_with fail
  refine (S2.out _).mono ?_
  rintro e w1 ⟨rfl, rfl⟩
  cases y
  · go_wp2
    go_ret
    exact ⟨rfl, (Below.refl _ _).alloc (Nat.le_refl _) _⟩
  cases i
  · go_wp2
    go_ret
    exact ⟨rfl, (Below.refl _ _).alloc (Nat.le_refl _) _⟩
  · go_wp2_with fail
    refine (S1.out _).mono ?_
    rintro e w1 ⟨rfl, hb1⟩
    have A1 := (Six.new w n true b t p s 36).below hb1
    have hB1 : Hid (Below w.heap.size w w1) := ((Below.refl _ w).alloc (Nat.le_refl _) _).trans (hb1.mono (by simp))
    obtain ⟨_, c0, c1, c2, c3, c4, c5, _, _, _, _, _, _⟩ := A1
    clear hb1
    cases x
    all_goals
      go_wp2
      go_ret
      exact ⟨rfl, hB1.out⟩

end Go.Proofs.YtpkhnajhamnggaaDoor
