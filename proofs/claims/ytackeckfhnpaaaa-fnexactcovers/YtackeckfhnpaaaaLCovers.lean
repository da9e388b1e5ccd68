/- For every two Keys Covers of the program answers as the specification's Covers, and the law returns true. No condition. -/
import Derived.Test.YtackeckfhnpaaaaRows
import Derived.Test.YtackeckfhnpaaaaKeyC
import Derived.Test.YtackeckfhnpaaaaKeyS
import Derived.WalkKit
import Derived.ProofKit
import Derived.OpenShut
import Derived.Lib.SmallJoins
namespace Go.Proofs.Ytackeckfhnpaaaa.fnExactCovers
open Go.ChangeShapes Go.WideShapes Go.ChangeAt Go.RowKit Go.Joins

theorem own : ownKnob Try.prog.godebug = none := by kernel_rfl
theorem cellsK : Try.prog.cellsOf 34 = 4 := by kernel_rfl

set_option maxHeartbeats 20000000 in
theorem walk (x0 : Int) (x1 : Int) (x2 : Int) (x3 : Int) (x4 : Int) (x5 : Int) (x6 : Int) (x7 : Int) (w : World) :
    Calls Try.prog 5 #[.agg #[.int .i64 x0, .int .i64 x1, .int .i64 x2, .int .i64 x3], .agg #[.int .i64 x4, .int .i64 x5, .int .i64 x6, .int .i64 x7]] w fun e w' => e = .returned (.bool true) ∧ Below w.heap.size w w' := by
  have s1 := specCovers_any x0 x1 x2 x3 x4 x5 x6 x7
  have s2 := implCovers_any x0 x1 x2 x3 x4 x5 x6 x7
  generalize covB x0 x1 x2 x3 x4 x5 x6 x7 = x at s1 s2
  have S1 : Hid _ := s1
  have S2 : Hid _ := s2
  clear s1 s2
  have T0 : Hid _ := TwoK.new w x0 x1 x2 x3 x4 x5 x6 x7 34 34
  go_enter Try.func5, Try.ntmps5
  go_wp2_with fail
  have D0 : Hid _ := T0.out.drew
  go_region_held3 (fun w' => w'.cell? ⟨w.heap.size, 0, none⟩ = some (.int .i64 x0) ∧ w'.cell? ⟨w.heap.size, 1, none⟩ = some (.int .i64 x1) ∧ w'.cell? ⟨w.heap.size, 2, none⟩ = some (.int .i64 x2) ∧ w'.cell? ⟨w.heap.size, 3, none⟩ = some (.int .i64 x3) ∧ w'.cell? ⟨w.heap.size + 1, 0, none⟩ = some (.int .i64 x4) ∧ w'.cell? ⟨w.heap.size + 1, 1, none⟩ = some (.int .i64 x5) ∧ w'.cell? ⟨w.heap.size + 1, 2, none⟩ = some (.int .i64 x6) ∧ w'.cell? ⟨w.heap.size + 1, 3, none⟩ = some (.int .i64 x7)) (first | (with_reducible exact D0.out.all) | (with_reducible exact T1.out.all) | (with_reducible exact T2.out.all) | (with_reducible exact T3.out.all))
    (first
      | (go_at_call_of 19 (Value.agg #[Value.int IntKind.i64 x0, Value.int IntKind.i64 x1, Value.int IntKind.i64 x2, Value.int IntKind.i64 x3]); refine (toKey_any x0 x1 x2 x3 _).mono ?_; rintro e w1 ⟨rfl, hb1⟩; have T1 : Hid _ := D0.out.next hb1; clear hb1)
      | (go_at_call_of 19 (Value.agg #[Value.int IntKind.i64 x4, Value.int IntKind.i64 x5, Value.int IntKind.i64 x6, Value.int IntKind.i64 x7]); refine (toKey_any x4 x5 x6 x7 _).mono ?_; rintro e w2 ⟨rfl, hb2⟩; have T2 : Hid _ := T1.out.next hb2; clear hb2)
      | (go_at_call 15; refine (S1.out _).mono ?_; rintro e w3 ⟨rfl, hb3⟩; have T3 : Hid _ := T2.out.next hb3; clear hb3))
  clear T0 D0 T1 T2
  go_wp2_with fail
  have D3 : Hid _ := T3.out.drew
  go_region_held3 (fun w' => w'.cell? ⟨w.heap.size, 0, none⟩ = some (.int .i64 x0) ∧ w'.cell? ⟨w.heap.size, 1, none⟩ = some (.int .i64 x1) ∧ w'.cell? ⟨w.heap.size, 2, none⟩ = some (.int .i64 x2) ∧ w'.cell? ⟨w.heap.size, 3, none⟩ = some (.int .i64 x3) ∧ w'.cell? ⟨w.heap.size + 1, 0, none⟩ = some (.int .i64 x4) ∧ w'.cell? ⟨w.heap.size + 1, 1, none⟩ = some (.int .i64 x5) ∧ w'.cell? ⟨w.heap.size + 1, 2, none⟩ = some (.int .i64 x6) ∧ w'.cell? ⟨w.heap.size + 1, 3, none⟩ = some (.int .i64 x7)) (first | (with_reducible exact D3.out.all) | (with_reducible exact T4.out.all) | (with_reducible exact T5.out.all) | (with_reducible exact T6.out.all))
    (first
      | (go_at_call_of 19 (Value.agg #[Value.int IntKind.i64 x0, Value.int IntKind.i64 x1, Value.int IntKind.i64 x2, Value.int IntKind.i64 x3]); refine (toKey_any x0 x1 x2 x3 _).mono ?_; rintro e w4 ⟨rfl, hb4⟩; have T4 : Hid _ := D3.out.next hb4; clear hb4)
      | (go_at_call_of 19 (Value.agg #[Value.int IntKind.i64 x4, Value.int IntKind.i64 x5, Value.int IntKind.i64 x6, Value.int IntKind.i64 x7]); refine (toKey_any x4 x5 x6 x7 _).mono ?_; rintro e w5 ⟨rfl, hb5⟩; have T5 : Hid _ := T4.out.next hb5; clear hb5)
      | (go_at_call 10; refine (S2.out _).mono ?_; rintro e w6 ⟨rfl, hb6⟩; have T6 : Hid _ := T5.out.next hb6; clear hb6))
  cases x
  all_goals
    go_wp2
    go_ret
    exact ⟨rfl, T6.out.k⟩

set_option maxRecDepth 100000 in
theorem lifted (os : Os) (started : os.Started) (H : Type) (enc : TypeId × Value → H) :
    ReturnsInHanded {} Try.checked os 5 .any (Rows.fnExactCoversSpec.pre6 enc Try.prog Try.f5 Rows.fnExactCoversRow.domain false) (Rows.fnExactCoversSpec.post enc Try.prog Try.f5 false true false false) := by
  refine returnsInHanded_of_change (C := Try.checked) own started (by kernel_rfl) Try.func5
    (ChangeSpec.witness6 (enc := enc) (C := Try.checked) false ⟨#[], #[.agg #[.int .i64 0, .int .i64 0, .int .i64 0, .int .i64 0], .agg #[.int .i64 0, .int .i64 0, .int .i64 0, .int .i64 0]], []⟩ 8 (by kernel_rfl) (by kernel_rfl) (by kernel_rfl) (by kernel_rfl)) ?_
  intro W base args ds gs before hval0 hW hcnd _
  have hval : ∀ (j : Nat) t v, Try.f5.params[j]? = some t → args[j]? = some v → Value.okWide Try.prog W .any base t v := hval0
  have hW' := hW
  obtain ⟨p, q, hA0, hV, rfl, hfz, hnd⟩ := hW
  have hA : DataW.TrodAll enc Try.prog W 0 (fun _ => true) true Try.f5.params.toList args.toList ds p := hA0
  rw [Try.params5] at hA hval
  obtain ⟨v0, v1, d0, d1, p0, p1, rfl, rfl, rfl, h0, h1⟩ := trodAll_two hA
  obtain ⟨rfl, rfl⟩ := trodVars_none hV
  obtain ⟨cx0, cx1, cx2, cx3, yx0, yx1, yx2, yx3, m0, rfl, rfl, rfl, hyx0, hyx1, hyx2, hyx3⟩ := open_agg4 Try.underlying34 (by kernel_rfl) cellsK (hval 0 34 v0 rfl rfl) h0
  obtain ⟨x0, ex0, rfl, wx0⟩ := DataW.trod_int Try.underlying3 hyx0
  obtain ⟨x1, ex1, rfl, wx1⟩ := DataW.trod_int Try.underlying3 hyx1
  obtain ⟨x2, ex2, rfl, wx2⟩ := DataW.trod_int Try.underlying3 hyx2
  obtain ⟨x3, ex3, rfl, wx3⟩ := DataW.trod_int Try.underlying3 hyx3
  simp at ex0 ex1 ex2 ex3
  subst ex0 ex1 ex2 ex3
  obtain ⟨cx4, cx5, cx6, cx7, yx4, yx5, yx6, yx7, m1, rfl, rfl, rfl, hyx4, hyx5, hyx6, hyx7⟩ := open_agg4 Try.underlying34 (by kernel_rfl) cellsK (hval 1 34 v1 rfl rfl) h1
  obtain ⟨x4, ex4, rfl, wx4⟩ := DataW.trod_int Try.underlying3 hyx4
  obtain ⟨x5, ex5, rfl, wx5⟩ := DataW.trod_int Try.underlying3 hyx5
  obtain ⟨x6, ex6, rfl, wx6⟩ := DataW.trod_int Try.underlying3 hyx6
  obtain ⟨x7, ex7, rfl, wx7⟩ := DataW.trod_int Try.underlying3 hyx7
  simp at ex4 ex5 ex6 ex7
  subst ex4 ex5 ex6 ex7
  clear hA0 hval0
  simp only [List.append_nil] at hW'
  have reads0 : ∀ (W' : World) (sp : Nat → Bool), DataW.Trod enc Try.prog W' 0 sp true 34 (.agg #[.int .i64 x0, .int .i64 x1, .int .i64 x2, .int .i64 x3]) (.agg [.lit (.int .i64 x0), .lit (.int .i64 x1), .lit (.int .i64 x2), .lit (.int .i64 x3)]) [] := fun W' sp =>
    shut_agg4 (y0 := (.lit (.int .i64 x0), [])) (y1 := (.lit (.int .i64 x1), [])) (y2 := (.lit (.int .i64 x2), [])) (y3 := (.lit (.int .i64 x3), [])) Try.underlying34 (by kernel_rfl) cellsK ⟨1, by simp [DataW.trod, Try.underlying3, wx0]⟩ ⟨1, by simp [DataW.trod, Try.underlying3, wx1]⟩ ⟨1, by simp [DataW.trod, Try.underlying3, wx2]⟩ ⟨1, by simp [DataW.trod, Try.underlying3, wx3]⟩
  have reads1 : ∀ (W' : World) (sp : Nat → Bool), DataW.Trod enc Try.prog W' 0 sp true 34 (.agg #[.int .i64 x4, .int .i64 x5, .int .i64 x6, .int .i64 x7]) (.agg [.lit (.int .i64 x4), .lit (.int .i64 x5), .lit (.int .i64 x6), .lit (.int .i64 x7)]) [] := fun W' sp =>
    shut_agg4 (y0 := (.lit (.int .i64 x4), [])) (y1 := (.lit (.int .i64 x5), [])) (y2 := (.lit (.int .i64 x6), [])) (y3 := (.lit (.int .i64 x7), [])) Try.underlying34 (by kernel_rfl) cellsK ⟨1, by simp [DataW.trod, Try.underlying3, wx4]⟩ ⟨1, by simp [DataW.trod, Try.underlying3, wx5]⟩ ⟨1, by simp [DataW.trod, Try.underlying3, wx6]⟩ ⟨1, by simp [DataW.trod, Try.underlying3, wx7]⟩
  refine (walk x0 x1 x2 x3 x4 x5 x6 x7 W).mono fun e W' ⟨he, bel⟩ => ?_
  subst he
  exact ⟨_, rfl, _, _, _, [], [], [], hW', trodAll_mk1 (shut_bool Try.underlying4 _), trodAll_mk2 (reads0 _ _) (reads1 _ _), rfl, bel.frame _, fun h => by cases h⟩

theorem proved : Rows.FnExactCoversSaid :=
  OpenClaim.holds_of_wide 5 Try.f5 rfl rfl rfl rfl rfl rfl rfl ⟨rfl, rfl, rfl, rfl, rfl⟩ rfl rfl rfl rfl rfl (by kernel_rfl) Try.func5 (by kernel_rfl)
    (of_decide_eq_true (by kernel_rfl)) (by unfold Func.isWrapper; first | (rw [if_pos (by decide +kernel)]; kernel_rfl) | (rw [if_neg (by decide +kernel)]; exact ⟨rfl, rfl⟩))
    (fun os started H enc _ => lifted os started H enc)
end Go.Proofs.Ytackeckfhnpaaaa.fnExactCovers

namespace Go.Proofs.Ytackeckfhnpaaaa
/-- For every two Keys Covers of the program answers as the specification's Covers, and the law returns true. No condition. -/
theorem fnExactCovers_holds : Rows.FnExactCoversSaid := fnExactCovers.proved
#print axioms fnExactCovers_holds
end Go.Proofs.Ytackeckfhnpaaaa
