/- For every int of 64 bits InsOf of the program answers as the specification's InsOf, and the law returns true. No condition. -/
import Derived.Test.YtbfbbapongijeaaRows
import Derived.Test.YtbfbbapongijeaaInsO
import Derived.Test.YtbfbbapongijeaaInsD
import Derived.WalkKit
import Derived.ProofKit
import Derived.OpenShut
import Derived.Lib.SmallJoins
import Derived.ChangeOld
import Derived.Below
import Derived.Deep.Slices
import Derived.Deep.Strs
namespace Go.Proofs.Ytbfbbapongijeaa.fnExactInsOf
open Go.ChangeShapes Go.WideShapes Go.ChangeAt Go.RowKit Go.Joins Go.Deep

theorem own : ownKnob Try.prog.godebug = none := by kernel_rfl
theorem laidOut : laidOutB Try.prog = true := by kernel_rfl

set_option maxRecDepth 100000 in
set_option maxHeartbeats 20000000 in
theorem walk (x0 : Int) (b0 : -9223372036854775808 ≤ x0 ∧ x0 ≤ 9223372036854775807) (w : World)  :
    Calls Try.prog 6 #[.int .i64 x0] w fun e w' => e = .returned (.bool true) ∧ Below w.heap.size w w' := by
  have s1 := specInsOf_any x0 b0.2
  have s2 := implInsOf_any x0 b0.2
  clear b0
  generalize iofO x0 = o at s1 s2
  generalize iofR x0 = r at s1 s2
  generalize iofA x0 = a at s1 s2
  generalize iofC x0 = b at s1 s2
  generalize iofN x0 = n at s1 s2
  generalize iofB x0 = y at s1 s2
  have S1 : Hid _ := s1
  have S2 : Hid _ := s2
  clear s1 s2
  go_enter Try.func6, Try.ntmps6
  go_wp2_with fail
  refine (S1.out _).mono ?_
  rintro e w1 ⟨rfl, hb1⟩
  have P1 : Hid (Pl w w1.heap.size o r a b n (w1.alloc (.cells #[.int .i64 o, .int .i64 r, .int .i64 a, .int .i64 b, .int .i64 n] 25))) := ⟨Five.new _ _ _ _ _ _ _, hb1.alloc hb1.size _⟩
  clear hb1
  go_wp2_with fail
  refine (S2.out _).mono ?_
  rintro e w2 ⟨rfl, hb2⟩
  have P2 := hid_mk ((P1.out.next hb2).alloc (.cells #[.int .i64 o, .int .i64 r, .int .i64 a, .int .i64 b, .int .i64 n] 25))
  clear hb2 P1
  obtain ⟨_, c0, c1, c2, c3, c4, _, _, _, _, _⟩ := P2.out.five
  have hy : (y != y) = false := by simp
  go_wp2_with fail
  refine (eqIns_same o r a b n _).mono ?_
  rintro e w3 ⟨rfl, hb3⟩
  have P3 := hid_mk (P2.out.next hb3)
  clear hb3 P2 c0 c1 c2 c3 c4
  go_wp2
  go_ret
  exact ⟨rfl, P3.out.bel⟩

set_option maxRecDepth 100000 in
theorem lifted (os : Os) (started : os.Started) (H : Type) (enc : TypeId × Value → H) :
    ReturnsInHanded {} Try.checked os 6 .any (Rows.fnExactInsOfSpec.pre6 enc Try.prog Try.f6 Rows.fnExactInsOfRow.domain false) (Rows.fnExactInsOfSpec.post enc Try.prog Try.f6 false true false false) := by
  refine returnsInHanded_of_change (C := Try.checked) own started (by kernel_rfl) Try.func6
    (ChangeSpec.witness6 (enc := enc) (C := Try.checked) false ⟨#[], #[.int .i64 0], []⟩ 8 (by kernel_rfl) (by kernel_rfl) (by kernel_rfl) (by kernel_rfl)) ?_
  intro W base args ds gs before hval0 hW hcnd _
  have hval : ∀ (j : Nat) t v, Try.f6.params[j]? = some t → args[j]? = some v → Value.okWide Try.prog W .any base t v := hval0
  have hW' := hW
  obtain ⟨p, q, hA0, hV, rfl, hfz, hnd⟩ := hW
  have hA : DataW.TrodAll enc Try.prog W 0 (fun _ => true) true Try.f6.params.toList args.toList ds p := hA0
  rw [Try.params6] at hA hval
  obtain ⟨v0, vs0, d0, ds0, p0, q0, hargs, rfl, rfl, h0, r0⟩ := trodAll_cons hA
  obtain ⟨rfl, rfl, rfl⟩ := trodAll_nil r0
  obtain rfl : args = #[v0] := by cases args; simp_all
  obtain ⟨rfl, rfl⟩ := trodVars_none hV
  have k0 := h0
  have lt0 : ∀ x ∈ p0, x.block < W.heap.size := by obtain ⟨m, hm⟩ := k0; exact DataW.trod_lt m _ _ _ hm
  obtain ⟨x0, rfl, _, _, wx0⟩ := open_int Try.underlying3 (hval 0 3 v0 rfl rfl) h0
  clear hA0 hval0
  refine (walk x0 (bounds_i64 wx0) W ).mono fun e W' ⟨he, bel⟩ => ?_
  subst he
  exact ⟨_, rfl, _, _, _, [], _, [], hW', trodAll_mk1 (shut_bool Try.underlying4 _), (trodAll_cons_mk (Below.trod laidOut (by kernel_rfl) (of_decide_eq_true (by kernel_rfl)) k0 bel lt0) trodAll_mk0), rfl, bel.frame _, fun h => by cases h⟩

theorem proved : Rows.FnExactInsOfSaid :=
  OpenClaim.holds_of_wide 6 Try.f6 rfl rfl rfl rfl rfl rfl rfl ⟨rfl, rfl, rfl, rfl, rfl⟩ rfl rfl rfl rfl rfl (by kernel_rfl) Try.func6 (by kernel_rfl)
    (of_decide_eq_true (by kernel_rfl)) (by unfold Func.isWrapper; first | (rw [if_pos (by decide +kernel)]; kernel_rfl) | (rw [if_neg (by decide +kernel)]; exact ⟨rfl, rfl⟩))
    (fun os started H enc _ => lifted os started H enc)
end Go.Proofs.Ytbfbbapongijeaa.fnExactInsOf

namespace Go.Proofs.Ytbfbbapongijeaa
/-- For every int of 64 bits InsOf of the program answers as the specification's InsOf, and the law returns true. No condition. -/
theorem fnExactInsOf_holds : Rows.FnExactInsOfSaid := fnExactInsOf.proved
#print axioms fnExactInsOf_holds
end Go.Proofs.Ytbfbbapongijeaa
