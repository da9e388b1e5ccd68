/- For every Word and int Point of the program answers as the specification's Point, every field, and the law returns true. No condition. -/
import Derived.Test.YtabafekjacjpcaaRows
import Derived.Test.YtabafekjacjpcaaIFive
import Derived.Test.YtabafekjacjpcaaWordD
import Derived.WalkKit
import Derived.ProofKit
import Derived.OpenShut
import Derived.Lib.SmallJoins
namespace Go.Proofs.Ytabafekjacjpcaa.fnExactPoint
open Go.ChangeShapes Go.WideShapes Go.ChangeAt Go.RowKit Go.Joins

theorem own : ownKnob Try.prog.godebug = none := by kernel_rfl

set_option maxHeartbeats 20000000 in
theorem walk (x0 : Int) (x1 : Bool) (x2 : Int) (x3 : Int) (x4 : Int) (x5 : Int) (x6 : Int) (w : World) :
    Calls Try.prog 6 #[.agg #[.int .i64 x0, .bool x1, .int .i64 x2, .int .i64 x3, .int .i64 x4, .int .i64 x5], .int .i64 x6] w fun e w' => e = .returned (.bool true) ∧ Below w.heap.size w w' := by
  have s1 := specPoint_any x0 x1 x2 x3 x4 x5 x6
  have s2 := implPoint_any x0 x1 x2 x3 x4 x5 x6
  obtain ⟨u0, u1, u2, u3, u4, u5, hV⟩ : ∃ (u0 : Int) (u1 : Bool) (u2 u3 u4 u5 : Int), (madeV (x6 % 65536) (openB x0 x1 x2 x3 x4 x5) x2 x3 x4 x5) = .agg #[.int .i64 u0, .bool u1, .int .i64 u2, .int .i64 u3, .int .i64 u4, .int .i64 u5] := ⟨_, _, _, _, _, _, rfl⟩
  rw [hV] at s1 s2
  have S1 : Hid _ := s1
  have S2 : Hid _ := s2
  clear s1 s2 hV
  go_enter Try.func6, Try.ntmps6
  go_wp2_with fail
  refine (toWord_any _ _ _ _ _ _ _).mono ?_
  rintro e w1 ⟨rfl, hb1⟩
  have A1 : Hid (Six w1 w.heap.size x0 x1 x2 x3 x4 x5) := (Six.new w x0 x1 x2 x3 x4 x5 39).below hb1
  have K1 : Hid (Below w.heap.size w w1) := ((Below.refl _ w).alloc (Nat.le_refl _) _).trans (hb1.mono (by simp))
  clear hb1
  go_wp2_with fail
  refine (S1.out _).mono ?_
  rintro e w2 ⟨rfl, hb2⟩
  have K2 : Hid (Below w.heap.size w w2) := K1.out.trans (hb2.mono K1.out.size)
  have A2 : Hid (Six w2 w.heap.size x0 x1 x2 x3 x4 x5) := A1.out.below hb2
  obtain ⟨_, a0, a1, a2, a3, a4, a5, _, _, _, _, _, _⟩ := A2.out.alloc (.cells #[.int .i64 u0, .bool u1, .int .i64 u2, .int .i64 u3, .int .i64 u4, .int .i64 u5] 27)
  clear hb2 A1 K1
  go_wp2_with fail
  refine (toWord_any _ _ _ _ _ _ _).mono ?_
  rintro e w3 ⟨rfl, hb3⟩
  have z2 := K2.out.size
  have z3 := hb3.size
  simp only [World.size_alloc] at z3
  have K3 : Hid (Below w.heap.size w w3) := (K2.out.alloc K2.out.size _).trans (hb3.mono (by rw [World.size_alloc]; omega))
  have A3 : Hid (Six w3 w2.heap.size u0 u1 u2 u3 u4 u5) := (Six.new w2 u0 u1 u2 u3 u4 u5 27).below hb3
  clear hb3 K2 a0 a1 a2 a3 a4 a5
  go_wp2_with fail
  refine (S2.out _).mono ?_
  rintro e w4 ⟨rfl, hb4⟩
  have z4 := hb4.size
  have K4 : Hid (Below w.heap.size w w4) := K3.out.trans (hb4.mono K3.out.size)
  obtain ⟨_, a0, a1, a2, a3, a4, a5, _, _, _, _, _, _⟩ := (A3.out.below hb4).alloc (.cells #[.int .i64 u0, .bool u1, .int .i64 u2, .int .i64 u3, .int .i64 u4, .int .i64 u5] 27)
  clear hb4 K3
  go_wp2_with fail
  refine (eqWord_same _ _ _ _ _ _ _).mono ?_
  rintro e w5 ⟨rfl, hb5⟩
  have K5 : Hid (Below w.heap.size w w5) := (K4.out.alloc K4.out.size _).trans (hb5.mono (by rw [World.size_alloc]; omega))
  clear hb5 K4
  go_wp2
  go_ret
  exact ⟨rfl, K5.out⟩

set_option maxRecDepth 100000 in
theorem lifted (os : Os) (started : os.Started) (H : Type) (enc : TypeId × Value → H) :
    ReturnsInHanded {} Try.checked os 6 .any (Rows.fnExactPointSpec.pre6 enc Try.prog Try.f6 Rows.fnExactPointRow.domain false) (Rows.fnExactPointSpec.post enc Try.prog Try.f6 false true false false) := by
  refine returnsInHanded_of_change (C := Try.checked) own started (by kernel_rfl) Try.func6
    (ChangeSpec.witness6 (enc := enc) (C := Try.checked) false ⟨#[], #[.agg #[.int .i64 0, .bool false, .int .i64 0, .int .i64 0, .int .i64 0, .int .i64 0], .int .i64 0], []⟩ 8 (by kernel_rfl) (by kernel_rfl) (by kernel_rfl) (by kernel_rfl)) ?_
  intro W base args ds gs before hval0 hW hcnd _
  have hval : ∀ (j : Nat) t v, Try.f6.params[j]? = some t → args[j]? = some v → Value.okWide Try.prog W .any base t v := hval0
  have hW' := hW
  obtain ⟨p, q, hA0, hV, rfl, hfz, hnd⟩ := hW
  have hA : DataW.TrodAll enc Try.prog W 0 (fun _ => true) true Try.f6.params.toList args.toList ds p := hA0
  rw [Try.params6] at hA hval
  obtain ⟨v0, v1, d0, d1, p0, p1, rfl, rfl, rfl, h0, h1⟩ := trodAll_two hA
  obtain ⟨rfl, rfl⟩ := trodVars_none hV
  obtain ⟨x0, x1, x2, x3, x4, x5, rfl, rfl, rfl, wx0, wx2, wx3, wx4, wx5⟩ := open_word (hval 0 39 v0 rfl rfl) h0
  obtain ⟨x6, rfl, rfl, rfl, wx6⟩ := open_int Try.underlying3 (hval 1 3 v1 rfl rfl) h1
  clear hA0 hval0
  simp only [List.append_nil] at hW'
  refine (walk x0 x1 x2 x3 x4 x5 x6 W).mono fun e W' ⟨he, bel⟩ => ?_
  subst he
  exact ⟨_, rfl, _, _, _, [], [], [], hW', trodAll_mk1 (shut_bool Try.underlying4 _), trodAll_mk2 (shut_word wx0 wx2 wx3 wx4 wx5) (shut_int Try.underlying3 wx6), rfl, bel.frame _, fun h => by cases h⟩

theorem proved : Rows.FnExactPointSaid :=
  OpenClaim.holds_of_wide 6 Try.f6 rfl rfl rfl rfl rfl rfl rfl ⟨rfl, rfl, rfl, rfl, rfl⟩ rfl rfl rfl rfl rfl (by kernel_rfl) Try.func6 (by kernel_rfl)
    (of_decide_eq_true (by kernel_rfl)) (by unfold Func.isWrapper; first | (rw [if_pos (by decide +kernel)]; kernel_rfl) | (rw [if_neg (by decide +kernel)]; exact ⟨rfl, rfl⟩))
    (fun os started H enc _ => lifted os started H enc)
end Go.Proofs.Ytabafekjacjpcaa.fnExactPoint

namespace Go.Proofs.Ytabafekjacjpcaa
/-- For every Word and int Point of the program answers as the specification's Point, every field, and the law returns true. No condition. -/
theorem fnExactPoint_holds : Rows.FnExactPointSaid := fnExactPoint.proved
#print axioms fnExactPoint_holds
end Go.Proofs.Ytabafekjacjpcaa
