/- GuessNew of the program answers as the specification's GuessNew, number for number, in memory of its own, behind another call too, and the law returns true. No condition. -/
import Derived.Test.YtcokcfgagbahbaaRows
import Derived.Test.YtcokcfgagbahbaaGesH
import Derived.Test.YtcokcfgagbahbaaIntH
import Derived.WalkKit
import Derived.ProofKit
import Derived.OpenShut
namespace Go.Proofs.Ytcokcfgagbahbaa.fnExactGuessNew
open Go.ChangeShapes Go.WideShapes Go.ChangeAt Go.RowKit
set_option linter.unusedVariables false      -- a walk need not use every 'w<i>' (that an integer argument fits its kind)

theorem own : ownKnob Try.prog.godebug = none := by kernel_rfl

/-! ### STEP 1: THE WALK: the Go text returns true. 'Grown w w'': the world has at most new blocks (Derived/RowKit3.lean). Part the cases AHEAD of 'go_enter' where a test parts the walk; take each callee by a contract of your own. -/
theorem walk  (w : World) :
    Calls Try.prog 5 #[] w fun e w' => e = .returned (.bool true) ∧ Below w.heap.size w w' := by
  obtain ⟨mg, hmg⟩ : ∃ mg : Int, mg = 1 + ((48 : Nat) : Int) := ⟨_, rfl⟩
  have hmg0 : 0 ≤ mg := by omega
  have hmgn : (mg != mg) = false := by simp
  have HMG := hid_mk hmg
  clear hmg
  have s1 := specGuessNew_any
  have s2 := implGuessNew_any
  obtain ⟨LL, hLL⟩ : ∃ LL, LL = List.replicate 48 (-1 : Int) := ⟨_, rfl⟩
  have hll : LL.length = 48 := by rw [hLL]; simp
  rw [← hLL] at s2
  simp only [← hLL] at s1
  have HLL := hid_mk hll
  have S1 := hid_mk s1
  have S2 := hid_mk s2
  clear s1 s2 hLL hll
  have H := hid_mk (Hold.new w)
  go_enter Try.func5, Try.ntmps5
  go_wp2_with fail
  refine (S1.out _).mono ?_
  rintro e w1 ⟨qw, cw, rfl, _, hQ, hb⟩
  have zw : qw < w1.heap.size := by have h : OutN w1 qw 48 48 LL ∧ LL.length = 48 := hQ; exact h.1.lt
  replace H := hid_mk ((H.out.next hb).push (intF qw 48 LL) hQ)
  clear hQ hb
  go_wp2_with fail
  refine (S2.out _).mono ?_
  rintro e w2 ⟨qg, rfl, zg, hR, hb⟩
  have zb := H.out.bel.size
  replace H := hid_mk ((H.out.next hb).push (intF qg 48 LL) ⟨hR.out, HLL.out⟩)
  have hne : Hid (qw ≠ qg ∧ w.heap.size ≤ qg) := ⟨by omega, by omega⟩
  clear hR hb zw zg zb
  go_wp2_with fail
  refine (eqIntS_same _ _ _ _ _ LL _ (H.out.isl (.head _) (by omega)) (H.out.isl (.tail _ (.head _)) (by omega))).mono ?_
  rintro e w3 ⟨rfl, hb⟩
  replace H := hid_mk (H.out.next hb)
  clear hb
  go_wp2_with fail
  refine (markN_own _ _ _ LL 1 (by omega) (by omega) _ (by omega) (H.out.at (.head _))).mono ?_
  rintro e w4 ⟨rfl, hM, hk⟩
  rw [← HMG.out]
  replace H := hid_mk (H.out.mark hk hM hne.out.2 (fun f hf hs => by
    simp only [List.mem_cons, List.not_mem_nil, or_false] at hf
    subst hf
    simp only [intF] at hs
    exact hne.out.1 hs.symm))
  clear hM hk
  go_wp2_with fail
  refine (heldN_own _ _ _ 1 (by omega) (by omega) _ (by omega) (H.out.at (.head _))).mono ?_
  rintro e w5 ⟨rfl, hb⟩
  rw [← HMG.out]
  replace H := hid_mk (H.out.next hb)
  clear hb
  go_wp2_with fail
  refine (S2.out _).mono ?_
  rintro e w6 ⟨qh, rfl, _, hR, hb⟩
  replace H := hid_mk ((H.out.next hb).push (intF qh 48 LL) ⟨hR.out, HLL.out⟩)
  clear hR hb
  go_wp2_with fail
  refine (eqIntS_same _ _ _ _ _ LL _ (H.out.isl (.head _) (by omega)) (H.out.isl (.tail _ (.tail _ (.head _))) (by omega))).mono ?_
  rintro e w7 ⟨rfl, hb⟩
  replace H := hid_mk (H.out.next hb)
  clear hb
  go_wp2_with fail
  refine (heldN_own _ _ _ 1 (by omega) (by omega) _ (by omega) (H.out.at (.tail _ (.head _)))).mono ?_
  rintro e w8 ⟨rfl, hb⟩
  rw [← HMG.out]
  replace H := hid_mk (H.out.next hb)
  clear hb
  go_wp2
  go_ret
  exact ⟨rfl, H.out.bel⟩

/-! ### THE ROW's STEP: WRITTEN OUT: LEAVE IT -/
set_option maxRecDepth 100000 in
theorem lifted (os : Os) (started : os.Started) (H : Type) (enc : TypeId × Value → H) :
    ReturnsInHanded {} Try.checked os 5 .any (Rows.fnExactGuessNewSpec.pre6 enc Try.prog Try.f5 Rows.fnExactGuessNewRow.domain false) (Rows.fnExactGuessNewSpec.post enc Try.prog Try.f5 false true false false) := by
  refine returnsInHanded_of_change (C := Try.checked) own started (by kernel_rfl) Try.func5
    (ChangeSpec.witness6 (enc := enc) (C := Try.checked) false ⟨#[], #[], []⟩ 8 (by kernel_rfl) (by kernel_rfl) (by kernel_rfl) (by kernel_rfl)) ?_
  intro W base args ds gs before hval0 hW hcnd _
  have hval : ∀ (j : Nat) t v, Try.f5.params[j]? = some t → args[j]? = some v → Value.okWide Try.prog W .any base t v := hval0
  have hW' := hW
  obtain ⟨p, q, hA0, hV, rfl, hfz, hnd⟩ := hW
  have hA : DataW.TrodAll enc Try.prog W 0 (fun _ => true) true Try.f5.params.toList args.toList ds p := hA0
  rw [Try.params5] at hA hval
  obtain ⟨rfl, rfl, rfl⟩ := trodAll_none hA
  obtain ⟨rfl, rfl⟩ := trodVars_none hV
  clear hA0 hval0
  simp only [List.append_nil] at hW'
  refine (walk  W).mono fun e W' ⟨he, hg⟩ => ?_
  subst he
  exact ⟨_, rfl, _, _, _, [], [], [], hW', trodAll_cons_mk (shut_bool Try.underlying4 _) trodAll_mk0, rfl, rfl, hg.frame _, fun h => by cases h⟩

theorem over : Rows.fnExactGuessNewRow.holds Try.pinned (OpenSpec.ofChange Rows.fnExactGuessNewSpec) :=
  OpenClaim.holds_of_wide 5 Try.f5 rfl rfl rfl rfl rfl rfl rfl ⟨rfl, rfl, rfl, rfl, rfl⟩ rfl rfl rfl rfl rfl (by kernel_rfl) Try.func5 (by kernel_rfl)
    (of_decide_eq_true (by kernel_rfl)) (by unfold Func.isWrapper; first | (rw [if_pos (by decide +kernel)]; kernel_rfl) | (rw [if_neg (by decide +kernel)]; exact ⟨rfl, rfl⟩))
    (fun os started H enc _ => lifted os started H enc)

/-- ████ THE STATEMENT ████ -/
theorem proved : Rows.FnExactGuessNewSaid :=
  over
end Go.Proofs.Ytcokcfgagbahbaa.fnExactGuessNew

namespace Go.Proofs.Ytcokcfgagbahbaa
/-- GuessNew of the program answers as the specification's GuessNew, number for number, in memory of its own, behind another call too, and the law returns true. No condition. -/
theorem fnExactGuessNew_holds : Rows.FnExactGuessNewSaid := fnExactGuessNew.proved
#print axioms fnExactGuessNew_holds
end Go.Proofs.Ytcokcfgagbahbaa
