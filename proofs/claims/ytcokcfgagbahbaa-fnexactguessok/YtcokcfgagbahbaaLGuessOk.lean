/- For every list of ints GuessOk of the program answers as the specification's GuessOk, leaves the list as it was, and the law returns true; lists of more than 2^20 elements the law passes by. -/
import Derived.Test.YtcokcfgagbahbaaRows
import Derived.Test.YtcokcfgagbahbaaGesH
import Derived.Test.YtcokcfgagbahbaaIntI
import Derived.Test.YtcokcfgagbahbaaIntH
import Derived.WalkKit
import Derived.ProofKit
import Derived.OpenShut
import Derived.Lib.SmallJoins
import Derived.ChangeOld
import Derived.Below
import Derived.Deep.Slices
import Derived.Deep.Strs
namespace Go.Proofs.Ytcokcfgagbahbaa.fnExactGuessOk
open Go.ChangeShapes Go.WideShapes Go.ChangeAt Go.RowKit Go.Joins Go.Deep

theorem own : ownKnob Try.prog.godebug = none := by kernel_rfl
theorem laidOut : laidOutB Try.prog = true := by kernel_rfl

set_option maxRecDepth 100000 in
set_option maxHeartbeats 20000000 in
theorem walk (ia0 : Option Addr) (im0 ic0 : Nat) (IL0 : List Int) (w : World)  (hS0 : SliceN w.heap.size w ia0 im0 IL0 ∧ ∀ x ∈ IL0, (Lit.int .i64 x).wf = true) :
    Calls Try.prog 4 #[.slice ia0 im0 ic0] w fun e w' => e = .returned (.bool true) ∧ Below w.heap.size w w' := by
  obtain ⟨hS, _⟩ := hS0
  have hml := hS.1
  have hIL := hid_mk hS.2.1
  unfold maxLen at hml
  by_cases hl : im0 ≤ 1048576
  · have s1 := fun a c w hS => specGuessOk_any a im0 c IL0 w hS
    have s2 := fun a c w hS => implGuessOk_any a im0 c IL0 w hS
    generalize gokB IL0 = z at s1 s2
    have S1 := hid_mk s1
    have S2 := hid_mk s2
    have H := hid_mk ((Hold.new w).push (sinF w.heap.size ia0 im0 IL0) ⟨hS, Nat.le_refl _⟩)
    have hzz : (z != z) = false := by cases z <;> rfl
    clear s1 s2 hS
    go_enter Try.func4, Try.ntmps4
    go_wp2_with fail
    refine (toIntS_own _ _ _ IL0 _ hl (H.out.sin (.head _))).mono ?_
    rintro e w1 ⟨q1, rfl, _, hQ, hb⟩
    replace H := hid_mk ((H.out.next hb).push (intF q1 im0 IL0) ⟨hQ, hIL.out⟩)
    clear hQ hb
    go_wp2_with fail
    refine (S1.out _ _ _ (H.out.isl (.head _) hl)).mono ?_
    rintro e w2 ⟨rfl, hb⟩
    replace H := hid_mk (H.out.next hb)
    clear hb
    go_wp2_with fail
    refine (toIntS_own _ _ _ IL0 _ hl (H.out.sin (.tail _ (.head _)))).mono ?_
    rintro e w3 ⟨q2, rfl, _, hQ, hb⟩
    replace H := hid_mk ((H.out.next hb).push (intF q2 im0 IL0) ⟨hQ, hIL.out⟩)
    clear hQ hb
    go_wp2_with fail
    refine (S2.out _ _ _ (H.out.isl (.head _) hl)).mono ?_
    rintro e w4 ⟨rfl, hb⟩
    replace H := hid_mk (H.out.next hb)
    clear hb
    go_wp2_with fail
    refine (toIntS_own _ _ _ IL0 _ hl (H.out.sin (.tail _ (.tail _ (.head _))))).mono ?_
    rintro e w5 ⟨q3, rfl, _, hQ, hb⟩
    replace H := hid_mk ((H.out.next hb).push (intF q3 im0 IL0) ⟨hQ, hIL.out⟩)
    clear hQ hb
    go_wp2_with fail
    refine (eqIntS_same _ _ _ _ _ IL0 _ (H.out.isl (.tail _ (.head _)) hl) (H.out.isl (.head _) hl)).mono ?_
    rintro e w6 ⟨rfl, hb⟩
    replace H := hid_mk (H.out.next hb)
    clear hb
    go_wp2
    go_ret
    exact ⟨rfl, H.out.bel⟩
  · have B := hid_mk (Below.refl w.heap.size w)
    clear hS
    go_enter Try.func4, Try.ntmps4
    go_wp2
    go_ret
    exact ⟨rfl, B.out⟩

set_option maxRecDepth 100000 in
theorem lifted (os : Os) (started : os.Started) (H : Type) (enc : TypeId × Value → H) :
    ReturnsInHanded {} Try.checked os 4 .any (Rows.fnExactGuessOkSpec.pre6 enc Try.prog Try.f4 Rows.fnExactGuessOkRow.domain false) (Rows.fnExactGuessOkSpec.post enc Try.prog Try.f4 false true false false) := by
  refine returnsInHanded_of_change (C := Try.checked) own started (by kernel_rfl) Try.func4
    (ChangeSpec.witness6 (enc := enc) (C := Try.checked) false ⟨#[], #[.slice none 0 0], []⟩ 8 (by kernel_rfl) (by kernel_rfl) (by kernel_rfl) (by kernel_rfl)) ?_
  intro W base args ds gs before hval0 hW hcnd _
  have hval : ∀ (j : Nat) t v, Try.f4.params[j]? = some t → args[j]? = some v → Value.okWide Try.prog W .any base t v := hval0
  have hW' := hW
  obtain ⟨p, q, hA0, hV, rfl, hfz, hnd⟩ := hW
  have hA : DataW.TrodAll enc Try.prog W 0 (fun _ => true) true Try.f4.params.toList args.toList ds p := hA0
  rw [Try.params4] at hA hval
  obtain ⟨v0, vs0, d0, ds0, p0, q0, hargs, rfl, rfl, h0, r0⟩ := trodAll_cons hA
  obtain ⟨rfl, rfl, rfl⟩ := trodAll_nil r0
  obtain rfl : args = #[v0] := by cases args; simp_all
  obtain ⟨rfl, rfl⟩ := trodVars_none hV
  have k0 := h0
  have lt0 : ∀ x ∈ p0, x.block < W.heap.size := by obtain ⟨m, hm⟩ := k0; exact DataW.trod_lt m _ _ _ hm
  obtain ⟨ia0, im0, ic0, rfl⟩ := okWide_slice Try.underlying24 (hval 0 24 v0 rfl rfl)
  obtain ⟨IL0, hS0⟩ : ∃ L, SliceN W.heap.size W ia0 im0 L ∧ ∀ x ∈ L, (Lit.int .i64 x).wf = true := by
    obtain ⟨fuel, hf⟩ := h0
    exact ints_wf (by simpa [Value.cells] using hf)
  clear hA0 hval0
  refine (walk ia0 im0 ic0 IL0 W  hS0).mono fun e W' ⟨he, bel⟩ => ?_
  subst he
  exact ⟨_, rfl, _, _, _, [], _, [], hW', trodAll_mk1 (shut_bool Try.underlying4 _), (trodAll_cons_mk (Below.trod laidOut (by kernel_rfl) (of_decide_eq_true (by kernel_rfl)) k0 bel lt0) trodAll_mk0), rfl, bel.frame _, fun h => by cases h⟩

theorem proved : Rows.FnExactGuessOkSaid :=
  OpenClaim.holds_of_wide 4 Try.f4 rfl rfl rfl rfl rfl rfl rfl ⟨rfl, rfl, rfl, rfl, rfl⟩ rfl rfl rfl rfl rfl (by kernel_rfl) Try.func4 (by kernel_rfl)
    (of_decide_eq_true (by kernel_rfl)) (by unfold Func.isWrapper; first | (rw [if_pos (by decide +kernel)]; kernel_rfl) | (rw [if_neg (by decide +kernel)]; exact ⟨rfl, rfl⟩))
    (fun os started H enc _ => lifted os started H enc)
end Go.Proofs.Ytcokcfgagbahbaa.fnExactGuessOk

namespace Go.Proofs.Ytcokcfgagbahbaa
/-- For every list of ints GuessOk of the program answers as the specification's GuessOk, leaves the list as it was, and the law returns true; lists of more than 2^20 elements the law passes by. -/
theorem fnExactGuessOk_holds : Rows.FnExactGuessOkSaid := fnExactGuessOk.proved
#print axioms fnExactGuessOk_holds
end Go.Proofs.Ytcokcfgagbahbaa
