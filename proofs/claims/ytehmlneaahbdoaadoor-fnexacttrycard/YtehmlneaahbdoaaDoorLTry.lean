/- For every Word and every two ints Try of the program answers as the specification's Try, and the law returns true. The four errors of the program hold what its text lays (the card ties them). -/
import Derived.Test.YtehmlneaahbdoaaDoorCards
import Derived.Test.YtehmlneaahbdoaaDoorTie
import Derived.Test.YtehmlneaahbdoaaDoorTryX
import Derived.Test.YtehmlneaahbdoaaDoorWordD
import Derived.WalkKit
import Derived.ProofKit
import Derived.OpenShut
import Derived.Lib.SmallJoins
import Derived.ChangeOld
import Derived.Below
import Derived.LaidHandle
import Derived.Stop.Joined
import Derived.SevenTiedAt
namespace Go.Proofs.YtehmlneaahbdoaaDoor.fnExactTry
open Go.ChangeShapes Go.WideShapes Go.ChangeAt Go.RowKit Go.Joins
set_option linter.unusedVariables false

theorem own : ownKnob Tryd.prog.godebug = none := by kernel_rfl
theorem laidOut : laidOutB Tryd.prog = true := by kernel_rfl

set_option maxHeartbeats 20000000 in
theorem walk (x0 : Int) (x1 : Bool) (x2 : Int) (x3 : Int) (x4 : Int) (x5 : Int) (x6 : Int) (x7 : Int) (a0 a1 a2 a3 : Addr) (w : World) (hE : Errs a0 a1 a2 a3 w) :
    Calls Tryd.prog 5 #[.agg #[.int .i64 x0, .bool x1, .int .i64 x2, .int .i64 x3, .int .i64 x4, .int .i64 x5], .int .i64 x6, .int .i64 x7] w fun e w' => e = .returned (.bool true) ∧ Below w.heap.size w w' := by
  have s1 := specTry_any x0 x1 x2 x3 x4 x5 x6 x7
  have s2 := implTry_any a0 a1 a2 a3 x0 x1 x2 x3 x4 x5 x6 x7
  generalize tryZ x0 x1 x2 x3 x4 x5 x6 x7 = x at s1 s2
  have S1 : Hid _ := s1
  have S2 : Hid _ := s2
  have E0 : Hid _ := hE.below ((Below.refl _ w).alloc (Nat.le_refl _) (.cells #[.int .i64 x0, .bool x1, .int .i64 x2, .int .i64 x3, .int .i64 x4, .int .i64 x5] 41))
  clear s1 s2 hE
  go_enter Tryd.func5, Tryd.ntmps5
  go_wp2_with fail
  refine (toWord_any _ _ _ _ _ _ _).mono ?_
  rintro e w1 ⟨rfl, hb1⟩
  have A1 : Hid (Six w1 w.heap.size x0 x1 x2 x3 x4 x5) := (Six.new w x0 x1 x2 x3 x4 x5 41).below hb1
  have E1 : Hid _ := E0.out.below hb1
  have K1 : Hid (Below w.heap.size w w1) := ((Below.refl _ w).alloc (Nat.le_refl _) _).trans (hb1.mono (by simp))
  clear hb1 E0
  go_wp2_with fail
  refine (S1.out _).mono ?_
  rintro e w2 ⟨rfl, hb2⟩
  obtain ⟨_, c0, c1, c2, c3, c4, c5, _, _, _, _, _, _⟩ := A1.out.below hb2
  have E2 : Hid _ := E1.out.below hb2
  have K2 : Hid (Below w.heap.size w w2) := K1.out.trans (hb2.mono K1.out.size)
  clear hb2 A1 K1 E1
  go_wp2_with fail
  refine (toWord_any _ _ _ _ _ _ _).mono ?_
  rintro e w3 ⟨rfl, hb3⟩
  have E3 : Hid _ := E2.out.below hb3
  have K3 : Hid (Below w.heap.size w w3) := K2.out.trans (hb3.mono K2.out.size)
  clear hb3 K2 E2 c0 c1 c2 c3 c4 c5
  go_wp2_with fail
  refine (S2.out _ E3.out).mono ?_
  rintro e w4 ⟨rfl, hb4⟩
  have K4 : Hid (Below w.heap.size w w4) := K3.out.trans (hb4.mono K3.out.size)
  clear hb4 K3
  go_wp2
  go_ret
  exact ⟨rfl, K4.out⟩

set_option maxRecDepth 100000 in
theorem lifted (os : Os) (started : os.Started) (H : Type) (enc : TypeId × Value → H) :
    ReturnsInHanded {} Tryd.checked os 5 .any (fun w args => (Rows.fnExactTrySpec.pre enc Tryd.prog Tryd.f5 [] false w args ∧ laidMetH Tryd.prog Rows.fnExactTryRow.laid w) ∧ sizedMet enc Tryd.prog Tryd.f5 (OpenSpec.ofChange Rows.fnExactTrySpec) false w args) (Rows.fnExactTrySpec.post enc Tryd.prog Tryd.f5 false true false false) := by
  have hp : ∀ w : World, laidMetH Tryd.prog Rows.fnExactTryRow.laid w = laidMet Tryd.prog Rows.fnTryRow.laid w := fun w => MakeChecks.laidMetH_plain _ _ _ (by kernel_rfl)
  refine returnsInHanded_of_change_and (C := Tryd.checked) (X := fun w _ => laidMetH Tryd.prog Rows.fnExactTryRow.laid w) (fun _ _ _ hh h => h.of_heap hh) own started (by kernel_rfl) Tryd.func5
    (ChangeSpec.witness_at (enc := enc) (C := Tryd.checked) (os := os) (X := fun w _ => laidMetH Tryd.prog Rows.fnExactTryRow.laid w) false (laidWorld os) #[.agg #[.int .i64 0, .bool false, .int .i64 0, .int .i64 0, .int .i64 0, .int .i64 0], .int .i64 0, .int .i64 0] 8 rfl (by kernel_rfl) (by kernel_rfl) (by kernel_rfl) (by kernel_rfl) (by kernel_rfl) (by rw [hp]; exact laidWorld_met os _)) ?_
  intro W base args ds gs before hval0 hW _ _ hL _
  have hval : ∀ (j : Nat) t v, Tryd.f5.params[j]? = some t → args[j]? = some v → Value.okWide Tryd.prog W .any base t v := hval0
  have hW' := hW
  obtain ⟨p, q, hA0, hV0, rfl, hfz, hnd⟩ := hW
  have hA : DataW.TrodAll enc Tryd.prog W 0 (fun _ => true) true Tryd.f5.params.toList args.toList ds p := hA0
  have hV : DataW.TrodVars enc Tryd.prog W (fun _ => true) Rows.fnTrySpec.vars gs q := hV0
  rw [Tryd.params5] at hA hval
  rw [hp] at hL
  obtain ⟨a0, a1, a2, a3, hE, hr⟩ := errs_in hL
  obtain ⟨rfl, rfl⟩ := hV.unique (hr H enc W _ (Below.refl _ _))
  obtain ⟨v0, v1, v2, d0, d1, d2, p0, p1, p2, rfl, rfl, rfl, h0, h1, h2⟩ := trodAll_three hA
  obtain ⟨x0, x1, x2, x3, x4, x5, rfl, rfl, rfl, wx0, wx2, wx3, wx4, wx5⟩ := open_word (hval 0 41 v0 rfl rfl) h0
  obtain ⟨x6, rfl, rfl, rfl, wx6⟩ := open_int Tryd.underlying3 (hval 1 3 v1 rfl rfl) h1
  obtain ⟨x7, rfl, rfl, rfl, wx7⟩ := open_int Tryd.underlying3 (hval 2 3 v2 rfl rfl) h2
  clear hA0 hval0 hV0
  refine (walk x0 x1 x2 x3 x4 x5 x6 x7 a0 a1 a2 a3 W hE).mono fun e W' ⟨he, bel⟩ => ?_
  subst he
  exact ⟨_, rfl, _, _, _, [], [], [.cell 0 0, .cell 1 0, .cell 2 0, .cell 3 0], hW', trodAll_mk1 (shut_bool Tryd.underlying4 _), trodAll_mk3 (shut_word wx0 wx2 wx3 wx4 wx5) (shut_int Tryd.underlying3 wx6) (shut_int Tryd.underlying3 wx7), hr H enc W' _ bel, bel.frame _, fun h => by cases h⟩

theorem said : Rows.FnExactTrySaid :=
  OpenClaim.holds_of_wide 5 Tryd.f5 rfl rfl rfl rfl rfl rfl rfl ⟨rfl, rfl, rfl, rfl, rfl⟩ rfl rfl rfl rfl rfl (by kernel_rfl) Tryd.func5 (by kernel_rfl)
    (of_decide_eq_true (by kernel_rfl)) (by unfold Func.isWrapper; first | (rw [if_pos (by decide +kernel)]; kernel_rfl) | (rw [if_neg (by decide +kernel)]; exact ⟨rfl, rfl⟩))
    (fun os started H enc _ => lifted os started H enc)
theorem plain (f : FuncId) (fn : Func) (hf : Tryd.pinned.checked.prog.funcNamed Rows.fnExactTryRow.func = some f) (hfn : Tryd.pinned.checked.prog.funcs[f]? = some fn) :
    true = Tryd.pinned.checked.prog.looks [] ∧ ∀ (j : Nat) t, fn.params[j]? = some t → Tryd.pinned.checked.prog.wantsStandIn t = false := by
  obtain rfl : f = 5 := Option.some.inj ((show Tryd.prog.funcNamed Rows.fnExactTryRow.func = some 5 by kernel_rfl).symm.trans hf) |>.symm
  obtain rfl : fn = Tryd.f5 := (Option.some.inj (Tryd.func5.symm.trans hfn)).symm
  refine ⟨by kernel_rfl, fun j t ht => ?_⟩
  rw [Tryd.params5] at ht
  have hm := Array.mem_of_getElem? ht
  have hall : ∀ u ∈ Tryd.f5.params.toList, Tryd.prog.wantsStandIn u = false := by
    have h : (Tryd.f5.params.toList.all fun u => !Tryd.prog.wantsStandIn u) = true := by kernel_rfl
    intro u hu
    have := List.all_eq_true.1 h u hu
    simpa using this
  exact hall t (by rw [Tryd.params5]; simpa using hm)
theorem card : Rows.FnExactTryCardSaid :=
  Claim7.holds_tied_plain_at .later [] _ _ _ _ said (fun _ h => by cases h) (by kernel_rfl) (fun _ h => by cases h) fnExactTry_row_tie rfl ⟨rfl, rfl⟩ (by kernel_rfl) rfl plain (by kernel_rfl)
end Go.Proofs.YtehmlneaahbdoaaDoor.fnExactTry

namespace Go.Proofs.YtehmlneaahbdoaaDoor
/-- For every Word and every two ints Try of the program answers as the specification's Try, and the law returns true. The four errors of the program hold what its text lays. -/
theorem fnExactTry_holds : Rows.FnExactTryCardSaid := fnExactTry.card
#print axioms fnExactTry_holds
end Go.Proofs.YtehmlneaahbdoaaDoor
