/- For every Ins InsText of the program answers as the specification's InsText, and the law returns true. The listed tables and errors hold what the texts lay (the card ties them). -/
import Derived.Test.YtdcghcbliajcpaaDoorCards
import Derived.Test.YtdcghcbliajcpaaDoorTie
import Derived.Test.YtdcghcbliajcpaaDoorSent7
import Derived.Test.YtdcghcbliajcpaaDoorTxtU
import Derived.Test.YtdcghcbliajcpaaDoorTxtT
import Derived.Test.YtdcghcbliajcpaaDoorInsD
import Derived.WalkKit
import Derived.ProofKit
import Derived.OpenShut
import Derived.Lib.SmallJoins
import Derived.ChangeOld
import Derived.ChangeArms
import Derived.Below
import Derived.OpenVars
import Derived.LaidHandle
import Derived.Stop.Joined
import Derived.SevenTiedAt
import Derived.Deep.Slices
import Derived.Deep.Strs
namespace Go.Proofs.YtdcghcbliajcpaaDoor.fnExactInsText
open Go.ChangeShapes Go.WideShapes Go.ChangeAt Go.RowKit Go.Joins Go.Deep
set_option linter.unusedVariables false

theorem own : ownKnob Tryd.prog.godebug = none := by kernel_rfl
theorem laidOut : laidOutB Tryd.prog = true := by kernel_rfl

set_option maxRecDepth 100000 in
set_option maxHeartbeats 20000000 in
theorem walk (x0 x1 x2 x3 x4 : Int) (w : World)  (hL : Lay w) :
    Calls Tryd.prog 4 #[.agg #[.int .i64 x0, .int .i64 x1, .int .i64 x2, .int .i64 x3, .int .i64 x4]] w fun e w' => e = .returned (.bool true) ∧ Below w.heap.size w w' := by
  have s1 := specInsText_any x0 x1 x2 x3 x4
  have s2 := implInsText_any x0 x1 x2 x3 x4
  have L := hid_mk hL
  generalize inL ⟨x0, x1, x2, x3, x4⟩ = m at s1 s2
  have S1 := hid_mk s1
  have S2 := hid_mk s2
  clear s1 s2 hL
  go_enter Tryd.func4, Tryd.ntmps4
  go_wp2_with fail
  refine (toIns_any _ _ _ _ _ _).mono ?_
  rintro e w1 ⟨rfl, hb1⟩
  have P1 := hid_mk ((Pl.new w x0 x1 x2 x3 x4 39).next hb1)
  clear hb1
  go_wp2_with fail
  refine (S1.out _).mono ?_
  rintro e w2 ⟨rfl, hb2⟩
  have P2 := hid_mk (P1.out.next hb2)
  clear hb2 P1
  obtain ⟨_, c0, c1, c2, c3, c4, _, _, _, _, _⟩ := P2.out.five
  go_wp2_with fail
  refine (toIns_any _ _ _ _ _ _).mono ?_
  rintro e w3 ⟨rfl, hb3⟩
  have P3 := hid_mk (P2.out.next hb3)
  clear hb3 P2 c0 c1 c2 c3 c4
  go_wp2_with fail
  refine (S2.out _ (L.out.below P3.out.bel)).mono ?_
  rintro e w4 ⟨rfl, hb4⟩
  have P4 := hid_mk (P3.out.next hb4)
  clear hb4 P3
  go_wp2
  go_ret
  exact ⟨rfl, P4.out.bel⟩

set_option maxRecDepth 100000 in
theorem lifted (os : Os) (started : os.Started) (H : Type) (enc : TypeId × Value → H) :
    ReturnsInHanded {} Tryd.checked os 4 .any (fun w args => (Rows.fnExactInsTextSpec.pre enc Tryd.prog Tryd.f4 [] false w args ∧ laidMetH Tryd.prog Rows.fnExactInsTextRow.laid w) ∧ sizedMet enc Tryd.prog Tryd.f4 (OpenSpec.ofChange Rows.fnExactInsTextSpec) false w args) (Rows.fnExactInsTextSpec.post enc Tryd.prog Tryd.f4 false true false false) := by
  have hp : ∀ w : World, laidMetH Tryd.prog Rows.fnExactInsTextRow.laid w = laidMet Tryd.prog Rows.fnExactInsTextRow.laid w := fun w => MakeChecks.laidMetH_plain _ _ _ (by kernel_rfl)
  refine returnsInHanded_of_change_and (C := Tryd.checked) (X := fun w _ => laidMetH Tryd.prog Rows.fnExactInsTextRow.laid w) (fun _ _ _ hh h => h.of_heap hh) own started (by kernel_rfl) Tryd.func4
    (ChangeSpec.witness_at (enc := enc) (C := Tryd.checked) (os := os) (X := fun w _ => laidMetH Tryd.prog Rows.fnExactInsTextRow.laid w) false (laidWorld os) #[.agg #[.int .i64 0, .int .i64 0, .int .i64 0, .int .i64 0, .int .i64 0]] 8 rfl (by kernel_rfl) (by kernel_rfl) (by kernel_rfl) (by kernel_rfl) (by kernel_rfl) (by rw [hp]; exact laidWorld_met4 os _)) ?_
  intro W base args ds gs before hval0 hW _ _ hL _
  have hval : ∀ (j : Nat) t v, Tryd.f4.params[j]? = some t → args[j]? = some v → Value.okWide Tryd.prog W .any base t v := hval0
  have hW' := hW
  obtain ⟨p, q, hA0, hV, rfl, hfz, hnd⟩ := hW
  have hA : DataW.TrodAll enc Tryd.prog W 0 (fun _ => true) true Tryd.f4.params.toList args.toList ds p := hA0
  rw [Tryd.params4] at hA hval
  rw [hp] at hL
  have hLay := lay_in hL
  obtain ⟨v0, vs0, d0, ds0, p0, q0, hargs, rfl, rfl, h0, r0⟩ := trodAll_cons hA
  obtain ⟨rfl, rfl, rfl⟩ := trodAll_nil r0
  obtain rfl : args = #[v0] := by cases args; simp_all
  have k0 := h0
  have lt0 : ∀ x ∈ p0, x.block < W.heap.size := by obtain ⟨m, hm⟩ := k0; exact DataW.trod_lt m _ _ _ hm
  obtain ⟨x0, x1, x2, x3, x4, rfl⟩ := open_ins (hval 0 39 v0 rfl rfl) h0
  clear hA0 hval0
  refine (walk x0 x1 x2 x3 x4 W  hLay).mono fun e W' ⟨he, bel⟩ => ?_
  subst he
  have hq := Below.trodVars laidOut bel (show varsRowed Tryd.prog Rows.fnExactInsTextSpec.vars = true by kernel_rfl) hV
  have hgs : ∃ g1, gs = [g1] := by
    have hV1 : DataW.TrodVars enc Tryd.prog W (fun _ => true) [_] gs q := hV
    match gs, hV1 with
    | [g1], _ => exact ⟨g1, rfl⟩
    | [], h => exact h.elim
    | _ :: _ :: _, ⟨_, _, _, _, _, _, _, _, _, _, h, _⟩ => exact h.elim
  obtain ⟨g1, rfl⟩ := hgs
  exact ⟨_, rfl, _, _, _, [], _, _, hW', trodAll_mk1 (shut_bool Tryd.underlying4 _), (trodAll_cons_mk (Below.trod laidOut (by kernel_rfl) (of_decide_eq_true (by kernel_rfl)) k0 bel lt0) trodAll_mk0), hq, bel.frame _, fun h => by cases h⟩

theorem said : Rows.FnExactInsTextSaid :=
  OpenClaim.holds_of_wide 4 Tryd.f4 rfl rfl rfl rfl rfl rfl rfl ⟨rfl, rfl, rfl, rfl, rfl⟩ rfl rfl rfl rfl rfl (by kernel_rfl) Tryd.func4 (by kernel_rfl)
    (of_decide_eq_true (by kernel_rfl)) (by unfold Func.isWrapper; first | (rw [if_pos (by decide +kernel)]; kernel_rfl) | (rw [if_neg (by decide +kernel)]; exact ⟨rfl, rfl⟩))
    (fun os started H enc _ => lifted os started H enc)
theorem plain (f : FuncId) (fn : Func) (hf : Tryd.pinned.checked.prog.funcNamed Rows.fnExactInsTextRow.func = some f) (hfn : Tryd.pinned.checked.prog.funcs[f]? = some fn) :
    true = Tryd.pinned.checked.prog.looks [] ∧ ∀ (j : Nat) t, fn.params[j]? = some t → Tryd.pinned.checked.prog.wantsStandIn t = false := by
  obtain rfl : f = 4 := Option.some.inj ((show Tryd.prog.funcNamed Rows.fnExactInsTextRow.func = some 4 by kernel_rfl).symm.trans hf) |>.symm
  obtain rfl : fn = Tryd.f4 := (Option.some.inj (Tryd.func4.symm.trans hfn)).symm
  refine ⟨by kernel_rfl, fun j t ht => ?_⟩
  rw [Tryd.params4] at ht
  have hm := Array.mem_of_getElem? ht
  have hall : ∀ u ∈ Tryd.f4.params.toList, Tryd.prog.wantsStandIn u = false := by
    have h : (Tryd.f4.params.toList.all fun u => !Tryd.prog.wantsStandIn u) = true := by kernel_rfl
    intro u hu
    have := List.all_eq_true.1 h u hu
    simpa using this
  exact hall t (by rw [Tryd.params4]; simpa using hm)
theorem card : Rows.FnExactInsTextCardSaid :=
  Claim7.holds_tied_plain_at .later [] _ _ _ _ said (fun _ h => by cases h) (by kernel_rfl) (fun _ h => by cases h) fnExactInsText_row_tie rfl ⟨rfl, rfl⟩ (by kernel_rfl) rfl plain (by kernel_rfl)
end Go.Proofs.YtdcghcbliajcpaaDoor.fnExactInsText

namespace Go.Proofs.YtdcghcbliajcpaaDoor
/-- For every Ins InsText of the program answers as the specification's InsText, and the law returns true. The listed tables and errors hold what the texts lay. -/
theorem fnExactInsText_holds : Rows.FnExactInsTextCardSaid := fnExactInsText.card
#print axioms fnExactInsText_holds
end Go.Proofs.YtdcghcbliajcpaaDoor
