/- For every list of Ins CodeText of the program answers as the specification's CodeText, leaves the list as it was, and the law returns true. No condition. The listed tables and errors hold what the texts lay (the card ties them). -/
import Derived.Test.YtdcghcbliajcpaaDoorCards
import Derived.Test.YtdcghcbliajcpaaDoorTie
import Derived.Test.YtdcghcbliajcpaaDoorSent7
import Derived.Test.YtdcghcbliajcpaaDoorTxtG
import Derived.Test.YtdcghcbliajcpaaDoorInsE
import Derived.WalkKit
import Derived.ProofKit
import Derived.OpenShut
import Derived.Lib.SmallJoins
import Derived.ChangeOld
import Derived.ChangeArms
import Derived.Below
import Derived.OpenVars
import Derived.LaidHandle
import Derived.Stop.Joined
import Derived.SevenTiedAt
import Derived.Deep.Slices
import Derived.Deep.Strs
namespace Go.Proofs.YtdcghcbliajcpaaDoor.fnExactCodeText
open Go.ChangeShapes Go.WideShapes Go.ChangeAt Go.RowKit Go.Joins Go.Deep
set_option linter.unusedVariables false

theorem own : ownKnob Tryd.prog.godebug = none := by kernel_rfl
theorem laidOut : laidOutB Tryd.prog = true := by kernel_rfl

set_option maxRecDepth 100000 in
set_option maxHeartbeats 20000000 in
theorem walk (a0 : Option Addr) (len0 cap0 : Nat) (L0 : List In) (w : World) (hS0 : SliceI w.heap.size w a0 len0 L0) (hL : Lay w) :
    Calls Tryd.prog 6 #[.slice a0 len0 cap0] w fun e w' => e = .returned (.bool true) ∧ Below w.heap.size w w' := by
  have S : Hid (SliceI w.heap.size w a0 len0 L0) := hS0
  have LY := hid_mk hL
  have hlen := hS0.1
  clear hS0 hL
  have sz := szInsS_any a0 len0 cap0
  by_cases hl : len0 ≤ 1048576
  · simp only [if_pos hl] at sz
    have SZ : Hid (∀ w : World, Calls Tryd.prog 26 #[.slice a0 len0 cap0, .int .i64 1048576] w fun e w' => e = .returned (.int .i64 (1048576 - (len0 : Int))) ∧ w' = w) := fun w => sz w hlen
    clear sz hlen
    go_enter Tryd.func6, Tryd.ntmps6
    go_wp2_with fail
    refine (SZ.out _).mono ?_
    rintro e w1 ⟨rfl, rfl⟩
    go_wp2_with fail
    refine (toInsS_any a0 len0 cap0 L0 _ hl S.out).mono ?_
    rintro e w2 ⟨q2, rfl, s2, hb2⟩
    have B2 : Hid (Below w1.heap.size w1 w2) := hb2
    have T2 : Hid (SliceI w2.heap.size w2 (some ⟨q2, 0, none⟩) len0 L0) := s2
    clear hb2 s2
    go_wp2_with fail
    refine (specCodeText_any _ len0 len0 L0 _ T2.out).mono ?_
    rintro e w3 ⟨rfl, hb3⟩
    have B3 : Hid (Below w1.heap.size w1 w3) := B2.out.trans (hb3.mono B2.out.size)
    clear hb3 B2 T2
    go_wp2_with fail
    refine (toInsS_any a0 len0 cap0 L0 _ hl ((S.out.keep B3.out).mono B3.out.size)).mono ?_
    rintro e w4 ⟨q4, rfl, s4, hb4⟩
    have B4 : Hid (Below w1.heap.size w1 w4) := B3.out.trans (hb4.mono B3.out.size)
    have T4 : Hid (SliceI w4.heap.size w4 (some ⟨q4, 0, none⟩) len0 L0) := s4
    clear hb4 B3 s4
    go_wp2_with fail
    refine (implCodeText_any _ len0 len0 L0 _ T4.out (LY.out.below B4.out)).mono ?_
    rintro e w6 ⟨rfl, hb6⟩
    have B6 : Hid (Below w1.heap.size w1 w6) := B4.out.trans (hb6.mono B4.out.size)
    have T6 : Hid (SliceI w6.heap.size w6 (some ⟨q4, 0, none⟩) len0 L0) := (T4.out.keep hb6).mono hb6.size
    clear hb6 B4 T4
    generalize bs (codeL L0) = y
    go_wp2_with fail
    refine (toInsS_any a0 len0 cap0 L0 _ hl ((S.out.keep B6.out).mono B6.out.size)).mono ?_
    rintro e w7 ⟨q7, rfl, s7, hb7⟩
    have B7 : Hid (Below w1.heap.size w1 w7) := B6.out.trans (hb7.mono B6.out.size)
    have T7 : Hid (SliceI w7.heap.size w7 (some ⟨q4, 0, none⟩) len0 L0) := (T6.out.keep hb7).mono hb7.size
    have R7 : Hid (SliceI w7.heap.size w7 (some ⟨q7, 0, none⟩) len0 L0) := s7
    clear hb7 B6 T6 s7
    go_wp2_with fail
    refine (eqInsS_same _ _ len0 len0 len0 L0 _ T7.out R7.out).mono ?_
    rintro e w8 ⟨rfl, hb8⟩
    have B8 : Hid (Below w1.heap.size w1 w8) := B7.out.trans (hb8.mono B7.out.size)
    clear hb8 B7 T7 R7
    go_wp2
    go_ret
    exact ⟨rfl, B8.out⟩
  · simp only [if_neg hl] at sz
    have SZ : Hid (∀ w : World, Calls Tryd.prog 26 #[.slice a0 len0 cap0, .int .i64 1048576] w fun e w' => e = .returned (.int .i64 (-1)) ∧ w' = w) := fun w => sz w hlen
    clear sz hlen
    go_enter Tryd.func6, Tryd.ntmps6
    go_wp2_with fail
    refine (SZ.out _).mono ?_
    rintro e w' ⟨rfl, rfl⟩
    go_wp2
    go_ret
    exact ⟨rfl, Below.refl _ _⟩

set_option maxRecDepth 100000 in
theorem lifted (os : Os) (started : os.Started) (H : Type) (enc : TypeId × Value → H) :
    ReturnsInHanded {} Tryd.checked os 6 .any (fun w args => (Rows.fnExactCodeTextSpec.pre enc Tryd.prog Tryd.f6 [] false w args ∧ laidMetH Tryd.prog Rows.fnExactCodeTextRow.laid w) ∧ sizedMet enc Tryd.prog Tryd.f6 (OpenSpec.ofChange Rows.fnExactCodeTextSpec) false w args) (Rows.fnExactCodeTextSpec.post enc Tryd.prog Tryd.f6 false true false false) := by
  have hp : ∀ w : World, laidMetH Tryd.prog Rows.fnExactCodeTextRow.laid w = laidMet Tryd.prog Rows.fnExactInsTextRow.laid w := fun w => MakeChecks.laidMetH_plain _ _ _ (by kernel_rfl)
  refine returnsInHanded_of_change_and (C := Tryd.checked) (X := fun w _ => laidMetH Tryd.prog Rows.fnExactCodeTextRow.laid w) (fun _ _ _ hh h => h.of_heap hh) own started (by kernel_rfl) Tryd.func6
    (ChangeSpec.witness_at (enc := enc) (C := Tryd.checked) (os := os) (X := fun w _ => laidMetH Tryd.prog Rows.fnExactCodeTextRow.laid w) false (laidWorld os) #[.slice none 0 0] 8 rfl (by kernel_rfl) (by kernel_rfl) (by kernel_rfl) (by kernel_rfl) (by kernel_rfl) (by rw [hp]; exact laidWorld_met4 os _)) ?_
  intro W base args ds gs before hval0 hW _ _ hL _
  have hval : ∀ (j : Nat) t v, Tryd.f6.params[j]? = some t → args[j]? = some v → Value.okWide Tryd.prog W .any base t v := hval0
  have hW' := hW
  obtain ⟨p, q, hA0, hV, rfl, hfz, hnd⟩ := hW
  have hA : DataW.TrodAll enc Tryd.prog W 0 (fun _ => true) true Tryd.f6.params.toList args.toList ds p := hA0
  rw [Tryd.params6] at hA hval
  rw [hp] at hL
  have hLay := lay_in hL
  obtain ⟨v0, vs0, d0, ds0, p0, q0, hargs, rfl, rfl, h0, r0⟩ := trodAll_cons hA
  obtain ⟨rfl, rfl, rfl⟩ := trodAll_nil r0
  obtain rfl : args = #[v0] := by cases args; simp_all
  have k0 := h0
  have lt0 : ∀ x ∈ p0, x.block < W.heap.size := by obtain ⟨m, hm⟩ := k0; exact DataW.trod_lt m _ _ _ hm
  obtain ⟨a0, len0, cap0, rfl⟩ := okWide_slice Tryd.underlying44 (hval 0 44 v0 rfl rfl)
  obtain ⟨L0, hS0⟩ : ∃ L, SliceI W.heap.size W a0 len0 L := by
    obtain ⟨fuel, hf⟩ := h0
    exact came_in (by simpa [Value.cells] using hf)
  clear hA0 hval0
  refine (walk a0 len0 cap0 L0 W hS0 hLay).mono fun e W' ⟨he, bel⟩ => ?_
  subst he
  have hq := Below.trodVars laidOut bel (show varsRowed Tryd.prog Rows.fnExactCodeTextSpec.vars = true by kernel_rfl) hV
  have hgs : ∃ g1, gs = [g1] := by
    have hV1 : DataW.TrodVars enc Tryd.prog W (fun _ => true) [_] gs q := hV
    match gs, hV1 with
    | [g1], _ => exact ⟨g1, rfl⟩
    | [], h => exact h.elim
    | _ :: _ :: _, ⟨_, _, _, _, _, _, _, _, _, _, h, _⟩ => exact h.elim
  obtain ⟨g1, rfl⟩ := hgs
  exact ⟨_, rfl, _, _, _, [], _, _, hW', trodAll_mk1 (shut_bool Tryd.underlying4 _), (trodAll_cons_mk (Below.trod laidOut (by kernel_rfl) (of_decide_eq_true (by kernel_rfl)) k0 bel lt0) trodAll_mk0), hq, bel.frame _, fun h => by cases h⟩

theorem said : Rows.FnExactCodeTextSaid :=
  OpenClaim.holds_of_wide 6 Tryd.f6 rfl rfl rfl rfl rfl rfl rfl ⟨rfl, rfl, rfl, rfl, rfl⟩ rfl rfl rfl rfl rfl (by kernel_rfl) Tryd.func6 (by kernel_rfl)
    (of_decide_eq_true (by kernel_rfl)) (by unfold Func.isWrapper; first | (rw [if_pos (by decide +kernel)]; kernel_rfl) | (rw [if_neg (by decide +kernel)]; exact ⟨rfl, rfl⟩))
    (fun os started H enc _ => lifted os started H enc)
theorem plain (f : FuncId) (fn : Func) (hf : Tryd.pinned.checked.prog.funcNamed Rows.fnExactCodeTextRow.func = some f) (hfn : Tryd.pinned.checked.prog.funcs[f]? = some fn) :
    true = Tryd.pinned.checked.prog.looks [] ∧ ∀ (j : Nat) t, fn.params[j]? = some t → Tryd.pinned.checked.prog.wantsStandIn t = false := by
  obtain rfl : f = 6 := Option.some.inj ((show Tryd.prog.funcNamed Rows.fnExactCodeTextRow.func = some 6 by kernel_rfl).symm.trans hf) |>.symm
  obtain rfl : fn = Tryd.f6 := (Option.some.inj (Tryd.func6.symm.trans hfn)).symm
  refine ⟨by kernel_rfl, fun j t ht => ?_⟩
  rw [Tryd.params6] at ht
  have hm := Array.mem_of_getElem? ht
  have hall : ∀ u ∈ Tryd.f6.params.toList, Tryd.prog.wantsStandIn u = false := by
    have h : (Tryd.f6.params.toList.all fun u => !Tryd.prog.wantsStandIn u) = true := by kernel_rfl
    intro u hu
    have := List.all_eq_true.1 h u hu
    simpa using this
  exact hall t (by rw [Tryd.params6]; simpa using hm)
theorem card : Rows.FnExactCodeTextCardSaid :=
  Claim7.holds_tied_plain_at .later [] _ _ _ _ said (fun _ h => by cases h) (by kernel_rfl) (fun _ h => by cases h) fnExactCodeText_row_tie rfl ⟨rfl, rfl⟩ (by kernel_rfl) rfl plain (by kernel_rfl)
end Go.Proofs.YtdcghcbliajcpaaDoor.fnExactCodeText

namespace Go.Proofs.YtdcghcbliajcpaaDoor
/-- For every list of Ins CodeText of the program answers as the specification's CodeText, leaves the list as it was, and the law returns true. No condition. The listed tables and errors hold what the texts lay. -/
theorem fnExactCodeText_holds : Rows.FnExactCodeTextCardSaid := fnExactCodeText.card
#print axioms fnExactCodeText_holds
end Go.Proofs.YtdcghcbliajcpaaDoor
