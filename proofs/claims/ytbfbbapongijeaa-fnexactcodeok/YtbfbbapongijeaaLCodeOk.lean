/- For every list of Ins CodeOk of the program answers as the specification's CodeOk, leaves the list as it was, and the law returns true. No condition. -/
import Derived.Test.YtbfbbapongijeaaRows
import Derived.Test.YtbfbbapongijeaaInsE
import Derived.WalkKit
import Derived.ProofKit
import Derived.OpenShut
import Derived.Lib.SmallJoins
import Derived.ChangeOld
import Derived.Below
import Derived.Deep.Slices
import Derived.Deep.Strs
namespace Go.Proofs.Ytbfbbapongijeaa.fnExactCodeOk
open Go.ChangeShapes Go.WideShapes Go.ChangeAt Go.RowKit Go.Joins Go.Deep

theorem own : ownKnob Try.prog.godebug = none := by kernel_rfl
theorem laidOut : laidOutB Try.prog = true := by kernel_rfl

set_option maxRecDepth 100000 in
set_option maxHeartbeats 20000000 in
theorem walk (a0 : Option Addr) (len0 cap0 : Nat) (L0 : List In)  (w : World) (hS0 : SliceI w.heap.size w a0 len0 L0) :
    Calls Try.prog 7 #[.slice a0 len0 cap0] w fun e w' => e = .returned (.bool true) ∧ Below w.heap.size w w' := by
  have S : Hid (SliceI w.heap.size w a0 len0 L0) := hS0
  have hlen := hS0.1
  clear hS0
  have sz := szInsS_any a0 len0 cap0
  by_cases hl : len0 ≤ 1048576
  · obtain ⟨m, hm, hm0⟩ : ∃ m : Int, Hid (m = 1048576 - (len0 : Int)) ∧ 0 ≤ m := ⟨_, rfl, by omega⟩
    simp only [if_pos hl, ← hm.out] at sz
    have SZ : Hid (∀ w : World, Calls Try.prog 27 #[.slice a0 len0 cap0, .int .i64 1048576] w fun e w' => e = .returned (.int .i64 m) ∧ w' = w) := fun w => sz w hlen
    clear sz hlen
    go_enter Try.func7, Try.ntmps7
    go_wp2_with fail
    refine (SZ.out _).mono ?_
    rintro e w' ⟨rfl, hw'⟩
    subst w'
    clear SZ
    go_wp2_with fail
    refine (toInsS_any a0 len0 cap0 L0 _ hl S.out).mono ?_
    rintro e w2 ⟨q2, rfl, s2, hb2⟩
    have B2 : Hid (Below w.heap.size w w2) := hb2
    clear hb2
    go_wp2_with fail
    refine (specCodeOk_any _ len0 len0 L0 _ s2).mono ?_
    rintro e w3 ⟨rfl, hb3⟩
    have B3 : Hid (Below w.heap.size w w3) := B2.out.trans (hb3.mono B2.out.size)
    clear hb3 s2 B2
    go_wp2_with fail
    refine (toInsS_any a0 len0 cap0 L0 _ hl ((S.out.keep B3.out).mono B3.out.size)).mono ?_
    rintro e w4 ⟨q4, rfl, s4, hb4⟩
    have B4 : Hid (Below w.heap.size w w4) := B3.out.trans (hb4.mono B3.out.size)
    have T4 : Hid (SliceI w4.heap.size w4 (some ⟨q4, 0, none⟩) len0 L0) := s4
    clear hb4 s4 B3
    go_wp2_with fail
    refine (implCodeOk_any _ len0 len0 L0 _ T4.out).mono ?_
    rintro e w6 ⟨rfl, hb6⟩
    have B6 : Hid (Below w.heap.size w w6) := B4.out.trans (hb6.mono B4.out.size)
    have T6 : Hid (SliceI w6.heap.size w6 (some ⟨q4, 0, none⟩) len0 L0) := (T4.out.keep hb6).mono hb6.size
    clear hb6 B4 T4
    generalize cokB L0 = y
    have hy : (y != y) = false := by simp
    go_wp2_with fail
    refine (toInsS_any a0 len0 cap0 L0 _ hl ((S.out.keep B6.out).mono B6.out.size)).mono ?_
    rintro e w7 ⟨q7, rfl, s7, hb7⟩
    have B7 : Hid (Below w.heap.size w w7) := B6.out.trans (hb7.mono B6.out.size)
    have T7 : Hid (SliceI w7.heap.size w7 (some ⟨q4, 0, none⟩) len0 L0) := (T6.out.keep hb7).mono hb7.size
    have R7 : Hid (SliceI w7.heap.size w7 (some ⟨q7, 0, none⟩) len0 L0) := s7
    clear hb7 B6 T6 s7
    go_wp2_with fail
    refine (eqInsS_same _ _ len0 len0 len0 L0 _ T7.out R7.out).mono ?_
    rintro e w8 ⟨rfl, hb8⟩
    have B8 : Hid (Below w.heap.size w w8) := B7.out.trans (hb8.mono B7.out.size)
    clear hb8 B7 T7 R7
    go_wp2
    go_ret
    exact ⟨rfl, B8.out⟩
  · simp only [if_neg hl] at sz
    have SZ : Hid (∀ w : World, Calls Try.prog 27 #[.slice a0 len0 cap0, .int .i64 1048576] w fun e w' => e = .returned (.int .i64 (-1)) ∧ w' = w) := fun w => sz w hlen
    clear sz hlen
    go_enter Try.func7, Try.ntmps7
    go_wp2_with fail
    refine (SZ.out _).mono ?_
    rintro e w' ⟨rfl, rfl⟩
    go_wp2
    go_ret
    exact ⟨rfl, Below.refl _ _⟩

set_option maxRecDepth 100000 in
theorem lifted (os : Os) (started : os.Started) (H : Type) (enc : TypeId × Value → H) :
    ReturnsInHanded {} Try.checked os 7 .any (Rows.fnExactCodeOkSpec.pre6 enc Try.prog Try.f7 Rows.fnExactCodeOkRow.domain false) (Rows.fnExactCodeOkSpec.post enc Try.prog Try.f7 false true false false) := by
  refine returnsInHanded_of_change (C := Try.checked) own started (by kernel_rfl) Try.func7
    (ChangeSpec.witness6 (enc := enc) (C := Try.checked) false ⟨#[], #[.slice none 0 0], []⟩ 8 (by kernel_rfl) (by kernel_rfl) (by kernel_rfl) (by kernel_rfl)) ?_
  intro W base args ds gs before hval0 hW hcnd _
  have hval : ∀ (j : Nat) t v, Try.f7.params[j]? = some t → args[j]? = some v → Value.okWide Try.prog W .any base t v := hval0
  have hW' := hW
  obtain ⟨p, q, hA0, hV, rfl, hfz, hnd⟩ := hW
  have hA : DataW.TrodAll enc Try.prog W 0 (fun _ => true) true Try.f7.params.toList args.toList ds p := hA0
  rw [Try.params7] at hA hval
  obtain ⟨v0, vs0, d0, ds0, p0, q0, hargs, rfl, rfl, h0, r0⟩ := trodAll_cons hA
  obtain ⟨rfl, rfl, rfl⟩ := trodAll_nil r0
  obtain rfl : args = #[v0] := by cases args; simp_all
  obtain ⟨rfl, rfl⟩ := trodVars_none hV
  have k0 := h0
  have lt0 : ∀ x ∈ p0, x.block < W.heap.size := by obtain ⟨m, hm⟩ := k0; exact DataW.trod_lt m _ _ _ hm
  obtain ⟨a0, len0, cap0, rfl⟩ := okWide_slice Try.underlying42 (hval 0 42 v0 rfl rfl)
  obtain ⟨L0, hS0⟩ : ∃ L, SliceI W.heap.size W a0 len0 L := by
    obtain ⟨fuel, hf⟩ := h0
    exact came_in (by simpa [Value.cells] using hf)
  clear hA0 hval0
  refine (walk a0 len0 cap0 L0 W hS0).mono fun e W' ⟨he, bel⟩ => ?_
  subst he
  exact ⟨_, rfl, _, _, _, [], _, [], hW', trodAll_mk1 (shut_bool Try.underlying4 _), (trodAll_cons_mk (Below.trod laidOut (by kernel_rfl) (of_decide_eq_true (by kernel_rfl)) k0 bel lt0) trodAll_mk0), rfl, bel.frame _, fun h => by cases h⟩

theorem proved : Rows.FnExactCodeOkSaid :=
  OpenClaim.holds_of_wide 7 Try.f7 rfl rfl rfl rfl rfl rfl rfl ⟨rfl, rfl, rfl, rfl, rfl⟩ rfl rfl rfl rfl rfl (by kernel_rfl) Try.func7 (by kernel_rfl)
    (of_decide_eq_true (by kernel_rfl)) (by unfold Func.isWrapper; first | (rw [if_pos (by decide +kernel)]; kernel_rfl) | (rw [if_neg (by decide +kernel)]; exact ⟨rfl, rfl⟩))
    (fun os started H enc _ => lifted os started H enc)
end Go.Proofs.Ytbfbbapongijeaa.fnExactCodeOk

namespace Go.Proofs.Ytbfbbapongijeaa
/-- For every list of Ins CodeOk of the program answers as the specification's CodeOk, leaves the list as it was, and the law returns true. No condition. -/
theorem fnExactCodeOk_holds : Rows.FnExactCodeOkSaid := fnExactCodeOk.proved
#print axioms fnExactCodeOk_holds
end Go.Proofs.Ytbfbbapongijeaa
