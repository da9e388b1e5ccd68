/- For every text of at most 2^20 bytes InsRead of the program answers as the specification's InsRead, the place and whether it was read, and the law returns true; a longer text the law passes by. The listed tables and errors hold what the texts lay (the card ties them). -/
import Derived.Test.YtdcghcbliajcpaaDoorCards
import Derived.Test.YtdcghcbliajcpaaDoorTie
import Derived.Test.YtdcghcbliajcpaaDoorSent7
import Derived.Test.YtdcghcbliajcpaaDoorTxtV
import Derived.Test.YtdcghcbliajcpaaDoorTxtY
import Derived.Test.YtdcghcbliajcpaaDoorInsD
import Derived.WalkKit
import Derived.ProofKit
import Derived.OpenShut
import Derived.Lib.SmallJoins
import Derived.ChangeOld
import Derived.ChangeArms
import Derived.Below
import Derived.OpenVars
import Derived.LaidHandle
import Derived.Stop.Joined
import Derived.SevenTiedAt
import Derived.Deep.Slices
import Derived.Deep.Strs
namespace Go.Proofs.YtdcghcbliajcpaaDoor.fnExactInsRead
open Go.ChangeShapes Go.WideShapes Go.ChangeAt Go.RowKit Go.Joins Go.Deep
set_option linter.unusedVariables false

theorem own : ownKnob Tryd.prog.godebug = none := by kernel_rfl
theorem laidOut : laidOutB Tryd.prog = true := by kernel_rfl

set_option maxRecDepth 100000 in
set_option maxHeartbeats 20000000 in
theorem walk (s0 : ByteArray) (w : World) (hs0 : s0.size ≤ maxLen) (ae : Addr) (hL : LayE ae w) :
    Calls Tryd.prog 5 #[.string s0] w fun e w' => e = .returned (.bool true) ∧ Below w.heap.size w w' := by
  obtain ⟨l, rfl⟩ : ∃ l, s0 = bs l := ⟨s0.data.toList, (bs_data s0).symm⟩
  have hbl := bs_size l
  unfold maxLen at hs0
  rw [hbl] at hs0
  have L := hid_mk hL
  clear hL
  by_cases hl : l.length ≤ 1048576
  · have s1 := specInsRead_any l hl
    have s2 := implInsRead_any l hl ae
    rw [rdX] at s2
    generalize (readL l).isSome = b at s1 s2
    generalize (readL l).getD ⟨0, 0, 0, 0, 0⟩ = x at s1 s2
    simp only [insV] at s1 s2
    have S1 := hid_mk s1
    have S2 := hid_mk s2
    have hb : (b != b) = false := by simp
    have hli : ¬ 1048576 < (l.length : Int) := by omega
    clear s1 s2
    go_enter Tryd.func5, Tryd.ntmps5
    go_wp2_with fail
    refine (S1.out _).mono ?_
    rintro e w1 ⟨rfl, hb1⟩
    have B1 := hid_mk (hb1.alloc (o := .cells #[.int .i64 x.o, .int .i64 x.r, .int .i64 x.a, .int .i64 x.b, .int .i64 x.n] 25) hb1.size)
    have F1 := hid_mk (Five.new w1 x.o x.r x.a x.b x.n 25)
    clear hb1
    go_upto_region 4 with fail
    generalize w1.heap.size = k1 at F1 ⊢
    generalize w1.alloc (.cells #[.int .i64 x.o, .int .i64 x.r, .int .i64 x.a, .int .i64 x.b, .int .i64 x.n] 25) = w2 at B1 F1 ⊢
    go_wp2_with fail
    refine (S2.out _ (L.out.below B1.out)).mono ?_
    rintro e w3 ⟨rfl, hb2⟩
    have B2 := hid_mk ((B1.out.trans (hb2.mono B1.out.size)).alloc (o := .cells #[.int .i64 x.o, .int .i64 x.r, .int .i64 x.a, .int .i64 x.b, .int .i64 x.n] 25) (Nat.le_trans B1.out.size hb2.size))
    have F2 := hid_mk ((F1.out.below hb2).alloc (.cells #[.int .i64 x.o, .int .i64 x.r, .int .i64 x.a, .int .i64 x.b, .int .i64 x.n] 25))
    have G2 := hid_mk (Five.new w3 x.o x.r x.a x.b x.n 25)
    clear hb2 B1 F1
    go_upto_region 5 with fail
    generalize w3.heap.size = k2 at G2 ⊢
    generalize w3.alloc (.cells #[.int .i64 x.o, .int .i64 x.r, .int .i64 x.a, .int .i64 x.b, .int .i64 x.n] 25) = w4 at B2 F2 G2 ⊢
    obtain ⟨_, c0, c1, c2, c3, c4, _⟩ := F2.out
    obtain ⟨_, d0, d1, d2, d3, d4, _⟩ := G2.out
    go_wp2_with fail
    refine (eqIns_same x.o x.r x.a x.b x.n _).mono ?_
    rintro e w5 ⟨rfl, hb3⟩
    have B3 := hid_mk (B2.out.trans (hb3.mono B2.out.size))
    clear hb3 B2 F2 G2 c0 c1 c2 c3 c4 d0 d1 d2 d3 d4
    go_wp2
    go_ret
    exact ⟨rfl, B3.out⟩
  · have hli : 1048576 < (l.length : Int) := by omega
    go_enter Tryd.func5, Tryd.ntmps5
    go_wp2
    go_ret
    exact ⟨rfl, Below.refl _ _⟩

set_option maxRecDepth 100000 in
theorem lifted (os : Os) (started : os.Started) (H : Type) (enc : TypeId × Value → H) :
    ReturnsInHanded {} Tryd.checked os 5 .any (fun w args => (Rows.fnExactInsReadSpec.pre enc Tryd.prog Tryd.f5 [] false w args ∧ laidMetH Tryd.prog Rows.fnExactInsReadRow.laid w) ∧ sizedMet enc Tryd.prog Tryd.f5 (OpenSpec.ofChange Rows.fnExactInsReadSpec) false w args) (Rows.fnExactInsReadSpec.post enc Tryd.prog Tryd.f5 false true false false) := by
  have hp : ∀ w : World, laidMetH Tryd.prog Rows.fnExactInsReadRow.laid w = laidMet Tryd.prog Rows.fnExactInsReadRow.laid w := fun w => MakeChecks.laidMetH_plain _ _ _ (by kernel_rfl)
  refine returnsInHanded_of_change_and (C := Tryd.checked) (X := fun w _ => laidMetH Tryd.prog Rows.fnExactInsReadRow.laid w) (fun _ _ _ hh h => h.of_heap hh) own started (by kernel_rfl) Tryd.func5
    (ChangeSpec.witness_at (enc := enc) (C := Tryd.checked) (os := os) (X := fun w _ => laidMetH Tryd.prog Rows.fnExactInsReadRow.laid w) false (laidWorld os) #[.string { data := #[] }] 8 rfl (by kernel_rfl) (by kernel_rfl) (by kernel_rfl) (by kernel_rfl) (by kernel_rfl) (by rw [hp]; exact laidWorld_met os _)) ?_
  intro W base args ds gs before hval0 hW _ _ hL _
  have hval : ∀ (j : Nat) t v, Tryd.f5.params[j]? = some t → args[j]? = some v → Value.okWide Tryd.prog W .any base t v := hval0
  have hW' := hW
  obtain ⟨p, q, hA0, hV, rfl, hfz, hnd⟩ := hW
  have hA : DataW.TrodAll enc Tryd.prog W 0 (fun _ => true) true Tryd.f5.params.toList args.toList ds p := hA0
  rw [Tryd.params5] at hA hval
  rw [hp] at hL
  obtain ⟨ae, hLay⟩ := layE_in hL
  obtain ⟨v0, vs0, d0, ds0, p0, q0, hargs, rfl, rfl, h0, r0⟩ := trodAll_cons hA
  obtain ⟨rfl, rfl, rfl⟩ := trodAll_nil r0
  obtain rfl : args = #[v0] := by cases args; simp_all
  have k0 := h0
  have lt0 : ∀ x ∈ p0, x.block < W.heap.size := by obtain ⟨m, hm⟩ := k0; exact DataW.trod_lt m _ _ _ hm
  obtain ⟨s0, rfl, hs0⟩ : ∃ s : ByteArray, v0 = .string s ∧ s.size ≤ maxLen := by
    obtain ⟨fuel, hf⟩ := h0
    obtain ⟨s, hc, _, hm⟩ := DataW.trod_string Tryd.underlying9 hf
    obtain ⟨s1, rfl⟩ := okWide_string Tryd.underlying9 (hval 0 9 v0 rfl rfl)
    have e : s1 = s := by simpa [Value.cells] using hc
    exact ⟨s, by rw [e], hm⟩
  clear hA0 hval0
  refine (walk s0 W hs0 ae hLay).mono fun e W' ⟨he, bel⟩ => ?_
  subst he
  have hq := Below.trodVars laidOut bel (show varsRowed Tryd.prog Rows.fnExactInsReadSpec.vars = true by kernel_rfl) hV
  have hgs : ∃ g1 g2, gs = [g1, g2] := by
    have hV1 : DataW.TrodVars enc Tryd.prog W (fun _ => true) [_, _] gs q := hV
    match gs, hV1 with
    | [g1, g2], _ => exact ⟨g1, g2, rfl⟩
    | [], h => exact h.elim
    | [_], ⟨_, _, _, _, _, _, _, _, _, _, h, _⟩ => exact h.elim
    | _ :: _ :: _ :: _, ⟨_, _, _, _, _, _, _, _, _, _, ⟨_, _, _, _, _, _, _, _, _, _, h, _⟩, _⟩ => exact h.elim
  obtain ⟨g1, g2, rfl⟩ := hgs
  exact ⟨_, rfl, _, _, _, [], _, _, hW', trodAll_mk1 (shut_bool Tryd.underlying4 _), (trodAll_cons_mk (Below.trod laidOut (by kernel_rfl) (of_decide_eq_true (by kernel_rfl)) k0 bel lt0) trodAll_mk0), hq, bel.frame _, fun h => by cases h⟩

theorem said : Rows.FnExactInsReadSaid :=
  OpenClaim.holds_of_wide 5 Tryd.f5 rfl rfl rfl rfl rfl rfl rfl ⟨rfl, rfl, rfl, rfl, rfl⟩ rfl rfl rfl rfl rfl (by kernel_rfl) Tryd.func5 (by kernel_rfl)
    (of_decide_eq_true (by kernel_rfl)) (by unfold Func.isWrapper; first | (rw [if_pos (by decide +kernel)]; kernel_rfl) | (rw [if_neg (by decide +kernel)]; exact ⟨rfl, rfl⟩))
    (fun os started H enc _ => lifted os started H enc)
theorem plain (f : FuncId) (fn : Func) (hf : Tryd.pinned.checked.prog.funcNamed Rows.fnExactInsReadRow.func = some f) (hfn : Tryd.pinned.checked.prog.funcs[f]? = some fn) :
    true = Tryd.pinned.checked.prog.looks [] ∧ ∀ (j : Nat) t, fn.params[j]? = some t → Tryd.pinned.checked.prog.wantsStandIn t = false := by
  obtain rfl : f = 5 := Option.some.inj ((show Tryd.prog.funcNamed Rows.fnExactInsReadRow.func = some 5 by kernel_rfl).symm.trans hf) |>.symm
  obtain rfl : fn = Tryd.f5 := (Option.some.inj (Tryd.func5.symm.trans hfn)).symm
  refine ⟨by kernel_rfl, fun j t ht => ?_⟩
  rw [Tryd.params5] at ht
  have hm := Array.mem_of_getElem? ht
  have hall : ∀ u ∈ Tryd.f5.params.toList, Tryd.prog.wantsStandIn u = false := by
    have h : (Tryd.f5.params.toList.all fun u => !Tryd.prog.wantsStandIn u) = true := by kernel_rfl
    intro u hu
    have := List.all_eq_true.1 h u hu
    simpa using this
  exact hall t (by rw [Tryd.params5]; simpa using hm)
theorem card : Rows.FnExactInsReadCardSaid :=
  Claim7.holds_tied_plain_at .later [] _ _ _ _ said (fun _ h => by cases h) (by kernel_rfl) (fun _ h => by cases h) fnExactInsRead_row_tie rfl ⟨rfl, rfl⟩ (by kernel_rfl) rfl plain (by kernel_rfl)
end Go.Proofs.YtdcghcbliajcpaaDoor.fnExactInsRead

namespace Go.Proofs.YtdcghcbliajcpaaDoor
/-- For every text of at most 2^20 bytes InsRead of the program answers as the specification's InsRead, the place and whether it was read, and the law returns true; a longer text the law passes by. The listed tables and errors hold what the texts lay. -/
theorem fnExactInsRead_holds : Rows.FnExactInsReadCardSaid := fnExactInsRead.card
#print axioms fnExactInsRead_holds
end Go.Proofs.YtdcghcbliajcpaaDoor
