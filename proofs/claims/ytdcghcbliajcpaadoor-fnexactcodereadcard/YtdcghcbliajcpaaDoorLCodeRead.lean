/- For every text of at most 2^20 bytes CodeRead of the program answers as the specification's CodeRead, the places and whether they were read, in memory of its own, behind another call too, and the law returns true; a longer text the law passes by. The listed tables and errors hold what the texts lay (the card ties them). -/
import Derived.Test.YtdcghcbliajcpaaDoorCards
import Derived.Test.YtdcghcbliajcpaaDoorTie
import Derived.Test.YtdcghcbliajcpaaDoorSent7
import Derived.Test.YtdcghcbliajcpaaDoorTxtJ
import Derived.Test.YtdcghcbliajcpaaDoorTxtK
import Derived.WalkKit
import Derived.ProofKit
import Derived.OpenShut
import Derived.Lib.SmallJoins
import Derived.ChangeOld
import Derived.ChangeArms
import Derived.Below
import Derived.OpenVars
import Derived.LaidHandle
import Derived.Stop.Joined
import Derived.SevenTiedAt
import Derived.Deep.Slices
import Derived.Deep.Strs
namespace Go.Proofs.YtdcghcbliajcpaaDoor.fnExactCodeRead
open Go.ChangeShapes Go.WideShapes Go.ChangeAt Go.RowKit Go.Joins Go.Deep
set_option linter.unusedVariables false

theorem own : ownKnob Tryd.prog.godebug = none := by kernel_rfl
theorem laidOut : laidOutB Tryd.prog = true := by kernel_rfl

set_option maxRecDepth 100000 in
set_option maxHeartbeats 20000000 in
theorem walk (s0 : ByteArray) (w : World) (hs0 : s0.size ≤ maxLen) (ae : Addr) (hL : LayE ae w) :
    Calls Tryd.prog 7 #[.string s0] w fun e w' => e = .returned (.bool true) ∧ Below w.heap.size w w' := by
  obtain ⟨l, rfl⟩ : ∃ l, s0 = bs l := ⟨s0.data.toList, (bs_data s0).symm⟩
  have hbl := bs_size l
  unfold maxLen at hs0
  rw [hbl] at hs0
  have L := hid_mk hL
  clear hL
  by_cases hl : l.length ≤ 1048576
  · have s1 := specCodeRead_any l hl
    have s2 := implCodeRead_any l hl ae
    have hll : ((readC l).getD []).length ≤ 48 := by
      cases hr : readC l with
      | none => simp
      | some M => exact (cok_parts (readC_some hr).1).2.1
    simp only [SQ] at s1
    generalize (readC l).isSome = b at s1 s2
    generalize (readC l).getD [] = M at s1 s2 hll
    have S1 := hid_mk s1
    have S2 := hid_mk s2
    have hb : (b != b) = false := by simp
    have hli : ¬ 1048576 < (l.length : Int) := by omega
    clear s1 s2
    go_enter Tryd.func7, Tryd.ntmps7
    go_wp2_with fail
    refine (S1.out _).mono ?_
    rintro e w1 ⟨ad, cap, rfl, hs1, hb1⟩
    have B1 := hid_mk hb1
    have T1 := hid_mk hs1
    clear hb1 hs1
    go_wp2_with fail
    refine (S2.out _ (L.out.below B1.out)).mono ?_
    rintro e w2 ⟨v2, rfl, hA2, hb2⟩
    have B2 := hid_mk (B1.out.trans (hb2.mono B1.out.size))
    have T2 : Hid (SliceI w1.heap.size w2 ad M.length M) := T1.out.keep hb2
    have hz1 := B1.out.size
    have hz2 := hb2.size
    clear hb2 B1 T1
    have hMi : (M.length : Int) ≤ 48 := by omega
    obtain ⟨m, hm⟩ : ∃ m : Int, m = 1 + 5 * (M.length : Int) := ⟨_, rfl⟩
    have hm0 : 0 ≤ m := by omega
    have hmm : (m != m) = false := by simp
    rcases hA2 with ⟨rfl, rfl⟩ | ⟨q2, rfl, hq2, hO2⟩
    · have hm1 : m = 1 := by simpa using hm
      subst hm1
      clear hm
      have SN : Hid (∀ w : World, SliceI w.heap.size w none 0 []) := fun w => ⟨by unfold maxLen; omega, rfl, .inl rfl⟩
      have S0 : Hid (∀ w : World, SliceI w.heap.size w ad 0 []) := fun w => ⟨by unfold maxLen; omega, rfl, .inl rfl⟩
      simp only [List.length_nil]
      go_wp2_with fail
      refine (eqInsS_same _ _ 0 0 cap [] _ (SN.out _) (S0.out _)).mono ?_
      rintro e w3 ⟨rfl, hb3⟩
      have B3 := hid_mk (B2.out.trans (hb3.mono B2.out.size))
      clear hb3 B2
      go_wp2_with fail
      refine (mark_nil _).mono ?_
      rintro e w4 ⟨rfl, rfl⟩
      go_wp2_with fail
      refine (held_any none 0 0 _ (by omega) (SN.out _)).mono ?_
      rintro e w4 ⟨rfl, rfl⟩
      go_wp2_with fail
      refine (S2.out _ (L.out.below B3.out)).mono ?_
      rintro e w5 ⟨v5, rfl, hA5, hb5⟩
      have B5 := hid_mk (B3.out.trans (hb5.mono B3.out.size))
      obtain ⟨a5, c5, rfl⟩ : ∃ a5 c5, v5 = .slice a5 0 c5 := by
        rcases hA5 with ⟨rfl, _⟩ | ⟨q5, rfl, _, _⟩
        · exact ⟨_, _, rfl⟩
        · exact ⟨_, _, rfl⟩
      have S5 : Hid (∀ w : World, SliceI w.heap.size w a5 0 []) := fun w => ⟨by unfold maxLen; omega, rfl, .inl rfl⟩
      clear hb5 B3 hA5
      go_wp2_with fail
      refine (eqInsS_same _ _ 0 c5 cap [] _ (S5.out _) (S0.out _)).mono ?_
      rintro e w6 ⟨rfl, hb6⟩
      have B6 := hid_mk (B5.out.trans (hb6.mono B5.out.size))
      clear hb6 B5
      go_wp2_with fail
      refine (held_any none 0 0 _ (by omega) (SN.out _)).mono ?_
      rintro e w7 ⟨rfl, rfl⟩
      go_wp2
      go_ret
      exact ⟨rfl, B6.out⟩
    · have T3 : Hid (SliceI w2.heap.size w2 ad M.length M) := T2.out.mono hz2
      have R3 : Hid (SliceI w2.heap.size w2 (some ⟨q2, 0, none⟩) M.length M) := hO2.slice rfl (by unfold maxLen; omega)
      have O2 := hid_mk hO2
      clear hO2
      go_wp2_with fail
      refine (eqInsS_same _ _ M.length M.length cap M _ R3.out T3.out).mono ?_
      rintro e w3 ⟨rfl, hb3⟩
      have B3 := hid_mk (B2.out.trans (hb3.mono B2.out.size))
      have O3 : Hid (OutI w3 q2 M.length M.length M) := O2.out.below hb3
      have T4 : Hid (SliceI w1.heap.size w3 ad M.length M) := T2.out.keep (hb3.mono hz2)
      have hz3 := hb3.size
      clear hb3 B2 T2 T3 R3 O2
      go_wp2_with fail
      refine (mark_any q2 M.length M.length M _ (by omega) O3.out.first).mono ?_
      rintro e w4 ⟨rfl, hO4, hK4⟩
      have B4 : Hid (Below w.heap.size w w4) := B3.out.trans (hK4.below (Nat.le_trans hz1 hq2) B3.out.size)
      have T5 : Hid (SliceI w1.heap.size w4 ad M.length M) := T4.out.keep (hK4.below hq2 (by omega))
      have O4 := hid_mk hO4
      have hz4 := hK4.size
      clear hO4 hK4 B3 T4 O3
      rw [← hm]
      go_wp2_with fail
      refine (held_any _ M.length M.length _ (by omega) (O4.out.slice (marks_len _) (by unfold maxLen; omega))).mono ?_
      rintro e w5 ⟨rfl, rfl⟩
      rw [← hm]
      go_wp2_with fail
      refine (S2.out _ (L.out.below B4.out)).mono ?_
      rintro e w6 ⟨v6, rfl, hA6, hb6⟩
      have B6 := hid_mk (B4.out.trans (hb6.mono B4.out.size))
      have O6 : Hid (OutI w6 q2 M.length M.length (marks M.length)) := O4.out.below hb6
      have T6 : Hid (SliceI w6.heap.size w6 ad M.length M) := (T5.out.keep (hb6.mono (by omega))).mono (by have := hb6.size; omega)
      obtain ⟨a6, c6, rfl, h6⟩ : ∃ a6 c6, v6 = .slice a6 M.length c6 ∧ SliceI w6.heap.size w6 a6 M.length M := by
        rcases hA6 with ⟨rfl, h0⟩ | ⟨q6, rfl, _, hO⟩
        · subst h0
          exact ⟨_, _, rfl, by unfold maxLen; simp, rfl, .inl rfl⟩
        · exact ⟨_, _, rfl, hO.slice rfl (by unfold maxLen; omega)⟩
      have R6 := hid_mk h6
      clear hb6 B4 O4 T5 hA6 h6
      go_wp2_with fail
      refine (eqInsS_same _ _ M.length c6 cap M _ R6.out T6.out).mono ?_
      rintro e w7 ⟨rfl, hb7⟩
      have B7 := hid_mk (B6.out.trans (hb7.mono B6.out.size))
      have O7 : Hid (OutI w7 q2 M.length M.length (marks M.length)) := O6.out.below hb7
      clear hb7 B6 O6 R6 T6
      go_wp2_with fail
      refine (held_any _ M.length M.length _ (by omega) (O7.out.slice (marks_len _) (by unfold maxLen; omega))).mono ?_
      rintro e w8 ⟨rfl, rfl⟩
      rw [← hm]
      go_wp2
      go_ret
      exact ⟨rfl, B7.out⟩
  · have hli : 1048576 < (l.length : Int) := by omega
    go_enter Tryd.func7, Tryd.ntmps7
    go_wp2
    go_ret
    exact ⟨rfl, Below.refl _ _⟩

set_option maxRecDepth 100000 in
theorem lifted (os : Os) (started : os.Started) (H : Type) (enc : TypeId × Value → H) :
    ReturnsInHanded {} Tryd.checked os 7 .any (fun w args => (Rows.fnExactCodeReadSpec.pre enc Tryd.prog Tryd.f7 [] false w args ∧ laidMetH Tryd.prog Rows.fnExactCodeReadRow.laid w) ∧ sizedMet enc Tryd.prog Tryd.f7 (OpenSpec.ofChange Rows.fnExactCodeReadSpec) false w args) (Rows.fnExactCodeReadSpec.post enc Tryd.prog Tryd.f7 false true false false) := by
  have hp : ∀ w : World, laidMetH Tryd.prog Rows.fnExactCodeReadRow.laid w = laidMet Tryd.prog Rows.fnExactInsReadRow.laid w := fun w => MakeChecks.laidMetH_plain _ _ _ (by kernel_rfl)
  refine returnsInHanded_of_change_and (C := Tryd.checked) (X := fun w _ => laidMetH Tryd.prog Rows.fnExactCodeReadRow.laid w) (fun _ _ _ hh h => h.of_heap hh) own started (by kernel_rfl) Tryd.func7
    (ChangeSpec.witness_at (enc := enc) (C := Tryd.checked) (os := os) (X := fun w _ => laidMetH Tryd.prog Rows.fnExactCodeReadRow.laid w) false (laidWorld os) #[.string { data := #[] }] 8 rfl (by kernel_rfl) (by kernel_rfl) (by kernel_rfl) (by kernel_rfl) (by kernel_rfl) (by rw [hp]; exact laidWorld_met os _)) ?_
  intro W base args ds gs before hval0 hW _ _ hL _
  have hval : ∀ (j : Nat) t v, Tryd.f7.params[j]? = some t → args[j]? = some v → Value.okWide Tryd.prog W .any base t v := hval0
  have hW' := hW
  obtain ⟨p, q, hA0, hV, rfl, hfz, hnd⟩ := hW
  have hA : DataW.TrodAll enc Tryd.prog W 0 (fun _ => true) true Tryd.f7.params.toList args.toList ds p := hA0
  rw [Tryd.params7] at hA hval
  rw [hp] at hL
  obtain ⟨ae, hLay⟩ := layE_in hL
  obtain ⟨v0, vs0, d0, ds0, p0, q0, hargs, rfl, rfl, h0, r0⟩ := trodAll_cons hA
  obtain ⟨rfl, rfl, rfl⟩ := trodAll_nil r0
  obtain rfl : args = #[v0] := by cases args; simp_all
  have k0 := h0
  have lt0 : ∀ x ∈ p0, x.block < W.heap.size := by obtain ⟨m, hm⟩ := k0; exact DataW.trod_lt m _ _ _ hm
  obtain ⟨s0, rfl, hs0⟩ : ∃ s : ByteArray, v0 = .string s ∧ s.size ≤ maxLen := by
    obtain ⟨fuel, hf⟩ := h0
    obtain ⟨s, hc, _, hm⟩ := DataW.trod_string Tryd.underlying9 hf
    obtain ⟨s1, rfl⟩ := okWide_string Tryd.underlying9 (hval 0 9 v0 rfl rfl)
    have e : s1 = s := by simpa [Value.cells] using hc
    exact ⟨s, by rw [e], hm⟩
  clear hA0 hval0
  refine (walk s0 W hs0 ae hLay).mono fun e W' ⟨he, bel⟩ => ?_
  subst he
  have hq := Below.trodVars laidOut bel (show varsRowed Tryd.prog Rows.fnExactCodeReadSpec.vars = true by kernel_rfl) hV
  have hgs : ∃ g1 g2, gs = [g1, g2] := by
    have hV1 : DataW.TrodVars enc Tryd.prog W (fun _ => true) [_, _] gs q := hV
    match gs, hV1 with
    | [g1, g2], _ => exact ⟨g1, g2, rfl⟩
    | [], h => exact h.elim
    | [_], ⟨_, _, _, _, _, _, _, _, _, _, h, _⟩ => exact h.elim
    | _ :: _ :: _ :: _, ⟨_, _, _, _, _, _, _, _, _, _, ⟨_, _, _, _, _, _, _, _, _, _, h, _⟩, _⟩ => exact h.elim
  obtain ⟨g1, g2, rfl⟩ := hgs
  exact ⟨_, rfl, _, _, _, [], _, _, hW', trodAll_mk1 (shut_bool Tryd.underlying4 _), (trodAll_cons_mk (Below.trod laidOut (by kernel_rfl) (of_decide_eq_true (by kernel_rfl)) k0 bel lt0) trodAll_mk0), hq, bel.frame _, fun h => by cases h⟩

theorem said : Rows.FnExactCodeReadSaid :=
  OpenClaim.holds_of_wide 7 Tryd.f7 rfl rfl rfl rfl rfl rfl rfl ⟨rfl, rfl, rfl, rfl, rfl⟩ rfl rfl rfl rfl rfl (by kernel_rfl) Tryd.func7 (by kernel_rfl)
    (of_decide_eq_true (by kernel_rfl)) (by unfold Func.isWrapper; first | (rw [if_pos (by decide +kernel)]; kernel_rfl) | (rw [if_neg (by decide +kernel)]; exact ⟨rfl, rfl⟩))
    (fun os started H enc _ => lifted os started H enc)
theorem plain (f : FuncId) (fn : Func) (hf : Tryd.pinned.checked.prog.funcNamed Rows.fnExactCodeReadRow.func = some f) (hfn : Tryd.pinned.checked.prog.funcs[f]? = some fn) :
    true = Tryd.pinned.checked.prog.looks [] ∧ ∀ (j : Nat) t, fn.params[j]? = some t → Tryd.pinned.checked.prog.wantsStandIn t = false := by
  obtain rfl : f = 7 := Option.some.inj ((show Tryd.prog.funcNamed Rows.fnExactCodeReadRow.func = some 7 by kernel_rfl).symm.trans hf) |>.symm
  obtain rfl : fn = Tryd.f7 := (Option.some.inj (Tryd.func7.symm.trans hfn)).symm
  refine ⟨by kernel_rfl, fun j t ht => ?_⟩
  rw [Tryd.params7] at ht
  have hm := Array.mem_of_getElem? ht
  have hall : ∀ u ∈ Tryd.f7.params.toList, Tryd.prog.wantsStandIn u = false := by
    have h : (Tryd.f7.params.toList.all fun u => !Tryd.prog.wantsStandIn u) = true := by kernel_rfl
    intro u hu
    have := List.all_eq_true.1 h u hu
    simpa using this
  exact hall t (by rw [Tryd.params7]; simpa using hm)
theorem card : Rows.FnExactCodeReadCardSaid :=
  Claim7.holds_tied_plain_at .later [] _ _ _ _ said (fun _ h => by cases h) (by kernel_rfl) (fun _ h => by cases h) fnExactCodeRead_row_tie rfl ⟨rfl, rfl⟩ (by kernel_rfl) rfl plain (by kernel_rfl)
end Go.Proofs.YtdcghcbliajcpaaDoor.fnExactCodeRead

namespace Go.Proofs.YtdcghcbliajcpaaDoor
/-- For every text of at most 2^20 bytes CodeRead of the program answers as the specification's CodeRead, the places and whether they were read, in memory of its own, behind another call too, and the law returns true; a longer text the law passes by. The listed tables and errors hold what the texts lay. -/
theorem fnExactCodeRead_holds : Rows.FnExactCodeReadCardSaid := fnExactCodeRead.card
#print axioms fnExactCodeRead_holds
end Go.Proofs.YtdcghcbliajcpaaDoor
