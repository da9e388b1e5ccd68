/- StateNew of the program answers as the specification's StateNew, every register, word and flag, in memory of its own, behind another call too, and the law returns true. No condition. -/
import Derived.Test.YtbcobadlgpmifaaRows
import Derived.Test.YtbcobadlgpmifaaStM
import Derived.Test.YtbcobadlgpmifaaStN
import Derived.WalkKit
import Derived.ProofKit
import Derived.OpenShut
namespace Go.Proofs.Ytbcobadlgpmifaa.fnExactStateNew
open Go.ChangeShapes Go.WideShapes Go.ChangeAt Go.RowKit
set_option linter.unusedVariables false      -- a walk need not use every 'w<i>' (that an integer argument fits its kind)

theorem own : ownKnob Try.prog.godebug = none := by kernel_rfl

/-! ### STEP 1: THE WALK: the Go text returns true. 'Grown w w'': the world has at most new blocks (Derived/RowKit3.lean). Part the cases AHEAD of 'go_enter' where a test parts the walk; take each callee by a contract of your own. -/
theorem walk  (w : World) :
    Calls Try.prog 4 #[] w fun e w' => e = .returned (.bool true) ∧ Below w.heap.size w w' := by
  obtain ⟨mg, hmg⟩ : ∃ mg : Int, mg = 1 + 6 * ((8 : Nat) : Int) + 6 * ((24 : Nat) : Int) + ((24 : Nat) : Int) := ⟨_, rfl⟩
  have hmg0 : 0 ≤ mg := by omega
  have hmgn : (mg != mg) = false := by simp
  have HMG := hid_mk hmg
  clear hmg
  have H := hid_mk (Hold.new w)
  go_enter Try.func4, Try.ntmps4
  go_wp2_with fail
  refine (specStateNew_any _).mono ?_
  rintro e w4 ⟨u0, u1, u2, rfl, Au, fu, bu⟩
  have QW0 := hid_mk (fun k hk => Au.lt (k := k) hk)
  replace H := hid_mk ((((H.out.next bu).push (ansSF (some ⟨u0, 0, none⟩) (some ⟨u1, 0, none⟩) (some ⟨u2, 0, none⟩) 8 24 24 newR (List.replicate 24 wd0) (List.replicate 24 false)) Au).alloc (.cells ([.slice (some ⟨u0, 0, none⟩) 8 8, .int .i64 0, .bool true, .int .i64 0, .int .i64 48, .int .i64 4, .int .i64 0, .slice (some ⟨u1, 0, none⟩) 24 24, .slice (some ⟨u2, 0, none⟩) 24 24, .int .i64 0] : List Value).toArray 41)).push (celF w4.heap.size [.slice (some ⟨u0, 0, none⟩) 8 8, .int .i64 0, .bool true, .int .i64 0, .int .i64 48, .int .i64 4, .int .i64 0, .slice (some ⟨u1, 0, none⟩) 24 24, .slice (some ⟨u2, 0, none⟩) 24 24, .int .i64 0]) (Cel.new w4 [.slice (some ⟨u0, 0, none⟩) 8 8, .int .i64 0, .bool true, .int .i64 0, .int .i64 48, .int .i64 4, .int .i64 0, .slice (some ⟨u1, 0, none⟩) 24 24, .slice (some ⟨u2, 0, none⟩) 24 24, .int .i64 0] 41))
  clear Au bu
  go_upto_region 2 with fail
  generalize w4.alloc (.cells ([.slice (some ⟨u0, 0, none⟩) 8 8, .int .i64 0, .bool true, .int .i64 0, .int .i64 48, .int .i64 4, .int .i64 0, .slice (some ⟨u1, 0, none⟩) 24 24, .slice (some ⟨u2, 0, none⟩) 24 24, .int .i64 0] : List Value).toArray 41) = w5 at H ⊢
  obtain ⟨rw_, hrw⟩ : ∃ r, r = w4.heap.size := ⟨_, rfl⟩
  rw [← hrw] at H QW0 ⊢
  clear hrw
  have QW : Hid (∀ k, On (some ⟨u0, 0, none⟩) k ∨ On (some ⟨u1, 0, none⟩) k ∨ On (some ⟨u2, 0, none⟩) k → k < rw_) := QW0.out
  clear QW0 fu
  go_wp2_with fail
  refine (implStateNew_any _).mono ?_
  rintro e w8 ⟨g0, g1, g2, rfl, Ag, fg, bg⟩
  have hz1 : rw_ < w5.heap.size := (H.out.cel (.head _)).lt
  have hz9 : w.heap.size ≤ w5.heap.size := H.out.bel.size
  have QG0 := hid_mk (fun k hk => And.intro (Nat.lt_of_lt_of_le hz1 (fg k hk)) (And.intro (Nat.le_trans hz9 (fg k hk)) (Ag.lt (k := k) hk)))
  have hz4 : rw_ < w8.heap.size := Nat.lt_of_lt_of_le hz1 bg.size
  replace H := hid_mk ((((H.out.next bg).push (ansSF (some ⟨g0, 0, none⟩) (some ⟨g1, 0, none⟩) (some ⟨g2, 0, none⟩) 8 24 24 newR (List.replicate 24 wd0) (List.replicate 24 false)) Ag).alloc (.cells ([.slice (some ⟨g0, 0, none⟩) 8 8, .int .i64 0, .bool true, .int .i64 0, .int .i64 48, .int .i64 4, .int .i64 0, .slice (some ⟨g1, 0, none⟩) 24 24, .slice (some ⟨g2, 0, none⟩) 24 24, .int .i64 0] : List Value).toArray 41)).push (celF w8.heap.size [.slice (some ⟨g0, 0, none⟩) 8 8, .int .i64 0, .bool true, .int .i64 0, .int .i64 48, .int .i64 4, .int .i64 0, .slice (some ⟨g1, 0, none⟩) 24 24, .slice (some ⟨g2, 0, none⟩) 24 24, .int .i64 0]) (Cel.new w8 [.slice (some ⟨g0, 0, none⟩) 8 8, .int .i64 0, .bool true, .int .i64 0, .int .i64 48, .int .i64 4, .int .i64 0, .slice (some ⟨g1, 0, none⟩) 24 24, .slice (some ⟨g2, 0, none⟩) 24 24, .int .i64 0] 41))
  clear Ag bg
  go_upto_region 3 with fail
  generalize w8.alloc (.cells ([.slice (some ⟨g0, 0, none⟩) 8 8, .int .i64 0, .bool true, .int .i64 0, .int .i64 48, .int .i64 4, .int .i64 0, .slice (some ⟨g1, 0, none⟩) 24 24, .slice (some ⟨g2, 0, none⟩) 24 24, .int .i64 0] : List Value).toArray 41) = w9 at H ⊢
  obtain ⟨rg, hrg⟩ : ∃ r, r = w8.heap.size := ⟨_, rfl⟩
  rw [← hrg] at H QG0 hz4 ⊢
  clear hrg hz1 hz9
  have QG : Hid (∀ k, On (some ⟨g0, 0, none⟩) k ∨ On (some ⟨g1, 0, none⟩) k ∨ On (some ⟨g2, 0, none⟩) k → rw_ < k ∧ w.heap.size ≤ k ∧ k < rg) := QG0.out
  clear QG0 fg
  obtain ⟨m0, m1, m2, m3, m4, m5, m6, m7, m8, m9⟩ := (H.out.cel (.head _)).c10
  obtain ⟨o0, o1, o2, o3, o4, o5, o6, o7, o8, o9⟩ := (H.out.cel (.tail _ (.tail _ (.head _)))).c10
  go_wp2_with fail
  refine (eqState_same _ _ _ _ _ ⟨0, true, 0, 48, 4, 0⟩ _ _ _ _ _ _ _ _ _ _ _ newR (List.replicate 24 wd0) (List.replicate 24 false) _ ((H.out.ansS (.tail _ (.head _))).sts (by omega) (by omega) (by omega)) ((H.out.ansS (.tail _ (.tail _ (.tail _ (.head _))))).sts (by omega) (by omega) (by omega))).mono ?_
  rintro e w14 ⟨rfl, hb14⟩
  replace H := hid_mk (H.out.next hb14)
  clear hb14 m0 m1 m2 m3 m4 m5 m6 m7 m8 m9 o0 o1 o2 o3 o4 o5 o6 o7 o8 o9
  obtain ⟨m0, m1, m2, m3, m4, m5, m6, m7, m8, m9⟩ := (H.out.cel (.head _)).c10
  go_wp2_with fail
  refine (markState_at _ _ _ ⟨0, true, 0, 48, 4, 0⟩ _ _ _ _ _ _ _ newR (List.replicate 24 wd0) (List.replicate 24 false) 1 (by decide) (by decide) (by omega) (by omega) (by omega) _ (H.out.ansS (.tail _ (.head _)))).mono ?_
  rintro e w17 ⟨rfl, AM, hK17⟩
  rw [← HMG.out]
  replace H := hid_mk (((H.out.sub (gs := [celF rg [.slice (some ⟨g0, 0, none⟩) 8 8, .int .i64 0, .bool true, .int .i64 0, .int .i64 48, .int .i64 4, .int .i64 0, .slice (some ⟨g1, 0, none⟩) 24 24, .slice (some ⟨g2, 0, none⟩) 24 24, .int .i64 0], celF rw_ [.slice (some ⟨u0, 0, none⟩) 8 8, .int .i64 0, .bool true, .int .i64 0, .int .i64 48, .int .i64 4, .int .i64 0, .slice (some ⟨u1, 0, none⟩) 24 24, .slice (some ⟨u2, 0, none⟩) 24 24, .int .i64 0], ansSF (some ⟨u0, 0, none⟩) (some ⟨u1, 0, none⟩) (some ⟨u2, 0, none⟩) 8 24 24 newR (List.replicate 24 wd0) (List.replicate 24 false)]) (fun f hf => by
    simp only [List.mem_cons, List.not_mem_nil, or_false] at hf ⊢
    rcases hf with rfl | rfl | rfl
    · exact .inl rfl
    · exact .inr (.inr (.inl rfl))
    · exact .inr (.inr (.inr rfl)))).wrote hK17 (fun k hk => by have := QG.out k hk; omega) (fun f hf k hk ht => by
    have hx := QG.out k ht
    simp only [List.mem_cons, List.not_mem_nil, or_false] at hf
    rcases hf with rfl | rfl | rfl
    · simp only [celF] at hk; omega
    · simp only [celF] at hk; omega
    · have := QW.out k hk; omega)).push (ansSF (some ⟨g0, 0, none⟩) (some ⟨g1, 0, none⟩) (some ⟨g2, 0, none⟩) 8 24 24 (marksW 1 8) (marksW (1 + 6 * ((8 : Nat) : Int)) 24) (marksB (1 + 6 * ((8 : Nat) : Int) + 6 * ((24 : Nat) : Int)) 24)) AM)
  clear hK17 m0 m1 m2 m3 m4 m5 m6 m7 m8 m9 AM
  obtain ⟨m0, m1, m2, m3, m4, m5, m6, m7, m8, m9⟩ := (H.out.cel (.tail _ (.head _))).c10
  go_wp2_with fail
  refine (heldState_at _ _ _ ⟨0, true, 0, 48, 4, 0⟩ _ _ _ _ _ _ _ 1 (by decide) (by decide) (by omega) (by omega) (by omega) _ ((H.out.ansS (.head _)).sts (by omega) (by omega) (by omega))).mono ?_
  rintro e w19 ⟨rfl, hb19⟩
  rw [← HMG.out]
  replace H := hid_mk (H.out.next hb19)
  clear hb19 m0 m1 m2 m3 m4 m5 m6 m7 m8 m9
  go_wp2_with fail
  refine (implStateNew_any _).mono ?_
  rintro e w24 ⟨h0, h1, h2, rfl, Ah, fh, bh⟩
  replace H := hid_mk ((((H.out.next bh).push (ansSF (some ⟨h0, 0, none⟩) (some ⟨h1, 0, none⟩) (some ⟨h2, 0, none⟩) 8 24 24 newR (List.replicate 24 wd0) (List.replicate 24 false)) Ah).alloc (.cells ([.slice (some ⟨h0, 0, none⟩) 8 8, .int .i64 0, .bool true, .int .i64 0, .int .i64 48, .int .i64 4, .int .i64 0, .slice (some ⟨h1, 0, none⟩) 24 24, .slice (some ⟨h2, 0, none⟩) 24 24, .int .i64 0] : List Value).toArray 41)).push (celF w24.heap.size [.slice (some ⟨h0, 0, none⟩) 8 8, .int .i64 0, .bool true, .int .i64 0, .int .i64 48, .int .i64 4, .int .i64 0, .slice (some ⟨h1, 0, none⟩) 24 24, .slice (some ⟨h2, 0, none⟩) 24 24, .int .i64 0]) (Cel.new w24 [.slice (some ⟨h0, 0, none⟩) 8 8, .int .i64 0, .bool true, .int .i64 0, .int .i64 48, .int .i64 4, .int .i64 0, .slice (some ⟨h1, 0, none⟩) 24 24, .slice (some ⟨h2, 0, none⟩) 24 24, .int .i64 0] 41))
  clear Ah bh
  go_upto_region 14 with fail
  generalize w24.alloc (.cells ([.slice (some ⟨h0, 0, none⟩) 8 8, .int .i64 0, .bool true, .int .i64 0, .int .i64 48, .int .i64 4, .int .i64 0, .slice (some ⟨h1, 0, none⟩) 24 24, .slice (some ⟨h2, 0, none⟩) 24 24, .int .i64 0] : List Value).toArray 41) = w25 at H ⊢
  generalize w24.heap.size = rh at H ⊢
  clear fh
  obtain ⟨m0, m1, m2, m3, m4, m5, m6, m7, m8, m9⟩ := (H.out.cel (.head _)).c10
  obtain ⟨o0, o1, o2, o3, o4, o5, o6, o7, o8, o9⟩ := (H.out.cel (.tail _ (.tail _ (.tail _ (.tail _ (.head _)))))).c10
  go_wp2_with fail
  refine (eqState_same _ _ _ _ _ ⟨0, true, 0, 48, 4, 0⟩ _ _ _ _ _ _ _ _ _ _ _ newR (List.replicate 24 wd0) (List.replicate 24 false) _ ((H.out.ansS (.tail _ (.head _))).sts (by omega) (by omega) (by omega)) ((H.out.ansS (.tail _ (.tail _ (.tail _ (.tail _ (.tail _ (.head _))))))).sts (by omega) (by omega) (by omega))).mono ?_
  rintro e w26 ⟨rfl, hb26⟩
  replace H := hid_mk (H.out.next hb26)
  clear hb26 m0 m1 m2 m3 m4 m5 m6 m7 m8 m9 o0 o1 o2 o3 o4 o5 o6 o7 o8 o9
  obtain ⟨m0, m1, m2, m3, m4, m5, m6, m7, m8, m9⟩ := (H.out.cel (.tail _ (.tail _ (.tail _ (.head _))))).c10
  go_wp2_with fail
  refine (heldState_at _ _ _ ⟨0, true, 0, 48, 4, 0⟩ _ _ _ _ _ _ _ 1 (by decide) (by decide) (by omega) (by omega) (by omega) _ ((H.out.ansS (.tail _ (.tail _ (.head _)))).sts (by omega) (by omega) (by omega))).mono ?_
  rintro e w28 ⟨rfl, hb28⟩
  rw [← HMG.out]
  replace H := hid_mk (H.out.next hb28)
  clear hb28 m0 m1 m2 m3 m4 m5 m6 m7 m8 m9
  go_wp2
  go_ret
  exact ⟨rfl, H.out.bel⟩

/-! ### THE ROW's STEP: WRITTEN OUT: LEAVE IT -/
set_option maxRecDepth 100000 in
theorem lifted (os : Os) (started : os.Started) (H : Type) (enc : TypeId × Value → H) :
    ReturnsInHanded {} Try.checked os 4 .any (Rows.fnExactStateNewSpec.pre6 enc Try.prog Try.f4 Rows.fnExactStateNewRow.domain false) (Rows.fnExactStateNewSpec.post enc Try.prog Try.f4 false true false false) := by
  refine returnsInHanded_of_change (C := Try.checked) own started (by kernel_rfl) Try.func4
    (ChangeSpec.witness6 (enc := enc) (C := Try.checked) false ⟨#[], #[], []⟩ 8 (by kernel_rfl) (by kernel_rfl) (by kernel_rfl) (by kernel_rfl)) ?_
  intro W base args ds gs before hval0 hW hcnd _
  have hval : ∀ (j : Nat) t v, Try.f4.params[j]? = some t → args[j]? = some v → Value.okWide Try.prog W .any base t v := hval0
  have hW' := hW
  obtain ⟨p, q, hA0, hV, rfl, hfz, hnd⟩ := hW
  have hA : DataW.TrodAll enc Try.prog W 0 (fun _ => true) true Try.f4.params.toList args.toList ds p := hA0
  rw [Try.params4] at hA hval
  obtain ⟨rfl, rfl, rfl⟩ := trodAll_none hA
  obtain ⟨rfl, rfl⟩ := trodVars_none hV
  clear hA0 hval0
  simp only [List.append_nil] at hW'
  refine (walk  W).mono fun e W' ⟨he, hg⟩ => ?_
  subst he
  exact ⟨_, rfl, _, _, _, [], [], [], hW', trodAll_cons_mk (shut_bool Try.underlying4 _) trodAll_mk0, rfl, rfl, hg.frame _, fun h => by cases h⟩

theorem over : Rows.fnExactStateNewRow.holds Try.pinned (OpenSpec.ofChange Rows.fnExactStateNewSpec) :=
  OpenClaim.holds_of_wide 4 Try.f4 rfl rfl rfl rfl rfl rfl rfl ⟨rfl, rfl, rfl, rfl, rfl⟩ rfl rfl rfl rfl rfl (by kernel_rfl) Try.func4 (by kernel_rfl)
    (of_decide_eq_true (by kernel_rfl)) (by unfold Func.isWrapper; first | (rw [if_pos (by decide +kernel)]; kernel_rfl) | (rw [if_neg (by decide +kernel)]; exact ⟨rfl, rfl⟩))
    (fun os started H enc _ => lifted os started H enc)

/-- ████ THE STATEMENT ████ -/
theorem proved : Rows.FnExactStateNewSaid :=
  over
end Go.Proofs.Ytbcobadlgpmifaa.fnExactStateNew

namespace Go.Proofs.Ytbcobadlgpmifaa
/-- StateNew of the program answers as the specification's StateNew, every register, word and flag, in memory of its own, behind another call too, and the law returns true. No condition. -/
theorem fnExactStateNew_holds : Rows.FnExactStateNewSaid := fnExactStateNew.proved
#print axioms fnExactStateNew_holds
end Go.Proofs.Ytbcobadlgpmifaa
