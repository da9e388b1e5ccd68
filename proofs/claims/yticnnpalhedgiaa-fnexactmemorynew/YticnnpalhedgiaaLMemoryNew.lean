/- MemoryNew of the program answers as the specification's MemoryNew, every word and flag, in memory of its own, behind another call too, and the law returns true. No condition. -/
import Derived.Test.YticnnpalhedgiaaRows
import Derived.Test.YticnnpalhedgiaaIMem
import Derived.Test.YticnnpalhedgiaaHold
import Derived.Test.YticnnpalhedgiaaMarkA
import Derived.WalkKit
import Derived.ProofKit
import Derived.OpenShut
namespace Go.Proofs.Yticnnpalhedgiaa.fnExactMemoryNew
open Go.ChangeShapes Go.WideShapes Go.ChangeAt Go.RowKit
set_option linter.unusedVariables false      -- a walk need not use every 'w<i>' (that an integer argument fits its kind)

theorem own : ownKnob Try.prog.godebug = none := by kernel_rfl

/-! ### STEP 1: THE WALK: the Go text returns true. 'Grown w w'': the world has at most new blocks (Derived/RowKit3.lean). Part the cases AHEAD of 'go_enter' where a test parts the walk; take each callee by a contract of your own. -/
theorem walk  (w : World) :
    Calls Try.prog 4 #[] w fun e w' => e = .returned (.bool true) ∧ Below w.heap.size w w' := by
  obtain ⟨mg, hmg⟩ : ∃ mg : Int, mg = 1 + 6 * ((24 : Nat) : Int) + ((24 : Nat) : Int) := ⟨_, rfl⟩
  have hmg0 : 0 ≤ mg := by omega
  have hmgn : (mg != mg) = false := by simp
  have HMG := hid_mk hmg
  clear hmg
  have H := hid_mk (Hold.new w)
  go_enter Try.func4, Try.ntmps4
  go_wp2_with fail
  refine (specMemoryNew_any _).mono ?_
  rintro e w4 ⟨qw, qw', rfl, OW⟩
  have QW0 := hid_mk (fun k hk => OW.ans.lt (k := k) hk)
  replace H := hid_mk ((((H.out.next OW.bel).push (ansF (some ⟨qw, 0, none⟩) (some ⟨qw', 0, none⟩) 24 24 (List.replicate 24 wd0) (List.replicate 24 false)) OW.ans).alloc (.cells #[.slice (some ⟨qw, 0, none⟩) 24 24, .slice (some ⟨qw', 0, none⟩) 24 24] 30)).push (duoF w4.heap.size (.slice (some ⟨qw, 0, none⟩) 24 24) (.slice (some ⟨qw', 0, none⟩) 24 24)) (Duo.new _ _ _ _))
  clear OW
  go_upto_region 2 with fail
  generalize w4.alloc (.cells #[.slice (some ⟨qw, 0, none⟩) 24 24, .slice (some ⟨qw', 0, none⟩) 24 24] 30) = w5 at H ⊢
  obtain ⟨rw_, hrw⟩ : ∃ r, r = w4.heap.size := ⟨_, rfl⟩
  rw [← hrw] at H QW0 ⊢
  clear hrw
  have QW : Hid (∀ k, On (some ⟨qw, 0, none⟩) k ∨ On (some ⟨qw', 0, none⟩) k → k < rw_) := QW0.out
  clear QW0
  go_wp2_with fail
  refine (implMemoryNew_any _).mono ?_
  rintro e w8 ⟨qg, qg', rfl, OG⟩
  have hz1 : rw_ < w5.heap.size := (H.out.duo (.head _)).lt
  have hz9 : w.heap.size ≤ w5.heap.size := H.out.bel.size
  have QG0 := hid_mk (fun k hk => And.intro (Nat.lt_of_lt_of_le hz1 (OG.from k hk)) (And.intro (Nat.le_trans hz9 (OG.from k hk)) (OG.ans.lt (k := k) hk)))
  have hz4 : rw_ < w8.heap.size := Nat.lt_of_lt_of_le hz1 OG.bel.size
  replace H := hid_mk ((((H.out.next OG.bel).push (ansF (some ⟨qg, 0, none⟩) (some ⟨qg', 0, none⟩) 24 24 (List.replicate 24 wd0) (List.replicate 24 false)) OG.ans).alloc (.cells #[.slice (some ⟨qg, 0, none⟩) 24 24, .slice (some ⟨qg', 0, none⟩) 24 24] 30)).push (duoF w8.heap.size (.slice (some ⟨qg, 0, none⟩) 24 24) (.slice (some ⟨qg', 0, none⟩) 24 24)) (Duo.new _ _ _ _))
  clear OG hz1 hz9
  go_upto_region 3 with fail
  generalize w8.alloc (.cells #[.slice (some ⟨qg, 0, none⟩) 24 24, .slice (some ⟨qg', 0, none⟩) 24 24] 30) = w9 at H ⊢
  obtain ⟨rg, hrg⟩ : ∃ r, r = w8.heap.size := ⟨_, rfl⟩
  rw [← hrg] at H QG0 hz4 ⊢
  clear hrg
  have QG : Hid (∀ k, On (some ⟨qg, 0, none⟩) k ∨ On (some ⟨qg', 0, none⟩) k → rw_ < k ∧ w.heap.size ≤ k ∧ k < rg) := QG0.out
  clear QG0
  obtain ⟨_, m0, m1, _, _⟩ := H.out.duo (.head _)
  obtain ⟨_, o0, o1, _, _⟩ := H.out.duo (.tail _ (.tail _ (.head _)))
  go_wp2_with fail
  refine (eqMemory_same _ _ _ _ _ _ _ _ _ _ (List.replicate 24 wd0) (List.replicate 24 false) _ (AnsM.mem (H.out.ans (.tail _ (.head _))) (by omega) (by omega)) (AnsM.mem (H.out.ans (.tail _ (.tail _ (.tail _ (.head _))))) (by omega) (by omega))).mono ?_
  rintro e w14 ⟨rfl, hb14⟩
  replace H := hid_mk (H.out.next hb14)
  clear hb14 m0 m1 o0 o1
  obtain ⟨_, m0, m1, _, _⟩ := H.out.duo (.head _)
  go_wp2_with fail
  refine (markMem_ans _ _ _ _ _ _ (List.replicate 24 wd0) (List.replicate 24 false) (by omega) (by omega) _ (H.out.ans (.tail _ (.head _)))).mono ?_
  rintro e w17 ⟨rfl, AM, hK17⟩
  rw [← HMG.out]
  replace H := hid_mk (((H.out.sub (gs := [duoF rg (.slice (some ⟨qg, 0, none⟩) 24 24) (.slice (some ⟨qg', 0, none⟩) 24 24), duoF rw_ (.slice (some ⟨qw, 0, none⟩) 24 24) (.slice (some ⟨qw', 0, none⟩) 24 24), ansF (some ⟨qw, 0, none⟩) (some ⟨qw', 0, none⟩) 24 24 (List.replicate 24 wd0) (List.replicate 24 false)]) (fun f hf => by
    simp only [List.mem_cons, List.not_mem_nil, or_false] at hf ⊢
    rcases hf with rfl | rfl | rfl
    · exact .inl rfl
    · exact .inr (.inr (.inl rfl))
    · exact .inr (.inr (.inr rfl)))).wrote hK17 (fun k hk => by have := QG.out k hk; omega) (fun f hf k hk ht => by
    have hx := QG.out k ht
    simp only [List.mem_cons, List.not_mem_nil, or_false] at hf
    rcases hf with rfl | rfl | rfl
    · simp only [duoF] at hk; omega
    · simp only [duoF] at hk; omega
    · have := QW.out k hk; omega)).push (ansF (some ⟨qg, 0, none⟩) (some ⟨qg', 0, none⟩) 24 24 (marksW 1 24) (marksB (1 + 6 * ((24 : Nat) : Int)) 24)) AM)
  clear hK17 m0 m1 AM
  obtain ⟨_, m0, m1, _, _⟩ := H.out.duo (.tail _ (.head _))
  go_wp2_with fail
  refine (heldMem_any _ _ _ _ _ _ (by omega) (by omega) _ (AnsM.mem (H.out.ans (.head _)) (by omega) (by omega))).mono ?_
  rintro e w19 ⟨rfl, hb19⟩
  rw [← HMG.out]
  replace H := hid_mk (H.out.next hb19)
  clear hb19 m0 m1
  go_wp2_with fail
  refine (implMemoryNew_any _).mono ?_
  rintro e w24 ⟨qh, qh', rfl, OH⟩
  replace H := hid_mk ((((H.out.next OH.bel).push (ansF (some ⟨qh, 0, none⟩) (some ⟨qh', 0, none⟩) 24 24 (List.replicate 24 wd0) (List.replicate 24 false)) OH.ans).alloc (.cells #[.slice (some ⟨qh, 0, none⟩) 24 24, .slice (some ⟨qh', 0, none⟩) 24 24] 30)).push (duoF w24.heap.size (.slice (some ⟨qh, 0, none⟩) 24 24) (.slice (some ⟨qh', 0, none⟩) 24 24)) (Duo.new _ _ _ _))
  clear OH
  go_upto_region 14 with fail
  generalize w24.alloc (.cells #[.slice (some ⟨qh, 0, none⟩) 24 24, .slice (some ⟨qh', 0, none⟩) 24 24] 30) = w25 at H ⊢
  generalize w24.heap.size = rh at H ⊢
  obtain ⟨_, m0, m1, _, _⟩ := H.out.duo (.head _)
  obtain ⟨_, o0, o1, _, _⟩ := H.out.duo (.tail _ (.tail _ (.tail _ (.tail _ (.head _)))))
  go_wp2_with fail
  refine (eqMemory_same _ _ _ _ _ _ _ _ _ _ (List.replicate 24 wd0) (List.replicate 24 false) _ (AnsM.mem (H.out.ans (.tail _ (.head _))) (by omega) (by omega)) (AnsM.mem (H.out.ans (.tail _ (.tail _ (.tail _ (.tail _ (.tail _ (.head _))))))) (by omega) (by omega))).mono ?_
  rintro e w26 ⟨rfl, hb26⟩
  replace H := hid_mk (H.out.next hb26)
  clear hb26 m0 m1 o0 o1
  obtain ⟨_, m0, m1, _, _⟩ := H.out.duo (.tail _ (.tail _ (.tail _ (.head _))))
  go_wp2_with fail
  refine (heldMem_any _ _ _ _ _ _ (by omega) (by omega) _ (AnsM.mem (H.out.ans (.tail _ (.tail _ (.head _)))) (by omega) (by omega))).mono ?_
  rintro e w28 ⟨rfl, hb28⟩
  rw [← HMG.out]
  replace H := hid_mk (H.out.next hb28)
  clear hb28 m0 m1
  go_wp2
  go_ret
  exact ⟨rfl, H.out.bel⟩

/-! ### THE ROW's STEP: WRITTEN OUT: LEAVE IT -/
set_option maxRecDepth 100000 in
theorem lifted (os : Os) (started : os.Started) (H : Type) (enc : TypeId × Value → H) :
    ReturnsInHanded {} Try.checked os 4 .any (Rows.fnExactMemoryNewSpec.pre6 enc Try.prog Try.f4 Rows.fnExactMemoryNewRow.domain false) (Rows.fnExactMemoryNewSpec.post enc Try.prog Try.f4 false true false false) := by
  refine returnsInHanded_of_change (C := Try.checked) own started (by kernel_rfl) Try.func4
    (ChangeSpec.witness6 (enc := enc) (C := Try.checked) false ⟨#[], #[], []⟩ 8 (by kernel_rfl) (by kernel_rfl) (by kernel_rfl) (by kernel_rfl)) ?_
  intro W base args ds gs before hval0 hW hcnd _
  have hval : ∀ (j : Nat) t v, Try.f4.params[j]? = some t → args[j]? = some v → Value.okWide Try.prog W .any base t v := hval0
  have hW' := hW
  obtain ⟨p, q, hA0, hV, rfl, hfz, hnd⟩ := hW
  have hA : DataW.TrodAll enc Try.prog W 0 (fun _ => true) true Try.f4.params.toList args.toList ds p := hA0
  rw [Try.params4] at hA hval
  obtain ⟨rfl, rfl, rfl⟩ := trodAll_none hA
  obtain ⟨rfl, rfl⟩ := trodVars_none hV
  clear hA0 hval0
  simp only [List.append_nil] at hW'
  refine (walk  W).mono fun e W' ⟨he, hg⟩ => ?_
  subst he
  exact ⟨_, rfl, _, _, _, [], [], [], hW', trodAll_cons_mk (shut_bool Try.underlying4 _) trodAll_mk0, rfl, rfl, hg.frame _, fun h => by cases h⟩

theorem over : Rows.fnExactMemoryNewRow.holds Try.pinned (OpenSpec.ofChange Rows.fnExactMemoryNewSpec) :=
  OpenClaim.holds_of_wide 4 Try.f4 rfl rfl rfl rfl rfl rfl rfl ⟨rfl, rfl, rfl, rfl, rfl⟩ rfl rfl rfl rfl rfl (by kernel_rfl) Try.func4 (by kernel_rfl)
    (of_decide_eq_true (by kernel_rfl)) (by unfold Func.isWrapper; first | (rw [if_pos (by decide +kernel)]; kernel_rfl) | (rw [if_neg (by decide +kernel)]; exact ⟨rfl, rfl⟩))
    (fun os started H enc _ => lifted os started H enc)

/-- ████ THE STATEMENT ████ -/
theorem proved : Rows.FnExactMemoryNewSaid :=
  over
end Go.Proofs.Yticnnpalhedgiaa.fnExactMemoryNew

namespace Go.Proofs.Yticnnpalhedgiaa
/-- MemoryNew of the program answers as the specification's MemoryNew, every word and flag, in memory of its own, behind another call too, and the law returns true. No condition. -/
theorem fnExactMemoryNew_holds : Rows.FnExactMemoryNewSaid := fnExactMemoryNew.proved
#print axioms fnExactMemoryNew_holds
end Go.Proofs.Yticnnpalhedgiaa
