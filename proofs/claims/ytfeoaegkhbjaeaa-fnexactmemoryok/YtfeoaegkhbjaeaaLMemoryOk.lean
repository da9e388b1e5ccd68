/- For every Memory MemoryOk of the program answers as the specification's MemoryOk, leaves the memory as it was, and the law returns true; memories of more than 2^20 elements the law passes by. No condition. -/
import Derived.Test.YtfeoaegkhbjaeaaRows
import Derived.Test.YtfeoaegkhbjaeaaIMem
import Derived.Test.YtfeoaegkhbjaeaaHold
import Derived.Test.YtfeoaegkhbjaeaaMemD
import Derived.WalkKit
import Derived.ProofKit
import Derived.OpenShut
import Derived.Lib.SmallJoins
import Derived.ChangeOld
import Derived.Below
import Derived.Deep.Slices
import Derived.Deep.Strs
namespace Go.Proofs.Ytfeoaegkhbjaeaa.fnExactMemoryOk
open Go.ChangeShapes Go.WideShapes Go.ChangeAt Go.RowKit Go.Joins Go.Deep

theorem own : ownKnob Try.prog.godebug = none := by kernel_rfl
theorem laidOut : laidOutB Try.prog = true := by kernel_rfl

set_option maxRecDepth 100000 in
set_option maxHeartbeats 20000000 in
theorem walk (ma0 : Option Addr) (mn0 mc0 : Nat) (mb0 : Option Addr) (mk0 md0 : Nat) (mL0 : List Wd) (mG0 : List Bool) (w : World) (hS0 : MemS w ma0 mn0 mb0 mk0 mL0 mG0) :
    Calls Try.prog 3 #[.agg #[.slice ma0 mn0 mc0, .slice mb0 mk0 md0]] w fun e w' => e = .returned (.bool true) ∧ Below w.heap.size w w' := by
  have sz := szMemory_any ma0 mn0 mc0 mb0 mk0 md0 hS0.ws.1 hS0.gs.1
  by_cases hl : mn0 + mk0 ≤ 1048576
  · obtain ⟨m, hm, hm0⟩ : ∃ m : Int, Hid (m = 1048576 - (mn0 : Int) - (mk0 : Int)) ∧ 0 ≤ m := ⟨_, rfl, by omega⟩
    simp only [if_pos hl, ← hm.out] at sz
    have SZ := hid_mk sz
    have hn1 : mn0 ≤ 1048576 := by omega
    have hn2 : mk0 ≤ 1048576 := by omega
    have H := hid_mk ((((Hold.new w).push (argF w.heap.size ma0 mn0 mb0 mk0 mL0 mG0) hS0.arg).alloc (.cells #[.slice ma0 mn0 mc0, .slice mb0 mk0 md0] 25)).push (duoF w.heap.size (.slice ma0 mn0 mc0) (.slice mb0 mk0 md0)) (Duo.new w _ _ _))
    clear sz hS0
    generalize hw1 : w.alloc (.cells #[.slice ma0 mn0 mc0, .slice mb0 mk0 md0] 25) = w1 at H
    go_enter Try.func3, Try.ntmps3
    go_upto_region 1 with fail
    clear hw1
    obtain ⟨_, m0, m1, _, _⟩ := H.out.at (.head _)
    go_wp2_with fail
    refine (SZ.out _).mono ?_
    rintro e w2 ⟨rfl, hb2⟩
    replace H := hid_mk (H.out.next hb2)
    clear hb2 m0 m1 SZ
    obtain ⟨_, m0, m1, _, _⟩ := H.out.at (.head _)
    go_wp2_with fail
    refine (toMemory_ans _ _ _ _ _ _ mL0 mG0 _ hn1 hn2 (ArgM.mem (H.out.at (.tail _ (.head _))))).mono ?_
    rintro e w3 ⟨b3, b3', rfl, A3, hg3, hb3⟩
    replace H := hid_mk (H.out.next hb3)
    have A3 := hid_mk A3
    clear hb3 m0 m1 hg3
    go_wp2_with fail
    refine (specMemoryOk_any _ _ _ _ _ _ mL0 mG0 _ (A3.out.mem hn1 hn2)).mono ?_
    rintro e w4 ⟨rfl, hb4⟩
    replace H := hid_mk (H.out.next hb4)
    clear hb4 A3
    obtain ⟨_, m0, m1, _, _⟩ := H.out.at (.head _)
    go_wp2_with fail
    refine (toMemory_ans _ _ _ _ _ _ mL0 mG0 _ hn1 hn2 (ArgM.mem (H.out.at (.tail _ (.head _))))).mono ?_
    rintro e w5 ⟨b5, b5', rfl, A5, hg5, hb5⟩
    replace H := hid_mk ((((H.out.next hb5).push (ansF b5 b5' mn0 mk0 mL0 mG0) A5).alloc (.cells #[.slice b5 mn0 mn0, .slice b5' mk0 mk0] 30)).push (duoF w5.heap.size (.slice b5 mn0 mn0) (.slice b5' mk0 mk0)) (Duo.new _ _ _ _))
    clear hb5 m0 m1 hg5 A5
    go_upto_region 7 with fail
    generalize w5.alloc (.cells #[.slice b5 mn0 mn0, .slice b5' mk0 mk0] 30) = w6 at H ⊢
    generalize w5.heap.size = r5 at H ⊢
    obtain ⟨_, m0, m1, _, _⟩ := H.out.at (.head _)
    go_wp2_with fail
    refine (implMemoryOk_any _ _ _ _ _ _ mL0 mG0 _ (AnsM.mem (H.out.at (.tail _ (.head _))) hn1 hn2)).mono ?_
    rintro e w7 ⟨rfl, hb7⟩
    replace H := hid_mk (H.out.next hb7)
    clear hb7 m0 m1
    generalize mokB mL0 mG0 = y
    have hy : (y != y) = false := by simp
    go_upto_region 10 with fail
    have ALL : Hid (∀ w', Hold w w' [duoF r5 (.slice b5 mn0 mn0) (.slice b5' mk0 mk0), ansF b5 b5' mn0 mk0 mL0 mG0, duoF w.heap.size (.slice ma0 mn0 mc0) (.slice mb0 mk0 md0), argF w.heap.size ma0 mn0 mb0 mk0 mL0 mG0] → (w'.cell? ⟨r5, 0, none⟩ = some (.slice b5 mn0 mn0) ∧ w'.cell? ⟨r5, 1, none⟩ = some (.slice b5' mk0 mk0) ∧ w'.cell? ⟨w.heap.size, 0, none⟩ = some (.slice ma0 mn0 mc0) ∧ w'.cell? ⟨w.heap.size, 1, none⟩ = some (.slice mb0 mk0 md0) ∧ Hid (Hold w w' [duoF r5 (.slice b5 mn0 mn0) (.slice b5' mk0 mk0), ansF b5 b5' mn0 mk0 mL0 mG0, duoF w.heap.size (.slice ma0 mn0 mc0) (.slice mb0 mk0 md0), argF w.heap.size ma0 mn0 mb0 mk0 mL0 mG0]))) := fun w' h => by
      have h1 := h.duo (.head _)
      have h2 := h.duo (.tail _ (.tail _ (.head _)))
      exact ⟨h1.c0, h1.c1, h2.c0, h2.c1, h⟩
    have GET : Hid (∀ w', (w'.cell? ⟨r5, 0, none⟩ = some (.slice b5 mn0 mn0) ∧ w'.cell? ⟨r5, 1, none⟩ = some (.slice b5' mk0 mk0) ∧ w'.cell? ⟨w.heap.size, 0, none⟩ = some (.slice ma0 mn0 mc0) ∧ w'.cell? ⟨w.heap.size, 1, none⟩ = some (.slice mb0 mk0 md0) ∧ Hid (Hold w w' [duoF r5 (.slice b5 mn0 mn0) (.slice b5' mk0 mk0), ansF b5 b5' mn0 mk0 mL0 mG0, duoF w.heap.size (.slice ma0 mn0 mc0) (.slice mb0 mk0 md0), argF w.heap.size ma0 mn0 mb0 mk0 mL0 mG0])) → Hold w w' [duoF r5 (.slice b5 mn0 mn0) (.slice b5' mk0 mk0), ansF b5 b5' mn0 mk0 mL0 mG0, duoF w.heap.size (.slice ma0 mn0 mc0) (.slice mb0 mk0 md0), argF w.heap.size ma0 mn0 mb0 mk0 mL0 mG0]) := fun w' h => h.2.2.2.2
    have F0 := hid_mk H.out.drew
    clear H
    go_region_held3 (fun w' => w'.cell? ⟨r5, 0, none⟩ = some (.slice b5 mn0 mn0) ∧ w'.cell? ⟨r5, 1, none⟩ = some (.slice b5' mk0 mk0) ∧ w'.cell? ⟨w.heap.size, 0, none⟩ = some (.slice ma0 mn0 mc0) ∧ w'.cell? ⟨w.heap.size, 1, none⟩ = some (.slice mb0 mk0 md0) ∧ Hid (Hold w w' [duoF r5 (.slice b5 mn0 mn0) (.slice b5' mk0 mk0), ansF b5 b5' mn0 mk0 mL0 mG0, duoF w.heap.size (.slice ma0 mn0 mc0) (.slice mb0 mk0 md0), argF w.heap.size ma0 mn0 mb0 mk0 mL0 mG0]))
      (first | (with_reducible assumption) | (((with_reducible refine ALL.out _ ?_); (first | (with_reducible exact F0.out) | ((with_reducible apply Hold.next ?_ K8.out); (with_reducible exact GET.out _ (by with_reducible assumption))) | ((with_reducible apply Hold.next ?_ K9.out); (with_reducible exact GET.out _ (by with_reducible assumption))) | fail))))
      (first
        | (go_at_call 10; refine (toMemory_ans _ _ _ _ _ _ mL0 mG0 _ hn1 hn2 (ArgM.mem ((GET.out _ (by with_reducible assumption)).at (.tail _ (.tail _ (.tail _ (.head _))))))).mono ?_; rintro e w8 ⟨b8, b8', rfl, A8, _, hb8⟩; have K8 := hid_mk hb8; have A8 := hid_mk A8; clear hb8)
        | (go_at_call 12; refine (eqMemory_same _ _ _ _ _ _ _ _ _ _ mL0 mG0 _ (AnsM.mem ((GET.out _ (by with_reducible assumption)).at (.tail _ (.head _))) hn1 hn2) (A8.out.mem hn1 hn2)).mono ?_; rintro e w9 ⟨rfl, hb9⟩; have K9 := hid_mk hb9; clear hb9))
    have B := hid_mk (GET.out _ (by with_reducible assumption)).bel
    go_wp2
    go_ret
    exact ⟨rfl, B.out⟩
  · simp only [if_neg hl] at sz
    have SZ := hid_mk sz
    clear sz
    go_enter Try.func3, Try.ntmps3
    go_wp2_with fail
    refine (SZ.out _).mono ?_
    rintro e w2 ⟨rfl, hb2⟩
    have B := hid_mk (((Below.refl w.heap.size w).alloc (Nat.le_refl _) _).trans (hb2.mono (by simp)))
    clear hb2
    go_wp2
    go_ret
    exact ⟨rfl, B.out⟩

set_option maxRecDepth 100000 in
theorem lifted (os : Os) (started : os.Started) (H : Type) (enc : TypeId × Value → H) :
    ReturnsInHanded {} Try.checked os 3 .any (Rows.fnExactMemoryOkSpec.pre6 enc Try.prog Try.f3 Rows.fnExactMemoryOkRow.domain false) (Rows.fnExactMemoryOkSpec.post enc Try.prog Try.f3 false true false false) := by
  refine returnsInHanded_of_change (C := Try.checked) own started (by kernel_rfl) Try.func3
    (ChangeSpec.witness6 (enc := enc) (C := Try.checked) false ⟨#[], #[.agg #[.slice none 0 0, .slice none 0 0]], []⟩ 8 (by kernel_rfl) (by kernel_rfl) (by kernel_rfl) (by kernel_rfl)) ?_
  intro W base args ds gs before hval0 hW hcnd _
  have hval : ∀ (j : Nat) t v, Try.f3.params[j]? = some t → args[j]? = some v → Value.okWide Try.prog W .any base t v := hval0
  have hW' := hW
  obtain ⟨p, q, hA0, hV, rfl, hfz, hnd⟩ := hW
  have hA : DataW.TrodAll enc Try.prog W 0 (fun _ => true) true Try.f3.params.toList args.toList ds p := hA0
  rw [Try.params3] at hA hval
  obtain ⟨v0, vs0, d0, ds0, p0, q0, hargs, rfl, rfl, h0, r0⟩ := trodAll_cons hA
  obtain ⟨rfl, rfl, rfl⟩ := trodAll_nil r0
  obtain rfl : args = #[v0] := by cases args; simp_all
  obtain ⟨rfl, rfl⟩ := trodVars_none hV
  have k0 := h0
  have lt0 : ∀ x ∈ p0, x.block < W.heap.size := by obtain ⟨m, hm⟩ := k0; exact DataW.trod_lt m _ _ _ hm
  obtain ⟨ma0, mn0, mc0, mb0, mk0, md0, mL0, mG0, rfl, hS0⟩ := open_mem (hval 0 25 v0 rfl rfl) h0
  clear hA0 hval0
  refine (walk ma0 mn0 mc0 mb0 mk0 md0 mL0 mG0 W hS0).mono fun e W' ⟨he, bel⟩ => ?_
  subst he
  exact ⟨_, rfl, _, _, _, [], _, [], hW', trodAll_mk1 (shut_bool Try.underlying4 _), (trodAll_cons_mk (Below.trod laidOut (by kernel_rfl) (of_decide_eq_true (by kernel_rfl)) k0 bel lt0) trodAll_mk0), rfl, bel.frame _, fun h => by cases h⟩

theorem proved : Rows.FnExactMemoryOkSaid :=
  OpenClaim.holds_of_wide 3 Try.f3 rfl rfl rfl rfl rfl rfl rfl ⟨rfl, rfl, rfl, rfl, rfl⟩ rfl rfl rfl rfl rfl (by kernel_rfl) Try.func3 (by kernel_rfl)
    (of_decide_eq_true (by kernel_rfl)) (by unfold Func.isWrapper; first | (rw [if_pos (by decide +kernel)]; kernel_rfl) | (rw [if_neg (by decide +kernel)]; exact ⟨rfl, rfl⟩))
    (fun os started H enc _ => lifted os started H enc)
end Go.Proofs.Ytfeoaegkhbjaeaa.fnExactMemoryOk

namespace Go.Proofs.Ytfeoaegkhbjaeaa
/-- For every Memory MemoryOk of the program answers as the specification's MemoryOk, leaves the memory as it was, and the law returns true; memories of more than 2^20 elements the law passes by. No condition. -/
theorem fnExactMemoryOk_holds : Rows.FnExactMemoryOkSaid := fnExactMemoryOk.proved
#print axioms fnExactMemoryOk_holds
end Go.Proofs.Ytfeoaegkhbjaeaa
