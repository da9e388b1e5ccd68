/- For every State StateOk of the program answers as the specification's StateOk, leaves the state as it was, and the law returns true; states of more than 2^20 elements the law passes by. No condition. -/
import Derived.Test.YtfeoaegkhbjaeaaRows
import Derived.Test.YtfeoaegkhbjaeaaStT
import Derived.Test.YtfeoaegkhbjaeaaStO
import Derived.Test.YtfeoaegkhbjaeaaStD
import Derived.WalkKit
import Derived.ProofKit
import Derived.OpenShut
import Derived.Lib.SmallJoins
import Derived.ChangeOld
import Derived.Below
import Derived.Deep.Slices
import Derived.Deep.Strs
namespace Go.Proofs.Ytfeoaegkhbjaeaa.fnExactStateOk
open Go.ChangeShapes Go.WideShapes Go.ChangeAt Go.RowKit Go.Joins Go.Deep

theorem own : ownKnob Try.prog.godebug = none := by kernel_rfl
theorem laidOut : laidOutB Try.prog = true := by kernel_rfl

set_option maxRecDepth 100000 in
set_option maxHeartbeats 20000000 in
theorem walk (ra0 : Option Addr) (rn0 rc0 : Nat) (rx0 : Wd) (wa0 : Option Addr) (wn0 wc0 : Nat) (ga0 : Option Addr) (gn0 gc0 : Nat) (rt0 : Int) (R0 L0 : List Wd) (G0 : List Bool) (w : World) (hS0 : StS w ra0 rn0 wa0 wn0 ga0 gn0 R0 L0 G0) :
    Calls Try.prog 6 #[.agg #[.slice ra0 rn0 rc0, .int .i64 rx0.n, .bool rx0.i, .int .i64 rx0.b, .int .i64 rx0.t, .int .i64 rx0.p, .int .i64 rx0.s, .slice wa0 wn0 wc0, .slice ga0 gn0 gc0, .int .i64 rt0]] w fun e w' => e = .returned (.bool true) ∧ Below w.heap.size w w' := by
  have sz := szState_at ra0 rn0 rc0 rx0 wa0 wn0 wc0 ga0 gn0 gc0 rt0 1048576 (by decide) (by decide) hS0.rs.1 hS0.mem.ws.1 hS0.mem.gs.1
  by_cases hl : (rn0 : Int) + (wn0 : Int) + (gn0 : Int) ≤ 1048576
  · obtain ⟨m, hm, hm0⟩ : ∃ m : Int, Hid (m = 1048576 - (rn0 : Int) - (wn0 : Int) - (gn0 : Int)) ∧ 0 ≤ m := ⟨_, rfl, by omega⟩
    simp only [if_pos hl, ← hm.out] at sz
    have SZ := hid_mk sz
    have hn0 : rn0 ≤ 1048576 := by omega
    have hn1 : wn0 ≤ 1048576 := by omega
    have hn2 : gn0 ≤ 1048576 := by omega
    have H := hid_mk ((((Hold.new w).push (argSF w.heap.size ra0 rn0 wa0 wn0 ga0 gn0 R0 L0 G0) hS0.arg).alloc (.cells (stl ra0 rn0 rc0 rx0 wa0 wn0 wc0 ga0 gn0 gc0 rt0).toArray 42)).push (celF w.heap.size (stl ra0 rn0 rc0 rx0 wa0 wn0 wc0 ga0 gn0 gc0 rt0)) (Cel.new w _ _))
    clear sz hS0 hl
    generalize hw1 : w.alloc (.cells (stl ra0 rn0 rc0 rx0 wa0 wn0 wc0 ga0 gn0 gc0 rt0).toArray 42) = w1 at H
    go_enter Try.func6, Try.ntmps6
    go_upto_region 1 with fail
    clear hw1
    obtain ⟨m0, m1, m2, m3, m4, m5, m6, m7, m8, m9⟩ := (H.out.cel (.head _)).c10
    go_wp2_with fail
    refine (SZ.out _).mono ?_
    rintro e w2 ⟨rfl, hb2⟩
    replace H := hid_mk (H.out.next hb2)
    clear hb2 m0 m1 m2 m3 m4 m5 m6 m7 m8 m9 SZ
    obtain ⟨m0, m1, m2, m3, m4, m5, m6, m7, m8, m9⟩ := (H.out.cel (.head _)).c10
    go_wp2_with fail
    refine (toState_ans _ _ _ _ _ _ _ _ _ _ _ R0 L0 G0 _ hn0 hn1 hn2 (H.out.argS (.tail _ (.head _)))).mono ?_
    rintro e w3 ⟨b3, b3w, b3g, rfl, A3, hg3, hb3⟩
    replace H := hid_mk (H.out.next hb3)
    have A3 := hid_mk A3
    clear hb3 m0 m1 m2 m3 m4 m5 m6 m7 m8 m9 hg3
    go_wp2_with fail
    refine (specStateOk_any _ _ _ _ _ _ _ _ _ _ _ R0 L0 G0 _ (A3.out.sts hn0 hn1 hn2)).mono ?_
    rintro e w4 ⟨rfl, hb4⟩
    replace H := hid_mk (H.out.next hb4)
    clear hb4 A3
    obtain ⟨m0, m1, m2, m3, m4, m5, m6, m7, m8, m9⟩ := (H.out.cel (.head _)).c10
    go_wp2_with fail
    refine (toState_ans _ _ _ _ _ _ _ _ _ _ _ R0 L0 G0 _ hn0 hn1 hn2 (H.out.argS (.tail _ (.head _)))).mono ?_
    rintro e w5 ⟨b5, b5w, b5g, rfl, A5, hg5, hb5⟩
    replace H := hid_mk ((((H.out.next hb5).push (ansSF b5 b5w b5g rn0 wn0 gn0 R0 L0 G0) A5).alloc (.cells (stl b5 rn0 rn0 rx0 b5w wn0 wn0 b5g gn0 gn0 rt0).toArray 49)).push (celF w5.heap.size (stl b5 rn0 rn0 rx0 b5w wn0 wn0 b5g gn0 gn0 rt0)) (Cel.new _ _ _))
    clear hb5 m0 m1 m2 m3 m4 m5 m6 m7 m8 m9 hg5 A5
    go_upto_region 7 with fail
    generalize w5.alloc (.cells (stl b5 rn0 rn0 rx0 b5w wn0 wn0 b5g gn0 gn0 rt0).toArray 49) = w6 at H ⊢
    generalize w5.heap.size = r5 at H ⊢
    obtain ⟨m0, m1, m2, m3, m4, m5, m6, m7, m8, m9⟩ := (H.out.cel (.head _)).c10
    go_wp2_with fail
    refine (implStateOk_any _ _ _ _ _ _ _ _ _ _ _ R0 L0 G0 _ ((H.out.ansS (.tail _ (.head _))).sts hn0 hn1 hn2)).mono ?_
    rintro e w7 ⟨rfl, hb7⟩
    replace H := hid_mk (H.out.next hb7)
    clear hb7 m0 m1 m2 m3 m4 m5 m6 m7 m8 m9
    generalize sokB R0 rx0 L0 G0 rt0 = y
    have hy : (y != y) = false := by simp
    go_upto_region 10 with fail
    have ALL : Hid (∀ w', Hold w w' [celF r5 (stl b5 rn0 rn0 rx0 b5w wn0 wn0 b5g gn0 gn0 rt0), ansSF b5 b5w b5g rn0 wn0 gn0 R0 L0 G0, celF w.heap.size (stl ra0 rn0 rc0 rx0 wa0 wn0 wc0 ga0 gn0 gc0 rt0), argSF w.heap.size ra0 rn0 wa0 wn0 ga0 gn0 R0 L0 G0] → (w'.cell? ⟨r5, 0, none⟩ = some (.slice b5 rn0 rn0) ∧ w'.cell? ⟨r5, 1, none⟩ = some (.int .i64 rx0.n) ∧ w'.cell? ⟨r5, 2, none⟩ = some (.bool rx0.i) ∧ w'.cell? ⟨r5, 3, none⟩ = some (.int .i64 rx0.b) ∧ w'.cell? ⟨r5, 4, none⟩ = some (.int .i64 rx0.t) ∧ w'.cell? ⟨r5, 5, none⟩ = some (.int .i64 rx0.p) ∧ w'.cell? ⟨r5, 6, none⟩ = some (.int .i64 rx0.s) ∧ w'.cell? ⟨r5, 7, none⟩ = some (.slice b5w wn0 wn0) ∧ w'.cell? ⟨r5, 8, none⟩ = some (.slice b5g gn0 gn0) ∧ w'.cell? ⟨r5, 9, none⟩ = some (.int .i64 rt0) ∧ w'.cell? ⟨w.heap.size, 0, none⟩ = some (.slice ra0 rn0 rc0) ∧ w'.cell? ⟨w.heap.size, 1, none⟩ = some (.int .i64 rx0.n) ∧ w'.cell? ⟨w.heap.size, 2, none⟩ = some (.bool rx0.i) ∧ w'.cell? ⟨w.heap.size, 3, none⟩ = some (.int .i64 rx0.b) ∧ w'.cell? ⟨w.heap.size, 4, none⟩ = some (.int .i64 rx0.t) ∧ w'.cell? ⟨w.heap.size, 5, none⟩ = some (.int .i64 rx0.p) ∧ w'.cell? ⟨w.heap.size, 6, none⟩ = some (.int .i64 rx0.s) ∧ w'.cell? ⟨w.heap.size, 7, none⟩ = some (.slice wa0 wn0 wc0) ∧ w'.cell? ⟨w.heap.size, 8, none⟩ = some (.slice ga0 gn0 gc0) ∧ w'.cell? ⟨w.heap.size, 9, none⟩ = some (.int .i64 rt0) ∧ Hid (Hold w w' [celF r5 (stl b5 rn0 rn0 rx0 b5w wn0 wn0 b5g gn0 gn0 rt0), ansSF b5 b5w b5g rn0 wn0 gn0 R0 L0 G0, celF w.heap.size (stl ra0 rn0 rc0 rx0 wa0 wn0 wc0 ga0 gn0 gc0 rt0), argSF w.heap.size ra0 rn0 wa0 wn0 ga0 gn0 R0 L0 G0]))) := fun w' h => by
      have h1 := h.cel (.head _)
      have h2 := h.cel (.tail _ (.tail _ (.head _)))
      exact ⟨h1.c 0 _ rfl, h1.c 1 _ rfl, h1.c 2 _ rfl, h1.c 3 _ rfl, h1.c 4 _ rfl, h1.c 5 _ rfl, h1.c 6 _ rfl, h1.c 7 _ rfl, h1.c 8 _ rfl, h1.c 9 _ rfl, h2.c 0 _ rfl, h2.c 1 _ rfl, h2.c 2 _ rfl, h2.c 3 _ rfl, h2.c 4 _ rfl, h2.c 5 _ rfl, h2.c 6 _ rfl, h2.c 7 _ rfl, h2.c 8 _ rfl, h2.c 9 _ rfl, h⟩
    have GET : Hid (∀ w', (w'.cell? ⟨r5, 0, none⟩ = some (.slice b5 rn0 rn0) ∧ w'.cell? ⟨r5, 1, none⟩ = some (.int .i64 rx0.n) ∧ w'.cell? ⟨r5, 2, none⟩ = some (.bool rx0.i) ∧ w'.cell? ⟨r5, 3, none⟩ = some (.int .i64 rx0.b) ∧ w'.cell? ⟨r5, 4, none⟩ = some (.int .i64 rx0.t) ∧ w'.cell? ⟨r5, 5, none⟩ = some (.int .i64 rx0.p) ∧ w'.cell? ⟨r5, 6, none⟩ = some (.int .i64 rx0.s) ∧ w'.cell? ⟨r5, 7, none⟩ = some (.slice b5w wn0 wn0) ∧ w'.cell? ⟨r5, 8, none⟩ = some (.slice b5g gn0 gn0) ∧ w'.cell? ⟨r5, 9, none⟩ = some (.int .i64 rt0) ∧ w'.cell? ⟨w.heap.size, 0, none⟩ = some (.slice ra0 rn0 rc0) ∧ w'.cell? ⟨w.heap.size, 1, none⟩ = some (.int .i64 rx0.n) ∧ w'.cell? ⟨w.heap.size, 2, none⟩ = some (.bool rx0.i) ∧ w'.cell? ⟨w.heap.size, 3, none⟩ = some (.int .i64 rx0.b) ∧ w'.cell? ⟨w.heap.size, 4, none⟩ = some (.int .i64 rx0.t) ∧ w'.cell? ⟨w.heap.size, 5, none⟩ = some (.int .i64 rx0.p) ∧ w'.cell? ⟨w.heap.size, 6, none⟩ = some (.int .i64 rx0.s) ∧ w'.cell? ⟨w.heap.size, 7, none⟩ = some (.slice wa0 wn0 wc0) ∧ w'.cell? ⟨w.heap.size, 8, none⟩ = some (.slice ga0 gn0 gc0) ∧ w'.cell? ⟨w.heap.size, 9, none⟩ = some (.int .i64 rt0) ∧ Hid (Hold w w' [celF r5 (stl b5 rn0 rn0 rx0 b5w wn0 wn0 b5g gn0 gn0 rt0), ansSF b5 b5w b5g rn0 wn0 gn0 R0 L0 G0, celF w.heap.size (stl ra0 rn0 rc0 rx0 wa0 wn0 wc0 ga0 gn0 gc0 rt0), argSF w.heap.size ra0 rn0 wa0 wn0 ga0 gn0 R0 L0 G0])) → Hold w w' [celF r5 (stl b5 rn0 rn0 rx0 b5w wn0 wn0 b5g gn0 gn0 rt0), ansSF b5 b5w b5g rn0 wn0 gn0 R0 L0 G0, celF w.heap.size (stl ra0 rn0 rc0 rx0 wa0 wn0 wc0 ga0 gn0 gc0 rt0), argSF w.heap.size ra0 rn0 wa0 wn0 ga0 gn0 R0 L0 G0]) := fun w' h => h.2.2.2.2.2.2.2.2.2.2.2.2.2.2.2.2.2.2.2.2
    have F0 := hid_mk H.out.drew
    clear H
    go_region_held3 (fun w' => w'.cell? ⟨r5, 0, none⟩ = some (.slice b5 rn0 rn0) ∧ w'.cell? ⟨r5, 1, none⟩ = some (.int .i64 rx0.n) ∧ w'.cell? ⟨r5, 2, none⟩ = some (.bool rx0.i) ∧ w'.cell? ⟨r5, 3, none⟩ = some (.int .i64 rx0.b) ∧ w'.cell? ⟨r5, 4, none⟩ = some (.int .i64 rx0.t) ∧ w'.cell? ⟨r5, 5, none⟩ = some (.int .i64 rx0.p) ∧ w'.cell? ⟨r5, 6, none⟩ = some (.int .i64 rx0.s) ∧ w'.cell? ⟨r5, 7, none⟩ = some (.slice b5w wn0 wn0) ∧ w'.cell? ⟨r5, 8, none⟩ = some (.slice b5g gn0 gn0) ∧ w'.cell? ⟨r5, 9, none⟩ = some (.int .i64 rt0) ∧ w'.cell? ⟨w.heap.size, 0, none⟩ = some (.slice ra0 rn0 rc0) ∧ w'.cell? ⟨w.heap.size, 1, none⟩ = some (.int .i64 rx0.n) ∧ w'.cell? ⟨w.heap.size, 2, none⟩ = some (.bool rx0.i) ∧ w'.cell? ⟨w.heap.size, 3, none⟩ = some (.int .i64 rx0.b) ∧ w'.cell? ⟨w.heap.size, 4, none⟩ = some (.int .i64 rx0.t) ∧ w'.cell? ⟨w.heap.size, 5, none⟩ = some (.int .i64 rx0.p) ∧ w'.cell? ⟨w.heap.size, 6, none⟩ = some (.int .i64 rx0.s) ∧ w'.cell? ⟨w.heap.size, 7, none⟩ = some (.slice wa0 wn0 wc0) ∧ w'.cell? ⟨w.heap.size, 8, none⟩ = some (.slice ga0 gn0 gc0) ∧ w'.cell? ⟨w.heap.size, 9, none⟩ = some (.int .i64 rt0) ∧ Hid (Hold w w' [celF r5 (stl b5 rn0 rn0 rx0 b5w wn0 wn0 b5g gn0 gn0 rt0), ansSF b5 b5w b5g rn0 wn0 gn0 R0 L0 G0, celF w.heap.size (stl ra0 rn0 rc0 rx0 wa0 wn0 wc0 ga0 gn0 gc0 rt0), argSF w.heap.size ra0 rn0 wa0 wn0 ga0 gn0 R0 L0 G0]))
      (first | (with_reducible assumption) | (((with_reducible refine ALL.out _ ?_); (first | (with_reducible exact F0.out) | ((with_reducible apply Hold.next ?_ K8.out); (with_reducible exact GET.out _ (by with_reducible assumption))) | ((with_reducible apply Hold.next ?_ K9.out); (with_reducible exact GET.out _ (by with_reducible assumption))) | fail))))
      (first
        | (go_at_call 21; refine (toState_ans _ _ _ _ _ _ _ _ _ _ _ R0 L0 G0 _ hn0 hn1 hn2 ((GET.out _ (by with_reducible assumption)).argS (.tail _ (.tail _ (.tail _ (.head _)))))).mono ?_; rintro e w8 ⟨b8, b8w, b8g, rfl, A8, _, hb8⟩; have K8 := hid_mk hb8; have A8 := hid_mk A8; clear hb8)
        | (go_at_call 23; refine (eqState_same _ _ _ _ _ _ _ _ _ _ _ _ _ _ _ _ _ R0 L0 G0 _ ((((GET.out _ (by with_reducible assumption)).ansS (.tail _ (.head _)))).sts hn0 hn1 hn2) (A8.out.sts hn0 hn1 hn2)).mono ?_; rintro e w9 ⟨rfl, hb9⟩; have K9 := hid_mk hb9; clear hb9))
    have B := hid_mk (GET.out _ (by with_reducible assumption)).bel
    go_wp2
    go_ret
    exact ⟨rfl, B.out⟩
  · simp only [if_neg hl] at sz
    have SZ := hid_mk sz
    clear sz
    go_enter Try.func6, Try.ntmps6
    go_wp2_with fail
    refine (SZ.out _).mono ?_
    rintro e w2 ⟨rfl, hb2⟩
    have B := hid_mk (((Below.refl w.heap.size w).alloc (Nat.le_refl _) _).trans (hb2.mono (by simp)))
    clear hb2
    go_wp2
    go_ret
    exact ⟨rfl, B.out⟩

set_option maxRecDepth 100000 in
theorem lifted (os : Os) (started : os.Started) (H : Type) (enc : TypeId × Value → H) :
    ReturnsInHanded {} Try.checked os 6 .any (Rows.fnExactStateOkSpec.pre6 enc Try.prog Try.f6 Rows.fnExactStateOkRow.domain false) (Rows.fnExactStateOkSpec.post enc Try.prog Try.f6 false true false false) := by
  refine returnsInHanded_of_change (C := Try.checked) own started (by kernel_rfl) Try.func6
    (ChangeSpec.witness6 (enc := enc) (C := Try.checked) false ⟨#[], #[.agg #[.slice none 0 0, .int .i64 0, .bool false, .int .i64 0, .int .i64 0, .int .i64 0, .int .i64 0, .slice none 0 0, .slice none 0 0, .int .i64 0]], []⟩ 8 (by kernel_rfl) (by kernel_rfl) (by kernel_rfl) (by kernel_rfl)) ?_
  intro W base args ds gs before hval0 hW hcnd _
  have hval : ∀ (j : Nat) t v, Try.f6.params[j]? = some t → args[j]? = some v → Value.okWide Try.prog W .any base t v := hval0
  have hW' := hW
  obtain ⟨p, q, hA0, hV, rfl, hfz, hnd⟩ := hW
  have hA : DataW.TrodAll enc Try.prog W 0 (fun _ => true) true Try.f6.params.toList args.toList ds p := hA0
  rw [Try.params6] at hA hval
  obtain ⟨v0, vs0, d0, ds0, p0, q0, hargs, rfl, rfl, h0, r0⟩ := trodAll_cons hA
  obtain ⟨rfl, rfl, rfl⟩ := trodAll_nil r0
  obtain rfl : args = #[v0] := by cases args; simp_all
  obtain ⟨rfl, rfl⟩ := trodVars_none hV
  have k0 := h0
  have lt0 : ∀ x ∈ p0, x.block < W.heap.size := by obtain ⟨m, hm⟩ := k0; exact DataW.trod_lt m _ _ _ hm
  obtain ⟨ra0, rn0, rc0, rx0, wa0, wn0, wc0, ga0, gn0, gc0, rt0, R0, L0, G0, rfl, hS0⟩ := open_state (hval 0 42 v0 rfl rfl) h0
  clear hA0 hval0
  refine (walk ra0 rn0 rc0 rx0 wa0 wn0 wc0 ga0 gn0 gc0 rt0 R0 L0 G0 W hS0).mono fun e W' ⟨he, bel⟩ => ?_
  subst he
  exact ⟨_, rfl, _, _, _, [], _, [], hW', trodAll_mk1 (shut_bool Try.underlying4 _), (trodAll_cons_mk (Below.trod laidOut (by kernel_rfl) (of_decide_eq_true (by kernel_rfl)) k0 bel lt0) trodAll_mk0), rfl, bel.frame _, fun h => by cases h⟩

theorem proved : Rows.FnExactStateOkSaid :=
  OpenClaim.holds_of_wide 6 Try.f6 rfl rfl rfl rfl rfl rfl rfl ⟨rfl, rfl, rfl, rfl, rfl⟩ rfl rfl rfl rfl rfl (by kernel_rfl) Try.func6 (by kernel_rfl)
    (of_decide_eq_true (by kernel_rfl)) (by unfold Func.isWrapper; first | (rw [if_pos (by decide +kernel)]; kernel_rfl) | (rw [if_neg (by decide +kernel)]; exact ⟨rfl, rfl⟩))
    (fun os started H enc _ => lifted os started H enc)
end Go.Proofs.Ytfeoaegkhbjaeaa.fnExactStateOk

namespace Go.Proofs.Ytfeoaegkhbjaeaa
/-- For every State StateOk of the program answers as the specification's StateOk, leaves the state as it was, and the law returns true; states of more than 2^20 elements the law passes by. No condition. -/
theorem fnExactStateOk_holds : Rows.FnExactStateOkSaid := fnExactStateOk.proved
#print axioms fnExactStateOk_holds
end Go.Proofs.Ytfeoaegkhbjaeaa
