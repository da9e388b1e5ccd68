/- For every Core whose reading is of bulk at most 1048576 CoreOk of the program answers as the specification's CoreOk, leaves the core as it was, and the law returns true. -/
import Derived.Test.YtneohabkoighcaaRows
import Derived.Test.YtneohabkoighcaaQE
import Derived.Test.YtneohabkoighcaaQF
import Derived.Test.YtneohabkoighcaaQD
import Derived.WalkKit
import Derived.ProofKit
import Derived.OpenShut
import Derived.JoinedCond
import Derived.Lib.SmallJoins
import Derived.ChangeOld
import Derived.Below
import Derived.Deep.Slices
import Derived.Deep.Strs
namespace Go.Proofs.Ytneohabkoighcaa.fnExactCoreOk
open Go.ChangeShapes Go.WideShapes Go.ChangeAt Go.RowKit Go.Joins Go.Deep

theorem own : ownKnob Try.prog.godebug = none := by kernel_rfl
theorem laidOut : laidOutB Try.prog = true := by kernel_rfl

set_option maxRecDepth 100000 in
set_option maxHeartbeats 8000000 in
theorem walk (v : Cv) (a : Ca) (r : Cr) (w : World) (hS0 : CoS w v a r) (hen0 : v.en ≤ 262144) :
    Calls Try.prog 3 #[.agg (col v a).toArray] w fun e w' => e = .returned (.bool true) ∧ Below w.heap.size w w' := by
  have sz := szCore_at v a 1048576 (by decide) (by decide) hS0.st.rs.1 hS0.st.mem.ws.1 hS0.st.mem.gs.1 hS0.es.1 hS0.js.1
  have H : Hid (Hold w (w.alloc (.cells (col v a).toArray 35)) [celF w.heap.size (col v a), argCF w.heap.size v a r]) := ((Hold.new w).push (argCF w.heap.size v a r) hS0.arg).box (col v a) 35 w.heap.size rfl
  by_cases hl : (v.rn : Int) + (v.wn : Int) + (v.gn : Int) + (v.en : Int) + (v.jn : Int) ≤ 1048576
  · obtain ⟨m, hm, hm0⟩ : ∃ m : Int, Hid (m = 1048576 - (v.rn : Int) - (v.wn : Int) - (v.gn : Int) - (v.en : Int) - (v.jn : Int)) ∧ 0 ≤ m := ⟨_, rfl, by omega⟩
    simp only [if_pos hl, ← hm.out] at sz
    have SZ := hid_mk sz
    have hv : CvB v := ⟨by omega, by omega, by omega, hen0, by omega⟩
    clear sz hS0 hl hm
    generalize hw1 : w.alloc (.cells (col v a).toArray 35) = w1 at H
    go_enter Try.func3, Try.ntmps3
    go_upto_region 2 with fail
    clear hw1
    have RC := hid_mk (H.out.cel (.head _)).range
    go_upto_region 3 with (first | (refine wpList_load_mid (by rfl) 35 _ (by rfl) w.heap.size 0 (by rfl) (col v a) _ RC.out Try.underlying35 rfl sizeCorL ?_) | (go_at_call 6; refine (SZ.out _).mono ?_; rintro e w2 ⟨rfl, hb⟩))
    replace H := hid_mk (H.out.next hb)
    clear hb RC SZ
    have RC := hid_mk (H.out.cel (.head _)).range
    go_upto_region 6 with (first | (refine wpList_load_mid (by rfl) 35 _ (by rfl) w.heap.size 0 (by rfl) (col v a) _ RC.out Try.underlying35 rfl sizeCorL ?_) | (go_at_call 8; refine (toCore_ans v a r _ hv (H.out.argC (.tail _ (.head _)))).mono ?_; rintro e w3 ⟨a3, rfl, A3, _, _, hb⟩; replace H := hid_mk ((H.out.next hb).push (ansCF v a3 r) A3); clear hb A3) | (go_at_call 7; refine (specCoreOk_any v a3 r _ ((H.out.ansC (.head _)).cos hv)).mono ?_; rintro e w4 ⟨rfl, hb⟩; replace H := hid_mk ((H.out.next hb).tail); clear hb))
    clear RC
    have RC := hid_mk (H.out.cel (.head _)).range
    go_upto_region 7 with (first | (refine wpList_load_mid (by rfl) 35 _ (by rfl) w.heap.size 0 (by rfl) (col v a) _ RC.out Try.underlying35 rfl sizeCorL ?_) | (go_at_call 8; refine (toCore_ans v a r _ hv (H.out.argC (.tail _ (.head _)))).mono ?_; rintro e w5 ⟨a5, rfl, A5, C5, _, hb⟩; replace H := hid_mk ((H.out.next hb).push (ansCF v a5 r) A5); clear hb A5; have C0 := hid_mk (Cel.new w5 [.slice none 0 0, .int .i64 0, .bool false, .int .i64 0, .int .i64 0, .int .i64 0, .int .i64 0, .slice none 0 0, .slice none 0 0, .int .i64 0, .slice none 0 0, .int .i64 0, .bool false, .int .i64 0, .int .i64 0, .int .i64 0, .int .i64 0, .bool false, .slice none 0 0] 48); have TH := hid_mk C0.out.there) | (refine wpList_store_mid (by rfl) 48 _ _ (by rfl) w5.heap.size 0 (col v a5).toArray (by rfl) (by rfl) TH.out sizeCor (col_one v a5) ?_))
    have hb0 := below_sets (col v a5) ((Below.refl _ w5).alloc (Nat.le_refl _) (.cells ([.slice none 0 0, .int .i64 0, .bool false, .int .i64 0, .int .i64 0, .int .i64 0, .int .i64 0, .slice none 0 0, .slice none 0 0, .int .i64 0, .slice none 0 0, .int .i64 0, .bool false, .int .i64 0, .int .i64 0, .int .i64 0, .int .i64 0, .bool false, .slice none 0 0] : List Value).toArray 48)) (Nat.le_refl _)
    replace H := hid_mk ((H.out.next hb0).push (celF w5.heap.size (col v a5)) (C0.out.sets (us := col v a5) rfl))
    clear hb0 RC C0 TH
    generalize (w5.alloc (.cells ([.slice none 0 0, .int .i64 0, .bool false, .int .i64 0, .int .i64 0, .int .i64 0, .int .i64 0, .slice none 0 0, .slice none 0 0, .int .i64 0, .slice none 0 0, .int .i64 0, .bool false, .int .i64 0, .int .i64 0, .int .i64 0, .int .i64 0, .bool false, .slice none 0 0] : List Value).toArray 48)).setCells w5.heap.size 0 (col v a5) = w6 at H ⊢
    generalize w5.heap.size = r5 at H ⊢
    have RX := hid_mk (H.out.cel (.head _)).range
    go_upto_region 8 with (first | (refine wpList_load_mid (by rfl) 48 _ (by rfl) r5 0 (by rfl) (col v a5) _ RX.out Try.underlying48 rfl sizeCor ?_) | (go_at_call 9; refine (implCoreOk_any v a5 r _ ((H.out.ansC (.tail _ (.head _))).cos hv)).mono ?_; rintro e w7 ⟨rfl, hb⟩))
    replace H := hid_mk (H.out.next hb)
    clear hb RX
    generalize cokC v r = y
    have hy : (y != y) = false := by simp
    go_upto_region 10 with fail
    clear hy
    have D0 := hid_mk H.out.drew
    refine wp_region_held_drew (S := fun w' => Hold w w' [celF r5 (col v a5), ansCF v a5 r, celF w.heap.size (col v a), argCF w.heap.size v a r]) (by kernel_rfl) D0.out (fun hHeld => ?_)
    generalize (World.drew _) = wd at D0 hHeld ⊢
    clear H
    refine take_on (i := 0) (d := 22) (v := .agg (col v a5).toArray) rfl rfl (by kernel_rfl) (by kernel_rfl) (by kernel_rfl) (fun _ _ _ h => h) (by rfl) ?_ hHeld ?_
    · exact fun w' hSw => exec_ldm (by rfl) (by rfl) ((show Hold w w' [celF r5 (col v a5), ansCF v a5 r, celF w.heap.size (col v a), argCF w.heap.size v a r] from hSw).cel (.head _)).range Try.underlying48 rfl sizeCor
    (try simp only [Act.put]); (try simp only [List.setIfInBounds_toArray]); (try simp only [List.set_cons_succ]); (try simp only [List.set_cons_zero]); (try simp only [List.set_cons_succ]); (try simp only [List.set_cons_zero]); (try simp only [Nat.zero_add])
    refine take_on (i := 1) (d := 23) (v := .agg (col v a).toArray) rfl rfl (by kernel_rfl) (by kernel_rfl) (by kernel_rfl) (fun _ _ _ h => h) (by rfl) ?_ hHeld ?_
    · exact fun w' hSw => exec_ldm (by rfl) (by rfl) ((show Hold w w' [celF r5 (col v a5), ansCF v a5 r, celF w.heap.size (col v a), argCF w.heap.size v a r] from hSw).cel (.tail _ (.tail _ (.head _)))).range Try.underlying35 rfl sizeCorL
    (try simp only [Act.put]); (try simp only [List.setIfInBounds_toArray]); (try simp only [List.set_cons_succ]); (try simp only [List.set_cons_zero]); (try simp only [List.set_cons_succ]); (try simp only [List.set_cons_zero]); (try simp only [Nat.zero_add])
    refine wpAnyH_ready (rs := [2]) (by kernel_rfl) (by simp) ?_
    refine AllReadyH.cons rfl (fun K hK => ?_) AllReadyH.nil
    go_simp
    refine (toCore_ans v a r _ hv (D0.out.argC (.tail _ (.tail _ (.tail _ (.head _)))))).mono ?_
    rintro e w8 ⟨a8, rfl, A8, _, _, hb⟩
    have H3 := hid_mk ((D0.out.next hb).push (ansCF v a8 r) A8)
    clear hb A8
    refine hK.out _ _ H3.out.tail (fun hHeld => ?_)
    clear hK K
    (try simp only [Act.put]); (try simp only [List.setIfInBounds_toArray]); (try simp only [List.set_cons_succ]); (try simp only [List.set_cons_zero]); (try simp only [List.set_cons_succ]); (try simp only [List.set_cons_zero]); (try simp only [Nat.zero_add])
    refine wpAnyH_ready (rs := [3]) (by kernel_rfl) (by simp) ?_
    refine AllReadyH.cons rfl (fun K hK => ?_) AllReadyH.nil
    go_simp
    refine (eqCore_same v a5 a8 r _ ((H3.out.ansC (.tail _ (.tail _ (.head _)))).cos hv) ((H3.out.ansC (.head _)).cos hv)).mono ?_
    rintro e w9 ⟨rfl, hb⟩
    have H4 := hid_mk (H3.out.next hb).tail
    clear hb
    refine hK.out _ _ H4.out (fun hHeld => ?_)
    clear hK K
    (try simp only [Act.put]); (try simp only [List.setIfInBounds_toArray]); (try simp only [List.set_cons_succ]); (try simp only [List.set_cons_zero]); (try simp only [List.set_cons_succ]); (try simp only [List.set_cons_zero]); (try simp only [Nat.zero_add])
    refine take_on (i := 4) (d := 26) (v := .bool false) rfl rfl (by kernel_rfl) (by kernel_rfl) (by kernel_rfl) (fun _ _ _ h => h) (by rfl) ?_ hHeld ?_
    · (intro w' hSw; go_simp)
    (try simp only [Act.put]); (try simp only [List.setIfInBounds_toArray]); (try simp only [List.set_cons_succ]); (try simp only [List.set_cons_zero]); (try simp only [List.set_cons_succ]); (try simp only [List.set_cons_zero]); (try simp only [Nat.zero_add])
    refine wpAnyH_done (by kernel_rfl) ?_ _
    clear hHeld
    try dsimp only
    have B := hid_mk H4.out.bel
    clear H4 H3 D0
    go_wp2
    go_ret
    exact ⟨rfl, B.out⟩
  · simp only [if_neg hl] at sz
    have SZ := hid_mk sz
    clear sz hS0 hl
    generalize hw1 : w.alloc (.cells (col v a).toArray 35) = w1 at H
    go_enter Try.func3, Try.ntmps3
    go_upto_region 2 with fail
    clear hw1
    have RC := hid_mk (H.out.cel (.head _)).range
    go_upto_region 3 with (first | (refine wpList_load_mid (by rfl) 35 _ (by rfl) w.heap.size 0 (by rfl) (col v a) _ RC.out Try.underlying35 rfl sizeCorL ?_) | (go_at_call 6; refine (SZ.out _).mono ?_; rintro e w2 ⟨rfl, hb⟩))
    have B := hid_mk (H.out.next hb).bel
    clear hb RC SZ H
    go_wp2
    go_ret
    exact ⟨rfl, B.out⟩

set_option maxRecDepth 100000 in
theorem contract (H : Type) (enc : TypeId × Value → H) (W : World) (base : Nat) (args : Array Value) (ds gs : List (DataW H)) (before : List MemPlace)
    (hval0 : ∀ (j : Nat) t v, Try.f3.params[j]? = some t → args[j]? = some v → Value.okWide Try.prog W .any base t v)
    (hW : DataW.Whole enc Try.prog Try.f3.params.toList Rows.fnExactCoreOkSpec.vars false W args.toList ds gs before) (hk : Rows.uptoSmall H (ds ++ gs) = true) :
    Calls Try.prog 3 args W fun e W' => ∃ v, e = .returned v ∧ Rows.fnExactCoreOkSpec.post enc Try.prog Try.f3 false true false false W args v W' := by
  have hval : ∀ (j : Nat) t v, Try.f3.params[j]? = some t → args[j]? = some v → Value.okWide Try.prog W .any base t v := hval0
  have hW' := hW
  obtain ⟨p, q, hA0, hV, rfl, hfz, hnd⟩ := hW
  have hA : DataW.TrodAll enc Try.prog W 0 (fun _ => true) true Try.f3.params.toList args.toList ds p := hA0
  rw [Try.params3] at hA hval
  obtain ⟨v0, vs0, d0, ds0, p0, q0, hargs, rfl, rfl, h0, r0⟩ := trodAll_cons hA
  obtain ⟨rfl, rfl, rfl⟩ := trodAll_nil r0
  obtain rfl : args = #[v0] := by cases args; simp_all
  obtain ⟨rfl, rfl⟩ := trodVars_none hV
  have hbulk : Rows.uptoBulkAll ([d0] ++ []) ≤ 1048576 := of_decide_eq_true hk
  have hb0 := Nat.le_trans (bulk_part (d := d0) (l := [d0] ++ []) (by simp)) hbulk
  have k0 := h0
  have lt0 : ∀ x ∈ p0, x.block < W.heap.size := by obtain ⟨m, hm⟩ := k0; exact DataW.trod_lt m _ _ _ hm
  obtain ⟨cv0, ca0, cr0, rfl, hS0, hbk0⟩ := open_core (hval 0 35 v0 rfl rfl) h0
  clear hA0 hval0 hbulk hk
  refine (walk cv0 ca0 cr0 W hS0 (by omega)).mono fun e W' ⟨he, bel⟩ => ?_
  subst he
  exact ⟨_, rfl, _, _, _, [], _, [], hW', trodAll_mk1 (shut_bool Try.underlying4 _), (trodAll_cons_mk (Below.trod laidOut (by kernel_rfl) (of_decide_eq_true (by kernel_rfl)) k0 bel lt0) trodAll_mk0), rfl, bel.frame _, fun h => by cases h⟩

set_option maxRecDepth 100000 in
theorem lifted (os : Os) (started : os.Started) (H : Type) (enc : TypeId × Value → H) (F : Stop.Interp) :
    ReturnsInHanded {} Try.checked os 3 .any ((Rows.OpenSpec.upto Rows.fnExactCoreOkSpec).pre6 enc Try.prog Try.f3 Rows.fnExactCoreOkUptoRow.domain false) (((Rows.OpenSpec.upto Rows.fnExactCoreOkSpec).at F).post enc Try.prog Try.f3 false true false false) := by
  refine returnsInHanded_of_cond (C := Try.checked) (s := Rows.OpenSpec.upto Rows.fnExactCoreOkSpec) (k := Rows.uptoSmall) rfl own started (by kernel_rfl) Try.func3
    (OpenSpec.witness (enc := enc) (C := Try.checked) (s := Rows.OpenSpec.upto Rows.fnExactCoreOkSpec) (k := Rows.uptoSmall) rfl false ⟨#[], #[.agg #[.slice none 0 0, .int .i64 0, .bool false, .int .i64 0, .int .i64 0, .int .i64 0, .int .i64 0, .slice none 0 0, .slice none 0 0, .int .i64 0, .slice none 0 0, .int .i64 0, .bool false, .int .i64 0, .int .i64 0, .int .i64 0, .int .i64 0, .bool false, .slice none 0 0]], []⟩ 8 (by kernel_rfl) (by kernel_rfl) (by kernel_rfl)
      (x := ([.agg [.agg [.nil, .agg [.lit (.int .i64 0), .lit (.bool false), .agg [.lit (.int .i64 0), .lit (.int .i64 0), .lit (.int .i64 0), .lit (.int .i64 0)]], .agg [.nil, .nil], .lit (.int .i64 0)], .nil, .agg [.lit (.int .i64 0), .lit (.bool false), .agg [.lit (.int .i64 0), .lit (.int .i64 0), .lit (.int .i64 0), .lit (.int .i64 0)]], .lit (.bool false), .nil]], [], [])) (by kernel_rfl) rfl (by kernel_rfl)) ?_
  intro W base args ds gs before hval hW _ hk _
  exact contract H enc W base args ds gs before hval hW hk

theorem proved : Rows.FnExactCoreOkUptoSaid :=
  OpenClaim.holds_of_cond 3 Try.f3 rfl rfl rfl rfl rfl rfl rfl ⟨rfl, rfl, rfl, rfl, rfl⟩ rfl rfl rfl rfl rfl (by kernel_rfl) Try.func3 (by kernel_rfl)
    (of_decide_eq_true (by kernel_rfl)) (by unfold Func.isWrapper; first | (rw [if_pos (by decide +kernel)]; kernel_rfl) | (rw [if_neg (by decide +kernel)]; exact ⟨rfl, rfl⟩))
    (fun os started H enc _ F => lifted os started H enc F)
end Go.Proofs.Ytneohabkoighcaa.fnExactCoreOk

namespace Go.Proofs.Ytneohabkoighcaa
/-- For every Core whose reading is of bulk at most 1048576 CoreOk of the program answers as the specification's CoreOk, leaves the core as it was, and the law returns true. -/
theorem fnExactCoreOk_holds : Rows.FnExactCoreOkUptoSaid := fnExactCoreOk.proved
#print axioms fnExactCoreOk_holds
end Go.Proofs.Ytneohabkoighcaa
